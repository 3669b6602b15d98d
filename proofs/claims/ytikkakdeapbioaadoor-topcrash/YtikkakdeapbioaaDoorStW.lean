/- store.write: a text on sectors, for good. -/
import Derived.Test.YtikkakdeapbioaaDoorStCut
import Derived.Test.YtikkakdeapbioaaDoorLogNev
set_option linter.unusedVariables false
set_option linter.unusedSimpArgs false
set_option linter.unnecessarySimpa false
namespace Go.Proofs.YtikkakdeapbioaaDoor
open Go.RowKit Go.Shelf
attribute [local go_sem] Oper.semAt_some

theorem own_cells {w : World} {base : Nat} {e : TypeId} {size : Nat} {v : Value} {n : Nat} {xs : List Value} (h : w.ownsRow base e size v n xs) {k : Nat} (hk : v.ownBlock = some k) : ∃ o, w.heap[k]? = some o ∧ o.isCells = true := by
  rcases h.2 with ⟨rfl, -⟩ | ⟨g, cap, cur, rfl, -, hg, -⟩
  · cases hk
  · obtain rfl : g = k := by simpa [Value.ownBlock] using hk
    exact ⟨_, hg, rfl⟩
/-- a disk's blocks are cells -/
theorem DkO.cells {w : World} {B : Nat → Prop} {p : Nat} {d : Dk} (h : DkO w B p d) {k : Nat} (hk : B k) : ∃ o, w.heap[k]? = some o ∧ o.isCells = true := by
  obtain ⟨b1, b2, v, h, rfl⟩ := h
  rcases hk with rfl | rfl | rfl | hk
  · exact ⟨_, h.hp, rfl⟩
  · exact ⟨_, h.h1, rfl⟩
  · exact ⟨_, h.h2, rfl⟩
  · exact own_cells h.ho hk
theorem DkO.keeps {w w' : World} {B B' : Nat → Prop} {p : Nat} {d : Dk} (h : DkO w B p d) (ht : Tr B B' w w') : KeepsOthers w w' :=
  ⟨ht.size, fun k o hk ho => by
    rw [ht.block k (heap_lt hk) (fun hb => by obtain ⟨o', h1, h2⟩ := h.cells hb; rw [hk] at h1; cases h1; rw [ho] at h2; cases h2)]; exact hk⟩
/-- a turn of what is no cells leaves a disk -/
theorem DkO.turn {w w' : World} {B : Nat → Prop} {p : Nat} {d : Dk} (h : DkO w B p d) {row : Option Nat} (hg : w.grownBy w' row) (hr : ∀ r, row = some r → ∃ o : Obj, w.heap[r]? = some o ∧ o.isCells = false) : DkO w' B p d :=
  h.same (fun k hk => hg.block k (h.lt k hk) (fun e => by
    obtain ⟨o, h1, h2⟩ := h.cells hk
    obtain ⟨o', h3, h4⟩ := hr k e.symm
    rw [h1] at h3; cases h3; rw [h2] at h4; cases h4))
theorem Tr.turn {B B' : Nat → Prop} {w w1 w' : World} (h : Tr B B' w w1) {row : Option Nat} (hg : w1.grownBy w' row) (hr : ∀ r, row = some r → w.heap.size ≤ r) : Tr B B' w w' := h.newrow hg hr
set_option maxHeartbeats 1000000 in
theorem cut_any (t : ByteArray) (g : Nat) (w : World) :
    Calls Tryd.prog 64 #[.string t, .func (.func g) #[] #[]] w fun e w' => e = .returned (.func (.func 85) #[] #[.pointer (some ⟨w.heap.size, 0, none⟩), .pointer (some ⟨w.heap.size + 1, 0, none⟩)]) ∧ w' = (w.alloc (.cells #[.string t] 9)).alloc (.cells #[.func (.func g) #[] #[]] 95) := by
  go_enter Tryd.func64, Tryd.ntmps64
  go_wp2
  go_ret
  exact ⟨rfl, rfl⟩
/-- a piece -/
abbrev Pc := { x : ByteArray // 1 ≤ x.size ∧ x.size ≤ 100000 }
def raw (l : List Pc) : List ByteArray := l.map (·.1)
theorem raw_snoc (l : List Pc) (x : Pc) : raw (l ++ [x]) = raw l ++ [x.1] := by simp [raw]
theorem raw_len (l : List Pc) : (raw l).length = l.length := by simp [raw]
theorem cut_stops (n : Nat) (hn : 1 ≤ n) (g : Nat) (eg : ∀ args w, (callFunc g args).run Tryd.prog w = .ok (.enter g args) w) (f : ByteArray → Nat) (M : Nat) (hM : M ≤ 100000) (hf : ∀ r, r.size ≤ M → 1 ≤ f r ∧ f r ≤ 100000) (hg : LongP M g f) (Bt Bl : Nat) (t : ByteArray) (ht : t.size ≤ M) (w : World)
    (hBt : w.cell? ⟨Bt, 0, none⟩ = some (.string t)) (hBl : w.cell? ⟨Bl, 0, none⟩ = some (.func (.func g) #[] #[])) (hlt : Bt < w.heap.size) (hlt2 : Bl < w.heap.size) :
    SeqStopsK Fence.wide n Tryd.prog 85 #[.pointer (some ⟨Bt, 0, none⟩), .pointer (some ⟨Bl, 0, none⟩)] (fun x : Pc => #[Value.string x.1]) (KpC Bl) (fun ys => raw ys = pcs f t.size t) (fun pre => raw pre <+: pcs f t.size t) (pcs f t.size t).length w :=
  fun l J Jx W hW hJ hJx hY h0 => by
    refine (cut1_in n hn g eg f M hM hf hg l Bt Bl t ht (fun r W => ∃ s : List Pc, raw s = r ∧ J s W) (fun r W => ∃ s : List Pc, raw s = r ∧ Jx s W) W (fun r W W' row hs hg hr => by obtain ⟨s, h1, h2⟩ := hs; exact ⟨s, h1, hJ s W W' row h2 hg hr⟩) ?_ ((hW.cell (p := ⟨Bt, 0, none⟩) hlt).trans hBt) ((hW.cell (p := ⟨Bl, 0, none⟩) hlt2).trans hBl) (Nat.lt_of_lt_of_le hlt2 hW.size) ⟨[], rfl, h0⟩).mono ?_
    · rintro pre x W1 hx ⟨s, rfl, hj⟩ hl
      rw [raw_len] at hl
      exact (hY s ⟨x, by omega⟩ W1 hj hl).mono (fun e W' hh => by
        rcases hh with ⟨h1, h2, h3⟩ | ⟨h1, h2⟩
        · exact .inl ⟨h1, ⟨_, raw_snoc _ _, h2⟩, h3⟩
        · exact .inr ⟨h1, ⟨_, raw_snoc _ _, h2⟩⟩)
    · rintro e W' ⟨h1, h2⟩
      refine ⟨h1, ?_⟩
      rcases h2 with ⟨ys, hy, s, h3, h4⟩ | ⟨pre, hp, s, h3, h4⟩
      · exact .inl ⟨s, h3.trans hy, h4⟩
      · exact .inr ⟨s, by show raw s <+: _; rw [h3]; exact hp, h4⟩
theorem kpc_b {Bl : Nat} {w : World} (hl : Bl < w.heap.size) (W : World) (l : Nat) (o o' : Obj) (h1 : w.heap.size ≤ l) (h2 : W.heap[l]? = some o) (h3 : o.isCells = false) (h4 : o.isWalk = false) : KpC Bl W (W.putObj l o') :=
  ⟨World.cell?_of_block (a := ⟨Bl, 0, none⟩) (World.putObj_heap_other (fun e => by dsimp only at e; omega)), by simp⟩
theorem kpc_t {Bl : Nat} {A B C : World} (h : KpC Bl A B) (k : KpC Bl B C) : KpC Bl A C := ⟨k.1.trans h.1, Nat.le_trans h.2 k.2⟩
theorem long48 : LongP 100000 75 (fun _ => 48) := fun r W _ _ => by
  go_enter Tryd.func75, Tryd.ntmps75
  go_wp2
  go_ret
  exact ⟨rfl, Below.refl _ _⟩
/-- a text's pieces, each as long as a sector -/
def chunks (t : ByteArray) : List ByteArray := pcs (fun _ => 48) t.size t
theorem pcs_small (f : ByteArray → Nat) (m : Nat) (hf : ∀ r, f r ≤ m) : ∀ (n : Nat) (r : ByteArray), ∀ s ∈ pcs f n r, s.size ≤ m
  | 0, r => by intro s hs; simp [pcs] at hs
  | n + 1, r => by
    intro s hs
    unfold pcs at hs
    split at hs
    · simp at hs
    · rcases List.mem_cons.1 hs with rfl | hs
      · have := hf r; rw [ByteArray.size_extract]; omega
      · exact pcs_small f m hf n _ s hs
theorem lwrs_snoc (s : ByteArray) : ∀ (l : List ByteArray) (d : Dk) (a : Nat), (lwrs d a l).2 = 0 → lwrs d a (l ++ [s]) = if wrC (lwrs d a l).1 ((a + l.length : Nat) : Int) s = 0 then (wrR (lwrs d a l).1 ((a + l.length : Nat) : Int) s, 0) else (wrR (lwrs d a l).1 ((a + l.length : Nat) : Int) s, wrC (lwrs d a l).1 ((a + l.length : Nat) : Int) s)
  | [], d, a, _ => by by_cases h : wrC d (a : Int) s = 0 <;> simp [lwrs, h]
  | x :: l, d, a, h => by
    unfold lwrs at h
    split at h
    · rename_i hx
      have ih := lwrs_snoc s l _ _ h
      have e : ∀ r, lwrs d a (x :: r) = lwrs (wrR d a x) (a + 1) r := fun r => by
        conv => lhs; unfold lwrs
        rw [if_pos hx]
      rw [List.cons_append, e, e, ih, List.length_cons, show a + 1 + l.length = a + (l.length + 1) by omega]
    · rename_i hx; exact absurd h hx
theorem lwrs_pre : ∀ (l m : List ByteArray) (d : Dk) (a : Nat), (lwrs d a l).2 ≠ 0 → lwrs d a (l ++ m) = lwrs d a l
  | [], m, d, a, h => absurd rfl h
  | x :: l, m, d, a, h => by
    unfold lwrs at h
    rw [List.cons_append]
    unfold lwrs
    split at h
    · rename_i hx
      rw [if_pos hx, if_pos hx, lwrs_pre l m _ _ h]
    · rename_i hx
      rw [if_neg hx, if_neg hx]
theorem Bx.tr {B B' : Nat → Prop} {w w' : World} {b : Nat} {vs : List Value} (h : Bx w b vs) (ht : Tr B B' w w') (hn : ¬ B b) : Bx w' b vs := by
  obtain ⟨h1, _, h3⟩ := ht.out h.1 hn
  exact ⟨h1, fun j u hj => ⟨(World.cell?_of_block (a := ⟨b, j, none⟩) h3).trans (h.2 j u hj).1, (World.frozen?_of_block (a := ⟨b, j, none⟩) h3).trans (h.2 j u hj).2⟩⟩
theorem Bx.turn {w w' : World} {b : Nat} {v : Value} (h : Bx w b [v]) {row : Option Nat} (hg : w.grownBy w' row) (hr : ∀ r, row = some r → ∃ o : Obj, w.heap[r]? = some o ∧ o.isCells = false) : Bx w' b [v] :=
  ⟨Nat.lt_of_lt_of_le h.1 hg.size, fun j u hj => ⟨cell_kept (h.2 j u hj).1 hg hr, by
    have h0 := (h.2 0 v rfl).1
    have hj0 : j = 0 := by
      cases j with
      | zero => rfl
      | succ j => simp at hj
    subst hj0
    exact (frozen_kept h0 hg hr).trans (h.2 0 u hj).2⟩⟩
theorem Bx.one {w : World} {b : Nat} {v : Value} (h : Bx w b [v]) : w.cell? ⟨b, 0, none⟩ = some v ∧ w.frozen? ⟨b, 0, none⟩ = false := h.2 0 v rfl
/-- between two sectors -/
def WtI (B : Nat → Prop) (p : Nat) (d : Dk) (at_ : Nat) (w : World) (g : Nat) (pre : List Pc) (W : World) : Prop :=
  ∃ B', DkO W B' p (lwrs d at_ (raw pre)).1 ∧ (lwrs d at_ (raw pre)).2 = 0 ∧ Tr B B' w W ∧ Bx W w.heap.size [.pointer (some ⟨p, 0, none⟩)] ∧ Bx W (w.heap.size + 1) [.int .i64 ((at_ + pre.length : Nat) : Int)] ∧ Bx W (w.heap.size + 1 + 1) [.nilIface] ∧ Bx W (w.heap.size + 1 + 1 + 1 + 1) [.func (.func g) #[] #[]] ∧ ∀ k, w.heap.size ≤ k → k ≤ w.heap.size + 1 + 1 + 1 + 1 → ¬ B' k
def WtX (B : Nat → Prop) (p : Nat) (d : Dk) (at_ : Nat) (w : World) (c : Code) (pre : List Pc) (W : World) : Prop :=
  c = .ret ∧ ∃ B', DkO W B' p (lwrs d at_ (raw pre)).1 ∧ (lwrs d at_ (raw pre)).2 ≠ 0 ∧ Tr B B' w W ∧ Bx W (w.heap.size + 1 + 1) [errV (lwrs d at_ (raw pre)).2]
theorem wtI_own (B : Nat → Prop) (p : Nat) (d : Dk) (at_ : Nat) (w : World) (g base : Nat) (hb : w.heap.size ≤ base) : OwnFrom base (WtI B p d at_ w g) := by
  rintro s W W' row ⟨B', h1, h2, h3, h4, h5, h6, h7, h8⟩ hg hr
  have hr' := fun r e => (hr r e).2
  exact ⟨B', h1.turn hg hr', h2, h3.turn hg (fun r e => Nat.le_trans hb (hr r e).1), h4.turn hg hr', h5.turn hg hr', h6.turn hg hr', h7.turn hg hr', h8⟩
theorem wtX_own (B : Nat → Prop) (p : Nat) (d : Dk) (at_ : Nat) (w : World) (c : Code) (base : Nat) (hb : w.heap.size ≤ base) : OwnFrom base (WtX B p d at_ w c) := by
  rintro s W W' row ⟨hc, B', h1, h2, h3, h6⟩ hg hr
  have hr' := fun r e => (hr r e).2
  exact ⟨hc, B', h1.turn hg hr', h2, h3.turn hg (fun r e => Nat.le_trans hb (hr r e).1), h6.turn hg hr'⟩
theorem wt_end {B B1 : Nat → Prop} {p : Nat} {dd : Dk} {w W : World} {b D : Nat} {v : Value} (k1 : DkO W B1 p dd) (ht : Tr B B1 w W) (m5 : Bx W b [v]) (hK : W.heap[D]? = some (.deferred (some []))) (hD : w.heap.size ≤ D) :
    (W.putObj D (.deferred none)).cell? ⟨b, 0, none⟩ = some v ∧ DkO (W.putObj D (.deferred none)) B1 p dd ∧ Tr B B1 w (W.putObj D (.deferred none)) := by
  have hg := grownBy_putObj' W D (.deferred none)
  have hr : ∀ r, some D = some r → ∃ o : Obj, W.heap[r]? = some o ∧ o.isCells = false := fun r e => by cases e; exact ⟨_, hK, rfl⟩
  exact ⟨(m5.turn hg hr).one.1, k1.turn hg hr, ht.newrow hg (fun k e => by cases e; exact hD)⟩
theorem wt_set {B B1 : Nat → Prop} {p : Nat} {dd : Dk} {w W : World} {b D : Nat} {u : Value} (v : Value) (k1 : DkO W B1 p dd) (ht : Tr B B1 w W) (m5 : Bx W b [u]) (hb : ¬ B1 b) (hw : w.heap.size ≤ b) (hbD : b < D) (hK : W.heap[D]? = some (.deferred (some []))) :
    DkO (W.setCell ⟨b, 0, none⟩ v) B1 p dd ∧ Tr B B1 w (W.setCell ⟨b, 0, none⟩ v) ∧ Bx (W.setCell ⟨b, 0, none⟩ v) b [v] ∧ (W.setCell ⟨b, 0, none⟩ v).heap[D]? = some (.deferred (some [])) := by
  refine ⟨k1.same (fun k hk => Below.heap_setCell _ _ _ _ (fun e => by dsimp only at e; rw [e] at hk; exact hb hk)), ht.newrow (grownBy_setCell' _ _ _) (fun k e => by cases e; omega), ?_, (Below.heap_setCell _ _ _ _ (fun e => by dsimp only at e; omega)).trans hK⟩
  have := m5.set 0 v
  simpa only [List.set_cons_zero] using this
set_option maxHeartbeats 2000000 in
set_option maxRecDepth 100000 in
theorem wtext_any (B : Nat → Prop) (p : Nat) (d : Dk) (at_ : Nat) (t : ByteArray) (w : World) (h : DkO w B p d) (hw : d.wr.length ≤ 10000) (ht : t.size ≤ 10000) (ha : at_ ≤ 1000) (hcl : (chunks t).length ≤ 10000) :
    Calls Tryd.prog 50 #[.pointer (some ⟨p, 0, none⟩), .int .i64 (at_ : Int), .string t] w fun e w' => ∃ B', e = .returned (errV (lgW d at_ (chunks t)).2) ∧ DkO w' B' p (lgW d at_ (chunks t)).1 ∧ Tr B B' w w' := by
  have hlt := h.lt
  have hsm : ∀ s ∈ chunks t, s.size ≤ 48 := pcs_small _ 48 (fun _ => Nat.le_refl _) _ _
  refine (callsIn_wide (n := 5)).1 ?_
  refine callsIn_of_wp_marks Tryd.func50 rfl trivial ?_ rfl
  simp only [Tryd.ntmps50, List.size_toArray, List.length_cons, List.length_nil, Nat.reduceAdd, Nat.reduceSub, Array.replicate_succ, Array.replicate_zero, List.push_toArray, List.append_toArray, List.nil_append, List.cons_append]
  gi_wp2_with fail
  refine ⟨trivial, (callsIn_wide.2 (cut_any _ _ _)).mono ?_⟩
  rintro e w' ⟨rfl, rfl⟩
  gi_wp2
  have B0 := Bx.new w [.pointer (some ⟨p, 0, none⟩)] 25
  replace B0 := (((B0.alloc (.cells #[.int .i64 (at_ : Int)] 3)).alloc (.cells #[.nilIface] 27)).alloc (.cells #[.string t] 9)).alloc (.cells #[.func (.func 75) #[] #[]] 95)
  have B1 := Bx.new (w.alloc (.cells #[.pointer (some ⟨p, 0, none⟩)] 25)) [.int .i64 (at_ : Int)] 3
  rw [sz_alloc] at B1
  replace B1 := ((B1.alloc (.cells #[.nilIface] 27)).alloc (.cells #[.string t] 9)).alloc (.cells #[.func (.func 75) #[] #[]] 95)
  have B2 := Bx.new ((w.alloc (.cells #[.pointer (some ⟨p, 0, none⟩)] 25)).alloc (.cells #[.int .i64 (at_ : Int)] 3)) [.nilIface] 27
  rw [sz_alloc, sz_alloc] at B2
  replace B2 := (B2.alloc (.cells #[.string t] 9)).alloc (.cells #[.func (.func 75) #[] #[]] 95)
  have B3 := Bx.new (((w.alloc (.cells #[.pointer (some ⟨p, 0, none⟩)] 25)).alloc (.cells #[.int .i64 (at_ : Int)] 3)).alloc (.cells #[.nilIface] 27)) [.string t] 9
  rw [sz_alloc, sz_alloc, sz_alloc] at B3
  replace B3 := B3.alloc (.cells #[.func (.func 75) #[] #[]] 95)
  have B4 := Bx.new ((((w.alloc (.cells #[.pointer (some ⟨p, 0, none⟩)] 25)).alloc (.cells #[.int .i64 (at_ : Int)] 3)).alloc (.cells #[.nilIface] 27)).alloc (.cells #[.string t] 9)) [.func (.func 75) #[] #[]] 95
  rw [sz_alloc, sz_alloc, sz_alloc, sz_alloc] at B4
  have blw := ((((((Below.refl w.heap.size w).alloc (Nat.le_refl _) (.cells #[.pointer (some ⟨p, 0, none⟩)] 25)).alloc (by simp) (.cells #[.int .i64 (at_ : Int)] 3)).alloc (by simp; omega) (.cells #[.nilIface] 27)).alloc (by simp; omega) (.cells #[.string t] 9)).alloc (by simp; omega) (.cells #[.func (.func 75) #[] #[]] 95))
  generalize hV : ((((w.alloc (.cells #[.pointer (some ⟨p, 0, none⟩)] 25)).alloc (.cells #[.int .i64 (at_ : Int)] 3)).alloc (.cells #[.nilIface] 27)).alloc (.cells #[.string t] 9)).alloc (.cells #[.func (.func 75) #[] #[]] 95) = V at *
  have hz : V.heap.size = w.heap.size + 1 + 1 + 1 + 1 + 1 := by rw [← hV]; simp
  have hV1 : DkO V B p d := h.below blw
  have bl : Tr B B w V := Tr.of_below blw
  clear hV
  have hst := cut_stops 4 (by omega) 75 (enters_of Tryd.func75 (by kernel_rfl) rfl) (fun _ => 48) 100000 (by omega) (fun _ _ => by omega) long48 _ _ t (by omega) V B3.one.1 B4.one.1 B3.1 B4.1
  refine wpIn_rangeFunc_ownG rfl (by omega) (gf := 85) (lb := #[.pointer (some ⟨w.heap.size + 1 + 1 + 1, 0, none⟩), .pointer (some ⟨w.heap.size + 1 + 1 + 1 + 1, 0, none⟩)]) rfl trivial (enters_of Tryd.func85 (by kernel_rfl) rfl) hst (fun h k => kpc_t h k) (kpc_b (by omega)) (Below.refl _ _) (fun _ => rfl)
    (WtI B p d at_ w 75) (WtX B p d at_ w) (wtI_own _ _ _ _ _ _ _ (by omega)) (fun c => wtX_own _ _ _ _ _ _ _ (by omega))
    ⟨B, hV1, rfl, bl, B0, B1, B2, B4, fun k hk _ hb => by have := hlt k hb; omega⟩
    (fun x => { tmps := #[.pointer (some ⟨p, 0, none⟩), .int .i64 (at_ : Int), .string t, .pointer (some ⟨w.heap.size, 0, none⟩), .pointer (some ⟨w.heap.size + 1, 0, none⟩), undef, .pointer (some ⟨w.heap.size + 1 + 1, 0, none⟩), .string x.1, undef, .string t, .func (.func 85) #[] #[.pointer (some ⟨w.heap.size + 1 + 1 + 1, 0, none⟩), .pointer (some ⟨w.heap.size + 1 + 1 + 1 + 1, 0, none⟩)], .string x.1, undef, undef, undef, undef, undef, undef, undef, undef, undef, undef, undef], defers := [] }) ?assign ?body ?done ?stop
  case assign =>
    intro l x W K hK
    gi_wp2
    exact hK
  case body =>
    rintro l pre x W ⟨B', h1, h2, h3, h4, h5, h6, h7, h8⟩ hl
    have hl' : pre.length < (chunks t).length := hl
    have hwr := lwrs_wr (raw pre) d at_
    rw [raw_len] at hwr
    have hcon := (callsIn_wide (n := 5 - 1 - 1 - 1)).2 (write_o B' p (lwrs d at_ (raw pre)).1 ((at_ + pre.length : Nat) : Int) x.1 W h1 (by have := x.2.2; unfold maxLen; omega) (by omega))
    have hsn := lwrs_snoc x.1 (raw pre) d at_ h2
    rw [raw_len] at hsn
    rw [← raw_snoc] at hsn
    have HSN : Hid _ := hsn
    clear hsn
    generalize hx1 : x.1 = x1 at *
    generalize hdd : (lwrs d at_ (raw pre)).1 = dd at *
    obtain ⟨c0, f0⟩ := h4.one
    obtain ⟨c1, f1⟩ := h5.one
    obtain ⟨c2, f2⟩ := h6.one
    have hkeep : ∀ W1 B1, DkO W1 B1 p (wrR dd ((at_ + pre.length : Nat) : Int) x1) → Tr B' B1 W W1 → KeepsOthers W W1 ∧ Tr B B1 w W1 ∧ Bx W1 w.heap.size [.pointer (some ⟨p, 0, none⟩)] ∧ Bx W1 (w.heap.size + 1) [.int .i64 ((at_ + pre.length : Nat) : Int)] ∧ Bx W1 (w.heap.size + 1 + 1) [.nilIface] ∧ Bx W1 (w.heap.size + 1 + 1 + 1 + 1) [.func (.func 75) #[] #[]] ∧ ∀ k, w.heap.size ≤ k → k ≤ w.heap.size + 1 + 1 + 1 + 1 → ¬ B1 k := fun W1 B1 k1 k2 =>
      ⟨h1.keeps k2, h3.trans k2, h4.tr k2 (h8 _ (by omega) (by omega)), h5.tr k2 (h8 _ (by omega) (by omega)), h6.tr k2 (h8 _ (by omega) (by omega)), h7.tr k2 (h8 _ (by omega) (by omega)), fun k hk hk2 hb => by
        rcases k2.fr k hb with hb | hb
        · exact h8 k hk hk2 hb
        · have := h7.1; omega⟩
    by_cases he : wrC dd ((at_ + pre.length : Nat) : Int) x1 = 0
    · rw [he, errV_zero] at hcon
      have HS : Hid (lwrs d at_ (raw (pre ++ [x])) = (wrR dd ((at_ + pre.length : Nat) : Int) x1, 0)) := by have := HSN.out; rwa [if_pos he] at this
      clear HSN
      gi_wp2_with fail
      refine ⟨trivial, (CallsIn.inRound l hcon).mono ?_⟩
      rintro e W1 ⟨B1, rfl, k1, k2⟩
      obtain ⟨m1, m2, m3, m4, m5, m6, m7⟩ := hkeep W1 B1 k1 k2
      obtain ⟨c0, f0⟩ := m3.one
      obtain ⟨c1, f1⟩ := m4.one
      clear hkeep hcon
      gi_wp2
      have n1 : W1.heap.size ≤ (W1.setCell ⟨w.heap.size + 1, 0, none⟩ (.int .i64 ((at_ : Int) + (pre.length : Int) + 1))).heap.size := by simp
      have q1 := m7 (w.heap.size + 1) (by omega) (by omega)
      have k1' : DkO (W1.setCell ⟨w.heap.size + 1, 0, none⟩ (.int .i64 ((at_ : Int) + (pre.length : Int) + 1))) B1 p (wrR dd ((at_ + pre.length : Nat) : Int) x1) := k1.same (fun k hk => Below.heap_setCell _ _ _ _ (fun e => by dsimp only at e; rw [e] at hk; exact q1 hk))
      refine ⟨m1.from _ |>.trans ((KeepsOthers.setCell _ _ _).from _), ⟨(m6.other (b' := w.heap.size + 1) (by omega) 0 _).one.1.trans h7.one.1.symm, Nat.le_trans m1.size n1⟩, B1, ?_, ?_, m2.newrow (grownBy_setCell' _ _ _) (fun k e => by cases e; omega), m3.other (by omega) 0 _, ?_, m5.other (by omega) 0 _, m6.other (by omega) 0 _, m7⟩
      · rw [HS.out]; exact k1'
      · rw [HS.out]
      · have := m4.set 0 (.int .i64 ((at_ : Int) + (pre.length : Int) + 1))
        simp only [List.set_cons_zero] at this
        rw [show ((at_ + (pre ++ [x]).length : Nat) : Int) = (at_ : Int) + (pre.length : Int) + 1 by simp; omega]
        exact this
    · rw [errV_pos he] at hcon
      have HS : Hid (lwrs d at_ (raw (pre ++ [x])) = (wrR dd ((at_ + pre.length : Nat) : Int) x1, wrC dd ((at_ + pre.length : Nat) : Int) x1)) := by have := HSN.out; rwa [if_neg he] at this
      clear HSN
      have HE : Hid (wrC dd ((at_ + pre.length : Nat) : Int) x1 ≠ 0) := he
      clear he
      generalize hC : wrC dd ((at_ + pre.length : Nat) : Int) x1 = C at *
      gi_wp2_with fail
      refine ⟨trivial, (CallsIn.inRound l hcon).mono ?_⟩
      rintro e W1 ⟨B1, rfl, k1, k2⟩
      obtain ⟨m1, m2, m3, m4, m5, m6, m7⟩ := hkeep W1 B1 k1 k2
      obtain ⟨c0, f0⟩ := m3.one
      obtain ⟨c1, f1⟩ := m4.one
      obtain ⟨c2, f2⟩ := m5.one
      clear hkeep hcon
      gi_wp2
      have q1 := m7 (w.heap.size + 1 + 1) (by omega) (by omega)
      refine ⟨m1.from _ |>.trans ((KeepsOthers.setCell _ _ _).from _), rfl, B1, ?_, ?_, m2.newrow (grownBy_setCell' _ _ _) (fun k e => by cases e; omega), ?_⟩
      · rw [HS.out]; exact k1.same (fun k hk => Below.heap_setCell _ _ _ _ (fun e => by dsimp only at e; rw [e] at hk; exact q1 hk))
      · rw [HS.out]; exact HE.out
      · rw [HS.out, errV_pos HE.out]
        have := m5.set 0 (.iface 63 (.int .i64 C))
        simp only [List.set_cons_zero] at this
        exact this
  case done =>
    rintro D ys W hD hys ⟨B', h1, h2, h3, h4, h5, h6, h7, h8⟩ hK
    have hys' : raw ys = chunks t := hys
    rw [hys'] at h1 h2
    have HG : Hid (lgW d at_ (chunks t) = (flR (lwrs d at_ (chunks t)).1, flC (lwrs d at_ (chunks t)).1)) := by
      show lgW d at_ (chunks t) = _
      unfold lgW; rw [if_pos h2]
    have hcon := (callsIn_wide (n := 5 - 1)).2 (flush_o B' p (lwrs d at_ (chunks t)).1 W h1)
    generalize hdd : (lwrs d at_ (chunks t)).1 = dd at *
    obtain ⟨c0, f0⟩ := h4.one
    have hf : flC dd = 0 ∨ flC dd ≠ 0 := by omega
    have hv : ∃ v, errV (flC dd) = v ∧ v.oneCell' = true ∧ (v = .nilIface ∨ ∃ n : Int, v = .iface 63 (.int .i64 n)) := by
      rcases hf with h | h
      · exact ⟨_, rfl, by rw [h]; rfl, .inl (by rw [h]; rfl)⟩
      · exact ⟨_, rfl, by rw [errV_pos h]; rfl, .inr ⟨_, errV_pos h⟩⟩
    obtain ⟨v, hv1, hv2, hv3⟩ := hv
    rw [hv1] at hcon
    have HV : Hid (errV (flC dd) = v) := hv1
    clear hv1
    rcases hv3 with rfl | ⟨nn, rfl⟩
    all_goals
      gi_wp2_with fail
      refine ⟨trivial, hcon.mono ?_⟩
      rintro e W1 ⟨B1, rfl, k1, k2⟩
      have m5 := h6.tr k2 (h8 _ (by omega) (by omega))
      obtain ⟨c2, f2⟩ := m5.one
      have hnD : ¬ B' D := fun hb => by obtain ⟨o', h1', h2'⟩ := h1.cells hb; rw [hK] at h1'; cases h1'; cases h2'
      have hK1 := (k2.block D (heap_lt hK) hnD).trans hK
      have hnb : ¬ B1 (w.heap.size + 1 + 1) := fun hb => by
        rcases k2.fr _ hb with hb | hb
        · exact h8 _ (by omega) (by omega) hb
        · have := h7.1; omega
      gi_wp2
      refine ⟨by simp, .inl ⟨_, _, rfl, run_takeDeferred (wt_set _ k1 (h3.trans k2) m5 hnb (by omega) (by omega) hK1).2.2.2, ?_⟩⟩
      obtain ⟨r1, r2, r3, r4⟩ := wt_set (D := D) (errV (flC dd)) k1 (h3.trans k2) m5 hnb (by omega) (by omega) hK1
      rw [HV.out] at r1 r2 r3 r4
      obtain ⟨q1, q2, q3⟩ := wt_end r1 r2 r3 r4 (by omega)
      exact ⟨errV (flC dd), by rw [HV.out]; simp [results, Tryd.results50, go_sem, q1], B1, by rw [HG.out], by rw [HG.out]; exact q2, q3⟩
  case stop =>
    rintro D c pre W hD hp ⟨rfl, B', h1, h2, h3, h6⟩ hK
    have HG : Hid (lgW d at_ (chunks t) = lwrs d at_ (raw pre)) := by
      show lgW d at_ (chunks t) = _
      obtain ⟨m, hm⟩ := (show raw pre <+: chunks t from hp)
      have e : lwrs d at_ (chunks t) = lwrs d at_ (raw pre) := by rw [← hm]; exact lwrs_pre _ _ _ _ h2
      unfold lgW; rw [if_neg (by rw [e]; exact h2), e]
    obtain ⟨c2, f2⟩ := h6.one
    gi_wp2
    refine ⟨by simp, .inl ⟨_, _, rfl, run_takeDeferred hK, ?_⟩⟩
    obtain ⟨q1, q2, q3⟩ := wt_end h1 h3 h6 hK (by omega)
    exact ⟨errV (lwrs d at_ (raw pre)).2, by simp [results, Tryd.results50, go_sem, q1], B', by rw [HG.out], by rw [HG.out]; exact q2, q3⟩
end Go.Proofs.YtikkakdeapbioaaDoor
