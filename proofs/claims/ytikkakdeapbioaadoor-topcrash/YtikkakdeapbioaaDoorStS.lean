/- store.split: a text into its rows. -/
import Derived.Test.YtikkakdeapbioaaDoorStW
import Derived.Test.YtikkakdeapbioaaDoorRowApp
set_option linter.unusedVariables false
set_option linter.unusedSimpArgs false
set_option linter.unnecessarySimpa false
namespace Go.Proofs.YtikkakdeapbioaaDoor
open Go.RowKit Go.Shelf
attribute [local go_sem] Oper.semAt_some

def datas (l : List ByteArray) : List (List UInt8) := l.map (·.data.toList)
theorem parts_snoc (x : List UInt8) : ∀ l : List (List UInt8), partsL (l ++ [x]) = match partsL l, chP (x.drop 1) with
    | some a, some c => some (a ++ [c])
    | _, _ => none
  | [] => by
    show partsL [x] = _
    unfold partsL partsL
    cases chP (x.drop 1) <;> rfl
  | y :: l => by
    rw [List.cons_append]
    unfold partsL
    rw [parts_snoc x l]
    cases chP (y.drop 1) <;> cases partsL l <;> cases chP (x.drop 1) <;> rfl
theorem parts_pre : ∀ l m : List (List UInt8), partsL l = none → partsL (l ++ m) = none
  | [], m, h => by simp [partsL] at h
  | y :: l, m, h => by
    rw [List.cons_append]
    unfold partsL at h ⊢
    cases h1 : chP (y.drop 1) with
    | none => rfl
    | some c =>
      cases h2 : partsL l with
      | none => rw [parts_pre l m h2]
      | some a => rw [h1, h2] at h; cases h
/-- how long a piece is: its first byte says how many follow -/
def fRow (r : ByteArray) : Nat := 1 + numL (r.extract 0 1).data.toList
theorem fRow_bd (r : ByteArray) : 1 ≤ fRow r ∧ fRow r ≤ 256 := by
  unfold fRow
  have h := numL_lt (r.extract 0 1).data.toList
  have h2 : (r.extract 0 1).data.toList.length ≤ 1 := by
    have : (r.extract 0 1).data.toList.length = (r.extract 0 1).size := rfl
    rw [this, ByteArray.size_extract]; omega
  have : 2 ^ (8 * (r.extract 0 1).data.toList.length) ≤ 2 ^ (8 * 1) := Nat.pow_le_pow_right (by decide) (by omega)
  omega
theorem fRow_cons (x : UInt8) (r : List UInt8) (s : ByteArray) (h : s.data.toList = x :: r) : fRow s = 1 + x.toNat := by
  unfold fRow
  rw [ext_toList, h]
  simp [numL]
theorem pcs_cut : ∀ (n : Nat) (s : ByteArray), datas (pcs fRow n s) = cutL n s.data.toList
  | 0, s => rfl
  | n + 1, s => by
    cases hd : s.data.toList with
    | nil =>
      have : s.size = 0 := by have := congrArg List.length hd; simpa using this
      unfold pcs
      rw [if_pos this]
      rfl
    | cons x r =>
      have hz : s.size = r.length + 1 := by have := congrArg List.length hd; simpa using this
      unfold pcs cutL
      have e1 : (s.extract 0 (min (1 + x.toNat) s.size)).data.toList = x :: r.take x.toNat := by
        rw [ext_toList, hd, List.drop_zero, Nat.sub_zero, hz, show min (1 + x.toNat) (r.length + 1) = min x.toNat r.length + 1 by omega, List.take_succ_cons]
        congr 1
        by_cases h : x.toNat ≤ r.length
        · rw [Nat.min_eq_left h]
        · rw [Nat.min_eq_right (by omega), List.take_of_length_le (by omega), List.take_of_length_le (by omega)]
      have e2 : (s.extract (min (1 + x.toNat) s.size) s.size).data.toList = r.drop x.toNat := by
        rw [ext_toList, hd, hz, show min (1 + x.toNat) (r.length + 1) = min x.toNat r.length + 1 by omega, List.drop_succ_cons]
        rw [List.take_of_length_le (by simp)]
        by_cases h : x.toNat ≤ r.length
        · rw [Nat.min_eq_left h]
        · rw [Nat.min_eq_right (by omega), List.drop_of_length_le (by omega), List.drop_of_length_le (by omega)]
      rw [if_neg (by omega), fRow_cons x r s hd]
      show (s.extract 0 (min (1 + x.toNat) s.size)).data.toList :: datas (pcs fRow n (s.extract (min (1 + x.toNat) s.size) s.size)) = _
      rw [pcs_cut n, e1, e2]
theorem pcs_len (f : ByteArray → Nat) : ∀ (n : Nat) (r : ByteArray), (pcs f n r).length ≤ n
  | 0, r => Nat.le_refl _
  | n + 1, r => by
    unfold pcs
    split
    · simp
    · have := pcs_len f n (r.extract (min (f r) r.size) r.size)
      simp only [List.length_cons]; omega
theorem chP_chk {l : List UInt8} {c : Ch} (h : chP l = some c) : chkC c = 0 := by
  unfold chP at h
  split at h
  · rename_i hh; cases h; exact hh.2
  · cases h
theorem longRow : LongP 100000 65 fRow := fun r W h0 hM => by
  have hnu := fun W => number_any (r.extract 0 1) W (by rw [ByteArray.size_extract]; omega) (by have := fRow_bd r; unfold fRow at this; omega)
  have hb := fRow_bd r
  unfold fRow at hb ⊢
  generalize hN : numL (r.extract 0 1).data.toList = N at *
  clear hN
  go_enter Tryd.func65, Tryd.ntmps65
  have h1 : 1 ≤ r.size := h0
  go_wp2_with fail
  refine (hnu _).mono ?_
  rintro e w1 ⟨rfl, rfl⟩
  go_wp2
  go_ret
  exact ⟨retInt (by omega), Below.refl _ _⟩
theorem wpListIn_app {F : Fence} {n : Nat} {P : Program} {w w' : World} {ops : Array Oper} {rest : List Oper} {o : Oper} {a : Act} {Q : Exit → Act → World → Prop} {v u v' : Value}
    (hg : o.guard = none) (s x : Operand) (t : TypeId) (hop : o.op = Op.call { callee := Callee.builtin Builtin.append, args := #[s, x], argTypes := #[t, t] }) (hs : a.eval s = v) (hx : a.eval x = u)
    (hrun : (Builtin.append_ #[t, t] o.type #[v, u]).run P w = .ok v' w') (hK : wpListIn F n P ops Q rest (a.put o.dst v') w') : wpListIn F n P ops Q (o :: rest) a w := by
  refine wpListIn_plain hg fun K hK' => ?_
  unfold Oper.wpIn
  refine ⟨?_, ?_⟩
  · simp [Oper.about, hop, resolve, Target.leads, Sem.run_pure]
  · rw [Oper.semAt_plain F _ _ (by rw [hop]; intro c hc'; cases hc')]
    simp [execOp, hop, resolve, invoke, builtin, hs, hx, hrun, Result.andThen]
    exact hK' _ _ hK
def rowsOf (pre : List Pc) : Option (List Ch) := partsL (datas (raw pre))
theorem rowsOf_snoc (pre : List Pc) (x : Pc) : rowsOf (pre ++ [x]) = match rowsOf pre, chP (x.1.data.toList.drop 1) with
    | some a, some c => some (a ++ [c])
    | _, _ => none := by
  unfold rowsOf datas
  rw [raw_snoc, List.map_append]
  exact parts_snoc _ _
/-- between two rows -/
def SpI (w : World) (g : Nat) (pre : List Pc) (W : World) : Prop :=
  ∃ l v, rowsOf pre = some l ∧ (∀ c ∈ l, chkC c = 0) ∧ l.length ≤ pre.length ∧ Below w.heap.size w W ∧ Bx W w.heap.size [.slice none 0 0] ∧ Bx W (w.heap.size + 1) [.nilIface] ∧ Bx W (w.heap.size + 1 + 1) [v] ∧ Bx W (w.heap.size + 1 + 1 + 1 + 1) [.func (.func g) #[] #[]] ∧ W.ownsRow (w.heap.size + 1 + 1 + 1 + 1 + 1) 61 3 v l.length (l.flatMap chC)
def SpX (c : Code) (pre : List Pc) (W : World) : Prop := rowsOf pre = none
theorem own_turn {w w' : World} {base : Nat} {e : TypeId} {size : Nat} {v : Value} {n : Nat} {xs : List Value} (h : w.ownsRow base e size v n xs) {row : Option Nat} (hg : w.grownBy w' row) (hr : ∀ r, row = some r → ∃ o : Obj, w.heap[r]? = some o ∧ o.isCells = false) : w'.ownsRow base e size v n xs :=
  own_keep h (fun k hk => hg.block k (h.lt k hk).2 (fun e => by
    obtain ⟨o, h1, h2⟩ := own_cells h hk
    obtain ⟨o', h3, h4⟩ := hr k e.symm
    rw [h1] at h3; cases h3; rw [h2] at h4; cases h4))
theorem below_turn {w w1 w' : World} (h : Below w.heap.size w w1) {row : Option Nat} (hg : w1.grownBy w' row) (hr : ∀ r, row = some r → w.heap.size ≤ r) : Below w.heap.size w w' :=
  h.grown hg h.size hr
theorem spI_own (w : World) (g base : Nat) (hb : w.heap.size ≤ base) : OwnFrom base (SpI w g) := by
  rintro s W W' row ⟨l, v, h1, h2, h0, h3, h4, h5, h6, h7, h8⟩ hg hr
  have hr' := fun r e => (hr r e).2
  exact ⟨l, v, h1, h2, h0, below_turn h3 hg (fun r e => Nat.le_trans hb (hr r e).1), h4.turn hg hr', h5.turn hg hr', h6.turn hg hr', h7.turn hg hr', own_turn h8 hg hr'⟩
set_option maxHeartbeats 2000000 in
set_option maxRecDepth 100000 in
theorem split_good (t : ByteArray) (rows : List Ch) (w : World) (hr : splitL t.data.toList = some rows) (ht : t.size ≤ 10000) :
    Calls Tryd.prog 45 #[.string t] w fun e w' => ∃ v, e = .returned (.tuple #[v, .nilIface]) ∧ w'.ownsRow w.heap.size 61 3 v rows.length (rows.flatMap chC) ∧ (∀ c ∈ rows, chkC c = 0) ∧ Below w.heap.size w w' := by
  refine (callsIn_wide (n := 5)).1 ?_
  refine callsIn_of_wp_marks Tryd.func45 rfl trivial ?_ rfl
  simp only [Tryd.ntmps45, List.size_toArray, List.length_cons, List.length_nil, Nat.reduceAdd, Nat.reduceSub, Array.replicate_succ, Array.replicate_zero, List.push_toArray, List.append_toArray, List.nil_append, List.cons_append]
  gi_wp2_with fail
  refine ⟨trivial, (callsIn_wide.2 (cut_any _ _ _)).mono ?_⟩
  rintro e w' ⟨rfl, rfl⟩
  gi_wp2
  have B0 := Bx.new w [.slice none 0 0] 36
  replace B0 := (((B0.alloc (.cells #[.nilIface] 27)).alloc (.cells #[.slice none 0 0] 36)).alloc (.cells #[.string t] 9)).alloc (.cells #[.func (.func 65) #[] #[]] 95)
  have B1 := Bx.new (w.alloc (.cells #[.slice none 0 0] 36)) [.nilIface] 27
  rw [sz_alloc] at B1
  replace B1 := ((B1.alloc (.cells #[.slice none 0 0] 36)).alloc (.cells #[.string t] 9)).alloc (.cells #[.func (.func 65) #[] #[]] 95)
  have B2 := Bx.new ((w.alloc (.cells #[.slice none 0 0] 36)).alloc (.cells #[.nilIface] 27)) [.slice none 0 0] 36
  rw [sz_alloc, sz_alloc] at B2
  replace B2 := (B2.alloc (.cells #[.string t] 9)).alloc (.cells #[.func (.func 65) #[] #[]] 95)
  have B3 := Bx.new (((w.alloc (.cells #[.slice none 0 0] 36)).alloc (.cells #[.nilIface] 27)).alloc (.cells #[.slice none 0 0] 36)) [.string t] 9
  rw [sz_alloc, sz_alloc, sz_alloc] at B3
  replace B3 := B3.alloc (.cells #[.func (.func 65) #[] #[]] 95)
  have B4 := Bx.new ((((w.alloc (.cells #[.slice none 0 0] 36)).alloc (.cells #[.nilIface] 27)).alloc (.cells #[.slice none 0 0] 36)).alloc (.cells #[.string t] 9)) [.func (.func 65) #[] #[]] 95
  rw [sz_alloc, sz_alloc, sz_alloc, sz_alloc] at B4
  have blw := ((((((Below.refl w.heap.size w).alloc (Nat.le_refl _) (.cells #[.slice none 0 0] 36)).alloc (by simp) (.cells #[.nilIface] 27)).alloc (by simp; omega) (.cells #[.slice none 0 0] 36)).alloc (by simp; omega) (.cells #[.string t] 9)).alloc (by simp; omega) (.cells #[.func (.func 65) #[] #[]] 95))
  generalize hV : ((((w.alloc (.cells #[.slice none 0 0] 36)).alloc (.cells #[.nilIface] 27)).alloc (.cells #[.slice none 0 0] 36)).alloc (.cells #[.string t] 9)).alloc (.cells #[.func (.func 65) #[] #[]] 95) = V at *
  have hz : V.heap.size = w.heap.size + 1 + 1 + 1 + 1 + 1 := by rw [← hV]; simp
  clear hV
  have hpl : (pcs fRow t.size t).length ≤ 100000 := by have := pcs_len fRow t.size t; omega
  have hst := cut_stops 4 (by omega) 65 (enters_of Tryd.func65 (by kernel_rfl) rfl) fRow 100000 (by omega) (fun r _ => by have := fRow_bd r; omega) longRow _ _ t (by omega) V B3.one.1 B4.one.1 B3.1 B4.1
  refine wpIn_rangeFunc_ownG rfl (by omega) (gf := 85) (lb := #[.pointer (some ⟨w.heap.size + 1 + 1 + 1, 0, none⟩), .pointer (some ⟨w.heap.size + 1 + 1 + 1 + 1, 0, none⟩)]) rfl trivial (enters_of Tryd.func85 (by kernel_rfl) rfl) hst (fun h k => kpc_t h k) (kpc_b (by omega)) (Below.refl _ _) (fun _ => rfl)
    (SpI w 65) (SpX) (spI_own _ _ _ (by omega)) (fun c s W W' row hs hg hr => hs)
    ⟨[], .slice none 0 0, rfl, by simp, Nat.le_refl _, blw, B0, B1, B2, B4, World.ownsRow_nil _ _ _ _⟩
    (fun x => { tmps := #[.string t, undef, .pointer (some ⟨w.heap.size, 0, none⟩), .pointer (some ⟨w.heap.size + 1, 0, none⟩), .pointer (some ⟨w.heap.size + 1 + 1, 0, none⟩), .string x.1, undef, undef, .string t, .func (.func 85) #[] #[.pointer (some ⟨w.heap.size + 1 + 1 + 1, 0, none⟩), .pointer (some ⟨w.heap.size + 1 + 1 + 1 + 1, 0, none⟩)], .string x.1, undef, undef, undef, undef, undef, undef, undef, undef, undef, undef, undef, undef, undef, undef], defers := [] }) ?assign ?body ?done ?stop
  case assign =>
    intro l x W K hK
    gi_wp2
    exact hK
  case body =>
    rintro lp pre x W ⟨l, v, h1, h2, h0, h3, h4, h5, h6, h7, h8⟩ hl
    have hlen : l.length ≤ 100000 := by have : pre.length < (pcs fRow t.size t).length := hl; omega
    have hsn := rowsOf_snoc pre x
    rw [h1] at hsn
    have hx1 := x.2.1
    have hx2 := x.2.2
    have hext : (x.1.extract 1 x.1.size).data.toList = x.1.data.toList.drop 1 := by rw [ext_toList, List.take_of_length_le (by simp)]
    have hcon := (callsIn_wide (n := 5 - 1 - 1 - 1)).2 (rparse_any (x.1.extract 1 x.1.size) W (by rw [ByteArray.size_extract]; unfold maxLen; omega))
    cases hp : chP (x.1.data.toList.drop 1) with
    | none =>
      rw [hp] at hsn
      have e1 : prC (x.1.extract 1 x.1.size) = 4 := by unfold prC; rw [hext, hp]; rfl
      rw [e1, errV_pos (by decide)] at hcon
      have HS : Hid (rowsOf (pre ++ [x]) = none) := hsn
      clear hsn e1 hext hp h1
      generalize prR (x.1.extract 1 x.1.size) = c at *
      generalize x.1 = y at *
      obtain ⟨c0, f0⟩ := h4.one
      obtain ⟨c1, f1⟩ := h5.one
      gi_wp2_with fail
      refine ⟨trivial, (CallsIn.inRound lp hcon).mono ?_⟩
      rintro e W1 ⟨rfl, hb1⟩
      have k1 : KeepsOthers W W1 := ⟨hb1.size, fun k o hk ho => (hb1.block k (heap_lt hk)).trans hk⟩
      replace h4 := h4.below hb1
      replace h5 := h5.below hb1
      obtain ⟨c0, f0⟩ := h4.one
      obtain ⟨c1, f1⟩ := h5.one
      have z0 := h4.1
      have z1 := h5.1
      gi_wp2
      exact ⟨(((k1.trans (KeepsOthers.setCell _ _ _)).trans (KeepsOthers.setCell _ _ _)).trans (KeepsOthers.alloc _ _)).from _, HS.out⟩
    | some c =>
      rw [hp] at hsn
      have e1 : prC (x.1.extract 1 x.1.size) = 0 := by unfold prC; rw [hext, hp]; rfl
      have e2 : prR (x.1.extract 1 x.1.size) = c := by unfold prR; rw [hext, hp]; rfl
      have hcs := chP_chk hp
      rw [e1, e2, errV_zero] at hcon
      have HS : Hid (rowsOf (pre ++ [x]) = some (l ++ [c])) := hsn
      clear hsn e1 e2 hext hp h1
      generalize x.1 = y at *
      have H7 : Hid (some (Value.func (.func 65) #[] #[]) = W.cell? ⟨w.heap.size + 1 + 1 + 1 + 1, 0, none⟩) := h7.one.1.symm
      obtain ⟨c2, f2⟩ := h6.one
      gi_wp2_with fail
      refine ⟨trivial, (CallsIn.inRound lp hcon).mono ?_⟩
      rintro e W1 ⟨rfl, hb1⟩
      replace h4 := h4.below hb1
      replace h5 := h5.below hb1
      replace h6 := h6.below hb1
      replace h7 := h7.below hb1
      obtain ⟨c2, f2⟩ := h6.one
      have z2 := h6.1
      have bw : Below W1.heap.size W1 ((W1.alloc (.cells #[.string c.key, .string c.val, .bool c.gone] 61)).alloc (.cells #[.string c.key, .string c.val, .bool c.gone] 61)) := ((Below.refl _ _).alloc (Nat.le_refl _) _).alloc (by simp) _
      have hg4 : ((W1.alloc (.cells #[.string c.key, .string c.val, .bool c.gone] 61)).alloc (.cells #[.string c.key, .string c.val, .bool c.gone] 61)).heap[W1.heap.size + 1]? = some (.cells (chC c).toArray 61 (0, 0)) := by
        have := heap_alloc_last (W1.alloc (.cells #[.string c.key, .string c.val, .bool c.gone] 61)) (.cells #[.string c.key, .string c.val, .bool c.gone] 61)
        rw [sz_alloc] at this
        exact this
      have bw2 := Below_after hb1 bw
      have h8' := own_keep h8 (fun k hk => bw2.block k (h8.lt k hk).2)
      have n5 := h7.1
      have hwz := hb1.size
      have hzz := h3.size
      obtain ⟨v', W5, r1, r2, r3, r5⟩ := run_app 36 61 36 Tryd.underlying36 infoCh rfl (by decide) (by decide) h8' (by omega) (by simp; omega) (news := chC c) rfl (chC_one c) (W1.heap.size + 1) hg4
      have hne : ∀ k, k ≤ w.heap.size + 1 + 1 + 1 + 1 → some k ≠ v.ownBlock := fun k hk e => by have := (h8.lt k e.symm).1; omega
      have g4 := (h4.below bw).grown r3 (hne _ (by omega))
      have g5 := (h5.below bw).grown r3 (hne _ (by omega))
      have g6 := (h6.below bw).grown r3 (hne _ (by omega))
      have g7 := (h7.below bw).grown r3 (hne _ (by omega))
      obtain ⟨c2, f2⟩ := g6.one
      obtain ⟨va, vc, rfl⟩ := own_form r2
      have kk : KeepsOthers W W5 := ⟨Nat.le_trans hwz (Nat.le_trans bw.size r3.size), fun k o hk ho => by
        have e1 := bw2.block k (heap_lt hk)
        rw [hk] at e1
        exact (r3.block k (heap_lt e1) (fun e => by
          obtain ⟨o', q1, q2⟩ := own_cells h8' e.symm
          rw [e1] at q1; cases q1; rw [ho] at q2; cases q2)).trans e1⟩
      gi_wp2_with (refine wpListIn_app (by rfl) _ _ _ (by rfl) (by rfl) (by rfl) r1 ?_)
      have e1 : (l ++ [c]).flatMap chC = l.flatMap chC ++ chC c := by simp [List.flatMap_append]
      have e2 : (l ++ [c]).length = l.length + 1 := by simp
      have hsz5 : W5.heap.size ≤ (W5.setCell ⟨w.heap.size + 1 + 1, 0, none⟩ (.slice va (l.length + 1) vc)).heap.size := by simp
      refine ⟨(kk.trans (KeepsOthers.setCell _ _ _)).from _, ⟨(g7.other (b' := w.heap.size + 1 + 1) (by omega) 0 _).one.1.trans H7.out, Nat.le_trans kk.size hsz5⟩, l ++ [c], .slice va (l.length + 1) vc, HS.out, ?_, by simp; omega, ?_, g4.other (by omega) 0 _, g5.other (by omega) 0 _, ?_, g7.other (by omega) 0 _, ?_⟩
      · intro y hy
        rcases List.mem_append.1 hy with hy | hy
        · exact h2 y hy
        · rw [List.mem_singleton.1 hy]; exact hcs
      · exact (below_turn (Below_after (Below_after h3 hb1) bw) r3 (fun k e => by have := (h8.lt k e).1; omega)).setCell (p := ⟨w.heap.size + 1 + 1, 0, none⟩) (by show w.heap.size ≤ w.heap.size + 1 + 1; omega) _
      · have := g6.set 0 (.slice va (l.length + 1) vc)
        simpa only [List.set_cons_zero] using this
      · rw [e1, e2]
        exact ownsRow_set_other r2 (fun e => by have := (r2.lt _ e).1; omega) 0 _
  case done =>
    rintro D ys W hD hys ⟨l, v, h1, h2, h0, h3, h4, h5, h6, h7, h8⟩ hK
    have hl : l = rows := by
      have e : partsL (datas (pcs fRow t.size t)) = some l := by rw [← (show raw ys = pcs fRow t.size t from hys)]; exact h1
      rw [pcs_cut] at e
      unfold splitL at hr
      rw [Array.length_toList] at hr
      rw [show t.data.size = t.size from rfl, e] at hr
      exact Option.some.inj hr
    subst hl
    obtain ⟨va, vc, rfl⟩ := own_form h8
    have n5 := h7.1
    obtain ⟨c0, f0⟩ := h4.one
    obtain ⟨c1, f1⟩ := h5.one
    obtain ⟨c2, f2⟩ := h6.one
    gi_wp2
    have s0 := (h4.set 0 (.slice va l.length vc)).other (b' := w.heap.size + 1) (by omega) 0 .nilIface
    have s1 := (h5.other (b' := w.heap.size) (by omega) 0 (.slice va l.length vc)).set 0 .nilIface
    simp only [List.set_cons_zero] at s0 s1
    have s2 := ownsRow_set_other (ownsRow_set_other h8 (b := w.heap.size) (fun e => by have := (h8.lt _ e).1; omega) 0 (.slice va l.length vc)) (b := w.heap.size + 1) (fun e => by have := (h8.lt _ e).1; omega) 0 .nilIface
    have s3 : Below w.heap.size w ((W.setCell ⟨w.heap.size, 0, none⟩ (.slice va l.length vc)).setCell ⟨w.heap.size + 1, 0, none⟩ .nilIface) := (h3.setCell (p := ⟨w.heap.size, 0, none⟩) (Nat.le_refl _) _).setCell (p := ⟨w.heap.size + 1, 0, none⟩) (by show w.heap.size ≤ w.heap.size + 1; omega) _
    have hK6 : ((W.setCell ⟨w.heap.size, 0, none⟩ (.slice va l.length vc)).setCell ⟨w.heap.size + 1, 0, none⟩ .nilIface).heap[D]? = some (.deferred (some [])) :=
      (Below.heap_setCell _ _ _ _ (fun e => by dsimp only at e; omega)).trans ((Below.heap_setCell _ _ _ _ (fun e => by dsimp only at e; omega)).trans hK)
    refine ⟨by simp, .inl ⟨_, _, rfl, run_takeDeferred hK6, ?_⟩⟩
    generalize ((W.setCell ⟨w.heap.size, 0, none⟩ (.slice va l.length vc)).setCell ⟨w.heap.size + 1, 0, none⟩ .nilIface) = W6 at *
    have hg := grownBy_putObj' W6 D (.deferred none)
    have hrr : ∀ r, some D = some r → ∃ o : Obj, W6.heap[r]? = some o ∧ o.isCells = false := fun r e => by cases e; exact ⟨_, hK6, rfl⟩
    have q0 := (s0.turn hg hrr).one.1
    have q1 := (s1.turn hg hrr).one.1
    exact ⟨_, by simp only [results, Tryd.results45]; simp [go_sem, q0, q1], .slice va l.length vc, rfl, ownsRow_mono (own_turn s2 hg hrr) (by omega), h2, below_turn s3 hg (fun r e => by cases e; omega)⟩
  case stop =>
    rintro D c pre W hD hp hx hK
    exfalso
    obtain ⟨m, hm⟩ := (show raw pre <+: pcs fRow t.size t from hp)
    have : partsL (datas (pcs fRow t.size t)) = none := by
      rw [← hm]; unfold datas; rw [List.map_append]; exact parts_pre _ _ hx
    rw [pcs_cut] at this
    unfold splitL at hr
    rw [Array.length_toList] at hr
    rw [show t.data.size = t.size from rfl, this] at hr
    cases hr
end Go.Proofs.YtikkakdeapbioaaDoor
