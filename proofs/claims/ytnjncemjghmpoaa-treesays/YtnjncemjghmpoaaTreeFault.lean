/- The walk of the pattern's TreeFault: it answers the number of tree.Check's error (C3). -/
import Derived.Test.YtnjncemjghmpoaaTreePure
import Derived.Test.YtnjncemjghmpoaaRef
import Derived.Deep.RegionHeld3
import Derived.Deep.QuietTactic
import Derived.BigQuiet
set_option linter.unusedSimpArgs false
set_option linter.unusedVariables false
namespace Go.Proofs.Ytnjncemjghmpoaa
open Go.RowKit

/-- two writs in one block -/
@[reducible] def SZ (b o1 o2 : Nat) (y x : Wr) (w' : World) : Prop := w'.cell? ⟨b, o1, none⟩ = some (.int .i64 y.id) ∧ w'.cell? ⟨b, o1 + 1, none⟩ = some (.int .i64 y.thing) ∧ w'.cell? ⟨b, o1 + 2, none⟩ = some (.int .i64 y.rights) ∧ w'.cell? ⟨b, o1 + 3, none⟩ = some (.int .i64 y.badge) ∧ w'.cell? ⟨b, o1 + 4, none⟩ = some (.int .i64 y.frm) ∧ w'.cell? ⟨b, o2, none⟩ = some (.int .i64 x.id) ∧ w'.cell? ⟨b, o2 + 1, none⟩ = some (.int .i64 x.thing) ∧ w'.cell? ⟨b, o2 + 2, none⟩ = some (.int .i64 x.rights) ∧ w'.cell? ⟨b, o2 + 3, none⟩ = some (.int .i64 x.badge) ∧ w'.cell? ⟨b, o2 + 4, none⟩ = some (.int .i64 x.frm) ∧ b < w'.heap.size
theorem SZ_mk {b o1 o2 : Nat} {x y : Wr} {w' : World} (hy : WrAt w' b o1 y) (hx : WrAt w' b o2 x) (h : b < w'.heap.size) : SZ b o1 o2 y x w' := by
  obtain ⟨p1, p2, p3, p4, p5⟩ := hy
  obtain ⟨q1, q2, q3, q4, q5⟩ := hx
  exact ⟨p1, p2, p3, p4, p5, q1, q2, q3, q4, q5, h⟩
theorem SZ_to {b o1 o2 : Nat} {x y : Wr} {w' : World} (h : SZ b o1 o2 y x w') : WrAt w' b o1 y ∧ WrAt w' b o2 x ∧ b < w'.heap.size := by
  obtain ⟨p1, p2, p3, p4, p5, q1, q2, q3, q4, q5, h⟩ := h
  exact ⟨⟨p1, p2, p3, p4, p5⟩, ⟨q1, q2, q3, q4, q5⟩, h⟩
theorem SZ_below {b o1 o2 : Nat} {x y : Wr} {v w2 : World} (hb : Below v.heap.size v w2) (h : SZ b o1 o2 y x v) : SZ b o1 o2 y x w2 := by
  obtain ⟨h1, h2, h3⟩ := SZ_to h
  exact SZ_mk (h1.below hb h3) (h2.below hb h3) (Nat.lt_of_lt_of_le h3 hb.size)
theorem SZ_alloc {b o1 o2 : Nat} {x y : Wr} {v : World} (ob : Obj) (h : SZ b o1 o2 y x v) : SZ b o1 o2 y x (v.alloc ob) := SZ_below ((Below.refl _ _).alloc (Nat.le_refl _) ob) h
theorem SZ_set {b o1 o2 : Nat} {x y : Wr} {v : World} (p : Addr) (u : Value) (h1 : p.block ≠ b) (h : SZ b o1 o2 y x v) : SZ b o1 o2 y x (v.setCell p u) := by
  have hk : ∀ o', (v.setCell p u).cell? ⟨b, o', none⟩ = v.cell? ⟨b, o', none⟩ := fun o' => World.cell?_of_block (w := v) (Below.heap_setCell v p u b h1.symm)
  have hs : (v.setCell p u).heap.size = v.heap.size := by simp [World.setCell]
  obtain ⟨p1, p2, p3, p4, p5, q1, q2, q3, q4, q5, r⟩ := h
  refine ⟨?_, ?_, ?_, ?_, ?_, ?_, ?_, ?_, ?_, ?_, ?_⟩
  all_goals first | (rw [hk]; assumption) | (rw [hs]; exact r)
theorem drvCode_pos {y : Wr} {r g : Int} (h : ¬ drvCode y r g = 0) : 0 < drvCode y r g := by
  unfold drvCode at *
  split
  · decide
  · rename_i h1
    rw [if_neg h1] at h
    split
    · decide
    · rename_i h2; rw [if_neg h2] at h; exact absurd rfl h
/-- what the pattern derives -/
def dvOf (y : Wr) (id r g : Int) : Wr := if drvCode y r g ≠ 0 then ⟨0, 0, 0, 0, 0⟩ else if y.badge = 0 then ⟨id, y.thing, r, g, y.id⟩ else ⟨id, y.thing, r, y.badge, y.id⟩
theorem derived_any (y : Wr) (id r g : Int) (w : World) (h0 : 0 ≤ y.rights) (h7 : y.rights ≤ 7) :
    Calls Try.prog 22 #[.agg #[.int .i64 y.id, .int .i64 y.thing, .int .i64 y.rights, .int .i64 y.badge, .int .i64 y.frm], .int .i64 id, .int .i64 r, .int .i64 g] w fun e w' => e = .returned (.tuple #[.agg #[.int .i64 (dvOf y id r g).id, .int .i64 (dvOf y id r g).thing, .int .i64 (dvOf y id r g).rights, .int .i64 (dvOf y id r g).badge, .int .i64 (dvOf y id r g).frm], .int .i64 (drvCode y r g)]) ∧ Below w.heap.size w w' := by
  unfold dvOf
  by_cases hd : drvCode y r g = 0
  · rw [if_neg (by simp [hd])]
    by_cases hb : y.badge = 0
    · rw [if_pos hb, hd]; exact derived_ok0 y id r g w h0 h7 hd hb
    · rw [if_neg hb, hd]; exact derived_ok1 y id r g w h0 h7 hd hb
  · rw [if_pos hd]; exact derived_err y id r g w h0 h7 hd
theorem dv_facts {x y : Wr} (he : y.id = x.frm) : drvCode y x.rights x.badge = 0 → (dvOf y x.id x.rights x.badge).id = x.id ∧ (dvOf y x.id x.rights x.badge).rights = x.rights ∧ (dvOf y x.id x.rights x.badge).frm = x.frm ∧
    ((dvOf y x.id x.rights x.badge).thing = x.thing ∧ (dvOf y x.id x.rights x.badge).badge = x.badge → cfOf x y = 0) ∧ (¬ ((dvOf y x.id x.rights x.badge).thing = x.thing ∧ (dvOf y x.id x.rights x.badge).badge = x.badge) → cfOf x y = 7) := by
  intro hd
  have hc : cfOf x y = if y.thing = x.thing ∧ (y.badge = 0 ∨ y.badge = x.badge) then 0 else 7 := by unfold cfOf; rw [if_neg (fun h => h hd)]
  rw [hc]
  by_cases hb : y.badge = 0
  · have hv : dvOf y x.id x.rights x.badge = ⟨x.id, y.thing, x.rights, x.badge, y.id⟩ := by unfold dvOf; rw [if_neg (fun h => h hd), if_pos hb]
    rw [hv]
    refine ⟨rfl, rfl, he, fun h => ?_, fun h => ?_⟩
    · rw [if_pos ⟨h.1, .inl hb⟩]
    · rw [if_neg (fun h2 => h ⟨h2.1, rfl⟩)]
  · have hv : dvOf y x.id x.rights x.badge = ⟨x.id, y.thing, x.rights, y.badge, y.id⟩ := by unfold dvOf; rw [if_neg (fun h => h hd), if_neg hb]
    rw [hv]
    refine ⟨rfl, rfl, he, fun h => ?_, fun h => ?_⟩
    · rw [if_pos ⟨h.1, .inr h.2⟩]
    · rw [if_neg (fun h2 => h ⟨h2.1, h2.2.resolve_left hb⟩)]
theorem dv_bad {x y : Wr} (hd : ¬ drvCode y x.rights x.badge = 0) : 0 < drvCode y x.rights x.badge ∧ cfOf x y = drvCode y x.rights x.badge := by
  refine ⟨drvCode_pos hd, ?_⟩
  unfold cfOf; rw [if_pos hd]
theorem chk_is {l : List Wr} {k : Nat} {x : Wr} {n : Int} (hx : l[k]? = some x) (h : chkFrom l (l.length - k) k = chk l) (h0 : ckCode l k x = n) (hn : ¬ n = 0) : chk l = n := by
  rcases chk_stop (t := 0) hx h h0 hn with ⟨h1, h2⟩ | ⟨_, h2⟩
  · cases h2
  · injection h2 with _ h3; injection h3 with _ h4; exact h4.symm
theorem okNext {l : List Wr} {k : Nat} {x : Wr} (h : ∀ j y, j < k → l[j]? = some y → wrOk y) (hx : l[k]? = some x) (hok : wrOk x) : ∀ j y, j < k + 1 → l[j]? = some y → wrOk y := by
  intro j y hj hy
  by_cases e : j = k
  · subst e; rw [hx] at hy; cases hy; exact hok
  · exact h j y (by omega) hy
theorem findWrit_bel (b o c : Nat) (l : List Wr) (id : Int) (k : Nat) (n : Int) (v : World) (hk : (l.take k).length = k) (hw : WrsAt v (some ⟨b, o, none⟩) (l.take k)) (hm : l.length ≤ 1000) (hn : find (l.take k) id = n) :
    Calls Try.prog 21 #[.slice (some ⟨b, o, none⟩) k c, .int .i64 id] v fun e w' => e = .returned (.int .i64 n) ∧ Below v.heap.size v w' := by
  have h := findWrit_any (some ⟨b, o, none⟩) c (l.take k) id v hw (by rw [List.length_take]; omega)
  rw [hk, hn] at h
  refine h.mono ?_
  rintro e w1 ⟨rfl, hq⟩
  obtain rfl := hq.symm
  exact ⟨rfl, Below.refl _ _⟩
set_option maxHeartbeats 8000000 in
set_option maxRecDepth 100000 in
theorem treeFault_some (b o c : Nat) (l : List Wr) (w : World) (hw : ∀ j x, l[j]? = some x → WrAt w b (o + j * 5) x) (hb : b < w.heap.size) (hm : l.length ≤ 1000) (hcap : l.length ≤ c) (hc63 : c ≤ maxLen) :
    Calls Try.prog 24 #[.slice (some ⟨b, o, none⟩) l.length c] w fun e w' => e = .returned (.int .i64 (chk l)) ∧ Below w.heap.size w w' := by
  unfold maxLen at hc63
  go_enter Try.func24, Try.ntmps24
  go_wp2_with fail
  go_loopw [3] (fun i wr => ∃ k : Nat, k ≤ l.length ∧ i = .int .i64 k ∧ Hid (chkFrom l (l.length - k) k = chk l) ∧ Hid (∀ j y, j < k → l[j]? = some y → wrOk y) ∧ Below w.heap.size w wr) (fun i _ => l.length - (intOf i).toNat)
  case atStart => exact ⟨0, Nat.zero_le _, rfl, (show Hid _ from rfl), (show Hid _ from fun j y h => by omega), Below.refl _ _⟩
  case round =>
    obtain ⟨k, hk, rfl, hn, HO, hbl⟩ := hrel
    by_cases hlt : k < l.length
    · obtain ⟨x, hx⟩ : ∃ x, l[k]? = some x := ⟨l[k], List.getElem?_eq_getElem hlt⟩
      obtain ⟨q1, q2, q3, q4, q5⟩ := (hw k x hx).below hbl hb
      have HX : Hid (l[k]? = some x) := hx
      have hbz : b < wr.heap.size := Nat.lt_of_lt_of_le hb hbl.size
      clear hx
      by_cases hok : wrOk x
      · cases k with
        | zero =>
          have e0 : o + 0 * 5 = o := by omega
          rw [e0] at q1 q2 q3 q4 q5
          have HS : Hid (shapeBad l 0 x = false) := (show Hid _ from rfl)
          go_wp2_with fail
          refine (writFault_any x _ 0 (.inl ⟨hok, rfl⟩)).mono ?_
          rintro e w1 ⟨rfl, hb1⟩
          have bl1 : Below w.heap.size w w1 := Below_after hbl hb1
          have px := (hw 0 x HX.out).below bl1 hb
          rw [e0] at px
          have hbz1 : b < w1.heap.size := Nat.lt_of_lt_of_le hb bl1.size
          have sz1 : ∀ m, SZ b o o x x (w1.drewN m) := fun m => SZ_below (below_drewN (Below.refl _ _) m) (SZ_mk px px hbz1)
          obtain ⟨p1, p2, p3, p4, p5⟩ := px
          clear hb1 q1 q2 q3 q4 q5
          by_cases hf : x.frm = 0
          · have d1 : (x.frm == 0) = true := by simp [hf]
            have HC : Hid (cfCode (l.take 0) x = 0) := by show cfCode _ x = 0; unfold cfCode; rw [if_pos hf]
            clear hf sz1 hw
            go_wp2_with fail
            go_quiet (fail)
            go_wp2_with fail
            go_roundw
            case rel => exact ⟨0 + 1, by omega, by go_num, (show Hid _ from chk_next HX.out hn.out (ckCode_cf HX.out hok HS.out HC.out)), (show Hid _ from okNext HO.out HX.out hok), below_drewN bl1 _⟩
            case measure => simp [intOf]; omega
          · have d1 : (x.frm == 0) = false := by simp [hf]
            have HF : Hid (¬ x.frm = 0) := hf
            have hcon : ∀ v, Below w.heap.size w v → Calls Try.prog 21 #[.slice (some ⟨b, o, none⟩) 0 c, .int .i64 x.frm] v fun e w' => e = .returned (.int .i64 (-1)) ∧ Below v.heap.size v w' :=
              fun v hv => findWrit_bel b o c l x.frm 0 (-1) v (by simp) (WrsTake (Nat.lt_of_lt_of_le hb hv.size) (fun j y hy => (hw j y hy).below hv hb) _) hm rfl
            have HC : Hid (cfCode (l.take 0) x = 5) := by show cfCode _ x = 5; unfold cfCode; rw [if_neg hf]; rfl
            clear hf hw
            go_wp2_with fail
            go_quiet (fail)
            go_wp2_with fail
            refine wp_region_held_drew (S := SZ b o o x x) (by kernel_rfl) ?_ (fun hHeld => ?_)
            · first | exact sz1 _ | exact sz1 0
            refine wpAnyH_take (i := 0) (oi := ({ dst := some 44, op := Op.move (Operand.tmp 0), type := 35, pos := "parts.go:292", after := #[], guard := none } : Oper)) (v := .slice (some ⟨b, o, none⟩) l.length c) rfl (by kernel_rfl) (by kernel_rfl) (by kernel_rfl) (fun _ _ _ h => h) (Or.inl ⟨by rfl, ?_⟩) (by assumption) ?_
            · intro w hSw; (try dsimp only at hSw); go_simp
            (try simp only [Act.put, List.setIfInBounds_toArray, List.set_cons_zero, List.set_cons_succ])
            refine wpAnyH_take (i := 1) (oi := ({ dst := some 45, op := Op.move (Operand.tmp 3), type := 3, pos := "parts.go:292", after := #[], guard := none } : Oper)) (v := .int .i64 ((0 : Nat) : Int)) rfl (by kernel_rfl) (by kernel_rfl) (by kernel_rfl) (fun _ _ _ h => h) (Or.inl ⟨by rfl, ?_⟩) (by assumption) ?_
            · intro w hSw; (try dsimp only at hSw); go_simp
            (try simp only [Act.put, List.setIfInBounds_toArray, List.set_cons_zero, List.set_cons_succ])
            refine wpAnyH_take (i := 2) (oi := ({ dst := some 46, op := Op.slice 35 (Operand.tmp 44) none (some (Operand.tmp 45)) none, type := 35, pos := "parts.go:292", after := #[{ on := 0, ground := Ground.data }, { on := 1, ground := Ground.data }], guard := none } : Oper)) (v := .slice (some ⟨b, o, none⟩) 0 c) rfl (by kernel_rfl) (by kernel_rfl) (by kernel_rfl) (fun _ _ _ h => h) (Or.inl ⟨by rfl, ?_⟩) (by assumption) ?_
            · intro w hSw; (try dsimp only at hSw); go_simp <;> (intro hh; exfalso; have := hh (by omega); omega)
            (try simp only [Act.put, List.setIfInBounds_toArray, List.set_cons_zero, List.set_cons_succ])
            refine wpAnyH_take (i := 3) (oi := ({ dst := some 47, op := Op.move (Operand.tmp 0), type := 35, pos := "parts.go:292", after := #[], guard := none } : Oper)) (v := .slice (some ⟨b, o, none⟩) l.length c) rfl (by kernel_rfl) (by kernel_rfl) (by kernel_rfl) (fun _ _ _ h => h) (Or.inl ⟨by rfl, ?_⟩) (by assumption) ?_
            · intro w hSw; (try dsimp only at hSw); go_simp
            (try simp only [Act.put, List.setIfInBounds_toArray, List.set_cons_zero, List.set_cons_succ])
            refine wpAnyH_take (i := 4) (oi := ({ dst := some 48, op := Op.move (Operand.tmp 3), type := 3, pos := "parts.go:292", after := #[], guard := none } : Oper)) (v := .int .i64 ((0 : Nat) : Int)) rfl (by kernel_rfl) (by kernel_rfl) (by kernel_rfl) (fun _ _ _ h => h) (Or.inl ⟨by rfl, ?_⟩) (by assumption) ?_
            · intro w hSw; (try dsimp only at hSw); go_simp
            (try simp only [Act.put, List.setIfInBounds_toArray, List.set_cons_zero, List.set_cons_succ])
            refine wpAnyH_take (i := 5) (oi := ({ dst := some 49, op := Op.indexAddr 35 (Operand.tmp 47) (Operand.tmp 48), type := 0, pos := "parts.go:292", after := #[{ on := 3, ground := Ground.data }, { on := 4, ground := Ground.data }], guard := none } : Oper)) (v := .pointer (some ⟨b, o, none⟩)) rfl (by kernel_rfl) (by kernel_rfl) (by kernel_rfl) (fun _ _ _ h => h) (Or.inl ⟨by rfl, ?_⟩) (by assumption) ?_
            · intro w hSw; (try dsimp only at hSw); go_simp
            (try simp only [Act.put, List.setIfInBounds_toArray, List.set_cons_zero, List.set_cons_succ])
            refine wpAnyH_take (i := 6) (oi := ({ dst := some 50, op := Op.fieldAddr 34 (Operand.tmp 49) 4, type := 0, pos := "parts.go:292", after := #[{ on := 5, ground := Ground.data }], guard := none } : Oper)) (v := .pointer (some ⟨b, o + 4, none⟩)) rfl (by kernel_rfl) (by kernel_rfl) (by kernel_rfl) (fun _ _ _ h => h) (Or.inl ⟨by rfl, ?_⟩) (by assumption) ?_
            · intro w hSw; (try dsimp only at hSw); go_simp
            (try simp only [Act.put, List.setIfInBounds_toArray, List.set_cons_zero, List.set_cons_succ])
            refine wpAnyH_take (i := 7) (oi := ({ dst := some 51, op := Op.load 3 (Operand.tmp 50), type := 3, pos := "parts.go:292", after := #[{ on := 6, ground := Ground.data }], guard := none } : Oper)) (v := .int .i64 x.frm) rfl (by kernel_rfl) (by kernel_rfl) (by kernel_rfl) (fun _ _ _ h => h) (Or.inl ⟨by rfl, ?_⟩) (by assumption) ?_
            · intro w hSw; (try dsimp only at hSw); go_simp
            (try simp only [Act.put, List.setIfInBounds_toArray, List.set_cons_zero, List.set_cons_succ])
            refine wpAnyH_ready (rs := [8]) (by kernel_rfl) (by simp) ?_
            refine AllReadyH.cons (o := ({ dst := some 52, op := Op.call { callee := Callee.value (Operand.func 21), args := #[Operand.tmp 46, Operand.tmp 51], argTypes := #[35, 3] }, type := 3, pos := "parts.go:292", after := #[{ on := 2, ground := Ground.data }, { on := 7, ground := Ground.data }], guard := none } : Oper)) rfl (fun K hK => ?_) AllReadyH.nil
            rw [if_pos (by rfl)]
            go_wp2_with (go_at_call 21; refine (hcon _ (by repeat (first | exact bl1 | refine Below.drew ?_ | refine below_drewN ?_ _))).mono ?_; rintro e w2 ⟨rfl, hb2⟩)
            refine hK.out _ _ ?_ (fun hHeld => ?_)
            · exact SZ_below hb2 (by assumption)
            clear hK K
            (try simp only [Act.put, List.setIfInBounds_toArray, List.set_cons_zero, List.set_cons_succ])
            have bl2 : Below w.heap.size w w2 := by
              refine Below_after ?_ hb2
              repeat (first | exact bl1 | refine Below.drew ?_ | refine below_drewN ?_ _)
            clear hb2 hcon
            refine wpAnyH_ready (rs := [9]) (by kernel_rfl) (by simp) ?_
            refine AllReadyH.cons (o := ({ dst := some 5, op := Op.assign (Operand.tmp 52), type := 3, pos := "parts.go:292", after := #[{ on := 8, ground := Ground.data }, { on := 8, ground := Ground.chain }, { on := 0, ground := Ground.phase }, { on := 1, ground := Ground.phase }, { on := 2, ground := Ground.phase }, { on := 3, ground := Ground.phase }, { on := 4, ground := Ground.phase }, { on := 5, ground := Ground.phase }, { on := 6, ground := Ground.phase }, { on := 7, ground := Ground.phase }, { on := 8, ground := Ground.phase }], guard := none } : Oper)) rfl (fun K hK => ?_) AllReadyH.nil
            rw [if_pos (by rfl)]
            go_wp2_with fail
            refine hK.out _ _ ?_ (fun hHeld => ?_)
            · assumption
            clear hK K
            (try simp only [Act.put, List.setIfInBounds_toArray, List.set_cons_zero, List.set_cons_succ])
            refine wpAnyH_done (by kernel_rfl) ?_ _
            go_wp2_with fail
            go_ret
            exact ⟨retInt (chk_is HX.out hn.out (ckCode_cf HX.out hok HS.out HC.out) (by decide)).symm, bl2⟩
        | succ jp =>
          obtain ⟨u, hu⟩ : ∃ u, l[jp]? = some u := ⟨l[jp], List.getElem?_eq_getElem (by omega)⟩
          have HU : Hid (l[jp]? = some u) := hu
          clear hu
          have dk : decide ((0 : Int) < ((jp + 1 : Nat) : Int)) = true := by simp <;> omega
          go_wp2_with fail
          refine (writFault_any x _ 0 (.inl ⟨hok, rfl⟩)).mono ?_
          rintro e w1 ⟨rfl, hb1⟩
          have bl1 : Below w.heap.size w w1 := Below_after hbl hb1
          have px := (hw (jp + 1) x HX.out).below bl1 hb
          have hbz1 : b < w1.heap.size := Nat.lt_of_lt_of_le hb bl1.size
          have sz1 : ∀ m, SZ b (o + (jp + 1) * 5) (o + (jp + 1) * 5) x x (w1.drewN m) := fun m => SZ_below (below_drewN (Below.refl _ _) m) (SZ_mk px px hbz1)
          obtain ⟨p1, p2, p3, p4, p5⟩ := px
          obtain ⟨r1, r2, r3, r4, r5⟩ := (hw _ u HU.out).below bl1 hb
          clear hb1 q1 q2 q3 q4 q5
          by_cases h1 : x.id ≤ u.id
          · have f1 : decide (x.id ≤ u.id) = true := decide_eq_true h1
            have HS : Hid (shapeBad l (jp + 1) x = true) := by show shapeBad l (jp + 1) x = true; rw [shapeBad_succ HU.out]; exact f1
            clear h1 hw sz1
            go_wp2_with fail
            go_quiet (fail)
            go_wp2_with fail
            go_ret
            exact ⟨retInt (chk_is HX.out hn.out (ckCode_shape hok HS.out) (by decide)).symm, below_drewN bl1 _⟩
          · have f1 : decide (x.id ≤ u.id) = false := decide_eq_false h1
            have HS : Hid (shapeBad l (jp + 1) x = false) := by show shapeBad l (jp + 1) x = false; rw [shapeBad_succ HU.out]; exact f1
            clear h1
            by_cases hf : x.frm = 0
            · have d1 : (x.frm == 0) = true := by simp [hf]
              have HC : Hid (cfCode (l.take (jp + 1)) x = 0) := by show cfCode _ x = 0; unfold cfCode; rw [if_pos hf]
              clear hf sz1 hw
              go_wp2_with fail
              go_quiet (fail)
              go_wp2_with fail
              go_roundw
              case rel => exact ⟨(jp + 1) + 1, by omega, by go_num, (show Hid _ from chk_next HX.out hn.out (ckCode_cf HX.out hok HS.out HC.out)), (show Hid _ from okNext HO.out HX.out hok), below_drewN bl1 _⟩
              case measure => simp [intOf]; omega
            · have d1 : (x.frm == 0) = false := by simp [hf]
              have HF : Hid (¬ x.frm = 0) := hf
              have hkt : (l.take (jp + 1)).length = (jp + 1) := by simp <;> omega
              have hbd := find_bd (l.take (jp + 1)) x.frm
              rw [hkt] at hbd
              by_cases hneg : find (l.take (jp + 1)) x.frm < 0
              · have hm1 : find (l.take (jp + 1)) x.frm = -1 := by omega
                have hcon : ∀ v, Below w.heap.size w v → Calls Try.prog 21 #[.slice (some ⟨b, o, none⟩) (jp + 1) c, .int .i64 x.frm] v fun e w' => e = .returned (.int .i64 (-1)) ∧ Below v.heap.size v w' :=
                  fun v hv => findWrit_bel b o c l x.frm (jp + 1) (-1) v hkt (WrsTake (Nat.lt_of_lt_of_le hb hv.size) (fun j y hy => (hw j y hy).below hv hb) _) hm hm1
                have HC : Hid (cfCode (l.take (jp + 1)) x = 5) := by show cfCode _ x = 5; unfold cfCode; rw [if_neg hf, if_pos hneg]
                clear hf hw hneg hm1 hbd hkt
                go_wp2_with fail
                go_quiet (fail)
                go_wp2_with fail
                refine wp_region_held_drew (S := SZ b (o + (jp + 1) * 5) (o + (jp + 1) * 5) x x) (by kernel_rfl) ?_ (fun hHeld => ?_)
                · first | exact sz1 _ | exact sz1 0
                refine wpAnyH_take (i := 0) (oi := ({ dst := some 44, op := Op.move (Operand.tmp 0), type := 35, pos := "parts.go:292", after := #[], guard := none } : Oper)) (v := .slice (some ⟨b, o, none⟩) l.length c) rfl (by kernel_rfl) (by kernel_rfl) (by kernel_rfl) (fun _ _ _ h => h) (Or.inl ⟨by rfl, ?_⟩) (by assumption) ?_
                · intro w hSw; (try dsimp only at hSw); go_simp
                (try simp only [Act.put, List.setIfInBounds_toArray, List.set_cons_zero, List.set_cons_succ])
                refine wpAnyH_take (i := 1) (oi := ({ dst := some 45, op := Op.move (Operand.tmp 3), type := 3, pos := "parts.go:292", after := #[], guard := none } : Oper)) (v := .int .i64 (((jp + 1) : Nat) : Int)) rfl (by kernel_rfl) (by kernel_rfl) (by kernel_rfl) (fun _ _ _ h => h) (Or.inl ⟨by rfl, ?_⟩) (by assumption) ?_
                · intro w hSw; (try dsimp only at hSw); go_simp
                (try simp only [Act.put, List.setIfInBounds_toArray, List.set_cons_zero, List.set_cons_succ])
                refine wpAnyH_take (i := 2) (oi := ({ dst := some 46, op := Op.slice 35 (Operand.tmp 44) none (some (Operand.tmp 45)) none, type := 35, pos := "parts.go:292", after := #[{ on := 0, ground := Ground.data }, { on := 1, ground := Ground.data }], guard := none } : Oper)) (v := .slice (some ⟨b, o, none⟩) (jp + 1) c) rfl (by kernel_rfl) (by kernel_rfl) (by kernel_rfl) (fun _ _ _ h => h) (Or.inl ⟨by rfl, ?_⟩) (by assumption) ?_
                · intro w hSw; (try dsimp only at hSw); go_simp <;> (intro hh; exfalso; have := hh (by omega); omega)
                (try simp only [Act.put, List.setIfInBounds_toArray, List.set_cons_zero, List.set_cons_succ])
                refine wpAnyH_take (i := 3) (oi := ({ dst := some 47, op := Op.move (Operand.tmp 0), type := 35, pos := "parts.go:292", after := #[], guard := none } : Oper)) (v := .slice (some ⟨b, o, none⟩) l.length c) rfl (by kernel_rfl) (by kernel_rfl) (by kernel_rfl) (fun _ _ _ h => h) (Or.inl ⟨by rfl, ?_⟩) (by assumption) ?_
                · intro w hSw; (try dsimp only at hSw); go_simp
                (try simp only [Act.put, List.setIfInBounds_toArray, List.set_cons_zero, List.set_cons_succ])
                refine wpAnyH_take (i := 4) (oi := ({ dst := some 48, op := Op.move (Operand.tmp 3), type := 3, pos := "parts.go:292", after := #[], guard := none } : Oper)) (v := .int .i64 (((jp + 1) : Nat) : Int)) rfl (by kernel_rfl) (by kernel_rfl) (by kernel_rfl) (fun _ _ _ h => h) (Or.inl ⟨by rfl, ?_⟩) (by assumption) ?_
                · intro w hSw; (try dsimp only at hSw); go_simp
                (try simp only [Act.put, List.setIfInBounds_toArray, List.set_cons_zero, List.set_cons_succ])
                refine wpAnyH_take (i := 5) (oi := ({ dst := some 49, op := Op.indexAddr 35 (Operand.tmp 47) (Operand.tmp 48), type := 0, pos := "parts.go:292", after := #[{ on := 3, ground := Ground.data }, { on := 4, ground := Ground.data }], guard := none } : Oper)) (v := .pointer (some ⟨b, o + (jp + 1) * 5, none⟩)) rfl (by kernel_rfl) (by kernel_rfl) (by kernel_rfl) (fun _ _ _ h => h) (Or.inl ⟨by rfl, ?_⟩) (by assumption) ?_
                · intro w hSw; (try dsimp only at hSw); go_simp <;> (intro hh; exfalso; omega)
                (try simp only [Act.put, List.setIfInBounds_toArray, List.set_cons_zero, List.set_cons_succ])
                refine wpAnyH_take (i := 6) (oi := ({ dst := some 50, op := Op.fieldAddr 34 (Operand.tmp 49) 4, type := 0, pos := "parts.go:292", after := #[{ on := 5, ground := Ground.data }], guard := none } : Oper)) (v := .pointer (some ⟨b, (o + (jp + 1) * 5) + 4, none⟩)) rfl (by kernel_rfl) (by kernel_rfl) (by kernel_rfl) (fun _ _ _ h => h) (Or.inl ⟨by rfl, ?_⟩) (by assumption) ?_
                · intro w hSw; (try dsimp only at hSw); go_simp
                (try simp only [Act.put, List.setIfInBounds_toArray, List.set_cons_zero, List.set_cons_succ])
                refine wpAnyH_take (i := 7) (oi := ({ dst := some 51, op := Op.load 3 (Operand.tmp 50), type := 3, pos := "parts.go:292", after := #[{ on := 6, ground := Ground.data }], guard := none } : Oper)) (v := .int .i64 x.frm) rfl (by kernel_rfl) (by kernel_rfl) (by kernel_rfl) (fun _ _ _ h => h) (Or.inl ⟨by rfl, ?_⟩) (by assumption) ?_
                · intro w hSw; (try dsimp only at hSw); go_simp
                (try simp only [Act.put, List.setIfInBounds_toArray, List.set_cons_zero, List.set_cons_succ])
                refine wpAnyH_ready (rs := [8]) (by kernel_rfl) (by simp) ?_
                refine AllReadyH.cons (o := ({ dst := some 52, op := Op.call { callee := Callee.value (Operand.func 21), args := #[Operand.tmp 46, Operand.tmp 51], argTypes := #[35, 3] }, type := 3, pos := "parts.go:292", after := #[{ on := 2, ground := Ground.data }, { on := 7, ground := Ground.data }], guard := none } : Oper)) rfl (fun K hK => ?_) AllReadyH.nil
                rw [if_pos (by rfl)]
                go_wp2_with (go_at_call 21; refine (hcon _ (by repeat (first | exact bl1 | refine Below.drew ?_ | refine below_drewN ?_ _))).mono ?_; rintro e w2 ⟨rfl, hb2⟩)
                refine hK.out _ _ ?_ (fun hHeld => ?_)
                · exact SZ_below hb2 (by assumption)
                clear hK K
                (try simp only [Act.put, List.setIfInBounds_toArray, List.set_cons_zero, List.set_cons_succ])
                have bl2 : Below w.heap.size w w2 := by
                  refine Below_after ?_ hb2
                  repeat (first | exact bl1 | refine Below.drew ?_ | refine below_drewN ?_ _)
                clear hb2 hcon
                refine wpAnyH_ready (rs := [9]) (by kernel_rfl) (by simp) ?_
                refine AllReadyH.cons (o := ({ dst := some 5, op := Op.assign (Operand.tmp 52), type := 3, pos := "parts.go:292", after := #[{ on := 8, ground := Ground.data }, { on := 8, ground := Ground.chain }, { on := 0, ground := Ground.phase }, { on := 1, ground := Ground.phase }, { on := 2, ground := Ground.phase }, { on := 3, ground := Ground.phase }, { on := 4, ground := Ground.phase }, { on := 5, ground := Ground.phase }, { on := 6, ground := Ground.phase }, { on := 7, ground := Ground.phase }, { on := 8, ground := Ground.phase }], guard := none } : Oper)) rfl (fun K hK => ?_) AllReadyH.nil
                rw [if_pos (by rfl)]
                go_wp2_with fail
                refine hK.out _ _ ?_ (fun hHeld => ?_)
                · assumption
                clear hK K
                (try simp only [Act.put, List.setIfInBounds_toArray, List.set_cons_zero, List.set_cons_succ])
                refine wpAnyH_done (by kernel_rfl) ?_ _
                go_wp2_with fail
                go_ret
                exact ⟨retInt (chk_is HX.out hn.out (ckCode_cf HX.out hok HS.out HC.out) (by decide)).symm, bl2⟩
              · obtain ⟨j, hj⟩ : ∃ j : Nat, find (l.take (jp + 1)) x.frm = (j : Int) := ⟨_, (Int.toNat_of_nonneg (by omega)).symm⟩
                obtain ⟨y, hy, hye⟩ := find_get hj
                have hjk : j < jp + 1 := by omega
                have hy' : l[j]? = some y := by rw [List.getElem?_take, if_pos hjk] at hy; exact hy
                have HJ : Hid (find (l.take (jp + 1)) x.frm = (j : Int) ∧ (l.take (jp + 1))[j]? = some y) := ⟨hj, hy⟩
                have hcon : ∀ v, Below w.heap.size w v → Calls Try.prog 21 #[.slice (some ⟨b, o, none⟩) (jp + 1) c, .int .i64 x.frm] v fun e w' => e = .returned (.int .i64 (j : Int)) ∧ Below v.heap.size v w' :=
                  fun v hv => findWrit_bel b o c l x.frm (jp + 1) (j : Int) v hkt (WrsTake (Nat.lt_of_lt_of_le hb hv.size) (fun j y hy => (hw j y hy).below hv hb) _) hm hj
                have hyok := HO.out j y hjk hy'
                have hder : ∀ v, Calls Try.prog 22 #[.agg #[.int .i64 y.id, .int .i64 y.thing, .int .i64 y.rights, .int .i64 y.badge, .int .i64 y.frm], .int .i64 x.id, .int .i64 x.rights, .int .i64 x.badge] v fun e w' => e = .returned (.tuple #[.agg #[.int .i64 (dvOf y x.id x.rights x.badge).id, .int .i64 (dvOf y x.id x.rights x.badge).thing, .int .i64 (dvOf y x.id x.rights x.badge).rights, .int .i64 (dvOf y x.id x.rights x.badge).badge, .int .i64 (dvOf y x.id x.rights x.badge).frm], .int .i64 (drvCode y x.rights x.badge)]) ∧ Below v.heap.size v w' :=
                  fun v => derived_any y x.id x.rights x.badge v hyok.2.2.2.2.2.2.2.2.1 hyok.2.2.2.2.2.2.2.2.2
                have hdf := dv_facts hye
                have hdb : ¬ drvCode y x.rights x.badge = 0 → 0 < drvCode y x.rights x.badge ∧ cfOf x y = drvCode y x.rights x.badge := dv_bad
                generalize dvOf y x.id x.rights x.badge = dv at hder hdf
                generalize drvCode y x.rights x.badge = d at hder hdf hdb
                have HD : Hid (d = 0 → dv.id = x.id ∧ dv.rights = x.rights ∧ dv.frm = x.frm ∧ (dv.thing = x.thing ∧ dv.badge = x.badge → cfOf x y = 0) ∧ (¬ (dv.thing = x.thing ∧ dv.badge = x.badge) → cfOf x y = 7)) := hdf
                have HDP : Hid (¬ d = 0 → 0 < d ∧ cfOf x y = d) := hdb
                have HW : Hid (∀ j x, l[j]? = some x → WrAt w b (o + j * 5) x) := hw
                have HY : Hid (l[j]? = some y) := hy'
                have hjl : j < l.length := by omega
                clear hf hw hneg hbd hkt hj hy hy' hye hyok hdf hdb
                go_wp2_with fail
                go_quiet (fail)
                go_wp2_with fail
                refine wp_region_held_drew (S := SZ b (o + (jp + 1) * 5) (o + (jp + 1) * 5) x x) (by kernel_rfl) ?_ (fun hHeld => ?_)
                · first | exact sz1 _ | exact sz1 0
                refine wpAnyH_take (i := 0) (oi := ({ dst := some 44, op := Op.move (Operand.tmp 0), type := 35, pos := "parts.go:292", after := #[], guard := none } : Oper)) (v := .slice (some ⟨b, o, none⟩) l.length c) rfl (by kernel_rfl) (by kernel_rfl) (by kernel_rfl) (fun _ _ _ h => h) (Or.inl ⟨by rfl, ?_⟩) (by assumption) ?_
                · intro w hSw; (try dsimp only at hSw); go_simp
                (try simp only [Act.put, List.setIfInBounds_toArray, List.set_cons_zero, List.set_cons_succ])
                refine wpAnyH_take (i := 1) (oi := ({ dst := some 45, op := Op.move (Operand.tmp 3), type := 3, pos := "parts.go:292", after := #[], guard := none } : Oper)) (v := .int .i64 (((jp + 1) : Nat) : Int)) rfl (by kernel_rfl) (by kernel_rfl) (by kernel_rfl) (fun _ _ _ h => h) (Or.inl ⟨by rfl, ?_⟩) (by assumption) ?_
                · intro w hSw; (try dsimp only at hSw); go_simp
                (try simp only [Act.put, List.setIfInBounds_toArray, List.set_cons_zero, List.set_cons_succ])
                refine wpAnyH_take (i := 2) (oi := ({ dst := some 46, op := Op.slice 35 (Operand.tmp 44) none (some (Operand.tmp 45)) none, type := 35, pos := "parts.go:292", after := #[{ on := 0, ground := Ground.data }, { on := 1, ground := Ground.data }], guard := none } : Oper)) (v := .slice (some ⟨b, o, none⟩) (jp + 1) c) rfl (by kernel_rfl) (by kernel_rfl) (by kernel_rfl) (fun _ _ _ h => h) (Or.inl ⟨by rfl, ?_⟩) (by assumption) ?_
                · intro w hSw; (try dsimp only at hSw); go_simp <;> (intro hh; exfalso; have := hh (by omega); omega)
                (try simp only [Act.put, List.setIfInBounds_toArray, List.set_cons_zero, List.set_cons_succ])
                refine wpAnyH_take (i := 3) (oi := ({ dst := some 47, op := Op.move (Operand.tmp 0), type := 35, pos := "parts.go:292", after := #[], guard := none } : Oper)) (v := .slice (some ⟨b, o, none⟩) l.length c) rfl (by kernel_rfl) (by kernel_rfl) (by kernel_rfl) (fun _ _ _ h => h) (Or.inl ⟨by rfl, ?_⟩) (by assumption) ?_
                · intro w hSw; (try dsimp only at hSw); go_simp
                (try simp only [Act.put, List.setIfInBounds_toArray, List.set_cons_zero, List.set_cons_succ])
                refine wpAnyH_take (i := 4) (oi := ({ dst := some 48, op := Op.move (Operand.tmp 3), type := 3, pos := "parts.go:292", after := #[], guard := none } : Oper)) (v := .int .i64 (((jp + 1) : Nat) : Int)) rfl (by kernel_rfl) (by kernel_rfl) (by kernel_rfl) (fun _ _ _ h => h) (Or.inl ⟨by rfl, ?_⟩) (by assumption) ?_
                · intro w hSw; (try dsimp only at hSw); go_simp
                (try simp only [Act.put, List.setIfInBounds_toArray, List.set_cons_zero, List.set_cons_succ])
                refine wpAnyH_take (i := 5) (oi := ({ dst := some 49, op := Op.indexAddr 35 (Operand.tmp 47) (Operand.tmp 48), type := 0, pos := "parts.go:292", after := #[{ on := 3, ground := Ground.data }, { on := 4, ground := Ground.data }], guard := none } : Oper)) (v := .pointer (some ⟨b, o + (jp + 1) * 5, none⟩)) rfl (by kernel_rfl) (by kernel_rfl) (by kernel_rfl) (fun _ _ _ h => h) (Or.inl ⟨by rfl, ?_⟩) (by assumption) ?_
                · intro w hSw; (try dsimp only at hSw); go_simp <;> (intro hh; exfalso; omega)
                (try simp only [Act.put, List.setIfInBounds_toArray, List.set_cons_zero, List.set_cons_succ])
                refine wpAnyH_take (i := 6) (oi := ({ dst := some 50, op := Op.fieldAddr 34 (Operand.tmp 49) 4, type := 0, pos := "parts.go:292", after := #[{ on := 5, ground := Ground.data }], guard := none } : Oper)) (v := .pointer (some ⟨b, (o + (jp + 1) * 5) + 4, none⟩)) rfl (by kernel_rfl) (by kernel_rfl) (by kernel_rfl) (fun _ _ _ h => h) (Or.inl ⟨by rfl, ?_⟩) (by assumption) ?_
                · intro w hSw; (try dsimp only at hSw); go_simp
                (try simp only [Act.put, List.setIfInBounds_toArray, List.set_cons_zero, List.set_cons_succ])
                refine wpAnyH_take (i := 7) (oi := ({ dst := some 51, op := Op.load 3 (Operand.tmp 50), type := 3, pos := "parts.go:292", after := #[{ on := 6, ground := Ground.data }], guard := none } : Oper)) (v := .int .i64 x.frm) rfl (by kernel_rfl) (by kernel_rfl) (by kernel_rfl) (fun _ _ _ h => h) (Or.inl ⟨by rfl, ?_⟩) (by assumption) ?_
                · intro w hSw; (try dsimp only at hSw); go_simp
                (try simp only [Act.put, List.setIfInBounds_toArray, List.set_cons_zero, List.set_cons_succ])
                refine wpAnyH_ready (rs := [8]) (by kernel_rfl) (by simp) ?_
                refine AllReadyH.cons (o := ({ dst := some 52, op := Op.call { callee := Callee.value (Operand.func 21), args := #[Operand.tmp 46, Operand.tmp 51], argTypes := #[35, 3] }, type := 3, pos := "parts.go:292", after := #[{ on := 2, ground := Ground.data }, { on := 7, ground := Ground.data }], guard := none } : Oper)) rfl (fun K hK => ?_) AllReadyH.nil
                rw [if_pos (by rfl)]
                go_wp2_with (go_at_call 21; refine (hcon _ (by repeat (first | exact bl1 | refine Below.drew ?_ | refine below_drewN ?_ _))).mono ?_; rintro e w2 ⟨rfl, hb2⟩)
                refine hK.out _ _ ?_ (fun hHeld => ?_)
                · exact SZ_below hb2 (by assumption)
                clear hK K
                (try simp only [Act.put, List.setIfInBounds_toArray, List.set_cons_zero, List.set_cons_succ])
                have bl2 : Below w.heap.size w w2 := by
                  refine Below_after ?_ hb2
                  repeat (first | exact bl1 | refine Below.drew ?_ | refine below_drewN ?_ _)
                clear hb2 hcon
                refine wpAnyH_ready (rs := [9]) (by kernel_rfl) (by simp) ?_
                refine AllReadyH.cons (o := ({ dst := some 5, op := Op.assign (Operand.tmp 52), type := 3, pos := "parts.go:292", after := #[{ on := 8, ground := Ground.data }, { on := 8, ground := Ground.chain }, { on := 0, ground := Ground.phase }, { on := 1, ground := Ground.phase }, { on := 2, ground := Ground.phase }, { on := 3, ground := Ground.phase }, { on := 4, ground := Ground.phase }, { on := 5, ground := Ground.phase }, { on := 6, ground := Ground.phase }, { on := 7, ground := Ground.phase }, { on := 8, ground := Ground.phase }], guard := none } : Oper)) rfl (fun K hK => ?_) AllReadyH.nil
                rw [if_pos (by rfl)]
                go_wp2_with fail
                refine hK.out _ _ ?_ (fun hHeld => ?_)
                · assumption
                clear hK K
                (try simp only [Act.put, List.setIfInBounds_toArray, List.set_cons_zero, List.set_cons_succ])
                refine wpAnyH_done (by kernel_rfl) ?_ _
                have hbz2 : b < w2.heap.size := Nat.lt_of_lt_of_le hb bl2.size
                have sz2 : SZ b (o + j * 5) (o + (jp + 1) * 5) y x w2 := SZ_mk ((HW.out j y HY.out).below bl2 hb) ((HW.out (jp + 1) x HX.out).below bl2 hb) hbz2
                have sz2' : SZ b (o + j * 5) (o + (jp + 1) * 5) y x w2.drew := SZ_below (Below.drew (Below.refl _ _)) sz2
                clear p1 p2 p3 p4 p5 r1 r2 r3 r4 r5 sz1 bl1 hHeld
                go_wp2_with fail
                refine wp_region_held_drew (S := SZ b (o + j * 5) (o + (jp + 1) * 5) y x) (by kernel_rfl) ?_ (fun hHeld => ?_)
                · exact sz2
                refine wpAnyH_take (i := 0) (oi := ({ dst := some 56, op := Op.move (Operand.tmp 0), type := 35, pos := "parts.go:296", after := #[], guard := none } : Oper)) (v := .slice (some ⟨b, o, none⟩) l.length c) rfl (by kernel_rfl) (by kernel_rfl) (by kernel_rfl) (fun _ _ _ h => h) (Or.inl ⟨by rfl, ?_⟩) (by assumption) ?_
                · intro w hSw; (try dsimp only at hSw); go_simp
                (try simp only [Act.put, List.setIfInBounds_toArray, List.set_cons_zero, List.set_cons_succ])
                refine wpAnyH_take (i := 1) (oi := ({ dst := some 57, op := Op.move (Operand.tmp 5), type := 3, pos := "parts.go:296", after := #[], guard := none } : Oper)) (v := .int .i64 (j : Int)) rfl (by kernel_rfl) (by kernel_rfl) (by kernel_rfl) (fun _ _ _ h => h) (Or.inl ⟨by rfl, ?_⟩) (by assumption) ?_
                · intro w hSw; (try dsimp only at hSw); go_simp
                (try simp only [Act.put, List.setIfInBounds_toArray, List.set_cons_zero, List.set_cons_succ])
                refine wpAnyH_take (i := 2) (oi := ({ dst := some 58, op := Op.indexAddr 35 (Operand.tmp 56) (Operand.tmp 57), type := 0, pos := "parts.go:296", after := #[{ on := 0, ground := Ground.data }, { on := 1, ground := Ground.data }], guard := none } : Oper)) (v := .pointer (some ⟨b, o + j * 5, none⟩)) rfl (by kernel_rfl) (by kernel_rfl) (by kernel_rfl) (fun _ _ _ h => h) (Or.inl ⟨by rfl, ?_⟩) (by assumption) ?_
                · intro w hSw; (try dsimp only at hSw); go_simp
                (try simp only [Act.put, List.setIfInBounds_toArray, List.set_cons_zero, List.set_cons_succ])
                refine wpAnyH_take (i := 3) (oi := ({ dst := some 59, op := Op.load 34 (Operand.tmp 58), type := 34, pos := "parts.go:296", after := #[{ on := 2, ground := Ground.data }], guard := none } : Oper)) (v := .agg #[.int .i64 y.id, .int .i64 y.thing, .int .i64 y.rights, .int .i64 y.badge, .int .i64 y.frm]) rfl (by kernel_rfl) (by kernel_rfl) (by kernel_rfl) (fun _ _ _ h => h) (Or.inl ⟨by rfl, ?_⟩) (by assumption) ?_
                · intro w hSw; (try dsimp only at hSw); go_simp
                (try simp only [Act.put, List.setIfInBounds_toArray, List.set_cons_zero, List.set_cons_succ])
                refine wpAnyH_take (i := 4) (oi := ({ dst := some 60, op := Op.move (Operand.tmp 0), type := 35, pos := "parts.go:296", after := #[], guard := none } : Oper)) (v := .slice (some ⟨b, o, none⟩) l.length c) rfl (by kernel_rfl) (by kernel_rfl) (by kernel_rfl) (fun _ _ _ h => h) (Or.inl ⟨by rfl, ?_⟩) (by assumption) ?_
                · intro w hSw; (try dsimp only at hSw); go_simp
                (try simp only [Act.put, List.setIfInBounds_toArray, List.set_cons_zero, List.set_cons_succ])
                refine wpAnyH_take (i := 5) (oi := ({ dst := some 61, op := Op.move (Operand.tmp 3), type := 3, pos := "parts.go:296", after := #[], guard := none } : Oper)) (v := .int .i64 (((jp + 1) : Nat) : Int)) rfl (by kernel_rfl) (by kernel_rfl) (by kernel_rfl) (fun _ _ _ h => h) (Or.inl ⟨by rfl, ?_⟩) (by assumption) ?_
                · intro w hSw; (try dsimp only at hSw); go_simp
                (try simp only [Act.put, List.setIfInBounds_toArray, List.set_cons_zero, List.set_cons_succ])
                refine wpAnyH_take (i := 6) (oi := ({ dst := some 62, op := Op.indexAddr 35 (Operand.tmp 60) (Operand.tmp 61), type := 0, pos := "parts.go:296", after := #[{ on := 4, ground := Ground.data }, { on := 5, ground := Ground.data }], guard := none } : Oper)) (v := .pointer (some ⟨b, o + (jp + 1) * 5, none⟩)) rfl (by kernel_rfl) (by kernel_rfl) (by kernel_rfl) (fun _ _ _ h => h) (Or.inl ⟨by rfl, ?_⟩) (by assumption) ?_
                · intro w hSw; (try dsimp only at hSw); go_simp <;> (intro hh; exfalso; omega)
                (try simp only [Act.put, List.setIfInBounds_toArray, List.set_cons_zero, List.set_cons_succ])
                refine wpAnyH_take (i := 7) (oi := ({ dst := some 63, op := Op.fieldAddr 34 (Operand.tmp 62) 0, type := 0, pos := "parts.go:296", after := #[{ on := 6, ground := Ground.data }], guard := none } : Oper)) (v := .pointer (some ⟨b, o + (jp + 1) * 5, none⟩)) rfl (by kernel_rfl) (by kernel_rfl) (by kernel_rfl) (fun _ _ _ h => h) (Or.inl ⟨by rfl, ?_⟩) (by assumption) ?_
                · intro w hSw; (try dsimp only at hSw); go_simp
                (try simp only [Act.put, List.setIfInBounds_toArray, List.set_cons_zero, List.set_cons_succ])
                refine wpAnyH_take (i := 8) (oi := ({ dst := some 64, op := Op.load 3 (Operand.tmp 63), type := 3, pos := "parts.go:296", after := #[{ on := 7, ground := Ground.data }], guard := none } : Oper)) (v := .int .i64 x.id) rfl (by kernel_rfl) (by kernel_rfl) (by kernel_rfl) (fun _ _ _ h => h) (Or.inl ⟨by rfl, ?_⟩) (by assumption) ?_
                · intro w hSw; (try dsimp only at hSw); go_simp
                (try simp only [Act.put, List.setIfInBounds_toArray, List.set_cons_zero, List.set_cons_succ])
                refine wpAnyH_take (i := 9) (oi := ({ dst := some 65, op := Op.move (Operand.tmp 0), type := 35, pos := "parts.go:296", after := #[], guard := none } : Oper)) (v := .slice (some ⟨b, o, none⟩) l.length c) rfl (by kernel_rfl) (by kernel_rfl) (by kernel_rfl) (fun _ _ _ h => h) (Or.inl ⟨by rfl, ?_⟩) (by assumption) ?_
                · intro w hSw; (try dsimp only at hSw); go_simp
                (try simp only [Act.put, List.setIfInBounds_toArray, List.set_cons_zero, List.set_cons_succ])
                refine wpAnyH_take (i := 10) (oi := ({ dst := some 66, op := Op.move (Operand.tmp 3), type := 3, pos := "parts.go:296", after := #[], guard := none } : Oper)) (v := .int .i64 (((jp + 1) : Nat) : Int)) rfl (by kernel_rfl) (by kernel_rfl) (by kernel_rfl) (fun _ _ _ h => h) (Or.inl ⟨by rfl, ?_⟩) (by assumption) ?_
                · intro w hSw; (try dsimp only at hSw); go_simp
                (try simp only [Act.put, List.setIfInBounds_toArray, List.set_cons_zero, List.set_cons_succ])
                refine wpAnyH_take (i := 11) (oi := ({ dst := some 67, op := Op.indexAddr 35 (Operand.tmp 65) (Operand.tmp 66), type := 0, pos := "parts.go:296", after := #[{ on := 9, ground := Ground.data }, { on := 10, ground := Ground.data }], guard := none } : Oper)) (v := .pointer (some ⟨b, o + (jp + 1) * 5, none⟩)) rfl (by kernel_rfl) (by kernel_rfl) (by kernel_rfl) (fun _ _ _ h => h) (Or.inl ⟨by rfl, ?_⟩) (by assumption) ?_
                · intro w hSw; (try dsimp only at hSw); go_simp <;> (intro hh; exfalso; omega)
                (try simp only [Act.put, List.setIfInBounds_toArray, List.set_cons_zero, List.set_cons_succ])
                refine wpAnyH_take (i := 12) (oi := ({ dst := some 68, op := Op.fieldAddr 34 (Operand.tmp 67) 2, type := 0, pos := "parts.go:296", after := #[{ on := 11, ground := Ground.data }], guard := none } : Oper)) (v := .pointer (some ⟨b, o + (jp + 1) * 5 + 2, none⟩)) rfl (by kernel_rfl) (by kernel_rfl) (by kernel_rfl) (fun _ _ _ h => h) (Or.inl ⟨by rfl, ?_⟩) (by assumption) ?_
                · intro w hSw; (try dsimp only at hSw); go_simp
                (try simp only [Act.put, List.setIfInBounds_toArray, List.set_cons_zero, List.set_cons_succ])
                refine wpAnyH_take (i := 13) (oi := ({ dst := some 69, op := Op.load 3 (Operand.tmp 68), type := 3, pos := "parts.go:296", after := #[{ on := 12, ground := Ground.data }], guard := none } : Oper)) (v := .int .i64 x.rights) rfl (by kernel_rfl) (by kernel_rfl) (by kernel_rfl) (fun _ _ _ h => h) (Or.inl ⟨by rfl, ?_⟩) (by assumption) ?_
                · intro w hSw; (try dsimp only at hSw); go_simp
                (try simp only [Act.put, List.setIfInBounds_toArray, List.set_cons_zero, List.set_cons_succ])
                refine wpAnyH_take (i := 14) (oi := ({ dst := some 70, op := Op.move (Operand.tmp 0), type := 35, pos := "parts.go:296", after := #[], guard := none } : Oper)) (v := .slice (some ⟨b, o, none⟩) l.length c) rfl (by kernel_rfl) (by kernel_rfl) (by kernel_rfl) (fun _ _ _ h => h) (Or.inl ⟨by rfl, ?_⟩) (by assumption) ?_
                · intro w hSw; (try dsimp only at hSw); go_simp
                (try simp only [Act.put, List.setIfInBounds_toArray, List.set_cons_zero, List.set_cons_succ])
                refine wpAnyH_take (i := 15) (oi := ({ dst := some 71, op := Op.move (Operand.tmp 3), type := 3, pos := "parts.go:296", after := #[], guard := none } : Oper)) (v := .int .i64 (((jp + 1) : Nat) : Int)) rfl (by kernel_rfl) (by kernel_rfl) (by kernel_rfl) (fun _ _ _ h => h) (Or.inl ⟨by rfl, ?_⟩) (by assumption) ?_
                · intro w hSw; (try dsimp only at hSw); go_simp
                (try simp only [Act.put, List.setIfInBounds_toArray, List.set_cons_zero, List.set_cons_succ])
                refine wpAnyH_take (i := 16) (oi := ({ dst := some 72, op := Op.indexAddr 35 (Operand.tmp 70) (Operand.tmp 71), type := 0, pos := "parts.go:296", after := #[{ on := 14, ground := Ground.data }, { on := 15, ground := Ground.data }], guard := none } : Oper)) (v := .pointer (some ⟨b, o + (jp + 1) * 5, none⟩)) rfl (by kernel_rfl) (by kernel_rfl) (by kernel_rfl) (fun _ _ _ h => h) (Or.inl ⟨by rfl, ?_⟩) (by assumption) ?_
                · intro w hSw; (try dsimp only at hSw); go_simp <;> (intro hh; exfalso; omega)
                (try simp only [Act.put, List.setIfInBounds_toArray, List.set_cons_zero, List.set_cons_succ])
                refine wpAnyH_take (i := 17) (oi := ({ dst := some 73, op := Op.fieldAddr 34 (Operand.tmp 72) 3, type := 0, pos := "parts.go:296", after := #[{ on := 16, ground := Ground.data }], guard := none } : Oper)) (v := .pointer (some ⟨b, o + (jp + 1) * 5 + 3, none⟩)) rfl (by kernel_rfl) (by kernel_rfl) (by kernel_rfl) (fun _ _ _ h => h) (Or.inl ⟨by rfl, ?_⟩) (by assumption) ?_
                · intro w hSw; (try dsimp only at hSw); go_simp
                (try simp only [Act.put, List.setIfInBounds_toArray, List.set_cons_zero, List.set_cons_succ])
                refine wpAnyH_take (i := 18) (oi := ({ dst := some 74, op := Op.load 3 (Operand.tmp 73), type := 3, pos := "parts.go:296", after := #[{ on := 17, ground := Ground.data }], guard := none } : Oper)) (v := .int .i64 x.badge) rfl (by kernel_rfl) (by kernel_rfl) (by kernel_rfl) (fun _ _ _ h => h) (Or.inl ⟨by rfl, ?_⟩) (by assumption) ?_
                · intro w hSw; (try dsimp only at hSw); go_simp
                (try simp only [Act.put, List.setIfInBounds_toArray, List.set_cons_zero, List.set_cons_succ])
                refine wpAnyH_ready (rs := [19, 23]) (by kernel_rfl) (by simp) ?_
                refine AllReadyH.cons (o := ({ dst := some 75, op := Op.call { callee := Callee.value (Operand.func 22), args := #[Operand.tmp 59, Operand.tmp 64, Operand.tmp 69, Operand.tmp 74], argTypes := #[34, 3, 3, 3] }, type := 41, pos := "parts.go:296", after := #[{ on := 3, ground := Ground.data }, { on := 8, ground := Ground.data }, { on := 13, ground := Ground.data }, { on := 18, ground := Ground.data }], guard := none } : Oper)) rfl (fun K hK => ?_) (AllReadyH.cons (o := ({ dst := some 6, op := Op.alloc 34, type := 0, pos := "parts.go:296", after := #[], guard := none } : Oper)) rfl (fun K hK => ?_) AllReadyH.nil)
                · rw [if_pos (by rfl)]
                  go_wp2_with (go_at_call 22; refine (hder _).mono ?_; rintro e w3 ⟨rfl, hb3⟩)
                  refine hK.out _ _ ?_ (fun hHeld => ?_)
                  · exact SZ_below hb3 (by assumption)
                  clear hK K
                  (try simp only [Act.put, List.setIfInBounds_toArray, List.set_cons_zero, List.set_cons_succ])
                  refine wpAnyH_take (i := 20) (oi := ({ dst := some 55, op := Op.move (Operand.tmp 75), type := 41, pos := "parts.go:296", after := #[{ on := 19, ground := Ground.data }], guard := none } : Oper)) (v := .tuple #[.agg #[.int .i64 dv.id, .int .i64 dv.thing, .int .i64 dv.rights, .int .i64 dv.badge, .int .i64 dv.frm], .int .i64 d]) rfl (by kernel_rfl) (by kernel_rfl) (by kernel_rfl) (fun _ _ _ h => h) (Or.inl ⟨by rfl, ?_⟩) (by assumption) ?_
                  · intro w hSw; (try dsimp only at hSw); go_simp
                  (try simp only [Act.put, List.setIfInBounds_toArray, List.set_cons_zero, List.set_cons_succ])
                  refine wpAnyH_take (i := 21) (oi := ({ dst := some 76, op := Op.extract (Operand.tmp 55) 0, type := 34, pos := "parts.go:296", after := #[{ on := 20, ground := Ground.data }], guard := none } : Oper)) (v := .agg #[.int .i64 dv.id, .int .i64 dv.thing, .int .i64 dv.rights, .int .i64 dv.badge, .int .i64 dv.frm]) rfl (by kernel_rfl) (by kernel_rfl) (by kernel_rfl) (fun _ _ _ h => h) (Or.inl ⟨by rfl, ?_⟩) (by assumption) ?_
                  · intro w hSw; (try dsimp only at hSw); go_simp
                  (try simp only [Act.put, List.setIfInBounds_toArray, List.set_cons_zero, List.set_cons_succ])
                  refine wpAnyH_take (i := 22) (oi := ({ dst := some 77, op := Op.extract (Operand.tmp 55) 1, type := 3, pos := "parts.go:296", after := #[{ on := 20, ground := Ground.data }, { on := 24, ground := Ground.gcOnly Departure.lateStores }], guard := none } : Oper)) (v := .int .i64 d) rfl (by kernel_rfl) (by kernel_rfl) (by kernel_rfl) (fun _ _ _ h => h) (Or.inl ⟨by rfl, ?_⟩) (by assumption) ?_
                  · intro w hSw; (try dsimp only at hSw); go_simp
                  (try simp only [Act.put, List.setIfInBounds_toArray, List.set_cons_zero, List.set_cons_succ])
                  refine wpAnyH_ready (rs := [23]) (by kernel_rfl) (by simp) ?_
                  refine AllReadyH.cons (o := ({ dst := some 6, op := Op.alloc 34, type := 0, pos := "parts.go:296", after := #[], guard := none } : Oper)) rfl (fun K hK => ?_) AllReadyH.nil
                  rw [if_pos (by rfl)]
                  go_wp2_with fail
                  refine hK.out _ _ ?_ (fun hHeld => ?_)
                  · exact SZ_alloc _ (by assumption)
                  clear hK K
                  (try simp only [Act.put, List.setIfInBounds_toArray, List.set_cons_zero, List.set_cons_succ])
                  have hy3 : b < w3.heap.size := Nat.lt_of_lt_of_le hbz2 hb3.size
                  have bl3 : Below w.heap.size w w3 := by
                    refine Below_after ?_ hb3
                    exact bl2.drew
                  have hs3 : w.heap.size ≤ w3.heap.size := bl3.size
                  refine wpAnyH_ready (rs := [24]) (by kernel_rfl) (by simp) ?_
                  refine AllReadyH.cons (o := ({ dst := none, op := Op.store 34 (Operand.tmp 6) (Operand.tmp 76), type := 0, pos := "parts.go:296", after := #[{ on := 23, ground := Ground.data }, { on := 21, ground := Ground.data }, { on := 19, ground := Ground.chain }, { on := 0, ground := Ground.phase }, { on := 1, ground := Ground.phase }, { on := 2, ground := Ground.phase }, { on := 3, ground := Ground.phase }, { on := 4, ground := Ground.phase }, { on := 5, ground := Ground.phase }, { on := 6, ground := Ground.phase }, { on := 7, ground := Ground.phase }, { on := 8, ground := Ground.phase }, { on := 9, ground := Ground.phase }, { on := 10, ground := Ground.phase }, { on := 11, ground := Ground.phase }, { on := 12, ground := Ground.phase }, { on := 13, ground := Ground.phase }, { on := 14, ground := Ground.phase }, { on := 15, ground := Ground.phase }, { on := 16, ground := Ground.phase }, { on := 17, ground := Ground.phase }, { on := 18, ground := Ground.phase }, { on := 19, ground := Ground.phase }, { on := 20, ground := Ground.phase }, { on := 21, ground := Ground.phase }, { on := 22, ground := Ground.textOnly Departure.lateStores }, { on := 23, ground := Ground.phase }], guard := none } : Oper)) rfl (fun K hK => ?_) AllReadyH.nil
                  rw [if_pos (by rfl)]
                  go_wp2_with fail
                  refine hK.out _ _ ?_ (fun hHeld => ?_)
                  · (repeat (first | exact SZ_alloc _ (by assumption) | refine SZ_set _ _ (by simp; omega) ?_ | assumption))
                  clear hK K
                  (try simp only [Act.put, List.setIfInBounds_toArray, List.set_cons_zero, List.set_cons_succ])
                  refine wpAnyH_ready (rs := [25]) (by kernel_rfl) (by simp) ?_
                  refine AllReadyH.cons (o := ({ dst := some 7, op := Op.assign (Operand.tmp 77), type := 3, pos := "parts.go:296", after := #[{ on := 22, ground := Ground.data }, { on := 24, ground := Ground.chain }, { on := 0, ground := Ground.phase }, { on := 1, ground := Ground.phase }, { on := 2, ground := Ground.phase }, { on := 3, ground := Ground.phase }, { on := 4, ground := Ground.phase }, { on := 5, ground := Ground.phase }, { on := 6, ground := Ground.phase }, { on := 7, ground := Ground.phase }, { on := 8, ground := Ground.phase }, { on := 9, ground := Ground.phase }, { on := 10, ground := Ground.phase }, { on := 11, ground := Ground.phase }, { on := 12, ground := Ground.phase }, { on := 13, ground := Ground.phase }, { on := 14, ground := Ground.phase }, { on := 15, ground := Ground.phase }, { on := 16, ground := Ground.phase }, { on := 17, ground := Ground.phase }, { on := 18, ground := Ground.phase }, { on := 19, ground := Ground.phase }, { on := 20, ground := Ground.phase }, { on := 21, ground := Ground.phase }, { on := 22, ground := Ground.phase }, { on := 23, ground := Ground.phase }, { on := 24, ground := Ground.phase }], guard := none } : Oper)) rfl (fun K hK => ?_) AllReadyH.nil
                  rw [if_pos (by rfl)]
                  go_wp2_with fail
                  refine hK.out _ _ ?_ (fun hHeld => ?_)
                  · assumption
                  clear hK K
                  (try simp only [Act.put, List.setIfInBounds_toArray, List.set_cons_zero, List.set_cons_succ])
                  refine wpAnyH_done (by kernel_rfl) ?_ _
                  obtain ⟨-, -, -, -, -, x1, x2, x3, x4, x5, hbz3⟩ := SZ_below hb3 sz2'
                  clear hb3
                  by_cases hd : d = 0
                  · have dd : decide (0 < d) = false := decide_eq_false (by omega)
                    obtain ⟨e1, e3, e5, hcf⟩ := HD.out hd
                    by_cases ht : dv.thing = x.thing
                    · by_cases hbg : dv.badge = x.badge
                      · have HC : Hid (cfOf x y = 0) := hcf.1 ⟨ht, hbg⟩
                        obtain rfl : dv = x := Wr.ext5 e1 ht e3 hbg e5
                        clear hcf e1 e3 e5 ht hbg hd HD
                        go_wp2_with fail
                        go_quiet (fail)
                        go_wp2_with fail
                        go_roundw
                        case rel =>
                          refine ⟨(jp + 1) + 1, by omega, by go_num, (show Hid _ from chk_next HX.out hn.out (ckCode_cf HX.out hok HS.out ((cfCode_at HF.out HJ.out.1 HJ.out.2).trans HC.out))), (show Hid _ from okNext HO.out HX.out hok), ?_⟩
                          repeat (first | exact bl3 | refine Below.drew ?_ | refine below_drewN ?_ _ | refine Below.setCell ?_ (by first | omega | (simp; omega)) _ | refine Below.alloc ?_ (by first | omega | (simp; omega)) _)
                        case measure => simp [intOf]; omega
                      · have HC : Hid (cfOf x y = 7) := hcf.2 (fun h => hbg h.2)
                        have t4 : (dv.badge == x.badge) = false := by simp [hbg]
                        clear hcf hd HD hbg
                        go_wp2_with fail
                        go_quiet (fail)
                        go_wp2_with fail
                        go_ret
                        refine ⟨retInt (chk_is HX.out hn.out (ckCode_cf HX.out hok HS.out ((cfCode_at HF.out HJ.out.1 HJ.out.2).trans HC.out)) (by decide)).symm, ?_⟩
                        repeat (first | exact bl3 | refine Below.drew ?_ | refine below_drewN ?_ _ | refine Below.setCell ?_ (by first | omega | (simp; omega)) _ | refine Below.alloc ?_ (by first | omega | (simp; omega)) _)
                    · have HC : Hid (cfOf x y = 7) := hcf.2 (fun h => ht h.1)
                      have t2 : (dv.thing == x.thing) = false := by simp [ht]
                      clear hcf hd HD ht
                      go_wp2_with fail
                      go_quiet (fail)
                      go_wp2_with fail
                      go_ret
                      refine ⟨retInt (chk_is HX.out hn.out (ckCode_cf HX.out hok HS.out ((cfCode_at HF.out HJ.out.1 HJ.out.2).trans HC.out)) (by decide)).symm, ?_⟩
                      repeat (first | exact bl3 | refine Below.drew ?_ | refine below_drewN ?_ _ | refine Below.setCell ?_ (by first | omega | (simp; omega)) _ | refine Below.alloc ?_ (by first | omega | (simp; omega)) _)
                  · have dd : decide (0 < d) = true := decide_eq_true (by have := HDP.out hd; omega)
                    have HC : Hid (cfOf x y = d) := (HDP.out hd).2
                    have HDN : Hid (¬ d = 0) := hd
                    clear hd HD HDP
                    go_wp2_with fail
                    go_ret
                    refine ⟨retInt (chk_is HX.out hn.out (ckCode_cf HX.out hok HS.out ((cfCode_at HF.out HJ.out.1 HJ.out.2).trans HC.out)) HDN.out).symm, ?_⟩
                    repeat (first | exact bl3 | refine Below.drew ?_ | refine below_drewN ?_ _ | refine Below.setCell ?_ (by first | omega | (simp; omega)) _ | refine Below.alloc ?_ (by first | omega | (simp; omega)) _)
                · rw [if_pos (by rfl)]
                  go_wp2_with fail
                  refine hK.out _ _ ?_ (fun hHeld => ?_)
                  · exact SZ_alloc _ (by assumption)
                  clear hK K
                  (try simp only [Act.put, List.setIfInBounds_toArray, List.set_cons_zero, List.set_cons_succ])
                  refine wpAnyH_ready (rs := [19]) (by kernel_rfl) (by simp) ?_
                  refine AllReadyH.cons (o := ({ dst := some 75, op := Op.call { callee := Callee.value (Operand.func 22), args := #[Operand.tmp 59, Operand.tmp 64, Operand.tmp 69, Operand.tmp 74], argTypes := #[34, 3, 3, 3] }, type := 41, pos := "parts.go:296", after := #[{ on := 3, ground := Ground.data }, { on := 8, ground := Ground.data }, { on := 13, ground := Ground.data }, { on := 18, ground := Ground.data }], guard := none } : Oper)) rfl (fun K hK => ?_) AllReadyH.nil
                  rw [if_pos (by rfl)]
                  go_wp2_with (go_at_call 22; refine (hder _).mono ?_; rintro e w3 ⟨rfl, hb3⟩)
                  refine hK.out _ _ ?_ (fun hHeld => ?_)
                  · exact SZ_below hb3 (by assumption)
                  clear hK K
                  (try simp only [Act.put, List.setIfInBounds_toArray, List.set_cons_zero, List.set_cons_succ])
                  have g0 : w3.cell? ⟨w2.heap.size, 0, none⟩ = some (.int .i64 0) := by rw [(bcell hb3).1 _ _ (by simp)]; simp
                  have f0 : w3.frozen? ⟨w2.heap.size, 0, none⟩ = false := by rw [(bcell hb3).2 _ _ (by simp)]; simp
                  have g1 : w3.cell? ⟨w2.heap.size, 1, none⟩ = some (.int .i64 0) := by rw [(bcell hb3).1 _ _ (by simp)]; simp
                  have f1 : w3.frozen? ⟨w2.heap.size, 1, none⟩ = false := by rw [(bcell hb3).2 _ _ (by simp)]; simp
                  have g2 : w3.cell? ⟨w2.heap.size, 2, none⟩ = some (.int .i64 0) := by rw [(bcell hb3).1 _ _ (by simp)]; simp
                  have f2 : w3.frozen? ⟨w2.heap.size, 2, none⟩ = false := by rw [(bcell hb3).2 _ _ (by simp)]; simp
                  have g3 : w3.cell? ⟨w2.heap.size, 3, none⟩ = some (.int .i64 0) := by rw [(bcell hb3).1 _ _ (by simp)]; simp
                  have f3 : w3.frozen? ⟨w2.heap.size, 3, none⟩ = false := by rw [(bcell hb3).2 _ _ (by simp)]; simp
                  have g4 : w3.cell? ⟨w2.heap.size, 4, none⟩ = some (.int .i64 0) := by rw [(bcell hb3).1 _ _ (by simp)]; simp
                  have f4 : w3.frozen? ⟨w2.heap.size, 4, none⟩ = false := by rw [(bcell hb3).2 _ _ (by simp)]; simp
                  have hz3 : w2.heap.size < w3.heap.size := by have := hb3.size; simp at this; omega
                  have hy3 : b < w3.heap.size := by omega
                  have hs2 : w.heap.size ≤ w2.heap.size := bl2.size
                  have bl3 : Below w.heap.size w w3 := by
                    refine Below_after ?_ hb3
                    exact bl2.drew.alloc hs2 _
                  refine wpAnyH_take (i := 20) (oi := ({ dst := some 55, op := Op.move (Operand.tmp 75), type := 41, pos := "parts.go:296", after := #[{ on := 19, ground := Ground.data }], guard := none } : Oper)) (v := .tuple #[.agg #[.int .i64 dv.id, .int .i64 dv.thing, .int .i64 dv.rights, .int .i64 dv.badge, .int .i64 dv.frm], .int .i64 d]) rfl (by kernel_rfl) (by kernel_rfl) (by kernel_rfl) (fun _ _ _ h => h) (Or.inl ⟨by rfl, ?_⟩) (by assumption) ?_
                  · intro w hSw; (try dsimp only at hSw); go_simp
                  (try simp only [Act.put, List.setIfInBounds_toArray, List.set_cons_zero, List.set_cons_succ])
                  refine wpAnyH_take (i := 21) (oi := ({ dst := some 76, op := Op.extract (Operand.tmp 55) 0, type := 34, pos := "parts.go:296", after := #[{ on := 20, ground := Ground.data }], guard := none } : Oper)) (v := .agg #[.int .i64 dv.id, .int .i64 dv.thing, .int .i64 dv.rights, .int .i64 dv.badge, .int .i64 dv.frm]) rfl (by kernel_rfl) (by kernel_rfl) (by kernel_rfl) (fun _ _ _ h => h) (Or.inl ⟨by rfl, ?_⟩) (by assumption) ?_
                  · intro w hSw; (try dsimp only at hSw); go_simp
                  (try simp only [Act.put, List.setIfInBounds_toArray, List.set_cons_zero, List.set_cons_succ])
                  refine wpAnyH_take (i := 22) (oi := ({ dst := some 77, op := Op.extract (Operand.tmp 55) 1, type := 3, pos := "parts.go:296", after := #[{ on := 20, ground := Ground.data }, { on := 24, ground := Ground.gcOnly Departure.lateStores }], guard := none } : Oper)) (v := .int .i64 d) rfl (by kernel_rfl) (by kernel_rfl) (by kernel_rfl) (fun _ _ _ h => h) (Or.inl ⟨by rfl, ?_⟩) (by assumption) ?_
                  · intro w hSw; (try dsimp only at hSw); go_simp
                  (try simp only [Act.put, List.setIfInBounds_toArray, List.set_cons_zero, List.set_cons_succ])
                  refine wpAnyH_ready (rs := [24]) (by kernel_rfl) (by simp) ?_
                  refine AllReadyH.cons (o := ({ dst := none, op := Op.store 34 (Operand.tmp 6) (Operand.tmp 76), type := 0, pos := "parts.go:296", after := #[{ on := 23, ground := Ground.data }, { on := 21, ground := Ground.data }, { on := 19, ground := Ground.chain }, { on := 0, ground := Ground.phase }, { on := 1, ground := Ground.phase }, { on := 2, ground := Ground.phase }, { on := 3, ground := Ground.phase }, { on := 4, ground := Ground.phase }, { on := 5, ground := Ground.phase }, { on := 6, ground := Ground.phase }, { on := 7, ground := Ground.phase }, { on := 8, ground := Ground.phase }, { on := 9, ground := Ground.phase }, { on := 10, ground := Ground.phase }, { on := 11, ground := Ground.phase }, { on := 12, ground := Ground.phase }, { on := 13, ground := Ground.phase }, { on := 14, ground := Ground.phase }, { on := 15, ground := Ground.phase }, { on := 16, ground := Ground.phase }, { on := 17, ground := Ground.phase }, { on := 18, ground := Ground.phase }, { on := 19, ground := Ground.phase }, { on := 20, ground := Ground.phase }, { on := 21, ground := Ground.phase }, { on := 22, ground := Ground.textOnly Departure.lateStores }, { on := 23, ground := Ground.phase }], guard := none } : Oper)) rfl (fun K hK => ?_) AllReadyH.nil
                  rw [if_pos (by rfl)]
                  go_wp2_with fail
                  refine hK.out _ _ ?_ (fun hHeld => ?_)
                  · (repeat (first | refine SZ_set _ _ (by simp; omega) ?_ | assumption))
                  clear hK K
                  (try simp only [Act.put, List.setIfInBounds_toArray, List.set_cons_zero, List.set_cons_succ])
                  refine wpAnyH_ready (rs := [25]) (by kernel_rfl) (by simp) ?_
                  refine AllReadyH.cons (o := ({ dst := some 7, op := Op.assign (Operand.tmp 77), type := 3, pos := "parts.go:296", after := #[{ on := 22, ground := Ground.data }, { on := 24, ground := Ground.chain }, { on := 0, ground := Ground.phase }, { on := 1, ground := Ground.phase }, { on := 2, ground := Ground.phase }, { on := 3, ground := Ground.phase }, { on := 4, ground := Ground.phase }, { on := 5, ground := Ground.phase }, { on := 6, ground := Ground.phase }, { on := 7, ground := Ground.phase }, { on := 8, ground := Ground.phase }, { on := 9, ground := Ground.phase }, { on := 10, ground := Ground.phase }, { on := 11, ground := Ground.phase }, { on := 12, ground := Ground.phase }, { on := 13, ground := Ground.phase }, { on := 14, ground := Ground.phase }, { on := 15, ground := Ground.phase }, { on := 16, ground := Ground.phase }, { on := 17, ground := Ground.phase }, { on := 18, ground := Ground.phase }, { on := 19, ground := Ground.phase }, { on := 20, ground := Ground.phase }, { on := 21, ground := Ground.phase }, { on := 22, ground := Ground.phase }, { on := 23, ground := Ground.phase }, { on := 24, ground := Ground.phase }], guard := none } : Oper)) rfl (fun K hK => ?_) AllReadyH.nil
                  rw [if_pos (by rfl)]
                  go_wp2_with fail
                  refine hK.out _ _ ?_ (fun hHeld => ?_)
                  · assumption
                  clear hK K
                  (try simp only [Act.put, List.setIfInBounds_toArray, List.set_cons_zero, List.set_cons_succ])
                  refine wpAnyH_done (by kernel_rfl) ?_ _
                  obtain ⟨-, -, -, -, -, x1, x2, x3, x4, x5, hbz3⟩ := SZ_below hb3 (SZ_alloc _ sz2')
                  clear hb3
                  by_cases hd : d = 0
                  · have dd : decide (0 < d) = false := decide_eq_false (by omega)
                    obtain ⟨e1, e3, e5, hcf⟩ := HD.out hd
                    by_cases ht : dv.thing = x.thing
                    · by_cases hbg : dv.badge = x.badge
                      · have HC : Hid (cfOf x y = 0) := hcf.1 ⟨ht, hbg⟩
                        obtain rfl : dv = x := Wr.ext5 e1 ht e3 hbg e5
                        clear hcf e1 e3 e5 ht hbg hd HD
                        go_wp2_with fail
                        go_quiet (fail)
                        go_wp2_with fail
                        go_roundw
                        case rel =>
                          refine ⟨(jp + 1) + 1, by omega, by go_num, (show Hid _ from chk_next HX.out hn.out (ckCode_cf HX.out hok HS.out ((cfCode_at HF.out HJ.out.1 HJ.out.2).trans HC.out))), (show Hid _ from okNext HO.out HX.out hok), ?_⟩
                          repeat (first | exact bl3 | refine Below.drew ?_ | refine below_drewN ?_ _ | refine Below.setCell ?_ (by first | omega | (simp; omega)) _ | refine Below.alloc ?_ (by first | omega | (simp; omega)) _)
                        case measure => simp [intOf]; omega
                      · have HC : Hid (cfOf x y = 7) := hcf.2 (fun h => hbg h.2)
                        have t4 : (dv.badge == x.badge) = false := by simp [hbg]
                        clear hcf hd HD hbg
                        go_wp2_with fail
                        go_quiet (fail)
                        go_wp2_with fail
                        go_ret
                        refine ⟨retInt (chk_is HX.out hn.out (ckCode_cf HX.out hok HS.out ((cfCode_at HF.out HJ.out.1 HJ.out.2).trans HC.out)) (by decide)).symm, ?_⟩
                        repeat (first | exact bl3 | refine Below.drew ?_ | refine below_drewN ?_ _ | refine Below.setCell ?_ (by first | omega | (simp; omega)) _ | refine Below.alloc ?_ (by first | omega | (simp; omega)) _)
                    · have HC : Hid (cfOf x y = 7) := hcf.2 (fun h => ht h.1)
                      have t2 : (dv.thing == x.thing) = false := by simp [ht]
                      clear hcf hd HD ht
                      go_wp2_with fail
                      go_quiet (fail)
                      go_wp2_with fail
                      go_ret
                      refine ⟨retInt (chk_is HX.out hn.out (ckCode_cf HX.out hok HS.out ((cfCode_at HF.out HJ.out.1 HJ.out.2).trans HC.out)) (by decide)).symm, ?_⟩
                      repeat (first | exact bl3 | refine Below.drew ?_ | refine below_drewN ?_ _ | refine Below.setCell ?_ (by first | omega | (simp; omega)) _ | refine Below.alloc ?_ (by first | omega | (simp; omega)) _)
                  · have dd : decide (0 < d) = true := decide_eq_true (by have := HDP.out hd; omega)
                    have HC : Hid (cfOf x y = d) := (HDP.out hd).2
                    have HDN : Hid (¬ d = 0) := hd
                    clear hd HD HDP
                    go_wp2_with fail
                    go_ret
                    refine ⟨retInt (chk_is HX.out hn.out (ckCode_cf HX.out hok HS.out ((cfCode_at HF.out HJ.out.1 HJ.out.2).trans HC.out)) HDN.out).symm, ?_⟩
                    repeat (first | exact bl3 | refine Below.drew ?_ | refine below_drewN ?_ _ | refine Below.setCell ?_ (by first | omega | (simp; omega)) _ | refine Below.alloc ?_ (by first | omega | (simp; omega)) _)
      · have HC : Hid (ckCode l k x = 1) := ckCode_no hok
        clear hw
        go_wp2_with fail
        refine (writFault_any x _ 1 (.inr ⟨hok, rfl⟩)).mono ?_
        rintro e w1 ⟨rfl, hb1⟩
        have bl1 : Below w.heap.size w w1 := Below_after hbl hb1
        clear hb1
        go_wp2_with fail
        go_ret
        exact ⟨retInt (chk_is HX.out hn.out HC.out (by decide)).symm, bl1⟩
    · have HE : Hid (chk l = 0) := chk_end hn.out hlt
      clear hw
      go_wp2_with fail
      go_ret
      exact ⟨retInt HE.out.symm, hbl⟩
theorem treeFault_any (a : Option Addr) (c : Nat) (l : List Wr) (w : World) (hw : WrsAt w a l) (hm : l.length ≤ 1000) (hcap : l.length ≤ c) (hc63 : c ≤ maxLen) :
    Calls Try.prog 24 #[.slice a l.length c] w fun e w' => e = .returned (.int .i64 (chk l)) ∧ Below w.heap.size w w' := by
  rcases hw with rfl | ⟨b, o, rfl, hb, hx⟩
  · go_enter Try.func24, Try.ntmps24
    go_wp2_with fail
    refine wp_loop_rounds 1 ?_
    rw [rounds_succ]
    go_wp2_with fail
    go_ret
    exact ⟨rfl, Below.refl _ _⟩
  · exact treeFault_some b o c l w hx hb hm hcap hc63
end Go.Proofs.Ytnjncemjghmpoaa
