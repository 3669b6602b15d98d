/- image: does a realm that was read go together? -/
import Derived.Test.YtddgpgldbekamaaGreatDoorAllPure
import Derived.Test.YtddgpgldbekamaaGreatDoorImPure
import Derived.Test.YtddgpgldbekamaaGreatDoorLeaveW
import Derived.Test.YtddgpgldbekamaaGreatDoorThingsW
import Derived.Test.YtddgpgldbekamaaGreatDoorCheckCW
import Derived.Test.YtddgpgldbekamaaGreatDoorShelfW
import Derived.Test.YtddgpgldbekamaaGreatDoorBox
set_option linter.unusedVariables false
set_option linter.unusedSimpArgs false
set_option linter.unnecessarySimpa false
namespace Go.Proofs.YtddgpgldbekamaaGreatDoor
open Go.RowKit

set_option maxHeartbeats 2000000 in
set_option maxRecDepth 100000 in
theorem thMay_any (x : Th) (w : World) (hs : x.data.size ≤ maxLen) : Calls Tryz.prog 134 #[.agg #[.int .i64 x.id, .int .i64 x.kind, .string x.data]] w fun e w' => e = .returned (.bool (thOk x)) ∧ Below w.heap.size w w' := by
  have ba : Below w.heap.size w (w.alloc (.cells #[.int .i64 x.id, .int .i64 x.kind, .string x.data] 62)) := (Below.refl _ w).alloc (Nat.le_refl _) _
  have he : x.data.toList.isEmpty = decide (x.data.size = 0) := by
    rw [toList_data]
    have : x.data.data.toList.length = x.data.size := by simp
    cases hq : x.data.data.toList with
    | nil => rw [hq] at this; simp at this; rw [decide_eq_true this.symm]; rfl
    | cons a b => rw [hq] at this; simp at this; rw [decide_eq_false (by omega)]; rfl
  by_cases h1 : x.kind = 1
  · have d1 : (x.kind == 1) = true := by rw [h1]; rfl
    have HO : Hid (thOk x = decide ((x.data.size : Int) ≤ 8)) := (show thOk x = _ from by unfold thOk; rw [h1]; simp; omega)
    rw [HO.out]
    clear HO h1 he
    go_enter Tryz.func134, Tryz.ntmps134
    go_wp2_with fail
    go_ret
    exact ⟨rfl, ba⟩
  · by_cases h2 : x.kind = 2
    · have d1 : (x.kind == 1) = false := by rw [h2]; rfl
      have d2 : (x.kind == 2) = true := by rw [h2]; rfl
      have HO : Hid (thOk x = x.data.toList.isEmpty) := (show thOk x = _ from by rw [he]; unfold thOk; rw [h2]; simp)
      rw [HO.out]
      clear HO h1 h2 he
      go_enter Tryz.func134, Tryz.ntmps134
      go_wp2_with fail
      go_ret
      exact ⟨rfl, ba⟩
    · have d1 : (x.kind == 1) = false := by rw [beq_eq_false_iff_ne]; exact h1
      have d2 : (x.kind == 2) = false := by rw [beq_eq_false_iff_ne]; exact h2
      have HO : Hid (thOk x = false) := (show thOk x = _ from by unfold thOk; rw [d1, d2]; rfl)
      rw [HO.out]
      clear HO h1 h2 he
      go_enter Tryz.func134, Tryz.ntmps134
      go_wp2_with fail
      go_ret
      exact ⟨rfl, ba⟩
theorem eq_drop {A B : List Int} {k : Nat} {x y : Int} (hx : A[k]? = some x) (hy : B[k]? = some y) (h : x = y) : decide (A.drop (k + 1) = B.drop (k + 1)) = decide (A.drop k = B.drop k) := by
  obtain ⟨h1, e1⟩ := List.getElem?_eq_some_iff.1 hx
  obtain ⟨h2, e2⟩ := List.getElem?_eq_some_iff.1 hy
  rw [List.drop_eq_getElem_cons h1, List.drop_eq_getElem_cons h2, e1, e2, h]
  simp
theorem ne_drop {A B : List Int} {k : Nat} {x y : Int} (hx : A[k]? = some x) (hy : B[k]? = some y) (h : ¬ x = y) : decide (A.drop k = B.drop k) = false := by
  obtain ⟨h1, e1⟩ := List.getElem?_eq_some_iff.1 hx
  obtain ⟨h2, e2⟩ := List.getElem?_eq_some_iff.1 hy
  rw [List.drop_eq_getElem_cons h1, List.drop_eq_getElem_cons h2, e1, e2]
  simp [h]
set_option maxHeartbeats 2000000 in
set_option maxRecDepth 100000 in
theorem eqI_some (b1 o1 c1 b2 o2 c2 : Nat) (A B : List Int) (w : World) (hA : ∀ j, j < A.length → w.cell? ⟨b1, o1 + j, none⟩ = some (.int .i64 (A.getD j 0))) (hB : ∀ j, j < B.length → w.cell? ⟨b2, o2 + j, none⟩ = some (.int .i64 (B.getD j 0))) (hz1 : b1 < w.heap.size) (hz2 : b2 < w.heap.size) (hm : A.length ≤ 1000000) (hl : A.length = B.length) :
    Calls Tryz.prog 135 #[.slice (some ⟨b1, o1, none⟩) A.length c1, .slice (some ⟨b2, o2, none⟩) B.length c2] w fun e w' => e = .returned (.bool (decide (A = B))) ∧ Below w.heap.size w w' := by
  have d0 : ((A.length : Int) != (B.length : Int)) = false := by rw [hl]; simp
  have HL : Hid (A.length = B.length) := hl
  clear hl
  go_enter Tryz.func135, Tryz.ntmps135
  go_wp2_with fail
  go_loopw [13] (fun i wr => ∃ k : Nat, k ≤ A.length ∧ i = .int .i64 k ∧ Hid (decide (A.drop k = B.drop k) = decide (A = B)) ∧ Below w.heap.size w wr) (fun i _ => A.length - (intOf i).toNat)
  case atStart => exact ⟨0, Nat.zero_le _, rfl, (show Hid _ from rfl), Below.refl _ _⟩
  case round =>
    obtain ⟨k, hk, rfl, HD, bl⟩ := hrel
    by_cases hlt : k < A.length
    · have hlt2 : k < B.length := by have := HL.out; omega
      obtain ⟨x, hx⟩ : ∃ x, A[k]? = some x := ⟨A[k], List.getElem?_eq_getElem hlt⟩
      obtain ⟨y, hy⟩ : ∃ y, B[k]? = some y := ⟨B[k], List.getElem?_eq_getElem hlt2⟩
      have q1 := hA k hlt
      have q2 := hB k hlt2
      rw [List.getD_eq_getElem?_getD, hx] at q1
      rw [List.getD_eq_getElem?_getD, hy] at q2
      have hS0 : wr.drew.cell? ⟨b1, o1 + k, none⟩ = some (.int .i64 x) ∧ wr.drew.cell? ⟨b2, o2 + k, none⟩ = some (.int .i64 y) := ⟨(((bcell bl.drew).1 _ _ hz1)).trans q1, (((bcell bl.drew).1 _ _ hz2)).trans q2⟩
      have HX : Hid (A[k]? = some x ∧ B[k]? = some y) := ⟨hx, hy⟩
      clear hx hy q1 q2 hA hB
      go_wp2_with fail
      refine wp_region_held_drew (S := fun w' => w'.cell? ⟨b1, o1 + k, none⟩ = some (.int .i64 x) ∧ w'.cell? ⟨b2, o2 + k, none⟩ = some (.int .i64 y)) (by kernel_rfl) ?_ (fun hHeld => ?_)
      · exact hS0
      refine wpAnyH_take (i := 0) (oi := ({ dst := some 16, op := Op.move (Operand.tmp 0), type := 60, pos := "slices.go:25", after := #[], guard := none } : Oper)) (v := .slice (some ⟨b1, o1, none⟩) A.length c1) rfl (by kernel_rfl) (by kernel_rfl) (by kernel_rfl) (fun _ _ _ h => h) (Or.inl ⟨by rfl, ?_⟩) (by assumption) ?_
      · intro w hSw; (try dsimp only at hSw); go_simp
      (try simp only [Act.put, List.setIfInBounds_toArray, List.set_cons_zero, List.set_cons_succ])
      refine wpAnyH_take (i := 1) (oi := ({ dst := some 17, op := Op.move (Operand.tmp 5), type := 3, pos := "slices.go:25", after := #[], guard := none } : Oper)) (v := .int .i64 (k : Int)) rfl (by kernel_rfl) (by kernel_rfl) (by kernel_rfl) (fun _ _ _ h => h) (Or.inl ⟨by rfl, ?_⟩) (by assumption) ?_
      · intro w hSw; (try dsimp only at hSw); go_simp
      (try simp only [Act.put, List.setIfInBounds_toArray, List.set_cons_zero, List.set_cons_succ])
      refine wpAnyH_take (i := 2) (oi := ({ dst := some 18, op := Op.indexAddr 60 (Operand.tmp 16) (Operand.tmp 17), type := 0, pos := "slices.go:25", after := #[{ on := 0, ground := Ground.data }, { on := 1, ground := Ground.data }], guard := none } : Oper)) (v := .pointer (some ⟨b1, o1 + k, none⟩)) rfl (by kernel_rfl) (by kernel_rfl) (by kernel_rfl) (fun _ _ _ h => h) (Or.inl ⟨by rfl, ?_⟩) (by assumption) ?_
      · intro w hSw; go_simp; all_goals (intro hx; exact absurd hx (by omega))
      (try simp only [Act.put, List.setIfInBounds_toArray, List.set_cons_zero, List.set_cons_succ])
      refine wpAnyH_take (i := 3) (oi := ({ dst := some 19, op := Op.load 3 (Operand.tmp 18), type := 3, pos := "slices.go:25", after := #[{ on := 2, ground := Ground.data }], guard := none } : Oper)) (v := .int .i64 x) rfl (by kernel_rfl) (by kernel_rfl) (by kernel_rfl) (fun _ _ _ h => h) (Or.inl ⟨by rfl, ?_⟩) (by assumption) ?_
      · intro w hSw; (try dsimp only at hSw); obtain ⟨z0, z1⟩ := hSw; go_simp
      (try simp only [Act.put, List.setIfInBounds_toArray, List.set_cons_zero, List.set_cons_succ])
      refine wpAnyH_take (i := 4) (oi := ({ dst := some 20, op := Op.move (Operand.tmp 1), type := 60, pos := "slices.go:25", after := #[], guard := none } : Oper)) (v := .slice (some ⟨b2, o2, none⟩) B.length c2) rfl (by kernel_rfl) (by kernel_rfl) (by kernel_rfl) (fun _ _ _ h => h) (Or.inl ⟨by rfl, ?_⟩) (by assumption) ?_
      · intro w hSw; (try dsimp only at hSw); go_simp
      (try simp only [Act.put, List.setIfInBounds_toArray, List.set_cons_zero, List.set_cons_succ])
      refine wpAnyH_take (i := 5) (oi := ({ dst := some 21, op := Op.move (Operand.tmp 5), type := 3, pos := "slices.go:25", after := #[], guard := none } : Oper)) (v := .int .i64 (k : Int)) rfl (by kernel_rfl) (by kernel_rfl) (by kernel_rfl) (fun _ _ _ h => h) (Or.inl ⟨by rfl, ?_⟩) (by assumption) ?_
      · intro w hSw; (try dsimp only at hSw); go_simp
      (try simp only [Act.put, List.setIfInBounds_toArray, List.set_cons_zero, List.set_cons_succ])
      refine wpAnyH_take (i := 6) (oi := ({ dst := some 22, op := Op.indexAddr 60 (Operand.tmp 20) (Operand.tmp 21), type := 0, pos := "slices.go:25", after := #[{ on := 4, ground := Ground.data }, { on := 5, ground := Ground.data }], guard := none } : Oper)) (v := .pointer (some ⟨b2, o2 + k, none⟩)) rfl (by kernel_rfl) (by kernel_rfl) (by kernel_rfl) (fun _ _ _ h => h) (Or.inl ⟨by rfl, ?_⟩) (by assumption) ?_
      · intro w hSw; go_simp; all_goals (intro hx; exact absurd hx (by omega))
      (try simp only [Act.put, List.setIfInBounds_toArray, List.set_cons_zero, List.set_cons_succ])
      refine wpAnyH_take (i := 7) (oi := ({ dst := some 23, op := Op.load 3 (Operand.tmp 22), type := 3, pos := "slices.go:25", after := #[{ on := 6, ground := Ground.data }], guard := none } : Oper)) (v := .int .i64 y) rfl (by kernel_rfl) (by kernel_rfl) (by kernel_rfl) (fun _ _ _ h => h) (Or.inl ⟨by rfl, ?_⟩) (by assumption) ?_
      · intro w hSw; (try dsimp only at hSw); obtain ⟨z0, z1⟩ := hSw; go_simp
      (try simp only [Act.put, List.setIfInBounds_toArray, List.set_cons_zero, List.set_cons_succ])
      refine wpAnyH_take (i := 8) (oi := ({ dst := some 24, op := Op.binOp BinOp.neq 3 (Operand.tmp 19) (Operand.tmp 23) 3, type := 4, pos := "slices.go:25", after := #[{ on := 3, ground := Ground.data }, { on := 7, ground := Ground.data }], guard := none } : Oper)) (v := .bool (x != y)) rfl (by kernel_rfl) (by kernel_rfl) (by kernel_rfl) (fun _ _ _ h => h) (Or.inl ⟨by rfl, ?_⟩) (by assumption) ?_
      · intro w hSw; (try dsimp only at hSw); go_simp
      (try simp only [Act.put, List.setIfInBounds_toArray, List.set_cons_zero, List.set_cons_succ])
      refine wpAnyH_done (by kernel_rfl) ?_ _
      by_cases he : x = y
      · have dd : (x != y) = false := by simp [he]
        have HE : Hid (x = y) := he
        clear he
        go_wp2_with fail
        go_roundw
        case rel => exact ⟨k + 1, by omega, by go_num, (show Hid _ from (eq_drop HX.out.1 HX.out.2 HE.out).trans HD.out), bl.drew⟩
        case measure => simp [intOf]; omega
      · have dd : (x != y) = true := by simp [he]
        have hf : decide (A = B) = false := by rw [← HD.out]; exact ne_drop HX.out.1 HX.out.2 he
        have HF : Hid (decide (A = B) = false) := hf
        clear hf HD he
        go_wp2_with fail
        go_ret
        exact ⟨by rw [HF.out]; rfl, bl.drew⟩
    · have hkn : k = A.length := by omega
      have hf : decide (A = B) = true := by
        rw [← HD.out, hkn, List.drop_length, HL.out, List.drop_length]; rfl
      have HF : Hid (decide (A = B) = true) := hf
      clear hf HD hkn hA hB
      go_wp2_with fail
      go_ret
      exact ⟨by rw [HF.out]; rfl, bl⟩
set_option maxHeartbeats 2000000 in
set_option maxRecDepth 100000 in
theorem eqI_any (a1 a2 : Option Addr) (c1 c2 : Nat) (A B : List Int) (w : World) (hA : IntsAt w a1 A) (hB : IntsAt w a2 B) (hz1 : ∀ b o, a1 = some ⟨b, o, none⟩ → b < w.heap.size) (hz2 : ∀ b o, a2 = some ⟨b, o, none⟩ → b < w.heap.size) (hm : A.length ≤ 1000000) (hm2 : B.length ≤ 1000000) :
    Calls Tryz.prog 135 #[.slice a1 A.length c1, .slice a2 B.length c2] w fun e w' => e = .returned (.bool (decide (A = B))) ∧ Below w.heap.size w w' := by
  by_cases hl : A.length = B.length
  · rcases hA with hA | ⟨b1, o1, rfl, hA⟩
    · have hB0 : B = [] := List.length_eq_zero_iff.1 (by rw [← hl, hA]; rfl)
      subst hA hB0
      go_enter Tryz.func135, Tryz.ntmps135
      go_wp2_with fail
      refine wp_loop_rounds 1 ?_
      rw [rounds_succ]
      go_wp2_with fail
      go_ret
      exact ⟨rfl, Below.refl _ _⟩
    · rcases hB with hB | ⟨b2, o2, rfl, hB⟩
      · have hA0 : A = [] := List.length_eq_zero_iff.1 (by rw [hl, hB]; rfl)
        subst hA0 hB
        go_enter Tryz.func135, Tryz.ntmps135
        go_wp2_with fail
        refine wp_loop_rounds 1 ?_
        rw [rounds_succ]
        go_wp2_with fail
        go_ret
        exact ⟨rfl, Below.refl _ _⟩
      · exact eqI_some b1 o1 c1 b2 o2 c2 A B w hA hB (hz1 _ _ rfl) (hz2 _ _ rfl) hm hl
  · have HF : Hid (decide (A = B) = false) := (show decide (A = B) = false from decide_eq_false (fun e => hl (by rw [e])))
    have d0 : ((A.length : Int) != (B.length : Int)) = true := by simp; omega
    clear hl hA hB
    go_enter Tryz.func135, Tryz.ntmps135
    go_wp2_with fail
    go_ret
    exact ⟨by rw [HF.out]; rfl, Below.refl _ _⟩
theorem all_from {α : Type} {p : α → Bool} {l : List α} {k : Nat} {x : α} (hx : l[k]? = some x) (h : p x = true) : (l.drop (k + 1)).all p = (l.drop k).all p := by
  obtain ⟨h1, e1⟩ := List.getElem?_eq_some_iff.1 hx
  rw [List.drop_eq_getElem_cons h1, e1, List.all_cons, h, Bool.true_and]
theorem all_stop {α : Type} {p : α → Bool} {l : List α} {k : Nat} {x : α} (hx : l[k]? = some x) (h : p x = false) : l.all p = false := by
  rw [List.all_eq_false]
  exact ⟨x, List.mem_of_getElem? hx, by rw [h]; exact Bool.false_ne_true⟩
theorem th_le (l : List Wr) : (thingsL l).length ≤ l.length := by
  unfold thingsL
  refine Nat.le_trans (Lib.compact_length_le _) ?_
  rw [List.length_mergeSort, List.length_map]
  exact Nat.le_refl _
set_option maxHeartbeats 2000000 in
set_option maxRecDepth 100000 in
theorem thsMay_any (aw at_ ah an : Option Addr) (cw ct ch cn : Nat) (r : Rm) (w : World) (hr : RmAt w aw at_ ah an cw ct ch cn r) (hs : ∀ x ∈ r.ts, x.data.size ≤ maxLen) (hw1 : r.ws.length ≤ 1000) (ht1 : r.ts.length ≤ 1000) :
    Calls Tryz.prog 97 #[.agg #[.slice aw r.ws.length cw, .slice at_ r.ts.length ct, .slice ah r.hs.length ch, .slice an r.ns.length cn, .int .i64 r.nw, .int .i64 r.nt]] w fun e w' => e = .returned (.bool (thsOk r)) ∧ Below w.heap.size w w' := by
  obtain ⟨i0, hi, hi0, hi1, hi2⟩ := info_parts infoInt
  have B0 := Bx.new w [.slice aw r.ws.length cw, .slice at_ r.ts.length ct, .slice ah r.hs.length ch, .slice an r.ns.length cn, .int .i64 r.nw, .int .i64 r.nt] 32
  have ba : Below w.heap.size w (w.alloc (.cells #[.slice aw r.ws.length cw, .slice at_ r.ts.length ct, .slice ah r.hs.length ch, .slice an r.ns.length cn, .int .i64 r.nw, .int .i64 r.nt] 32)) := (Below.refl _ w).alloc (Nat.le_refl _) _
  have hT := hr.t
  have hW := hr.w
  clear hr
  obtain ⟨c0, c1, c2, c3, c4, c5⟩ := B0.c6
  have hz := B0.1
  go_enter Tryz.func97, Tryz.ntmps97
  go_wp2_with fail
  clear c0 c1 c2 c3 c4 c5 hz
  go_loopw [3, 9] (fun v i wr => ∃ k : Nat, k ≤ r.ts.length ∧ i = .int .i64 k ∧ wr.ownsRow (w.heap.size + 1) 3 1 v ((r.ts.take k).map (·.id)).length (((r.ts.take k).map (·.id)).flatMap icells) ∧ Hid ((r.ts.drop k).all thOk = r.ts.all thOk) ∧ Bx wr w.heap.size [.slice aw r.ws.length cw, .slice at_ r.ts.length ct, .slice ah r.hs.length ch, .slice an r.ns.length cn, .int .i64 r.nw, .int .i64 r.nt] ∧ Below w.heap.size w wr)
    (fun _ i _ => r.ts.length - (intOf i).toNat)
  case atStart => exact ⟨0, Nat.zero_le _, rfl, by simpa using World.ownsRow_nil _ _ _ _, (show Hid _ from rfl), B0, ba⟩
  case round =>
    clear B0 ba
    obtain ⟨k, hk, rfl, hown, HA, BR, hbl⟩ := hrel
    by_cases hlt : k < r.ts.length
    · obtain ⟨x, hx⟩ : ∃ x, r.ts[k]? = some x := ⟨r.ts[k], List.getElem?_eq_getElem hlt⟩
      obtain ⟨b, o, rfl, hb, hxs⟩ := hT.resolve_left (fun e => by rw [e] at hlt; simp at hlt)
      obtain ⟨q1, q2, q3⟩ := (hxs k x hx).below hbl hb
      have hsx := hs x (List.mem_of_getElem? hx)
      have HT : Hid ((r.ts.take (k + 1)).map (·.id) = (r.ts.take k).map (·.id) ++ [x.id]) := (show (r.ts.take (k + 1)).map (·.id) = _ from by rw [List.take_add_one, hx]; simp)
      have HX : Hid (r.ts[k]? = some x) := hx
      have hle : ((r.ts.take k).map (·.id)).length ≤ r.ts.length := by simp; omega
      have hbz : b < wr.heap.size := Nat.lt_of_lt_of_le hb hbl.size
      generalize hM : (r.ts.take k).map (·.id) = M at hown hle
      have HM : Hid ((r.ts.take k).map (·.id) = M) := hM
      clear hM hxs hT hx
      go_wp2_with fail
      refine (thMay_any x _ hsx).mono ?_
      rintro e w2 ⟨rfl, hb2⟩
      have hb3 : Below wr.heap.size wr w2 := Below_after ((Below.refl _ wr).alloc (Nat.le_refl _) _) hb2
      have hown2 := ownsRow_after hown hb3
      have BR2 := BR.below hb3
      have hbl2 := Below_after hbl hb3
      obtain ⟨p0, -, -⟩ := (ThAt_new wr 62 x).below hb2 (by simp)
      have pz : wr.heap.size < w2.heap.size := by have := hb2.size; simp at this; omega
      have hlo : w.heap.size + 1 ≤ w2.heap.size := BR2.1
      clear hb2 hb3 hown BR hbl q1 q2 q3
      by_cases ok : thOk x = true
      · rw [ok]
        have OK : Hid (thOk x = true) := ok
        clear ok
        go_wp2_with (at_builtin; refine wpList_append_own _ rfl _ _ 60 rfl (w.heap.size + 1) 3 i0 (.int .i64 0) 1 8 Tryz.underlying60 hi hi0 hi1 hi2 rfl (by decide) _ _ _ rfl (hown2.alloc _) _ 1 1 [.int .i64 x.id] rfl rfl (new1 _ _ _) (one1 _) ?c3 ?c4 ?c5 ?_)
        case c3 => unfold maxLen; omega
        case c4 => omega
        case c5 => simp; omega
        intro v' w3 hown3' hgrow _
        have hne : some w.heap.size ≠ _ := fun e => by have := (hown2.lt _ e.symm).1; omega
        have BR3 := (BR2.alloc _).grown hgrow hne
        have hown3 := row1_snoc hown3'
        have hbl3 : Below w.heap.size w w3 := (hbl2.alloc (by omega) _).grown hgrow (by simp; omega) (fun k hk => by have := (hown2.lt k hk).1; omega)
        clear hown3' hgrow hne hown2 BR2 hbl2
        go_wp2_with fail
        go_roundw
        case rel => exact ⟨k + 1, by omega, by go_num, by rw [HT.out, HM.out]; exact hown3, (show Hid _ from (all_from HX.out OK.out).trans HA.out), BR3, hbl3⟩
        case measure => simp [intOf]; omega
      · have ok' : thOk x = false := by simpa using ok
        have HF : Hid (thsOk r = false) := (show thsOk r = false from by unfold thsOk; rw [all_stop HX.out ok']; rfl)
        rw [ok']
        clear ok ok' HA
        go_wp2_with fail
        go_ret
        exact ⟨by rw [HF.out]; rfl, hbl2⟩
    · have hkn : k = r.ts.length := by omega
      have HAL : Hid (r.ts.all thOk = true) := (show r.ts.all thOk = true from by rw [← HA.out, hkn, List.drop_length]; rfl)
      rw [hkn, List.take_length] at hown
      obtain ⟨a1, d1, rfl, hI, hIz⟩ := ints_of_row hown
      have hlm : (r.ts.map (·.id)).length = r.ts.length := by simp
      rw [hlm]
      obtain ⟨c0, c1, c2, c3, c4, c5⟩ := BR.c6
      have hz := BR.1
      clear hown HA hkn hT hi hi0 hi1 hi2
      by_cases h10 : r.ts.length ≤ 10
      · have dd : decide ((r.ts.length : Int) ≤ 10) = true := decide_eq_true (by omega)
        go_wp2_with fail
        refine (things_any aw cw r.ws _ (hW.below hbl) hw1).mono ?_
        rintro e w2 ⟨a2, d2, rfl, hI2, hIz2, hb2⟩
        have hbl2 := Below_after hbl hb2
        have hI1 := hI.below hb2 hIz
        have hIz1 : ∀ b o, a1 = some ⟨b, o, none⟩ → b < w2.heap.size := fun b o e => Nat.lt_of_lt_of_le (hIz b o e) hb2.size
        have hth : (thingsL r.ws).length ≤ 1000000 := by
          have := th_le r.ws
          omega
        have HO : Hid (thsOk r = decide (r.ts.map (·.id) = thingsL r.ws)) := (show thsOk r = _ from by unfold thsOk; rw [HAL.out, decide_eq_true h10]; simp)
        clear hb2 hI hIz hbl HAL dd h10 c0 c1 c2 c3 c4 c5 hz BR hW
        generalize hM : r.ts.map (·.id) = M at *
        rw [← hlm]
        have hM2 : M.length ≤ 1000000 := by omega
        clear hlm
        go_wp2_with fail
        refine (eqI_any a1 a2 d1 d2 M (thingsL r.ws) w2 hI1 hI2 hIz1 hIz2 hM2 hth).mono ?_
        rintro e w3 ⟨rfl, hb3⟩
        have hbl3 := Below_after hbl2 hb3
        go_wp2_with fail
        go_ret
        exact ⟨by rw [HO.out]; rfl, hbl3⟩
      · have dd : decide ((r.ts.length : Int) ≤ 10) = false := decide_eq_false (by omega)
        have HO : Hid (thsOk r = false) := (show thsOk r = _ from by unfold thsOk; rw [decide_eq_false h10]; simp)
        clear HAL h10
        go_wp2_with fail
        go_ret
        exact ⟨by rw [HO.out]; rfl, hbl⟩
set_option maxHeartbeats 2000000 in
set_option maxRecDepth 100000 in
theorem hdsMay_any (aw at_ ah an : Option Addr) (cw ct ch cn : Nat) (r : Rm) (w : World) (hr : RmAt w aw at_ ah an cw ct ch cn r) (hw1 : r.ws.length ≤ 1000) (hh1 : r.hs.length ≤ 100) :
    Calls Tryz.prog 98 #[.agg #[.slice aw r.ws.length cw, .slice at_ r.ts.length ct, .slice ah r.hs.length ch, .slice an r.ns.length cn, .int .i64 r.nw, .int .i64 r.nt]] w fun e w' => e = .returned (.bool (hdsOk r)) ∧ Below w.heap.size w w' := by
  have B0 := Bx.new w [.slice aw r.ws.length cw, .slice at_ r.ts.length ct, .slice ah r.hs.length ch, .slice an r.ns.length cn, .int .i64 r.nw, .int .i64 r.nt] 32
  have ba : Below w.heap.size w (w.alloc (.cells #[.slice aw r.ws.length cw, .slice at_ r.ts.length ct, .slice ah r.hs.length ch, .slice an r.ns.length cn, .int .i64 r.nw, .int .i64 r.nt] 32)) := (Below.refl _ w).alloc (Nat.le_refl _) _
  have hH := hr.h
  have hW := hr.w
  clear hr
  obtain ⟨c0, c1, c2, c3, c4, c5⟩ := B0.c6
  have hz := B0.1
  go_enter Tryz.func98, Tryz.ntmps98
  go_wp2_with fail
  clear c0 c1 c2 c3 c4 c5 hz
  go_loopw [12] (fun i wr => ∃ k : Nat, k ≤ r.hs.length ∧ i = .int .i64 k ∧ Hid ((r.hs.drop k).all (fun h => decide (plOk h.holder h.slot)) = r.hs.all (fun h => decide (plOk h.holder h.slot))) ∧ Bx wr w.heap.size [.slice aw r.ws.length cw, .slice at_ r.ts.length ct, .slice ah r.hs.length ch, .slice an r.ns.length cn, .int .i64 r.nw, .int .i64 r.nt] ∧ Below w.heap.size w wr)
    (fun i _ => r.hs.length - (intOf i).toNat)
  case atStart => exact ⟨0, Nat.zero_le _, rfl, (show Hid _ from rfl), B0, ba⟩
  case round =>
    clear B0 ba
    obtain ⟨k, hk, rfl, HA, BR, hbl⟩ := hrel
    by_cases hlt : k < r.hs.length
    · obtain ⟨x, hx⟩ : ∃ x, r.hs[k]? = some x := ⟨r.hs[k], List.getElem?_eq_getElem hlt⟩
      obtain ⟨b, o, rfl, hb, hxs⟩ := hH.resolve_left (fun e => by rw [e] at hlt; simp at hlt)
      obtain ⟨q1, q2, q3⟩ := (hxs k x hx).below hbl hb
      have HX : Hid (r.hs[k]? = some x) := hx
      have hbz : b < wr.heap.size := Nat.lt_of_lt_of_le hb hbl.size
      have b1 : Below wr.heap.size wr (wr.alloc (.cells #[.int .i64 x.holder, .int .i64 x.slot, .int .i64 x.writ] 85)) := (Below.refl _ wr).alloc (Nat.le_refl _) _
      clear hxs hH hx
      by_cases ok : plOk x.holder x.slot
      · have hcon := scheck_ok x.holder x.slot (wr.alloc (.cells #[.int .i64 x.holder, .int .i64 x.slot, .int .i64 x.writ] 85)) ok
        have OK : Hid (decide (plOk x.holder x.slot) = true) := decide_eq_true ok
        clear ok
        go_wp2_with fail
        refine hcon.mono ?_
        rintro e w2 ⟨rfl, hb2⟩
        have hb3 := Below_after b1 hb2
        have BR2 := BR.below hb3
        have hbl2 := Below_after hbl hb3
        clear hcon BR hbl hb2 b1 hb3 q1 q2 q3
        go_wp2_with fail
        go_roundw
        case rel => exact ⟨k + 1, by omega, by go_num, (show Hid _ from (all_from HX.out OK.out).trans HA.out), BR2, hbl2⟩
        case measure => simp [intOf]; omega
      · have hcon := scheck_bad x.holder x.slot (wr.alloc (.cells #[.int .i64 x.holder, .int .i64 x.slot, .int .i64 x.writ] 85)) ok
        have HF : Hid (hdsOk r = false) := (show hdsOk r = false from by unfold hdsOk; rw [all_stop HX.out (decide_eq_false ok)]; rfl)
        clear ok
        go_wp2_with fail
        refine hcon.mono ?_
        rintro e w2 ⟨rfl, hb2⟩
        have hbl2 := Below_after hbl (Below_after b1 hb2)
        clear hcon BR hbl hb2 b1 q1 q2 q3
        go_wp2_with fail
        go_ret
        exact ⟨by rw [HF.out]; rfl, hbl2⟩
    · have hkn : k = r.hs.length := by omega
      have HAL : Hid (r.hs.all (fun h => decide (plOk h.holder h.slot)) = true) := (show r.hs.all _ = true from by rw [← HA.out, hkn, List.drop_length]; rfl)
      clear HA hkn
      obtain ⟨c0, c1, c2, c3, c4, c5⟩ := BR.c6
      have hz := BR.1
      go_wp2_with fail
      clear c0 c1 c2 c3 c4 c5 hz
      go_loopw [24] (fun i wq => ∃ k : Nat, k ≤ r.ws.length ∧ i = .int .i64 k ∧ Hid ((r.ws.drop k).all (fun w => r.hs.any fun h => h.writ == w.id) = r.ws.all (fun w => r.hs.any fun h => h.writ == w.id)) ∧ Bx wq w.heap.size [.slice aw r.ws.length cw, .slice at_ r.ts.length ct, .slice ah r.hs.length ch, .slice an r.ns.length cn, .int .i64 r.nw, .int .i64 r.nt] ∧ Below w.heap.size w wq)
        (fun i _ => r.ws.length - (intOf i).toNat)
      case atStart => exact ⟨0, Nat.zero_le _, rfl, (show Hid _ from rfl), BR, hbl⟩
      case round =>
        clear BR hbl
        obtain ⟨m, hm, rfl, HA, BR, hbl⟩ := hrel
        by_cases hlt2 : m < r.ws.length
        · obtain ⟨x, hx⟩ : ∃ x, r.ws[m]? = some x := ⟨r.ws[m], List.getElem?_eq_getElem hlt2⟩
          obtain ⟨b, o, rfl, hb, hxs⟩ := hW.resolve_left (fun e => by rw [e] at hlt2; simp at hlt2)
          obtain ⟨q1, q2, q3, q4, q5⟩ := (hxs m x hx).below hbl hb
          have HX : Hid (r.ws[m]? = some x) := hx
          have hbz : b < wr.heap.size := Nat.lt_of_lt_of_le hb hbl.size
          have b1 : Below wr.heap.size wr (wr.alloc (.cells #[.int .i64 x.id, .int .i64 x.thing, .int .i64 x.rights, .int .i64 x.badge, .int .i64 x.frm] 88)) := (Below.refl _ wr).alloc (Nat.le_refl _) _
          have hH1 := hH.below (Below_after hbl b1)
          obtain ⟨c0, c1, c2, c3, c4, c5⟩ := BR.c6
          have hz := BR.1
          clear hxs hW hx
          rcases idx_cases (isW x.id) r.hs with ⟨i1, i2⟩ | ⟨j, y, i1, i2, i3, -⟩
          · have hcon := where_no ah ch r.hs x.id _ hH1 hh1 i1
            have hany : (r.hs.any fun h => h.writ == x.id) = false := by
              rw [List.any_eq_false]
              intro z hz'
              have := List.find?_eq_none.1 i2 z hz'
              simpa [isW] using this
            have HF : Hid (hdsOk r = false) := (show hdsOk r = false from by unfold hdsOk; rw [all_stop (p := fun w : Wr => r.hs.any fun h => h.writ == w.id) HX.out hany]; simp)
            clear i1 i2 hany hH1
            go_wp2_with fail
            refine hcon.mono ?_
            rintro e w2 ⟨rfl, hb2⟩
            have hbl2 := Below_after hbl (Below_after b1 hb2)
            have bb2 : Below w.heap.size w (w2.alloc (.cells #[.int .i64 0, .int .i64 0] 39)) := hbl2.alloc hbl2.size _
            clear hcon BR hbl hb2 b1 q1 q2 q3 q4 q5 c0 c1 c2 c3 c4 c5 hz
            go_wp2_with fail
            go_ret
            exact ⟨by rw [HF.out]; rfl, bb2⟩
          · have hcon := where_yes ah ch r.hs x.id _ hH1 hh1 j y i1 i2
            have hany : (r.hs.any fun h => h.writ == x.id) = true := List.any_eq_true.2 ⟨y, List.mem_of_getElem? i2, i3⟩
            have OK : Hid ((fun w : Wr => r.hs.any fun h => h.writ == w.id) x = true) := hany
            clear i1 i2 i3 hany hH1
            go_wp2_with fail
            refine hcon.mono ?_
            rintro e w2 ⟨rfl, hb2⟩
            have hb3 := Below_after b1 hb2
            have BR2 := (BR.below hb3).alloc (.cells #[.int .i64 y.holder, .int .i64 y.slot] 39)
            have hbl2 := Below_after hbl hb3
            have bb2 : Below w.heap.size w (w2.alloc (.cells #[.int .i64 y.holder, .int .i64 y.slot] 39)) := hbl2.alloc hbl2.size _
            clear hcon BR hbl hb2 b1 hb3 q1 q2 q3 q4 q5 c0 c1 c2 c3 c4 c5 hz
            go_wp2_with fail
            go_roundw
            case rel => exact ⟨m + 1, by omega, by go_num, (show Hid _ from (all_from HX.out OK.out).trans HA.out), BR2, bb2⟩
            case measure => simp [intOf]; omega
        · have hkn : m = r.ws.length := by omega
          have HAW : Hid (r.ws.all (fun w => r.hs.any fun h => h.writ == w.id) = true) := (show r.ws.all _ = true from by rw [← HA.out, hkn, List.drop_length]; rfl)
          have HO : Hid (hdsOk r = ((r.hs.length : Int) == (r.ws.length : Int))) := (show hdsOk r = _ from by
            unfold hdsOk
            rw [HAL.out, HAW.out, Bool.true_and, Bool.true_and]
            by_cases e : r.hs.length = r.ws.length
            · rw [decide_eq_true e, e]; simp
            · rw [decide_eq_false e]
              symm
              rw [beq_eq_false_iff_ne]
              omega)
          clear HA HAW HAL hkn
          obtain ⟨c0, c1, c2, c3, c4, c5⟩ := BR.c6
          have hz := BR.1
          go_wp2_with fail
          go_ret
          exact ⟨by rw [HO.out]; rfl, hbl⟩
set_option maxHeartbeats 2000000 in
set_option maxRecDepth 100000 in
theorem contFw (a : Option Addr) (c : Nat) (l : List Wr) (p : Wr → Bool) (g : Nat) (lb : Array Value) (eg : ∀ args w, (callFunc g args).run Tryz.prog w = .ok (.enter g args) w) (w0 w : World) (hp : Predw w0 g lb p) (hB : Below w0.heap.size w0 w)
    (hw : WrsAt w a l) (hm : l.length ≤ 1000000) :
    Calls Tryz.prog 137 #[.slice a l.length c, .func (.func g) #[] lb] w fun e w' => e = .returned (.bool (l.any p)) ∧ Below w.heap.size w w' := by
  have hcon := idx_anyw a c l p g lb eg w0 w hp hB hw hm
  have hi : l.any p = decide ((0 : Int) ≤ idx p l) := by
    rcases idx_cases p l with ⟨h1, h2⟩ | ⟨j, x, h1, h2, h3, -⟩
    · rw [h1]
      rw [List.find?_eq_none] at h2
      rw [show decide ((0 : Int) ≤ -1) = false from rfl, List.any_eq_false]
      exact h2
    · rw [h1, decide_eq_true (by omega)]
      exact List.any_eq_true.2 ⟨x, List.mem_of_getElem? h2, h3⟩
  have HI : Hid (l.any p = decide ((0 : Int) ≤ idx p l)) := hi
  clear hi hw hp
  go_enter Tryz.func137, Tryz.ntmps137
  go_wp2_with fail
  refine hcon.mono ?_
  rintro e w1 ⟨rfl, hb1⟩
  clear hcon
  go_wp2_with fail
  go_ret
  exact ⟨by rw [HI.out]; rfl, hb1⟩
set_option maxHeartbeats 2000000 in
set_option maxRecDepth 100000 in
theorem contFt (a : Option Addr) (c : Nat) (l : List Th) (p : Th → Bool) (g : Nat) (lb : Array Value) (eg : ∀ args w, (callFunc g args).run Tryz.prog w = .ok (.enter g args) w) (w0 w : World) (hp : Predt w0 g lb p) (hB : Below w0.heap.size w0 w)
    (hw : ThsAt w a l) (hm : l.length ≤ 1000000) :
    Calls Tryz.prog 139 #[.slice a l.length c, .func (.func g) #[] lb] w fun e w' => e = .returned (.bool (l.any p)) ∧ Below w.heap.size w w' := by
  have hcon := idx_anyt a c l p g lb eg w0 w hp hB hw hm
  have hi : l.any p = decide ((0 : Int) ≤ idx p l) := by
    rcases idx_cases p l with ⟨h1, h2⟩ | ⟨j, x, h1, h2, h3, -⟩
    · rw [h1]
      rw [List.find?_eq_none] at h2
      rw [show decide ((0 : Int) ≤ -1) = false from rfl, List.any_eq_false]
      exact h2
    · rw [h1, decide_eq_true (by omega)]
      exact List.any_eq_true.2 ⟨x, List.mem_of_getElem? h2, h3⟩
  have HI : Hid (l.any p = decide ((0 : Int) ≤ idx p l)) := hi
  clear hi hw hp
  go_enter Tryz.func139, Tryz.ntmps139
  go_wp2_with fail
  refine hcon.mono ?_
  rintro e w1 ⟨rfl, hb1⟩
  clear hcon
  go_wp2_with fail
  go_ret
  exact ⟨by rw [HI.out]; rfl, hb1⟩
theorem nxw_any (t : Int) (b0 : Nat) (w : World) (hc : w.cell? ⟨b0, 0, none⟩ = some (.int .i64 t)) (hlt : b0 < w.heap.size) : Predw w 138 #[.pointer (some ⟨b0, 0, none⟩)] (fun x => decide (t ≤ x.id)) := by
  intro x W hb
  have q : W.cell? ⟨b0, 0, none⟩ = some (.int .i64 t) := by rw [(bcell hb).1 _ _ hlt]; exact hc
  have hlt' : b0 < W.heap.size := Nat.lt_of_lt_of_le hlt hb.size
  show Calls Tryz.prog 138 #[.agg #[.int .i64 x.id, .int .i64 x.thing, .int .i64 x.rights, .int .i64 x.badge, .int .i64 x.frm], .pointer (some ⟨b0, 0, none⟩)] W _
  go_enter Tryz.func138, Tryz.ntmps138
  go_wp2
  go_ret
  exact ⟨rfl, (Below.refl _ _).alloc (Nat.le_refl _) _⟩
theorem nxt_any (t : Int) (b0 : Nat) (w : World) (hc : w.cell? ⟨b0, 0, none⟩ = some (.int .i64 t)) (hlt : b0 < w.heap.size) : Predt w 140 #[.pointer (some ⟨b0, 0, none⟩)] (fun x => decide (t ≤ x.id)) := by
  intro x W hb
  have q : W.cell? ⟨b0, 0, none⟩ = some (.int .i64 t) := by rw [(bcell hb).1 _ _ hlt]; exact hc
  have hlt' : b0 < W.heap.size := Nat.lt_of_lt_of_le hlt hb.size
  show Calls Tryz.prog 140 #[.agg #[.int .i64 x.id, .int .i64 x.kind, .string x.data], .pointer (some ⟨b0, 0, none⟩)] W _
  go_enter Tryz.func140, Tryz.ntmps140
  go_wp2
  go_ret
  exact ⟨rfl, (Below.refl _ _).alloc (Nat.le_refl _) _⟩
theorem nx_any {α : Type} (l : List α) (f : α → Int) (t : Int) : l.all (fun x => decide (f x < t)) = !l.any (fun x => decide (t ≤ f x)) := by
  induction l with
  | nil => rfl
  | cons a l ih =>
    rw [List.all_cons, List.any_cons, ih, Bool.not_or]
    congr 1
    by_cases h : f a < t
    · rw [decide_eq_true h, decide_eq_false (by omega)]; rfl
    · rw [decide_eq_false h, decide_eq_true (by omega)]; rfl
set_option maxHeartbeats 2000000 in
set_option maxRecDepth 100000 in
theorem nxMay_any (aw at_ ah an : Option Addr) (cw ct ch cn : Nat) (r : Rm) (w : World) (hr : RmAt w aw at_ ah an cw ct ch cn r) (hw1 : r.ws.length ≤ 1000) (ht1 : r.ts.length ≤ 1000) :
    Calls Tryz.prog 99 #[.agg #[.slice aw r.ws.length cw, .slice at_ r.ts.length ct, .slice ah r.hs.length ch, .slice an r.ns.length cn, .int .i64 r.nw, .int .i64 r.nt]] w fun e w' => e = .returned (.bool (nxOk r)) ∧ Below w.heap.size w w' := by
  have hmf : ∀ (fn : Fn) (first cap : Array Value) (w : World), (Instr.makeFunc fn first cap).run Tryz.prog w = .ok (.func fn first cap) w := fun _ _ _ _ => rfl
  have eg1 : ∀ args w, (callFunc 138 args).run Tryz.prog w = .ok (.enter 138 args) w := enters_of Tryz.func138 (by kernel_rfl) rfl
  have eg2 : ∀ args w, (callFunc 140 args).run Tryz.prog w = .ok (.enter 140 args) w := enters_of Tryz.func140 (by kernel_rfl) rfl
  have ba : Below w.heap.size w (w.alloc (.cells #[.slice aw r.ws.length cw, .slice at_ r.ts.length ct, .slice ah r.hs.length ch, .slice an r.ns.length cn, .int .i64 r.nw, .int .i64 r.nt] 32)).drew := ((Below.refl _ w).alloc (Nat.le_refl _) (.cells #[.slice aw r.ws.length cw, .slice at_ r.ts.length ct, .slice ah r.hs.length ch, .slice an r.ns.length cn, .int .i64 r.nw, .int .i64 r.nt] 32)).drew
  have B0 : Bx (w.alloc (.cells #[.slice aw r.ws.length cw, .slice at_ r.ts.length ct, .slice ah r.hs.length ch, .slice an r.ns.length cn, .int .i64 r.nw, .int .i64 r.nt] 32)).drew w.heap.size [.slice aw r.ws.length cw, .slice at_ r.ts.length ct, .slice ah r.hs.length ch, .slice an r.ns.length cn, .int .i64 r.nw, .int .i64 r.nt] := (Bx.new w [.slice aw r.ws.length cw, .slice at_ r.ts.length ct, .slice ah r.hs.length ch, .slice an r.ns.length cn, .int .i64 r.nw, .int .i64 r.nt] 32).below (below_drewN (Below.refl _ _) 1)
  have hS : (w.alloc (.cells #[.slice aw r.ws.length cw, .slice at_ r.ts.length ct, .slice ah r.hs.length ch, .slice an r.ns.length cn, .int .i64 r.nw, .int .i64 r.nt] 32)).drew.heap.size = w.heap.size + 1 := by show (w.alloc (.cells #[.slice aw r.ws.length cw, .slice at_ r.ts.length ct, .slice ah r.hs.length ch, .slice an r.ns.length cn, .int .i64 r.nw, .int .i64 r.nt] 32)).heap.size = _; simp
  have mkS : ∀ W, Bx W w.heap.size [.slice aw r.ws.length cw, .slice at_ r.ts.length ct, .slice ah r.hs.length ch, .slice an r.ns.length cn, .int .i64 r.nw, .int .i64 r.nt] → (fun w' : World => w'.cell? ⟨w.heap.size, 4, none⟩ = some (.int .i64 r.nw) ∧ w'.cell? ⟨w.heap.size, 5, none⟩ = some (.int .i64 r.nt)) W := fun W q => ⟨(q.2 4 _ rfl).1, (q.2 5 _ rfl).1⟩
  have B1 : Bx (((w.alloc (.cells #[.slice aw r.ws.length cw, .slice at_ r.ts.length ct, .slice ah r.hs.length ch, .slice an r.ns.length cn, .int .i64 r.nw, .int .i64 r.nt] 32)).drew.alloc (.cells #[.int .i64 0] 3)).alloc (.cells #[.int .i64 0] 3)) (w.heap.size + 1) [.int .i64 0] := by
    have h := (Bx.new (w.alloc (.cells #[.slice aw r.ws.length cw, .slice at_ r.ts.length ct, .slice ah r.hs.length ch, .slice an r.ns.length cn, .int .i64 r.nw, .int .i64 r.nt] 32)).drew [.int .i64 0] 3).alloc (.cells #[.int .i64 0] 3)
    rw [hS] at h; exact h
  have B2 : Bx (((w.alloc (.cells #[.slice aw r.ws.length cw, .slice at_ r.ts.length ct, .slice ah r.hs.length ch, .slice an r.ns.length cn, .int .i64 r.nw, .int .i64 r.nt] 32)).drew.alloc (.cells #[.int .i64 0] 3)).alloc (.cells #[.int .i64 0] 3)) (w.heap.size + 1 + 1) [.int .i64 0] := by
    have h := Bx.new ((w.alloc (.cells #[.slice aw r.ws.length cw, .slice at_ r.ts.length ct, .slice ah r.hs.length ch, .slice an r.ns.length cn, .int .i64 r.nw, .int .i64 r.nt] 32)).drew.alloc (.cells #[.int .i64 0] 3)) [.int .i64 0] 3
    rw [sz_alloc, hS] at h; exact h
  have B0' := (B0.alloc (.cells #[.int .i64 0] 3)).alloc (.cells #[.int .i64 0] 3)
  have b2 : Below w.heap.size w (((w.alloc (.cells #[.slice aw r.ws.length cw, .slice at_ r.ts.length ct, .slice ah r.hs.length ch, .slice an r.ns.length cn, .int .i64 r.nw, .int .i64 r.nt] 32)).drew.alloc (.cells #[.int .i64 0] 3)).alloc (.cells #[.int .i64 0] 3)) := (ba.alloc ba.size _).alloc (by rw [sz_alloc, hS]; omega) _
  have hS0 := mkS _ B0
  have hS1 := mkS _ (B0.alloc (.cells #[.int .i64 0] 3))
  have hS2 := mkS _ B0'
  have hW := hr.w
  have hT := hr.t
  clear hr B0 ba hS
  go_enter Tryz.func99, Tryz.ntmps99
  go_wp2_with fail
  refine wp_region_held_drew (S := fun w' => w'.cell? ⟨w.heap.size, 4, none⟩ = some (.int .i64 r.nw) ∧ w'.cell? ⟨w.heap.size, 5, none⟩ = some (.int .i64 r.nt)) (by kernel_rfl) ?_ (fun hHeld => ?_)
  · exact hS0
  refine tkI 0 (.pointer (some ⟨w.heap.size, 4, none⟩)) rfl ?_
  refine tkJ 1 (.int .i64 r.nw) rfl (by intro w hSw; (try dsimp only at hSw); obtain ⟨z0, z1⟩ := hSw; go_simp) ?_
  refine tkI 2 (.pointer (some ⟨w.heap.size, 5, none⟩)) rfl ?_
  refine tkJ 3 (.int .i64 r.nt) rfl (by intro w hSw; (try dsimp only at hSw); obtain ⟨z0, z1⟩ := hSw; go_simp) ?_
  refine rdJ 4 5 rfl rfl (fun K hK => ?_) (fun K hK => ?_)
  · go_wp2_with fail
    refine hK.out _ _ ?_ (fun hHeld => ?_)
    · exact hS1
    clear hK K
    (try simp only [Act.put, List.setIfInBounds_toArray, List.set_cons_zero, List.set_cons_succ])
    refine rdI 5 rfl (fun K hK => ?_)
    go_wp2_with fail
    refine hK.out _ _ ?_ (fun hHeld => ?_)
    · exact hS2
    clear hK K
    (try simp only [Act.put, List.setIfInBounds_toArray, List.set_cons_zero, List.set_cons_succ])
    change wpAnyH _ _ _ _ _ _ _ _ (((w.alloc (.cells #[.slice aw r.ws.length cw, .slice at_ r.ts.length ct, .slice ah r.hs.length ch, .slice an r.ns.length cn, .int .i64 r.nw, .int .i64 r.nt] 32)).drew.alloc (.cells #[.int .i64 0] 3)).alloc (.cells #[.int .i64 0] 3))
    generalize hW2 : (((w.alloc (.cells #[.slice aw r.ws.length cw, .slice at_ r.ts.length ct, .slice ah r.hs.length ch, .slice an r.ns.length cn, .int .i64 r.nw, .int .i64 r.nt] 32)).drew.alloc (.cells #[.int .i64 0] 3)).alloc (.cells #[.int .i64 0] 3)) = W2 at *
    have BA := (B1).set 0 (.int .i64 r.nw)
    have BB := ((B2).other (b' := (w.heap.size + 1)) (by omega) 0 (.int .i64 r.nw)).set 0 (.int .i64 r.nt)
    have BA2 := BA.other (b' := (w.heap.size + 1 + 1)) (by omega) 0 (.int .i64 r.nt)
    have BR2 := (B0'.other (b' := (w.heap.size + 1)) (by omega) 0 (.int .i64 r.nw)).other (b' := (w.heap.size + 1 + 1)) (by omega) 0 (.int .i64 r.nt)
    have b3 := (b2.setCell (p := ⟨(w.heap.size + 1), 0, none⟩) (by show w.heap.size ≤ (w.heap.size + 1); omega) (.int .i64 r.nw)).setCell (p := ⟨(w.heap.size + 1 + 1), 0, none⟩) (by show w.heap.size ≤ (w.heap.size + 1 + 1); omega) (.int .i64 r.nt)
    simp only [List.set_cons_zero] at BA BB BA2
    obtain ⟨ca, fa⟩ := (B1).2 0 _ rfl
    have za := (B1).1
    obtain ⟨cb, fb⟩ := ((B2).other (b' := (w.heap.size + 1)) (by omega) 0 (.int .i64 r.nw)).2 0 _ rfl
    have zb := ((B2).other (b' := (w.heap.size + 1)) (by omega) 0 (.int .i64 r.nw)).1
    have hS3 := mkS _ (B0'.other (b' := (w.heap.size + 1)) (by omega) 0 (.int .i64 r.nw))
    have hS4 := mkS _ BR2
    clear B1 B2 B0' b2 mkS
    refine rdI 6 rfl (fun K hK => ?_)
    go_wp2_with fail
    refine hK.out _ _ ?_ (fun hHeld => ?_)
    · exact hS3
    clear hK K
    (try simp only [Act.put, List.setIfInBounds_toArray, List.set_cons_zero, List.set_cons_succ])
    clear ca fa za
    change wpAnyH _ _ _ _ _ _ _ _ (W2.setCell ⟨(w.heap.size + 1), 0, none⟩ (.int .i64 r.nw))
    refine rdI 7 rfl (fun K hK => ?_)
    go_wp2_with fail
    refine hK.out _ _ ?_ (fun hHeld => ?_)
    · exact hS4
    clear hK K
    (try simp only [Act.put, List.setIfInBounds_toArray, List.set_cons_zero, List.set_cons_succ])
    clear cb fb zb hS0 hS1 hS2 hS3 hS4
    generalize hW3 : (W2.setCell ⟨(w.heap.size + 1), 0, none⟩ (.int .i64 r.nw)).setCell ⟨(w.heap.size + 1 + 1), 0, none⟩ (.int .i64 r.nt) = W3 at *
    refine wpAnyH_done (by kernel_rfl) ?_ _
    obtain ⟨ca, -⟩ := BA2.2 0 _ rfl
    have za := BA2.1
    obtain ⟨cb, -⟩ := BB.2 0 _ rfl
    have zb := BB.1
    have hW3' := hW.below b3
    have hT3' := hT.below b3
    clear BA hW2 hW3 hW hT
    by_cases n1 : r.nw < 1
    · have d1 : decide (r.nw < 1) = true := decide_eq_true n1
      have HO : Hid (nxOk r = false) := (show nxOk r = false from by unfold nxOk; rw [decide_eq_false (by omega)]; rfl)
      clear n1
      go_wp2_with fail
      go_ret
      exact ⟨by rw [HO.out]; rfl, b3⟩
    have d1 : decide (r.nw < 1) = false := decide_eq_false n1
    by_cases n2 : 1000 < r.nw
    · have d2 : decide (1000 < r.nw) = true := decide_eq_true n2
      have HO : Hid (nxOk r = false) := (show nxOk r = false from by unfold nxOk; rw [decide_eq_false (by omega)]; rfl)
      clear n1 n2
      go_wp2_with fail
      go_ret
      exact ⟨by rw [HO.out]; rfl, b3⟩
    have d2 : decide (1000 < r.nw) = false := decide_eq_false n2
    by_cases n3 : r.nt < 1
    · have d3 : decide (r.nt < 1) = true := decide_eq_true n3
      have HO : Hid (nxOk r = false) := (show nxOk r = false from by unfold nxOk; rw [decide_eq_false (by omega)]; rfl)
      clear n1 n2 n3
      go_wp2_with fail
      go_ret
      exact ⟨by rw [HO.out]; rfl, b3⟩
    have d3 : decide (r.nt < 1) = false := decide_eq_false n3
    by_cases n4 : 1000 < r.nt
    · have d4 : decide (1000 < r.nt) = true := decide_eq_true n4
      have HO : Hid (nxOk r = false) := (show nxOk r = false from by unfold nxOk; rw [decide_eq_false (by omega)]; rfl)
      clear n1 n2 n3 n4
      go_wp2_with fail
      go_ret
      exact ⟨by rw [HO.out]; rfl, b3⟩
    have d4 : decide (1000 < r.nt) = false := decide_eq_false n4
    have HO : Hid (nxOk r = (r.ws.all (fun w => decide (w.id < r.nw)) && r.ts.all (fun t => decide (t.id < r.nt)))) := (show nxOk r = _ from by unfold nxOk; rw [decide_eq_true ⟨by omega, by omega, by omega, by omega⟩, Bool.true_and])
    rw [nx_any r.ws (·.id), nx_any r.ts (·.id)] at HO
    clear n1 n2 n3 n4
    obtain ⟨c0, c1, c2, c3, c4, c5⟩ := BR2.c6
    have hz := BR2.1
    go_wp2_with fail
    refine (contFw aw cw r.ws _ 138 _ eg1 W3 W3 (nxw_any r.nw (w.heap.size + 1) W3 ca za) (Below.refl _ _) hW3' (by omega)).mono ?_
    rintro e w4 ⟨rfl, hb4⟩
    have b4 := Below_after b3 hb4
    have BR4 := BR2.below hb4
    have BB4 := BB.below hb4
    have hT4 := hT3'.below hb4
    clear ca za cb zb c0 c1 c2 c3 c4 c5 hz BR2 BB BA2 hb4 hT3' hW3'
    by_cases ok : (r.ws.any fun x => decide (r.nw ≤ x.id)) = true
    · have HO2 : Hid (nxOk r = false) := (show nxOk r = false from by rw [HO.out, ok]; rfl)
      rw [ok]
      clear ok HO
      go_wp2_with fail
      go_ret
      exact ⟨by rw [HO2.out]; rfl, b4⟩
    have ok' : (r.ws.any fun x => decide (r.nw ≤ x.id)) = false := by simpa using ok
    have HO2 : Hid (nxOk r = !r.ts.any fun x => decide (r.nt ≤ x.id)) := (show nxOk r = _ from by rw [HO.out, ok']; rfl)
    rw [ok']
    clear ok ok' HO
    obtain ⟨c0, c1, c2, c3, c4, c5⟩ := BR4.c6
    have hz := BR4.1
    obtain ⟨cb, -⟩ := BB4.2 0 _ rfl
    have zb := BB4.1
    go_wp2_with fail
    refine (contFt at_ ct r.ts _ 140 _ eg2 w4 w4 (nxt_any r.nt (w.heap.size + 1 + 1) w4 cb zb) (Below.refl _ _) hT4 (by omega)).mono ?_
    rintro e w5 ⟨rfl, hb5⟩
    have b5 := Below_after b4 hb5
    go_wp2_with fail
    go_ret
    exact ⟨by rw [HO2.out]; rfl, b5⟩
  · go_wp2_with fail
    refine hK.out _ _ ?_ (fun hHeld => ?_)
    · exact hS1
    clear hK K
    (try simp only [Act.put, List.setIfInBounds_toArray, List.set_cons_zero, List.set_cons_succ])
    refine rdI 4 rfl (fun K hK => ?_)
    go_wp2_with fail
    refine hK.out _ _ ?_ (fun hHeld => ?_)
    · exact hS2
    clear hK K
    (try simp only [Act.put, List.setIfInBounds_toArray, List.set_cons_zero, List.set_cons_succ])
    change wpAnyH _ _ _ _ _ _ _ _ (((w.alloc (.cells #[.slice aw r.ws.length cw, .slice at_ r.ts.length ct, .slice ah r.hs.length ch, .slice an r.ns.length cn, .int .i64 r.nw, .int .i64 r.nt] 32)).drew.alloc (.cells #[.int .i64 0] 3)).alloc (.cells #[.int .i64 0] 3))
    generalize hW2 : (((w.alloc (.cells #[.slice aw r.ws.length cw, .slice at_ r.ts.length ct, .slice ah r.hs.length ch, .slice an r.ns.length cn, .int .i64 r.nw, .int .i64 r.nt] 32)).drew.alloc (.cells #[.int .i64 0] 3)).alloc (.cells #[.int .i64 0] 3)) = W2 at *
    have BA := (B2).set 0 (.int .i64 r.nw)
    have BB := ((B1).other (b' := (w.heap.size + 1 + 1)) (by omega) 0 (.int .i64 r.nw)).set 0 (.int .i64 r.nt)
    have BA2 := BA.other (b' := (w.heap.size + 1)) (by omega) 0 (.int .i64 r.nt)
    have BR2 := (B0'.other (b' := (w.heap.size + 1 + 1)) (by omega) 0 (.int .i64 r.nw)).other (b' := (w.heap.size + 1)) (by omega) 0 (.int .i64 r.nt)
    have b3 := (b2.setCell (p := ⟨(w.heap.size + 1 + 1), 0, none⟩) (by show w.heap.size ≤ (w.heap.size + 1 + 1); omega) (.int .i64 r.nw)).setCell (p := ⟨(w.heap.size + 1), 0, none⟩) (by show w.heap.size ≤ (w.heap.size + 1); omega) (.int .i64 r.nt)
    simp only [List.set_cons_zero] at BA BB BA2
    obtain ⟨ca, fa⟩ := (B2).2 0 _ rfl
    have za := (B2).1
    obtain ⟨cb, fb⟩ := ((B1).other (b' := (w.heap.size + 1 + 1)) (by omega) 0 (.int .i64 r.nw)).2 0 _ rfl
    have zb := ((B1).other (b' := (w.heap.size + 1 + 1)) (by omega) 0 (.int .i64 r.nw)).1
    have hS3 := mkS _ (B0'.other (b' := (w.heap.size + 1 + 1)) (by omega) 0 (.int .i64 r.nw))
    have hS4 := mkS _ BR2
    clear B1 B2 B0' b2 mkS
    refine rdI 6 rfl (fun K hK => ?_)
    go_wp2_with fail
    refine hK.out _ _ ?_ (fun hHeld => ?_)
    · exact hS3
    clear hK K
    (try simp only [Act.put, List.setIfInBounds_toArray, List.set_cons_zero, List.set_cons_succ])
    clear ca fa za
    change wpAnyH _ _ _ _ _ _ _ _ (W2.setCell ⟨(w.heap.size + 1 + 1), 0, none⟩ (.int .i64 r.nw))
    refine rdI 7 rfl (fun K hK => ?_)
    go_wp2_with fail
    refine hK.out _ _ ?_ (fun hHeld => ?_)
    · exact hS4
    clear hK K
    (try simp only [Act.put, List.setIfInBounds_toArray, List.set_cons_zero, List.set_cons_succ])
    clear cb fb zb hS0 hS1 hS2 hS3 hS4
    generalize hW3 : (W2.setCell ⟨(w.heap.size + 1 + 1), 0, none⟩ (.int .i64 r.nw)).setCell ⟨(w.heap.size + 1), 0, none⟩ (.int .i64 r.nt) = W3 at *
    refine wpAnyH_done (by kernel_rfl) ?_ _
    obtain ⟨ca, -⟩ := BA2.2 0 _ rfl
    have za := BA2.1
    obtain ⟨cb, -⟩ := BB.2 0 _ rfl
    have zb := BB.1
    have hW3' := hW.below b3
    have hT3' := hT.below b3
    clear BA hW2 hW3 hW hT
    by_cases n1 : r.nw < 1
    · have d1 : decide (r.nw < 1) = true := decide_eq_true n1
      have HO : Hid (nxOk r = false) := (show nxOk r = false from by unfold nxOk; rw [decide_eq_false (by omega)]; rfl)
      clear n1
      go_wp2_with fail
      go_ret
      exact ⟨by rw [HO.out]; rfl, b3⟩
    have d1 : decide (r.nw < 1) = false := decide_eq_false n1
    by_cases n2 : 1000 < r.nw
    · have d2 : decide (1000 < r.nw) = true := decide_eq_true n2
      have HO : Hid (nxOk r = false) := (show nxOk r = false from by unfold nxOk; rw [decide_eq_false (by omega)]; rfl)
      clear n1 n2
      go_wp2_with fail
      go_ret
      exact ⟨by rw [HO.out]; rfl, b3⟩
    have d2 : decide (1000 < r.nw) = false := decide_eq_false n2
    by_cases n3 : r.nt < 1
    · have d3 : decide (r.nt < 1) = true := decide_eq_true n3
      have HO : Hid (nxOk r = false) := (show nxOk r = false from by unfold nxOk; rw [decide_eq_false (by omega)]; rfl)
      clear n1 n2 n3
      go_wp2_with fail
      go_ret
      exact ⟨by rw [HO.out]; rfl, b3⟩
    have d3 : decide (r.nt < 1) = false := decide_eq_false n3
    by_cases n4 : 1000 < r.nt
    · have d4 : decide (1000 < r.nt) = true := decide_eq_true n4
      have HO : Hid (nxOk r = false) := (show nxOk r = false from by unfold nxOk; rw [decide_eq_false (by omega)]; rfl)
      clear n1 n2 n3 n4
      go_wp2_with fail
      go_ret
      exact ⟨by rw [HO.out]; rfl, b3⟩
    have d4 : decide (1000 < r.nt) = false := decide_eq_false n4
    have HO : Hid (nxOk r = (r.ws.all (fun w => decide (w.id < r.nw)) && r.ts.all (fun t => decide (t.id < r.nt)))) := (show nxOk r = _ from by unfold nxOk; rw [decide_eq_true ⟨by omega, by omega, by omega, by omega⟩, Bool.true_and])
    rw [nx_any r.ws (·.id), nx_any r.ts (·.id)] at HO
    clear n1 n2 n3 n4
    obtain ⟨c0, c1, c2, c3, c4, c5⟩ := BR2.c6
    have hz := BR2.1
    go_wp2_with fail
    refine (contFw aw cw r.ws _ 138 _ eg1 W3 W3 (nxw_any r.nw (w.heap.size + 1 + 1) W3 ca za) (Below.refl _ _) hW3' (by omega)).mono ?_
    rintro e w4 ⟨rfl, hb4⟩
    have b4 := Below_after b3 hb4
    have BR4 := BR2.below hb4
    have BB4 := BB.below hb4
    have hT4 := hT3'.below hb4
    clear ca za cb zb c0 c1 c2 c3 c4 c5 hz BR2 BB BA2 hb4 hT3' hW3'
    by_cases ok : (r.ws.any fun x => decide (r.nw ≤ x.id)) = true
    · have HO2 : Hid (nxOk r = false) := (show nxOk r = false from by rw [HO.out, ok]; rfl)
      rw [ok]
      clear ok HO
      go_wp2_with fail
      go_ret
      exact ⟨by rw [HO2.out]; rfl, b4⟩
    have ok' : (r.ws.any fun x => decide (r.nw ≤ x.id)) = false := by simpa using ok
    have HO2 : Hid (nxOk r = !r.ts.any fun x => decide (r.nt ≤ x.id)) := (show nxOk r = _ from by rw [HO.out, ok']; rfl)
    rw [ok']
    clear ok ok' HO
    obtain ⟨c0, c1, c2, c3, c4, c5⟩ := BR4.c6
    have hz := BR4.1
    obtain ⟨cb, -⟩ := BB4.2 0 _ rfl
    have zb := BB4.1
    go_wp2_with fail
    refine (contFt at_ ct r.ts _ 140 _ eg2 w4 w4 (nxt_any r.nt (w.heap.size + 1) w4 cb zb) (Below.refl _ _) hT4 (by omega)).mono ?_
    rintro e w5 ⟨rfl, hb5⟩
    have b5 := Below_after b4 hb5
    go_wp2_with fail
    go_ret
    exact ⟨by rw [HO2.out]; rfl, b5⟩
set_option maxHeartbeats 2000000 in
set_option maxRecDepth 100000 in
theorem tog_any (aw at_ ah an : Option Addr) (cw ct ch cn : Nat) (r : Rm) (w : World) (hr : RmAt w aw at_ ah an cw ct ch cn r) (hs : ∀ x ∈ r.ts, x.data.size ≤ maxLen) (hw1 : r.ws.length ≤ 1000) (ht1 : r.ts.length ≤ 1000) (hh1 : r.hs.length ≤ 100) :
    Calls Tryz.prog 50 #[.agg #[.slice aw r.ws.length cw, .slice at_ r.ts.length ct, .slice ah r.hs.length ch, .slice an r.ns.length cn, .int .i64 r.nw, .int .i64 r.nt]] w fun e w' => e = .returned (.bool (togB r)) ∧ Below w.heap.size w w' := by
  have ba : Below w.heap.size w (w.alloc (.cells #[.slice aw r.ws.length cw, .slice at_ r.ts.length ct, .slice ah r.hs.length ch, .slice an r.ns.length cn, .int .i64 r.nw, .int .i64 r.nt] 32)) := (Below.refl _ w).alloc (Nat.le_refl _) (.cells #[.slice aw r.ws.length cw, .slice at_ r.ts.length ct, .slice ah r.hs.length ch, .slice an r.ns.length cn, .int .i64 r.nw, .int .i64 r.nt] 32)
  have B0 := Bx.new w [.slice aw r.ws.length cw, .slice at_ r.ts.length ct, .slice ah r.hs.length ch, .slice an r.ns.length cn, .int .i64 r.nw, .int .i64 r.nt] 32
  have hR0 := hr.below ba
  have f1 := hr.fw.1
  have f2 := hr.fw.2
  clear hr
  have hcon := chk_any aw cw r.ws _ hR0.w hw1 f1 f2
  obtain ⟨c0, c1, c2, c3, c4, c5⟩ := B0.c6
  have hz := B0.1
  go_enter Tryz.func50, Tryz.ntmps50
  go_wp2_with fail
  refine hcon.mono ?_
  rintro e w1 ⟨v, rfl, hE, hb1⟩
  have BR := B0.below hb1
  have hR := hR0.below hb1
  have bl := Below_after ba hb1
  clear c0 c1 c2 c3 c4 c5 hz hb1 B0 hR0 ba hcon f1 f2
  rcases hE with ⟨h0, rfl⟩ | ⟨h0, rfl⟩
  rotate_left
  · have HF : Hid (togB r = false) := (show togB r = false from by unfold togB; rw [decide_eq_false h0]; rfl)
    clear h0
    go_wp2_with fail
    go_ret
    exact ⟨by rw [HF.out]; rfl, bl⟩
  have H0 : Hid (decide (chk r.ws = 0) = true) := decide_eq_true h0
  clear h0
  obtain ⟨c0, c1, c2, c3, c4, c5⟩ := BR.c6
  have hz := BR.1
  go_wp2_with fail
  refine (thsMay_any aw at_ ah an cw ct ch cn r _ hR hs hw1 ht1).mono ?_
  rintro e w2 ⟨rfl, hb2⟩
  have BR2 := BR.below hb2
  have hR2 := hR.below hb2
  have bl2 := Below_after bl hb2
  clear c0 c1 c2 c3 c4 c5 hz hb2 BR hR bl
  by_cases o1 : thsOk r = true
  rotate_left
  · have o1' : thsOk r = false := by simpa using o1
    have HF : Hid (togB r = false) := (show togB r = false from by unfold togB; rw [H0.out, o1']; rfl)
    rw [o1']
    clear o1 o1' H0
    go_wp2_with fail
    go_ret
    exact ⟨by rw [HF.out]; rfl, bl2⟩
  have H1 : Hid (thsOk r = true) := o1
  rw [o1]
  clear o1
  obtain ⟨c0, c1, c2, c3, c4, c5⟩ := BR2.c6
  have hz := BR2.1
  go_wp2_with fail
  refine (hdsMay_any aw at_ ah an cw ct ch cn r _ hR2 hw1 hh1).mono ?_
  rintro e w3 ⟨rfl, hb3⟩
  have BR3 := BR2.below hb3
  have hR3 := hR2.below hb3
  have bl3 := Below_after bl2 hb3
  clear c0 c1 c2 c3 c4 c5 hz hb3 BR2 hR2 bl2
  by_cases o2 : hdsOk r = true
  rotate_left
  · have o2' : hdsOk r = false := by simpa using o2
    have HF : Hid (togB r = false) := (show togB r = false from by unfold togB; rw [H0.out, H1.out, o2']; rfl)
    rw [o2']
    clear o2 o2' H0 H1
    go_wp2_with fail
    go_ret
    exact ⟨by rw [HF.out]; rfl, bl3⟩
  have HO : Hid (togB r = nxOk r) := (show togB r = _ from by unfold togB; rw [H0.out, H1.out, o2]; simp)
  rw [o2]
  clear o2 H0 H1
  obtain ⟨c0, c1, c2, c3, c4, c5⟩ := BR3.c6
  have hz := BR3.1
  go_wp2_with fail
  refine (nxMay_any aw at_ ah an cw ct ch cn r _ hR3 hw1 ht1).mono ?_
  rintro e w4 ⟨rfl, hb4⟩
  have bl4 := Below_after bl3 hb4
  go_wp2_with fail
  go_ret
  exact ⟨by rw [HO.out]; rfl, bl4⟩
end Go.Proofs.YtddgpgldbekamaaGreatDoor
