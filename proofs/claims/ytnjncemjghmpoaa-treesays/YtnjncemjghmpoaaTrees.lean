/- The walk of 'trees', the closed fact: it answers true. -/
import Derived.Test.YtnjncemjghmpoaaTreePure
set_option linter.unusedSimpArgs false
set_option linter.unusedVariables false
namespace Go.Proofs.Ytnjncemjghmpoaa
open Go.RowKit

def T3 : List Wr := [⟨1, 1, 7, 0, 0⟩, ⟨2, 1, 3, 0, 1⟩, ⟨3, 1, 1, 0, 2⟩]
theorem T3_at (w : World) (t : TypeId) : WrsAt (w.alloc (.cells #[.int .i64 1, .int .i64 1, .int .i64 7, .int .i64 0, .int .i64 0, .int .i64 2, .int .i64 1, .int .i64 3, .int .i64 0, .int .i64 1, .int .i64 3, .int .i64 1, .int .i64 1, .int .i64 0, .int .i64 2] t)) (some ⟨w.heap.size, 0, none⟩) T3 := by
  refine .inr ⟨w.heap.size, 0, rfl, by simp, fun j x hx => ?_⟩
  match j, hx with
  | 0, hx => cases hx; refine ⟨?_, ?_, ?_, ?_, ?_⟩ <;> (rw [World.cell?_alloc_new]; rfl)
  | 1, hx => cases hx; refine ⟨?_, ?_, ?_, ?_, ?_⟩ <;> (rw [World.cell?_alloc_new]; rfl)
  | 2, hx => cases hx; refine ⟨?_, ?_, ?_, ?_, ?_⟩ <;> (rw [World.cell?_alloc_new]; rfl)
  | j + 3, hx => simp [T3] at hx
theorem T3_chk : chk T3 = 0 := by decide
theorem T3_beneath : beneathL T3 1 = [2, 3] := by decide
theorem T3_above : aboveL T3 3 = [2, 1] := by decide
theorem T3_wf : ∀ x ∈ T3, (Lit.int .i64 x.id).wf = true ∧ (Lit.int .i64 x.frm).wf = true := by decide
theorem ints_two (w : World) (t : TypeId) (n m : Int) : IntsAt (w.alloc (.cells #[.int .i64 n, .int .i64 m] t)) (some ⟨w.heap.size, 0, none⟩) [n, m] := by
  refine .inr ⟨w.heap.size, 0, rfl, fun j hj => ?_⟩
  match j, hj with
  | 0, _ => rw [World.cell?_alloc_new]; rfl
  | 1, _ => rw [World.cell?_alloc_new]; rfl
set_option maxHeartbeats 1000000 in
theorem trees_any (w : World) : Calls Try.prog 23 #[] w fun e w' => e = .returned (.bool true) ∧ Below w.heap.size w w' := by
  have hat := T3_at w 34
  have hb0 : Below w.heap.size w (w.alloc (.cells #[.int .i64 1, .int .i64 1, .int .i64 7, .int .i64 0, .int .i64 0, .int .i64 2, .int .i64 1, .int .i64 3, .int .i64 0, .int .i64 1, .int .i64 3, .int .i64 1, .int .i64 1, .int .i64 0, .int .i64 2] 34)) := (Below.refl _ _).alloc (Nat.le_refl _) _
  go_enter Try.func23, Try.ntmps23
  go_wp2_with fail
  refine (chk_good (some ⟨w.heap.size, 0, none⟩) 3 T3 _ hat (by decide) (by decide) (by decide) T3_chk).mono ?_
  rintro e w1 ⟨rfl, h1⟩
  have at1 := hat.below h1
  have bl1 := Below_after hb0 h1
  clear h1 hat
  go_wp2_with fail
  refine (beneath_any (some ⟨w.heap.size, 0, none⟩) 3 T3 1 w1 at1 (by decide) T3_wf).mono ?_
  rintro e w2 ⟨a2, c2, rfl, i2, l2, h2⟩
  have at2 := at1.below h2
  have bl2 := Below_after bl1 h2
  clear h2 at1
  rw [T3_beneath] at i2 ⊢
  have hal : Below w2.heap.size w2 (w2.alloc (.cells #[.int .i64 2, .int .i64 3] 3)) := (Below.refl _ _).alloc (Nat.le_refl _) _
  have i2' := i2.below hal l2
  have at2' := at2.below hal
  have bl2' := Below_after bl2 hal
  have k2 := ints_two w2 3 2 3
  clear hal i2 at2 bl2
  go_wp2_with fail
  refine (sn_any a2 (some ⟨w2.heap.size, 0, none⟩) c2 2 [2, 3] [2, 3] _ i2' k2 (by decide) (by decide)).mono ?_
  rintro e w3 ⟨rfl, m3, rfl⟩
  have bl3 := below_drewN bl2' m3
  have at3 := at2'.below (below_drewN (Below.refl _ _) m3)
  clear bl2' at2' i2' k2
  go_wp2_with fail
  refine (above_any (some ⟨w.heap.size, 0, none⟩) 3 T3 3 _ at3 (by decide) (by decide) (by decide)).mono ?_
  rintro e w4 ⟨a4, c4, rfl, i4, l4, h4⟩
  have bl4 := Below_after bl3 h4
  rw [T3_above] at i4 ⊢
  have hal : Below w4.heap.size w4 (w4.alloc (.cells #[.int .i64 2, .int .i64 1] 3)) := (Below.refl _ _).alloc (Nat.le_refl _) _
  have i4' := i4.below hal l4
  have bl4' := Below_after bl4 hal
  have k4 := ints_two w4 3 2 1
  clear hal i4 bl4 bl3 at3 h4
  go_wp2_with fail
  refine (sn_any a4 (some ⟨w4.heap.size, 0, none⟩) c4 2 [2, 1] [2, 1] _ i4' k4 (by decide) (by decide)).mono ?_
  rintro e w5 ⟨rfl, m5, rfl⟩
  have bl5 := below_drewN bl4' m5
  clear bl4' i4' k4
  go_wp2_with fail
  go_ret
  exact ⟨rfl, bl5⟩
end Go.Proofs.Ytnjncemjghmpoaa
