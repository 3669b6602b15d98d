/- The closed fact of the Top.. statements: a cell is made (made). -/
import Derived.Test.YtddgpgldbekamaaGreatDoorGrownW
import Derived.Deep.QuietTactic
import Derived.BigQuiet
import Derived.WalkSmall
set_option linter.unusedSimpArgs false
set_option linter.unnecessarySimpa false
set_option linter.unusedVariables false
namespace Go.Proofs.YtddgpgldbekamaaGreatDoor
open Go.RowKit


theorem made_c : makeC rm0 1 0 1 = 0 := by decide
theorem made_g : getC (makeR rm0 1 0 1) 1 0 = 0 := by decide
theorem made_w : getW (makeR rm0 1 0 1) 1 0 = ⟨1, 1, 7, 0, 0⟩ := rfl
theorem made_i : InvK 0 rm0 := inv_new
set_option maxHeartbeats 2000000 in
set_option maxRecDepth 100000 in
theorem made_any (w : World) : Calls Tryz.prog 22 #[] w fun e w' => e = .returned (.bool true) ∧ Below w.heap.size w w' := by
  have hI : RmI rm0 := ⟨made_i.sz (by omega), made_i.put, made_i.wf⟩
  have hI1 := inv_make made_i made_c
  go_enter Tryz.func22, Tryz.ntmps22
  go_wp2_with fail
  refine (new_any _).mono ?_
  rintro e w1 ⟨rfl, hb1⟩
  have hr0 : RmAt w1 none none none none 0 0 0 0 rm0 := ⟨.inl rfl, .inl rfl, .inl rfl, .inl rfl, by simp [Fit, rm0], by simp [Fit, rm0], by simp [Fit, rm0], by simp [Fit, rm0]⟩
  have hcon := act_make none none none none 0 0 0 0 rm0 1 0 1 w1 hr0 hI
  rw [made_c] at hcon
  change Calls _ _ #[.agg #[.slice none 0 0, .slice none 0 0, .slice none 0 0, .slice none 0 0, .int .i64 1, .int .i64 1], .agg #[.int .i64 1, .int .i64 0], .int .i64 1] _ _ at hcon
  go_wp2_with fail
  refine hcon.mono ?_
  rintro e w2 ⟨b0, b1, b2, b3, m0, m1, m2, m3, e0, e1, e2, e3, mm, nn, ev, rfl, hA, hb2⟩
  rcases hA with ⟨-, rfl, d0, d1, d2, d3, d4, d5, hat, -⟩ | ⟨hne, -⟩
  · have bl2 := Below_after hb1 hb2
    have hg := get_ok b0 b1 b2 b3 e0 e1 e2 e3 (makeR rm0 1 0 1) 1 0 (w2.alloc (.cells #[.slice b0 m0 e0, .slice b1 m1 e1, .slice b2 m2 e2, .slice b3 m3 e3, .int .i64 mm, .int .i64 nn] 32)) (hat.below ((Below.refl _ _).alloc (Nat.le_refl _) _)) (hI1.sz (by omega)) made_g
    rw [← d0, ← d1, ← d2, ← d3, ← d4, ← d5, made_w] at hg
    clear hcon hat d0 d1 d2 d3 d4 d5 hb1 hb2 hI hI1 hr0
    go_wp2_with fail
    refine hg.mono ?_
    rintro e w3 ⟨rfl, hb3⟩
    have bl3 := (Below_after (bl2.alloc bl2.size _) hb3).alloc (Below_after (bl2.alloc bl2.size _) hb3).size (.cells #[.int .i64 1, .int .i64 1, .int .i64 7, .int .i64 0, .int .i64 0] 88)
    clear hg
    go_wp2_with fail
    go_ret
    exact ⟨rfl, bl3⟩
  · exact absurd rfl hne
end Go.Proofs.YtddgpgldbekamaaGreatDoor
