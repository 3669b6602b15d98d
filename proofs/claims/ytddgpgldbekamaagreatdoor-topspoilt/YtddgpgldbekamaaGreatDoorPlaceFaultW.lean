/- PlaceFault: the walks alone (the plain part stands in AllPure). -/
import Derived.Test.YtddgpgldbekamaaGreatDoorProg
import Derived.Test.YtddgpgldbekamaaGreatDoorAllPure
set_option linter.unusedSimpArgs false
set_option linter.unusedVariables false
namespace Go.Proofs.YtddgpgldbekamaaGreatDoor
open Go.RowKit

theorem placeFault_any (h s : Int) (w : World) (n : Int) (hp : plOk h s ∧ n = 0 ∨ ¬ plOk h s ∧ n = 1) :
    Calls Tryz.prog 61 #[.agg #[.int .i64 h, .int .i64 s]] w fun e w' => e = .returned (.int .i64 n) ∧ Below w.heap.size w w' := by
  have H : Hid (plOk h s ∧ n = 0 ∨ ¬ plOk h s ∧ n = 1) := hp
  clear hp
  go_enter Tryz.func61, Tryz.ntmps61
  go_wp2
  all_goals
    go_ret
    refine ⟨retInt ?_, (Below.refl _ _).alloc (Nat.le_refl _) _⟩
    have hp := H.out
    unfold plOk at hp
    omega
end Go.Proofs.YtddgpgldbekamaaGreatDoor
