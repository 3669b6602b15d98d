/- PlaceFault: the walks alone (the plain part stands in AllPure). -/
import Derived.Test.YtddgpgldbekamaaGreatProg
import Derived.Test.YtddgpgldbekamaaGreatAllPure
set_option linter.unusedSimpArgs false
set_option linter.unusedVariables false
namespace Go.Proofs.YtddgpgldbekamaaGreat
open Go.RowKit

theorem placeFault_any (h s : Int) (w : World) (n : Int) (hp : plOk h s ∧ n = 0 ∨ ¬ plOk h s ∧ n = 1) :
    Calls Tryz.prog 26 #[.agg #[.int .i64 h, .int .i64 s]] w fun e w' => e = .returned (.int .i64 n) ∧ Below w.heap.size w w' := by
  have H : Hid (plOk h s ∧ n = 0 ∨ ¬ plOk h s ∧ n = 1) := hp
  clear hp
  go_enter Tryz.func26, Tryz.ntmps26
  go_wp2
  all_goals
    go_ret
    refine ⟨retInt ?_, (Below.refl _ _).alloc (Nat.le_refl _) _⟩
    have hp := H.out
    unfold plOk at hp
    omega
end Go.Proofs.YtddgpgldbekamaaGreat
