/- The number of an error (number); the writ of a place, whatever it is (Get). -/
import Derived.Test.YtpmkkmndgicbgaaGetAny
set_option linter.unusedSimpArgs false
set_option linter.unusedVariables false
namespace Go.Proofs.Ytpmkkmndgicbgaa
open Go.RowKit

@[go_sem] theorem asErr (v : Value) (w : World) : (Instr.typeAssert (.iface 62 v) 37 62 true).run Try.prog w = .ok (.tuple #[v, .bool true]) w := by kernel_rfl
theorem number_err (n : Int) (w : World) : Calls Try.prog 10 #[.iface 62 (.int .i64 n)] w fun e w' => e = .returned (.int .i64 n) ∧ w' = w := by
  go_enter Try.func10, Try.ntmps10
  go_wp2
  go_ret
  exact ⟨rfl, rfl⟩
theorem number_nil (w : World) : Calls Try.prog 10 #[.nilIface] w fun e w' => e = .returned (.int .i64 0) ∧ w' = w := by
  go_enter Try.func10, Try.ntmps10
  go_wp2
  go_ret
  exact ⟨rfl, rfl⟩
end Go.Proofs.Ytpmkkmndgicbgaa
