/- Check: the walks alone (the plain part stands in AllPure). -/
import Derived.Test.YtpmkkmndgicbgaaGreatProg
import Derived.Test.YtpmkkmndgicbgaaGreatAllPure
import Derived.Test.YtpmkkmndgicbgaaGreatWCheckW
import Derived.Test.YtpmkkmndgicbgaaGreatFindW
import Derived.Deep.RegionHeld3
import Derived.Deep.QuietTactic
import Derived.BigQuiet
import Derived.WalkSmall
set_option linter.unusedSimpArgs false
set_option linter.unusedVariables false
namespace Go.Proofs.YtpmkkmndgicbgaaGreat
open Go.RowKit

theorem cf_zero (a : Option Addr) (n c : Nat) (x : Wr) (w : World) (hf : x.frm = 0) :
    Calls Tryz.prog 19 #[.slice a n c, .agg #[.int .i64 x.id, .int .i64 x.thing, .int .i64 x.rights, .int .i64 x.badge, .int .i64 x.frm]] w fun e w' => e = .returned .nilIface ∧ Below w.heap.size w w' := by
  have d1 : (x.frm == 0) = true := by simp [hf]
  clear hf
  go_enter Tryz.func19, Tryz.ntmps19
  go_wp2_with fail
  go_ret
  exact ⟨rfl, (Below.refl _ _).alloc (Nat.le_refl _) _⟩
theorem cf_none (a : Option Addr) (c : Nat) (l : List Wr) (x : Wr) (w : World) (hw : WrsAt w a l) (hm : l.length ≤ 1000) (hf : ¬ x.frm = 0) (hn : find l x.frm = -1) :
    Calls Tryz.prog 19 #[.slice a l.length c, .agg #[.int .i64 x.id, .int .i64 x.thing, .int .i64 x.rights, .int .i64 x.badge, .int .i64 x.frm]] w fun e w' => e = .returned (.iface 56 (.int .i64 5)) ∧ Below w.heap.size w w' := by
  have d1 : (x.frm == 0) = false := by simp [hf]
  have hbl0 : Below w.heap.size w (w.alloc (.cells #[.int .i64 x.id, .int .i64 x.thing, .int .i64 x.rights, .int .i64 x.badge, .int .i64 x.frm] 45)) := (Below.refl _ _).alloc (Nat.le_refl _) _
  clear hf
  go_enter Tryz.func19, Tryz.ntmps19
  go_wp2_with fail
  refine (find_any a c l x.frm _ (hw.below hbl0) (by omega)).mono ?_
  rintro e w1 ⟨rfl, hb1⟩
  have bl1 : Below w.heap.size w w1 := Below_after hbl0 hb1
  clear hb1
  go_wp2_with fail
  go_ret
  exact ⟨rfl, bl1⟩
end Go.Proofs.YtpmkkmndgicbgaaGreat
