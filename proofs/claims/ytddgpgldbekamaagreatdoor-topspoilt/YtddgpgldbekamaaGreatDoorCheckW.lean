/- WCheck: the walks alone (the plain part stands in AllPure). -/
/- Check: the walks alone (the plain part stands in AllPure). -/
import Derived.Test.YtddgpgldbekamaaGreatDoorProg
import Derived.Test.YtddgpgldbekamaaGreatDoorAllPure
import Derived.Test.YtddgpgldbekamaaGreatDoorWritW
import Derived.Test.YtddgpgldbekamaaGreatDoorFindW
import Derived.Deep.RegionHeld3
import Derived.Deep.QuietTactic
import Derived.BigQuiet
import Derived.WalkSmall
set_option linter.unusedSimpArgs false
set_option linter.unusedVariables false
namespace Go.Proofs.YtddgpgldbekamaaGreatDoor
open Go.RowKit

theorem wcheck_ok (x : Wr) (w : World) (h : wrOk x) :
    Calls Tryz.prog 59 #[.agg #[.int .i64 x.id, .int .i64 x.thing, .int .i64 x.rights, .int .i64 x.badge, .int .i64 x.frm]] w fun e w' => e = .returned .nilIface ∧ Below w.heap.size w w' := by
  obtain ⟨h1, h2, h3, h4, h5, h6, h7, h8, h9, h10⟩ := h
  go_enter Tryz.func59, Tryz.ntmps59
  go_wp2_with (first | (go_at_call 118; refine (within_yes _ _ _ _ (by omega) (by omega)).mono ?_; rintro e w' ⟨rfl, rfl⟩) | (go_at_call 119; refine (check_in _ _ (by omega) (by omega)).mono ?_; rintro e w' ⟨rfl, rfl⟩))
  go_ret
  exact ⟨rfl, (Below.refl _ _).alloc (Nat.le_refl _) _⟩
theorem wcheck_bad (x : Wr) (w : World) (h : ¬ wrOk x) :
    Calls Tryz.prog 59 #[.agg #[.int .i64 x.id, .int .i64 x.thing, .int .i64 x.rights, .int .i64 x.badge, .int .i64 x.frm]] w fun e w' => e = .returned (.iface 82 (.int .i64 1)) ∧ Below w.heap.size w w' := by
  unfold wrOk at h
  have hc : (x.id < 1 ∨ 999 < x.id) ∨ ((1 ≤ x.id ∧ x.id ≤ 999) ∧ (x.thing < 1 ∨ 999 < x.thing)) ∨ ((1 ≤ x.id ∧ x.id ≤ 999) ∧ (1 ≤ x.thing ∧ x.thing ≤ 999) ∧ (x.badge < 0 ∨ 99 < x.badge)) ∨
      ((1 ≤ x.id ∧ x.id ≤ 999) ∧ (1 ≤ x.thing ∧ x.thing ≤ 999) ∧ (0 ≤ x.badge ∧ x.badge ≤ 99) ∧ (x.frm < 0 ∨ x.id - 1 < x.frm)) ∨
      ((1 ≤ x.id ∧ x.id ≤ 999) ∧ (1 ≤ x.thing ∧ x.thing ≤ 999) ∧ (0 ≤ x.badge ∧ x.badge ≤ 99) ∧ (0 ≤ x.frm ∧ x.frm ≤ x.id - 1) ∧ (x.rights < 0 ∨ 7 < x.rights)) := by omega
  clear h
  rcases hc with h1 | ⟨h1, h2⟩ | ⟨h1, h2, h3⟩ | ⟨h1, h2, h3, h4⟩ | ⟨h1, h2, h3, h4, h5⟩
  all_goals
    go_enter Tryz.func59, Tryz.ntmps59
    go_wp2_with (first | (go_at_call 118; refine (within_yes _ _ _ _ (by omega) (by omega)).mono ?_; rintro e w' ⟨rfl, rfl⟩) | (go_at_call 118; refine (within_no _ _ _ _ (by omega)).mono ?_; rintro e w' ⟨rfl, rfl⟩) | (go_at_call 119; refine (check_in _ _ (by omega) (by omega)).mono ?_; rintro e w' ⟨rfl, rfl⟩) | (go_at_call 119; refine (check_out _ _ (by omega)).mono ?_; rintro e w' ⟨rfl, rfl⟩))
    go_ret
    exact ⟨rfl, (Below.refl _ _).alloc (Nat.le_refl _) _⟩
end Go.Proofs.YtddgpgldbekamaaGreatDoor
set_option linter.unusedSimpArgs false
set_option linter.unusedVariables false
namespace Go.Proofs.YtddgpgldbekamaaGreatDoor
open Go.RowKit

theorem cf_zero (a : Option Addr) (n c : Nat) (x : Wr) (w : World) (hf : x.frm = 0) :
    Calls Tryz.prog 60 #[.slice a n c, .agg #[.int .i64 x.id, .int .i64 x.thing, .int .i64 x.rights, .int .i64 x.badge, .int .i64 x.frm]] w fun e w' => e = .returned .nilIface ∧ Below w.heap.size w w' := by
  have d1 : (x.frm == 0) = true := by simp [hf]
  clear hf
  go_enter Tryz.func60, Tryz.ntmps60
  go_wp2_with fail
  go_ret
  exact ⟨rfl, (Below.refl _ _).alloc (Nat.le_refl _) _⟩
theorem cf_none (a : Option Addr) (c : Nat) (l : List Wr) (x : Wr) (w : World) (hw : WrsAt w a l) (hm : l.length ≤ 1000) (hf : ¬ x.frm = 0) (hn : find l x.frm = -1) :
    Calls Tryz.prog 60 #[.slice a l.length c, .agg #[.int .i64 x.id, .int .i64 x.thing, .int .i64 x.rights, .int .i64 x.badge, .int .i64 x.frm]] w fun e w' => e = .returned (.iface 82 (.int .i64 5)) ∧ Below w.heap.size w w' := by
  have d1 : (x.frm == 0) = false := by simp [hf]
  have hbl0 : Below w.heap.size w (w.alloc (.cells #[.int .i64 x.id, .int .i64 x.thing, .int .i64 x.rights, .int .i64 x.badge, .int .i64 x.frm] 88)) := (Below.refl _ _).alloc (Nat.le_refl _) _
  clear hf
  go_enter Tryz.func60, Tryz.ntmps60
  go_wp2_with fail
  refine (find_any a c l x.frm _ (hw.below hbl0) (by omega)).mono ?_
  rintro e w1 ⟨rfl, hb1⟩
  have bl1 : Below w.heap.size w w1 := Below_after hbl0 hb1
  clear hb1
  go_wp2_with fail
  go_ret
  exact ⟨rfl, bl1⟩
end Go.Proofs.YtddgpgldbekamaaGreatDoor
