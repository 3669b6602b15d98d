/- WCheck: the walks alone (the plain part stands in AllPure). -/
import Derived.Test.YtpmkkmndgicbgaaGreatProg
import Derived.Test.YtpmkkmndgicbgaaGreatAllPure
import Derived.Test.YtpmkkmndgicbgaaGreatWritW
set_option linter.unusedSimpArgs false
set_option linter.unusedVariables false
namespace Go.Proofs.YtpmkkmndgicbgaaGreat
open Go.RowKit

theorem wcheck_ok (x : Wr) (w : World) (h : wrOk x) :
    Calls Tryz.prog 18 #[.agg #[.int .i64 x.id, .int .i64 x.thing, .int .i64 x.rights, .int .i64 x.badge, .int .i64 x.frm]] w fun e w' => e = .returned .nilIface ∧ Below w.heap.size w w' := by
  obtain ⟨h1, h2, h3, h4, h5, h6, h7, h8, h9, h10⟩ := h
  go_enter Tryz.func18, Tryz.ntmps18
  go_wp2_with (first | (go_at_call 51; refine (within_yes _ _ _ _ (by omega) (by omega)).mono ?_; rintro e w' ⟨rfl, rfl⟩) | (go_at_call 52; refine (check_in _ _ (by omega) (by omega)).mono ?_; rintro e w' ⟨rfl, rfl⟩))
  go_ret
  exact ⟨rfl, (Below.refl _ _).alloc (Nat.le_refl _) _⟩
theorem wcheck_bad (x : Wr) (w : World) (h : ¬ wrOk x) :
    Calls Tryz.prog 18 #[.agg #[.int .i64 x.id, .int .i64 x.thing, .int .i64 x.rights, .int .i64 x.badge, .int .i64 x.frm]] w fun e w' => e = .returned (.iface 56 (.int .i64 1)) ∧ Below w.heap.size w w' := by
  unfold wrOk at h
  have hc : (x.id < 1 ∨ 999 < x.id) ∨ ((1 ≤ x.id ∧ x.id ≤ 999) ∧ (x.thing < 1 ∨ 999 < x.thing)) ∨ ((1 ≤ x.id ∧ x.id ≤ 999) ∧ (1 ≤ x.thing ∧ x.thing ≤ 999) ∧ (x.badge < 0 ∨ 99 < x.badge)) ∨
      ((1 ≤ x.id ∧ x.id ≤ 999) ∧ (1 ≤ x.thing ∧ x.thing ≤ 999) ∧ (0 ≤ x.badge ∧ x.badge ≤ 99) ∧ (x.frm < 0 ∨ x.id - 1 < x.frm)) ∨
      ((1 ≤ x.id ∧ x.id ≤ 999) ∧ (1 ≤ x.thing ∧ x.thing ≤ 999) ∧ (0 ≤ x.badge ∧ x.badge ≤ 99) ∧ (0 ≤ x.frm ∧ x.frm ≤ x.id - 1) ∧ (x.rights < 0 ∨ 7 < x.rights)) := by omega
  clear h
  rcases hc with h1 | ⟨h1, h2⟩ | ⟨h1, h2, h3⟩ | ⟨h1, h2, h3, h4⟩ | ⟨h1, h2, h3, h4, h5⟩
  all_goals
    go_enter Tryz.func18, Tryz.ntmps18
    go_wp2_with (first | (go_at_call 51; refine (within_yes _ _ _ _ (by omega) (by omega)).mono ?_; rintro e w' ⟨rfl, rfl⟩) | (go_at_call 51; refine (within_no _ _ _ _ (by omega)).mono ?_; rintro e w' ⟨rfl, rfl⟩) | (go_at_call 52; refine (check_in _ _ (by omega) (by omega)).mono ?_; rintro e w' ⟨rfl, rfl⟩) | (go_at_call 52; refine (check_out _ _ (by omega)).mono ?_; rintro e w' ⟨rfl, rfl⟩))
    go_ret
    exact ⟨rfl, (Below.refl _ _).alloc (Nat.le_refl _) _⟩
end Go.Proofs.YtpmkkmndgicbgaaGreat
