/- Writ: the walks alone (the plain part stands in AllPure). -/
import Derived.Test.YtddgpgldbekamaaGreatProg
import Derived.Test.YtddgpgldbekamaaGreatAllPure
set_option linter.unusedSimpArgs false
set_option linter.unusedVariables false
namespace Go.Proofs.YtddgpgldbekamaaGreat
open Go.RowKit

theorem check_in (a : Int) (w : World) (h0 : 0 ≤ a) (h7 : a ≤ 7) :
    Calls Tryz.prog 113 #[.int .i64 a] w fun e w' => e = .returned .nilIface ∧ w' = w := by
  go_enter Tryz.func113, Tryz.ntmps113
  go_wp2
  go_ret
  exact ⟨rfl, rfl⟩
theorem check_out (a : Int) (w : World) (h : a < 0 ∨ 7 < a) :
    Calls Tryz.prog 113 #[.int .i64 a] w fun e w' => e = .returned (.iface 69 (.int .i64 1)) ∧ w' = w := by
  rcases h with h | h
  · go_enter Tryz.func113, Tryz.ntmps113
    go_wp2
    go_ret
    exact ⟨rfl, rfl⟩
  · have h' : ¬ a < 0 := by omega
    go_enter Tryz.func113, Tryz.ntmps113
    go_wp2
    go_ret
    exact ⟨rfl, rfl⟩
theorem has_any (a b : Int) (w : World) :
    Calls Tryz.prog 67 #[.int .i64 a, .int .i64 b] w fun e w' => e = .returned (.bool (hasB a b)) ∧ w' = w := by
  go_enter Tryz.func67, Tryz.ntmps67
  go_wp2
  go_ret
  exact ⟨rfl, rfl⟩
theorem within_yes (n a b : Int) (w : World) (h1 : a ≤ n) (h2 : n ≤ b) :
    Calls Tryz.prog 114 #[.int .i64 n, .int .i64 a, .int .i64 b] w fun e w' => e = .returned (.bool true) ∧ w' = w := by
  have d1 : decide (a ≤ n) = true := decide_eq_true h1
  go_enter Tryz.func114, Tryz.ntmps114
  go_wp2
  go_ret
  exact ⟨retBool (by simp <;> omega), rfl⟩
theorem within_no (n a b : Int) (w : World) (h : n < a ∨ b < n) :
    Calls Tryz.prog 114 #[.int .i64 n, .int .i64 a, .int .i64 b] w fun e w' => e = .returned (.bool false) ∧ w' = w := by
  by_cases h1 : a ≤ n
  · have d1 : decide (a ≤ n) = true := decide_eq_true h1
    go_enter Tryz.func114, Tryz.ntmps114
    go_wp2
    go_ret
    exact ⟨retBool (by simp <;> omega), rfl⟩
  · have d1 : decide (a ≤ n) = false := decide_eq_false h1
    go_enter Tryz.func114, Tryz.ntmps114
    go_wp2
    go_ret
    exact ⟨rfl, rfl⟩
theorem other_any (x : Wr) (badge : Int) (w : World) :
    Calls Tryz.prog 115 #[.agg #[.int .i64 x.id, .int .i64 x.thing, .int .i64 x.rights, .int .i64 x.badge, .int .i64 x.frm], .int .i64 badge] w fun e w' => e = .returned (.bool (othB x.badge badge)) ∧ Below w.heap.size w w' := by
  go_enter Tryz.func115, Tryz.ntmps115
  by_cases h1 : x.badge = 0
  · have d1 : (x.badge == 0) = true := by simp [h1]
    go_wp2
    go_ret
    exact ⟨retBool (by simp [othB, h1]), (Below.refl _ _).alloc (Nat.le_refl _) _⟩
  · have d1 : (x.badge == 0) = false := by simp [h1]
    by_cases h2 : badge = 0
    · have d2 : (badge == 0) = true := by simp [h2]
      go_wp2
      go_ret
      exact ⟨retBool (by simp [othB, h2]), (Below.refl _ _).alloc (Nat.le_refl _) _⟩
    · have d2 : (badge == 0) = false := by simp [h2]
      go_wp2
      go_ret
      exact ⟨retBool (by rw [Bool.eq_iff_iff]; simp [othB, h1, h2]), (Below.refl _ _).alloc (Nat.le_refl _) _⟩
set_option maxHeartbeats 1000000 in
theorem derive_ok (x : Wr) (id rights badge : Int) (w : World) (h : drvCode x rights badge = 0) :
    Calls Tryz.prog 108 #[.agg #[.int .i64 x.id, .int .i64 x.thing, .int .i64 x.rights, .int .i64 x.badge, .int .i64 x.frm], .int .i64 id, .int .i64 rights, .int .i64 badge] w
      fun e w' => e = .returned (.tuple #[.agg #[.int .i64 id, .int .i64 x.thing, .int .i64 rights, .int .i64 (if x.badge = 0 then badge else x.badge), .int .i64 x.id], .nilIface]) ∧ Below w.heap.size w w' := by
  unfold drvCode at h
  have h1 : ¬ (rights < 0 ∨ 7 < rights ∨ badge < 0 ∨ 99 < badge) := by intro hh; rw [if_pos hh] at h; simp at h
  rw [if_neg h1] at h
  have h2 : ¬ (hasB x.rights rights = false ∨ othB x.badge badge = true) := by intro hh; rw [if_pos hh] at h; simp at h
  clear h
  have h3 : hasB x.rights rights = true := by
    cases hh : hasB x.rights rights with
    | true => rfl
    | false => exact absurd (Or.inl hh) h2
  have h4 : othB x.badge badge = false := by
    cases hh : othB x.badge badge with
    | false => rfl
    | true => exact absurd (Or.inr hh) h2
  have h5 : 0 ≤ rights := by omega
  have h6 : rights ≤ 7 := by omega
  have h7 : 0 ≤ badge := by omega
  have h8 : badge ≤ 99 := by omega
  clear h1 h2
  by_cases hb0 : x.badge = 0
  · have d1 : (x.badge == 0) = true := by simp [hb0]
    have H : Hid (x.badge = 0) := hb0
    clear hb0
    go_enter Tryz.func108, Tryz.ntmps108
    go_wp2_with (first | (go_at_call 114; refine (within_yes _ _ _ _ (by omega) (by omega)).mono ?_; rintro e w' ⟨rfl, rfl⟩) | (go_at_call 114; refine (within_no _ _ _ _ (by omega)).mono ?_; rintro e w' ⟨rfl, rfl⟩) | (go_at_call 113; refine (check_in _ _ (by omega) (by omega)).mono ?_; rintro e w' ⟨rfl, rfl⟩) | (go_at_call 113; refine (check_out _ _ (by omega)).mono ?_; rintro e w' ⟨rfl, rfl⟩) | (go_at_call 67; refine (has_any _ _ _).mono ?_; rintro e w' ⟨rfl, rfl⟩) | (go_at_call 115; refine (other_any x badge _).mono ?_; rintro e w1 ⟨rfl, hb⟩; obtain ⟨hc, hf⟩ := bcell hb; have hz := hb.size; simp at hz))
    refine bodyPost_ret (v := .tuple #[.agg #[.int .i64 id, .int .i64 x.thing, .int .i64 rights, .int .i64 badge, .int .i64 x.id], .nilIface]) (by simp [results, Tryz.results108, go_sem, hc]) rfl ⟨rfl, ?_⟩
    have hbl : Below w.heap.size w w1 := (((Below.refl _ _).alloc (Nat.le_refl _) _).alloc (by simp) _).trans (hb.mono (by simp; omega))
    repeat (first | exact Below.refl _ _ | exact hbl | refine Below.setCell ?_ (by simp) _ | refine Below.alloc ?_ (by simp) _)
  · have d1 : (x.badge == 0) = false := by simp [hb0]
    go_enter Tryz.func108, Tryz.ntmps108
    go_wp2_with (first | (go_at_call 114; refine (within_yes _ _ _ _ (by omega) (by omega)).mono ?_; rintro e w' ⟨rfl, rfl⟩) | (go_at_call 114; refine (within_no _ _ _ _ (by omega)).mono ?_; rintro e w' ⟨rfl, rfl⟩) | (go_at_call 113; refine (check_in _ _ (by omega) (by omega)).mono ?_; rintro e w' ⟨rfl, rfl⟩) | (go_at_call 113; refine (check_out _ _ (by omega)).mono ?_; rintro e w' ⟨rfl, rfl⟩) | (go_at_call 67; refine (has_any _ _ _).mono ?_; rintro e w' ⟨rfl, rfl⟩) | (go_at_call 115; refine (other_any x badge _).mono ?_; rintro e w1 ⟨rfl, hb⟩; obtain ⟨hc, hf⟩ := bcell hb; have hz := hb.size; simp at hz))
    refine bodyPost_ret (v := .tuple #[.agg #[.int .i64 id, .int .i64 x.thing, .int .i64 rights, .int .i64 x.badge, .int .i64 x.id], .nilIface]) (by simp [results, Tryz.results108, go_sem, hc]) rfl ⟨rfl, ?_⟩
    have hbl : Below w.heap.size w w1 := (((Below.refl _ _).alloc (Nat.le_refl _) _).alloc (by simp) _).trans (hb.mono (by simp; omega))
    repeat (first | exact Below.refl _ _ | exact hbl | refine Below.setCell ?_ (by simp) _ | refine Below.alloc ?_ (by simp) _)
set_option maxHeartbeats 1000000 in
theorem derive_err (x : Wr) (id rights badge : Int) (w : World) (h : drvCode x rights badge ≠ 0) :
    Calls Tryz.prog 108 #[.agg #[.int .i64 x.id, .int .i64 x.thing, .int .i64 x.rights, .int .i64 x.badge, .int .i64 x.frm], .int .i64 id, .int .i64 rights, .int .i64 badge] w
      fun e w' => e = .returned (.tuple #[.agg #[.int .i64 0, .int .i64 0, .int .i64 0, .int .i64 0, .int .i64 0], .iface 69 (.int .i64 (drvCode x rights badge))]) ∧ Below w.heap.size w w' := by
  by_cases h1 : rights < 0 ∨ 7 < rights ∨ badge < 0 ∨ 99 < badge
  · rw [show drvCode x rights badge = 1 by unfold drvCode; rw [if_pos h1]]
    clear h
    by_cases h2 : rights < 0 ∨ 7 < rights
    · go_enter Tryz.func108, Tryz.ntmps108
      go_wp2_with (first | (go_at_call 114; refine (within_yes _ _ _ _ (by omega) (by omega)).mono ?_; rintro e w' ⟨rfl, rfl⟩) | (go_at_call 114; refine (within_no _ _ _ _ (by omega)).mono ?_; rintro e w' ⟨rfl, rfl⟩) | (go_at_call 113; refine (check_in _ _ (by omega) (by omega)).mono ?_; rintro e w' ⟨rfl, rfl⟩) | (go_at_call 113; refine (check_out _ _ (by omega)).mono ?_; rintro e w' ⟨rfl, rfl⟩) | (go_at_call 67; refine (has_any _ _ _).mono ?_; rintro e w' ⟨rfl, rfl⟩) | (go_at_call 115; refine (other_any x badge _).mono ?_; rintro e w1 ⟨rfl, hb⟩; obtain ⟨hc, hf⟩ := bcell hb; have hz := hb.size; simp at hz))
      refine bodyPost_ret (v := .tuple #[.agg #[.int .i64 0, .int .i64 0, .int .i64 0, .int .i64 0, .int .i64 0], .iface 69 (.int .i64 1)]) (by simp [results, Tryz.results108, go_sem]) rfl ⟨rfl, ?_⟩
      repeat (first | exact Below.refl _ _ | exact hbl | refine Below.setCell ?_ (by simp) _ | refine Below.alloc ?_ (by simp) _)
    · have h3 : 0 ≤ rights := by omega
      have h4 : rights ≤ 7 := by omega
      have h5 : badge < 0 ∨ 99 < badge := by omega
      clear h1 h2
      go_enter Tryz.func108, Tryz.ntmps108
      go_wp2_with (first | (go_at_call 114; refine (within_yes _ _ _ _ (by omega) (by omega)).mono ?_; rintro e w' ⟨rfl, rfl⟩) | (go_at_call 114; refine (within_no _ _ _ _ (by omega)).mono ?_; rintro e w' ⟨rfl, rfl⟩) | (go_at_call 113; refine (check_in _ _ (by omega) (by omega)).mono ?_; rintro e w' ⟨rfl, rfl⟩) | (go_at_call 113; refine (check_out _ _ (by omega)).mono ?_; rintro e w' ⟨rfl, rfl⟩) | (go_at_call 67; refine (has_any _ _ _).mono ?_; rintro e w' ⟨rfl, rfl⟩) | (go_at_call 115; refine (other_any x badge _).mono ?_; rintro e w1 ⟨rfl, hb⟩; obtain ⟨hc, hf⟩ := bcell hb; have hz := hb.size; simp at hz))
      refine bodyPost_ret (v := .tuple #[.agg #[.int .i64 0, .int .i64 0, .int .i64 0, .int .i64 0, .int .i64 0], .iface 69 (.int .i64 1)]) (by simp [results, Tryz.results108, go_sem]) rfl ⟨rfl, ?_⟩
      repeat (first | exact Below.refl _ _ | exact hbl | refine Below.setCell ?_ (by simp) _ | refine Below.alloc ?_ (by simp) _)
  · have h2 : hasB x.rights rights = false ∨ othB x.badge badge = true := by
      unfold drvCode at h; rw [if_neg h1] at h
      by_cases hh : hasB x.rights rights = false ∨ othB x.badge badge = true
      · exact hh
      · rw [if_neg hh] at h; exact absurd rfl h
    rw [show drvCode x rights badge = 7 by unfold drvCode; rw [if_neg h1, if_pos h2]]
    clear h
    have h3 : 0 ≤ rights := by omega
    have h4 : rights ≤ 7 := by omega
    have h5 : 0 ≤ badge := by omega
    have h6 : badge ≤ 99 := by omega
    clear h1
    cases h7 : hasB x.rights rights with
    | false =>
      clear h2
      go_enter Tryz.func108, Tryz.ntmps108
      go_wp2_with (first | (go_at_call 114; refine (within_yes _ _ _ _ (by omega) (by omega)).mono ?_; rintro e w' ⟨rfl, rfl⟩) | (go_at_call 114; refine (within_no _ _ _ _ (by omega)).mono ?_; rintro e w' ⟨rfl, rfl⟩) | (go_at_call 113; refine (check_in _ _ (by omega) (by omega)).mono ?_; rintro e w' ⟨rfl, rfl⟩) | (go_at_call 113; refine (check_out _ _ (by omega)).mono ?_; rintro e w' ⟨rfl, rfl⟩) | (go_at_call 67; refine (has_any _ _ _).mono ?_; rintro e w' ⟨rfl, rfl⟩) | (go_at_call 115; refine (other_any x badge _).mono ?_; rintro e w1 ⟨rfl, hb⟩; obtain ⟨hc, hf⟩ := bcell hb; have hz := hb.size; simp at hz))
      refine bodyPost_ret (v := .tuple #[.agg #[.int .i64 0, .int .i64 0, .int .i64 0, .int .i64 0, .int .i64 0], .iface 69 (.int .i64 7)]) (by simp [results, Tryz.results108, go_sem]) rfl ⟨rfl, ?_⟩
      repeat (first | exact Below.refl _ _ | exact hbl | refine Below.setCell ?_ (by simp) _ | refine Below.alloc ?_ (by simp) _)
    | true =>
      have h8 : othB x.badge badge = true := h2.resolve_left (by simp [h7])
      clear h2
      go_enter Tryz.func108, Tryz.ntmps108
      go_wp2_with (first | (go_at_call 114; refine (within_yes _ _ _ _ (by omega) (by omega)).mono ?_; rintro e w' ⟨rfl, rfl⟩) | (go_at_call 114; refine (within_no _ _ _ _ (by omega)).mono ?_; rintro e w' ⟨rfl, rfl⟩) | (go_at_call 113; refine (check_in _ _ (by omega) (by omega)).mono ?_; rintro e w' ⟨rfl, rfl⟩) | (go_at_call 113; refine (check_out _ _ (by omega)).mono ?_; rintro e w' ⟨rfl, rfl⟩) | (go_at_call 67; refine (has_any _ _ _).mono ?_; rintro e w' ⟨rfl, rfl⟩) | (go_at_call 115; refine (other_any x badge _).mono ?_; rintro e w1 ⟨rfl, hb⟩; obtain ⟨hc, hf⟩ := bcell hb; have hz := hb.size; simp at hz))
      refine bodyPost_ret (v := .tuple #[.agg #[.int .i64 0, .int .i64 0, .int .i64 0, .int .i64 0, .int .i64 0], .iface 69 (.int .i64 7)]) (by simp [results, Tryz.results108, go_sem, hc]) rfl ⟨rfl, ?_⟩
      have hbl : Below w.heap.size w w1 := (((Below.refl _ _).alloc (Nat.le_refl _) _).alloc (by simp) _).trans (hb.mono (by simp; omega))
      repeat (first | exact Below.refl _ _ | exact hbl | refine Below.setCell ?_ (by simp) _ | refine Below.alloc ?_ (by simp) _)
theorem derive_ok0 (x : Wr) (id rights badge : Int) (w : World) (h : drvCode x rights badge = 0) (hb : x.badge = 0) :
    Calls Tryz.prog 108 #[.agg #[.int .i64 x.id, .int .i64 x.thing, .int .i64 x.rights, .int .i64 x.badge, .int .i64 x.frm], .int .i64 id, .int .i64 rights, .int .i64 badge] w fun e w' => e = .returned (.tuple #[.agg #[.int .i64 id, .int .i64 x.thing, .int .i64 rights, .int .i64 badge, .int .i64 x.id], .nilIface]) ∧ Below w.heap.size w w' := by
  have := derive_ok x id rights badge w h
  rw [if_pos hb] at this; exact this
theorem derive_ok1 (x : Wr) (id rights badge : Int) (w : World) (h : drvCode x rights badge = 0) (hb : ¬ x.badge = 0) :
    Calls Tryz.prog 108 #[.agg #[.int .i64 x.id, .int .i64 x.thing, .int .i64 x.rights, .int .i64 x.badge, .int .i64 x.frm], .int .i64 id, .int .i64 rights, .int .i64 badge] w fun e w' => e = .returned (.tuple #[.agg #[.int .i64 id, .int .i64 x.thing, .int .i64 rights, .int .i64 x.badge, .int .i64 x.id], .nilIface]) ∧ Below w.heap.size w w' := by
  have := derive_ok x id rights badge w h
  rw [if_neg hb] at this; exact this
end Go.Proofs.YtddgpgldbekamaaGreat
