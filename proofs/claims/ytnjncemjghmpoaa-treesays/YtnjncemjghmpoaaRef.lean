/- The walks of the document's answer for writs: FindWrit, WritFault, Derived. -/
import Derived.Test.YtnjncemjghmpoaaWrit
namespace Go.Proofs.Ytnjncemjghmpoaa
open Go.RowKit

theorem hs_fin : ∀ a b : Fin 8, hasB ((a : Nat) : Int) ((b : Nat) : Int) = decide ((((b : Nat) : Int) % 2 = 1 → ((a : Nat) : Int) % 2 ≠ 0) ∧ (((b : Nat) : Int) / 2 % 2 = 1 → ((a : Nat) : Int) / 2 % 2 ≠ 0) ∧ (((b : Nat) : Int) / 4 % 2 = 1 → ((a : Nat) : Int) / 4 % 2 ≠ 0)) := by decide +kernel
theorem hs_iff (a b : Int) (a0 : 0 ≤ a) (a7 : a ≤ 7) (b0 : 0 ≤ b) (b7 : b ≤ 7) : hasB a b = decide ((b % 2 = 1 → a % 2 ≠ 0) ∧ (b / 2 % 2 = 1 → a / 2 % 2 ≠ 0) ∧ (b / 4 % 2 = 1 → a / 4 % 2 ≠ 0)) := by
  have h := hs_fin ⟨a.toNat, by omega⟩ ⟨b.toNat, by omega⟩
  simp only [show ((a.toNat : Nat) : Int) = a by omega, show ((b.toNat : Nat) : Int) = b by omega] at h
  exact h
theorem rhas_any (a b : Int) (a0 : 0 ≤ a) (a7 : a ≤ 7) (b0 : 0 ≤ b) (b7 : b ≤ 7) (w : World) :
    Calls Try.prog 15 #[.int .i64 a, .int .i64 b] w fun e w' => e = .returned (.bool (hasB a b)) ∧ w' = w := by
  have H : Hid (hasB a b = decide ((b % 2 = 1 → a % 2 ≠ 0) ∧ (b / 2 % 2 = 1 → a / 2 % 2 ≠ 0) ∧ (b / 4 % 2 = 1 → a / 4 % 2 ≠ 0))) := hs_iff a b a0 a7 b0 b7
  go_enter Try.func15, Try.ntmps15
  go_wp2
  refine wp_loop_rounds 4 ?_
  rw [rounds_succ]
  go_wp2
  all_goals try (rw [rounds_succ]; go_wp2)
  all_goals try (rw [rounds_succ]; go_wp2)
  all_goals try (rw [rounds_succ]; go_wp2)
  all_goals
    go_ret
    refine ⟨retBool ?_, rfl⟩
    rw [H.out]
    simp only [beq_iff_eq, beq_eq_false_iff_ne, ne_eq] at *
    first
      | (symm; rw [decide_eq_true_iff]; omega)
      | (symm; rw [decide_eq_false_iff_not]; omega)

theorem findWrit_some (b o c : Nat) (l : List Wr) (id : Int) (w : World) (hw : ∀ j x, l[j]? = some x → WrAt w b (o + j * 5) x) (hm : l.length ≤ 1000000) :
    Calls Try.prog 21 #[.slice (some ⟨b, o, none⟩) l.length c, .int .i64 id] w fun e w' => e = .returned (.int .i64 (find l id)) ∧ w' = w := by
  go_enter Try.func21, Try.ntmps21
  go_wp2
  go_loop [5] (fun i => ∃ k : Nat, k ≤ l.length ∧ i = .int .i64 k ∧ Hid (findFrom id (l.drop k) k = find l id)) (fun i => l.length - (intOf i).toNat)
  case atStart => exact ⟨0, Nat.zero_le _, rfl, show Hid _ from rfl⟩
  case round =>
    obtain ⟨k, hk, rfl, hn⟩ := hrel
    by_cases hlt' : k < l.length
    · obtain ⟨x, hx⟩ : ∃ x, l[k]? = some x := ⟨l[k], List.getElem?_eq_getElem hlt'⟩
      obtain ⟨q1, q2, q3, q4, q5⟩ := hw k x hx
      have HX : Hid (l[k]? = some x) := hx
      clear hw hx
      go_wp2
      · have := find_yes HX.out (by simpa using ‹(x.id == id) = true›) hn.out
        go_ret
        exact ⟨retInt this.symm, rfl⟩
      · go_round
        case rel => exact ⟨k + 1, by omega, by go_num, show Hid _ from find_no HX.out (by simpa using ‹(x.id == id) = false›) hn.out⟩
        case measure => simp [intOf]; omega
    · have HF : Hid (find l id = -1) := find_end hlt' hn.out
      clear hw
      go_wp2
      go_ret
      exact ⟨retInt HF.out.symm, rfl⟩
theorem findWrit_any (a : Option Addr) (c : Nat) (l : List Wr) (id : Int) (w : World) (hw : WrsAt w a l) (hm : l.length ≤ 1000000) :
    Calls Try.prog 21 #[.slice a l.length c, .int .i64 id] w fun e w' => e = .returned (.int .i64 (find l id)) ∧ w' = w := by
  rcases hw with rfl | ⟨b, o, rfl, hb, hx⟩
  · go_enter Try.func21, Try.ntmps21
    go_wp2
    refine wp_loop_rounds 1 ?_
    rw [rounds_succ]
    go_wp2
    go_ret
    exact ⟨rfl, rfl⟩
  · exact findWrit_some b o c l id w hx hm

theorem writFault_any (x : Wr) (w : World) (n : Int) (h : wrOk x ∧ n = 0 ∨ ¬ wrOk x ∧ n = 1) :
    Calls Try.prog 19 #[.agg #[.int .i64 x.id, .int .i64 x.thing, .int .i64 x.rights, .int .i64 x.badge, .int .i64 x.frm]] w fun e w' => e = .returned (.int .i64 n) ∧ Below w.heap.size w w' := by
  have H : Hid (wrOk x ∧ n = 0 ∨ ¬ wrOk x ∧ n = 1) := h
  clear h
  go_enter Try.func19, Try.ntmps19
  go_wp2
  all_goals
    go_ret
    refine ⟨retInt ?_, (Below.refl _ _).alloc (Nat.le_refl _) _⟩
    have h := H.out
    unfold wrOk at h
    omega

theorem drvParts {x : Wr} {rights badge : Int} (h : drvCode x rights badge = 0) : 0 ≤ rights ∧ rights ≤ 7 ∧ 0 ≤ badge ∧ badge ≤ 99 ∧ hasB x.rights rights = true ∧ othB x.badge badge = false := by
  unfold drvCode at h
  have h1 : ¬ (rights < 0 ∨ 7 < rights ∨ badge < 0 ∨ 99 < badge) := by intro hh; rw [if_pos hh] at h; simp at h
  rw [if_neg h1] at h
  have h2 : ¬ (hasB x.rights rights = false ∨ othB x.badge badge = true) := by intro hh; rw [if_pos hh] at h; simp at h
  refine ⟨by omega, by omega, by omega, by omega, ?_, ?_⟩
  · cases hh : hasB x.rights rights with
    | true => rfl
    | false => exact absurd (Or.inl hh) h2
  · cases hh : othB x.badge badge with
    | false => rfl
    | true => exact absurd (Or.inr hh) h2

set_option maxHeartbeats 1000000 in
theorem derived_ok0 (x : Wr) (id rights badge : Int) (w : World) (xr0 : 0 ≤ x.rights) (xr7 : x.rights ≤ 7) (h : drvCode x rights badge = 0) (hb : x.badge = 0) :
    Calls Try.prog 22 #[.agg #[.int .i64 x.id, .int .i64 x.thing, .int .i64 x.rights, .int .i64 x.badge, .int .i64 x.frm], .int .i64 id, .int .i64 rights, .int .i64 badge] w fun e w' => e = .returned (.tuple #[.agg #[.int .i64 id, .int .i64 x.thing, .int .i64 rights, .int .i64 badge, .int .i64 x.id], .int .i64 0]) ∧ Below w.heap.size w w' := by
  obtain ⟨r0, r7, b0, b99, hh, ho⟩ := drvParts h
  obtain ⟨i, t, r, b, f⟩ := x
  simp only at hb xr0 xr7 hh ho
  subst hb
  clear h
  have d0 : ¬ badge < 0 := by omega
  have d1 : ¬ 99 < badge := by omega
  by_cases hz : badge = 0
  · subst hz
    go_enter Try.func22, Try.ntmps22
    go_wp2_with (go_at_call 15; refine (rhas_any _ _ xr0 xr7 (by omega) (by omega) _).mono ?_; rintro e w' ⟨rfl, rfl⟩)
    refine bodyPost_ret (v := .tuple #[.agg #[.int .i64 id, .int .i64 t, .int .i64 rights, .int .i64 0, .int .i64 i], .int .i64 0]) (by simp [results, Try.results22, go_sem]) rfl ⟨rfl, ?_⟩
    repeat (first | exact Below.refl _ _ | refine Below.setCell ?_ (by simp) _ | refine Below.alloc ?_ (by simp) _)
  · have d2 : (badge == 0) = false := by simp [hz]
    go_enter Try.func22, Try.ntmps22
    go_wp2_with (go_at_call 15; refine (rhas_any _ _ xr0 xr7 (by omega) (by omega) _).mono ?_; rintro e w' ⟨rfl, rfl⟩)
    refine bodyPost_ret (v := .tuple #[.agg #[.int .i64 id, .int .i64 t, .int .i64 rights, .int .i64 badge, .int .i64 i], .int .i64 0]) (by simp [results, Try.results22, go_sem]) rfl ⟨rfl, ?_⟩
    repeat (first | exact Below.refl _ _ | refine Below.setCell ?_ (by simp) _ | refine Below.alloc ?_ (by simp) _)
set_option maxHeartbeats 1000000 in
theorem derived_ok1 (x : Wr) (id rights badge : Int) (w : World) (xr0 : 0 ≤ x.rights) (xr7 : x.rights ≤ 7) (h : drvCode x rights badge = 0) (hb : ¬ x.badge = 0) :
    Calls Try.prog 22 #[.agg #[.int .i64 x.id, .int .i64 x.thing, .int .i64 x.rights, .int .i64 x.badge, .int .i64 x.frm], .int .i64 id, .int .i64 rights, .int .i64 badge] w fun e w' => e = .returned (.tuple #[.agg #[.int .i64 id, .int .i64 x.thing, .int .i64 rights, .int .i64 x.badge, .int .i64 x.id], .int .i64 0]) ∧ Below w.heap.size w w' := by
  obtain ⟨r0, r7, b0, b99, hh, ho⟩ := drvParts h
  clear h
  have d3 : (x.badge == 0) = false := by simp [hb]
  by_cases hz : badge = 0
  · subst hz
    go_enter Try.func22, Try.ntmps22
    go_wp2_with (go_at_call 15; refine (rhas_any _ _ xr0 xr7 (by omega) (by omega) _).mono ?_; rintro e w' ⟨rfl, rfl⟩)
    refine bodyPost_ret (v := .tuple #[.agg #[.int .i64 id, .int .i64 x.thing, .int .i64 rights, .int .i64 x.badge, .int .i64 x.id], .int .i64 0]) (by simp [results, Try.results22, go_sem]) rfl ⟨rfl, ?_⟩
    repeat (first | exact Below.refl _ _ | refine Below.setCell ?_ (by simp) _ | refine Below.alloc ?_ (by simp) _)
  · have d2 : (badge == 0) = false := by simp [hz]
    have d4 : badge = x.badge := by simp [othB, hz, hb] at ho; exact ho
    subst d4
    go_enter Try.func22, Try.ntmps22
    go_wp2_with (go_at_call 15; refine (rhas_any _ _ xr0 xr7 (by omega) (by omega) _).mono ?_; rintro e w' ⟨rfl, rfl⟩)
    refine bodyPost_ret (v := .tuple #[.agg #[.int .i64 id, .int .i64 x.thing, .int .i64 rights, .int .i64 x.badge, .int .i64 x.id], .int .i64 0]) (by simp [results, Try.results22, go_sem]) rfl ⟨rfl, ?_⟩
    repeat (first | exact Below.refl _ _ | refine Below.setCell ?_ (by simp) _ | refine Below.alloc ?_ (by simp) _)
set_option maxHeartbeats 2000000 in
theorem derived_err (x : Wr) (id rights badge : Int) (w : World) (xr0 : 0 ≤ x.rights) (xr7 : x.rights ≤ 7) (h : drvCode x rights badge ≠ 0) :
    Calls Try.prog 22 #[.agg #[.int .i64 x.id, .int .i64 x.thing, .int .i64 x.rights, .int .i64 x.badge, .int .i64 x.frm], .int .i64 id, .int .i64 rights, .int .i64 badge] w fun e w' => e = .returned (.tuple #[.agg #[.int .i64 0, .int .i64 0, .int .i64 0, .int .i64 0, .int .i64 0], .int .i64 (drvCode x rights badge)]) ∧ Below w.heap.size w w' := by
  by_cases h1 : rights < 0 ∨ 7 < rights ∨ badge < 0 ∨ 99 < badge
  · rw [show drvCode x rights badge = 1 by unfold drvCode; rw [if_pos h1]]
    clear h
    have hc : rights < 0 ∨ (¬ rights < 0 ∧ 7 < rights) ∨ (¬ rights < 0 ∧ ¬ 7 < rights ∧ badge < 0) ∨ (¬ rights < 0 ∧ ¬ 7 < rights ∧ ¬ badge < 0 ∧ 99 < badge) := by omega
    clear h1
    rcases hc with h1 | ⟨h1, h2⟩ | ⟨h1, h2, h3⟩ | ⟨h1, h2, h3, h4⟩
    all_goals
      go_enter Try.func22, Try.ntmps22
      go_wp2_with (go_at_call 15; refine (rhas_any _ _ xr0 xr7 (by omega) (by omega) _).mono ?_; rintro e w' ⟨rfl, rfl⟩)
      refine bodyPost_ret (v := .tuple #[.agg #[.int .i64 0, .int .i64 0, .int .i64 0, .int .i64 0, .int .i64 0], .int .i64 1]) (by simp [results, Try.results22, go_sem]) rfl ⟨rfl, ?_⟩
      repeat (first | exact Below.refl _ _ | refine Below.setCell ?_ (by simp) _ | refine Below.alloc ?_ (by simp) _)
  · have h2 : hasB x.rights rights = false ∨ othB x.badge badge = true := by
      unfold drvCode at h; rw [if_neg h1] at h
      by_cases hh : hasB x.rights rights = false ∨ othB x.badge badge = true
      · exact hh
      · rw [if_neg hh] at h; exact absurd rfl h
    rw [show drvCode x rights badge = 7 by unfold drvCode; rw [if_neg h1, if_pos h2]]
    clear h
    have g1 : ¬ rights < 0 := by omega
    have g2 : ¬ 7 < rights := by omega
    have g3 : ¬ badge < 0 := by omega
    have g4 : ¬ 99 < badge := by omega
    clear h1
    cases h7 : hasB x.rights rights with
    | false =>
      clear h2
      go_enter Try.func22, Try.ntmps22
      go_wp2_with (go_at_call 15; refine (rhas_any _ _ xr0 xr7 (by omega) (by omega) _).mono ?_; rintro e w' ⟨rfl, rfl⟩)
      refine bodyPost_ret (v := .tuple #[.agg #[.int .i64 0, .int .i64 0, .int .i64 0, .int .i64 0, .int .i64 0], .int .i64 7]) (by simp [results, Try.results22, go_sem]) rfl ⟨rfl, ?_⟩
      repeat (first | exact Below.refl _ _ | refine Below.setCell ?_ (by simp) _ | refine Below.alloc ?_ (by simp) _)
    | true =>
      have h8 : othB x.badge badge = true := h2.resolve_left (by simp [h7])
      have h9 : badge ≠ 0 ∧ x.badge ≠ 0 ∧ badge ≠ x.badge := by simpa [othB] using h8
      obtain ⟨k1, k2, k3⟩ : ¬ badge = 0 ∧ ¬ x.badge = 0 ∧ ¬ badge = x.badge := h9
      have d1 : (badge != 0) = true := by simp [k1]
      have d2 : (x.badge != 0) = true := by simp [k2]
      have d3 : (badge != x.badge) = true := by simp [k3]
      clear h2 h8 k1 k2 k3
      go_enter Try.func22, Try.ntmps22
      go_wp2_with (go_at_call 15; refine (rhas_any _ _ xr0 xr7 (by omega) (by omega) _).mono ?_; rintro e w' ⟨rfl, rfl⟩)
      refine bodyPost_ret (v := .tuple #[.agg #[.int .i64 0, .int .i64 0, .int .i64 0, .int .i64 0, .int .i64 0], .int .i64 7]) (by simp [results, Try.results22, go_sem]) rfl ⟨rfl, ?_⟩
      repeat (first | exact Below.refl _ _ | refine Below.setCell ?_ (by simp) _ | refine Below.alloc ?_ (by simp) _)
end Go.Proofs.Ytnjncemjghmpoaa
