/- The document's Has, FindWrit, WritFault, Derived, walked. -/
/- The document's Without, walked. -/
import Derived.Test.YtddgpgldbekamaaGreatWritW
import Derived.Test.YtddgpgldbekamaaGreatFindW
import Derived.Deep.QuietTactic
import Derived.BigQuiet
import Derived.Test.YtddgpgldbekamaaGreatWithoutW
import Derived.Test.YtddgpgldbekamaaGreatSameW
set_option linter.unusedVariables false
set_option linter.unusedSimpArgs false
set_option linter.unnecessarySimpa false
namespace Go.Proofs.YtddgpgldbekamaaGreat
open Go.RowKit

theorem hs_fin : ∀ a b : Fin 8, hasB ((a : Nat) : Int) ((b : Nat) : Int) = decide ((((b : Nat) : Int) % 2 = 1 → ((a : Nat) : Int) % 2 ≠ 0) ∧ (((b : Nat) : Int) / 2 % 2 = 1 → ((a : Nat) : Int) / 2 % 2 ≠ 0) ∧ (((b : Nat) : Int) / 4 % 2 = 1 → ((a : Nat) : Int) / 4 % 2 ≠ 0)) := by decide +kernel
theorem hs_iff (a b : Int) (a0 : 0 ≤ a) (a7 : a ≤ 7) (b0 : 0 ≤ b) (b7 : b ≤ 7) : hasB a b = decide ((b % 2 = 1 → a % 2 ≠ 0) ∧ (b / 2 % 2 = 1 → a / 2 % 2 ≠ 0) ∧ (b / 4 % 2 = 1 → a / 4 % 2 ≠ 0)) := by
  have h := hs_fin ⟨a.toNat, by omega⟩ ⟨b.toNat, by omega⟩
  simp only [show ((a.toNat : Nat) : Int) = a by omega, show ((b.toNat : Nat) : Int) = b by omega] at h
  exact h
theorem rhas_any (a b : Int) (a0 : 0 ≤ a) (a7 : a ≤ 7) (b0 : 0 ≤ b) (b7 : b ≤ 7) (w : World) :
    Calls Tryz.prog 70 #[.int .i64 a, .int .i64 b] w fun e w' => e = .returned (.bool (hasB a b)) ∧ w' = w := by
  have H : Hid (hasB a b = decide ((b % 2 = 1 → a % 2 ≠ 0) ∧ (b / 2 % 2 = 1 → a / 2 % 2 ≠ 0) ∧ (b / 4 % 2 = 1 → a / 4 % 2 ≠ 0))) := hs_iff a b a0 a7 b0 b7
  go_enter Tryz.func70, Tryz.ntmps70
  go_wp2
  refine wp_loop_rounds 4 ?_
  rw [rounds_succ]
  go_wp2
  all_goals try (rw [rounds_succ]; go_wp2)
  all_goals try (rw [rounds_succ]; go_wp2)
  all_goals try (rw [rounds_succ]; go_wp2)
  all_goals
    go_ret
    refine ⟨retBool ?_, rfl⟩
    rw [H.out]
    simp only [beq_iff_eq, beq_eq_false_iff_ne, ne_eq] at *
    first
      | (symm; rw [decide_eq_true_iff]; omega)
      | (symm; rw [decide_eq_false_iff_not]; omega)
theorem findWrit_some (b o c : Nat) (l : List Wr) (id : Int) (w : World) (hw : ∀ j x, l[j]? = some x → WrAt w b (o + j * 5) x) (hm : l.length ≤ 1000000) :
    Calls Tryz.prog 27 #[.slice (some ⟨b, o, none⟩) l.length c, .int .i64 id] w fun e w' => e = .returned (.int .i64 (find l id)) ∧ w' = w := by
  go_enter Tryz.func27, Tryz.ntmps27
  go_wp2
  go_loop [5] (fun i => ∃ k : Nat, k ≤ l.length ∧ i = .int .i64 k ∧ Hid (findFrom id (l.drop k) k = find l id)) (fun i => l.length - (intOf i).toNat)
  case atStart => exact ⟨0, Nat.zero_le _, rfl, show Hid _ from rfl⟩
  case round =>
    obtain ⟨k, hk, rfl, hn⟩ := hrel
    by_cases hlt' : k < l.length
    · obtain ⟨x, hx⟩ : ∃ x, l[k]? = some x := ⟨l[k], List.getElem?_eq_getElem hlt'⟩
      obtain ⟨q1, q2, q3, q4, q5⟩ := hw k x hx
      have HX : Hid (l[k]? = some x) := hx
      clear hw hx
      go_wp2
      · have := find_yes HX.out (by simpa using ‹(x.id == id) = true›) hn.out
        go_ret
        exact ⟨retInt this.symm, rfl⟩
      · go_round
        case rel => exact ⟨k + 1, by omega, by go_num, show Hid _ from find_no HX.out (by simpa using ‹(x.id == id) = false›) hn.out⟩
        case measure => simp [intOf]; omega
    · have HF : Hid (find l id = -1) := find_end hlt' hn.out
      clear hw
      go_wp2
      go_ret
      exact ⟨retInt HF.out.symm, rfl⟩
theorem findWrit_any (a : Option Addr) (c : Nat) (l : List Wr) (id : Int) (w : World) (hw : WrsAt w a l) (hm : l.length ≤ 1000000) :
    Calls Tryz.prog 27 #[.slice a l.length c, .int .i64 id] w fun e w' => e = .returned (.int .i64 (find l id)) ∧ w' = w := by
  rcases hw with rfl | ⟨b, o, rfl, hb, hx⟩
  · go_enter Tryz.func27, Tryz.ntmps27
    go_wp2
    refine wp_loop_rounds 1 ?_
    rw [rounds_succ]
    go_wp2
    go_ret
    exact ⟨rfl, rfl⟩
  · exact findWrit_some b o c l id w hx hm
theorem drvParts {x : Wr} {rights badge : Int} (h : drvCode x rights badge = 0) : 0 ≤ rights ∧ rights ≤ 7 ∧ 0 ≤ badge ∧ badge ≤ 99 ∧ hasB x.rights rights = true ∧ othB x.badge badge = false := by
  unfold drvCode at h
  have h1 : ¬ (rights < 0 ∨ 7 < rights ∨ badge < 0 ∨ 99 < badge) := by intro hh; rw [if_pos hh] at h; simp at h
  rw [if_neg h1] at h
  have h2 : ¬ (hasB x.rights rights = false ∨ othB x.badge badge = true) := by intro hh; rw [if_pos hh] at h; simp at h
  refine ⟨by omega, by omega, by omega, by omega, ?_, ?_⟩
  · cases hh : hasB x.rights rights with
    | true => rfl
    | false => exact absurd (Or.inl hh) h2
  · cases hh : othB x.badge badge with
    | false => rfl
    | true => exact absurd (Or.inr hh) h2
set_option maxHeartbeats 1000000 in
theorem derived_ok0 (x : Wr) (id rights badge : Int) (w : World) (xr0 : 0 ≤ x.rights) (xr7 : x.rights ≤ 7) (h : drvCode x rights badge = 0) (hb : x.badge = 0) :
    Calls Tryz.prog 97 #[.agg #[.int .i64 x.id, .int .i64 x.thing, .int .i64 x.rights, .int .i64 x.badge, .int .i64 x.frm], .int .i64 id, .int .i64 rights, .int .i64 badge] w fun e w' => e = .returned (.tuple #[.agg #[.int .i64 id, .int .i64 x.thing, .int .i64 rights, .int .i64 badge, .int .i64 x.id], .int .i64 0]) ∧ Below w.heap.size w w' := by
  obtain ⟨r0, r7, b0, b99, hh, ho⟩ := drvParts h
  obtain ⟨i, t, r, b, f⟩ := x
  simp only at hb xr0 xr7 hh ho
  subst hb
  clear h
  have d0 : ¬ badge < 0 := by omega
  have d1 : ¬ 99 < badge := by omega
  by_cases hz : badge = 0
  · subst hz
    go_enter Tryz.func97, Tryz.ntmps97
    go_wp2_with (go_at_call 70; refine (rhas_any _ _ xr0 xr7 (by omega) (by omega) _).mono ?_; rintro e w' ⟨rfl, rfl⟩)
    refine bodyPost_ret (v := .tuple #[.agg #[.int .i64 id, .int .i64 t, .int .i64 rights, .int .i64 0, .int .i64 i], .int .i64 0]) (by simp [results, Tryz.results97, go_sem]) rfl ⟨rfl, ?_⟩
    repeat (first | exact Below.refl _ _ | refine Below.setCell ?_ (by simp) _ | refine Below.alloc ?_ (by simp) _)
  · have d2 : (badge == 0) = false := by simp [hz]
    go_enter Tryz.func97, Tryz.ntmps97
    go_wp2_with (go_at_call 70; refine (rhas_any _ _ xr0 xr7 (by omega) (by omega) _).mono ?_; rintro e w' ⟨rfl, rfl⟩)
    refine bodyPost_ret (v := .tuple #[.agg #[.int .i64 id, .int .i64 t, .int .i64 rights, .int .i64 badge, .int .i64 i], .int .i64 0]) (by simp [results, Tryz.results97, go_sem]) rfl ⟨rfl, ?_⟩
    repeat (first | exact Below.refl _ _ | refine Below.setCell ?_ (by simp) _ | refine Below.alloc ?_ (by simp) _)
set_option maxHeartbeats 1000000 in
theorem derived_ok1 (x : Wr) (id rights badge : Int) (w : World) (xr0 : 0 ≤ x.rights) (xr7 : x.rights ≤ 7) (h : drvCode x rights badge = 0) (hb : ¬ x.badge = 0) :
    Calls Tryz.prog 97 #[.agg #[.int .i64 x.id, .int .i64 x.thing, .int .i64 x.rights, .int .i64 x.badge, .int .i64 x.frm], .int .i64 id, .int .i64 rights, .int .i64 badge] w fun e w' => e = .returned (.tuple #[.agg #[.int .i64 id, .int .i64 x.thing, .int .i64 rights, .int .i64 x.badge, .int .i64 x.id], .int .i64 0]) ∧ Below w.heap.size w w' := by
  obtain ⟨r0, r7, b0, b99, hh, ho⟩ := drvParts h
  clear h
  have d3 : (x.badge == 0) = false := by simp [hb]
  by_cases hz : badge = 0
  · subst hz
    go_enter Tryz.func97, Tryz.ntmps97
    go_wp2_with (go_at_call 70; refine (rhas_any _ _ xr0 xr7 (by omega) (by omega) _).mono ?_; rintro e w' ⟨rfl, rfl⟩)
    refine bodyPost_ret (v := .tuple #[.agg #[.int .i64 id, .int .i64 x.thing, .int .i64 rights, .int .i64 x.badge, .int .i64 x.id], .int .i64 0]) (by simp [results, Tryz.results97, go_sem]) rfl ⟨rfl, ?_⟩
    repeat (first | exact Below.refl _ _ | refine Below.setCell ?_ (by simp) _ | refine Below.alloc ?_ (by simp) _)
  · have d2 : (badge == 0) = false := by simp [hz]
    have d4 : badge = x.badge := by simp [othB, hz, hb] at ho; exact ho
    subst d4
    go_enter Tryz.func97, Tryz.ntmps97
    go_wp2_with (go_at_call 70; refine (rhas_any _ _ xr0 xr7 (by omega) (by omega) _).mono ?_; rintro e w' ⟨rfl, rfl⟩)
    refine bodyPost_ret (v := .tuple #[.agg #[.int .i64 id, .int .i64 x.thing, .int .i64 rights, .int .i64 x.badge, .int .i64 x.id], .int .i64 0]) (by simp [results, Tryz.results97, go_sem]) rfl ⟨rfl, ?_⟩
    repeat (first | exact Below.refl _ _ | refine Below.setCell ?_ (by simp) _ | refine Below.alloc ?_ (by simp) _)
set_option maxHeartbeats 2000000 in
theorem derived_err (x : Wr) (id rights badge : Int) (w : World) (xr0 : 0 ≤ x.rights) (xr7 : x.rights ≤ 7) (h : drvCode x rights badge ≠ 0) :
    Calls Tryz.prog 97 #[.agg #[.int .i64 x.id, .int .i64 x.thing, .int .i64 x.rights, .int .i64 x.badge, .int .i64 x.frm], .int .i64 id, .int .i64 rights, .int .i64 badge] w fun e w' => e = .returned (.tuple #[.agg #[.int .i64 0, .int .i64 0, .int .i64 0, .int .i64 0, .int .i64 0], .int .i64 (drvCode x rights badge)]) ∧ Below w.heap.size w w' := by
  by_cases h1 : rights < 0 ∨ 7 < rights ∨ badge < 0 ∨ 99 < badge
  · rw [show drvCode x rights badge = 1 by unfold drvCode; rw [if_pos h1]]
    clear h
    have hc : rights < 0 ∨ (¬ rights < 0 ∧ 7 < rights) ∨ (¬ rights < 0 ∧ ¬ 7 < rights ∧ badge < 0) ∨ (¬ rights < 0 ∧ ¬ 7 < rights ∧ ¬ badge < 0 ∧ 99 < badge) := by omega
    clear h1
    rcases hc with h1 | ⟨h1, h2⟩ | ⟨h1, h2, h3⟩ | ⟨h1, h2, h3, h4⟩
    all_goals
      go_enter Tryz.func97, Tryz.ntmps97
      go_wp2_with (go_at_call 70; refine (rhas_any _ _ xr0 xr7 (by omega) (by omega) _).mono ?_; rintro e w' ⟨rfl, rfl⟩)
      refine bodyPost_ret (v := .tuple #[.agg #[.int .i64 0, .int .i64 0, .int .i64 0, .int .i64 0, .int .i64 0], .int .i64 1]) (by simp [results, Tryz.results97, go_sem]) rfl ⟨rfl, ?_⟩
      repeat (first | exact Below.refl _ _ | refine Below.setCell ?_ (by simp) _ | refine Below.alloc ?_ (by simp) _)
  · have h2 : hasB x.rights rights = false ∨ othB x.badge badge = true := by
      unfold drvCode at h; rw [if_neg h1] at h
      by_cases hh : hasB x.rights rights = false ∨ othB x.badge badge = true
      · exact hh
      · rw [if_neg hh] at h; exact absurd rfl h
    rw [show drvCode x rights badge = 7 by unfold drvCode; rw [if_neg h1, if_pos h2]]
    clear h
    have g1 : ¬ rights < 0 := by omega
    have g2 : ¬ 7 < rights := by omega
    have g3 : ¬ badge < 0 := by omega
    have g4 : ¬ 99 < badge := by omega
    clear h1
    cases h7 : hasB x.rights rights with
    | false =>
      clear h2
      go_enter Tryz.func97, Tryz.ntmps97
      go_wp2_with (go_at_call 70; refine (rhas_any _ _ xr0 xr7 (by omega) (by omega) _).mono ?_; rintro e w' ⟨rfl, rfl⟩)
      refine bodyPost_ret (v := .tuple #[.agg #[.int .i64 0, .int .i64 0, .int .i64 0, .int .i64 0, .int .i64 0], .int .i64 7]) (by simp [results, Tryz.results97, go_sem]) rfl ⟨rfl, ?_⟩
      repeat (first | exact Below.refl _ _ | refine Below.setCell ?_ (by simp) _ | refine Below.alloc ?_ (by simp) _)
    | true =>
      have h8 : othB x.badge badge = true := h2.resolve_left (by simp [h7])
      have h9 : badge ≠ 0 ∧ x.badge ≠ 0 ∧ badge ≠ x.badge := by simpa [othB] using h8
      obtain ⟨k1, k2, k3⟩ : ¬ badge = 0 ∧ ¬ x.badge = 0 ∧ ¬ badge = x.badge := h9
      have d1 : (badge != 0) = true := by simp [k1]
      have d2 : (x.badge != 0) = true := by simp [k2]
      have d3 : (badge != x.badge) = true := by simp [k3]
      clear h2 h8 k1 k2 k3
      go_enter Tryz.func97, Tryz.ntmps97
      go_wp2_with (go_at_call 70; refine (rhas_any _ _ xr0 xr7 (by omega) (by omega) _).mono ?_; rintro e w' ⟨rfl, rfl⟩)
      refine bodyPost_ret (v := .tuple #[.agg #[.int .i64 0, .int .i64 0, .int .i64 0, .int .i64 0, .int .i64 0], .int .i64 7]) (by simp [results, Tryz.results97, go_sem]) rfl ⟨rfl, ?_⟩
      repeat (first | exact Below.refl _ _ | refine Below.setCell ?_ (by simp) _ | refine Below.alloc ?_ (by simp) _)
end Go.Proofs.YtddgpgldbekamaaGreat
set_option linter.unusedVariables false
set_option linter.unusedSimpArgs false
set_option linter.unnecessarySimpa false
namespace Go.Proofs.YtddgpgldbekamaaGreat
open Go.RowKit

theorem sameWrits_true (a1 a2 : Option Addr) (c1 c2 : Nat) (l : List Wr) (w : World) (h1 : WrsAt w a1 l) (h2 : WrsAt w a2 l) (hm : l.length ≤ 1000) :
    Calls Tryz.prog 38 #[.slice a1 l.length c1, .slice a2 l.length c2] w fun e w' => e = .returned (.bool true) ∧ Below w.heap.size w w' := by
  by_cases h0 : l = []
  · subst h0
    go_enter Tryz.func38, Tryz.ntmps38
    go_wp2
    refine wp_loop_rounds 1 ?_
    rw [rounds_succ]
    go_wp2
    go_ret
    exact ⟨rfl, Below.refl _ _⟩
  · obtain ⟨b, o, rfl, hb, hc1⟩ := h1.resolve_left h0
    obtain ⟨b', o', rfl, hb', hc2⟩ := h2.resolve_left h0
    go_enter Tryz.func38, Tryz.ntmps38
    go_wp2
    go_loopw [5] (fun i wr => ∃ k : Nat, k ≤ l.length ∧ i = .int .i64 k ∧ ∃ m, wr = w.drewN m) (fun i _ => l.length - (intOf i).toNat)
    case atStart => exact ⟨0, Nat.zero_le _, rfl, 0, rfl⟩
    case round =>
      obtain ⟨k, hk, rfl, m, rfl⟩ := hrel
      by_cases hlt : k < l.length
      · obtain ⟨x, hx⟩ : ∃ x, l[k]? = some x := ⟨l[k], List.getElem?_eq_getElem hlt⟩
        obtain ⟨p1, p2, p3, p4, p5⟩ := hc1 k x hx
        obtain ⟨q1, q2, q3, q4, q5⟩ := hc2 k x hx
        clear hc1 hc2 hx
        go_wp2
        go_quiet (fail)
        go_wp2
        go_roundw
        case rel => exact ⟨k + 1, by omega, by go_num, _, rfl⟩
        case measure => simp [intOf]; omega
      · clear hc1 hc2
        go_wp2
        go_ret
        exact ⟨rfl, below_drewN (Below.refl _ _) _⟩
theorem wo_own {id : Int} {x : Wr} (h1 : ¬ x.id = id) : woStep id id x = [x] := by
  unfold woStep; rw [if_neg h1]
  split
  · rename_i h; cases x; simp at h; simp [h]
  · rfl
set_option maxHeartbeats 2000000 in
theorem rwithout_some (b o c : Nat) (l : List Wr) (id : Int) (w : World) (hw : ∀ j x, l[j]? = some x → WrAt w b (o + j * 5) x) (hb : b < w.heap.size) (hm : l.length ≤ 1000) :
    Calls Tryz.prog 42 #[.slice (some ⟨b, o, none⟩) l.length c, .int .i64 id] w
      fun e w' => ∃ v, e = .returned v ∧ w'.ownsRow w.heap.size 39 5 v (withoutL l id).length ((withoutL l id).flatMap wcells) ∧ Below w.heap.size w w' := by
  obtain ⟨i0, hi, hi0, hi1, hi2⟩ := info_parts infoWrit
  have hfd := find_bd l id
  by_cases hn : find l id < 0
  · have d0 : decide (0 ≤ find l id) = false := decide_eq_false (by omega)
    have HF : Hid (woFrom l id = id) := by show woFrom l id = id; unfold woFrom; rw [if_pos hn]
    clear hn
    go_enter Tryz.func42, Tryz.ntmps42
    go_wp2_with fail
    refine (findWrit_any (some ⟨b, o, none⟩) c l id _ (.inr ⟨b, o, rfl, hb, hw⟩) (by omega)).mono ?_
    rintro e w1 ⟨rfl, hq⟩
    obtain rfl := hq.symm
    generalize find l id = fi at *
    go_wp2_with fail
    go_loopw [5, 7] (fun v i wr => ∃ k : Nat, k ≤ l.length ∧ i = .int .i64 k ∧ wr.ownsRow w.heap.size 39 5 v ((l.take k).flatMap (woStep id id)).length (((l.take k).flatMap (woStep id id)).flatMap wcells) ∧ Below w.heap.size w wr)
      (fun _ i _ => l.length - (intOf i).toNat)
    case atStart => exact ⟨0, Nat.zero_le _, rfl, by simpa using World.ownsRow_nil _ _ _ _, Below.refl _ _⟩
    case round =>
      obtain ⟨k, hk, rfl, hown, hbl⟩ := hrel
      by_cases hlt : k < l.length
      · obtain ⟨x, hx⟩ : ∃ x, l[k]? = some x := ⟨l[k], List.getElem?_eq_getElem hlt⟩
        obtain ⟨q1, q2, q3, q4, q5⟩ := (hw k x hx).below hbl hb
        have HX : Hid (l[k]? = some x) := hx
        have hle := wo_len id id (l.take k)
        have hle2 : (l.take k).length ≤ l.length := by rw [List.length_take]; omega
        have hbz : b < wr.heap.size := Nat.lt_of_lt_of_le hb hbl.size
        clear hx hw
        by_cases h1 : x.id = id
        · have d1 : (x.id != id) = false := by simp [h1]
          have HW : Hid (woStep id id x = []) := by show woStep _ _ _ = _; simp [woStep, h1]
          clear h1
          rw [← wo_same HX.out HW.out] at hown
          go_wp2_with fail
          go_roundw
          case rel => exact ⟨k + 1, by omega, by go_num, hown.alloc _, hbl.alloc hbl.size _⟩
          case measure => simp [intOf]; omega
        · have d1 : (x.id != id) = true := by simp [h1]
          have HW : Hid (woStep id id x = [⟨x.id, x.thing, x.rights, x.badge, x.frm⟩]) := wo_own h1
          clear h1
          generalize hM : (l.take k).flatMap (woStep id id) = M at hown hle
          have HM : Hid ((l.take k).flatMap (woStep id id) = M) := hM
          clear hM
          go_wp2_with (at_builtin; refine wpList_append_own _ rfl _ _ 25 rfl w.heap.size 39 i0 (.agg #[.int .i64 0, .int .i64 0, .int .i64 0, .int .i64 0, .int .i64 0]) 5 40 Tryz.underlying25 hi hi0 hi1 hi2 rfl (by decide) _ _ _ rfl ((hown.alloc _).alloc _) _ 1 1 [.int .i64 x.id, .int .i64 x.thing, .int .i64 x.rights, .int .i64 x.badge, .int .i64 x.frm] rfl rfl (new5b _ _ _ _ _ _ _ _) (one5 _ _ _ _ _) ?c3 ?c4 ?c5 ?_)
          case c3 => unfold maxLen; omega
          case c4 => omega
          case c5 => have := hbl.size; simp; omega
          intro v' w2 hown2' hgrow _
          have bl2 := app5_below hbl hown hgrow
          have hown2 := row5_snoc (x := ⟨x.id, x.thing, x.rights, x.badge, x.frm⟩) hown2'
          clear hgrow hown2' hown
          rw [← HM.out, ← wo_snoc HX.out HW.out] at hown2
          go_wp2_with fail
          go_roundw
          case rel => exact ⟨k + 1, by omega, by go_num, hown2, bl2⟩
          case measure => simp [intOf]; omega
      · rw [List.take_of_length_le (by omega)] at hown
        rw [show l.flatMap (woStep id id) = withoutL l id by unfold withoutL; rw [HF.out]] at hown
        clear hw
        go_wp2_with fail
        go_ret
        exact ⟨_, rfl, hown, hbl⟩
  · obtain ⟨j, hj⟩ : ∃ j : Nat, find l id = (j : Int) := ⟨(find l id).toNat, by omega⟩
    obtain ⟨y, hy, he⟩ := find_get hj
    have hjl : j < l.length := (List.getElem?_eq_some_iff.1 hy).1
    have HF : Hid (woFrom l id = y.frm) := by show woFrom l id = y.frm; unfold woFrom; rw [if_neg hn, hj]; simp [hy]
    have HY : Hid (l[j]? = some y) := hy
    clear hn he hy
    go_enter Tryz.func42, Tryz.ntmps42
    go_wp2_with fail
    refine (findWrit_any (some ⟨b, o, none⟩) c l id _ (.inr ⟨b, o, rfl, hb, hw⟩) (by omega)).mono ?_
    rintro e w1 ⟨rfl, hq⟩
    obtain rfl := hq.symm
    rw [hj]
    clear hj hfd
    go_wp2_with fail
    go_loopw [5, 7] (fun v i wr => ∃ k : Nat, k ≤ l.length ∧ i = .int .i64 k ∧ wr.ownsRow w.heap.size 39 5 v ((l.take k).flatMap (woStep id y.frm)).length (((l.take k).flatMap (woStep id y.frm)).flatMap wcells) ∧ Below w.heap.size w wr)
      (fun _ i _ => l.length - (intOf i).toNat)
    case atStart => exact ⟨0, Nat.zero_le _, rfl, by simpa using World.ownsRow_nil _ _ _ _, Below.refl _ _⟩
    case round =>
      obtain ⟨k, hk, rfl, hown, hbl⟩ := hrel
      by_cases hlt : k < l.length
      · obtain ⟨x, hx⟩ : ∃ x, l[k]? = some x := ⟨l[k], List.getElem?_eq_getElem hlt⟩
        obtain ⟨q1, q2, q3, q4, q5⟩ := (hw k x hx).below hbl hb
        obtain ⟨p1, p2, p3, p4, p5⟩ := (hw j y HY.out).below hbl hb
        have HX : Hid (l[k]? = some x) := hx
        have hle := wo_len id y.frm (l.take k)
        have hle2 : (l.take k).length ≤ l.length := by rw [List.length_take]; omega
        have hbz : b < wr.heap.size := Nat.lt_of_lt_of_le hb hbl.size
        clear hx hw
        by_cases h1 : x.id = id
        · have d1 : (x.id != id) = false := by simp [h1]
          have HW : Hid (woStep id y.frm x = []) := by show woStep _ _ _ = _; simp [woStep, h1]
          clear h1
          rw [← wo_same HX.out HW.out] at hown
          by_cases h2 : x.frm = id
          · have d2 : (x.frm == id) = true := by simp [h2]
            clear h2
            go_wp2_with fail
            go_roundw
            case rel => exact ⟨k + 1, by omega, by go_num, hown.alloc _, hbl.alloc hbl.size _⟩
            case measure => simp [intOf]; omega
          · have d2 : (x.frm == id) = false := by simp [h2]
            clear h2
            go_wp2_with fail
            go_roundw
            case rel => exact ⟨k + 1, by omega, by go_num, hown.alloc _, hbl.alloc hbl.size _⟩
            case measure => simp [intOf]; omega
        · have d1 : (x.id != id) = true := by simp [h1]
          by_cases h2 : x.frm = id
          · have d2 : (x.frm == id) = true := by simp [h2]
            have HW : Hid (woStep id y.frm x = [⟨x.id, x.thing, x.rights, x.badge, y.frm⟩]) := by show woStep _ _ _ = _; simp [woStep, h1, h2]
            clear h1 h2
            generalize hM : (l.take k).flatMap (woStep id y.frm) = M at hown hle
            have HM : Hid ((l.take k).flatMap (woStep id y.frm) = M) := hM
            clear hM
            go_wp2_with (at_builtin; refine wpList_append_own _ rfl _ _ 25 rfl w.heap.size 39 i0 (.agg #[.int .i64 0, .int .i64 0, .int .i64 0, .int .i64 0, .int .i64 0]) 5 40 Tryz.underlying25 hi hi0 hi1 hi2 rfl (by decide) _ _ _ rfl ((hown.alloc _).alloc _) _ 1 1 [.int .i64 x.id, .int .i64 x.thing, .int .i64 x.rights, .int .i64 x.badge, .int .i64 y.frm] rfl rfl (new5b _ _ _ _ _ _ _ _) (one5 _ _ _ _ _) ?c3 ?c4 ?c5 ?_)
            case c3 => unfold maxLen; omega
            case c4 => omega
            case c5 => have := hbl.size; simp; omega
            intro v' w2 hown2' hgrow _
            have bl2 := app5_below hbl hown hgrow
            have hown2 := row5_snoc (x := ⟨x.id, x.thing, x.rights, x.badge, y.frm⟩) hown2'
            clear hgrow hown2' hown
            rw [← HM.out, ← wo_snoc HX.out HW.out] at hown2
            go_wp2_with fail
            go_roundw
            case rel => exact ⟨k + 1, by omega, by go_num, hown2, bl2⟩
            case measure => simp [intOf]; omega
          · have d2 : (x.frm == id) = false := by simp [h2]
            have HW : Hid (woStep id y.frm x = [⟨x.id, x.thing, x.rights, x.badge, x.frm⟩]) := by show woStep _ _ _ = _; simp [woStep, h1, h2]
            clear h1 h2
            generalize hM : (l.take k).flatMap (woStep id y.frm) = M at hown hle
            have HM : Hid ((l.take k).flatMap (woStep id y.frm) = M) := hM
            clear hM
            go_wp2_with (at_builtin; refine wpList_append_own _ rfl _ _ 25 rfl w.heap.size 39 i0 (.agg #[.int .i64 0, .int .i64 0, .int .i64 0, .int .i64 0, .int .i64 0]) 5 40 Tryz.underlying25 hi hi0 hi1 hi2 rfl (by decide) _ _ _ rfl ((hown.alloc _).alloc _) _ 1 1 [.int .i64 x.id, .int .i64 x.thing, .int .i64 x.rights, .int .i64 x.badge, .int .i64 x.frm] rfl rfl (new5b _ _ _ _ _ _ _ _) (one5 _ _ _ _ _) ?c3 ?c4 ?c5 ?_)
            case c3 => unfold maxLen; omega
            case c4 => omega
            case c5 => have := hbl.size; simp; omega
            intro v' w2 hown2' hgrow _
            have bl2 := app5_below hbl hown hgrow
            have hown2 := row5_snoc (x := ⟨x.id, x.thing, x.rights, x.badge, x.frm⟩) hown2'
            clear hgrow hown2' hown
            rw [← HM.out, ← wo_snoc HX.out HW.out] at hown2
            go_wp2_with fail
            go_roundw
            case rel => exact ⟨k + 1, by omega, by go_num, hown2, bl2⟩
            case measure => simp [intOf]; omega
      · rw [List.take_of_length_le (by omega)] at hown
        rw [show l.flatMap (woStep id y.frm) = withoutL l id by unfold withoutL; rw [HF.out]] at hown
        clear hw
        go_wp2_with fail
        go_ret
        exact ⟨_, rfl, hown, hbl⟩
theorem rwithout_any (a : Option Addr) (c : Nat) (l : List Wr) (id : Int) (w : World) (hw : WrsAt w a l) (hm : l.length ≤ 1000) :
    Calls Tryz.prog 42 #[.slice a l.length c, .int .i64 id] w
      fun e w' => ∃ v, e = .returned v ∧ w'.ownsRow w.heap.size 39 5 v (withoutL l id).length ((withoutL l id).flatMap wcells) ∧ Below w.heap.size w w' := by
  rcases hw with rfl | ⟨b, o, rfl, hb, hx⟩
  · go_enter Tryz.func42, Tryz.ntmps42
    go_wp2_with fail
    refine (findWrit_any a c [] id _ (.inl rfl) (by simp)).mono ?_
    rintro e w1 ⟨rfl, hq⟩
    obtain rfl := hq.symm
    go_wp2_with fail
    refine wp_loop_rounds 1 ?_
    rw [rounds_succ]
    go_wp2_with fail
    go_ret
    exact ⟨_, rfl, by simpa [withoutL] using World.ownsRow_nil _ _ _ _, Below.refl _ _⟩
  · exact rwithout_some b o c l id w hx hb hm
end Go.Proofs.YtddgpgldbekamaaGreat
