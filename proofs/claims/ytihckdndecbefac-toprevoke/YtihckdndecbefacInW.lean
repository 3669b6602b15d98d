/- In: the walks alone (the plain part stands in AllPure). -/
import Derived.Test.YtihckdndecbefacProg
import Derived.Test.YtihckdndecbefacAllPure
set_option linter.unusedSimpArgs false
set_option linter.unusedVariables false
namespace Go.Proofs.Ytihckdndecbefac
open Go.RowKit

theorem in_some (b o c : Nat) (zs : List Int) (n : Int) (w : World) (hc : ∀ j, j < zs.length → w.cell? ⟨b, o + j, none⟩ = some (.int .i64 (zs.getD j 0))) (hm : zs.length ≤ 1000000) :
    Calls Try.prog 23 #[.slice (some ⟨b, o, none⟩) zs.length c, .int .i64 n] w fun e w' => e = .returned (.bool (inB zs n)) ∧ w' = w := by
  go_enter Try.func23, Try.ntmps23
  go_wp2
  go_loop [5] (fun i => ∃ k : Nat, k ≤ zs.length ∧ i = .int .i64 k ∧ Hid (inB (zs.drop k) n = inB zs n)) (fun i => zs.length - (intOf i).toNat)
  case atStart => exact ⟨0, Nat.zero_le _, rfl, show Hid _ from rfl⟩
  case round =>
    obtain ⟨k, hk, rfl, hn⟩ := hrel
    by_cases hlt : k < zs.length
    · have q1 := hc k hlt
      have hd : zs.drop k = zs[k] :: zs.drop (k + 1) := List.drop_eq_getElem_cons hlt
      have HD : Hid (zs.drop k = zs[k] :: zs.drop (k + 1)) := hd
      clear hc hd
      go_wp2
      · have h1 : inB zs n = true := by
          rw [← hn.out, HD.out]; unfold inB; simp only [List.contains_cons]
          have : (zs[k] == n) = true := by assumption
          have e : n = zs[k] := by simpa using (beq_iff_eq.1 this).symm
          simp [e]
        go_ret
        exact ⟨retBool h1.symm, rfl⟩
      · have h1 : inB (zs.drop (k + 1)) n = inB zs n := by
          rw [← hn.out, HD.out]; unfold inB; simp only [List.contains_cons]
          have : (zs[k] == n) = false := by assumption
          have e : ¬ n = zs[k] := fun e => by rw [← e] at this; simp at this
          simp [e]
        go_round
        case rel => exact ⟨k + 1, by omega, by go_num, show Hid _ from h1⟩
        case measure => simp [intOf]; omega
    · have h1 : inB zs n = false := by rw [← hn.out, List.drop_of_length_le (by omega)]; rfl
      have H1 : Hid (inB zs n = false) := h1
      clear hc h1
      go_wp2
      go_ret
      exact ⟨retBool H1.out.symm, rfl⟩
theorem in_any (a : Option Addr) (c : Nat) (zs : List Int) (n : Int) (w : World) (h : IntsAt w a zs) (hm : zs.length ≤ 1000000) :
    Calls Try.prog 23 #[.slice a zs.length c, .int .i64 n] w fun e w' => e = .returned (.bool (inB zs n)) ∧ w' = w := by
  rcases h with rfl | ⟨b, o, rfl, hc⟩
  · go_enter Try.func23, Try.ntmps23
    go_wp2
    refine wp_loop_rounds 1 ?_
    rw [rounds_succ]
    go_wp2
    go_ret
    exact ⟨rfl, rfl⟩
  · exact in_some b o c zs n w hc hm
end Go.Proofs.Ytihckdndecbefac
