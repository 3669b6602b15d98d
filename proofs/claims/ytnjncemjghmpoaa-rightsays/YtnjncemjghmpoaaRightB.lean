/- Check, Parse and RightOf of the landed code, for every text: the number whose text it is, the first one; else ErrText. -/
import Derived.Test.YtnjncemjghmpoaaRight
namespace Go.Proofs.Ytnjncemjghmpoaa
open Go.RowKit

theorem check_in (a : Int) (w : World) (h0 : 0 ≤ a) (h7 : a ≤ 7) :
    Calls Try.prog 10 #[.int .i64 a] w fun e w' => e = .returned .nilIface ∧ w' = w := by
  go_enter Try.func10, Try.ntmps10
  go_wp2
  go_ret
  exact ⟨rfl, rfl⟩
theorem check_out (a : Int) (w : World) (h : a < 0 ∨ 7 < a) :
    Calls Try.prog 10 #[.int .i64 a] w fun e w' => e = .returned (.iface 70 (.int .i64 1)) ∧ w' = w := by
  rcases h with h | h
  · go_enter Try.func10, Try.ntmps10
    go_wp2
    go_ret
    exact ⟨rfl, rfl⟩
  · have h' : ¬ a < 0 := by omega
    go_enter Try.func10, Try.ntmps10
    go_wp2
    go_ret
    exact ⟨rfl, rfl⟩

/-- the first number from k on whose text is s; -1: none of the next n -/
def prsK (s : ByteArray) : Nat → Nat → Int
  | 0, _ => -1
  | n + 1, k => if (txt k).toList == s.toList then k else prsK s n (k + 1)
def prs (s : ByteArray) : Int := prsK s 8 0
theorem prsK_bd (s : ByteArray) : ∀ n k : Nat, -1 ≤ prsK s n k ∧ prsK s n k < (n : Int) + k
  | 0, k => by unfold prsK; omega
  | n + 1, k => by
    unfold prsK
    have := prsK_bd s n (k + 1)
    split <;> omega
theorem prs_bd (s : ByteArray) : -1 ≤ prs s ∧ prs s ≤ 7 := by
  have := prsK_bd s 8 0
  unfold prs; omega
theorem prsK_yes {s : ByteArray} {k : Nat} (hlt : k < 8) (h : ((txt k).toList == s.toList) = true) (hp : prsK s (8 - k) k = prs s) : prs s = k := by
  obtain ⟨n, hn⟩ : ∃ n, 8 - k = n + 1 := ⟨7 - k, by omega⟩
  rw [hn] at hp; unfold prsK at hp; rw [if_pos h] at hp; exact hp.symm
theorem prsK_no {s : ByteArray} {k : Nat} (hlt : k < 8) (h : ((txt k).toList == s.toList) = false) (hp : prsK s (8 - k) k = prs s) : prsK s (8 - (k + 1)) (k + 1) = prs s := by
  obtain ⟨n, hn⟩ : ∃ n, 8 - k = n + 1 := ⟨7 - k, by omega⟩
  rw [hn] at hp; unfold prsK at hp; rw [if_neg (by simp [h])] at hp
  have : 8 - (k + 1) = n := by omega
  rw [this]; exact hp
theorem prsK_end {s : ByteArray} {k : Nat} (hk : k ≤ 8) (hge : ¬ k < 8) (hp : prsK s (8 - k) k = prs s) : prs s = -1 := by
  have : k = 8 := by omega
  subst this; exact hp.symm

/-- what Parse hands back: the number, or 0 and ErrText -/
theorem parse_yes (s : ByteArray) (w : World) (hs : 0 ≤ prs s) :
    Calls Try.prog 12 #[.string s] w fun e w' => e = .returned (.tuple #[.int .i64 (prs s), .nilIface]) ∧ w' = w := by
  go_enter Try.func12, Try.ntmps12
  go_wp2
  go_loop [5] (fun i => ∃ k : Nat, k ≤ 8 ∧ i = .int .i64 k ∧ Hid (prsK s (8 - k) k = prs s)) (fun i => 8 - (intOf i).toNat)
  case atStart => exact ⟨0, by omega, rfl, show Hid _ from rfl⟩
  case round =>
    obtain ⟨k, hk, rfl, hn⟩ := hrel
    by_cases hlt : k < 8
    · go_wp2_with (go_at_call 8; refine (text_any _ (by omega) (by omega) _).mono ?_; rintro e w' ⟨rfl, rfl⟩)
      · have := prsK_yes hlt ‹_› hn.out
        go_ret2
        exact ⟨by rw [this]; rfl, rfl⟩
      · go_round
        case rel => exact ⟨k + 1, by omega, by go_num, show Hid _ from prsK_no hlt ‹_› hn.out⟩
        case measure => simp [intOf]; omega
    · have := prsK_end hk hlt hn.out
      omega
theorem parse_no (s : ByteArray) (w : World) (hs : prs s < 0) :
    Calls Try.prog 12 #[.string s] w fun e w' => e = .returned (.tuple #[.int .i64 0, .iface 70 (.int .i64 4)]) ∧ w' = w := by
  go_enter Try.func12, Try.ntmps12
  go_wp2
  go_loop [5] (fun i => ∃ k : Nat, k ≤ 8 ∧ i = .int .i64 k ∧ Hid (prsK s (8 - k) k = prs s)) (fun i => 8 - (intOf i).toNat)
  case atStart => exact ⟨0, by omega, rfl, show Hid _ from rfl⟩
  case round =>
    obtain ⟨k, hk, rfl, hn⟩ := hrel
    by_cases hlt : k < 8
    · go_wp2_with (go_at_call 8; refine (text_any _ (by omega) (by omega) _).mono ?_; rintro e w' ⟨rfl, rfl⟩)
      · have := prsK_yes hlt ‹_› hn.out
        omega
      · go_round
        case rel => exact ⟨k + 1, by omega, by go_num, show Hid _ from prsK_no hlt ‹_› hn.out⟩
        case measure => simp [intOf]; omega
    · go_wp2
      go_ret2
      exact ⟨rfl, rfl⟩
theorem rof_any (s : ByteArray) (w : World) :
    Calls Try.prog 13 #[.string s] w fun e w' => e = .returned (.int .i64 (prs s)) ∧ w' = w := by
  go_enter Try.func13, Try.ntmps13
  go_wp2
  go_loop [3] (fun i => ∃ k : Nat, k ≤ 8 ∧ i = .int .i64 k ∧ Hid (prsK s (8 - k) k = prs s)) (fun i => 8 - (intOf i).toNat)
  case atStart => exact ⟨0, by omega, rfl, show Hid _ from rfl⟩
  case round =>
    obtain ⟨k, hk, rfl, hn⟩ := hrel
    by_cases hlt : k < 8
    · go_wp2_with (go_at_call 16; refine (rtext_any _ (by omega) (by omega) _).mono ?_; rintro e w' ⟨rfl, rfl⟩)
      · have := prsK_yes hlt ‹_› hn.out
        go_ret
        exact ⟨by rw [this]; rfl, rfl⟩
      · go_round
        case rel => exact ⟨k + 1, by omega, by go_num, show Hid _ from prsK_no hlt ‹_› hn.out⟩
        case measure => simp [intOf]; omega
    · have := prsK_end hk hlt hn.out
      go_wp2
      go_ret
      exact ⟨rfl, rfl⟩
end Go.Proofs.Ytnjncemjghmpoaa
