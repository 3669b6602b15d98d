/- writkeeplaw: same, logs (the closed fact of LogSays). -/
import Derived.Test.YtjhkabhhlpdpaaaTopLogW
set_option linter.unusedVariables false
set_option linter.unusedSimpArgs false
set_option linter.unnecessarySimpa false
namespace Go.Proofs.Ytjhkabhhlpdpaaa
open Go.RowKit

set_option maxHeartbeats 1000000 in
set_option maxRecDepth 100000 in
theorem same_eq (n : Int) (w : World) (h : 0 ≤ n) :
    Calls Try.prog 12 #[errV n, .int .i64 n] w fun e w' => e = .returned (.bool true) ∧ w' = w := by
  by_cases h0 : n = 0
  · subst h0
    rw [errV_zero]
    go_enter Try.func12, Try.ntmps12
    go_wp2_with fail
    go_ret
    exact ⟨rfl, rfl⟩
  · rw [errV_pos h0]
    have h1 : 0 < n := by omega
    have d1 : decide (0 < n) = true := decide_eq_true h1
    clear h0
    go_enter Try.func12, Try.ntmps12
    go_wp2_with fail
    go_ret
    exact ⟨rfl, rfl⟩
set_option maxHeartbeats 4000000 in
set_option maxRecDepth 100000 in
theorem logs_any (w : World) : Calls Try.prog 36 #[] w fun e w' => e = .returned (.bool true) ∧ Below w.heap.size w w' := by
  have hcon := new_o 8 w (by decide) (by decide)
  rw [show ((8 : Nat) : Int) = 8 from rfl] at hcon
  go_enter Try.func36, Try.ntmps36
  go_wp2_with fail
  refine hcon.mono ?_
  rintro e w1 ⟨p, B, rfl, hD, hB, hb1⟩
  clear hcon
  have hnl : (newD 8).now.length = 8 := by simp [newD]
  have hcon := lopen_any B p (newD 8) 2 6 1 w1 hD rfl (by decide) (by decide) (by rw [hnl]; decide) (by decide)
  rw [new_secs 8 2 6 (by decide), lg_zeros, show ((2 : Nat) : Int) = 2 from rfl, show ((6 : Nat) : Int) = 6 from rfl, show ((1 : Nat) : Int) = 1 from rfl] at hcon
  dsimp only at hcon
  rw [List.length_nil] at hcon
  go_wp2_with fail
  refine hcon.mono ?_
  rintro e w2 ⟨q, a2, c2, rfl, hL, -, hq, hb2⟩
  clear hcon
  have hnq : ¬ B q := fun e => by have := hD.lt q e; omega
  have hD2 := hD.below hb2
  have bl2 : Below w.heap.size w w2 := Below_after hb1 hb2
  have hbase : ∀ k, Un B (On q) k → w.heap.size ≤ k := fun k hk => by
    rcases hk with hk | hk
    · exact hB k hk
    · have := hb1.size; unfold On at hk; omega
  clear hD hB hb1 hb2 hq
  have ble := bl2.alloc bl2.size (.cells #[.string ⟨#[107]⟩, .string ⟨#[120]⟩, .bool false] 56)
  have hba := (Below.refl w2.heap.size w2).alloc (Nat.le_refl _) (.cells #[.string ⟨#[107]⟩, .string ⟨#[120]⟩, .bool false] 56)
  have hox : ChsB B (w2.alloc (.cells #[.string ⟨#[107]⟩, .string ⟨#[120]⟩, .bool false] 56)) (some ⟨w2.heap.size, 0, none⟩) [⟨⟨#[107]⟩, ⟨#[120]⟩, false⟩] := by
    refine .inr ⟨w2.heap.size, 0, rfl, by simp, fun e => ?_, fun j x hx => ?_⟩
    · have := hD2.lt _ e; omega
    · have hB := (Bx.new w2 [.string ⟨#[107]⟩, .string ⟨#[120]⟩, .bool false] 56).2
      match j, hx with
      | 0, hx => simp at hx; subst hx; exact ⟨⟨(hB 0 _ rfl).1, (hB 1 _ rfl).1, (hB 2 _ rfl).1⟩, by decide, by decide⟩
  have hpre : AddPre (newD 8) ⟨2, 6, 1, 0⟩ [⟨⟨#[107]⟩, ⟨#[120]⟩, false⟩] [] := by
    refine ⟨⟨rfl, rfl, rfl⟩, by show 2 + 6 ≤ (newD 8).now.length; rw [hnl]; decide, by decide, ?_⟩
    have := LogInv.of 1 (List.replicate 6 zsec)
    rw [lg_zeros] at this
    show LogInv 1 (((newD 8).now.drop 2).take 6) [] 0
    rw [new_secs 8 2 6 (by decide)]
    exact this
  have hadd := ladd_any B p q (newD 8) ⟨2, 6, 1, 0⟩ (some ⟨w2.heap.size, 0, none⟩) 1 [⟨⟨#[107]⟩, ⟨#[120]⟩, false⟩] _ (hD2.below hba) (hL.below hba) hnq hox (by simp [maxLen]) (by decide) (by decide) (by decide) (by decide) (by simp [newD])
  have hch : chksC [⟨⟨#[107]⟩, ⟨#[120]⟩, false⟩] = 0 := by decide
  rcases add_spec hpre with ⟨ac, ap, ae, al1, al2, -⟩ | ⟨ac, aneg, -⟩ | ⟨-, -, -, -, hbad⟩
  rotate_left
  · exact absurd aneg (by show ¬ (0 : Int) ≤ -1; decide)
  · exfalso
    rcases hbad with h | h | h
    · simp at h
    · simp at h
    · exact h hch
  rw [ac, errV_zero, ae] at hadd
  dsimp only at hadd
  rw [List.length_singleton] at hadd
  clear ac ap ae al1 al2 hpre hch hox hba hD2 hL
  go_wp2_with fail
  refine hadd.mono ?_
  rintro e wg ⟨rfl, Bg, hDg, hLg, hnqg, hTg⟩
  clear hadd
  have blg : Below w.heap.size w wg := ble.trans (hTg.to_below hbase ble.size)
  clear hTg ble bl2 hDg
  have hsm := same_eq 0 wg (by decide)
  rw [errV_zero] at hsm
  go_wp2_with fail
  refine hsm.mono ?_
  rintro e wh ⟨rfl, rfl⟩
  clear hsm
  have hrm := room_any p q ⟨2, 6, 1, 0 + (1 + 1)⟩ wh hLg (by decide) (by decide)
  have hrv : (((⟨2, 6, 1, 0 + (1 + 1)⟩ : Lg).many : Int) - ((⟨2, 6, 1, 0 + (1 + 1)⟩ : Lg).used : Int)) = 4 := rfl
  rw [hrv] at hrm
  clear hrv
  go_wp2_with fail
  refine hrm.mono ?_
  rintro e wi ⟨rfl, hbi⟩
  clear hrm
  have hnx := next_any p q ⟨2, 6, 1, 0 + (1 + 1)⟩ wi (hLg.below hbi) (by decide) (by decide)
  have hnv : (((⟨2, 6, 1, 0 + (1 + 1)⟩ : Lg).first : Int) + ((⟨2, 6, 1, 0 + (1 + 1)⟩ : Lg).many : Int)) = 7 := rfl
  rw [hnv] at hnx
  clear hnv
  go_wp2_with fail
  refine hnx.mono ?_
  rintro e wj ⟨rfl, hbj⟩
  clear hnx
  go_wp2_with fail
  go_ret
  exact ⟨rfl, Below_after (Below_after blg hbi) hbj⟩
end Go.Proofs.Ytjhkabhhlpdpaaa
