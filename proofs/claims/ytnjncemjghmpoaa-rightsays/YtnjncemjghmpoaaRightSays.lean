/- RightSays holds: for all numbers a, b and every text s the landed code's answer is true. No condition. -/
import Derived.Test.YtnjncemjghmpoaaRightC
import Derived.Test.YtnjncemjghmpoaaRows
import Derived.ProofKit
import Derived.OpenShut
import Derived.ShutString
namespace Go.Proofs.Ytnjncemjghmpoaa.rightSays
open Go.ChangeShapes Go.WideShapes Go.ChangeAt Go.RowKit
open Go.ChangeMaps (open_string shut_string)
set_option linter.unusedVariables false
theorem own : ownKnob Try.prog.godebug = none := by kernel_rfl
theorem land_fin1 : ∀ a b : Fin 8, (bits BinOp.and IntKind.i64 ((a : Nat) : Int) (bits BinOp.and IntKind.i64 ((a : Nat) : Int) ((b : Nat) : Int)) == bits BinOp.and IntKind.i64 ((a : Nat) : Int) ((b : Nat) : Int)) = true := by decide
theorem land_fin2 : ∀ a b : Fin 8, (bits BinOp.and IntKind.i64 ((b : Nat) : Int) (bits BinOp.and IntKind.i64 ((a : Nat) : Int) ((b : Nat) : Int)) == bits BinOp.and IntKind.i64 ((a : Nat) : Int) ((b : Nat) : Int)) = true := by decide
theorem land_fin3 : ∀ a b : Fin 8, 0 ≤ bits BinOp.and IntKind.i64 ((a : Nat) : Int) ((b : Nat) : Int) ∧ bits BinOp.and IntKind.i64 ((a : Nat) : Int) ((b : Nat) : Int) ≤ 7 := by decide
theorem lands (a b : Int) (a0 : 0 ≤ a) (a7 : a ≤ 7) (b0 : 0 ≤ b) (b7 : b ≤ 7) : (bits BinOp.and IntKind.i64 a (bits BinOp.and IntKind.i64 a b) == bits BinOp.and IntKind.i64 a b) = true ∧ (bits BinOp.and IntKind.i64 b (bits BinOp.and IntKind.i64 a b) == bits BinOp.and IntKind.i64 a b) = true ∧ 0 ≤ bits BinOp.and IntKind.i64 a b ∧ bits BinOp.and IntKind.i64 a b ≤ 7 := by
  have h1 := land_fin1 ⟨a.toNat, by omega⟩ ⟨b.toNat, by omega⟩
  have h2 := land_fin2 ⟨a.toNat, by omega⟩ ⟨b.toNat, by omega⟩
  have h3 := land_fin3 ⟨a.toNat, by omega⟩ ⟨b.toNat, by omega⟩
  simp only [show ((a.toNat : Nat) : Int) = a by omega, show ((b.toNat : Nat) : Int) = b by omega] at h1 h2 h3
  exact ⟨h1, h2, h3.1, h3.2⟩
set_option maxHeartbeats 1000000 in
theorem out_neg_long (a b : Int) (s : ByteArray) (w : World) (h : a < 0) (hs : s.size ≤ maxLen) (hl : 20 < s.size) :
    Calls Try.prog 3 #[.int .i64 a, .int .i64 b, .string s] w fun e w' => e = .returned (.bool true) ∧ Grown w w' := by
  have s1 : (bits BinOp.and IntKind.i64 7 5 == 5) = true := by decide
  have s2 : ((txt 5).toList == [108, 103]) = true := by decide +kernel
  unfold maxLen at hs
  go_enter Try.func3, Try.ntmps3
  go_wp2_with (first | (go_at_call 8; refine (text_any _ (by omega) (by omega) _).mono ?_; rintro e w' ⟨rfl, rfl⟩) | (go_at_call 10; refine (check_in _ _ (by omega) (by omega)).mono ?_; rintro e w' ⟨rfl, rfl⟩) | (go_at_call 10; refine (check_out _ _ (by omega)).mono ?_; rintro e w' ⟨rfl, rfl⟩) | (go_at_call 11; refine (same_eq _ _ (by omega)).mono ?_; rintro e w' ⟨rfl, rfl⟩) | (go_at_call 12; refine (parse_yes _ _ (by omega)).mono ?_; rintro e w' ⟨rfl, rfl⟩) | (go_at_call 12; refine (parse_no _ _ (by omega)).mono ?_; rintro e w' ⟨rfl, rfl⟩) | (go_at_call 13; refine (rof_any _ _).mono ?_; rintro e w' ⟨rfl, rfl⟩) | (go_at_call 15; refine (rhas_any _ _ (by omega) (by omega) (by omega) (by omega) _).mono ?_; rintro e w' ⟨rfl, rfl⟩) | (go_at_call 16; refine (rtext_any _ (by omega) (by omega) _).mono ?_; rintro e w' ⟨rfl, rfl⟩) | (go_at_call 14; go_in) | (go_at_call 9; go_in))
  go_ret
  exact ⟨rfl, Grown.refl _⟩
set_option maxHeartbeats 1000000 in
theorem out_neg_no (a b : Int) (s : ByteArray) (w : World) (h : a < 0) (hs : s.size ≤ maxLen) (hl : ¬ 20 < s.size) (hp : prs s < 0) :
    Calls Try.prog 3 #[.int .i64 a, .int .i64 b, .string s] w fun e w' => e = .returned (.bool true) ∧ Grown w w' := by
  have s1 : (bits BinOp.and IntKind.i64 7 5 == 5) = true := by decide
  have s2 : ((txt 5).toList == [108, 103]) = true := by decide +kernel
  unfold maxLen at hs
  go_enter Try.func3, Try.ntmps3
  go_wp2_with (first | (go_at_call 8; refine (text_any _ (by omega) (by omega) _).mono ?_; rintro e w' ⟨rfl, rfl⟩) | (go_at_call 10; refine (check_in _ _ (by omega) (by omega)).mono ?_; rintro e w' ⟨rfl, rfl⟩) | (go_at_call 10; refine (check_out _ _ (by omega)).mono ?_; rintro e w' ⟨rfl, rfl⟩) | (go_at_call 11; refine (same_eq _ _ (by omega)).mono ?_; rintro e w' ⟨rfl, rfl⟩) | (go_at_call 12; refine (parse_yes _ _ (by omega)).mono ?_; rintro e w' ⟨rfl, rfl⟩) | (go_at_call 12; refine (parse_no _ _ (by omega)).mono ?_; rintro e w' ⟨rfl, rfl⟩) | (go_at_call 13; refine (rof_any _ _).mono ?_; rintro e w' ⟨rfl, rfl⟩) | (go_at_call 15; refine (rhas_any _ _ (by omega) (by omega) (by omega) (by omega) _).mono ?_; rintro e w' ⟨rfl, rfl⟩) | (go_at_call 16; refine (rtext_any _ (by omega) (by omega) _).mono ?_; rintro e w' ⟨rfl, rfl⟩) | (go_at_call 14; go_in) | (go_at_call 9; go_in))
  go_ret
  exact ⟨rfl, Grown.refl _⟩
set_option maxHeartbeats 1000000 in
theorem out_neg_yes (a b : Int) (s : ByteArray) (w : World) (h : a < 0) (hs : s.size ≤ maxLen) (hl : ¬ 20 < s.size) (hp : 0 ≤ prs s) :
    Calls Try.prog 3 #[.int .i64 a, .int .i64 b, .string s] w fun e w' => e = .returned (.bool true) ∧ Grown w w' := by
  have s1 : (bits BinOp.and IntKind.i64 7 5 == 5) = true := by decide
  have s2 : ((txt 5).toList == [108, 103]) = true := by decide +kernel
  unfold maxLen at hs
  go_enter Try.func3, Try.ntmps3
  go_wp2_with (first | (go_at_call 8; refine (text_any _ (by omega) (by omega) _).mono ?_; rintro e w' ⟨rfl, rfl⟩) | (go_at_call 10; refine (check_in _ _ (by omega) (by omega)).mono ?_; rintro e w' ⟨rfl, rfl⟩) | (go_at_call 10; refine (check_out _ _ (by omega)).mono ?_; rintro e w' ⟨rfl, rfl⟩) | (go_at_call 11; refine (same_eq _ _ (by omega)).mono ?_; rintro e w' ⟨rfl, rfl⟩) | (go_at_call 12; refine (parse_yes _ _ (by omega)).mono ?_; rintro e w' ⟨rfl, rfl⟩) | (go_at_call 12; refine (parse_no _ _ (by omega)).mono ?_; rintro e w' ⟨rfl, rfl⟩) | (go_at_call 13; refine (rof_any _ _).mono ?_; rintro e w' ⟨rfl, rfl⟩) | (go_at_call 15; refine (rhas_any _ _ (by omega) (by omega) (by omega) (by omega) _).mono ?_; rintro e w' ⟨rfl, rfl⟩) | (go_at_call 16; refine (rtext_any _ (by omega) (by omega) _).mono ?_; rintro e w' ⟨rfl, rfl⟩) | (go_at_call 14; go_in) | (go_at_call 9; go_in))
  go_ret
  exact ⟨rfl, Grown.refl _⟩
set_option maxHeartbeats 1000000 in
theorem out_big_long (a b : Int) (s : ByteArray) (w : World) (hn : ¬ a < 0) (h : 7 < a) (hs : s.size ≤ maxLen) (hl : 20 < s.size) :
    Calls Try.prog 3 #[.int .i64 a, .int .i64 b, .string s] w fun e w' => e = .returned (.bool true) ∧ Grown w w' := by
  have s1 : (bits BinOp.and IntKind.i64 7 5 == 5) = true := by decide
  have s2 : ((txt 5).toList == [108, 103]) = true := by decide +kernel
  unfold maxLen at hs
  go_enter Try.func3, Try.ntmps3
  go_wp2_with (first | (go_at_call 8; refine (text_any _ (by omega) (by omega) _).mono ?_; rintro e w' ⟨rfl, rfl⟩) | (go_at_call 10; refine (check_in _ _ (by omega) (by omega)).mono ?_; rintro e w' ⟨rfl, rfl⟩) | (go_at_call 10; refine (check_out _ _ (by omega)).mono ?_; rintro e w' ⟨rfl, rfl⟩) | (go_at_call 11; refine (same_eq _ _ (by omega)).mono ?_; rintro e w' ⟨rfl, rfl⟩) | (go_at_call 12; refine (parse_yes _ _ (by omega)).mono ?_; rintro e w' ⟨rfl, rfl⟩) | (go_at_call 12; refine (parse_no _ _ (by omega)).mono ?_; rintro e w' ⟨rfl, rfl⟩) | (go_at_call 13; refine (rof_any _ _).mono ?_; rintro e w' ⟨rfl, rfl⟩) | (go_at_call 15; refine (rhas_any _ _ (by omega) (by omega) (by omega) (by omega) _).mono ?_; rintro e w' ⟨rfl, rfl⟩) | (go_at_call 16; refine (rtext_any _ (by omega) (by omega) _).mono ?_; rintro e w' ⟨rfl, rfl⟩) | (go_at_call 14; go_in) | (go_at_call 9; go_in))
  go_ret
  exact ⟨rfl, Grown.refl _⟩
set_option maxHeartbeats 1000000 in
theorem out_big_no (a b : Int) (s : ByteArray) (w : World) (hn : ¬ a < 0) (h : 7 < a) (hs : s.size ≤ maxLen) (hl : ¬ 20 < s.size) (hp : prs s < 0) :
    Calls Try.prog 3 #[.int .i64 a, .int .i64 b, .string s] w fun e w' => e = .returned (.bool true) ∧ Grown w w' := by
  have s1 : (bits BinOp.and IntKind.i64 7 5 == 5) = true := by decide
  have s2 : ((txt 5).toList == [108, 103]) = true := by decide +kernel
  unfold maxLen at hs
  go_enter Try.func3, Try.ntmps3
  go_wp2_with (first | (go_at_call 8; refine (text_any _ (by omega) (by omega) _).mono ?_; rintro e w' ⟨rfl, rfl⟩) | (go_at_call 10; refine (check_in _ _ (by omega) (by omega)).mono ?_; rintro e w' ⟨rfl, rfl⟩) | (go_at_call 10; refine (check_out _ _ (by omega)).mono ?_; rintro e w' ⟨rfl, rfl⟩) | (go_at_call 11; refine (same_eq _ _ (by omega)).mono ?_; rintro e w' ⟨rfl, rfl⟩) | (go_at_call 12; refine (parse_yes _ _ (by omega)).mono ?_; rintro e w' ⟨rfl, rfl⟩) | (go_at_call 12; refine (parse_no _ _ (by omega)).mono ?_; rintro e w' ⟨rfl, rfl⟩) | (go_at_call 13; refine (rof_any _ _).mono ?_; rintro e w' ⟨rfl, rfl⟩) | (go_at_call 15; refine (rhas_any _ _ (by omega) (by omega) (by omega) (by omega) _).mono ?_; rintro e w' ⟨rfl, rfl⟩) | (go_at_call 16; refine (rtext_any _ (by omega) (by omega) _).mono ?_; rintro e w' ⟨rfl, rfl⟩) | (go_at_call 14; go_in) | (go_at_call 9; go_in))
  go_ret
  exact ⟨rfl, Grown.refl _⟩
set_option maxHeartbeats 1000000 in
theorem out_big_yes (a b : Int) (s : ByteArray) (w : World) (hn : ¬ a < 0) (h : 7 < a) (hs : s.size ≤ maxLen) (hl : ¬ 20 < s.size) (hp : 0 ≤ prs s) :
    Calls Try.prog 3 #[.int .i64 a, .int .i64 b, .string s] w fun e w' => e = .returned (.bool true) ∧ Grown w w' := by
  have s1 : (bits BinOp.and IntKind.i64 7 5 == 5) = true := by decide
  have s2 : ((txt 5).toList == [108, 103]) = true := by decide +kernel
  unfold maxLen at hs
  go_enter Try.func3, Try.ntmps3
  go_wp2_with (first | (go_at_call 8; refine (text_any _ (by omega) (by omega) _).mono ?_; rintro e w' ⟨rfl, rfl⟩) | (go_at_call 10; refine (check_in _ _ (by omega) (by omega)).mono ?_; rintro e w' ⟨rfl, rfl⟩) | (go_at_call 10; refine (check_out _ _ (by omega)).mono ?_; rintro e w' ⟨rfl, rfl⟩) | (go_at_call 11; refine (same_eq _ _ (by omega)).mono ?_; rintro e w' ⟨rfl, rfl⟩) | (go_at_call 12; refine (parse_yes _ _ (by omega)).mono ?_; rintro e w' ⟨rfl, rfl⟩) | (go_at_call 12; refine (parse_no _ _ (by omega)).mono ?_; rintro e w' ⟨rfl, rfl⟩) | (go_at_call 13; refine (rof_any _ _).mono ?_; rintro e w' ⟨rfl, rfl⟩) | (go_at_call 15; refine (rhas_any _ _ (by omega) (by omega) (by omega) (by omega) _).mono ?_; rintro e w' ⟨rfl, rfl⟩) | (go_at_call 16; refine (rtext_any _ (by omega) (by omega) _).mono ?_; rintro e w' ⟨rfl, rfl⟩) | (go_at_call 14; go_in) | (go_at_call 9; go_in))
  go_ret
  exact ⟨rfl, Grown.refl _⟩
set_option maxHeartbeats 1000000 in
theorem in_long (a b : Int) (s : ByteArray) (w : World) (h0 : 0 ≤ a) (h7 : a ≤ 7) (hs : s.size ≤ maxLen) (hl : 20 < s.size) :
    Calls Try.prog 3 #[.int .i64 a, .int .i64 b, .string s] w fun e w' => e = .returned (.bool true) ∧ Grown w w' := by
  have s1 : (bits BinOp.and IntKind.i64 7 5 == 5) = true := by decide
  have s2 : ((txt 5).toList == [108, 103]) = true := by decide +kernel
  unfold maxLen at hs
  go_enter Try.func3, Try.ntmps3
  go_wp2_with (first | (go_at_call 8; refine (text_any _ (by omega) (by omega) _).mono ?_; rintro e w' ⟨rfl, rfl⟩) | (go_at_call 10; refine (check_in _ _ (by omega) (by omega)).mono ?_; rintro e w' ⟨rfl, rfl⟩) | (go_at_call 10; refine (check_out _ _ (by omega)).mono ?_; rintro e w' ⟨rfl, rfl⟩) | (go_at_call 11; refine (same_eq _ _ (by omega)).mono ?_; rintro e w' ⟨rfl, rfl⟩) | (go_at_call 12; refine (parse_yes _ _ (by omega)).mono ?_; rintro e w' ⟨rfl, rfl⟩) | (go_at_call 12; refine (parse_no _ _ (by omega)).mono ?_; rintro e w' ⟨rfl, rfl⟩) | (go_at_call 13; refine (rof_any _ _).mono ?_; rintro e w' ⟨rfl, rfl⟩) | (go_at_call 15; refine (rhas_any _ _ (by omega) (by omega) (by omega) (by omega) _).mono ?_; rintro e w' ⟨rfl, rfl⟩) | (go_at_call 16; refine (rtext_any _ (by omega) (by omega) _).mono ?_; rintro e w' ⟨rfl, rfl⟩) | (go_at_call 14; go_in) | (go_at_call 9; go_in))
  go_ret
  exact ⟨ret_bool (decide_eq_true (by omega)), Grown.refl _⟩
set_option maxHeartbeats 1000000 in
theorem in_neg_no (a b : Int) (s : ByteArray) (w : World) (h0 : 0 ≤ a) (h7 : a ≤ 7) (hs : s.size ≤ maxLen) (hl : ¬ 20 < s.size) (hb : b < 0) (hp : prs s < 0) :
    Calls Try.prog 3 #[.int .i64 a, .int .i64 b, .string s] w fun e w' => e = .returned (.bool true) ∧ Grown w w' := by
  have s1 : (bits BinOp.and IntKind.i64 7 5 == 5) = true := by decide
  have s2 : ((txt 5).toList == [108, 103]) = true := by decide +kernel
  unfold maxLen at hs
  go_enter Try.func3, Try.ntmps3
  go_wp2_with (first | (go_at_call 8; refine (text_any _ (by omega) (by omega) _).mono ?_; rintro e w' ⟨rfl, rfl⟩) | (go_at_call 10; refine (check_in _ _ (by omega) (by omega)).mono ?_; rintro e w' ⟨rfl, rfl⟩) | (go_at_call 10; refine (check_out _ _ (by omega)).mono ?_; rintro e w' ⟨rfl, rfl⟩) | (go_at_call 11; refine (same_eq _ _ (by omega)).mono ?_; rintro e w' ⟨rfl, rfl⟩) | (go_at_call 12; refine (parse_yes _ _ (by omega)).mono ?_; rintro e w' ⟨rfl, rfl⟩) | (go_at_call 12; refine (parse_no _ _ (by omega)).mono ?_; rintro e w' ⟨rfl, rfl⟩) | (go_at_call 13; refine (rof_any _ _).mono ?_; rintro e w' ⟨rfl, rfl⟩) | (go_at_call 15; refine (rhas_any _ _ (by omega) (by omega) (by omega) (by omega) _).mono ?_; rintro e w' ⟨rfl, rfl⟩) | (go_at_call 16; refine (rtext_any _ (by omega) (by omega) _).mono ?_; rintro e w' ⟨rfl, rfl⟩) | (go_at_call 14; go_in) | (go_at_call 9; go_in))
  go_ret
  exact ⟨rfl, Grown.refl _⟩
set_option maxHeartbeats 1000000 in
theorem in_big_no (a b : Int) (s : ByteArray) (w : World) (h0 : 0 ≤ a) (h7 : a ≤ 7) (hs : s.size ≤ maxLen) (hl : ¬ 20 < s.size) (hbn : ¬ b < 0) (hb : 7 < b) (hp : prs s < 0) :
    Calls Try.prog 3 #[.int .i64 a, .int .i64 b, .string s] w fun e w' => e = .returned (.bool true) ∧ Grown w w' := by
  have s1 : (bits BinOp.and IntKind.i64 7 5 == 5) = true := by decide
  have s2 : ((txt 5).toList == [108, 103]) = true := by decide +kernel
  unfold maxLen at hs
  go_enter Try.func3, Try.ntmps3
  go_wp2_with (first | (go_at_call 8; refine (text_any _ (by omega) (by omega) _).mono ?_; rintro e w' ⟨rfl, rfl⟩) | (go_at_call 10; refine (check_in _ _ (by omega) (by omega)).mono ?_; rintro e w' ⟨rfl, rfl⟩) | (go_at_call 10; refine (check_out _ _ (by omega)).mono ?_; rintro e w' ⟨rfl, rfl⟩) | (go_at_call 11; refine (same_eq _ _ (by omega)).mono ?_; rintro e w' ⟨rfl, rfl⟩) | (go_at_call 12; refine (parse_yes _ _ (by omega)).mono ?_; rintro e w' ⟨rfl, rfl⟩) | (go_at_call 12; refine (parse_no _ _ (by omega)).mono ?_; rintro e w' ⟨rfl, rfl⟩) | (go_at_call 13; refine (rof_any _ _).mono ?_; rintro e w' ⟨rfl, rfl⟩) | (go_at_call 15; refine (rhas_any _ _ (by omega) (by omega) (by omega) (by omega) _).mono ?_; rintro e w' ⟨rfl, rfl⟩) | (go_at_call 16; refine (rtext_any _ (by omega) (by omega) _).mono ?_; rintro e w' ⟨rfl, rfl⟩) | (go_at_call 14; go_in) | (go_at_call 9; go_in))
  go_ret
  exact ⟨rfl, Grown.refl _⟩
set_option maxHeartbeats 1000000 in
theorem in_in_no (a b : Int) (s : ByteArray) (w : World) (h0 : 0 ≤ a) (h7 : a ≤ 7) (hs : s.size ≤ maxLen) (hl : ¬ 20 < s.size) (hb0 : 0 ≤ b) (hb7 : b ≤ 7) (hp : prs s < 0) :
    Calls Try.prog 3 #[.int .i64 a, .int .i64 b, .string s] w fun e w' => e = .returned (.bool true) ∧ Grown w w' := by
  have s1 : (bits BinOp.and IntKind.i64 7 5 == 5) = true := by decide
  have s2 : ((txt 5).toList == [108, 103]) = true := by decide +kernel
  unfold maxLen at hs
  obtain ⟨f1, f2, f3, f4⟩ := lands a b h0 h7 hb0 hb7
  go_enter Try.func3, Try.ntmps3
  go_wp2_with (first | (go_at_call 8; refine (text_any _ (by omega) (by omega) _).mono ?_; rintro e w' ⟨rfl, rfl⟩) | (go_at_call 10; refine (check_in _ _ (by omega) (by omega)).mono ?_; rintro e w' ⟨rfl, rfl⟩) | (go_at_call 10; refine (check_out _ _ (by omega)).mono ?_; rintro e w' ⟨rfl, rfl⟩) | (go_at_call 11; refine (same_eq _ _ (by omega)).mono ?_; rintro e w' ⟨rfl, rfl⟩) | (go_at_call 12; refine (parse_yes _ _ (by omega)).mono ?_; rintro e w' ⟨rfl, rfl⟩) | (go_at_call 12; refine (parse_no _ _ (by omega)).mono ?_; rintro e w' ⟨rfl, rfl⟩) | (go_at_call 13; refine (rof_any _ _).mono ?_; rintro e w' ⟨rfl, rfl⟩) | (go_at_call 15; refine (rhas_any _ _ (by omega) (by omega) (by omega) (by omega) _).mono ?_; rintro e w' ⟨rfl, rfl⟩) | (go_at_call 16; refine (rtext_any _ (by omega) (by omega) _).mono ?_; rintro e w' ⟨rfl, rfl⟩) | (go_at_call 14; go_in) | (go_at_call 9; go_in))
  go_ret
  exact ⟨ret_bool (by simp; try omega), Grown.refl _⟩
set_option maxHeartbeats 1000000 in
theorem in_neg_yes (a b : Int) (s : ByteArray) (w : World) (h0 : 0 ≤ a) (h7 : a ≤ 7) (hs : s.size ≤ maxLen) (hl : ¬ 20 < s.size) (hb : b < 0) (hp : 0 ≤ prs s) :
    Calls Try.prog 3 #[.int .i64 a, .int .i64 b, .string s] w fun e w' => e = .returned (.bool true) ∧ Grown w w' := by
  have s1 : (bits BinOp.and IntKind.i64 7 5 == 5) = true := by decide
  have s2 : ((txt 5).toList == [108, 103]) = true := by decide +kernel
  unfold maxLen at hs
  go_enter Try.func3, Try.ntmps3
  go_wp2_with (first | (go_at_call 8; refine (text_any _ (by omega) (by omega) _).mono ?_; rintro e w' ⟨rfl, rfl⟩) | (go_at_call 10; refine (check_in _ _ (by omega) (by omega)).mono ?_; rintro e w' ⟨rfl, rfl⟩) | (go_at_call 10; refine (check_out _ _ (by omega)).mono ?_; rintro e w' ⟨rfl, rfl⟩) | (go_at_call 11; refine (same_eq _ _ (by omega)).mono ?_; rintro e w' ⟨rfl, rfl⟩) | (go_at_call 12; refine (parse_yes _ _ (by omega)).mono ?_; rintro e w' ⟨rfl, rfl⟩) | (go_at_call 12; refine (parse_no _ _ (by omega)).mono ?_; rintro e w' ⟨rfl, rfl⟩) | (go_at_call 13; refine (rof_any _ _).mono ?_; rintro e w' ⟨rfl, rfl⟩) | (go_at_call 15; refine (rhas_any _ _ (by omega) (by omega) (by omega) (by omega) _).mono ?_; rintro e w' ⟨rfl, rfl⟩) | (go_at_call 16; refine (rtext_any _ (by omega) (by omega) _).mono ?_; rintro e w' ⟨rfl, rfl⟩) | (go_at_call 14; go_in) | (go_at_call 9; go_in))
  go_ret
  exact ⟨rfl, Grown.refl _⟩
set_option maxHeartbeats 1000000 in
theorem in_big_yes (a b : Int) (s : ByteArray) (w : World) (h0 : 0 ≤ a) (h7 : a ≤ 7) (hs : s.size ≤ maxLen) (hl : ¬ 20 < s.size) (hbn : ¬ b < 0) (hb : 7 < b) (hp : 0 ≤ prs s) :
    Calls Try.prog 3 #[.int .i64 a, .int .i64 b, .string s] w fun e w' => e = .returned (.bool true) ∧ Grown w w' := by
  have s1 : (bits BinOp.and IntKind.i64 7 5 == 5) = true := by decide
  have s2 : ((txt 5).toList == [108, 103]) = true := by decide +kernel
  unfold maxLen at hs
  go_enter Try.func3, Try.ntmps3
  go_wp2_with (first | (go_at_call 8; refine (text_any _ (by omega) (by omega) _).mono ?_; rintro e w' ⟨rfl, rfl⟩) | (go_at_call 10; refine (check_in _ _ (by omega) (by omega)).mono ?_; rintro e w' ⟨rfl, rfl⟩) | (go_at_call 10; refine (check_out _ _ (by omega)).mono ?_; rintro e w' ⟨rfl, rfl⟩) | (go_at_call 11; refine (same_eq _ _ (by omega)).mono ?_; rintro e w' ⟨rfl, rfl⟩) | (go_at_call 12; refine (parse_yes _ _ (by omega)).mono ?_; rintro e w' ⟨rfl, rfl⟩) | (go_at_call 12; refine (parse_no _ _ (by omega)).mono ?_; rintro e w' ⟨rfl, rfl⟩) | (go_at_call 13; refine (rof_any _ _).mono ?_; rintro e w' ⟨rfl, rfl⟩) | (go_at_call 15; refine (rhas_any _ _ (by omega) (by omega) (by omega) (by omega) _).mono ?_; rintro e w' ⟨rfl, rfl⟩) | (go_at_call 16; refine (rtext_any _ (by omega) (by omega) _).mono ?_; rintro e w' ⟨rfl, rfl⟩) | (go_at_call 14; go_in) | (go_at_call 9; go_in))
  go_ret
  exact ⟨rfl, Grown.refl _⟩
set_option maxHeartbeats 1000000 in
theorem in_in_yes (a b : Int) (s : ByteArray) (w : World) (h0 : 0 ≤ a) (h7 : a ≤ 7) (hs : s.size ≤ maxLen) (hl : ¬ 20 < s.size) (hb0 : 0 ≤ b) (hb7 : b ≤ 7) (hp : 0 ≤ prs s) :
    Calls Try.prog 3 #[.int .i64 a, .int .i64 b, .string s] w fun e w' => e = .returned (.bool true) ∧ Grown w w' := by
  have s1 : (bits BinOp.and IntKind.i64 7 5 == 5) = true := by decide
  have s2 : ((txt 5).toList == [108, 103]) = true := by decide +kernel
  unfold maxLen at hs
  obtain ⟨f1, f2, f3, f4⟩ := lands a b h0 h7 hb0 hb7
  go_enter Try.func3, Try.ntmps3
  go_wp2_with (first | (go_at_call 8; refine (text_any _ (by omega) (by omega) _).mono ?_; rintro e w' ⟨rfl, rfl⟩) | (go_at_call 10; refine (check_in _ _ (by omega) (by omega)).mono ?_; rintro e w' ⟨rfl, rfl⟩) | (go_at_call 10; refine (check_out _ _ (by omega)).mono ?_; rintro e w' ⟨rfl, rfl⟩) | (go_at_call 11; refine (same_eq _ _ (by omega)).mono ?_; rintro e w' ⟨rfl, rfl⟩) | (go_at_call 12; refine (parse_yes _ _ (by omega)).mono ?_; rintro e w' ⟨rfl, rfl⟩) | (go_at_call 12; refine (parse_no _ _ (by omega)).mono ?_; rintro e w' ⟨rfl, rfl⟩) | (go_at_call 13; refine (rof_any _ _).mono ?_; rintro e w' ⟨rfl, rfl⟩) | (go_at_call 15; refine (rhas_any _ _ (by omega) (by omega) (by omega) (by omega) _).mono ?_; rintro e w' ⟨rfl, rfl⟩) | (go_at_call 16; refine (rtext_any _ (by omega) (by omega) _).mono ?_; rintro e w' ⟨rfl, rfl⟩) | (go_at_call 14; go_in) | (go_at_call 9; go_in))
  go_ret
  exact ⟨ret_bool (by simp; try omega), Grown.refl _⟩
theorem walk (a : Int) (b : Int) (s : ByteArray) (w0 : (Lit.int .i64 a).wf = true) (w1 : (Lit.int .i64 b).wf = true) (w2 : s.size ≤ maxLen) (w : World) :
    Calls Try.prog 3 #[.int .i64 a, .int .i64 b, .string s] w fun e w' => e = .returned (.bool true) ∧ Grown w w' := by
  by_cases hl : 20 < s.size
  · by_cases h : a < 0
    · exact out_neg_long a b s w h w2 hl
    · by_cases h7 : 7 < a
      · exact out_big_long a b s w h h7 w2 hl
      · exact in_long a b s w (by omega) (by omega) w2 hl
  · by_cases hp : prs s < 0
    · by_cases h : a < 0
      · exact out_neg_no a b s w h w2 hl hp
      · by_cases h7 : 7 < a
        · exact out_big_no a b s w h h7 w2 hl hp
        · by_cases hb : b < 0
          · exact in_neg_no a b s w (by omega) (by omega) w2 hl hb hp
          · by_cases hb7 : 7 < b
            · exact in_big_no a b s w (by omega) (by omega) w2 hl hb hb7 hp
            · exact in_in_no a b s w (by omega) (by omega) w2 hl (by omega) (by omega) hp
    · by_cases h : a < 0
      · exact out_neg_yes a b s w h w2 hl (by omega)
      · by_cases h7 : 7 < a
        · exact out_big_yes a b s w h h7 w2 hl (by omega)
        · by_cases hb : b < 0
          · exact in_neg_yes a b s w (by omega) (by omega) w2 hl hb (by omega)
          · by_cases hb7 : 7 < b
            · exact in_big_yes a b s w (by omega) (by omega) w2 hl hb hb7 (by omega)
            · exact in_in_yes a b s w (by omega) (by omega) w2 hl (by omega) (by omega) (by omega)

/-! ### THE ROW's STEP: WRITTEN OUT: LEAVE IT -/
set_option maxRecDepth 100000 in
theorem lifted (os : Os) (started : os.Started) (H : Type) (enc : TypeId × Value → H) :
    ReturnsInHanded {} Try.checked os 3 .any (Rows.rightSaysSpec.pre6 enc Try.prog Try.f3 Rows.rightSaysRow.domain false) (Rows.rightSaysSpec.post enc Try.prog Try.f3 false true false false) := by
  refine returnsInHanded_of_change (C := Try.checked) own started (by kernel_rfl) Try.func3
    (ChangeSpec.witness6 (enc := enc) (C := Try.checked) false ⟨#[], #[.int .i64 0, .int .i64 0, .string ByteArray.empty], []⟩ 8 (by kernel_rfl) (by kernel_rfl) (by kernel_rfl) (by kernel_rfl)) ?_
  intro W base args ds gs before hval0 hW hcnd _
  have hval : ∀ (j : Nat) t v, Try.f3.params[j]? = some t → args[j]? = some v → Value.okWide Try.prog W .any base t v := hval0
  have hW' := hW
  obtain ⟨p, q, hA0, hV, rfl, hfz, hnd⟩ := hW
  have hA : DataW.TrodAll enc Try.prog W 0 (fun _ => true) true Try.f3.params.toList args.toList ds p := hA0
  rw [Try.params3] at hA hval
  obtain ⟨v0, vs0, d0, ds0, p0, q0, hargs, rfl, rfl, h0, r0⟩ := trodAll_cons hA
  obtain ⟨v1, vs1, d1, ds1, p1, q1, rfl, rfl, rfl, h1, r1⟩ := trodAll_cons r0
  obtain ⟨v2, vs2, d2, ds2, p2, q2, rfl, rfl, rfl, h2, r2⟩ := trodAll_cons r1
  obtain ⟨rfl, rfl, rfl⟩ := trodAll_nil r2
  obtain rfl : args = #[v0, v1, v2] := by cases args; simp_all
  obtain ⟨rfl, rfl⟩ := trodVars_none hV
  obtain ⟨a0, rfl, rfl, rfl, w0⟩ := open_int Try.underlying3 (hval 0 3 v0 rfl rfl) h0
  obtain ⟨a1, rfl, rfl, rfl, w1⟩ := open_int Try.underlying3 (hval 1 3 v1 rfl rfl) h1
  obtain ⟨a2, rfl, rfl, rfl, w2⟩ := open_string Try.underlying9 (hval 2 9 v2 rfl rfl) h2
  clear hA0 hval0
  simp only [List.append_nil] at hW'
  refine (walk a0 a1 a2 w0 w1 w2 W).mono fun e W' ⟨he, hg⟩ => ?_
  subst he
  exact ⟨_, rfl, post_of_same (pa := []) (pv := []) hW' (fun _ _ _ => (trodAll_cons_mk (shut_bool Try.underlying4 _) trodAll_mk0)) (fun sp _ => (trodAll_cons_mk (shut_int Try.underlying3 w0) (trodAll_cons_mk (shut_int Try.underlying3 w1) (trodAll_cons_mk (shut_string Try.underlying9 w2) trodAll_mk0)))) (fun _ _ => rfl) rfl
    (hg.frame _) hg.2.1 (ok_one (by kernel_rfl) rfl (okWide_bool_mk Try.underlying4 _))⟩

theorem over : Rows.rightSaysRow.holds Try.pinned (OpenSpec.ofChange Rows.rightSaysSpec) :=
  OpenClaim.holds_of_wide 3 Try.f3 rfl rfl rfl rfl rfl rfl rfl ⟨rfl, rfl, rfl, rfl, rfl⟩ rfl rfl rfl rfl rfl (by kernel_rfl) Try.func3 (by kernel_rfl)
    (of_decide_eq_true (by kernel_rfl)) (by unfold Func.isWrapper; first | (rw [if_pos (by decide +kernel)]; kernel_rfl) | (rw [if_neg (by decide +kernel)]; exact ⟨rfl, rfl⟩))
    (fun os started H enc _ => lifted os started H enc)


end Go.Proofs.Ytnjncemjghmpoaa.rightSays
namespace Go.Proofs.Ytnjncemjghmpoaa
theorem rightSays_holds : Rows.RightSaysSaid := rightSays.over
end Go.Proofs.Ytnjncemjghmpoaa
