/- Has by the document's answer, and how an error is told by its number: for rights 0 to 7; for every error number. -/
import Derived.Test.YtnjncemjghmpoaaRightB
namespace Go.Proofs.Ytnjncemjghmpoaa
open Go.RowKit
theorem hs_fin : ∀ a b : Fin 8, (bits BinOp.and IntKind.i64 ((a : Nat) : Int) ((b : Nat) : Int) == ((b : Nat) : Int)) = decide ((((b : Nat) : Int) % 2 = 1 → ((a : Nat) : Int) % 2 ≠ 0) ∧ (((b : Nat) : Int) / 2 % 2 = 1 → ((a : Nat) : Int) / 2 % 2 ≠ 0) ∧ (((b : Nat) : Int) / 4 % 2 = 1 → ((a : Nat) : Int) / 4 % 2 ≠ 0)) := by decide +kernel
theorem hs_iff (a b : Int) (a0 : 0 ≤ a) (a7 : a ≤ 7) (b0 : 0 ≤ b) (b7 : b ≤ 7) : (bits BinOp.and IntKind.i64 a b == b) = decide ((b % 2 = 1 → a % 2 ≠ 0) ∧ (b / 2 % 2 = 1 → a / 2 % 2 ≠ 0) ∧ (b / 4 % 2 = 1 → a / 4 % 2 ≠ 0)) := by
  have h := hs_fin ⟨a.toNat, by omega⟩ ⟨b.toNat, by omega⟩
  simp only [show ((a.toNat : Nat) : Int) = a by omega, show ((b.toNat : Nat) : Int) = b by omega] at h
  exact h
theorem rhas_any (a b : Int) (a0 : 0 ≤ a) (a7 : a ≤ 7) (b0 : 0 ≤ b) (b7 : b ≤ 7) (w : World) :
    Calls Try.prog 15 #[.int .i64 a, .int .i64 b] w fun e w' => e = .returned (.bool (bits BinOp.and IntKind.i64 a b == b)) ∧ w' = w := by
  have H : Hid ((bits BinOp.and IntKind.i64 a b == b) = decide ((b % 2 = 1 → a % 2 ≠ 0) ∧ (b / 2 % 2 = 1 → a / 2 % 2 ≠ 0) ∧ (b / 4 % 2 = 1 → a / 4 % 2 ≠ 0))) := hs_iff a b a0 a7 b0 b7
  go_enter Try.func15, Try.ntmps15
  go_wp2
  refine wp_loop_rounds 4 ?_
  rw [rounds_succ]
  go_wp2
  all_goals try (rw [rounds_succ]; go_wp2)
  all_goals try (rw [rounds_succ]; go_wp2)
  all_goals try (rw [rounds_succ]; go_wp2)
  all_goals
    go_ret
    refine ⟨ret_bool ?_, rfl⟩
    rw [H.out]
    simp only [beq_iff_eq, beq_eq_false_iff_ne, ne_eq] at *
    first
      | (symm; rw [decide_eq_true_iff]; omega)
      | (symm; rw [decide_eq_false_iff_not]; omega)
@[go_sem] theorem as70 (v : Value) (w : World) : (Instr.typeAssert (.iface 70 v) 25 70 true).run Try.prog w = .ok (.tuple #[v, .bool true]) w := by kernel_rfl
theorem same_eq (n : Int) (w : World) (h : 0 < n) : Calls Try.prog 11 #[.iface 70 (.int .i64 n), .int .i64 n] w fun e w' => e = .returned (.bool true) ∧ w' = w := by
  go_enter Try.func11, Try.ntmps11
  go_wp2
  go_ret
  exact ⟨ret_bool (by simp), rfl⟩
theorem same_ne (n m : Int) (w : World) (h : n ≠ m) : Calls Try.prog 11 #[.iface 70 (.int .i64 n), .int .i64 m] w fun e w' => e = .returned (.bool false) ∧ w' = w := by
  have h1 : (n == m) = false := by simp [h]
  by_cases hm : 0 < m
  · go_enter Try.func11, Try.ntmps11
    go_wp2
    go_ret
    exact ⟨ret_bool (by simp), rfl⟩
  · go_enter Try.func11, Try.ntmps11
    go_wp2
    go_ret
    exact ⟨rfl, rfl⟩
theorem same_nil (m : Int) (w : World) : Calls Try.prog 11 #[.nilIface, .int .i64 m] w fun e w' => e = .returned (.bool (m == 0)) ∧ w' = w := by
  go_enter Try.func11, Try.ntmps11
  go_wp2
  go_ret
  exact ⟨rfl, rfl⟩
end Go.Proofs.Ytnjncemjghmpoaa
