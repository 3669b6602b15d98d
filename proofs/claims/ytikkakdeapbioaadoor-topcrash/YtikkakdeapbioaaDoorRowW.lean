/- Package row: Check, Bytes, Parse, as the landed code has it. -/
import Derived.Test.YtikkakdeapbioaaDoorRowPure
import Derived.Laws.Closers25b
set_option linter.unusedVariables false
set_option linter.unusedSimpArgs false
set_option linter.unnecessarySimpa false
namespace Go.Proofs.YtikkakdeapbioaaDoor
open Go.RowKit

@[reducible] def chV (c : Ch) : Value := .agg #[.string c.key, .string c.val, .bool c.gone]
theorem e_nil (s : ByteArray) : s.toList = [] ↔ s.size = 0 := by
  rw [toList_nil_iff_emptyBytes]
  simp
theorem e_emp (s : ByteArray) : s.toList.isEmpty = decide (s.size = 0) := by
  rw [Bool.eq_iff_iff]; simp [e_nil]
theorem chk3 {c : Ch} (h : c.key.size = 0 ∨ (c.gone = true ∧ c.val.size ≠ 0)) : chkC c = 3 := by unfold chkC; rw [if_pos h]
theorem chk2 {c : Ch} (h : ¬ (c.key.size = 0 ∨ (c.gone = true ∧ c.val.size ≠ 0))) (h2 : 8 < c.key.size ∨ 24 < c.val.size) : chkC c = 2 := by unfold chkC; rw [if_neg h, if_pos h2]
theorem chk0 {c : Ch} (h : ¬ (c.key.size = 0 ∨ (c.gone = true ∧ c.val.size ≠ 0))) (h2 : ¬ (8 < c.key.size ∨ 24 < c.val.size)) : chkC c = 0 := by unfold chkC; rw [if_neg h, if_neg h2]
set_option maxHeartbeats 1000000 in
set_option maxRecDepth 100000 in
theorem check_any (c : Ch) (w : World) (h1 : c.key.size ≤ maxLen) (h2 : c.val.size ≤ maxLen) :
    Calls Tryd.prog 32 #[.agg #[.string c.key, .string c.val, .bool c.gone]] w fun e w' => e = .returned (errV (chkC c)) ∧ Below w.heap.size w w' := by
  unfold maxLen at h1 h2
  have bl := (Below.refl w.heap.size w).alloc (Nat.le_refl _) (.cells #[.string c.key, .string c.val, .bool c.gone] 61)
  obtain ⟨key, val, gone⟩ := c
  dsimp only at h1 h2 bl ⊢
  cases gone
  all_goals
    go_enter Tryd.func32, Tryd.ntmps32
    go_wp2_with fail
    all_goals
      go_ret
      simp only [e_nil, e_emp, Bool.not_eq_true', Bool.not_eq_false', decide_eq_false_iff_not, decide_eq_true_eq] at *
      first
        | exact ⟨by rw [chk3 (by simp only [Bool.false_eq_true, reduceCtorEq, false_and, or_false, true_and] <;> omega)]; rfl, bl⟩
        | exact ⟨by rw [chk2 (by simp only [Bool.false_eq_true, reduceCtorEq, false_and, or_false, true_and] <;> omega) (by simp only [Bool.false_eq_true, reduceCtorEq, false_and, or_false, true_and] <;> omega)]; rfl, bl⟩
        | exact ⟨by rw [chk0 (by simp only [Bool.false_eq_true, reduceCtorEq, false_and, or_false, true_and] <;> omega) (by simp only [Bool.false_eq_true, reduceCtorEq, false_and, or_false, true_and] <;> omega)]; rfl, bl⟩
theorem str_app (a b : List UInt8) : strOf a ++ strOf b = strOf (a ++ b) := by
  unfold strOf
  apply ByteArray.ext
  simp
theorem chB_eq (c : Ch) : strOf [if c.gone then 1 else 0, UInt8.ofNat c.key.size] ++ c.key ++ c.val = chB c := by
  rw [← str_of c.key, ← str_of c.val, str_app, str_app]
  unfold chB chL
  simp [str_of]
set_option maxHeartbeats 1000000 in
set_option maxRecDepth 100000 in
theorem rbytes_any (c : Ch) (w : World) (h1 : c.key.size ≤ maxLen) (h2 : c.val.size ≤ maxLen) :
    Calls Tryd.prog 73 #[.agg #[.string c.key, .string c.val, .bool c.gone]] w fun e w' => e = .returned (.tuple #[.string (if chkC c = 0 then chB c else ⟨#[]⟩), errV (chkC c)]) ∧ Below w.heap.size w w' := by
  have bl := (Below.refl w.heap.size w).alloc (Nat.le_refl _) (.cells #[.string c.key, .string c.val, .bool c.gone] 61)
  have hcon := check_any c (w.alloc (.cells #[.string c.key, .string c.val, .bool c.gone] 61)) h1 h2
  unfold maxLen at h1 h2
  have B := Bx.new w [.string c.key, .string c.val, .bool c.gone] 61
  by_cases h0 : chkC c = 0
  · rw [h0, errV_zero] at hcon ⊢
    have hk := chk_zero h0
    rw [if_pos rfl, ← chB_eq]
    clear h0
    obtain ⟨key, val, gone⟩ := c
    dsimp only at h1 h2 bl hcon hk B ⊢
    have hks : (key.size : Int) % 256 = (key.size : Int) := by omega
    have hu : ((UInt8.ofNat key.size).toNat : Int) = (key.size : Int) := by simp; omega
    go_enter Tryd.func73, Tryd.ntmps73
    go_wp2_with fail
    refine hcon.mono ?_
    rintro e w1 ⟨rfl, hb⟩
    have bl1 := Below_after bl hb
    have B1 := B.below hb
    have c0 := (B1.2 0 _ rfl).1
    have c1 := (B1.2 1 _ rfl).1
    have c2 := (B1.2 2 _ rfl).1
    have z1 := B1.1
    clear hcon B hb bl
    have hcv : ∀ g : UInt8, (convert 92 9 (.slice (some ⟨w1.heap.size, 0, none⟩) 2 2)).run Tryd.prog (w1.alloc (.cells #[.int .u8 (g.toNat : Int), .int .u8 (key.size : Int)] 5)) = .ok (.string (strOf [g, UInt8.ofNat key.size])) (w1.alloc (.cells #[.int .u8 (g.toNat : Int), .int .u8 (key.size : Int)] 5)) := fun g => by
      have hB : BysAt (w1.alloc (.cells #[.int .u8 (g.toNat : Int), .int .u8 (key.size : Int)] 5)) w1.heap.size [g, UInt8.ofNat key.size] := by
        unfold BysAt
        rw [heap_alloc_last]
        simp only [secV, List.map_cons, List.map_nil, hu]
      exact run_secString _ w1.heap.size 0 [g, UInt8.ofNat key.size] 2 2 rfl hB.range
    cases gone
    · have hv := hcv 0
      simp only [show ((0 : UInt8).toNat : Int) = 0 from rfl] at hv
      have hs2 : (strOf [0, UInt8.ofNat key.size]).size = 2 := str_size _
      have hs3 : (strOf [0, UInt8.ofNat key.size] ++ key).size = 2 + key.size := by rw [ByteArray.size_append, hs2]
      clear hcv
      go_wp2_with fail
      go_ret2
      exact ⟨rfl, bl1.alloc bl1.size _⟩
    · have hv := hcv 1
      simp only [show ((1 : UInt8).toNat : Int) = 1 from rfl] at hv
      have hs2 : (strOf [1, UInt8.ofNat key.size]).size = 2 := str_size _
      have hs3 : (strOf [1, UInt8.ofNat key.size] ++ key).size = 2 + key.size := by rw [ByteArray.size_append, hs2]
      clear hcv
      go_wp2_with fail
      go_ret2
      exact ⟨rfl, bl1.alloc bl1.size _⟩
  · rw [if_neg h0, errV_pos h0] at *
    generalize chkC c = cc at *
    go_enter Tryd.func73, Tryd.ntmps73
    go_wp2_with fail
    refine hcon.mono ?_
    rintro e w1 ⟨rfl, hb⟩
    have bl1 := Below_after bl hb
    go_wp2_with fail
    go_ret2
    exact ⟨rfl, bl1⟩
end Go.Proofs.YtikkakdeapbioaaDoor
