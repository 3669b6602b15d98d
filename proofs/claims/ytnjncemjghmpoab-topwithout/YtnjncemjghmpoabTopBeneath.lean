/- The walk of TopBeneath: whatever comes in, the answer is true (C1). -/
import Derived.Test.YtnjncemjghmpoabTreed
set_option linter.unusedSimpArgs false
set_option linter.unusedVariables false
namespace Go.Proofs.Ytnjncemjghmpoab
open Go.RowKit

theorem wf_of_good {l : List Wr} (hg : GoodW l) : ∀ x ∈ l, (Lit.int .i64 x.id).wf = true ∧ (Lit.int .i64 x.frm).wf = true := by
  intro x hx
  obtain ⟨h1, h2, _, _, _, _, h7, h8, _, _⟩ := hg.1 x hx
  exact ⟨WalkArith.wf_i64 (by omega), WalkArith.wf_i64 (by omega)⟩
theorem abvLen (l : List Wr) : ∀ (n : Nat) (a : Int), (abv l n a).length ≤ n
  | 0, _ => by simp [abv]
  | n + 1, a => by
    unfold abv
    split
    · simp
    · split
      · simp
      · split
        · simp
        · have := abvLen l n (find (l.take a.toNat) (by assumption : Wr).frm)
          simp only [List.length_cons]
          rename_i x _ _
          have := abvLen l n (find (l.take a.toNat) x.frm)
          omega
theorem aboveLen (l : List Wr) (id : Int) : (aboveL l id).length ≤ l.length := abvLen l _ _
theorem bnLen (id : Int) : ∀ (l : List Wr) (B : List Int), (l.foldl (bnStep id) B).length ≤ B.length + l.length
  | [], B => by simp
  | x :: r, B => by
    have := bnLen id r (bnStep id B x)
    have h2 : (bnStep id B x).length ≤ B.length + 1 := by unfold bnStep; split <;> simp
    simp only [List.foldl_cons, List.length_cons]; omega
theorem beneathLen (l : List Wr) (id : Int) : (beneathL l id).length ≤ l.length := by have := bnLen id l []; simpa [beneathL] using this

set_option maxHeartbeats 1000000 in
theorem tb_long (a : Option Addr) (c : Nat) (l : List Wr) (x y : Int) (w : World) (h : ¬ l.length ≤ 40) (hm : l.length ≤ maxLen) :
    Calls Try.prog 4 #[.slice a l.length c, .int .i64 x, .int .i64 y] w fun e w' => e = .returned (.bool true) ∧ Below w.heap.size w w' := by
  have d0 : decide ((40 : Int) < (l.length : Int)) = true := decide_eq_true (by omega)
  unfold maxLen at hm
  go_enter Try.func4, Try.ntmps4
  go_wp2_with fail
  refine (treed_any w).mono ?_
  rintro e w1 ⟨rfl, b1⟩
  go_wp2_with fail
  go_ret
  exact ⟨rfl, b1⟩
set_option maxHeartbeats 1000000 in
theorem tb_wrong (a : Option Addr) (c : Nat) (l : List Wr) (x y : Int) (w : World) (hw : WrsAt w a l) (h : l.length ≤ 40) (hcap : l.length ≤ c) (hc63 : c ≤ maxLen) (hc : ¬ chk l = 0) :
    Calls Try.prog 4 #[.slice a l.length c, .int .i64 x, .int .i64 y] w fun e w' => e = .returned (.bool true) ∧ Below w.heap.size w w' := by
  have d0 : decide ((40 : Int) < (l.length : Int)) = false := decide_eq_false (by omega)
  go_enter Try.func4, Try.ntmps4
  go_wp2_with fail
  refine (treed_any w).mono ?_
  rintro e w1 ⟨rfl, b1⟩
  have at1 := hw.below b1
  go_wp2_with fail
  refine (chk_bad a c l w1 at1 (by omega) hcap hc63 hc).mono ?_
  rintro e w2 ⟨rfl, b2'⟩
  have b2 := Below_after b1 b2'
  go_wp2_with fail
  go_ret
  exact ⟨rfl, b2⟩
set_option maxHeartbeats 1000000 in
theorem tb_noa (a : Option Addr) (c : Nat) (l : List Wr) (x y : Int) (w : World) (hw : WrsAt w a l) (h : l.length ≤ 40) (hcap : l.length ≤ c) (hc63 : c ≤ maxLen) (hc : chk l = 0) (hx : find l x < 0) :
    Calls Try.prog 4 #[.slice a l.length c, .int .i64 x, .int .i64 y] w fun e w' => e = .returned (.bool true) ∧ Below w.heap.size w w' := by
  have d0 : decide ((40 : Int) < (l.length : Int)) = false := decide_eq_false (by omega)
  have d1 : decide (find l x < 0) = true := decide_eq_true hx
  go_enter Try.func4, Try.ntmps4
  go_wp2_with fail
  refine (treed_any w).mono ?_
  rintro e w1 ⟨rfl, b1⟩
  have at1 := hw.below b1
  go_wp2_with fail
  refine (chk_good a c l w1 at1 (by omega) hcap hc63 hc).mono ?_
  rintro e w2 ⟨rfl, b2'⟩
  have b2 := Below_after b1 b2'
  have at2 := hw.below b2
  go_wp2_with fail
  refine (find_any a c l x w2 at2 (by omega)).mono ?_
  rintro e w3 ⟨rfl, b3'⟩
  have b3 := Below_after b2 b3'
  go_wp2_with fail
  go_ret
  exact ⟨rfl, b3⟩
set_option maxHeartbeats 1000000 in
theorem tb_nob (a : Option Addr) (c : Nat) (l : List Wr) (x y : Int) (w : World) (hw : WrsAt w a l) (h : l.length ≤ 40) (hcap : l.length ≤ c) (hc63 : c ≤ maxLen) (hc : chk l = 0) (hx : 0 ≤ find l x) (hy : find l y < 0) :
    Calls Try.prog 4 #[.slice a l.length c, .int .i64 x, .int .i64 y] w fun e w' => e = .returned (.bool true) ∧ Below w.heap.size w w' := by
  have d0 : decide ((40 : Int) < (l.length : Int)) = false := decide_eq_false (by omega)
  have d1 : decide (find l x < 0) = false := decide_eq_false (by omega)
  have d2 : decide (find l y < 0) = true := decide_eq_true hy
  go_enter Try.func4, Try.ntmps4
  go_wp2_with fail
  refine (treed_any w).mono ?_
  rintro e w1 ⟨rfl, b1⟩
  have at1 := hw.below b1
  go_wp2_with fail
  refine (chk_good a c l w1 at1 (by omega) hcap hc63 hc).mono ?_
  rintro e w2 ⟨rfl, b2'⟩
  have b2 := Below_after b1 b2'
  have at2 := hw.below b2
  go_wp2_with fail
  refine (find_any a c l x w2 at2 (by omega)).mono ?_
  rintro e w3 ⟨rfl, b3'⟩
  have b3 := Below_after b2 b3'
  have at3 := hw.below b3
  go_wp2_with fail
  refine (find_any a c l y w3 at3 (by omega)).mono ?_
  rintro e w4 ⟨rfl, b4'⟩
  have b4 := Below_after b3 b4'
  go_wp2_with fail
  go_ret
  exact ⟨rfl, b4⟩
set_option maxHeartbeats 1000000 in
theorem tb_whole (a : Option Addr) (c : Nat) (l : List Wr) (x y : Int) (w : World) (hw : WrsAt w a l) (h : l.length ≤ 40) (hcap : l.length ≤ c) (hc63 : c ≤ maxLen) (hc : chk l = 0) (hx : 0 ≤ find l x) (hy : 0 ≤ find l y) :
    Calls Try.prog 4 #[.slice a l.length c, .int .i64 x, .int .i64 y] w fun e w' => e = .returned (.bool true) ∧ Below w.heap.size w w' := by
  have d0 : decide ((40 : Int) < (l.length : Int)) = false := decide_eq_false (by omega)
  have d1 : decide (find l x < 0) = false := decide_eq_false (by omega)
  have d2 : decide (find l y < 0) = false := decide_eq_false (by omega)
  have hwf := wf_of_good (good_of_chk hc)
  have T := top_beneath hc hx hy
  have t1 : (inB (beneathL l x) y == inB (aboveL l y) x) = true := by
    cases hh : (inB (beneathL l x) y == inB (aboveL l y) x) with
    | true => rfl
    | false => rw [hh] at T; simp at T
  have t2 : inB (beneathL l x) x = false := by
    cases hh : inB (beneathL l x) x with
    | false => rfl
    | true => rw [t1, hh] at T; simp at T
  have n1 := aboveLen l y
  have n2 := beneathLen l x
  clear T
  go_enter Try.func4, Try.ntmps4
  go_wp2_with fail
  refine (treed_any w).mono ?_
  rintro e w1 ⟨rfl, b1⟩
  have at1 := hw.below b1
  go_wp2_with fail
  refine (chk_good a c l w1 at1 (by omega) hcap hc63 hc).mono ?_
  rintro e w2 ⟨rfl, b2'⟩
  have b2 := Below_after b1 b2'
  have at2 := hw.below b2
  go_wp2_with fail
  refine (find_any a c l x w2 at2 (by omega)).mono ?_
  rintro e w3 ⟨rfl, b3'⟩
  have b3 := Below_after b2 b3'
  have at3 := hw.below b3
  go_wp2_with fail
  refine (find_any a c l y w3 at3 (by omega)).mono ?_
  rintro e w4 ⟨rfl, b4'⟩
  have b4 := Below_after b3 b4'
  have at4 := hw.below b4
  clear at1 at2 at3 b2' b3' b4'
  go_wp2_with fail
  refine (beneath_any a c l x w4 at4 (by omega) hwf).mono ?_
  rintro e w5 ⟨a5, c5, rfl, i5, l5, b5'⟩
  have b5 := Below_after b4 b5'
  have at5 := hw.below b5
  clear at4 b5'
  go_wp2_with fail
  refine (in_any a5 c5 (beneathL l x) y w5 i5 (by omega)).mono ?_
  rintro e w6 ⟨rfl, hw6⟩
  subst hw6
  go_wp2_with fail
  refine (above_any a c l y w6 at5 (by omega) hcap hc63).mono ?_
  rintro e w7 ⟨a7, c7, rfl, i7, l7, b7'⟩
  have b7 := Below_after b5 b7'
  have i7' := i5.below b7' l5
  clear b7' i5 at5
  go_wp2_with fail
  refine (in_any a7 c7 (aboveL l y) x w7 i7 (by omega)).mono ?_
  rintro e w8 ⟨rfl, hw8⟩
  subst hw8
  go_wp2_with fail
  refine (in_any a5 c5 (beneathL l x) x w8 i7' (by omega)).mono ?_
  rintro e w9 ⟨rfl, hw9⟩
  subst hw9
  go_wp2_with fail
  go_ret
  exact ⟨retBool (by simp [t2]), b7⟩
theorem tb_all (w : World) (a : Option Addr) (l : List Wr) (c : Nat) (hw : WrsAt w a l) (hm : l.length ≤ maxLen) (hcap : l.length ≤ c ∧ c ≤ maxLen) (x y : Int) :
    Calls Try.prog 4 #[.slice a l.length c, .int .i64 x, .int .i64 y] w fun e w' => e = .returned (.bool true) ∧ Below w.heap.size w w' := by
  by_cases h : l.length ≤ 40
  · by_cases hc : chk l = 0
    · by_cases hx : find l x < 0
      · exact tb_noa a c l x y w hw h hcap.1 hcap.2 hc hx
      · by_cases hy : find l y < 0
        · exact tb_nob a c l x y w hw h hcap.1 hcap.2 hc (by omega) hy
        · exact tb_whole a c l x y w hw h hcap.1 hcap.2 hc (by omega) (by omega)
    · exact tb_wrong a c l x y w hw h hcap.1 hcap.2 hc
  · exact tb_long a c l x y w h hm
end Go.Proofs.Ytnjncemjghmpoab
