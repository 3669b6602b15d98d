/- The walk of TreeSays: whatever comes in, the answer is true (C1 to C4). -/
import Derived.Test.YtnjncemjghmpoaaTrees
import Derived.Test.YtnjncemjghmpoaaTreeFault
import Derived.Test.YtnjncemjghmpoaaRefBeneath
import Derived.Test.YtnjncemjghmpoaaRefWithout
import Derived.Test.YtnjncemjghmpoaaRefThings
set_option linter.unusedSimpArgs false
set_option linter.unusedVariables false
namespace Go.Proofs.Ytnjncemjghmpoaa
open Go.RowKit

@[go_sem] theorem asErrT (v : Value) (w : World) : (Instr.typeAssert (.iface 70 v) 25 70 true).run Try.prog w = .ok (.tuple #[v, .bool true]) w := by kernel_rfl
theorem sameT_eq (n : Int) (w : World) (h : 0 < n) : Calls Try.prog 11 #[.iface 70 (.int .i64 n), .int .i64 n] w fun e w' => e = .returned (.bool true) ∧ w' = w := by
  go_enter Try.func11, Try.ntmps11
  go_wp2
  go_ret
  exact ⟨retBool (by simp), rfl⟩
theorem sameT_nil (w : World) : Calls Try.prog 11 #[.nilIface, .int .i64 0] w fun e w' => e = .returned (.bool true) ∧ w' = w := by
  go_enter Try.func11, Try.ntmps11
  go_wp2
  go_ret
  exact ⟨rfl, rfl⟩
theorem drvCode_nn (y : Wr) (r g : Int) : 0 ≤ drvCode y r g := by
  by_cases h : drvCode y r g = 0
  · omega
  · have := drvCode_pos h; omega
theorem cfOf_nn (x y : Wr) : 0 ≤ cfOf x y := by
  unfold cfOf
  split
  · exact drvCode_nn _ _ _
  · split <;> decide
theorem cfCode_nn (l : List Wr) (x : Wr) : 0 ≤ cfCode l x := by
  unfold cfCode
  split
  · decide
  · split
    · decide
    · split
      · decide
      · exact cfOf_nn _ _
theorem ckCode_nn (l : List Wr) (k : Nat) (x : Wr) : 0 ≤ ckCode l k x := by
  unfold ckCode
  split
  · decide
  · split
    · decide
    · exact cfCode_nn _ _
theorem chkFrom_nn (l : List Wr) : ∀ n k, 0 ≤ chkFrom l n k
  | 0, _ => by simp [chkFrom]
  | n + 1, k => by
    unfold chkFrom
    split
    · decide
    · split
      · exact ckCode_nn _ _ _
      · exact chkFrom_nn l n (k + 1)
theorem chk_pos {l : List Wr} (h : ¬ chk l = 0) : 0 < chk l := by
  have := chkFrom_nn l l.length 0
  unfold chk at *
  omega

set_option maxHeartbeats 1000000 in
theorem ts_long (a : Option Addr) (c : Nat) (l : List Wr) (id : Int) (w : World) (h : ¬ l.length ≤ 40) (hm : l.length ≤ maxLen) :
    Calls Try.prog 5 #[.slice a l.length c, .int .i64 id] w fun e w' => e = .returned (.bool true) ∧ Below w.heap.size w w' := by
  have d0 : decide ((40 : Int) < (l.length : Int)) = true := decide_eq_true (by omega)
  unfold maxLen at hm
  go_enter Try.func5, Try.ntmps5
  go_wp2_with fail
  refine (trees_any w).mono ?_
  rintro e w1 ⟨rfl, b1⟩
  go_wp2_with fail
  go_ret
  exact ⟨rfl, b1⟩
set_option maxHeartbeats 1000000 in
theorem ts_wrong (a : Option Addr) (c : Nat) (l : List Wr) (id : Int) (w : World) (hw : WrsAt w a l) (h : l.length ≤ 40) (hcap : l.length ≤ c) (hc63 : c ≤ maxLen) (hc : ¬ chk l = 0) :
    Calls Try.prog 5 #[.slice a l.length c, .int .i64 id] w fun e w' => e = .returned (.bool true) ∧ Below w.heap.size w w' := by
  have d0 : decide ((40 : Int) < (l.length : Int)) = false := decide_eq_false (by omega)
  have hp := chk_pos hc
  have d1 : decide (0 < chk l) = true := decide_eq_true hp
  go_enter Try.func5, Try.ntmps5
  go_wp2_with fail
  refine (trees_any w).mono ?_
  rintro e w1 ⟨rfl, b1⟩
  have at1 := hw.below b1
  go_wp2_with fail
  refine (treeFault_any a c l w1 at1 (by omega) hcap hc63).mono ?_
  rintro e w2 ⟨rfl, b2'⟩
  have b2 := Below_after b1 b2'
  have at2 := hw.below b2
  clear b2' at1
  go_wp2_with fail
  refine (chk_bad a c l w2 at2 (by omega) hcap hc63 hc).mono ?_
  rintro e w3 ⟨rfl, b3'⟩
  have b3 := Below_after b2 b3'
  clear b3' at2
  go_wp2_with fail
  refine (sameT_eq _ _ hp).mono ?_
  rintro e w4 ⟨rfl, hq⟩
  obtain rfl := hq.symm
  go_wp2_with fail
  go_ret
  exact ⟨rfl, b3⟩
set_option maxHeartbeats 2000000 in
set_option maxRecDepth 100000 in
theorem ts_whole (a : Option Addr) (c : Nat) (l : List Wr) (id : Int) (w : World) (hw : WrsAt w a l) (h : l.length ≤ 40) (hcap : l.length ≤ c) (hc63 : c ≤ maxLen) (hc : chk l = 0) :
    Calls Try.prog 5 #[.slice a l.length c, .int .i64 id] w fun e w' => e = .returned (.bool true) ∧ Below w.heap.size w w' := by
  have d0 : decide ((40 : Int) < (l.length : Int)) = false := decide_eq_false (by omega)
  have hg := good_of_chk hc
  have hwf := wf_of_good hg
  have HT : Hid (thingsL l = thUp l 999) := things_eq (fun x hx => ⟨(hg.1 x hx).2.2.1, (hg.1 x hx).2.2.2.1⟩)
  have HG : Hid (GoodW l) := hg
  have n1 := aboveLen l id
  have n2 := beneathLen l id
  have n3 := withoutLen l id
  have n4 := thingsLen l
  clear hg
  go_enter Try.func5, Try.ntmps5
  go_wp2_with fail
  refine (trees_any w).mono ?_
  rintro e w1 ⟨rfl, b1⟩
  have at1 := hw.below b1
  go_wp2_with fail
  refine (treeFault_any a c l w1 at1 (by omega) hcap hc63).mono ?_
  rintro e w2 ⟨rfl, b2'⟩
  have b2 := Below_after b1 b2'
  have at2 := hw.below b2
  rw [hc]
  clear b2' at1
  go_wp2_with fail
  refine (chk_good a c l w2 at2 (by omega) hcap hc63 hc).mono ?_
  rintro e w3 ⟨rfl, b3'⟩
  have b3 := Below_after b2 b3'
  have at3 := hw.below b3
  clear b3' at2
  go_wp2_with fail
  refine (sameT_nil _).mono ?_
  rintro e w4 ⟨rfl, hq⟩
  obtain rfl := hq.symm
  go_wp2_with fail
  refine (beneath_any a c l id w3 at3 (by omega) hwf).mono ?_
  rintro e w5 ⟨a5, c5, rfl, i5, l5, b5'⟩
  have b5 := Below_after b3 b5'
  have at5 := hw.below b5
  clear b5' at3
  go_wp2_with fail
  refine (rbeneath_any a c l id w5 at5 (by omega) HG.out).mono ?_
  rintro e w6 ⟨a6, c6, rfl, i6, l6, b6'⟩
  have b6 := Below_after b5 b6'
  have i5' := i5.below b6' l5
  have at6 := hw.below b6
  clear b6' at5 i5
  go_wp2_with fail
  refine (sn_any a5 a6 c5 c6 (beneathL l id) (beneathL l id) w6 i5' i6 (by omega) (by omega)).mono ?_
  rintro e w7 ⟨rfl, m7, rfl⟩
  have b7 := below_drewN b6 m7
  have at7 := hw.below b7
  have hbe : (beneathL l id == beneathL l id) = true := by simp
  rw [hbe]
  clear at6 i5' i6 hbe b6
  generalize w6.drewN m7 = w7 at *
  go_wp2_with fail
  refine (above_any a c l id w7 at7 (by omega) hcap hc63).mono ?_
  rintro e w8 ⟨a8, c8, rfl, i8, l8, b8'⟩
  have b8 := Below_after b7 b8'
  have at8 := hw.below b8
  clear b8' at7
  go_wp2_with fail
  refine (rabove_any a c l id w8 at8 (by omega) HG.out).mono ?_
  rintro e w9 ⟨a9, c9, rfl, i9, l9, b9'⟩
  have b9 := Below_after b8 b9'
  have i8' := i8.below b9' l8
  have at9 := hw.below b9
  clear b9' at8 i8
  go_wp2_with fail
  refine (sn_any a8 a9 c8 c9 (aboveL l id) (aboveL l id) w9 i8' i9 (by omega) (by omega)).mono ?_
  rintro e w10 ⟨rfl, m10, rfl⟩
  have b10 := below_drewN b9 m10
  have at10 := hw.below b10
  have hbe : (aboveL l id == aboveL l id) = true := by simp
  rw [hbe]
  clear at9 i8' i9 hbe b9
  generalize w9.drewN m10 = w10 at *
  go_wp2_with fail
  refine (without_any a c l id w10 at10 (by omega)).mono ?_
  rintro e w11 ⟨v11, rfl, hrow11, b11'⟩
  obtain ⟨a11, c11, rfl, m11⟩ := wrs_of_row hrow11
  have b11 := Below_after b10 b11'
  have at11 := hw.below b11
  clear b11' at10 hrow11
  go_wp2_with fail
  refine (rwithout_any a c l id w11 at11 (by omega)).mono ?_
  rintro e w12 ⟨v12, rfl, hrow12, b12'⟩
  obtain ⟨a12, c12, rfl, m12⟩ := wrs_of_row hrow12
  have b12 := Below_after b11 b12'
  have m11' := m11.below b12'
  clear b12' at11 hrow12 m11
  go_wp2_with fail
  refine (sameWrits_true a11 a12 c11 c12 (withoutL l id) w12 m11' m12 (by omega)).mono ?_
  rintro e w13 ⟨rfl, b13'⟩
  have b13 := Below_after b12 b13'
  have at13 := hw.below b13
  clear b13' m11' m12
  go_wp2_with fail
  refine (things_any a c l w13 at13 (by omega)).mono ?_
  rintro e w14 ⟨a14, c14, rfl, i14, l14, b14'⟩
  have b14 := Below_after b13 b14'
  have at14 := hw.below b14
  clear b14' at13
  go_wp2_with fail
  refine (thingsOf_any a c l w14 at14 (by omega)).mono ?_
  rintro e w15 ⟨a15, c15, rfl, i15, l15, b15'⟩
  have b15 := Below_after b14 b15'
  have i14' := i14.below b15' l14
  rw [← HT.out] at i15 ⊢
  clear b15' at14 i14
  go_wp2_with fail
  refine (sn_any a14 a15 c14 c15 (thingsL l) (thingsL l) w15 i14' i15 (by omega) (by omega)).mono ?_
  rintro e w16 ⟨rfl, m16, rfl⟩
  have b16 := below_drewN b15 m16
  have hbe : (thingsL l == thingsL l) = true := by simp
  rw [hbe]
  clear i14' i15 hbe b15
  generalize w15.drewN m16 = w16 at *
  go_wp2_with fail
  go_ret
  exact ⟨rfl, b16⟩
theorem ts_all (w : World) (a : Option Addr) (l : List Wr) (c : Nat) (hw : WrsAt w a l) (hm : l.length ≤ maxLen) (hcap : l.length ≤ c ∧ c ≤ maxLen) (id : Int) :
    Calls Try.prog 5 #[.slice a l.length c, .int .i64 id] w fun e w' => e = .returned (.bool true) ∧ Below w.heap.size w w' := by
  by_cases h : l.length ≤ 40
  · by_cases hc : chk l = 0
    · exact ts_whole a c l id w hw h hcap.1 hcap.2 hc
    · exact ts_wrong a c l id w hw h hcap.1 hcap.2 hc
  · exact ts_long a c l id w h hm
end Go.Proofs.Ytnjncemjghmpoaa
