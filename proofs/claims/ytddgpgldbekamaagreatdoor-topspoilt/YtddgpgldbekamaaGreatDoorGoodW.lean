/- Good: the walks alone (the plain part stands in AllPure). -/
import Derived.Test.YtddgpgldbekamaaGreatDoorProg
import Derived.Test.YtddgpgldbekamaaGreatDoorAllPure
import Derived.Test.YtddgpgldbekamaaGreatDoorPlaceFaultW
import Derived.Deep.QuietTactic
import Derived.BigQuiet
import Derived.WalkSmall
set_option linter.unusedSimpArgs false
set_option linter.unusedVariables false
namespace Go.Proofs.YtddgpgldbekamaaGreatDoor
open Go.RowKit

set_option maxHeartbeats 2000000 in
theorem good_some (b o c : Nat) (l : List Hd) (w : World) (hw : ∀ j x, l[j]? = some x → HdAt w b (o + j * 3) x) (hb : b < w.heap.size) (hm : l.length ≤ maxLen) :
    Calls Tryz.prog 27 #[.slice (some ⟨b, o, none⟩) l.length c] w fun e w' => ∃ r : Bool, e = .returned (.bool r) ∧ (r = true ↔ Good l) ∧ Below w.heap.size w w' := by
  unfold maxLen at hm
  go_enter Tryz.func27, Tryz.ntmps27
  go_wp2
  go_loopw [3] (fun i wr => ∃ k : Nat, k ≤ l.length ∧ i = .int .i64 k ∧ Hid (GoodTo l k) ∧ Below w.heap.size w wr) (fun i _ => l.length - (intOf i).toNat)
  case atStart => exact ⟨0, Nat.zero_le _, rfl, (show Hid _ from fun _ _ h => by omega), Below.refl _ _⟩
  case round =>
    obtain ⟨k, hk, rfl, hn, hbl⟩ := hrel
    by_cases hlt : k < l.length
    · obtain ⟨x, hx⟩ : ∃ x, l[k]? = some x := ⟨l[k], List.getElem?_eq_getElem hlt⟩
      obtain ⟨q1, q2, q3⟩ := (hw k x hx).below hbl hb
      have HX : Hid (l[k]? = some x) := hx
      clear hx
      have hbz : b < wr.heap.size := Nat.lt_of_lt_of_le hb hbl.size
      by_cases hp : plOk x.holder x.slot
      · by_cases hwr : x.writ = 0
        · have d1 : (x.writ == 0) = true := by simp [hwr]
          have HW : Hid (x.writ = 0) := hwr
          clear hwr
          go_wp2_with fail
          refine (placeFault_any _ _ _ 0 (.inl ⟨hp, rfl⟩)).mono ?_
          rintro e w1 ⟨rfl, hb1⟩
          have bl1 : Below w.heap.size w w1 := Below_after (hbl.alloc hbl.size _) hb1
          obtain ⟨q1, q2, q3⟩ := (hw _ x HX.out).below bl1 hb
          clear hb1 hw
          go_wp2_with fail
          go_ret
          exact ⟨false, rfl, notGood (fun hg => (hg _ x HX.out).2.1 HW.out), bl1⟩
        · have d1 : (x.writ == 0) = false := by simp [hwr]
          have HW : Hid (¬ x.writ = 0) := hwr
          clear hwr
          cases k with
          | zero =>
            have e0 : o + 0 * 3 = o := by omega
            rw [e0] at q1 q2 q3
            go_wp2_with fail
            refine (placeFault_any _ _ _ 0 (.inl ⟨hp, rfl⟩)).mono ?_
            rintro e w1 ⟨rfl, hb1⟩
            have bl1 : Below w.heap.size w w1 := Below_after (hbl.alloc hbl.size _) hb1
            obtain ⟨q1, q2, q3⟩ := (hw 0 x HX.out).below bl1 hb
            rw [e0] at q1 q2 q3
            clear hw hb1
            go_wp2_with fail
            go_quiet (fail)
            go_wp2_with fail
            go_roundw
            case rel => exact ⟨1, by omega, by go_num, (show Hid _ from goodTo_next hn.out HX.out ⟨hp, HW.out, fun j y hj => by omega⟩), below_drewN bl1 _⟩
            case measure => simp [intOf]; omega
          | succ j =>
            obtain ⟨y, hy⟩ : ∃ y, l[j]? = some y := ⟨l[j], List.getElem?_eq_getElem (by omega)⟩
            have HY : Hid (l[j]? = some y) := hy
            clear hy
            have dk : decide ((0 : Int) < ((j + 1 : Nat) : Int)) = true := by simp <;> omega
            by_cases h1 : x.holder < y.holder
            · have f1 : decide (x.holder < y.holder) = true := decide_eq_true h1
              have HN : Hid (befB y.holder y.slot x.holder x.slot = false) := befB_no1 h1
              clear h1
              go_wp2_with fail
              refine (placeFault_any _ _ _ 0 (.inl ⟨hp, rfl⟩)).mono ?_
              rintro e w1 ⟨rfl, hb1⟩
              have bl1 : Below w.heap.size w w1 := Below_after (hbl.alloc hbl.size _) hb1
              obtain ⟨q1, q2, q3⟩ := (hw _ x HX.out).below bl1 hb
              obtain ⟨r1, r2, r3⟩ := (hw _ y HY.out).below bl1 hb
              have g0 : w1.cell? ⟨wr.heap.size, 0, none⟩ = some (.int .i64 x.holder) := by rw [(bcell hb1).1 _ _ (by simp)]; simp
              have g1 : w1.cell? ⟨wr.heap.size, 1, none⟩ = some (.int .i64 x.slot) := by rw [(bcell hb1).1 _ _ (by simp)]; simp
              clear hw hb1
              go_wp2_with fail
              go_quiet (fail)
              go_wp2_with fail
              go_ret
              exact ⟨false, rfl, notGood (fun hg => by have := (hg _ x HX.out).2.2 j y rfl HY.out; rw [HN.out] at this; cases this), below_drewN bl1 _⟩
            · have f1 : decide (x.holder < y.holder) = false := decide_eq_false h1
              by_cases h2 : x.holder = y.holder
              · have f2 : (x.holder == y.holder) = true := by simp [h2]
                by_cases h3 : x.slot ≤ y.slot
                · have f3 : decide (x.slot ≤ y.slot) = true := decide_eq_true h3
                  have HN : Hid (befB y.holder y.slot x.holder x.slot = false) := befB_no2 h2 h3
                  clear h1 h2 h3
                  go_wp2_with fail
                  refine (placeFault_any _ _ _ 0 (.inl ⟨hp, rfl⟩)).mono ?_
                  rintro e w1 ⟨rfl, hb1⟩
                  have bl1 : Below w.heap.size w w1 := Below_after (hbl.alloc hbl.size _) hb1
                  obtain ⟨q1, q2, q3⟩ := (hw _ x HX.out).below bl1 hb
                  obtain ⟨r1, r2, r3⟩ := (hw _ y HY.out).below bl1 hb
                  have g0 : w1.cell? ⟨wr.heap.size, 0, none⟩ = some (.int .i64 x.holder) := by rw [(bcell hb1).1 _ _ (by simp)]; simp
                  have g1 : w1.cell? ⟨wr.heap.size, 1, none⟩ = some (.int .i64 x.slot) := by rw [(bcell hb1).1 _ _ (by simp)]; simp
                  clear hw hb1
                  go_wp2_with fail
                  go_quiet (fail)
                  go_wp2_with fail
                  go_ret
                  exact ⟨false, rfl, notGood (fun hg => by have := (hg _ x HX.out).2.2 j y rfl HY.out; rw [HN.out] at this; cases this), below_drewN bl1 _⟩
                · have f3 : decide (x.slot ≤ y.slot) = false := decide_eq_false h3
                  have HN : Hid (befB y.holder y.slot x.holder x.slot = true) := befB_yes2 h2 h3
                  clear h1 h2 h3
                  go_wp2_with fail
                  refine (placeFault_any _ _ _ 0 (.inl ⟨hp, rfl⟩)).mono ?_
                  rintro e w1 ⟨rfl, hb1⟩
                  have bl1 : Below w.heap.size w w1 := Below_after (hbl.alloc hbl.size _) hb1
                  obtain ⟨q1, q2, q3⟩ := (hw _ x HX.out).below bl1 hb
                  obtain ⟨r1, r2, r3⟩ := (hw _ y HY.out).below bl1 hb
                  have g0 : w1.cell? ⟨wr.heap.size, 0, none⟩ = some (.int .i64 x.holder) := by rw [(bcell hb1).1 _ _ (by simp)]; simp
                  have g1 : w1.cell? ⟨wr.heap.size, 1, none⟩ = some (.int .i64 x.slot) := by rw [(bcell hb1).1 _ _ (by simp)]; simp
                  clear hw hb1
                  go_wp2_with fail
                  go_quiet (fail)
                  go_wp2_with fail
                  go_roundw
                  case rel => exact ⟨j + 1 + 1, by omega, by go_num, (show Hid _ from goodTo_next hn.out HX.out ⟨hp, HW.out, fun j' y' hj hy' => by obtain rfl : j = j' := by { omega }; rw [HY.out] at hy'; cases hy'; exact HN.out⟩), below_drewN bl1 _⟩
                  case measure => simp [intOf]; omega
              · have f2 : (x.holder == y.holder) = false := by simp [h2]
                have HN : Hid (befB y.holder y.slot x.holder x.slot = true) := befB_yes1 h1 h2
                clear h1 h2
                go_wp2_with fail
                refine (placeFault_any _ _ _ 0 (.inl ⟨hp, rfl⟩)).mono ?_
                rintro e w1 ⟨rfl, hb1⟩
                have bl1 : Below w.heap.size w w1 := Below_after (hbl.alloc hbl.size _) hb1
                obtain ⟨q1, q2, q3⟩ := (hw _ x HX.out).below bl1 hb
                obtain ⟨r1, r2, r3⟩ := (hw _ y HY.out).below bl1 hb
                have g0 : w1.cell? ⟨wr.heap.size, 0, none⟩ = some (.int .i64 x.holder) := by rw [(bcell hb1).1 _ _ (by simp)]; simp
                have g1 : w1.cell? ⟨wr.heap.size, 1, none⟩ = some (.int .i64 x.slot) := by rw [(bcell hb1).1 _ _ (by simp)]; simp
                clear hw hb1
                go_wp2_with fail
                go_quiet (fail)
                go_wp2_with fail
                go_roundw
                case rel => exact ⟨j + 1 + 1, by omega, by go_num, (show Hid _ from goodTo_next hn.out HX.out ⟨hp, HW.out, fun j' y' hj hy' => by obtain rfl : j = j' := by { omega }; rw [HY.out] at hy'; cases hy'; exact HN.out⟩), below_drewN bl1 _⟩
                case measure => simp [intOf]; omega
      · go_wp2_with fail
        refine (placeFault_any _ _ _ 1 (.inr ⟨hp, rfl⟩)).mono ?_
        rintro e w1 ⟨rfl, hb1⟩
        have bl1 : Below w.heap.size w w1 := Below_after (hbl.alloc hbl.size _) hb1
        clear hb1
        go_wp2_with fail
        go_ret
        exact ⟨false, rfl, notGood (fun hg => hp (hg _ x HX.out).1), bl1⟩
    · clear hw
      go_wp2
      go_ret
      exact ⟨true, rfl, ⟨fun _ => good_of_to hn.out hlt, fun _ => rfl⟩, hbl⟩
theorem good_any (a : Option Addr) (c : Nat) (l : List Hd) (w : World) (hw : HdsAt w a l) (hm : l.length ≤ maxLen) :
    Calls Tryz.prog 27 #[.slice a l.length c] w fun e w' => ∃ r : Bool, e = .returned (.bool r) ∧ (r = true ↔ Good l) ∧ Below w.heap.size w w' := by
  rcases hw with rfl | ⟨b, o, rfl, hb, hx⟩
  · clear hm
    go_enter Tryz.func27, Tryz.ntmps27
    go_wp2
    refine wp_loop_rounds 1 ?_
    rw [rounds_succ]
    go_wp2
    go_ret
    exact ⟨true, rfl, ⟨fun _ k x h => by simp at h, fun _ => rfl⟩, Below.refl _ _⟩
  · exact good_some b o c l w hx hb hm
end Go.Proofs.YtddgpgldbekamaaGreatDoor
