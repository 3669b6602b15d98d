/- Without: the walks alone (the plain part stands in AllPure). -/
import Derived.Test.YtddgpgldbekamaaGreatProg
import Derived.Test.YtddgpgldbekamaaGreatAllPure
import Derived.Test.YtddgpgldbekamaaGreatFindW
import Derived.Test.YtddgpgldbekamaaGreatInfoW
set_option linter.unusedSimpArgs false
set_option linter.unusedVariables false
namespace Go.Proofs.YtddgpgldbekamaaGreat
open Go.RowKit

set_option maxHeartbeats 2000000 in
theorem without_some (b o c : Nat) (l : List Wr) (id : Int) (w : World) (hw : ∀ j x, l[j]? = some x → WrAt w b (o + j * 5) x) (hb : b < w.heap.size) (hm : l.length ≤ 1000) :
    Calls Tryz.prog 75 #[.slice (some ⟨b, o, none⟩) l.length c, .int .i64 id] w
      fun e w' => ∃ v, e = .returned v ∧ w'.ownsRow w.heap.size 39 5 v (withoutL l id).length ((withoutL l id).flatMap wcells) ∧ Below w.heap.size w w' := by
  obtain ⟨i0, hi, hi0, hi1, hi2⟩ := info_parts infoWrit
  have hfd := find_bd l id
  by_cases hn : find l id < 0
  · have d0 : decide (0 ≤ find l id) = false := decide_eq_false (by omega)
    have HF : Hid (woFrom l id = id) := by show woFrom l id = id; unfold woFrom; rw [if_pos hn]
    clear hn
    go_enter Tryz.func75, Tryz.ntmps75
    go_wp2_with fail
    refine (find_any (some ⟨b, o, none⟩) c l id _ (.inr ⟨b, o, rfl, hb, hw⟩) (by omega)).mono ?_
    rintro e w1 ⟨rfl, bl1⟩
    go_wp2_with fail
    go_loopw [7, 23] (fun v i wr => ∃ k : Nat, k ≤ l.length ∧ i = .int .i64 k ∧ wr.ownsRow w.heap.size 39 5 v ((l.take k).flatMap (woStep id id)).length (((l.take k).flatMap (woStep id id)).flatMap wcells) ∧ Below w.heap.size w wr)
      (fun _ i _ => l.length - (intOf i).toNat)
    case atStart => exact ⟨0, Nat.zero_le _, rfl, by simpa using World.ownsRow_nil _ _ _ _, bl1⟩
    case round =>
      obtain ⟨k, hk, rfl, hown, hbl⟩ := hrel
      by_cases hlt : k < l.length
      · obtain ⟨x, hx⟩ : ∃ x, l[k]? = some x := ⟨l[k], List.getElem?_eq_getElem hlt⟩
        obtain ⟨q1, q2, q3, q4, q5⟩ := (hw k x hx).below hbl hb
        have HX : Hid (l[k]? = some x) := hx
        have hle := wo_len id id (l.take k)
        have hle2 : (l.take k).length ≤ l.length := by rw [List.length_take]; omega
        have hbz : b < wr.heap.size := Nat.lt_of_lt_of_le hb hbl.size
        clear hx hw
        by_cases h1 : x.id = id
        · have d1 : (x.id == id) = true := by simp [h1]
          have HW : Hid (woStep id id x = []) := by show woStep _ _ _ = _; simp [woStep, h1]
          clear h1
          rw [← wo_same HX.out HW.out] at hown
          go_wp2_with fail
          go_roundw
          case rel => exact ⟨k + 1, by omega, by go_num, hown.alloc _, hbl.alloc hbl.size _⟩
          case measure => simp [intOf]; omega
        · have d1 : (x.id == id) = false := by simp [h1]
          by_cases h2 : x.frm = id
          · have d2 : (x.frm == id) = true := by simp [h2]
            have HW : Hid (woStep id id x = [⟨x.id, x.thing, x.rights, x.badge, id⟩]) := by show woStep _ _ _ = _; simp [woStep, h1, h2]
            clear h1 h2
            generalize hM : (l.take k).flatMap (woStep id id) = M at hown hle
            have HM : Hid ((l.take k).flatMap (woStep id id) = M) := hM
            clear hM
            go_wp2_with (at_builtin; refine wpList_append_own _ rfl _ _ 25 rfl w.heap.size 39 i0 (.agg #[.int .i64 0, .int .i64 0, .int .i64 0, .int .i64 0, .int .i64 0]) 5 40 Tryz.underlying25 hi hi0 hi1 hi2 rfl (by decide) _ _ _ rfl ((hown.alloc _).alloc _) _ 1 1 [.int .i64 x.id, .int .i64 x.thing, .int .i64 x.rights, .int .i64 x.badge, .int .i64 id] rfl rfl (new5b _ _ _ _ _ _ _ _) (one5 _ _ _ _ _) ?c3 ?c4 ?c5 ?_)
            case c3 => unfold maxLen; omega
            case c4 => omega
            case c5 => have := hbl.size; simp; omega
            intro v' w2 hown2' hgrow _
            have bl2 := app5_below hbl hown hgrow
            have hown2 := row5_snoc (x := ⟨x.id, x.thing, x.rights, x.badge, id⟩) hown2'
            clear hgrow hown2' hown
            rw [← HM.out, ← wo_snoc HX.out HW.out] at hown2
            go_wp2_with fail
            go_roundw
            case rel => exact ⟨k + 1, by omega, by go_num, hown2, bl2⟩
            case measure => simp [intOf]; omega

          · have d2 : (x.frm == id) = false := by simp [h2]
            have HW : Hid (woStep id id x = [⟨x.id, x.thing, x.rights, x.badge, x.frm⟩]) := by show woStep _ _ _ = _; simp [woStep, h1, h2]
            clear h1 h2
            generalize hM : (l.take k).flatMap (woStep id id) = M at hown hle
            have HM : Hid ((l.take k).flatMap (woStep id id) = M) := hM
            clear hM
            go_wp2_with (at_builtin; refine wpList_append_own _ rfl _ _ 25 rfl w.heap.size 39 i0 (.agg #[.int .i64 0, .int .i64 0, .int .i64 0, .int .i64 0, .int .i64 0]) 5 40 Tryz.underlying25 hi hi0 hi1 hi2 rfl (by decide) _ _ _ rfl ((hown.alloc _).alloc _) _ 1 1 [.int .i64 x.id, .int .i64 x.thing, .int .i64 x.rights, .int .i64 x.badge, .int .i64 x.frm] rfl rfl (new5b _ _ _ _ _ _ _ _) (one5 _ _ _ _ _) ?c3 ?c4 ?c5 ?_)
            case c3 => unfold maxLen; omega
            case c4 => omega
            case c5 => have := hbl.size; simp; omega
            intro v' w2 hown2' hgrow _
            have bl2 := app5_below hbl hown hgrow
            have hown2 := row5_snoc (x := ⟨x.id, x.thing, x.rights, x.badge, x.frm⟩) hown2'
            clear hgrow hown2' hown
            rw [← HM.out, ← wo_snoc HX.out HW.out] at hown2
            go_wp2_with fail
            go_roundw
            case rel => exact ⟨k + 1, by omega, by go_num, hown2, bl2⟩
            case measure => simp [intOf]; omega

      · rw [List.take_of_length_le (by omega)] at hown
        rw [show l.flatMap (woStep id id) = withoutL l id by unfold withoutL; rw [HF.out]] at hown
        clear hw
        go_wp2_with fail
        go_ret
        exact ⟨_, rfl, hown, hbl⟩
  · obtain ⟨j, hj⟩ : ∃ j : Nat, find l id = (j : Int) := ⟨(find l id).toNat, by omega⟩
    obtain ⟨y, hy, he⟩ := find_get hj
    have hjl : j < l.length := (List.getElem?_eq_some_iff.1 hy).1
    have HF : Hid (woFrom l id = y.frm) := by show woFrom l id = y.frm; unfold woFrom; rw [if_neg hn, hj]; simp [hy]
    clear hn he
    go_enter Tryz.func75, Tryz.ntmps75
    go_wp2_with fail
    refine (find_any (some ⟨b, o, none⟩) c l id _ (.inr ⟨b, o, rfl, hb, hw⟩) (by omega)).mono ?_
    rintro e w1 ⟨rfl, bl1⟩
    obtain ⟨y1, y2, y3, y4, y5⟩ := (hw j y hy).below bl1 hb
    rw [hj]
    clear hy
    go_wp2_with fail
    clear y1 y2 y3 y4 y5
    go_loopw [7, 23] (fun v i wr => ∃ k : Nat, k ≤ l.length ∧ i = .int .i64 k ∧ wr.ownsRow w.heap.size 39 5 v ((l.take k).flatMap (woStep id y.frm)).length (((l.take k).flatMap (woStep id y.frm)).flatMap wcells) ∧ Below w.heap.size w wr)
      (fun _ i _ => l.length - (intOf i).toNat)
    case atStart => exact ⟨0, Nat.zero_le _, rfl, by simpa using World.ownsRow_nil _ _ _ _, bl1⟩
    case round =>
      obtain ⟨k, hk, rfl, hown, hbl⟩ := hrel
      by_cases hlt : k < l.length
      · obtain ⟨x, hx⟩ : ∃ x, l[k]? = some x := ⟨l[k], List.getElem?_eq_getElem hlt⟩
        obtain ⟨q1, q2, q3, q4, q5⟩ := (hw k x hx).below hbl hb
        have HX : Hid (l[k]? = some x) := hx
        have hle := wo_len id y.frm (l.take k)
        have hle2 : (l.take k).length ≤ l.length := by rw [List.length_take]; omega
        have hbz : b < wr.heap.size := Nat.lt_of_lt_of_le hb hbl.size
        clear hx hw
        by_cases h1 : x.id = id
        · have d1 : (x.id == id) = true := by simp [h1]
          have HW : Hid (woStep id y.frm x = []) := by show woStep _ _ _ = _; simp [woStep, h1]
          clear h1
          rw [← wo_same HX.out HW.out] at hown
          go_wp2_with fail
          go_roundw
          case rel => exact ⟨k + 1, by omega, by go_num, hown.alloc _, hbl.alloc hbl.size _⟩
          case measure => simp [intOf]; omega
        · have d1 : (x.id == id) = false := by simp [h1]
          by_cases h2 : x.frm = id
          · have d2 : (x.frm == id) = true := by simp [h2]
            have HW : Hid (woStep id y.frm x = [⟨x.id, x.thing, x.rights, x.badge, y.frm⟩]) := by show woStep _ _ _ = _; simp [woStep, h1, h2]
            clear h1 h2
            generalize hM : (l.take k).flatMap (woStep id y.frm) = M at hown hle
            have HM : Hid ((l.take k).flatMap (woStep id y.frm) = M) := hM
            clear hM
            go_wp2_with (at_builtin; refine wpList_append_own _ rfl _ _ 25 rfl w.heap.size 39 i0 (.agg #[.int .i64 0, .int .i64 0, .int .i64 0, .int .i64 0, .int .i64 0]) 5 40 Tryz.underlying25 hi hi0 hi1 hi2 rfl (by decide) _ _ _ rfl ((hown.alloc _).alloc _) _ 1 1 [.int .i64 x.id, .int .i64 x.thing, .int .i64 x.rights, .int .i64 x.badge, .int .i64 y.frm] rfl rfl (new5b _ _ _ _ _ _ _ _) (one5 _ _ _ _ _) ?c3 ?c4 ?c5 ?_)
            case c3 => unfold maxLen; omega
            case c4 => omega
            case c5 => have := hbl.size; simp; omega
            intro v' w2 hown2' hgrow _
            have bl2 := app5_below hbl hown hgrow
            have hown2 := row5_snoc (x := ⟨x.id, x.thing, x.rights, x.badge, y.frm⟩) hown2'
            clear hgrow hown2' hown
            rw [← HM.out, ← wo_snoc HX.out HW.out] at hown2
            go_wp2_with fail
            go_roundw
            case rel => exact ⟨k + 1, by omega, by go_num, hown2, bl2⟩
            case measure => simp [intOf]; omega

          · have d2 : (x.frm == id) = false := by simp [h2]
            have HW : Hid (woStep id y.frm x = [⟨x.id, x.thing, x.rights, x.badge, x.frm⟩]) := by show woStep _ _ _ = _; simp [woStep, h1, h2]
            clear h1 h2
            generalize hM : (l.take k).flatMap (woStep id y.frm) = M at hown hle
            have HM : Hid ((l.take k).flatMap (woStep id y.frm) = M) := hM
            clear hM
            go_wp2_with (at_builtin; refine wpList_append_own _ rfl _ _ 25 rfl w.heap.size 39 i0 (.agg #[.int .i64 0, .int .i64 0, .int .i64 0, .int .i64 0, .int .i64 0]) 5 40 Tryz.underlying25 hi hi0 hi1 hi2 rfl (by decide) _ _ _ rfl ((hown.alloc _).alloc _) _ 1 1 [.int .i64 x.id, .int .i64 x.thing, .int .i64 x.rights, .int .i64 x.badge, .int .i64 x.frm] rfl rfl (new5b _ _ _ _ _ _ _ _) (one5 _ _ _ _ _) ?c3 ?c4 ?c5 ?_)
            case c3 => unfold maxLen; omega
            case c4 => omega
            case c5 => have := hbl.size; simp; omega
            intro v' w2 hown2' hgrow _
            have bl2 := app5_below hbl hown hgrow
            have hown2 := row5_snoc (x := ⟨x.id, x.thing, x.rights, x.badge, x.frm⟩) hown2'
            clear hgrow hown2' hown
            rw [← HM.out, ← wo_snoc HX.out HW.out] at hown2
            go_wp2_with fail
            go_roundw
            case rel => exact ⟨k + 1, by omega, by go_num, hown2, bl2⟩
            case measure => simp [intOf]; omega

      · rw [List.take_of_length_le (by omega)] at hown
        rw [show l.flatMap (woStep id y.frm) = withoutL l id by unfold withoutL; rw [HF.out]] at hown
        clear hw
        go_wp2_with fail
        go_ret
        exact ⟨_, rfl, hown, hbl⟩
theorem without_any (a : Option Addr) (c : Nat) (l : List Wr) (id : Int) (w : World) (hw : WrsAt w a l) (hm : l.length ≤ 1000) :
    Calls Tryz.prog 75 #[.slice a l.length c, .int .i64 id] w
      fun e w' => ∃ v, e = .returned v ∧ w'.ownsRow w.heap.size 39 5 v (withoutL l id).length ((withoutL l id).flatMap wcells) ∧ Below w.heap.size w w' := by
  rcases hw with rfl | ⟨b, o, rfl, hb, hx⟩
  · go_enter Tryz.func75, Tryz.ntmps75
    go_wp2_with fail
    refine (find_any a c [] id _ (.inl rfl) (by simp)).mono ?_
    rintro e w1 ⟨rfl, hb1⟩
    have hf : find [] id = -1 := rfl
    go_wp2_with fail
    refine wp_loop_rounds 1 ?_
    rw [rounds_succ]
    go_wp2_with fail
    go_ret
    exact ⟨_, rfl, by simpa [withoutL] using World.ownsRow_nil _ _ _ _, hb1⟩
  · exact without_some b o c l id w hx hb hm
end Go.Proofs.YtddgpgldbekamaaGreat
