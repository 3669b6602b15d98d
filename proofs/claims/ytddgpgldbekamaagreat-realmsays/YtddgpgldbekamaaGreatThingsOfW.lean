/- ThingsOf: the walks alone (the plain part stands in AllPure). -/
import Derived.Test.YtddgpgldbekamaaGreatAllMore
import Derived.Test.YtddgpgldbekamaaGreatProg
import Derived.Test.YtddgpgldbekamaaGreatAllPure
import Derived.Test.YtddgpgldbekamaaGreatInfoW
set_option linter.unusedSimpArgs false
set_option linter.unusedVariables false
namespace Go.Proofs.YtddgpgldbekamaaGreat
open Go.RowKit Go.Sort

set_option maxHeartbeats 1000000 in
set_option maxRecDepth 100000 in
theorem thingsOf_row (a : Option Addr) (c : Nat) (l : List Wr) (w : World) (hw : WrsAt w a l) (hm : l.length ≤ 1000) :
    Calls Tryz.prog 87 #[.slice a l.length c] w
      fun e w' => ∃ v, e = .returned v ∧ w'.ownsRow w.heap.size 3 1 v (thUp l 999).length ((thUp l 999).flatMap icells) ∧ Below w.heap.size w w' := by
  obtain ⟨i0, hi, hi0, hi1, hi2⟩ := info_parts infoInt
  go_enter Tryz.func87, Tryz.ntmps87
  go_wp2_with fail
  go_loopw [3, 4] (fun v i wr => ∃ k : Nat, k ≤ 999 ∧ i = .int .i64 ((k : Int) + 1) ∧ wr.ownsRow w.heap.size 3 1 v (thUp l k).length ((thUp l k).flatMap icells) ∧ Below w.heap.size w wr)
    (fun _ i _ => 1000 - (intOf i).toNat)
  case atStart => exact ⟨0, Nat.zero_le _, rfl, by simpa [thUp] using World.ownsRow_nil _ _ _ _, Below.refl _ _⟩
  case round =>
    obtain ⟨k, hk, rfl, hown, hbl⟩ := hrel
    by_cases hlt : k < 999
    · have hle := thUp_len l k
      have HS : Hid (thUp l (k + 1) = thUp l k ++ thStep l k) := thUp_succ l k
      generalize hM : thUp l k = M at hown hle
      have HM : Hid (thUp l k = M) := hM
      clear hM
      generalize hvv : u3 = vv at hown ⊢
      clear hvv
      have d0 : decide ((k : Int) + 1 < 1000) = true := decide_eq_true (by omega)
      go_wp2_with fail
      go_loopw [3, 5] (fun v' j wr' => ∃ jj : Nat, jj ≤ l.length ∧ j = .int .i64 jj ∧ v' = vv ∧ wr' = wr ∧ Hid (∀ i x, i < jj → l[i]? = some x → ¬ x.thing = (k : Int) + 1)) (fun _ j _ => l.length - (intOf j).toNat)
      case atStart => exact ⟨0, Nat.zero_le _, rfl, by first | rfl | assumption | trivial, by first | rfl | trivial, (show Hid _ from fun i x h => by omega)⟩
      case round =>
        obtain ⟨jj, hjj, rfl, rfl, rfl, hno⟩ := hrel
        by_cases hlt2 : jj < l.length
        · obtain ⟨x, hx⟩ : ∃ x, l[jj]? = some x := ⟨l[jj], List.getElem?_eq_getElem hlt2⟩
          obtain ⟨b, o, rfl, hb, hww⟩ := hw.resolve_left (by rintro rfl; simp at hlt2)
          obtain ⟨q1, q2, q3, q4, q5⟩ := (hww jj x hx).below hbl hb
          have HX : Hid (l[jj]? = some x) := hx
          clear hx hw hww
          by_cases he : x.thing = (k : Int) + 1
          · have HT : Hid (thStep l k = [(k : Int) + 1]) := any_stop HX.out he
            have d1 : (x.thing == (k : Int) + 1) = true := by simp [he]
            clear he
            go_wp2_with (at_builtin; refine wpList_append_own _ rfl _ _ 119 rfl w.heap.size 3 i0 (.int .i64 0) 1 8 Tryz.underlying119 hi hi0 hi1 hi2 rfl (by decide) _ _ _ rfl (hown.alloc _) _ 1 1 [.int .i64 ((k : Int) + 1)] rfl rfl (new1 _ _ _) (one1 _) ?c3 ?c4 ?c5 ?_)
            case c3 => unfold maxLen; omega
            case c4 => omega
            case c5 => have := hbl.size; simp; omega
            intro v' w2 hown2' hgrow _
            have bl2 := app1_below hbl hown hgrow
            have hown2 := row1_snoc hown2'
            clear hgrow hown2' hown
            go_wp2_with fail
            go_roundw
            case rel => exact ⟨k + 1, by omega, by go_num, by rw [HS.out, HM.out, HT.out]; exact hown2, bl2⟩
            case measure => simp [intOf]; omega
          · have d1 : (x.thing == (k : Int) + 1) = false := by simp [he]
            have HN : Hid (∀ i y, i < jj + 1 → l[i]? = some y → ¬ y.thing = (k : Int) + 1) := by
              intro i y hi' hy
              by_cases e : i = jj
              · subst e; rw [HX.out] at hy; cases hy; exact he
              · exact hno.out i y (by omega) hy
            clear he
            go_wp2_with fail
            go_roundw
            case rel => exact ⟨jj + 1, by omega, by go_num, by first | rfl | trivial, by first | rfl | trivial, (show Hid _ from HN.out)⟩
            case measure => simp [intOf]; omega
        · have HT : Hid (thStep l k = []) := any_end hlt2 hno.out
          clear hw
          go_wp2_with fail
          go_roundw
          case rel => exact ⟨k + 1, by omega, by go_num, by rw [HS.out, HM.out, HT.out, List.append_nil]; exact hown, hbl⟩
          case measure => simp [intOf]; omega
    · obtain rfl : k = 999 := by omega
      clear hw
      go_wp2_with fail
      go_ret
      exact ⟨_, rfl, hown, hbl⟩
theorem thingsOf_any (a : Option Addr) (c : Nat) (l : List Wr) (w : World) (hw : WrsAt w a l) (hm : l.length ≤ 1000) :
    Calls Tryz.prog 87 #[.slice a l.length c] w
      fun e w' => ∃ a' c', e = .returned (.slice a' (thUp l 999).length c') ∧ IntsAt w' a' (thUp l 999) ∧ (∀ b o, a' = some ⟨b, o, none⟩ → b < w'.heap.size) ∧ Below w.heap.size w w' := by
  refine (thingsOf_row a c l w hw hm).mono ?_
  rintro e w1 ⟨v, rfl, hrow, hbl⟩
  obtain ⟨a', c', rfl, hat, hlt⟩ := ints_of_row hrow
  exact ⟨a', c', rfl, hat, hlt, hbl⟩
end Go.Proofs.YtddgpgldbekamaaGreat
