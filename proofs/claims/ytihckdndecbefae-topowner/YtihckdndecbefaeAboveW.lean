/- Above: the walks alone (the plain part stands in AllPure). -/
import Derived.Test.YtihckdndecbefaeProg
import Derived.Test.YtihckdndecbefaeAllPure
import Derived.Test.YtihckdndecbefaeFindW
import Derived.Test.YtihckdndecbefaeInfoW
set_option linter.unusedSimpArgs false
set_option linter.unusedVariables false
namespace Go.Proofs.Ytihckdndecbefae
open Go.RowKit

set_option maxHeartbeats 1000000 in
theorem above_some (b o c : Nat) (l : List Wr) (id : Int) (w : World) (hw : ∀ j x, l[j]? = some x → WrAt w b (o + j * 5) x) (hb : b < w.heap.size) (hm : l.length ≤ 1000) (hcap : l.length ≤ c) (hc63 : c ≤ maxLen) :
    Calls Try.prog 14 #[.slice (some ⟨b, o, none⟩) l.length c, .int .i64 id] w
      fun e w' => ∃ v, e = .returned v ∧ w'.ownsRow w.heap.size 3 1 v (aboveL l id).length ((aboveL l id).flatMap icells) ∧ Below w.heap.size w w' := by
  obtain ⟨i0, hi, hi0, hi1, hi2⟩ := info_parts infoInt
  unfold maxLen at hc63
  go_enter Try.func14, Try.ntmps14
  go_wp2_with fail
  refine (find_any (some ⟨b, o, none⟩) c l id _ (.inr ⟨b, o, rfl, hb, hw⟩) (by omega)).mono ?_
  rintro e w1 ⟨rfl, hb1⟩
  have hfd := find_bd l id
  go_wp2_with fail
  go_loopw [5, 6] (fun v i wr => ∃ (a : Int) (n : Nat) (out : List Int), -1 ≤ a ∧ a < n ∧ n ≤ l.length ∧ i = .int .i64 a ∧ out.length + n ≤ l.length ∧ wr.ownsRow w.heap.size 3 1 v out.length (out.flatMap icells) ∧ Hid (out ++ abv l n a = aboveL l id) ∧ Below w.heap.size w wr)
    (fun _ i _ => ((intOf i) + 1).toNat)
  case atStart => exact ⟨find l id, l.length, [], hfd.1, hfd.2, Nat.le_refl _, rfl, by simp, by simpa using World.ownsRow_nil _ _ _ _, (show Hid _ from rfl), hb1⟩
  case round =>
    obtain ⟨a, n, out, ha1, han, hnl, rfl, hlen, hown, hab, hbl⟩ := hrel
    by_cases hneg : a < 0
    · have hd : decide (0 ≤ a) = false := decide_eq_false (by omega)
      have HF : Hid (out = aboveL l id) := by have := hab.out; rw [abv_neg l n hneg] at this; show out = _; simpa using this
      clear hw hab
      go_wp2_with fail
      go_ret
      exact ⟨_, rfl, by rw [← HF.out]; exact hown, hbl⟩
    · obtain ⟨k, rfl⟩ : ∃ k : Nat, a = (k : Int) := ⟨a.toNat, by omega⟩
      have hkl : k < l.length := by omega
      obtain ⟨x, hx⟩ : ∃ x, l[k]? = some x := ⟨l[k], List.getElem?_eq_getElem hkl⟩
      obtain ⟨q1, q2, q3, q4, q5⟩ := (hw k x hx).below hbl hb
      have HX : Hid (l[k]? = some x) := hx
      have hbz : b < wr.heap.size := Nat.lt_of_lt_of_le hb hbl.size
      clear hx hneg
      by_cases hf : x.frm = 0
      · have d1 : (x.frm != 0) = false := by simp [hf]
        have HF : Hid (out = aboveL l id) := by have := hab.out; rw [abv_zero HX.out hf] at this; show out = _; simpa using this
        clear hw hab hf
        go_wp2_with fail
        go_ret
        exact ⟨_, rfl, by rw [← HF.out]; exact hown, hbl⟩
      · have d1 : (x.frm != 0) = true := by simp [hf]
        obtain ⟨n', rfl⟩ : ∃ n', n = n' + 1 := ⟨n - 1, by omega⟩
        have HF : Hid (out ++ x.frm :: abv l n' (find (l.take k) x.frm) = aboveL l id) := by have := hab.out; rw [abv_step HX.out hf] at this; exact this
        clear hab hf
        go_wp2_with (at_builtin; refine wpList_append_own _ rfl _ _ 45 rfl w.heap.size 3 i0 (.int .i64 0) 1 8 Try.underlying45 hi hi0 hi1 hi2 rfl (by decide) _ _ _ rfl (hown.alloc _) _ 1 1 [.int .i64 x.frm] rfl rfl (new1 _ _ _) (one1 _) ?c3 ?c4 ?c5 ?_)
        case c3 => unfold maxLen; omega
        case c4 => omega
        case c5 => have := hbl.size; simp; omega
        intro v' w2 hown2' hgrow _
        have bl2 := app1_below hbl hown hgrow
        have hown2 := row1_snoc hown2'
        clear hgrow hown2' hown
        go_wp2_with fail
        have hkt : (l.take k).length = k := by simp; omega
        have hfk := find_any (some ⟨b, o, none⟩) c (l.take k) x.frm w2 (WrsTake (Nat.lt_of_lt_of_le hb bl2.size) (fun j y hy => (hw j y hy).below bl2 hb) k) (by omega)
        rw [hkt] at hfk
        have hfb := find_bd (l.take k) x.frm
        rw [hkt] at hfb
        refine hfk.mono ?_
        rintro e w3 ⟨rfl, hb3⟩
        have bl3 : Below w.heap.size w w3 := Below_after bl2 hb3
        have hown3 := ownsRow_after hown2 hb3
        clear hw hfk hb3 hown2
        go_wp2_with fail
        go_roundw
        case rel => exact ⟨find (l.take k) x.frm, n', out ++ [x.frm], hfb.1, by omega, by omega, rfl, by simp; omega, hown3, (show Hid _ from by have := HF.out; show out ++ [x.frm] ++ _ = _; simpa using this), bl3⟩
        case measure => simp [intOf]; omega
theorem above_any (a : Option Addr) (c : Nat) (l : List Wr) (id : Int) (w : World) (hw : WrsAt w a l) (hm : l.length ≤ 1000) (hcap : l.length ≤ c) (hc63 : c ≤ maxLen) :
    Calls Try.prog 14 #[.slice a l.length c, .int .i64 id] w
      fun e w' => ∃ a' c', e = .returned (.slice a' (aboveL l id).length c') ∧ IntsAt w' a' (aboveL l id) ∧ (∀ b o, a' = some ⟨b, o, none⟩ → b < w'.heap.size) ∧ Below w.heap.size w w' := by
  rcases hw with rfl | ⟨b, o, rfl, hb, hx⟩
  · go_enter Try.func14, Try.ntmps14
    go_wp2_with fail
    refine (find_any a c [] id _ (.inl rfl) (by simp)).mono ?_
    rintro e w1 ⟨rfl, hb1⟩
    have hf : find [] id = -1 := rfl
    go_wp2_with fail
    refine wp_loop_rounds 1 ?_
    rw [rounds_succ]
    go_wp2_with fail
    go_ret
    exact ⟨none, 0, rfl, .inl rfl, (fun b o e => by cases e), hb1⟩
  · refine (above_some b o c l id w hx hb hm hcap hc63).mono ?_
    rintro e w1 ⟨v, rfl, hrow, hbl⟩
    obtain ⟨a', c', rfl, hat, hlt⟩ := ints_of_row hrow
    exact ⟨a', c', rfl, hat, hlt, hbl⟩
end Go.Proofs.Ytihckdndecbefae
