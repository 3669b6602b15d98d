/- Shelf: the walks alone (the plain part stands in AllPure). -/
/- The walk of shelf.Where. -/
import Derived.Test.YtddgpgldbekamaaGreatProg
import Derived.Test.YtddgpgldbekamaaGreatAllPure
set_option linter.unusedSimpArgs false
set_option linter.unusedVariables false
namespace Go.Proofs.YtddgpgldbekamaaGreat
open Go.RowKit

theorem scheck_ok (h s : Int) (w : World) (hp : plOk h s) :
    Calls Tryz.prog 23 #[.agg #[.int .i64 h, .int .i64 s]] w fun e w' => e = .returned .nilIface ∧ Below w.heap.size w w' := by
  have H : Hid (plOk h s) := hp
  clear hp
  go_enter Tryz.func23, Tryz.ntmps23
  go_wp2
  all_goals first
    | (exfalso; have hp := H.out; unfold plOk at hp; omega)
    | (go_ret; exact ⟨rfl, (Below.refl _ _).alloc (Nat.le_refl _) _⟩)
theorem scheck_bad (h s : Int) (w : World) (hp : ¬ plOk h s) :
    Calls Tryz.prog 23 #[.agg #[.int .i64 h, .int .i64 s]] w fun e w' => e = .returned (.iface 69 (.int .i64 1)) ∧ Below w.heap.size w w' := by
  have H : Hid (¬ plOk h s) := hp
  clear hp
  go_enter Tryz.func23, Tryz.ntmps23
  go_wp2
  all_goals first
    | (exfalso; have hp := H.out; unfold plOk at hp; omega)
    | (go_ret; exact ⟨rfl, (Below.refl _ _).alloc (Nat.le_refl _) _⟩)
theorem before_any (a b c d : Int) (w : World) :
    Calls Tryz.prog 71 #[.agg #[.int .i64 a, .int .i64 b], .agg #[.int .i64 c, .int .i64 d]] w fun e w' => e = .returned (.bool (befB a b c d)) ∧ Below w.heap.size w w' := by
  by_cases h : a = c
  · have d1 : (a != c) = false := by simp [h]
    have H : Hid (a = c) := h
    clear h
    go_enter Tryz.func71, Tryz.ntmps71
    go_wp2
    go_ret
    exact ⟨retBool (by unfold befB; rw [if_pos H.out]), ((Below.refl _ _).alloc (Nat.le_refl _) _).alloc (by simp) _⟩
  · have d1 : (a != c) = true := by simp [h]
    have H : Hid (¬ a = c) := h
    clear h
    go_enter Tryz.func71, Tryz.ntmps71
    go_wp2
    go_ret
    exact ⟨retBool (by unfold befB; rw [if_neg H.out]), ((Below.refl _ _).alloc (Nat.le_refl _) _).alloc (by simp) _⟩
theorem isAt_any (x : Hd) (b0 : Nat) (h s : Int) (w : World) (hc0 : w.cell? ⟨b0, 0, none⟩ = some (.int .i64 h)) (hc1 : w.cell? ⟨b0, 1, none⟩ = some (.int .i64 s)) (hlt : b0 < w.heap.size) :
    Calls Tryz.prog 66 #[.agg #[.int .i64 x.holder, .int .i64 x.slot, .int .i64 x.writ], .pointer (some ⟨b0, 0, none⟩)] w fun e w' => e = .returned (.bool (isAt h s x)) ∧ Below w.heap.size w w' := by
  go_enter Tryz.func66, Tryz.ntmps66
  go_wp2
  all_goals
    go_ret
    exact ⟨retBool (by rw [Bool.eq_iff_iff]; simp [isAt, *]), (Below.refl _ _).alloc (Nat.le_refl _) _⟩
theorem indexAt_some (b o c b0 : Nat) (l : List Hd) (h s : Int) (w : World) (hw : ∀ j x, l[j]? = some x → HdAt w b (o + j * 3) x) (hb : b < w.heap.size) (hc0 : w.cell? ⟨b0, 0, none⟩ = some (.int .i64 h)) (hc1 : w.cell? ⟨b0, 1, none⟩ = some (.int .i64 s)) (hlt : b0 < w.heap.size) (hm : l.length ≤ maxLen) :
    Calls Tryz.prog 65 #[.slice (some ⟨b, o, none⟩) l.length c, .func (.func 66) #[] #[.pointer (some ⟨b0, 0, none⟩)]] w fun e w' => e = .returned (.int .i64 (idx (isAt h s) l)) ∧ Below w.heap.size w w' := by
  unfold maxLen at hm
  go_enter Tryz.func65, Tryz.ntmps65
  go_wp2
  go_loopw [8] (fun i wr => ∃ k : Nat, k ≤ l.length ∧ i = .int .i64 k ∧ Hid (idxFrom (isAt h s) (l.drop k) k = idx (isAt h s) l) ∧ Below w.heap.size w wr) (fun i _ => l.length - (intOf i).toNat)
  case atStart => exact ⟨0, Nat.zero_le _, rfl, show Hid _ from rfl, Below.refl _ _⟩
  case round =>
    obtain ⟨k, hk, rfl, hn, hbl⟩ := hrel
    by_cases hlt' : k < l.length
    · obtain ⟨x, hx⟩ : ∃ x, l[k]? = some x := ⟨l[k], List.getElem?_eq_getElem hlt'⟩
      obtain ⟨q1, q2, q3⟩ := (hw k x hx).below hbl hb
      have c0 : wr.cell? ⟨b0, 0, none⟩ = some (.int .i64 h) := by rw [(bcell hbl).1 _ _ hlt]; exact hc0
      have c1 : wr.cell? ⟨b0, 1, none⟩ = some (.int .i64 s) := by rw [(bcell hbl).1 _ _ hlt]; exact hc1
      have hz : b0 < wr.heap.size := Nat.lt_of_lt_of_le hlt hbl.size
      have HX : Hid (l[k]? = some x) := hx
      clear hw hx hc0 hc1
      go_wp2_with fail
      refine (isAt_any x b0 h s wr c0 c1 hz).mono ?_
      rintro e w1 ⟨rfl, hb1⟩
      have bl1 : Below w.heap.size w w1 := Below_after hbl hb1
      go_wp2_with fail
      · have := idx_yes HX.out ‹_› hn.out
        go_ret
        exact ⟨retInt this.symm, bl1⟩
      · go_roundw
        case rel => exact ⟨k + 1, by omega, by go_num, show Hid _ from idx_no HX.out ‹_› hn.out, bl1⟩
        case measure => simp [intOf]; omega
    · have HF : Hid (idx (isAt h s) l = -1) := idx_end hlt' hn.out
      clear hw
      go_wp2
      go_ret
      exact ⟨retInt HF.out.symm, hbl⟩
theorem indexAt (a : Option Addr) (c b0 : Nat) (l : List Hd) (h s : Int) (w : World) (hw : HdsAt w a l) (hc0 : w.cell? ⟨b0, 0, none⟩ = some (.int .i64 h)) (hc1 : w.cell? ⟨b0, 1, none⟩ = some (.int .i64 s)) (hlt : b0 < w.heap.size) (hm : l.length ≤ maxLen) :
    Calls Tryz.prog 65 #[.slice a l.length c, .func (.func 66) #[] #[.pointer (some ⟨b0, 0, none⟩)]] w fun e w' => e = .returned (.int .i64 (idx (isAt h s) l)) ∧ Below w.heap.size w w' := by
  rcases hw with rfl | ⟨b, o, rfl, hb, hx⟩
  · clear hm
    go_enter Tryz.func65, Tryz.ntmps65
    go_wp2
    refine wp_loop_rounds 1 ?_
    rw [rounds_succ]
    go_wp2
    go_ret
    exact ⟨rfl, Below.refl _ _⟩
  · exact indexAt_some b o c b0 l h s w hx hb hc0 hc1 hlt hm
theorem at_any (a : Option Addr) (c : Nat) (l : List Hd) (h s : Int) (w : World) (hw : HdsAt w a l) (hm : l.length ≤ maxLen) :
    Calls Tryz.prog 25 #[.slice a l.length c, .agg #[.int .i64 h, .int .i64 s]] w fun e w' => e = .returned (.int .i64 (atP l h s)) ∧ Below w.heap.size w w' := by
  have hmf : ∀ (fn : Fn) (first cap : Array Value) (w : World), (Instr.makeFunc fn first cap).run Tryz.prog w = .ok (.func fn first cap) w := fun _ _ _ _ => rfl
  have hbl0 : Below w.heap.size w (w.alloc (.cells #[.int .i64 h, .int .i64 s] 33)) := (Below.refl _ _).alloc (Nat.le_refl _) _
  rcases idx_cases (isAt h s) l with ⟨h1, h2⟩ | ⟨j, x, h1, h2, h3, h4⟩
  · have H : Hid (atP l h s = 0) := by show atP l h s = 0; unfold atP; rw [h2]
    clear h2
    go_enter Tryz.func25, Tryz.ntmps25
    go_wp2_with fail
    refine (indexAt a c w.heap.size l h s _ (hw.below hbl0) (by simp) (by simp) (by simp) hm).mono ?_
    rintro e w1 ⟨rfl, hb1⟩
    have bl1 : Below w.heap.size w w1 := Below_after hbl0 hb1
    clear hb1
    go_wp2_with fail
    go_ret
    exact ⟨retInt H.out.symm, bl1⟩
  · have H : Hid (atP l h s = x.writ) := by show atP l h s = x.writ; unfold atP; rw [h4]
    clear h3 h4
    have hjl : j < l.length := (List.getElem?_eq_some_iff.1 h2).1
    rcases hw with rfl | ⟨b, o, rfl, hb, hx⟩
    · simp at h2
    · have HX : Hid (l[j]? = some x) := h2
      clear h2
      unfold maxLen at hm
      go_enter Tryz.func25, Tryz.ntmps25
      go_wp2_with fail
      refine (indexAt (some ⟨b, o, none⟩) c w.heap.size l h s _ (HdsAt.below hbl0 (.inr ⟨b, o, rfl, hb, hx⟩)) (by simp) (by simp) (by simp) (by unfold maxLen; omega)).mono ?_
      rintro e w1 ⟨rfl, hb1⟩
      have bl1 : Below w.heap.size w w1 := Below_after hbl0 hb1
      obtain ⟨q1, q2, q3⟩ := (hx j x HX.out).below bl1 hb
      clear hb1 hx
      go_wp2_with fail
      go_ret
      exact ⟨retInt H.out.symm, bl1⟩
theorem free_any (a : Option Addr) (c : Nat) (l : List Hd) (h : Int) (w : World) (hw : HdsAt w a l) (hm : l.length ≤ maxLen) :
    Calls Tryz.prog 34 #[.slice a l.length c, .int .i64 h] w fun e w' => e = .returned (.int .i64 (freeP l h)) ∧ Below w.heap.size w w' := by
  go_enter Tryz.func34, Tryz.ntmps34
  go_wp2
  go_loopw [6] (fun i wr => ∃ k : Nat, k ≤ 6 ∧ i = .int .i64 k ∧ Hid (freeFrom l h (6 - k) k = freeP l h) ∧ Below w.heap.size w wr) (fun i _ => 6 - (intOf i).toNat)
  case atStart => exact ⟨0, by omega, rfl, show Hid _ from rfl, Below.refl _ _⟩
  case round =>
    obtain ⟨k, hk, rfl, hn, hbl⟩ := hrel
    by_cases hlt' : k < 6
    · go_wp2_with fail
      refine (at_any a c l h k _ (hw.below hbl) hm).mono ?_
      rintro e w1 ⟨rfl, hb1⟩
      have bl1 : Below w.heap.size w w1 := Below_after hbl hb1
      go_wp2_with fail
      · have := free_yes hlt' (by simpa using ‹(atP l h k == 0) = true›) hn.out
        go_ret
        exact ⟨retInt this.symm, bl1⟩
      · go_roundw
        case rel => exact ⟨k + 1, by omega, by go_num, show Hid _ from free_no hlt' (by simpa using ‹(atP l h k == 0) = false›) hn.out, bl1⟩
        case measure => simp [intOf]; omega
    · have HF : Hid (freeP l h = -1) := free_end hk hlt' hn.out
      go_wp2
      go_ret
      exact ⟨retInt HF.out.symm, hbl⟩
end Go.Proofs.YtddgpgldbekamaaGreat
