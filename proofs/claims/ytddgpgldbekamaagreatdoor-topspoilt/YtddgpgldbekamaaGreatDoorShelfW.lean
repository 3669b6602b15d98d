/- Shelf: the walks alone (the plain part stands in AllPure). -/
/- The walk of shelf.Where. -/
import Derived.Test.YtddgpgldbekamaaGreatDoorProg
import Derived.Test.YtddgpgldbekamaaGreatDoorAllPure
set_option linter.unusedSimpArgs false
set_option linter.unusedVariables false
namespace Go.Proofs.YtddgpgldbekamaaGreatDoor
open Go.RowKit

theorem scheck_ok (h s : Int) (w : World) (hp : plOk h s) :
    Calls Tryz.prog 102 #[.agg #[.int .i64 h, .int .i64 s]] w fun e w' => e = .returned .nilIface ∧ Below w.heap.size w w' := by
  have H : Hid (plOk h s) := hp
  clear hp
  go_enter Tryz.func102, Tryz.ntmps102
  go_wp2
  all_goals first
    | (exfalso; have hp := H.out; unfold plOk at hp; omega)
    | (go_ret; exact ⟨rfl, (Below.refl _ _).alloc (Nat.le_refl _) _⟩)
theorem scheck_bad (h s : Int) (w : World) (hp : ¬ plOk h s) :
    Calls Tryz.prog 102 #[.agg #[.int .i64 h, .int .i64 s]] w fun e w' => e = .returned (.iface 82 (.int .i64 1)) ∧ Below w.heap.size w w' := by
  have H : Hid (¬ plOk h s) := hp
  clear hp
  go_enter Tryz.func102, Tryz.ntmps102
  go_wp2
  all_goals first
    | (exfalso; have hp := H.out; unfold plOk at hp; omega)
    | (go_ret; exact ⟨rfl, (Below.refl _ _).alloc (Nat.le_refl _) _⟩)
theorem before_any (a b c d : Int) (w : World) :
    Calls Tryz.prog 123 #[.agg #[.int .i64 a, .int .i64 b], .agg #[.int .i64 c, .int .i64 d]] w fun e w' => e = .returned (.bool (befB a b c d)) ∧ Below w.heap.size w w' := by
  by_cases h : a = c
  · have d1 : (a != c) = false := by simp [h]
    have H : Hid (a = c) := h
    clear h
    go_enter Tryz.func123, Tryz.ntmps123
    go_wp2
    go_ret
    exact ⟨retBool (by unfold befB; rw [if_pos H.out]), ((Below.refl _ _).alloc (Nat.le_refl _) _).alloc (by simp) _⟩
  · have d1 : (a != c) = true := by simp [h]
    have H : Hid (¬ a = c) := h
    clear h
    go_enter Tryz.func123, Tryz.ntmps123
    go_wp2
    go_ret
    exact ⟨retBool (by unfold befB; rw [if_neg H.out]), ((Below.refl _ _).alloc (Nat.le_refl _) _).alloc (by simp) _⟩
theorem isAt_any (x : Hd) (b0 : Nat) (h s : Int) (w : World) (hc0 : w.cell? ⟨b0, 0, none⟩ = some (.int .i64 h)) (hc1 : w.cell? ⟨b0, 1, none⟩ = some (.int .i64 s)) (hlt : b0 < w.heap.size) :
    Calls Tryz.prog 144 #[.agg #[.int .i64 x.holder, .int .i64 x.slot, .int .i64 x.writ], .pointer (some ⟨b0, 0, none⟩)] w fun e w' => e = .returned (.bool (isAt h s x)) ∧ Below w.heap.size w w' := by
  go_enter Tryz.func144, Tryz.ntmps144
  go_wp2
  all_goals
    go_ret
    exact ⟨retBool (by rw [Bool.eq_iff_iff]; simp [isAt, *]), (Below.refl _ _).alloc (Nat.le_refl _) _⟩
theorem indexAt_some (b o c b0 : Nat) (l : List Hd) (h s : Int) (w : World) (hw : ∀ j x, l[j]? = some x → HdAt w b (o + j * 3) x) (hb : b < w.heap.size) (hc0 : w.cell? ⟨b0, 0, none⟩ = some (.int .i64 h)) (hc1 : w.cell? ⟨b0, 1, none⟩ = some (.int .i64 s)) (hlt : b0 < w.heap.size) (hm : l.length ≤ maxLen) :
    Calls Tryz.prog 143 #[.slice (some ⟨b, o, none⟩) l.length c, .func (.func 144) #[] #[.pointer (some ⟨b0, 0, none⟩)]] w fun e w' => e = .returned (.int .i64 (idx (isAt h s) l)) ∧ Below w.heap.size w w' := by
  unfold maxLen at hm
  go_enter Tryz.func143, Tryz.ntmps143
  go_wp2
  go_loopw [8] (fun i wr => ∃ k : Nat, k ≤ l.length ∧ i = .int .i64 k ∧ Hid (idxFrom (isAt h s) (l.drop k) k = idx (isAt h s) l) ∧ Below w.heap.size w wr) (fun i _ => l.length - (intOf i).toNat)
  case atStart => exact ⟨0, Nat.zero_le _, rfl, show Hid _ from rfl, Below.refl _ _⟩
  case round =>
    obtain ⟨k, hk, rfl, hn, hbl⟩ := hrel
    by_cases hlt' : k < l.length
    · obtain ⟨x, hx⟩ : ∃ x, l[k]? = some x := ⟨l[k], List.getElem?_eq_getElem hlt'⟩
      obtain ⟨q1, q2, q3⟩ := (hw k x hx).below hbl hb
      have c0 : wr.cell? ⟨b0, 0, none⟩ = some (.int .i64 h) := by rw [(bcell hbl).1 _ _ hlt]; exact hc0
      have c1 : wr.cell? ⟨b0, 1, none⟩ = some (.int .i64 s) := by rw [(bcell hbl).1 _ _ hlt]; exact hc1
      have hz : b0 < wr.heap.size := Nat.lt_of_lt_of_le hlt hbl.size
      have HX : Hid (l[k]? = some x) := hx
      clear hw hx hc0 hc1
      go_wp2_with fail
      refine (isAt_any x b0 h s wr c0 c1 hz).mono ?_
      rintro e w1 ⟨rfl, hb1⟩
      have bl1 : Below w.heap.size w w1 := Below_after hbl hb1
      go_wp2_with fail
      · have := idx_yes HX.out ‹_› hn.out
        go_ret
        exact ⟨retInt this.symm, bl1⟩
      · go_roundw
        case rel => exact ⟨k + 1, by omega, by go_num, show Hid _ from idx_no HX.out ‹_› hn.out, bl1⟩
        case measure => simp [intOf]; omega
    · have HF : Hid (idx (isAt h s) l = -1) := idx_end hlt' hn.out
      clear hw
      go_wp2
      go_ret
      exact ⟨retInt HF.out.symm, hbl⟩
theorem indexAt (a : Option Addr) (c b0 : Nat) (l : List Hd) (h s : Int) (w : World) (hw : HdsAt w a l) (hc0 : w.cell? ⟨b0, 0, none⟩ = some (.int .i64 h)) (hc1 : w.cell? ⟨b0, 1, none⟩ = some (.int .i64 s)) (hlt : b0 < w.heap.size) (hm : l.length ≤ maxLen) :
    Calls Tryz.prog 143 #[.slice a l.length c, .func (.func 144) #[] #[.pointer (some ⟨b0, 0, none⟩)]] w fun e w' => e = .returned (.int .i64 (idx (isAt h s) l)) ∧ Below w.heap.size w w' := by
  rcases hw with rfl | ⟨b, o, rfl, hb, hx⟩
  · clear hm
    go_enter Tryz.func143, Tryz.ntmps143
    go_wp2
    refine wp_loop_rounds 1 ?_
    rw [rounds_succ]
    go_wp2
    go_ret
    exact ⟨rfl, Below.refl _ _⟩
  · exact indexAt_some b o c b0 l h s w hx hb hc0 hc1 hlt hm
theorem at_any (a : Option Addr) (c : Nat) (l : List Hd) (h s : Int) (w : World) (hw : HdsAt w a l) (hm : l.length ≤ maxLen) :
    Calls Tryz.prog 104 #[.slice a l.length c, .agg #[.int .i64 h, .int .i64 s]] w fun e w' => e = .returned (.int .i64 (atP l h s)) ∧ Below w.heap.size w w' := by
  have hmf : ∀ (fn : Fn) (first cap : Array Value) (w : World), (Instr.makeFunc fn first cap).run Tryz.prog w = .ok (.func fn first cap) w := fun _ _ _ _ => rfl
  have hbl0 : Below w.heap.size w (w.alloc (.cells #[.int .i64 h, .int .i64 s] 39)) := (Below.refl _ _).alloc (Nat.le_refl _) _
  rcases idx_cases (isAt h s) l with ⟨h1, h2⟩ | ⟨j, x, h1, h2, h3, h4⟩
  · have H : Hid (atP l h s = 0) := by show atP l h s = 0; unfold atP; rw [h2]
    clear h2
    go_enter Tryz.func104, Tryz.ntmps104
    go_wp2_with fail
    refine (indexAt a c w.heap.size l h s _ (hw.below hbl0) (by simp) (by simp) (by simp) hm).mono ?_
    rintro e w1 ⟨rfl, hb1⟩
    have bl1 : Below w.heap.size w w1 := Below_after hbl0 hb1
    clear hb1
    go_wp2_with fail
    go_ret
    exact ⟨retInt H.out.symm, bl1⟩
  · have H : Hid (atP l h s = x.writ) := by show atP l h s = x.writ; unfold atP; rw [h4]
    clear h3 h4
    have hjl : j < l.length := (List.getElem?_eq_some_iff.1 h2).1
    rcases hw with rfl | ⟨b, o, rfl, hb, hx⟩
    · simp at h2
    · have HX : Hid (l[j]? = some x) := h2
      clear h2
      unfold maxLen at hm
      go_enter Tryz.func104, Tryz.ntmps104
      go_wp2_with fail
      refine (indexAt (some ⟨b, o, none⟩) c w.heap.size l h s _ (HdsAt.below hbl0 (.inr ⟨b, o, rfl, hb, hx⟩)) (by simp) (by simp) (by simp) (by unfold maxLen; omega)).mono ?_
      rintro e w1 ⟨rfl, hb1⟩
      have bl1 : Below w.heap.size w w1 := Below_after hbl0 hb1
      obtain ⟨q1, q2, q3⟩ := (hx j x HX.out).below bl1 hb
      clear hb1 hx
      go_wp2_with fail
      go_ret
      exact ⟨retInt H.out.symm, bl1⟩
theorem free_any (a : Option Addr) (c : Nat) (l : List Hd) (h : Int) (w : World) (hw : HdsAt w a l) (hm : l.length ≤ maxLen) :
    Calls Tryz.prog 80 #[.slice a l.length c, .int .i64 h] w fun e w' => e = .returned (.int .i64 (freeP l h)) ∧ Below w.heap.size w w' := by
  go_enter Tryz.func80, Tryz.ntmps80
  go_wp2
  go_loopw [6] (fun i wr => ∃ k : Nat, k ≤ 6 ∧ i = .int .i64 k ∧ Hid (freeFrom l h (6 - k) k = freeP l h) ∧ Below w.heap.size w wr) (fun i _ => 6 - (intOf i).toNat)
  case atStart => exact ⟨0, by omega, rfl, show Hid _ from rfl, Below.refl _ _⟩
  case round =>
    obtain ⟨k, hk, rfl, hn, hbl⟩ := hrel
    by_cases hlt' : k < 6
    · go_wp2_with fail
      refine (at_any a c l h k _ (hw.below hbl) hm).mono ?_
      rintro e w1 ⟨rfl, hb1⟩
      have bl1 : Below w.heap.size w w1 := Below_after hbl hb1
      go_wp2_with fail
      · have := free_yes hlt' (by simpa using ‹(atP l h k == 0) = true›) hn.out
        go_ret
        exact ⟨retInt this.symm, bl1⟩
      · go_roundw
        case rel => exact ⟨k + 1, by omega, by go_num, show Hid _ from free_no hlt' (by simpa using ‹(atP l h k == 0) = false›) hn.out, bl1⟩
        case measure => simp [intOf]; omega
    · have HF : Hid (freeP l h = -1) := free_end hk hlt' hn.out
      go_wp2
      go_ret
      exact ⟨retInt HF.out.symm, hbl⟩
end Go.Proofs.YtddgpgldbekamaaGreatDoor
set_option linter.unusedSimpArgs false
set_option linter.unusedVariables false
namespace Go.Proofs.YtddgpgldbekamaaGreatDoor
open Go.RowKit

/-- is it this writ? -/
def isW (id : Int) (x : Hd) : Bool := x.writ == id
theorem isW_any (x : Hd) (b0 : Nat) (id : Int) (w : World) (hc0 : w.cell? ⟨b0, 0, none⟩ = some (.int .i64 id)) (hlt : b0 < w.heap.size) :
    Calls Tryz.prog 163 #[.agg #[.int .i64 x.holder, .int .i64 x.slot, .int .i64 x.writ], .pointer (some ⟨b0, 0, none⟩)] w fun e w' => e = .returned (.bool (isW id x)) ∧ Below w.heap.size w w' := by
  go_enter Tryz.func163, Tryz.ntmps163
  go_wp2
  go_ret
  exact ⟨rfl, (Below.refl _ _).alloc (Nat.le_refl _) _⟩

theorem indexW_some (b o c b0 : Nat) (l : List Hd) (id : Int) (w : World) (hw : ∀ j x, l[j]? = some x → HdAt w b (o + j * 3) x) (hb : b < w.heap.size) (hc0 : w.cell? ⟨b0, 0, none⟩ = some (.int .i64 id)) (hlt : b0 < w.heap.size) (hm : l.length ≤ maxLen) :
    Calls Tryz.prog 143 #[.slice (some ⟨b, o, none⟩) l.length c, .func (.func 163) #[] #[.pointer (some ⟨b0, 0, none⟩)]] w fun e w' => e = .returned (.int .i64 (idx (isW id) l)) ∧ Below w.heap.size w w' := by
  unfold maxLen at hm
  go_enter Tryz.func143, Tryz.ntmps143
  go_wp2
  go_loopw [8] (fun i wr => ∃ k : Nat, k ≤ l.length ∧ i = .int .i64 k ∧ Hid (idxFrom (isW id) (l.drop k) k = idx (isW id) l) ∧ Below w.heap.size w wr) (fun i _ => l.length - (intOf i).toNat)
  case atStart => exact ⟨0, Nat.zero_le _, rfl, show Hid _ from rfl, Below.refl _ _⟩
  case round =>
    obtain ⟨k, hk, rfl, hn, hbl⟩ := hrel
    by_cases hlt' : k < l.length
    · obtain ⟨x, hx⟩ : ∃ x, l[k]? = some x := ⟨l[k], List.getElem?_eq_getElem hlt'⟩
      obtain ⟨q1, q2, q3⟩ := (hw k x hx).below hbl hb
      have c0 : wr.cell? ⟨b0, 0, none⟩ = some (.int .i64 id) := by rw [(bcell hbl).1 _ _ hlt]; exact hc0
      have hz : b0 < wr.heap.size := Nat.lt_of_lt_of_le hlt hbl.size
      have HX : Hid (l[k]? = some x) := hx
      clear hw hx hc0
      go_wp2_with fail
      refine (isW_any x b0 id wr c0 hz).mono ?_
      rintro e w1 ⟨rfl, hb1⟩
      have bl1 : Below w.heap.size w w1 := Below_after hbl hb1
      go_wp2_with fail
      · have := idx_yes HX.out ‹_› hn.out
        go_ret
        exact ⟨retInt this.symm, bl1⟩
      · go_roundw
        case rel => exact ⟨k + 1, by omega, by go_num, show Hid _ from idx_no HX.out ‹_› hn.out, bl1⟩
        case measure => simp [intOf]; omega
    · have HF : Hid (idx (isW id) l = -1) := idx_end hlt' hn.out
      clear hw
      go_wp2
      go_ret
      exact ⟨retInt HF.out.symm, hbl⟩
theorem indexW (a : Option Addr) (c b0 : Nat) (l : List Hd) (id : Int) (w : World) (hw : HdsAt w a l) (hc0 : w.cell? ⟨b0, 0, none⟩ = some (.int .i64 id)) (hlt : b0 < w.heap.size) (hm : l.length ≤ maxLen) :
    Calls Tryz.prog 143 #[.slice a l.length c, .func (.func 163) #[] #[.pointer (some ⟨b0, 0, none⟩)]] w fun e w' => e = .returned (.int .i64 (idx (isW id) l)) ∧ Below w.heap.size w w' := by
  rcases hw with rfl | ⟨b, o, rfl, hb, hx⟩
  · clear hm
    go_enter Tryz.func143, Tryz.ntmps143
    go_wp2
    refine wp_loop_rounds 1 ?_
    rw [rounds_succ]
    go_wp2
    go_ret
    exact ⟨rfl, Below.refl _ _⟩
  · exact indexW_some b o c b0 l id w hx hb hc0 hlt hm


theorem where_no (a : Option Addr) (c : Nat) (l : List Hd) (id : Int) (w : World) (hw : HdsAt w a l) (hm : l.length ≤ 100) (h1 : idx (isW id) l = -1) :
    Calls Tryz.prog 136 #[.slice a l.length c, .int .i64 id] w fun e w' => e = .returned (.tuple #[.agg #[.int .i64 0, .int .i64 0], .bool false]) ∧ Below w.heap.size w w' := by
  have hmf : ∀ (fn : Fn) (first cap : Array Value) (w : World), (Instr.makeFunc fn first cap).run Tryz.prog w = .ok (.func fn first cap) w := fun _ _ _ _ => rfl
  have hbl0 : Below w.heap.size w ((w.alloc (.cells #[.int .i64 id] 3)).alloc (.cells #[.int .i64 0, .int .i64 0] 39)) := ((Below.refl _ _).alloc (Nat.le_refl _) _).alloc (by simp) _
  go_enter Tryz.func136, Tryz.ntmps136
  go_wp2_with fail
  refine (indexW a c w.heap.size l id _ (hw.below hbl0) (by simp) (by simp; omega) (by unfold maxLen; omega)).mono ?_
  rintro e w1 ⟨rfl, hb1⟩
  have bl1 : Below w.heap.size w w1 := Below_after hbl0 hb1
  obtain ⟨hc1, hf1⟩ := bcell hb1
  have hz : w.heap.size + 1 < w1.heap.size := by have := hb1.size; simp at this; omega
  clear hb1
  go_wp2_with fail
  refine bodyPost_ret (v := .tuple #[.agg #[.int .i64 0, .int .i64 0], .bool false]) (by simp [results, Tryz.results136, go_sem, hc1]) rfl ⟨rfl, ?_⟩
  repeat (first | exact bl1 | refine Below.setCell ?_ (by simp) _)
theorem where_yes (a : Option Addr) (c : Nat) (l : List Hd) (id : Int) (w : World) (hw : HdsAt w a l) (hm : l.length ≤ 100) (j : Nat) (x : Hd) (h1 : idx (isW id) l = (j : Int)) (hx : l[j]? = some x) :
    Calls Tryz.prog 136 #[.slice a l.length c, .int .i64 id] w fun e w' => e = .returned (.tuple #[.agg #[.int .i64 x.holder, .int .i64 x.slot], .bool true]) ∧ Below w.heap.size w w' := by
  have hmf : ∀ (fn : Fn) (first cap : Array Value) (w : World), (Instr.makeFunc fn first cap).run Tryz.prog w = .ok (.func fn first cap) w := fun _ _ _ _ => rfl
  have hbl0 : Below w.heap.size w ((w.alloc (.cells #[.int .i64 id] 3)).alloc (.cells #[.int .i64 0, .int .i64 0] 39)) := ((Below.refl _ _).alloc (Nat.le_refl _) _).alloc (by simp) _
  have hjl : j < l.length := (List.getElem?_eq_some_iff.1 hx).1
  rcases hw with rfl | ⟨b, o, rfl, hb, hxs⟩
  · simp at hx
  · have HX : Hid (l[j]? = some x) := hx
    clear hx
    go_enter Tryz.func136, Tryz.ntmps136
    go_wp2_with fail
    refine (indexW (some ⟨b, o, none⟩) c w.heap.size l id _ (HdsAt.below hbl0 (.inr ⟨b, o, rfl, hb, hxs⟩)) (by simp) (by simp; omega) (by unfold maxLen; omega)).mono ?_
    rintro e w1 ⟨rfl, hb1⟩
    have bl1 : Below w.heap.size w w1 := Below_after hbl0 hb1
    obtain ⟨q1, q2, q3⟩ := (hxs j x HX.out).below bl1 hb
    obtain ⟨hc1, hf1⟩ := bcell hb1
    have hz : w.heap.size + 1 < w1.heap.size := by have := hb1.size; simp at this; omega
    clear hb1 hxs
    go_wp2_with fail
    refine bodyPost_ret (v := .tuple #[.agg #[.int .i64 x.holder, .int .i64 x.slot], .bool true]) (by simp [results, Tryz.results136, go_sem, hc1]) rfl ⟨rfl, ?_⟩
    repeat (first | exact bl1 | refine Below.setCell ?_ (by simp) _)
theorem where_none {l : List Hd} {id : Int} (h : ∀ x ∈ l, x.writ ≠ id) : idx (isW id) l = -1 := by
  rcases idx_cases (isW id) l with ⟨h1, _⟩ | ⟨j, x, _, h2, h3, _⟩
  · exact h1
  · exact absurd (by simpa [isW] using h3) (h x (List.mem_of_getElem? h2))
end Go.Proofs.YtddgpgldbekamaaGreatDoor
