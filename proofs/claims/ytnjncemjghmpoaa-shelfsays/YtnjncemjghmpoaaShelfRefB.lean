/- PutAt over every slice, and the walk of shelf.Where. -/
import Derived.Test.YtnjncemjghmpoaaShelfRef
namespace Go.Proofs.Ytnjncemjghmpoaa
open Go.RowKit

theorem putAt_nil (a : Option Addr) (c : Nat) (h s id : Int) (w : World) :
    Calls Try.prog 46 #[.slice a 0 c, .agg #[.int .i64 h, .int .i64 s], .int .i64 id] w
      fun e w' => ∃ v, e = .returned v ∧ w'.ownsRow (w.heap.size + 1) 66 3 v (putL [] h s id).length ((putL [] h s id).flatMap hcells) ∧ Below w.heap.size w w' := by
  obtain ⟨i0, hi, hi0, hi1, hi2⟩ := info_parts infoHeld
  by_cases hid : id = 0
  · subst hid
    go_enter Try.func46, Try.ntmps46
    go_wp2
    refine wp_loop_rounds 1 ?_
    rw [rounds_succ]
    go_wp2
    go_ret
    exact ⟨_, rfl, by simpa [putL, putM] using World.ownsRow_nil _ _ _ _, (Below.refl _ _).alloc (Nat.le_refl _) _⟩
  · have d1 : (id == 0) = false := by simp [hid]
    have HI : Hid (¬ id = 0) := hid
    clear hid
    go_enter Try.func46, Try.ntmps46
    go_wp2
    have q0 : (w.alloc (.cells #[.int .i64 h, .int .i64 s] 56)).cell? ⟨w.heap.size, 0, none⟩ = some (.int .i64 h) := by simp
    have q1 : (w.alloc (.cells #[.int .i64 h, .int .i64 s] 56)).cell? ⟨w.heap.size, 1, none⟩ = some (.int .i64 s) := by simp
    have hbl0 : Below w.heap.size w (w.alloc (.cells #[.int .i64 h, .int .i64 s] 56)) := (Below.refl _ _).alloc (Nat.le_refl _) _
    have hsz0 : (w.alloc (.cells #[.int .i64 h, .int .i64 s] 56)).heap.size = w.heap.size + 1 := by simp
    generalize w.alloc (.cells #[.int .i64 h, .int .i64 s] 56) = w0 at *
    have HS : Hid (w0.heap.size = w.heap.size + 1) := hsz0
    have hwz : w.heap.size < w0.heap.size := by omega
    clear hsz0
    have hown : w0.ownsRow w0.heap.size 66 3 (.slice none 0 0) 0 [] := World.ownsRow_nil _ _ _ _
    refine wp_loop_rounds 1 ?_
    rw [rounds_succ]
    go_wp2_with (at_builtin; refine wpList_append_own _ rfl _ _ 54 rfl w0.heap.size 66 i0 (.agg #[.int .i64 0, .int .i64 0, .int .i64 0]) 3 24 Try.underlying54 hi hi0 hi1 hi2 rfl (by decide) _ _ _ rfl (hown.alloc _) _ 1 1 [.int .i64 h, .int .i64 s, .int .i64 id] rfl rfl (new3 _ _ _ _ _) (one3 _ _ _) ?c3 ?c4 ?c5 ?_)
    case c3 => unfold maxLen; omega
    case c4 => omega
    case c5 => simp
    intro v' w2 hown2 hgrow _
    have blM := app_below (Below.refl _ _) hown hgrow
    have hownM : w2.ownsRow w0.heap.size 66 3 v' (putL [] h s id).length ((putL [] h s id).flatMap hcells) := by
      have := row_snoc (l := []) (x := ⟨h, s, id⟩) hown2
      unfold putL putM; rw [if_neg HI.out]; simpa using this
    clear hown2 hgrow hown q0 q1
    go_wp2_with fail
    go_ret
    exact ⟨_, rfl, by rw [← HS.out]; exact hownM, hbl0.trans (blM.mono (by omega))⟩
theorem putAt_any (a : Option Addr) (c : Nat) (l : List Hd) (h s id : Int) (w : World) (hw : HdsAt w a l) (hm : l.length ≤ 100) (hg : Good l) :
    Calls Try.prog 46 #[.slice a l.length c, .agg #[.int .i64 h, .int .i64 s], .int .i64 id] w
      fun e w' => ∃ a' c', e = .returned (.slice a' (putL l h s id).length c') ∧ HdsAt w' a' (putL l h s id) ∧ Below w.heap.size w w' := by
  rcases hw with rfl | ⟨b, o, rfl, hb, hx⟩
  · refine (putAt_nil a c h s id w).mono ?_
    rintro e w1 ⟨v, rfl, hrow, hbl⟩
    obtain ⟨a', c', rfl, hat⟩ := hds_of_row hrow
    exact ⟨a', c', rfl, hat, hbl⟩
  · refine (putAt_some b o c l h s id w hx hb hm).mono ?_
    rintro e w1 ⟨v, rfl, hrow, hbl⟩
    rw [pa_putL h s id l (good_rise hg)] at hrow
    obtain ⟨a', c', rfl, hat⟩ := hds_of_row hrow
    exact ⟨a', c', rfl, hat, hbl⟩

/-- is it this writ? -/
def isW (id : Int) (x : Hd) : Bool := x.writ == id
theorem isW_any (x : Hd) (b0 : Nat) (id : Int) (w : World) (hc0 : w.cell? ⟨b0, 0, none⟩ = some (.int .i64 id)) (hlt : b0 < w.heap.size) :
    Calls Try.prog 57 #[.agg #[.int .i64 x.holder, .int .i64 x.slot, .int .i64 x.writ], .pointer (some ⟨b0, 0, none⟩)] w fun e w' => e = .returned (.bool (isW id x)) ∧ Below w.heap.size w w' := by
  go_enter Try.func57, Try.ntmps57
  go_wp2
  go_ret
  exact ⟨rfl, (Below.refl _ _).alloc (Nat.le_refl _) _⟩

theorem indexW_some (b o c b0 : Nat) (l : List Hd) (id : Int) (w : World) (hw : ∀ j x, l[j]? = some x → HdAt w b (o + j * 3) x) (hb : b < w.heap.size) (hc0 : w.cell? ⟨b0, 0, none⟩ = some (.int .i64 id)) (hlt : b0 < w.heap.size) (hm : l.length ≤ maxLen) :
    Calls Try.prog 55 #[.slice (some ⟨b, o, none⟩) l.length c, .func (.func 57) #[] #[.pointer (some ⟨b0, 0, none⟩)]] w fun e w' => e = .returned (.int .i64 (idx (isW id) l)) ∧ Below w.heap.size w w' := by
  unfold maxLen at hm
  go_enter Try.func55, Try.ntmps55
  go_wp2
  go_loopw [8] (fun i wr => ∃ k : Nat, k ≤ l.length ∧ i = .int .i64 k ∧ Hid (idxFrom (isW id) (l.drop k) k = idx (isW id) l) ∧ Below w.heap.size w wr) (fun i _ => l.length - (intOf i).toNat)
  case atStart => exact ⟨0, Nat.zero_le _, rfl, show Hid _ from rfl, Below.refl _ _⟩
  case round =>
    obtain ⟨k, hk, rfl, hn, hbl⟩ := hrel
    by_cases hlt' : k < l.length
    · obtain ⟨x, hx⟩ : ∃ x, l[k]? = some x := ⟨l[k], List.getElem?_eq_getElem hlt'⟩
      obtain ⟨q1, q2, q3⟩ := (hw k x hx).below hbl hb
      have c0 : wr.cell? ⟨b0, 0, none⟩ = some (.int .i64 id) := by rw [(bcell hbl).1 _ _ hlt]; exact hc0
      have hz : b0 < wr.heap.size := Nat.lt_of_lt_of_le hlt hbl.size
      have HX : Hid (l[k]? = some x) := hx
      clear hw hx hc0
      go_wp2_with fail
      refine (isW_any x b0 id wr c0 hz).mono ?_
      rintro e w1 ⟨rfl, hb1⟩
      have bl1 : Below w.heap.size w w1 := Below_after hbl hb1
      go_wp2_with fail
      · have := idx_yes HX.out ‹_› hn.out
        go_ret
        exact ⟨retInt this.symm, bl1⟩
      · go_roundw
        case rel => exact ⟨k + 1, by omega, by go_num, show Hid _ from idx_no HX.out ‹_› hn.out, bl1⟩
        case measure => simp [intOf]; omega
    · have HF : Hid (idx (isW id) l = -1) := idx_end hlt' hn.out
      clear hw
      go_wp2
      go_ret
      exact ⟨retInt HF.out.symm, hbl⟩
theorem indexW (a : Option Addr) (c b0 : Nat) (l : List Hd) (id : Int) (w : World) (hw : HdsAt w a l) (hc0 : w.cell? ⟨b0, 0, none⟩ = some (.int .i64 id)) (hlt : b0 < w.heap.size) (hm : l.length ≤ maxLen) :
    Calls Try.prog 55 #[.slice a l.length c, .func (.func 57) #[] #[.pointer (some ⟨b0, 0, none⟩)]] w fun e w' => e = .returned (.int .i64 (idx (isW id) l)) ∧ Below w.heap.size w w' := by
  rcases hw with rfl | ⟨b, o, rfl, hb, hx⟩
  · clear hm
    go_enter Try.func55, Try.ntmps55
    go_wp2
    refine wp_loop_rounds 1 ?_
    rw [rounds_succ]
    go_wp2
    go_ret
    exact ⟨rfl, Below.refl _ _⟩
  · exact indexW_some b o c b0 l id w hx hb hc0 hlt hm


theorem where_no (a : Option Addr) (c : Nat) (l : List Hd) (id : Int) (w : World) (hw : HdsAt w a l) (hm : l.length ≤ 100) (h1 : idx (isW id) l = -1) :
    Calls Try.prog 44 #[.slice a l.length c, .int .i64 id] w fun e w' => e = .returned (.tuple #[.agg #[.int .i64 0, .int .i64 0], .bool false]) ∧ Below w.heap.size w w' := by
  have hmf : ∀ (fn : Fn) (first cap : Array Value) (w : World), (Instr.makeFunc fn first cap).run Try.prog w = .ok (.func fn first cap) w := fun _ _ _ _ => rfl
  have hbl0 : Below w.heap.size w ((w.alloc (.cells #[.int .i64 id] 3)).alloc (.cells #[.int .i64 0, .int .i64 0] 56)) := ((Below.refl _ _).alloc (Nat.le_refl _) _).alloc (by simp) _
  go_enter Try.func44, Try.ntmps44
  go_wp2_with fail
  refine (indexW a c w.heap.size l id _ (hw.below hbl0) (by simp) (by simp; omega) (by unfold maxLen; omega)).mono ?_
  rintro e w1 ⟨rfl, hb1⟩
  have bl1 : Below w.heap.size w w1 := Below_after hbl0 hb1
  obtain ⟨hc1, hf1⟩ := bcell hb1
  have hz : w.heap.size + 1 < w1.heap.size := by have := hb1.size; simp at this; omega
  clear hb1
  go_wp2_with fail
  refine bodyPost_ret (v := .tuple #[.agg #[.int .i64 0, .int .i64 0], .bool false]) (by simp [results, Try.results44, go_sem, hc1]) rfl ⟨rfl, ?_⟩
  repeat (first | exact bl1 | refine Below.setCell ?_ (by simp) _)
theorem where_yes (a : Option Addr) (c : Nat) (l : List Hd) (id : Int) (w : World) (hw : HdsAt w a l) (hm : l.length ≤ 100) (j : Nat) (x : Hd) (h1 : idx (isW id) l = (j : Int)) (hx : l[j]? = some x) :
    Calls Try.prog 44 #[.slice a l.length c, .int .i64 id] w fun e w' => e = .returned (.tuple #[.agg #[.int .i64 x.holder, .int .i64 x.slot], .bool true]) ∧ Below w.heap.size w w' := by
  have hmf : ∀ (fn : Fn) (first cap : Array Value) (w : World), (Instr.makeFunc fn first cap).run Try.prog w = .ok (.func fn first cap) w := fun _ _ _ _ => rfl
  have hbl0 : Below w.heap.size w ((w.alloc (.cells #[.int .i64 id] 3)).alloc (.cells #[.int .i64 0, .int .i64 0] 56)) := ((Below.refl _ _).alloc (Nat.le_refl _) _).alloc (by simp) _
  have hjl : j < l.length := (List.getElem?_eq_some_iff.1 hx).1
  rcases hw with rfl | ⟨b, o, rfl, hb, hxs⟩
  · simp at hx
  · have HX : Hid (l[j]? = some x) := hx
    clear hx
    go_enter Try.func44, Try.ntmps44
    go_wp2_with fail
    refine (indexW (some ⟨b, o, none⟩) c w.heap.size l id _ (HdsAt.below hbl0 (.inr ⟨b, o, rfl, hb, hxs⟩)) (by simp) (by simp; omega) (by unfold maxLen; omega)).mono ?_
    rintro e w1 ⟨rfl, hb1⟩
    have bl1 : Below w.heap.size w w1 := Below_after hbl0 hb1
    obtain ⟨q1, q2, q3⟩ := (hxs j x HX.out).below bl1 hb
    obtain ⟨hc1, hf1⟩ := bcell hb1
    have hz : w.heap.size + 1 < w1.heap.size := by have := hb1.size; simp at this; omega
    clear hb1 hxs
    go_wp2_with fail
    refine bodyPost_ret (v := .tuple #[.agg #[.int .i64 x.holder, .int .i64 x.slot], .bool true]) (by simp [results, Try.results44, go_sem, hc1]) rfl ⟨rfl, ?_⟩
    repeat (first | exact bl1 | refine Below.setCell ?_ (by simp) _)
end Go.Proofs.Ytnjncemjghmpoaa
