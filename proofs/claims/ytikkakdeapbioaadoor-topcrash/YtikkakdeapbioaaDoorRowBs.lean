/- cmp.Compare at strings, row.apply's closure, slices.BinarySearchFunc as row.apply calls it. -/
import Derived.Test.YtikkakdeapbioaaDoorKeyOrd
import Derived.Test.YtikkakdeapbioaaDoorRowDel
import Derived.Shelf.Abstract
set_option linter.unusedSimpArgs false
set_option linter.unnecessarySimpa false
set_option linter.unusedVariables false
namespace Go.Proofs.YtikkakdeapbioaaDoor
open Go.RowKit

theorem nan_any (a : ByteArray) (w : World) : Calls Tryd.prog 87 #[.string a] w fun e w' => e = .returned (.bool false) ∧ w' = w := by
  go_enter Tryd.func87, Tryd.ntmps87
  go_wp2_with fail
  go_ret
  exact ⟨by simp, rfl⟩
/-- how two strings compare -/
def cmI (a b : List UInt8) : Int := if Op.bytesLess a b then -1 else if a == b then 0 else 1
set_option maxHeartbeats 1000000 in
set_option maxRecDepth 100000 in
theorem cmp_any (a b : ByteArray) (w : World) : Calls Tryd.prog 70 #[.string a, .string b] w fun e w' => e = .returned (.int .i64 (cmI a.toList b.toList)) ∧ w' = w := by
  have h1 := fun W => nan_any a W
  have h2 := fun W => nan_any b W
  cases hl : Op.bytesLess a.toList b.toList
  · cases he : a.toList == b.toList
    · have HC : Hid (cmI a.toList b.toList = 1) := by show _ = _; unfold cmI; rw [hl, he]; rfl
      go_enter Tryd.func70, Tryd.ntmps70
      go_wp2_with fail
      refine (h1 _).mono ?_
      rintro e w1 ⟨rfl, rfl⟩
      go_wp2_with fail
      refine (h2 _).mono ?_
      rintro e w2 ⟨rfl, rfl⟩
      go_wp2_with fail
      go_ret
      exact ⟨by rw [HC.out]; rfl, rfl⟩
    · have HC : Hid (cmI a.toList b.toList = 0) := by show _ = _; unfold cmI; rw [hl, he]; rfl
      go_enter Tryd.func70, Tryd.ntmps70
      go_wp2_with fail
      refine (h1 _).mono ?_
      rintro e w1 ⟨rfl, rfl⟩
      go_wp2_with fail
      refine (h2 _).mono ?_
      rintro e w2 ⟨rfl, rfl⟩
      go_wp2_with fail
      go_ret
      exact ⟨by rw [HC.out]; rfl, rfl⟩
  · have HC : Hid (cmI a.toList b.toList = -1) := by show _ = _; unfold cmI; rw [hl]; rfl
    go_enter Tryd.func70, Tryd.ntmps70
    go_wp2_with fail
    refine (h1 _).mono ?_
    rintro e w1 ⟨rfl, rfl⟩
    go_wp2_with fail
    refine (h2 _).mono ?_
    rintro e w2 ⟨rfl, rfl⟩
    go_wp2_with fail
    go_ret
    exact ⟨by rw [HC.out]; rfl, rfl⟩
set_option maxRecDepth 100000 in
theorem clo_any (x : Ch) (t : ByteArray) (w : World) : Calls Tryd.prog 69 #[.agg #[.string x.key, .string x.val, .bool x.gone], .string t] w fun e w' => e = .returned (.int .i64 (cmI (kl x) t.toList)) ∧ Below w.heap.size w w' := by
  have hc := fun W => cmp_any x.key t W
  have bl := (Below.refl w.heap.size w).alloc (Nat.le_refl _) (.cells #[.string x.key, .string x.val, .bool x.gone] 61)
  go_enter Tryd.func69, Tryd.ntmps69
  go_wp2_with fail
  refine (hc _).mono ?_
  rintro e w1 ⟨rfl, rfl⟩
  go_wp2_with fail
  go_ret
  exact ⟨rfl, bl⟩
theorem cm_neg {a b : List UInt8} (h : Op.bytesLess a b = true) : cmI a b = -1 := by unfold cmI; rw [h]; rfl
theorem cm_nn {a b : List UInt8} (h : Op.bytesLess a b = false) : 0 ≤ cmI a b ∧ cmI a b ≤ 1 := by unfold cmI; rw [h]; simp only [Bool.false_eq_true, if_false]; split <;> decide
theorem cm_zero {a b : List UInt8} (h : Op.bytesLess a b = false) : (cmI a b == 0) = (a == b) := by unfold cmI; rw [h]; simp only [Bool.false_eq_true, if_false]; cases a == b <;> rfl
/-- the closure, as the library calls it -/
def CloV : Value := .func (.func 69) #[] #[]
theorem eg_clo : ∀ args w, (callFunc 69 args).run Tryd.prog w = .ok (.enter 69 args) w := by
  intro args w
  simp [callFunc, Tryd.func69]
  rfl
set_option maxHeartbeats 2000000 in
set_option maxRecDepth 100000 in
theorem bs_any (a : Option Addr) (c : Nat) (l : List Ch) (t : ByteArray) (w : World) (hl : ChsAt w a l) (hr : Ris l) (hm : l.length ≤ 1000) :
    Calls Tryd.prog 68 #[.slice a l.length c, .string t, .func (.func 69) #[] #[]] w fun e w' => e = .returned (.tuple #[.int .i64 (bsI t.toList l : Int), .bool (fdB l t.toList (bsI t.toList l))]) ∧ Below w.heap.size w w' := by
  have HR : Hid (Ris l) := hr
  have eg := eg_clo
  clear hr
  go_enter Tryd.func68, Tryd.ntmps68
  go_wp2_with fail
  go_loopw [9, 10, 11] (fun i j _ wr => ∃ lo hi : Nat, lo ≤ hi ∧ hi ≤ l.length ∧ i = .int .i64 (lo : Int) ∧ j = .int .i64 (hi : Int) ∧ Hid (∀ k x, k < lo → l[k]? = some x → Op.bytesLess (kl x) t.toList = true) ∧ Hid (∀ k x, hi ≤ k → l[k]? = some x → Op.bytesLess (kl x) t.toList = false) ∧ Below w.heap.size w wr) (fun i j _ _ => (intOf j - intOf i).toNat)
  case atStart => exact ⟨0, l.length, Nat.zero_le _, Nat.le_refl _, rfl, rfl, (fun k x hk => absurd hk (Nat.not_lt_zero _)), (fun k x hk hx => by have := (List.getElem?_eq_some_iff.1 hx).1; omega), Below.refl _ _⟩
  case round =>
    obtain ⟨lo, hi, h1, h2, rfl, rfl, HLO, HHI, hbl⟩ := hrel
    by_cases hlt : lo < hi
    · have dlt : decide ((lo : Int) < (hi : Int)) = true := decide_eq_true (by omega)
      obtain ⟨b, o, rfl, hb, hww⟩ := (hl.below hbl).resolve_left (by rintro e; rw [e] at h2; simp at h2; omega)
      have hm1 : lo ≤ (lo + hi) / 2 ∧ (lo + hi) / 2 < hi := by omega
      obtain ⟨x, hx⟩ : ∃ x, l[(lo + hi) / 2]? = some x := ⟨l[(lo + hi) / 2], List.getElem?_eq_getElem (by omega)⟩
      obtain ⟨⟨q0, q1, q2⟩, z0, z1⟩ := hww ((lo + hi) / 2) x hx
      have HX : Hid (l[(lo + hi) / 2]? = some x) := hx
      have hcall := clo_any x t wr
      clear hww hx
      cases hq : Op.bytesLess (kl x) t.toList with
      | true =>
        rw [cm_neg hq] at hcall
        have HN : Hid (∀ k y, k < (lo + hi) / 2 + 1 → l[k]? = some y → Op.bytesLess (kl y) t.toList = true) := BsAt.up HR.out HX.out HLO.out hq
        clear hq
        go_wp2_with (go_at_fn 69; refine hcall.mono ?_; rintro e w1 ⟨rfl, hb1⟩)
        go_roundw
        case rel => exact ⟨(lo + hi) / 2 + 1, hi, by omega, h2, by go_num, rfl, HN, HHI, Below_after hbl hb1⟩
        case measure => simp [intOf]; omega
      | false =>
        obtain ⟨cn1, cn2⟩ := cm_nn hq
        have HN : Hid (∀ k y, (lo + hi) / 2 ≤ k → l[k]? = some y → Op.bytesLess (kl y) t.toList = false) := BsAt.down HR.out HX.out hq
        have dn : decide (cmI (kl x) t.toList < 0) = false := decide_eq_false (by omega)
        clear hq
        generalize cmI (kl x) t.toList = cv at *
        go_wp2_with (go_at_fn 69; refine hcall.mono ?_; rintro e w1 ⟨rfl, hb1⟩)
        go_roundw
        case rel => exact ⟨lo, (lo + hi) / 2, hm1.1, by omega, rfl, by go_num, HLO, HN, Below_after hbl hb1⟩
        case measure => simp [intOf]; omega
    · have dlt : decide ((lo : Int) < (hi : Int)) = false := decide_eq_false (by omega)
      obtain rfl : lo = hi := by omega
      have HB : Hid (bsI t.toList l = lo) := (bs_at HR.out).uniq ⟨h2, HLO.out, HHI.out⟩
      by_cases hend : lo < l.length
      · have d2 : decide ((lo : Int) < (l.length : Int)) = true := decide_eq_true (by omega)
        obtain ⟨b, o, rfl, hb, hww⟩ := (hl.below hbl).resolve_left (by rintro e; rw [e] at hend; simp at hend)
        obtain ⟨x, hx⟩ : ∃ x, l[lo]? = some x := ⟨l[lo], List.getElem?_eq_getElem hend⟩
        obtain ⟨⟨q0, q1, q2⟩, z0, z1⟩ := hww lo x hx
        have hcall := clo_any x t wr
        have hq := HHI.out lo x (Nat.le_refl _) hx
        have hz := cm_zero hq
        have HFD : Hid (fdB l t.toList lo = (kl x == t.toList)) := by show _ = _; unfold fdB; rw [hx]
        clear hww hx hq
        generalize cmI (kl x) t.toList = cv at *
        go_wp2_with (go_at_fn 69; refine hcall.mono ?_; rintro e w1 ⟨rfl, hb1⟩)
        go_ret2
        exact ⟨by rw [HB.out, HFD.out]; rfl, Below_after hbl hb1⟩
      · have d2 : decide ((lo : Int) < (l.length : Int)) = false := decide_eq_false (by omega)
        have HFD : Hid (fdB l t.toList lo = false) := by show _ = _; unfold fdB; rw [List.getElem?_eq_none (by omega)]
        go_wp2_with fail
        go_ret2
        exact ⟨by rw [HB.out, HFD.out]; rfl, hbl⟩
end Go.Proofs.YtikkakdeapbioaaDoor
