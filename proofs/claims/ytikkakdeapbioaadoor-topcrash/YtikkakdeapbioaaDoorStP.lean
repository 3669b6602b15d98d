/- store: Commit. -/
/- store: Open, Format. -/
import Derived.Test.YtikkakdeapbioaaDoorStO
import Derived.Test.YtikkakdeapbioaaDoorRowApp
set_option linter.unusedVariables false
set_option linter.unusedSimpArgs false
set_option linter.unnecessarySimpa false
namespace Go.Proofs.YtikkakdeapbioaaDoor
open Go.RowKit

/-- behind a checkpoint, if there is no room -/
def roomR (x : Sto) (l : List Ch) : Sto := if l.length + 1 ≤ x.lg.many - x.lg.used then x else ckR x
def roomC (x : Sto) (l : List Ch) : Int := if l.length + 1 ≤ x.lg.many - x.lg.used then 0 else ckC x
def addC (x : Sto) (l : List Ch) : Int := (addR x.d x.lg l).2.2
def addS (x : Sto) (l rows : List Ch) : Sto := ⟨(addR x.d x.lg l).1, x.h, (addR x.d x.lg l).2.1, if (addR x.d x.lg l).2.2 = 0 then rows else x.rows⟩
def cmC (x : Sto) (l : List Ch) : Int :=
  if 62 < l.length then 2 else if chksC l ≠ 0 then chksC l else if 60 < (apL x.rows l).length ∨ x.lg.many < l.length + 1 then 9 else if roomC x l ≠ 0 then roomC x l else addC (roomR x l) l
def cmR (x : Sto) (l : List Ch) : Sto :=
  if 62 < l.length then x else if chksC l ≠ 0 then x else if 60 < (apL x.rows l).length ∨ x.lg.many < l.length + 1 then x else if roomC x l ≠ 0 then roomR x l else addS (roomR x l) l (apL x.rows l)
set_option maxHeartbeats 4000000 in
set_option maxRecDepth 100000 in
theorem cm_many (w : World) (B : Nat → Prop) (s p q : Nat) (x : Sto) (h : StoO w B s p q x) (hb : StB x) (a2 : Option Addr) (c2 : Nat) (l : List Ch) (hl : ChsB (FF B q s) w a2 l) (hm : l.length ≤ maxLen) (h62 : 62 < l.length) :
    Calls Tryd.prog 11 #[.pointer (some ⟨s, 0, none⟩), .slice a2 l.length c2] w fun e w' => e = .returned (errV 2) ∧ Below w.heap.size w w' := by
  unfold maxLen at hm
  have d1 : decide ((62 : Int) < (l.length : Int)) = true := decide_eq_true (by omega)
  go_enter Tryd.func11, Tryd.ntmps11
  go_wp2_with fail
  go_ret
  exact ⟨rfl, Below.refl _ _⟩
set_option maxHeartbeats 4000000 in
set_option maxRecDepth 100000 in
theorem cm_bad (w : World) (B : Nat → Prop) (s p q : Nat) (x : Sto) (h : StoO w B s p q x) (hb : StB x) (a2 : Option Addr) (c2 : Nat) (l : List Ch) (hl : ChsB (FF B q s) w a2 l) (hm : l.length ≤ maxLen) (h62 : l.length ≤ 62) (hz : chksC l ≠ 0) :
    Calls Tryd.prog 11 #[.pointer (some ⟨s, 0, none⟩), .slice a2 l.length c2] w fun e w' => e = .returned (errV (chksC l)) ∧ Below w.heap.size w w' := by
  have hat := hl.at_
  have hcl := fun (c : Ch) W (h1 : c.key.size ≤ maxLen) (h2 : c.val.size ≤ maxLen) => check_any c W h1 h2
  go_enter Tryd.func11, Tryd.ntmps11
  go_wp2_with fail
  go_loopw [17] (fun i wr => ∃ k : Nat, k ≤ l.length ∧ i = .int .i64 k ∧ Hid (chksC (l.drop k) = chksC l) ∧ Below w.heap.size w wr) (fun i _ => l.length - (intOf i).toNat)
  case atStart => exact ⟨0, Nat.zero_le _, rfl, show Hid _ from rfl, Below.refl _ _⟩
  case round =>
    obtain ⟨k, hk, rfl, hck, bl⟩ := hrel
    by_cases hlt : k < l.length
    · have hx : l[k]? = some l[k] := List.getElem?_eq_getElem hlt
      have hcd := chks_drop hx
      rw [hck.out] at hcd
      rcases hat with h0 | ⟨b, o, rfl, hbl, hc⟩
      · rw [h0] at hlt; simp at hlt
      have hcx := (hc k _ hx).below bl hbl
      generalize hxx : l[k] = y at *
      obtain ⟨⟨q0, q1, q2⟩, hz1, hz2⟩ := hcx
      have hbb : b < wr.heap.size := Nat.lt_of_lt_of_le hbl bl.size
      have hcc := fun W => hcl y W hz1 hz2
      have HD : Hid (chksC l = if chkC y = 0 then chksC (l.drop (k + 1)) else chkC y) := hcd
      clear hc hbl hxx hx hcd hcl
      have bA := (Below.refl wr.heap.size wr).alloc (Nat.le_refl _) (.cells #[.string y.key, .string y.val, .bool y.gone] 61)
      by_cases hy : chkC y = 0
      · rw [hy, errV_zero] at hcc
        have HE : Hid (chksC (l.drop (k + 1)) = chksC l) := by have := HD.out; rw [if_pos hy] at this; exact this.symm
        clear HD hy hck
        go_wp2_with fail
        refine (hcc _).mono ?_
        rintro e w1 ⟨rfl, hb1⟩
        go_wp2_with fail
        go_roundw
        case rel => exact ⟨k + 1, by omega, by go_num, HE, Below_after bl (Below_after bA hb1)⟩
        case measure => simp [intOf]; omega
      · rw [errV_pos hy] at hcc
        have HE : Hid (chksC l = chkC y) := by have := HD.out; rw [if_neg hy] at this; exact this
        have HN : Hid (chkC y ≠ 0) := hy
        clear HD hy hck hz
        generalize hq : chkC y = C at *
        clear hq
        go_wp2_with fail
        refine (hcc _).mono ?_
        rintro e w1 ⟨rfl, hb1⟩
        go_wp2_with fail
        go_ret
        exact ⟨by rw [HE.out, errV_pos HN.out]; rfl, Below_after bl (Below_after bA hb1)⟩
    · exfalso
      have := hck.out
      rw [show k = l.length by omega, List.drop_length] at this
      exact hz this.symm
set_option maxHeartbeats 4000000 in
set_option maxRecDepth 100000 in
theorem cm_full (w : World) (B : Nat → Prop) (s p q : Nat) (x : Sto) (h : StoO w B s p q x) (hb : StB x) (a2 : Option Addr) (c2 : Nat) (l : List Ch) (hl : ChsB (FF B q s) w a2 l) (hm : l.length ≤ maxLen) (h62 : l.length ≤ 62) (hz : chksC l = 0) (hf : 60 < (apL x.rows l).length ∨ x.lg.many < l.length + 1) :
    Calls Tryd.prog 11 #[.pointer (some ⟨s, 0, none⟩), .slice a2 l.length c2] w fun e w' => e = .returned (errV 9) ∧ Below w.heap.size w w' := by
  have hat := hl.at_
  have hcl := fun (c : Ch) W (h1 : c.key.size ≤ maxLen) (h2 : c.val.size ≤ maxLen) => check_any c W h1 h2
  go_enter Tryd.func11, Tryd.ntmps11
  go_wp2_with fail
  go_loopw [17] (fun i wr => ∃ k : Nat, k ≤ l.length ∧ i = .int .i64 k ∧ Hid (chksC (l.drop k) = chksC l) ∧ Below w.heap.size w wr) (fun i _ => l.length - (intOf i).toNat)
  case atStart => exact ⟨0, Nat.zero_le _, rfl, show Hid _ from rfl, Below.refl _ _⟩
  case round =>
    obtain ⟨k, hk, rfl, hck, bl⟩ := hrel
    by_cases hlt : k < l.length
    · have hx : l[k]? = some l[k] := List.getElem?_eq_getElem hlt
      have hcd := chks_drop hx
      rw [hck.out] at hcd
      rcases hat with h0 | ⟨b, o, rfl, hbl, hc⟩
      · rw [h0] at hlt; simp at hlt
      have hcx := (hc k _ hx).below bl hbl
      generalize hxx : l[k] = y at *
      obtain ⟨⟨q0, q1, q2⟩, hz1, hz2⟩ := hcx
      have hbb : b < wr.heap.size := Nat.lt_of_lt_of_le hbl bl.size
      have hcc := fun W => hcl y W hz1 hz2
      have HD : Hid (chksC l = if chkC y = 0 then chksC (l.drop (k + 1)) else chkC y) := hcd
      clear hc hbl hxx hx hcd hcl
      have bA := (Below.refl wr.heap.size wr).alloc (Nat.le_refl _) (.cells #[.string y.key, .string y.val, .bool y.gone] 61)
      by_cases hy : chkC y = 0
      · rw [hy, errV_zero] at hcc
        have HE : Hid (chksC (l.drop (k + 1)) = chksC l) := by have := HD.out; rw [if_pos hy] at this; exact this.symm
        clear HD hy hck
        go_wp2_with fail
        refine (hcc _).mono ?_
        rintro e w1 ⟨rfl, hb1⟩
        go_wp2_with fail
        go_roundw
        case rel => exact ⟨k + 1, by omega, by go_num, HE, Below_after bl (Below_after bA hb1)⟩
        case measure => simp [intOf]; omega
      · exfalso
        have := HD.out
        rw [if_neg hy, hz] at this
        exact hy this.symm
    · have hkk : k = l.length := by omega
      clear hck hcl hkk
      obtain ⟨sa, sc, hst, hch⟩ := h.st
      have h' := h.below bl
      have hst' := hst.below bl
      obtain ⟨c0, c1, cc2, c3, c4, c5⟩ := hst'.cells
      have zz := heap_lt hst'
      have happ := rApply_any sa a2 sc c2 x.rows l wr (hch.tr (Tr.of_below bl)).at_ (hl.tr (Tr.of_below bl)).at_ hb.ris (by have := hb.len; omega) (by omega)
      have hal := apL_len l x.rows
      have hxl := hb.len
      have hmost := h.most
      have hnn := hb.n
      have hsec := fun W => sectors_o B p x.d W
      have hmany := hb.many
      have hfit := apL_fit l x.rows (chs_fit hch.at_) (chs_fit hl.at_)
      generalize hrw : apL x.rows l = R at *
      have HRW : Hid (apL x.rows l = R) := hrw
      go_wp2_with fail
      refine happ.mono ?_
      rintro e w1 ⟨v', rfl, ho, hb1⟩
      have h1 := h'.below hb1
      have hst1 := hst'.below hb1
      have bl1 := Below_after bl hb1
      have hl1 := hl.tr (Tr.of_below bl1)
      obtain ⟨va, vc, rfl⟩ := own_form ho
      clear c0 c1 cc2 c3 c4 c5 zz happ
      obtain ⟨c0, c1, cc2, c3, c4, c5⟩ := hst1.cells
      have zz := heap_lt hst1
      have hsc1 := hsec w1 h1.dk
      by_cases hR : 60 < R.length
      · have d1 : decide ((60 : Int) < (R.length : Int)) = true := decide_eq_true (by omega)
        go_wp2_with fail
        go_ret
        exact ⟨rfl, bl1⟩
      · have d1 : decide ((60 : Int) < (R.length : Int)) = false := decide_eq_false (by omega)
        have hN : x.lg.many < l.length + 1 := by rcases hf with e | e; exact absurd e hR; exact e
        omega
set_option maxHeartbeats 4000000 in
set_option maxRecDepth 100000 in
theorem cm_room (w : World) (B : Nat → Prop) (s p q : Nat) (x : Sto) (h : StoO w B s p q x) (hb : StB x) (a2 : Option Addr) (c2 : Nat) (l : List Ch) (hl : ChsB (FF B q s) w a2 l) (hm : l.length ≤ maxLen) (h62 : l.length ≤ 62) (hz : chksC l = 0) (hf : ¬ (60 < (apL x.rows l).length ∨ x.lg.many < l.length + 1)) (hr : l.length + 1 ≤ x.lg.many - x.lg.used) :
    Calls Tryd.prog 11 #[.pointer (some ⟨s, 0, none⟩), .slice a2 l.length c2] w fun e w' => ∃ B', e = .returned (errV (addC x l)) ∧ StoO w' B' s p q (addS x l (apL x.rows l)) ∧ Tr (FF B q s) (FF B' q s) w w' := by
  have hat := hl.at_
  have hcl := fun (c : Ch) W (h1 : c.key.size ≤ maxLen) (h2 : c.val.size ≤ maxLen) => check_any c W h1 h2
  go_enter Tryd.func11, Tryd.ntmps11
  go_wp2_with fail
  go_loopw [17] (fun i wr => ∃ k : Nat, k ≤ l.length ∧ i = .int .i64 k ∧ Hid (chksC (l.drop k) = chksC l) ∧ Below w.heap.size w wr) (fun i _ => l.length - (intOf i).toNat)
  case atStart => exact ⟨0, Nat.zero_le _, rfl, show Hid _ from rfl, Below.refl _ _⟩
  case round =>
    obtain ⟨k, hk, rfl, hck, bl⟩ := hrel
    by_cases hlt : k < l.length
    · have hx : l[k]? = some l[k] := List.getElem?_eq_getElem hlt
      have hcd := chks_drop hx
      rw [hck.out] at hcd
      rcases hat with h0 | ⟨b, o, rfl, hbl, hc⟩
      · rw [h0] at hlt; simp at hlt
      have hcx := (hc k _ hx).below bl hbl
      generalize hxx : l[k] = y at *
      obtain ⟨⟨q0, q1, q2⟩, hz1, hz2⟩ := hcx
      have hbb : b < wr.heap.size := Nat.lt_of_lt_of_le hbl bl.size
      have hcc := fun W => hcl y W hz1 hz2
      have HD : Hid (chksC l = if chkC y = 0 then chksC (l.drop (k + 1)) else chkC y) := hcd
      clear hc hbl hxx hx hcd hcl
      have bA := (Below.refl wr.heap.size wr).alloc (Nat.le_refl _) (.cells #[.string y.key, .string y.val, .bool y.gone] 61)
      by_cases hy : chkC y = 0
      · rw [hy, errV_zero] at hcc
        have HE : Hid (chksC (l.drop (k + 1)) = chksC l) := by have := HD.out; rw [if_pos hy] at this; exact this.symm
        clear HD hy hck
        go_wp2_with fail
        refine (hcc _).mono ?_
        rintro e w1 ⟨rfl, hb1⟩
        go_wp2_with fail
        go_roundw
        case rel => exact ⟨k + 1, by omega, by go_num, HE, Below_after bl (Below_after bA hb1)⟩
        case measure => simp [intOf]; omega
      · exfalso
        have := HD.out
        rw [if_neg hy, hz] at this
        exact hy this.symm
    · have hkk : k = l.length := by omega
      clear hck hcl hkk
      obtain ⟨sa, sc, hst, hch⟩ := h.st
      have h' := h.below bl
      have hst' := hst.below bl
      obtain ⟨c0, c1, cc2, c3, c4, c5⟩ := hst'.cells
      have zz := heap_lt hst'
      have happ := rApply_any sa a2 sc c2 x.rows l wr (hch.tr (Tr.of_below bl)).at_ (hl.tr (Tr.of_below bl)).at_ hb.ris (by have := hb.len; omega) (by omega)
      have hal := apL_len l x.rows
      have hxl := hb.len
      have hmost := h.most
      have hnn := hb.n
      have hsec := fun W => sectors_o B p x.d W
      have hmany := hb.many
      have hfit := apL_fit l x.rows (chs_fit hch.at_) (chs_fit hl.at_)
      generalize hrw : apL x.rows l = R at *
      have HRW : Hid (apL x.rows l = R) := hrw
      go_wp2_with fail
      refine happ.mono ?_
      rintro e w1 ⟨v', rfl, ho, hb1⟩
      have h1 := h'.below hb1
      have hst1 := hst'.below hb1
      have bl1 := Below_after bl hb1
      have hl1 := hl.tr (Tr.of_below bl1)
      obtain ⟨va, vc, rfl⟩ := own_form ho
      clear c0 c1 cc2 c3 c4 c5 zz happ
      obtain ⟨c0, c1, cc2, c3, c4, c5⟩ := hst1.cells
      have zz := heap_lt hst1
      have hsc1 := hsec w1 h1.dk
      have hR : R.length ≤ 60 := by omega
      have hN : l.length + 1 ≤ x.lg.many := by omega
      have d1 : decide ((60 : Int) < (R.length : Int)) = false := decide_eq_false (by omega)
      have hml : x.lg.many = x.d.now.length - 102 := hmany
      have hNn : l.length + 1 ≤ x.d.now.length - 102 := by omega
      have HB : Hid (StoO w1 B s p q x ∧ StAt w1 s p x.h q (.slice sa x.rows.length sc) ∧ w1.ownsRow wr.heap.size 61 3 (.slice va R.length vc) R.length (R.flatMap chC) ∧ ChsB (FF B q s) w1 a2 l ∧ KFit R ∧ StB x ∧ ChsB (FF B q s) w1 sa x.rows ∧ x.lg.many = x.d.now.length - 102 ∧ Lt (FF B q s) wr ∧ chksC l = 0) := ⟨h1, hst1, ho, hl1, hfit, hb, hch.tr (Tr.of_below bl1), hmany, h'.lt, hz⟩
      clear hf hmany hz hrw hfit ho hal hl1 h1 hst1 h' hst' hch hat hl hst hb h c1 cc2 c3 c4 c5 hxl hml
      go_wp2_with fail
      refine hsc1.mono ?_
      rintro e w' ⟨rfl, rfl⟩
      obtain ⟨h1, hst1, ho, hl1, hfit, hb, hch1, hmany, hlt1, hz⟩ := HB.out
      have hrm := room_any p q x.lg w' h1.lga (by omega) (by have := hb.used; omega)
      have c4 := hst1.cells.2.2.2.2.1
      have HB : Hid (StoO w' B s p q x ∧ StAt w' s p x.h q (.slice sa x.rows.length sc) ∧ w'.ownsRow wr.heap.size 61 3 (.slice va R.length vc) R.length (R.flatMap chC) ∧ ChsB (FF B q s) w' a2 l ∧ KFit R ∧ StB x ∧ ChsB (FF B q s) w' sa x.rows ∧ x.lg.many = x.d.now.length - 102 ∧ Lt (FF B q s) wr ∧ chksC l = 0) := ⟨h1, hst1, ho, hl1, hfit, hb, hch1, hmany, hlt1, hz⟩
      clear h1 hst1 ho hl1 hfit hb hch1 hmany hlt1 hz c0
      go_wp2_with fail
      refine hrm.mono ?_
      rintro e w2 ⟨rfl, hb2⟩
      obtain ⟨h1, hst1, ho, hl1, hfit, hb, hch1, hmany, hlt1, hz⟩ := HB.out
      have hrow : ChsB (FF B q s) w2 va R := by
        have hw := own_pst ho hb2
        rcases hw.2 with ⟨e1, e2⟩ | ⟨g, cap, cur, e1, e2, e3, -⟩
        · exact .inl (List.length_eq_zero_iff.1 e2)
        · obtain ⟨a', c', e4, e5⟩ := own_at_chs hw hfit
          cases e4
          cases e1
          rcases e5 with e5 | ⟨b', o', e6, e7, e8⟩
          · exact .inl e5
          · cases e6
            exact .inr ⟨_, _, rfl, e7, fun e => by have := hlt1 _ e; omega, e8⟩
      replace h1 := h1.below hb2
      replace hst1 := hst1.below hb2
      replace hl1 := hl1.tr (Tr.of_below hb2)
      replace hch1 := hch1.tr (Tr.of_below hb2)
      replace bl1 := Below_after bl1 hb2
      have hus := hb.used
      have hbfr := hb.frm
      have hbf := hb.first
      have hbw := hb.wr
      clear HB ho hrm c4
      have hadd := ladd_any B p q x.d x.lg a2 c2 l w2 h1.dk h1.lga h1.nq (hl1.mono (fun k _ hk => .inl (.inl hk))) hm (by omega) (by omega) (by omega) (by omega) (by omega)
      have hC : Hid (addC x l = (addR x.d x.lg l).2.2) := show _ = _ from rfl
      have hS : Hid (addS x l R = ⟨(addR x.d x.lg l).1, x.h, (addR x.d x.lg l).2.1, if (addR x.d x.lg l).2.2 = 0 then R else x.rows⟩) := show _ = _ from rfl
      generalize (addR x.d x.lg l).1 = d3 at *
      generalize (addR x.d x.lg l).2.1 = lg3 at *
      generalize (addR x.d x.lg l).2.2 = C3 at *
      have c4 := hst1.cells.2.2.2.2.1
      have d2 : decide ((l.length : Int) + 1 > (x.lg.many : Int) - (x.lg.used : Int)) = false := decide_eq_false (by omega)
      have HB : Hid (StoO w2 B s p q x ∧ StAt w2 s p x.h q (.slice sa x.rows.length sc) ∧ ChsB (FF B q s) w2 va R ∧ ChsB (FF B q s) w2 sa x.rows) := ⟨h1, hst1, hrow, hch1⟩
      clear h1 hst1 hl1 hrow hch1 hz hfit hmany
      by_cases h3 : C3 = 0
      · rw [h3, errV_zero] at hadd
        go_wp2_with fail
        refine hadd.mono ?_
        rintro e w3 ⟨rfl, B3, k1, k2, k3, k4⟩
        obtain ⟨h1, hst1, hrow, hch1⟩ := HB.out
        have hns : ¬ (Un B (On q)) s := fun e => by
          rcases e with e | e
          · exact h1.ns e
          · exact h1.qs e.symm
        obtain ⟨g1, g2⟩ := hst1.tr k4 hns
        have kT : Tr (FF B q s) (FF B3 q s) w2 w3 := k4.frame (On s)
        have hrow3 := hrow.tr kT
        have ff := g1.free 5
        have c5 := g1.cells.2.2.2.2.2
        have zz := heap_lt g1
        have HG : Hid (StAt w3 s p x.h q (.slice sa x.rows.length sc)) := g1
        clear g1 hst1 HB hadd
        go_wp2_with fail
        go_ret
        have g5 := HG.out.set5 (.slice va R.length vc)
        have kS : Tr (FF B3 q s) (FF B3 q s) w3 (w3.setCell ⟨s, 5, none⟩ (.slice va R.length vc)) := Tr.setCell _ (.inr rfl) 5 _
        refine ⟨B3, by rw [hC.out, h3]; rfl, ?_, ((Tr.of_below bl1).trans kT).trans kS⟩
        rw [HRW.out, hS.out, if_pos h3]
        exact ⟨k1.set_out (fun e => g2 (.inl e)) 5 _, k3, fun e => g2 (.inl e), h1.qs, (Below.heap_setCell _ _ _ _ (fun e => h1.qs e)).trans k2, va, vc, g5, hrow3.tr kS⟩
      · rw [errV_pos h3] at hadd
        go_wp2_with fail
        refine hadd.mono ?_
        rintro e w3 ⟨rfl, B3, k1, k2, k3, k4⟩
        obtain ⟨h1, hst1, hrow, hch1⟩ := HB.out
        have hns : ¬ (Un B (On q)) s := fun e => by
          rcases e with e | e
          · exact h1.ns e
          · exact h1.qs e.symm
        obtain ⟨g1, g2⟩ := hst1.tr k4 hns
        have kT : Tr (FF B q s) (FF B3 q s) w2 w3 := k4.frame (On s)
        have hch3 := hch1.tr kT
        have HG : Hid (StAt w3 s p x.h q (.slice sa x.rows.length sc)) := g1
        clear g1 hst1 HB hadd
        go_wp2_with fail
        go_ret
        refine ⟨B3, by rw [hC.out, errV_pos h3]; rfl, ?_, (Tr.of_below bl1).trans kT⟩
        rw [HRW.out, hS.out, if_neg h3]
        exact ⟨k1, k3, fun e => g2 (.inl e), h1.qs, k2, sa, sc, HG.out, hch3⟩
set_option maxHeartbeats 4000000 in
set_option maxRecDepth 100000 in
theorem cm_ckbad (w : World) (B : Nat → Prop) (s p q : Nat) (x : Sto) (h : StoO w B s p q x) (hb : StB x) (a2 : Option Addr) (c2 : Nat) (l : List Ch) (hl : ChsB (FF B q s) w a2 l) (hm : l.length ≤ maxLen) (h62 : l.length ≤ 62) (hz : chksC l = 0) (hf : ¬ (60 < (apL x.rows l).length ∨ x.lg.many < l.length + 1)) (hr : ¬ l.length + 1 ≤ x.lg.many - x.lg.used) (hC : ckC x ≠ 0) :
    Calls Tryd.prog 11 #[.pointer (some ⟨s, 0, none⟩), .slice a2 l.length c2] w fun e w' => ∃ B' q', e = .returned (errV (ckC x)) ∧ StoO w' B' s p q' (ckR x) ∧ Tr (FF B q s) (FF B' q' s) w w' := by
  have hat := hl.at_
  have hcl := fun (c : Ch) W (h1 : c.key.size ≤ maxLen) (h2 : c.val.size ≤ maxLen) => check_any c W h1 h2
  go_enter Tryd.func11, Tryd.ntmps11
  go_wp2_with fail
  go_loopw [17] (fun i wr => ∃ k : Nat, k ≤ l.length ∧ i = .int .i64 k ∧ Hid (chksC (l.drop k) = chksC l) ∧ Below w.heap.size w wr) (fun i _ => l.length - (intOf i).toNat)
  case atStart => exact ⟨0, Nat.zero_le _, rfl, show Hid _ from rfl, Below.refl _ _⟩
  case round =>
    obtain ⟨k, hk, rfl, hck, bl⟩ := hrel
    by_cases hlt : k < l.length
    · have hx : l[k]? = some l[k] := List.getElem?_eq_getElem hlt
      have hcd := chks_drop hx
      rw [hck.out] at hcd
      rcases hat with h0 | ⟨b, o, rfl, hbl, hc⟩
      · rw [h0] at hlt; simp at hlt
      have hcx := (hc k _ hx).below bl hbl
      generalize hxx : l[k] = y at *
      obtain ⟨⟨q0, q1, q2⟩, hz1, hz2⟩ := hcx
      have hbb : b < wr.heap.size := Nat.lt_of_lt_of_le hbl bl.size
      have hcc := fun W => hcl y W hz1 hz2
      have HD : Hid (chksC l = if chkC y = 0 then chksC (l.drop (k + 1)) else chkC y) := hcd
      clear hc hbl hxx hx hcd hcl
      have bA := (Below.refl wr.heap.size wr).alloc (Nat.le_refl _) (.cells #[.string y.key, .string y.val, .bool y.gone] 61)
      by_cases hy : chkC y = 0
      · rw [hy, errV_zero] at hcc
        have HE : Hid (chksC (l.drop (k + 1)) = chksC l) := by have := HD.out; rw [if_pos hy] at this; exact this.symm
        clear HD hy hck
        go_wp2_with fail
        refine (hcc _).mono ?_
        rintro e w1 ⟨rfl, hb1⟩
        go_wp2_with fail
        go_roundw
        case rel => exact ⟨k + 1, by omega, by go_num, HE, Below_after bl (Below_after bA hb1)⟩
        case measure => simp [intOf]; omega
      · exfalso
        have := HD.out
        rw [if_neg hy, hz] at this
        exact hy this.symm
    · have hkk : k = l.length := by omega
      clear hck hcl hkk
      obtain ⟨sa, sc, hst, hch⟩ := h.st
      have h' := h.below bl
      have hst' := hst.below bl
      obtain ⟨c0, c1, cc2, c3, c4, c5⟩ := hst'.cells
      have zz := heap_lt hst'
      have happ := rApply_any sa a2 sc c2 x.rows l wr (hch.tr (Tr.of_below bl)).at_ (hl.tr (Tr.of_below bl)).at_ hb.ris (by have := hb.len; omega) (by omega)
      have hal := apL_len l x.rows
      have hxl := hb.len
      have hmost := h.most
      have hnn := hb.n
      have hsec := fun W => sectors_o B p x.d W
      have hmany := hb.many
      have hfit := apL_fit l x.rows (chs_fit hch.at_) (chs_fit hl.at_)
      generalize hrw : apL x.rows l = R at *
      have HRW : Hid (apL x.rows l = R) := hrw
      go_wp2_with fail
      refine happ.mono ?_
      rintro e w1 ⟨v', rfl, ho, hb1⟩
      have h1 := h'.below hb1
      have hst1 := hst'.below hb1
      have bl1 := Below_after bl hb1
      have hl1 := hl.tr (Tr.of_below bl1)
      obtain ⟨va, vc, rfl⟩ := own_form ho
      clear c0 c1 cc2 c3 c4 c5 zz happ
      obtain ⟨c0, c1, cc2, c3, c4, c5⟩ := hst1.cells
      have zz := heap_lt hst1
      have hsc1 := hsec w1 h1.dk
      have hR : R.length ≤ 60 := by omega
      have hN : l.length + 1 ≤ x.lg.many := by omega
      have d1 : decide ((60 : Int) < (R.length : Int)) = false := decide_eq_false (by omega)
      have hml : x.lg.many = x.d.now.length - 102 := hmany
      have hNn : l.length + 1 ≤ x.d.now.length - 102 := by omega
      have HB : Hid (StoO w1 B s p q x ∧ StAt w1 s p x.h q (.slice sa x.rows.length sc) ∧ w1.ownsRow wr.heap.size 61 3 (.slice va R.length vc) R.length (R.flatMap chC) ∧ ChsB (FF B q s) w1 a2 l ∧ KFit R ∧ StB x ∧ ChsB (FF B q s) w1 sa x.rows ∧ x.lg.many = x.d.now.length - 102 ∧ Lt (FF B q s) wr ∧ chksC l = 0) := ⟨h1, hst1, ho, hl1, hfit, hb, hch.tr (Tr.of_below bl1), hmany, h'.lt, hz⟩
      clear hf hmany hz hrw hfit ho hal hl1 h1 hst1 h' hst' hch hat hl hst hb h c1 cc2 c3 c4 c5 hxl hml
      go_wp2_with fail
      refine hsc1.mono ?_
      rintro e w' ⟨rfl, rfl⟩
      obtain ⟨h1, hst1, ho, hl1, hfit, hb, hch1, hmany, hlt1, hz⟩ := HB.out
      have hrm := room_any p q x.lg w' h1.lga (by omega) (by have := hb.used; omega)
      have c4 := hst1.cells.2.2.2.2.1
      have HB : Hid (StoO w' B s p q x ∧ StAt w' s p x.h q (.slice sa x.rows.length sc) ∧ w'.ownsRow wr.heap.size 61 3 (.slice va R.length vc) R.length (R.flatMap chC) ∧ ChsB (FF B q s) w' a2 l ∧ KFit R ∧ StB x ∧ ChsB (FF B q s) w' sa x.rows ∧ x.lg.many = x.d.now.length - 102 ∧ Lt (FF B q s) wr ∧ chksC l = 0) := ⟨h1, hst1, ho, hl1, hfit, hb, hch1, hmany, hlt1, hz⟩
      clear h1 hst1 ho hl1 hfit hb hch1 hmany hlt1 hz c0
      go_wp2_with fail
      refine hrm.mono ?_
      rintro e w2 ⟨rfl, hb2⟩
      obtain ⟨h1, hst1, ho, hl1, hfit, hb, hch1, hmany, hlt1, hz⟩ := HB.out
      have hrow : ChsB (FF B q s) w2 va R := by
        have hw := own_pst ho hb2
        rcases hw.2 with ⟨e1, e2⟩ | ⟨g, cap, cur, e1, e2, e3, -⟩
        · exact .inl (List.length_eq_zero_iff.1 e2)
        · obtain ⟨a', c', e4, e5⟩ := own_at_chs hw hfit
          cases e4
          cases e1
          rcases e5 with e5 | ⟨b', o', e6, e7, e8⟩
          · exact .inl e5
          · cases e6
            exact .inr ⟨_, _, rfl, e7, fun e => by have := hlt1 _ e; omega, e8⟩
      replace h1 := h1.below hb2
      replace hst1 := hst1.below hb2
      replace hl1 := hl1.tr (Tr.of_below hb2)
      replace hch1 := hch1.tr (Tr.of_below hb2)
      replace bl1 := Below_after bl1 hb2
      have hus := hb.used
      have hbfr := hb.frm
      have hbf := hb.first
      have hbw := hb.wr
      clear HB ho hrm c4
      have hcp := ck_any w2 B s p q x h1 hb
      have d2 : decide ((l.length : Int) + 1 > (x.lg.many : Int) - (x.lg.used : Int)) = true := decide_eq_true (by omega)
      have hgt : (x.lg.many : Int) - (x.lg.used : Int) < (l.length : Int) + 1 := by omega
      rw [errV_pos hC] at hcp
      have HC : Hid (ckC x ≠ 0) := hC
      clear hC
      generalize hcc : ckC x = C at *
      have HQ : Hid (ckC x = C) := hcc
      clear hcc h1 hst1 hl1 hrow hch1 hz hfit hmany hb
      go_wp2_with fail
      refine hcp.mono ?_
      rintro e w3 ⟨B3, q3, rfl, k1, k2⟩
      go_wp2_with fail
      go_ret
      exact ⟨B3, q3, by rw [HQ.out, errV_pos HC.out]; rfl, k1, (Tr.of_below bl1).trans k2⟩
set_option maxHeartbeats 4000000 in
set_option maxRecDepth 100000 in
theorem cm_ckgood (w : World) (B : Nat → Prop) (s p q : Nat) (x : Sto) (h : StoO w B s p q x) (hb : StB x) (a2 : Option Addr) (c2 : Nat) (l : List Ch) (hl : ChsB (FF B q s) w a2 l) (hm : l.length ≤ maxLen) (h62 : l.length ≤ 62) (hz : chksC l = 0) (hf : ¬ (60 < (apL x.rows l).length ∨ x.lg.many < l.length + 1)) (hr : ¬ l.length + 1 ≤ x.lg.many - x.lg.used) (hC : ckC x = 0) (hbk : StB (ckR x)) (hr2 : l.length + 1 ≤ (ckR x).lg.many - (ckR x).lg.used) :
    Calls Tryd.prog 11 #[.pointer (some ⟨s, 0, none⟩), .slice a2 l.length c2] w fun e w' => ∃ B' q', e = .returned (errV (addC (ckR x) l)) ∧ StoO w' B' s p q' (addS (ckR x) l (apL x.rows l)) ∧ Tr (FF B q s) (FF B' q' s) w w' := by
  have hat := hl.at_
  have hcl := fun (c : Ch) W (h1 : c.key.size ≤ maxLen) (h2 : c.val.size ≤ maxLen) => check_any c W h1 h2
  go_enter Tryd.func11, Tryd.ntmps11
  go_wp2_with fail
  go_loopw [17] (fun i wr => ∃ k : Nat, k ≤ l.length ∧ i = .int .i64 k ∧ Hid (chksC (l.drop k) = chksC l) ∧ Below w.heap.size w wr) (fun i _ => l.length - (intOf i).toNat)
  case atStart => exact ⟨0, Nat.zero_le _, rfl, show Hid _ from rfl, Below.refl _ _⟩
  case round =>
    obtain ⟨k, hk, rfl, hck, bl⟩ := hrel
    by_cases hlt : k < l.length
    · have hx : l[k]? = some l[k] := List.getElem?_eq_getElem hlt
      have hcd := chks_drop hx
      rw [hck.out] at hcd
      rcases hat with h0 | ⟨b, o, rfl, hbl, hc⟩
      · rw [h0] at hlt; simp at hlt
      have hcx := (hc k _ hx).below bl hbl
      generalize hxx : l[k] = y at *
      obtain ⟨⟨q0, q1, q2⟩, hz1, hz2⟩ := hcx
      have hbb : b < wr.heap.size := Nat.lt_of_lt_of_le hbl bl.size
      have hcc := fun W => hcl y W hz1 hz2
      have HD : Hid (chksC l = if chkC y = 0 then chksC (l.drop (k + 1)) else chkC y) := hcd
      clear hc hbl hxx hx hcd hcl
      have bA := (Below.refl wr.heap.size wr).alloc (Nat.le_refl _) (.cells #[.string y.key, .string y.val, .bool y.gone] 61)
      by_cases hy : chkC y = 0
      · rw [hy, errV_zero] at hcc
        have HE : Hid (chksC (l.drop (k + 1)) = chksC l) := by have := HD.out; rw [if_pos hy] at this; exact this.symm
        clear HD hy hck
        go_wp2_with fail
        refine (hcc _).mono ?_
        rintro e w1 ⟨rfl, hb1⟩
        go_wp2_with fail
        go_roundw
        case rel => exact ⟨k + 1, by omega, by go_num, HE, Below_after bl (Below_after bA hb1)⟩
        case measure => simp [intOf]; omega
      · exfalso
        have := HD.out
        rw [if_neg hy, hz] at this
        exact hy this.symm
    · have hkk : k = l.length := by omega
      clear hck hcl hkk
      obtain ⟨sa, sc, hst, hch⟩ := h.st
      have h' := h.below bl
      have hst' := hst.below bl
      obtain ⟨c0, c1, cc2, c3, c4, c5⟩ := hst'.cells
      have zz := heap_lt hst'
      have happ := rApply_any sa a2 sc c2 x.rows l wr (hch.tr (Tr.of_below bl)).at_ (hl.tr (Tr.of_below bl)).at_ hb.ris (by have := hb.len; omega) (by omega)
      have hal := apL_len l x.rows
      have hxl := hb.len
      have hmost := h.most
      have hnn := hb.n
      have hsec := fun W => sectors_o B p x.d W
      have hmany := hb.many
      have hfit := apL_fit l x.rows (chs_fit hch.at_) (chs_fit hl.at_)
      generalize hrw : apL x.rows l = R at *
      have HRW : Hid (apL x.rows l = R) := hrw
      go_wp2_with fail
      refine happ.mono ?_
      rintro e w1 ⟨v', rfl, ho, hb1⟩
      have h1 := h'.below hb1
      have hst1 := hst'.below hb1
      have bl1 := Below_after bl hb1
      have hl1 := hl.tr (Tr.of_below bl1)
      obtain ⟨va, vc, rfl⟩ := own_form ho
      clear c0 c1 cc2 c3 c4 c5 zz happ
      obtain ⟨c0, c1, cc2, c3, c4, c5⟩ := hst1.cells
      have zz := heap_lt hst1
      have hsc1 := hsec w1 h1.dk
      have hR : R.length ≤ 60 := by omega
      have hN : l.length + 1 ≤ x.lg.many := by omega
      have d1 : decide ((60 : Int) < (R.length : Int)) = false := decide_eq_false (by omega)
      have hml : x.lg.many = x.d.now.length - 102 := hmany
      have hNn : l.length + 1 ≤ x.d.now.length - 102 := by omega
      have HB : Hid (StoO w1 B s p q x ∧ StAt w1 s p x.h q (.slice sa x.rows.length sc) ∧ w1.ownsRow wr.heap.size 61 3 (.slice va R.length vc) R.length (R.flatMap chC) ∧ ChsB (FF B q s) w1 a2 l ∧ KFit R ∧ StB x ∧ ChsB (FF B q s) w1 sa x.rows ∧ x.lg.many = x.d.now.length - 102 ∧ Lt (FF B q s) wr ∧ chksC l = 0) := ⟨h1, hst1, ho, hl1, hfit, hb, hch.tr (Tr.of_below bl1), hmany, h'.lt, hz⟩
      clear hf hmany hz hrw hfit ho hal hl1 h1 hst1 h' hst' hch hat hl hst hb h c1 cc2 c3 c4 c5 hxl hml
      go_wp2_with fail
      refine hsc1.mono ?_
      rintro e w' ⟨rfl, rfl⟩
      obtain ⟨h1, hst1, ho, hl1, hfit, hb, hch1, hmany, hlt1, hz⟩ := HB.out
      have hrm := room_any p q x.lg w' h1.lga (by omega) (by have := hb.used; omega)
      have c4 := hst1.cells.2.2.2.2.1
      have HB : Hid (StoO w' B s p q x ∧ StAt w' s p x.h q (.slice sa x.rows.length sc) ∧ w'.ownsRow wr.heap.size 61 3 (.slice va R.length vc) R.length (R.flatMap chC) ∧ ChsB (FF B q s) w' a2 l ∧ KFit R ∧ StB x ∧ ChsB (FF B q s) w' sa x.rows ∧ x.lg.many = x.d.now.length - 102 ∧ Lt (FF B q s) wr ∧ chksC l = 0) := ⟨h1, hst1, ho, hl1, hfit, hb, hch1, hmany, hlt1, hz⟩
      clear h1 hst1 ho hl1 hfit hb hch1 hmany hlt1 hz c0
      go_wp2_with fail
      refine hrm.mono ?_
      rintro e w2 ⟨rfl, hb2⟩
      obtain ⟨h1, hst1, ho, hl1, hfit, hb, hch1, hmany, hlt1, hz⟩ := HB.out
      have hrow : ChsB (FF B q s) w2 va R := by
        have hw := own_pst ho hb2
        rcases hw.2 with ⟨e1, e2⟩ | ⟨g, cap, cur, e1, e2, e3, -⟩
        · exact .inl (List.length_eq_zero_iff.1 e2)
        · obtain ⟨a', c', e4, e5⟩ := own_at_chs hw hfit
          cases e4
          cases e1
          rcases e5 with e5 | ⟨b', o', e6, e7, e8⟩
          · exact .inl e5
          · cases e6
            exact .inr ⟨_, _, rfl, e7, fun e => by have := hlt1 _ e; omega, e8⟩
      replace h1 := h1.below hb2
      replace hst1 := hst1.below hb2
      replace hl1 := hl1.tr (Tr.of_below hb2)
      replace hch1 := hch1.tr (Tr.of_below hb2)
      replace bl1 := Below_after bl1 hb2
      have hus := hb.used
      have hbfr := hb.frm
      have hbf := hb.first
      have hbw := hb.wr
      clear HB ho hrm c4
      have hcp := ck_any w2 B s p q x h1 hb
      have d2 : decide ((l.length : Int) + 1 > (x.lg.many : Int) - (x.lg.used : Int)) = true := decide_eq_true (by omega)
      have hgt : (x.lg.many : Int) - (x.lg.used : Int) < (l.length : Int) + 1 := by omega
      rw [hC, errV_zero] at hcp
      have hbfr' := hbk.frm
      have hbf' := hbk.first
      have hbw' := hbk.wr
      have hus' := hbk.used
      have hmm' := hbk.many
      have HY : Hid (addC (ckR x) l = addC (ckR x) l) := rfl
      generalize hyy : ckR x = y at *
      have HYY : Hid (ckR x = y) := hyy
      clear hyy h1 hst1 hb HY
      go_wp2_with fail
      refine hcp.mono ?_
      rintro e w3 ⟨B2, q2, rfl, k1, k2⟩
      have hl2 := hl1.tr k2
      have hrow2 := hrow.tr k2
      have bl2 : Tr (FF B q s) (FF B2 q2 s) w w3 := (Tr.of_below bl1).trans k2
      obtain ⟨sa2, sc2, hst2, hch2⟩ := k1.st
      have hmost2 := k1.most
      have k1x := k1
      clear k1 hcp k2 hch1 hl1 hrow hbfr hbf hbw hus d2 hgt hr
      have hadd := ladd_any B2 p q2 y.d y.lg a2 c2 l w3 k1x.dk k1x.lga k1x.nq (hl2.mono (fun k _ hk => .inl (.inl hk))) hm (by omega) (by omega) (by omega) (by omega) (by omega)
      have hC : Hid (addC y l = (addR y.d y.lg l).2.2) := show _ = _ from rfl
      have hS : Hid (addS y l R = ⟨(addR y.d y.lg l).1, y.h, (addR y.d y.lg l).2.1, if (addR y.d y.lg l).2.2 = 0 then R else y.rows⟩) := show _ = _ from rfl
      generalize (addR y.d y.lg l).1 = d3 at *
      generalize (addR y.d y.lg l).2.1 = lg3 at *
      generalize (addR y.d y.lg l).2.2 = C3 at *
      have c4 := hst2.cells.2.2.2.2.1
      have d2 : decide ((l.length : Int) + 1 > (y.lg.many : Int) - (y.lg.used : Int)) = false := decide_eq_false (by omega)
      have HB : Hid (StoO w3 B2 s p q2 y ∧ StAt w3 s p y.h q2 (.slice sa2 y.rows.length sc2) ∧ ChsB (FF B2 q2 s) w3 va R ∧ ChsB (FF B2 q2 s) w3 sa2 y.rows) := ⟨k1x, hst2, hrow2, hch2⟩
      clear k1x hst2 hl2 hrow2 hch2 hz hfit hmany
      by_cases h3 : C3 = 0
      · rw [h3, errV_zero] at hadd
        go_wp2_with fail
        refine hadd.mono ?_
        rintro e w4 ⟨rfl, B3, k1, k2, k3, k4⟩
        obtain ⟨k1x, hst2, hrow2, hch2⟩ := HB.out
        have hns : ¬ (Un B2 (On q2)) s := fun e => by
          rcases e with e | e
          · exact k1x.ns e
          · exact k1x.qs e.symm
        obtain ⟨g1, g2⟩ := hst2.tr k4 hns
        have kT : Tr (FF B2 q2 s) (FF B3 q2 s) w3 w4 := k4.frame (On s)
        have hrow3 := hrow2.tr kT
        have ff := g1.free 5
        have c5 := g1.cells.2.2.2.2.2
        have zz := heap_lt g1
        have HG : Hid (StAt w4 s p y.h q2 (.slice sa2 y.rows.length sc2)) := g1
        clear g1 hst2 HB hadd
        go_wp2_with fail
        go_ret
        have g5 := HG.out.set5 (.slice va R.length vc)
        have kS : Tr (FF B3 q2 s) (FF B3 q2 s) w4 (w4.setCell ⟨s, 5, none⟩ (.slice va R.length vc)) := Tr.setCell _ (.inr rfl) 5 _
        refine ⟨B3, q2, by rw [HYY.out, hC.out, h3]; rfl, ?_, (bl2.trans kT).trans kS⟩
        rw [HYY.out, HRW.out, hS.out, if_pos h3]
        exact ⟨k1.set_out (fun e => g2 (.inl e)) 5 _, k3, fun e => g2 (.inl e), k1x.qs, (Below.heap_setCell _ _ _ _ (fun e => k1x.qs e)).trans k2, va, vc, g5, hrow3.tr kS⟩
      · rw [errV_pos h3] at hadd
        go_wp2_with fail
        refine hadd.mono ?_
        rintro e w4 ⟨rfl, B3, k1, k2, k3, k4⟩
        obtain ⟨k1x, hst2, hrow2, hch2⟩ := HB.out
        have hns : ¬ (Un B2 (On q2)) s := fun e => by
          rcases e with e | e
          · exact k1x.ns e
          · exact k1x.qs e.symm
        obtain ⟨g1, g2⟩ := hst2.tr k4 hns
        have kT : Tr (FF B2 q2 s) (FF B3 q2 s) w3 w4 := k4.frame (On s)
        have hch3 := hch2.tr kT
        have HG : Hid (StAt w4 s p y.h q2 (.slice sa2 y.rows.length sc2)) := g1
        clear g1 hst2 HB hadd
        go_wp2_with fail
        go_ret
        refine ⟨B3, q2, by rw [HYY.out, hC.out, errV_pos h3]; rfl, ?_, bl2.trans kT⟩
        rw [HYY.out, HRW.out, hS.out, if_neg h3]
        exact ⟨k1, k3, fun e => g2 (.inl e), k1x.qs, k2, sa2, sc2, HG.out, hch3⟩
end Go.Proofs.YtikkakdeapbioaaDoor
set_option linter.unusedVariables false
set_option linter.unusedSimpArgs false
set_option linter.unnecessarySimpa false
namespace Go.Proofs.YtikkakdeapbioaaDoor
open Go.RowKit

theorem rd_up {d : Dk} {k : Nat} (hdn : d.down = false) (hk : k < d.now.length) : rdC d (k : Int) = 0 ∧ rdS d (k : Int) = strOf d.now[k] := by
  have hC : rdC d (k : Int) = 0 := by simp [rdC, hdn, hasB2]; omega
  refine ⟨hC, ?_⟩
  unfold rdS; rw [if_pos hC, Int.toNat_natCast, List.getD_eq_getElem?_getD, List.getElem?_eq_getElem hk]; rfl
set_option maxHeartbeats 1000000 in
set_option maxRecDepth 100000 in
theorem open_no (B : Nat → Prop) (p : Nat) (d : Dk) (w : World) (h : DkO w B p d) (hdn : d.down = false) (hz : d.now[0]? = some zsec) :
    Calls Tryd.prog 9 #[.pointer (some ⟨p, 0, none⟩)] w fun e w' => e = .returned (.tuple #[.pointer none, .iface 63 (.int .i64 4)]) ∧ Below w.heap.size w w' := by
  have hpos := h.ok.pos
  have hs0 : d.now[0]'(by omega) = zsec := by
    have := List.getElem?_eq_getElem (l := d.now) (i := 0) (by omega)
    rw [hz] at this; exact (Option.some.inj this).symm
  obtain ⟨r1, r2⟩ := rd_up (k := 0) hdn (by omega)
  have hrd := read_o B p d 0 w h
  have r1' : rdC d 0 = 0 := r1
  have r2' : rdS d 0 = strOf zsec := by rw [← hs0]; exact r2
  rw [r1', r2', errV_zero] at hrd
  have hpn := fun W => parse_no (strOf zsec) W rfl (by decide +kernel)
  generalize strOf zsec = z at *
  clear hs0 hz r1 r2 r1' r2'
  go_enter Tryd.func9, Tryd.ntmps9
  go_wp2_with fail
  refine hrd.mono ?_
  rintro e w' ⟨rfl, rfl⟩
  go_wp2_with fail
  refine (hpn _).mono ?_
  rintro e w1 ⟨rfl, hb⟩
  go_wp2_with fail
  go_ret2
  exact ⟨rfl, hb.alloc hb.size _⟩
/-- rows with deeds done -/
def foldR (base : List Ch) (D : List (List Ch)) : List Ch := D.foldl apL base
theorem foldR_succ {base : List Ch} {D : List (List Ch)} {k : Nat} (hk : k < D.length) : foldR base (D.take (k + 1)) = apL (foldR base (D.take k)) D[k] := by
  unfold foldR
  rw [List.take_succ_eq_append_getElem hk, List.foldl_append]
  rfl
theorem foldR_ris : ∀ (D : List (List Ch)) (base : List Ch), Ris base → Ris (foldR base D)
  | [], base, h => h
  | x :: D, base, h => foldR_ris D (apL base x) (apL_ris x base h)
set_option maxHeartbeats 2000000 in
set_option maxRecDepth 100000 in
theorem open_good (B : Nat → Prop) (p : Nat) (d : Dk) (h : Hd3) (base : List Ch) (D : List (List Ch)) (u : Nat) (w : World) (hd : DkO w B p d) (hdn : d.down = false) (hn : 166 ≤ d.now.length) (hh : HdOk h) (hf : h.first ≤ 1000000000) (hz : d.now[0]? = some (padL (headL h))) (hr : splitL ((halfT d.now h.half 50).take h.size) = some base) (hris : Ris base)
    (hD : (lgOf h.first (logT d.now)).deeds = D) (hu : (lgOf h.first (logT d.now)).used = u) (hlen : ∀ k, k ≤ D.length → (foldR base (D.take k)).length ≤ 100) (hDl : D.length ≤ 1000) (hdl : ∀ x ∈ D, x.length ≤ 100) (hfit : ∀ x ∈ D, KFit x) :
    Calls Tryd.prog 9 #[.pointer (some ⟨p, 0, none⟩)] w fun e w' => ∃ s q, e = .returned (.tuple #[.pointer (some ⟨s, 0, none⟩), .nilIface]) ∧ StoO w' B s p q ⟨d, h, ⟨102, d.now.length - 102, h.first, u⟩, foldR base D⟩ ∧ Below w.heap.size w w' ∧ w.heap.size ≤ s ∧ w.heap.size ≤ q := by
  have hmost := hd.ok.most
  have hs0 : d.now[0]'(by omega) = padL (headL h) := by
    have := List.getElem?_eq_getElem (l := d.now) (i := 0) (by omega)
    rw [hz] at this; exact (Option.some.inj this).symm
  obtain ⟨r1, r2⟩ := rd_up (k := 0) hdn (by omega)
  have hrd := read_o B p d 0 w hd
  have r1' : rdC d 0 = 0 := r1
  have r2' : rdS d 0 = strOf (padL (headL h)) := by rw [← hs0]; exact r2
  rw [r1', r2', errV_zero] at hrd
  have hpy := fun W => parse_yes h (strOf (padL (headL h))) W hh rfl
  have hsec := fun W => sectors_o B p d W
  obtain ⟨hh1, hh2, hh3, hh4⟩ := hh
  have hrg := fun W hW => hread_good B p d h base W hW hdn hn hh1 hh4 hr
  have hol := fun W hW => openLog_any B p d h.first W hW hdn hn hh2 (by omega)
  rw [hD, hu] at hol
  have HR : Hid (Ris base ∧ (∀ k, k ≤ D.length → (foldR base (D.take k)).length ≤ 100) ∧ (∀ x ∈ D, x.length ≤ 100) ∧ Lt B w ∧ DkO w B p d ∧ ∀ x ∈ D, KFit x) := ⟨hris, hlen, hdl, hd.lt, hd, hfit⟩
  generalize strOf (padL (headL h)) = z at *
  clear hs0 hz r1 r2 r1' r2' hr hris hlen hdl hD hu hfit
  generalize hnn : d.now.length = n at *
  go_enter Tryd.func9, Tryd.ntmps9
  go_wp2_with fail
  refine hrd.mono ?_
  rintro e w' ⟨rfl, rfl⟩
  go_wp2_with fail
  refine (hpy _).mono ?_
  rintro e w1 ⟨rfl, hb1⟩
  have BH := Bx.new w1 (hdC h) 72
  have bl1 := hb1.alloc hb1.size (.cells (hdC h).toArray 72)
  have hs1 := hsec _ (hd.below bl1)
  clear hrd hpy hsec
  go_wp2_with fail
  refine hs1.mono ?_
  rintro e w2 ⟨rfl, rfl⟩
  obtain ⟨c0, c1, c2⟩ := BH.three
  have hr2 := hrg _ (hd.below bl1)
  have zb := BH.1
  clear hs1 hrg
  go_wp2_with fail
  refine hr2.mono ?_
  rintro e w3 ⟨v0, rfl, ho, hck, hb3⟩
  replace BH := BH.below hb3
  have bl3 := Below_after bl1 hb3
  clear c0 c1 c2 zb hr2
  obtain ⟨c0, c1, c2⟩ := BH.three
  have zb := BH.1
  have hl3 := hol _ (hd.below bl3)
  obtain ⟨a0, k0, rfl⟩ := own_form ho
  clear hol
  go_wp2_with fail
  refine hl3.mono ?_
  rintro e w4 ⟨q, da, dc, rfl, hL, hDd, rfl, hb4⟩
  have hqz : w'.heap.size ≤ w3.heap.size := bl3.size
  replace BH := BH.below hb4
  have bl4 := Below_after bl3 hb4
  have ho4 := ownsRow_mono (own_pst ho hb4) bl1.size
  have hkb : KFit base := fun c hc => by have := chk_zero (hck c hc); unfold maxLen; omega
  have hld := heap_lt hL
  clear hl3 c0 c1 c2 zb hck ho
  go_wp2_with fail
  go_loopw [56, 8] (fun i r wr => ∃ k : Nat, ∃ v : Value, k ≤ D.length ∧ i = .int .i64 k ∧ r = v ∧ wr.ownsRow w'.heap.size 61 3 v (foldR base (D.take k)).length ((foldR base (D.take k)).flatMap chC) ∧ KFit (foldR base (D.take k)) ∧ LgAt wr w3.heap.size p ⟨102, n - 102, h.first, u⟩ ∧ DdsB (fun k => k < (w3.heap.size) + 1) wr da D ∧ Bx wr w1.heap.size (hdC h) ∧ Below w'.heap.size w' wr) (fun i _ _ => D.length - (intOf i).toNat)
  case atStart => exact ⟨0, _, Nat.zero_le _, rfl, rfl, ho4, hkb, hL, hDd, BH, bl4⟩
  case round =>
    obtain ⟨k, v, hk, rfl, rfl, ho, hkf, hL, hDd, BH, bl⟩ := hrel
    by_cases hlt : k < D.length
    · obtain ⟨hris, hlen, hdl, -, -, hfit⟩ := HR.out
      have hx : D[k]? = some D[k] := List.getElem?_eq_getElem hlt
      have hmem := List.getElem_mem hlt
      rcases hDd with h0 | ⟨b, o, hda, hbl, hbn, hc⟩
      · rw [h0] at hlt; simp at hlt
      obtain ⟨a', c', hcl, hcs⟩ := hc k _ hx
      have HDd : Hid (DdsB (fun k => k < w3.heap.size + 1) wr da D) := .inr ⟨b, o, hda, hbl, hbn, hc⟩
      obtain ⟨va, vc, hva, hat⟩ := own_at_chs ho hkf
      have happ := rApply_any va a' vc c' (foldR base (D.take k)) D[k] wr hat hcs.at_ (foldR_ris _ _ hris) (by have := hlen k hk; omega) (by have := hdl _ hmem; omega)
      have HF : Hid (foldR base (D.take (k + 1)) = apL (foldR base (D.take k)) D[k]) := foldR_succ hlt
      have hkn := apL_fit D[k] _ hkf (hfit _ hmem)
      rw [← HF.out] at happ hkn
      have hcl' : wr.cell? ⟨b, o + k, none⟩ = some (.slice a' D[k].length c') := hcl
      generalize hRn : foldR base (D.take (k + 1)) = Rn at *
      have HRn : Hid (foldR base (D.take (k + 1)) = Rn) := hRn
      have HLT : Hid (k < D.length) := hlt
      clear hRn
      generalize foldR base (D.take k) = Rk at *
      generalize hdk : D[k] = dk at *
      subst hva hda
      clear hc hcl hcs hat hris hlen hdl hfit hx hmem HF
      go_wp2_with fail
      refine happ.mono ?_
      rintro e w5 ⟨v5, rfl, ho5, hb5⟩
      obtain ⟨a5, k5, rfl⟩ := own_form ho5
      go_wp2_with fail
      go_roundw
      case rel => exact ⟨k + 1, _, HLT.out, by go_num, rfl, by rw [HRn.out]; exact ownsRow_mono ho5 bl.size, by rw [HRn.out]; exact hkn, hL.below hb5, HDd.out.tr (Tr.of_below hb5), BH.below hb5, Below_after bl hb5⟩
      case measure => have := HLT.out; simp [intOf]; omega
    · have hkk : k = D.length := by omega
      rw [hkk, List.take_length] at ho hkf
      obtain ⟨va, vc, hva, hat⟩ := own_at_chs ho hkf
      subst hva
      have c0 := (BH.2 0 _ rfl).1
      have c1 := (BH.2 1 _ rfl).1
      have c2 := (BH.2 2 _ rfl).1
      have zb := BH.1
      obtain ⟨-, -, -, hltB, hd0, -⟩ := HR.out
      have hqs := heap_lt hL
      have bA : Below wr.heap.size wr (wr.alloc (.cells (stC p h w3.heap.size (.slice va (foldR base D).length vc)) 81)) := (Below.refl _ _).alloc (Nat.le_refl _) _
      have hfin : StoO (wr.alloc (.cells (stC p h w3.heap.size (.slice va (foldR base D).length vc)) 81)) B wr.heap.size p w3.heap.size ⟨d, h, ⟨102, n - 102, h.first, u⟩, foldR base D⟩ := by
        refine ⟨hd0.below (Below_after bl bA), fun e => by have := hltB _ e; omega, fun e => by have := hltB _ e; have := bl.size; omega, by show w3.heap.size ≠ wr.heap.size; omega, hL.below bA, va, vc, heap_alloc_last wr _, ?_⟩
        rcases ho.2 with ⟨e1, e2⟩ | ⟨g, cap, cur, e1, e2, e3, -⟩
        · exact .inl (List.length_eq_zero_iff.1 e2)
        · cases e1
          have hgl := heap_lt e3
          rcases hat with hat | ⟨b', o', e6, e7, e8⟩
          · exact .inl hat
          · cases e6
            refine .inr ⟨_, _, rfl, Nat.lt_of_lt_of_le e7 bA.size, ?_, fun j y hy => (e8 j y hy).below bA e7⟩
            rintro ((hb | hb) | hb)
            · have := hltB _ hb; omega
            · have e9 : _ = w3.heap.size := hb
              have hL' : wr.heap[w3.heap.size]? = _ := hL
              rw [← e9, e3] at hL'
              cases hL'
            · have e9 : _ = wr.heap.size := hb
              omega
      clear hat ho hkf hDd hd0 hltB BH HR
      go_wp2_with fail
      go_ret2
      exact ⟨wr.heap.size, w3.heap.size, rfl, hfin, Below_after bl bA, bl.size, hqz⟩
set_option maxHeartbeats 1000000 in
set_option maxRecDepth 100000 in
theorem format_small (B : Nat → Prop) (p : Nat) (d : Dk) (w : World) (hd : DkO w B p d) (hn : d.now.length < 166) :
    Calls Tryd.prog 10 #[.pointer (some ⟨p, 0, none⟩)] w fun e w' => e = .returned (.iface 63 (.int .i64 9)) ∧ w' = w := by
  have hsec := sectors_o B p d w hd
  generalize d.now.length = n at *
  go_enter Tryd.func10, Tryd.ntmps10
  go_wp2_with fail
  refine hsec.mono ?_
  rintro e w' ⟨rfl, rfl⟩
  go_wp2_with fail
  go_ret
  exact ⟨rfl, rfl⟩
def h0 : Hd3 := ⟨0, 1, 0⟩
set_option maxHeartbeats 1000000 in
set_option maxRecDepth 100000 in
theorem format_good (B : Nat → Prop) (p : Nat) (d : Dk) (w : World) (hd : DkO w B p d) (hn : 166 ≤ d.now.length) (hw : d.wr.length ≤ 10000) (hC1 : (lay1 d h0 []).2 = 0) (hC2 : (lay2 d h0 []).2 = 0) :
    Calls Tryd.prog 10 #[.pointer (some ⟨p, 0, none⟩)] w fun e w' => ∃ B', e = .returned .nilIface ∧ DkO w' B' p (lay2 d h0 []).1 ∧ Tr B B' w w' := by
  have hsec := sectors_o B p d w hd
  have hlay := lay_good B p d h0 none 0 [] w hd (.inl rfl) (by simp) (by simp) (by decide) hw hn (by decide) (by decide) hC1 hC2
  have hmost := hd.ok.most
  generalize (lay2 d h0 []).1 = d2 at *
  generalize layF d h0 [] = hF at *
  change Calls _ _ #[_, .agg #[.int .i64 0, .int .i64 1, .int .i64 0], .slice none 0 0] _ _ at hlay
  generalize d.now.length = n at *
  clear hC1 hC2
  go_enter Tryd.func10, Tryd.ntmps10
  go_wp2_with fail
  refine hsec.mono ?_
  rintro e w' ⟨rfl, rfl⟩
  go_wp2_with fail
  refine hlay.mono ?_
  rintro e w1 ⟨B', q, rfl, g1, -, -, -, g2⟩
  have bA := (Below.refl w1.heap.size w1).alloc (Nat.le_refl _) (.cells (hdC hF).toArray 72)
  go_wp2_with fail
  go_ret
  exact ⟨B', rfl, g1.below bA, g2.below bA⟩
end Go.Proofs.YtikkakdeapbioaaDoor
