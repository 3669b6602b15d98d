/- The document's Sent, walked (F2). -/
import Derived.Test.YtddgpgldbekamaaGreatRefC
import Derived.Test.YtddgpgldbekamaaGreatSendW
set_option linter.unusedSimpArgs false
set_option linter.unnecessarySimpa false
set_option linter.unusedVariables false
namespace Go.Proofs.YtddgpgldbekamaaGreat
open Go.RowKit

theorem cnt_yes {p : Nt → Bool} {l : List Nt} {k c : Nat} {y : Nt} (hy : l[k]? = some y) (hp : p y = true) (h : ((l.take k).filter p).length = c) : ((l.take (k + 1)).filter p).length = c + 1 := by
  rw [List.take_add_one, hy]; simp [List.filter_append, hp, h]
theorem cnt_no {p : Nt → Bool} {l : List Nt} {k c : Nat} {y : Nt} (hy : l[k]? = some y) (hp : p y = false) (h : ((l.take k).filter p).length = c) : ((l.take (k + 1)).filter p).length = c := by
  rw [List.take_add_one, hy]; simp [List.filter_append, hp, h]
set_option maxHeartbeats 1500000 in
set_option maxRecDepth 100000 in
theorem rsent_any (aw at_ ah an : Option Addr) (cw ct ch cn : Nat) (r : Rm) (h s : Int) (d : ByteArray) (t rights : Int) (w : World) (hr : RmAt w aw at_ ah an cw ct ch cn r) (hz : RmSz r) (hd2 : d.size ≤ maxLen) (hr7 : ∀ h s, getC r h s = 0 → 0 ≤ (getW r h s).rights ∧ (getW r h s).rights ≤ 7) (h3 : ∀ t, (waitL r t).length ≤ 3) (C : Int) (HC : Hid (sendC r h s d t rights = C)) :
    Calls Tryz.prog 60 #[.agg #[.slice aw r.ws.length cw, .slice at_ r.ts.length ct, .slice ah r.hs.length ch, .slice an r.ns.length cn, .int .i64 r.nw, .int .i64 r.nt], .agg #[.int .i64 h, .int .i64 s], .string d, .int .i64 t, .int .i64 rights] w fun e w' => OutP w w' e C (sendR r h s d t rights) := by
  obtain ⟨i0, hi, hi0, hi1, hi2⟩ := info_parts infoNote
  have nw1 := hz.nw.1
  have nw2 := hz.nw.2
  unfold maxLen at hd2
  obtain ⟨BR0, BP0, BZ0, bl0⟩ := boxes3 w [.slice aw r.ws.length cw, .slice at_ r.ts.length ct, .slice ah r.hs.length ch, .slice an r.ns.length cn, .int .i64 r.nw, .int .i64 r.nt] 30 [.int .i64 h, .int .i64 s] 33 [.slice none 0 0, .slice none 0 0, .slice none 0 0, .slice none 0 0, .int .i64 0, .int .i64 0] 30
  go_enter Tryz.func60, Tryz.ntmps60
  go_wp2_with fail
  refine (rmay_any aw at_ ah an cw ct ch cn r h s 2 2 _ (hr.below bl0) hz (hr7 h s) (by decide)).mono ?_
  rintro e w1 ⟨rfl, hb1⟩
  have BR1 := BR0.below hb1
  have BP1 := BP0.below hb1
  have BZ1 := BZ0.below hb1
  have bl1 := Below_after bl0 hb1
  clear BR0 BP0 BZ0 bl0
  have lw1 := BZ1.1
  by_cases hw : whoC r h s 2 2 = 0
  rotate_left
  · have hC : whoC r h s 2 2 = C := by rw [← HC.out]; exact (if_pos hw).symm
    have hp := whoC_pos r h s 2 2
    have e1 : mayW r h s 2 2 = zeroW := if_neg hw
    have e2 : mayI r h s 2 2 = 0 := if_neg hw
    rw [e1, e2, hC]
    rw [hC] at hw hp
    have hd0 : decide (0 < C) = true := decide_eq_true (by omega)
    clear hC HC e1 e2
    obtain ⟨cR0, cR1, cR2, cR3, cR4, cR5⟩ := BR1.c6
    have zR := BR1.1
    obtain ⟨cP0, cP1⟩ := BP1.c2
    have zP := BP1.1
    obtain ⟨cZ0, fZ0, cZ1, fZ1, cZ2, fZ2, cZ3, fZ3, cZ4, fZ4, cZ5, fZ5⟩ := BZ1.cf6
    have zZ := BZ1.1
    go_wp2_with fail
    obtain ⟨y0, y1, y2, y3, y4, y5⟩ := ((BZ1.put6 (.slice none 0 0) (.slice none 0 0) (.slice none 0 0) (.slice none 0 0) (.int .i64 0) (.int .i64 0)).alloc (.cells #[.int .i64 zeroW.id, .int .i64 zeroW.thing, .int .i64 zeroW.rights, .int .i64 zeroW.badge, .int .i64 zeroW.frm] 39)).six
    have blF := ((below_set6 bl1 (b := w.heap.size + 1 + 1) (by omega) (.slice none 0 0) (.slice none 0 0) (.slice none 0 0) (.slice none 0 0) (.int .i64 0) (.int .i64 0)).alloc (below_set6 bl1 (b := w.heap.size + 1 + 1) (by omega) (.slice none 0 0) (.slice none 0 0) (.slice none 0 0) (.slice none 0 0) (.int .i64 0) (.int .i64 0)).size (.cells #[.int .i64 zeroW.id, .int .i64 zeroW.thing, .int .i64 zeroW.rights, .int .i64 zeroW.badge, .int .i64 zeroW.frm] 39))
    refine bodyPost_ret (v := .tuple #[.agg #[.slice none 0 0, .slice none 0 0, .slice none 0 0, .slice none 0 0, .int .i64 0, .int .i64 0], .int .i64 C]) (by simp [results, Tryz.results60, go_sem, y0, y1, y2, y3, y4, y5]) rfl ?_
    exact ⟨.inl ⟨hw, rfl⟩, blF⟩
  have e1 : mayW r h s 2 2 = getW r h s := if_pos hw
  obtain ⟨iv, hiv⟩ : ∃ v, mayI r h s 2 2 = v := ⟨_, rfl⟩
  rw [e1, hiv, hw]
  have hxr : 0 ≤ (getW r h s).rights ∧ (getW r h s).rights ≤ 7 := by
    rcases whoC_cases r h s 2 2 with ⟨_, h1, _⟩ | ⟨e, _⟩ | ⟨e, _⟩ | ⟨e, h1⟩
    · exact hr7 h s h1
    · rw [hw] at e; cases e
    · rw [hw] at e; cases e
    · rw [hw] at e; exact absurd e.symm h1
  have HC1 : Hid ((if 8 < d.size then 2 else if 3 ≤ (waitL r (getW r h s).thing).length then 9 else if t < 0 then 0 else if hasB (getW r h s).rights 4 = false then 7 else if getC r h t ≠ 0 then getC r h t else if 999 < r.nw then 9 else drvCode (getW r h t) rights 0) = C) := (show _ = _ from by rw [← HC.out]; exact (if_neg (fun h' => h' hw)).symm)
  have HS0 : Hid (sendR r h s d t rights = if t < 0 then ⟨r.ws, r.ts, r.hs, r.ns ++ [⟨(getW r h s).thing, d, (getW r h s).badge, 0⟩], r.nw, r.nt⟩ else ⟨r.ws ++ [drvW (getW r h t) r.nw rights 0], r.ts, r.hs, r.ns ++ [⟨(getW r h s).thing, d, (getW r h s).badge, r.nw⟩], r.nw + 1, r.nt⟩) := (show _ = _ from rfl)
  clear HC e1 hw hiv
  have h3' := h3 (getW r h s).thing
  clear h3
  generalize getW r h s = x at *
  by_cases hd : 8 < d.size
  · have hC : C = 2 := by rw [← HC1.out, if_pos hd]
    subst hC
    have hd1 : decide (8 < (d.size : Int)) = true := decide_eq_true (by omega)
    clear HC1 hd HS0
    obtain ⟨cR0, cR1, cR2, cR3, cR4, cR5⟩ := BR1.c6
    have zR := BR1.1
    obtain ⟨cP0, cP1⟩ := BP1.c2
    have zP := BP1.1
    obtain ⟨cZ0, fZ0, cZ1, fZ1, cZ2, fZ2, cZ3, fZ3, cZ4, fZ4, cZ5, fZ5⟩ := BZ1.cf6
    have zZ := BZ1.1
    go_wp2_with fail
    obtain ⟨y0, y1, y2, y3, y4, y5⟩ := ((BZ1.put6 (.slice none 0 0) (.slice none 0 0) (.slice none 0 0) (.slice none 0 0) (.int .i64 0) (.int .i64 0)).alloc (.cells #[.int .i64 x.id, .int .i64 x.thing, .int .i64 x.rights, .int .i64 x.badge, .int .i64 x.frm] 39)).six
    have blF := ((below_set6 bl1 (b := w.heap.size + 1 + 1) (by omega) (.slice none 0 0) (.slice none 0 0) (.slice none 0 0) (.slice none 0 0) (.int .i64 0) (.int .i64 0)).alloc (below_set6 bl1 (b := w.heap.size + 1 + 1) (by omega) (.slice none 0 0) (.slice none 0 0) (.slice none 0 0) (.slice none 0 0) (.int .i64 0) (.int .i64 0)).size (.cells #[.int .i64 x.id, .int .i64 x.thing, .int .i64 x.rights, .int .i64 x.badge, .int .i64 x.frm] 39))
    refine bodyPost_ret (v := .tuple #[.agg #[.slice none 0 0, .slice none 0 0, .slice none 0 0, .slice none 0 0, .int .i64 0, .int .i64 0], .int .i64 2]) (by simp [results, Tryz.results60, go_sem, y0, y1, y2, y3, y4, y5]) rfl ?_
    exact ⟨.inl ⟨(by decide), rfl⟩, blF⟩
  have HC2 : Hid ((if 3 ≤ (waitL r x.thing).length then 9 else if t < 0 then 0 else if hasB x.rights 4 = false then 7 else if getC r h t ≠ 0 then getC r h t else if 999 < r.nw then 9 else drvCode (getW r h t) rights 0) = C) := (show _ = _ from (if_neg hd).symm.trans HC1.out)
  have hd1 : decide (8 < (d.size : Int)) = false := decide_eq_false (by omega)
  clear HC1 hd
  obtain ⟨cR0, cR1, cR2, cR3, cR4, cR5⟩ := BR1.c6
  have zR := BR1.1
  obtain ⟨cP0, cP1⟩ := BP1.c2
  have zP := BP1.1
  obtain ⟨cZ0, cZ1, cZ2, cZ3, cZ4, cZ5⟩ := BZ1.c6
  have zZ := BZ1.1
  go_wp2_with fail
  clear cR0 cR1 cR2 cR3 cR4 cR5 zR cP0 cP1 zP cZ0 cZ1 cZ2 cZ3 cZ4 cZ5 zZ
  have BR2 := BR1.alloc (.cells #[.int .i64 x.id, .int .i64 x.thing, .int .i64 x.rights, .int .i64 x.badge, .int .i64 x.frm] 39)
  have BP2 := BP1.alloc (.cells #[.int .i64 x.id, .int .i64 x.thing, .int .i64 x.rights, .int .i64 x.badge, .int .i64 x.frm] 39)
  have BZ2 := BZ1.alloc (.cells #[.int .i64 x.id, .int .i64 x.thing, .int .i64 x.rights, .int .i64 x.badge, .int .i64 x.frm] 39)
  have bl2 := bl1.alloc bl1.size (.cells #[.int .i64 x.id, .int .i64 x.thing, .int .i64 x.rights, .int .i64 x.badge, .int .i64 x.frm] 39)
  have BX2 := Bx.new w1 [.int .i64 x.id, .int .i64 x.thing, .int .i64 x.rights, .int .i64 x.badge, .int .i64 x.frm] 39
  clear BR1 BP1 BZ1 bl1
  generalize hg2 : (w1.alloc (.cells #[.int .i64 x.id, .int .i64 x.thing, .int .i64 x.rights, .int .i64 x.badge, .int .i64 x.frm] 39)) = w2 at BR2 BP2 BZ2 BX2 bl2 ⊢
  clear hg2
  have sg2X := BX2.1
  have hns : NtsAt w2 an r.ns := (hr.below bl2).n
  have fn2 := hr.fn.2
  unfold maxLen at fn2
  have mn := hz.n
  have cR3 := (BR2.2 3 _ rfl).1
  have zR := BR2.1
  go_loopw [15, 16] (fun c i wr => ∃ (k m : Nat), k ≤ r.ns.length ∧ m ≤ k ∧ i = .int .i64 k ∧ c = .int .i64 m ∧ Hid (((r.ns.take k).filter (atPort x.thing)).length = m) ∧ Below w2.heap.size w2 wr) (fun _ i _ => r.ns.length - (intOf i).toNat)
  case atStart => exact ⟨0, 0, Nat.zero_le _, Nat.le_refl _, rfl, rfl, (show Hid _ from rfl), Below.refl _ _⟩
  case round =>
    obtain ⟨k, m, hk, hm, rfl, rfl, hn, hbl⟩ := hrel
    have BR3 := BR2.below hbl
    have BP3 := BP2.below hbl
    have BZ3 := BZ2.below hbl
    have BX3 := BX2.below hbl
    have bl3 := Below_after bl2 hbl
    have lwr := hbl.size
    clear cR3 zR BR2 BP2 BZ2 BX2 bl2
    by_cases hlt : k < r.ns.length
    · obtain ⟨b, o, ha, hb, hny⟩ := (hns.below hbl).resolve_left (fun e => by rw [e] at hlt; simp at hlt)
      subst ha
      obtain ⟨y, hy⟩ : ∃ y, r.ns[k]? = some y := ⟨_, List.getElem?_eq_getElem hlt⟩
      obtain ⟨q0, q1, q2, q3⟩ := hny k y hy
      have dlt : decide ((k : Int) < (r.ns.length : Int)) = true := decide_eq_true (by omega)
      obtain ⟨cR0, cR1, cR2, cR3, cR4, cR5⟩ := BR3.c6
      have zR := BR3.1
      obtain ⟨cX0, cX1, cX2, cX3, cX4⟩ := BX3.c5
      have zX := BX3.1
      by_cases he : y.port = x.thing
      · have de : (y.port == x.thing) = true := by simp [he]
        have HN := cnt_yes (p := atPort x.thing) hy (by unfold atPort; simp [he]) hn.out
        have HN' : Hid _ := HN
        clear he HN hny hns hn HS0 HC2 hy hr
        go_wp2_with fail
        go_quiet (fail)
        go_wp2_with fail
        go_roundw
        case rel => exact ⟨k + 1, m + 1, by omega, by omega, by go_num, by go_num, HN', below_drewN hbl _⟩
        case measure => simp [intOf]; omega
      · have de : (y.port == x.thing) = false := by simp [he]
        have HN := cnt_no (p := atPort x.thing) hy (by unfold atPort; simp [he]) hn.out
        have HN' : Hid _ := HN
        clear he HN hny hns hn HS0 HC2 hy hr
        go_wp2_with fail
        go_quiet (fail)
        go_wp2_with fail
        go_roundw
        case rel => exact ⟨k + 1, m, by omega, by omega, by go_num, rfl, HN', below_drewN hbl _⟩
        case measure => simp [intOf]; omega
    · have HW : Hid (waitL r x.thing = r.ns.filter (atPort x.thing)) := (show _ = _ from rfl)
      have hm2 : (waitL r x.thing).length = m := by have := hn.out; rw [List.take_of_length_le (by omega)] at this; exact this
      have hn3 : m ≤ 3 := by rw [← hm2]; exact h3'
      have dlt : decide ((k : Int) < (r.ns.length : Int)) = false := decide_eq_false (by omega)
      rw [hm2] at HC2
      clear hn hm2 h3' HW hns
      by_cases h9 : 3 ≤ m
      · have hC : C = 9 := by rw [← HC2.out, if_pos h9]
        subst hC
        obtain rfl : m = 3 := by omega
        clear HC2 h9 HS0 hr
        obtain ⟨cR0, cR1, cR2, cR3, cR4, cR5⟩ := BR3.c6
        have zR := BR3.1
        obtain ⟨cX0, cX1, cX2, cX3, cX4⟩ := BX3.c5
        have zX := BX3.1
        obtain ⟨cR0, cR1, cR2, cR3, cR4, cR5⟩ := BR3.c6
        have zR := BR3.1
        obtain ⟨cP0, cP1⟩ := BP3.c2
        have zP := BP3.1
        obtain ⟨cZ0, fZ0, cZ1, fZ1, cZ2, fZ2, cZ3, fZ3, cZ4, fZ4, cZ5, fZ5⟩ := BZ3.cf6
        have zZ := BZ3.1
        obtain ⟨cX0, cX1, cX2, cX3, cX4⟩ := BX3.c5
        have zX := BX3.1
        go_wp2_with fail
        obtain ⟨y0, y1, y2, y3, y4, y5⟩ := (BZ3.put6 (.slice none 0 0) (.slice none 0 0) (.slice none 0 0) (.slice none 0 0) (.int .i64 0) (.int .i64 0)).six
        have blF := (below_set6 bl3 (b := w.heap.size + 1 + 1) (by omega) (.slice none 0 0) (.slice none 0 0) (.slice none 0 0) (.slice none 0 0) (.int .i64 0) (.int .i64 0))
        refine bodyPost_ret (v := .tuple #[.agg #[.slice none 0 0, .slice none 0 0, .slice none 0 0, .slice none 0 0, .int .i64 0, .int .i64 0], .int .i64 9]) (by simp [results, Tryz.results60, go_sem, y0, y1, y2, y3, y4, y5]) rfl ?_
        exact ⟨.inl ⟨(by decide), rfl⟩, blF⟩
      have dm : ((m : Int) == 3) = false := by simp; omega
      have HC3 : Hid ((if t < 0 then 0 else if hasB x.rights 4 = false then 7 else if getC r h t ≠ 0 then getC r h t else if 999 < r.nw then 9 else drvCode (getW r h t) rights 0) = C) := (show _ = _ from (if_neg h9).symm.trans HC2.out)
      clear HC2 h9
      obtain ⟨cR0, cR1, cR2, cR3, cR4, cR5⟩ := BR3.c6
      have zR := BR3.1
      obtain ⟨cP0, cP1⟩ := BP3.c2
      have zP := BP3.1
      obtain ⟨cZ0, cZ1, cZ2, cZ3, cZ4, cZ5⟩ := BZ3.c6
      have zZ := BZ3.1
      obtain ⟨cX0, cX1, cX2, cX3, cX4⟩ := BX3.c5
      have zX := BX3.1
      go_wp2_with fail
      clear cR0 cR1 cR2 cR3 cR4 cR5 zR cP0 cP1 zP cZ0 cZ1 cZ2 cZ3 cZ4 cZ5 zZ cX0 cX1 cX2 cX3 cX4 zX
      have BR4 := BR3.alloc (.cells #[.int .i64 x.thing, .string d, .int .i64 x.badge, .int .i64 0] 52)
      have BP4 := BP3.alloc (.cells #[.int .i64 x.thing, .string d, .int .i64 x.badge, .int .i64 0] 52)
      have BZ4 := BZ3.alloc (.cells #[.int .i64 x.thing, .string d, .int .i64 x.badge, .int .i64 0] 52)
      have BX4 := BX3.alloc (.cells #[.int .i64 x.thing, .string d, .int .i64 x.badge, .int .i64 0] 52)
      have bl4 := bl3.alloc bl3.size (.cells #[.int .i64 x.thing, .string d, .int .i64 x.badge, .int .i64 0] 52)
      have BN4 := Bx.new wr [.int .i64 x.thing, .string d, .int .i64 x.badge, .int .i64 0] 52
      clear BR3 BP3 BZ3 BX3 bl3
      generalize hg3 : (wr.alloc (.cells #[.int .i64 x.thing, .string d, .int .i64 x.badge, .int .i64 0] 52)) = w3 at BR4 BP4 BZ4 BX4 BN4 bl4 ⊢
      clear hg3
      have sg3N := BN4.1
      have hs1 : w.heap.size ≤ w3.heap.size := bl4.size
      have hlow := BZ4.1
      refine (copyOf_own aw at_ ah an cw ct ch cn r _ (hr.below (bl4)) hz).mono ?_
      rintro e w4 ⟨b0, b1, b2, b3, d0, d1, d2, d3, rfl, hO, hb4⟩
      have sz4 : w3.heap.size ≤ w4.heap.size := hb4.size
      have BR5 := BR4.below hb4
      have BP5 := BP4.below hb4
      have BZ5 := BZ4.below hb4
      have BX5 := BX4.below hb4
      have BN5 := BN4.below hb4
      have bl5 := Below_after bl4 hb4
      clear BR4 BP4 BZ4 BX4 BN4 bl4
      have lw4 := BZ5.1
      have O5 := hO
      clear hO
      obtain ⟨w5, e5⟩ : ∃ V, ((((((w4.setCell ⟨w.heap.size, 0, none⟩ (.slice b0 r.ws.length d0)).setCell ⟨w.heap.size, 1, none⟩ (.slice b1 r.ts.length d1)).setCell ⟨w.heap.size, 2, none⟩ (.slice b2 r.hs.length d2)).setCell ⟨w.heap.size, 3, none⟩ (.slice b3 r.ns.length d3)).setCell ⟨w.heap.size, 4, none⟩ (.int .i64 r.nw)).setCell ⟨w.heap.size, 5, none⟩ (.int .i64 r.nt)) = V := ⟨_, rfl⟩
      have BR6 : Bx w5 (w.heap.size) [.slice b0 r.ws.length d0, .slice b1 r.ts.length d1, .slice b2 r.hs.length d2, .slice b3 r.ns.length d3, .int .i64 r.nw, .int .i64 r.nt] := by rw [← e5]; exact BR5.put6 _ _ _ _ _ _
      have BP6 := BP5.past6 (b' := w.heap.size) (by omega) (.slice b0 r.ws.length d0) (.slice b1 r.ts.length d1) (.slice b2 r.hs.length d2) (.slice b3 r.ns.length d3) (.int .i64 r.nw) (.int .i64 r.nt)
      rw [e5] at BP6
      have BZ6 := BZ5.past6 (b' := w.heap.size) (by omega) (.slice b0 r.ws.length d0) (.slice b1 r.ts.length d1) (.slice b2 r.hs.length d2) (.slice b3 r.ns.length d3) (.int .i64 r.nw) (.int .i64 r.nt)
      rw [e5] at BZ6
      have BX6 := BX5.past6 (b' := w.heap.size) (by omega) (.slice b0 r.ws.length d0) (.slice b1 r.ts.length d1) (.slice b2 r.hs.length d2) (.slice b3 r.ns.length d3) (.int .i64 r.nw) (.int .i64 r.nt)
      rw [e5] at BX6
      have BN6 := BN5.past6 (b' := w.heap.size) (by omega) (.slice b0 r.ws.length d0) (.slice b1 r.ts.length d1) (.slice b2 r.hs.length d2) (.slice b3 r.ns.length d3) (.int .i64 r.nw) (.int .i64 r.nt)
      rw [e5] at BN6
      have O6 := O5.set6 (b := w.heap.size) (by omega) (.slice b0 r.ws.length d0) (.slice b1 r.ts.length d1) (.slice b2 r.hs.length d2) (.slice b3 r.ns.length d3) (.int .i64 r.nw) (.int .i64 r.nt)
      rw [e5] at O6
      have bl6 := below_set6 bl5 (b := w.heap.size) (by omega) (.slice b0 r.ws.length d0) (.slice b1 r.ts.length d1) (.slice b2 r.hs.length d2) (.slice b3 r.ns.length d3) (.int .i64 r.nw) (.int .i64 r.nt)
      rw [e5] at bl6
      have hsw5 : w5.heap.size = w4.heap.size := by rw [← e5]; simp
      by_cases ht : t < 0
      · have hC : C = 0 := by rw [← HC3.out, if_pos ht]
        have dt : decide (0 ≤ t) = false := decide_eq_false (by omega)
        rw [if_pos ht] at HS0
        clear HC3 ht hr7
        have hgr := O6.below ((Below.refl _ _).alloc (Nat.le_refl _) (.cells #[.int .i64 x.thing, .string d, .int .i64 x.badge, .int .i64 0] 52))
        obtain ⟨o0, g0, o1, g1, o2, g2, o3, g3, o4, g4, o5, g5⟩ := BR5.cf6
        have zo := BR5.1
        obtain ⟨cR0, cR1, cR2, cR3, cR4, cR5⟩ := BR6.c6
        have zR := BR6.1
        obtain ⟨cP0, cP1⟩ := BP6.c2
        have zP := BP6.1
        obtain ⟨cZ0, cZ1, cZ2, cZ3, cZ4, cZ5⟩ := BZ6.c6
        have zZ := BZ6.1
        obtain ⟨cX0, cX1, cX2, cX3, cX4⟩ := BX6.c5
        have zX := BX6.1
        obtain ⟨cN0, cN1, cN2, cN3⟩ := BN6.c4
        have zN := BN6.1
        go_wp2_with (at_builtin; refine wpList_append_own _ rfl _ _ 28 rfl w3.heap.size 52 i0 (.agg #[.int .i64 0, .string ByteArray.empty, .int .i64 0, .int .i64 0]) 4 40 Tryz.underlying28 hi hi0 hi1 hi2 rfl (by decide) _ _ _ rfl hgr.rn _ 1 1 [.int .i64 x.thing, .string d, .int .i64 x.badge, .int .i64 0] rfl rfl (new4g w5 _ hsw5 _ _ _ _ _) (ncell_one ⟨x.thing, d, x.badge, 0⟩) ?c3 ?c4 ?c5 ?_)
        case c3 => show r.ns.length + 1 ≤ maxLen; unfold maxLen; omega
        case c4 => show (r.ns.length + 1) * 40 ≤ 140737488355328; omega
        case c5 => simp; omega
        intro v3' w6 hown6' hgrow _
        clear o0 g0 o1 g1 o2 g2 o3 g3 o4 g4 o5 g5 zo cR0 cR1 cR2 cR3 cR4 cR5 zR cP0 cP1 zP cZ0 cZ1 cZ2 cZ3 cZ4 cZ5 zZ cX0 cX1 cX2 cX3 cX4 zX cN0 cN1 cN2 cN3 zN
        clear e5
        have R6 := (BR6.alloc (.cells #[.int .i64 x.thing, .string d, .int .i64 x.badge, .int .i64 0] 52)).grown hgrow (fun e => by have := (hgr.rn.lt _ e.symm).1; omega)
        have Z6 := (BZ6.alloc (.cells #[.int .i64 x.thing, .string d, .int .i64 x.badge, .int .i64 0] 52)).grown hgrow (fun e => by have := (hgr.rn.lt _ e.symm).1; omega)
        have l6 : Below w.heap.size w w6 := (bl6.alloc bl6.size _).grown hgrow (by have := bl6.size; simp; omega) (fun k hk => by have := (hgr.rn.lt k hk).1; omega)
        have hO6 := hgr.grow3 (x := ⟨x.thing, d, x.badge, 0⟩) hgrow hown6'
        obtain ⟨T, hT⟩ : ∃ T, (r.ns ++ [(⟨x.thing, d, x.badge, 0⟩ : Nt)]).length = T := ⟨_, rfl⟩
        obtain ⟨a3', c3', hv3, -, -⟩ := nrow_at hO6.rn
        have hv3' : v3' = .slice a3' T c3' := hv3.trans (by rw [← hT])
        subst hv3'
        clear hv3 hT hgrow hown6' hgr
        obtain ⟨V9, e9⟩ : ∃ V, w6.setCell ⟨w.heap.size, 3, none⟩ (.slice a3' T c3') = V := ⟨_, rfl⟩
        have BR9 : Bx V9 w.heap.size [.slice b0 r.ws.length d0, .slice b1 r.ts.length d1, .slice b2 r.hs.length d2, .slice a3' T c3', .int .i64 r.nw, .int .i64 r.nt] := by rw [← e9]; exact R6.set 3 _
        have BZ9 : Bx V9 (w.heap.size + 1 + 1) [.slice none 0 0, .slice none 0 0, .slice none 0 0, .slice none 0 0, .int .i64 0, .int .i64 0] := by rw [← e9]; exact Z6.other (by omega) 3 _
        have bl9 : Below w.heap.size w V9 := by rw [← e9]; exact l6.setCell (p := ⟨w.heap.size, 3, none⟩) (Nat.le_refl _) _
        have hO9 := hO6.setLow (b := w.heap.size) (by omega) 3 (.slice a3' T c3')
        rw [e9] at hO9
        have HO9 : Hid (OwnsR _ _ _ _ _ _ _) := hO9
        have cP := (R6.2 3 _ rfl).1
        have fP := (R6.2 3 _ rfl).2
        have zP := R6.1
        clear hO9 hO6 Z6 l6 R6 BR6 BP6 BZ6 BX6 BN6 bl6 O6
        obtain ⟨cR0, cR1, cR2, cR3, cR4, cR5⟩ := BR9.c6
        have zR := BR9.1
        obtain ⟨cZ0, fZ0, cZ1, fZ1, cZ2, fZ2, cZ3, fZ3, cZ4, fZ4, cZ5, fZ5⟩ := BZ9.cf6
        have zZ := BZ9.1
        go_wp2_with fail
        obtain ⟨y0, y1, y2, y3, y4, y5⟩ := (BZ9.put6 (.slice b0 r.ws.length d0) (.slice b1 r.ts.length d1) (.slice b2 r.hs.length d2) (.slice a3' T c3') (.int .i64 r.nw) (.int .i64 r.nt)).six
        have blF := (below_set6 bl9 (b := w.heap.size + 1 + 1) (by omega) (.slice b0 r.ws.length d0) (.slice b1 r.ts.length d1) (.slice b2 r.hs.length d2) (.slice a3' T c3') (.int .i64 r.nw) (.int .i64 r.nt))
        refine bodyPost_ret (v := .tuple #[.agg #[.slice b0 r.ws.length d0, .slice b1 r.ts.length d1, .slice b2 r.hs.length d2, .slice a3' T c3', .int .i64 r.nw, .int .i64 r.nt], .int .i64 0]) (by simp [results, Tryz.results60, go_sem, y0, y1, y2, y3, y4, y5]) rfl ?_
        exact by rw [HS0.out]; exact OutP.ok hC (HO9.out.set6 hlow _ _ _ _ _ _) blF
      · have dt : decide (0 ≤ t) = true := decide_eq_true (by omega)
        have HC4 : Hid ((if hasB x.rights 4 = false then 7 else if getC r h t ≠ 0 then getC r h t else if 999 < r.nw then 9 else drvCode (getW r h t) rights 0) = C) := (show _ = _ from (if_neg ht).symm.trans HC3.out)
        rw [if_neg ht] at HS0
        clear HC3 ht
        obtain ⟨o0, g0, o1, g1, o2, g2, o3, g3, o4, g4, o5, g5⟩ := BR5.cf6
        have zo := BR5.1
        by_cases hq : hasB x.rights 4 = false
        · have hC : C = 7 := by rw [← HC4.out, if_pos hq]
          have dq : decide (x.rights < 4) = true := decide_eq_true ((hasB4 x.rights hxr.1 hxr.2).1 hq)
          subst hC
          clear hq HC4 HS0 hr7 hr
          obtain ⟨cX0, cX1, cX2, cX3, cX4⟩ := BX6.c5
          have zX := BX6.1
          obtain ⟨cR0, cR1, cR2, cR3, cR4, cR5⟩ := BR6.c6
          have zR := BR6.1
          obtain ⟨cP0, cP1⟩ := BP6.c2
          have zP := BP6.1
          obtain ⟨cZ0, fZ0, cZ1, fZ1, cZ2, fZ2, cZ3, fZ3, cZ4, fZ4, cZ5, fZ5⟩ := BZ6.cf6
          have zZ := BZ6.1
          obtain ⟨cX0, cX1, cX2, cX3, cX4⟩ := BX6.c5
          have zX := BX6.1
          obtain ⟨cN0, cN1, cN2, cN3⟩ := BN6.c4
          have zN := BN6.1
          go_wp2_with fail
          obtain ⟨y0, y1, y2, y3, y4, y5⟩ := (BZ6.put6 (.slice none 0 0) (.slice none 0 0) (.slice none 0 0) (.slice none 0 0) (.int .i64 0) (.int .i64 0)).six
          have blF := (below_set6 bl6 (b := w.heap.size + 1 + 1) (by omega) (.slice none 0 0) (.slice none 0 0) (.slice none 0 0) (.slice none 0 0) (.int .i64 0) (.int .i64 0))
          refine bodyPost_ret (v := .tuple #[.agg #[.slice none 0 0, .slice none 0 0, .slice none 0 0, .slice none 0 0, .int .i64 0, .int .i64 0], .int .i64 7]) (by simp [results, Tryz.results60, go_sem, y0, y1, y2, y3, y4, y5]) rfl ?_
          exact ⟨.inl ⟨(by decide), rfl⟩, blF⟩
        have dq : decide (x.rights < 4) = false := decide_eq_false (fun h' => hq ((hasB4 x.rights hxr.1 hxr.2).2 h'))
        have HC5 : Hid ((if getC r h t ≠ 0 then getC r h t else if 999 < r.nw then 9 else drvCode (getW r h t) rights 0) = C) := (show _ = _ from (if_neg hq).symm.trans HC4.out)
        clear HC4 hq
        obtain ⟨cR0, cR1, cR2, cR3, cR4, cR5⟩ := BR6.c6
        have zR := BR6.1
        obtain ⟨cP0, cP1⟩ := BP6.c2
        have zP := BP6.1
        obtain ⟨cZ0, cZ1, cZ2, cZ3, cZ4, cZ5⟩ := BZ6.c6
        have zZ := BZ6.1
        obtain ⟨cX0, cX1, cX2, cX3, cX4⟩ := BX6.c5
        have zX := BX6.1
        obtain ⟨cN0, cN1, cN2, cN3⟩ := BN6.c4
        have zN := BN6.1
        go_wp2_with fail
        refine (rwritAt_any b0 b1 b2 b3 d0 d1 d2 d3 r h t _ O6.rm hz).mono ?_
        rintro e w6 ⟨rfl, hb6⟩
        have sz6 : w5.heap.size ≤ w6.heap.size := hb6.size
        have BR7 := BR6.below hb6
        have BP7 := BP6.below hb6
        have BZ7 := BZ6.below hb6
        have BX7 := BX6.below hb6
        have BN7 := BN6.below hb6
        have O7 := O6.below hb6
        have bl7 := Below_after bl6 hb6
        clear BR6 BP6 BZ6 BX6 BN6 O6 bl6
        have lw6 := BZ7.1
        clear o0 g0 o1 g1 o2 g2 o3 g3 o4 g4 o5 g5 zo cR0 cR1 cR2 cR3 cR4 cR5 zR cP0 cP1 zP cZ0 cZ1 cZ2 cZ3 cZ4 cZ5 zZ cX0 cX1 cX2 cX3 cX4 zX cN0 cN1 cN2 cN3 zN
        clear e5
        by_cases hc : getC r h t = 0
        rotate_left
        · have hw0 : wAt r h t = zeroW := by unfold wAt; rw [if_neg hc]
          have hC : getC r h t = C := by rw [← HC5.out, if_pos hc]
          have hp := getC_pos r h t
          rw [hw0, hC]
          rw [hC] at hc hp
          have hd : decide (0 < C) = true := decide_eq_true (by omega)
          clear hw0 hC HC5 HS0 hr7 hr
          obtain ⟨cR0, cR1, cR2, cR3, cR4, cR5⟩ := BR7.c6
          have zR := BR7.1
          obtain ⟨cP0, cP1⟩ := BP7.c2
          have zP := BP7.1
          obtain ⟨cZ0, fZ0, cZ1, fZ1, cZ2, fZ2, cZ3, fZ3, cZ4, fZ4, cZ5, fZ5⟩ := BZ7.cf6
          have zZ := BZ7.1
          obtain ⟨cX0, cX1, cX2, cX3, cX4⟩ := BX7.c5
          have zX := BX7.1
          obtain ⟨cN0, cN1, cN2, cN3⟩ := BN7.c4
          have zN := BN7.1
          go_wp2_with fail
          obtain ⟨y0, y1, y2, y3, y4, y5⟩ := ((BZ7.put6 (.slice none 0 0) (.slice none 0 0) (.slice none 0 0) (.slice none 0 0) (.int .i64 0) (.int .i64 0)).alloc (.cells #[.int .i64 zeroW.id, .int .i64 zeroW.thing, .int .i64 zeroW.rights, .int .i64 zeroW.badge, .int .i64 zeroW.frm] 39)).six
          have blF := ((below_set6 bl7 (b := w.heap.size + 1 + 1) (by omega) (.slice none 0 0) (.slice none 0 0) (.slice none 0 0) (.slice none 0 0) (.int .i64 0) (.int .i64 0)).alloc (below_set6 bl7 (b := w.heap.size + 1 + 1) (by omega) (.slice none 0 0) (.slice none 0 0) (.slice none 0 0) (.slice none 0 0) (.int .i64 0) (.int .i64 0)).size (.cells #[.int .i64 zeroW.id, .int .i64 zeroW.thing, .int .i64 zeroW.rights, .int .i64 zeroW.badge, .int .i64 zeroW.frm] 39))
          refine bodyPost_ret (v := .tuple #[.agg #[.slice none 0 0, .slice none 0 0, .slice none 0 0, .slice none 0 0, .int .i64 0, .int .i64 0], .int .i64 C]) (by simp [results, Tryz.results60, go_sem, y0, y1, y2, y3, y4, y5]) rfl ?_
          exact ⟨.inl ⟨hc, rfl⟩, blF⟩
        have hw0 : wAt r h t = getW r h t := by unfold wAt; rw [if_pos hc]
        rw [hw0, hc]
        have hgr7 := hr7 h t hc
        have HC6 : Hid ((if 999 < r.nw then 9 else drvCode (getW r h t) rights 0) = C) := (show _ = _ from (if_neg (fun h' => h' hc)).symm.trans HC5.out)
        clear hw0 hr7 hc HC5
        generalize getW r h t = g at *
        by_cases h9 : 999 < r.nw
        · have hC : C = 9 := by rw [← HC6.out, if_pos h9]
          have dw : decide (999 < r.nw) = true := decide_eq_true h9
          subst hC
          clear HC6 h9 HS0 hr
          obtain ⟨cR0, cR1, cR2, cR3, cR4, cR5⟩ := BR7.c6
          have zR := BR7.1
          obtain ⟨cR0, cR1, cR2, cR3, cR4, cR5⟩ := BR7.c6
          have zR := BR7.1
          obtain ⟨cP0, cP1⟩ := BP7.c2
          have zP := BP7.1
          obtain ⟨cZ0, fZ0, cZ1, fZ1, cZ2, fZ2, cZ3, fZ3, cZ4, fZ4, cZ5, fZ5⟩ := BZ7.cf6
          have zZ := BZ7.1
          obtain ⟨cX0, cX1, cX2, cX3, cX4⟩ := BX7.c5
          have zX := BX7.1
          obtain ⟨cN0, cN1, cN2, cN3⟩ := BN7.c4
          have zN := BN7.1
          go_wp2_with fail
          obtain ⟨y0, y1, y2, y3, y4, y5⟩ := ((BZ7.put6 (.slice none 0 0) (.slice none 0 0) (.slice none 0 0) (.slice none 0 0) (.int .i64 0) (.int .i64 0)).alloc (.cells #[.int .i64 g.id, .int .i64 g.thing, .int .i64 g.rights, .int .i64 g.badge, .int .i64 g.frm] 39)).six
          have blF := ((below_set6 bl7 (b := w.heap.size + 1 + 1) (by omega) (.slice none 0 0) (.slice none 0 0) (.slice none 0 0) (.slice none 0 0) (.int .i64 0) (.int .i64 0)).alloc (below_set6 bl7 (b := w.heap.size + 1 + 1) (by omega) (.slice none 0 0) (.slice none 0 0) (.slice none 0 0) (.slice none 0 0) (.int .i64 0) (.int .i64 0)).size (.cells #[.int .i64 g.id, .int .i64 g.thing, .int .i64 g.rights, .int .i64 g.badge, .int .i64 g.frm] 39))
          refine bodyPost_ret (v := .tuple #[.agg #[.slice none 0 0, .slice none 0 0, .slice none 0 0, .slice none 0 0, .int .i64 0, .int .i64 0], .int .i64 9]) (by simp [results, Tryz.results60, go_sem, y0, y1, y2, y3, y4, y5]) rfl ?_
          exact ⟨.inl ⟨(by decide), rfl⟩, blF⟩
        have dw : decide (999 < r.nw) = false := decide_eq_false h9
        have HC7 : Hid (drvCode g rights 0 = C) := (show _ = _ from (if_neg h9).symm.trans HC6.out)
        clear HC6 h9
        obtain ⟨cR0, cR1, cR2, cR3, cR4, cR5⟩ := BR7.c6
        have zR := BR7.1
        obtain ⟨cP0, cP1⟩ := BP7.c2
        have zP := BP7.1
        obtain ⟨cZ0, cZ1, cZ2, cZ3, cZ4, cZ5⟩ := BZ7.c6
        have zZ := BZ7.1
        obtain ⟨cX0, cX1, cX2, cX3, cX4⟩ := BX7.c5
        have zX := BX7.1
        obtain ⟨cN0, cN1, cN2, cN3⟩ := BN7.c4
        have zN := BN7.1
        go_wp2_with fail
        clear cR0 cR1 cR2 cR3 cR4 cR5 zR cP0 cP1 zP cZ0 cZ1 cZ2 cZ3 cZ4 cZ5 zZ cX0 cX1 cX2 cX3 cX4 zX cN0 cN1 cN2 cN3 zN
        have BR8 := BR7.alloc (.cells #[.int .i64 g.id, .int .i64 g.thing, .int .i64 g.rights, .int .i64 g.badge, .int .i64 g.frm] 39)
        have BP8 := BP7.alloc (.cells #[.int .i64 g.id, .int .i64 g.thing, .int .i64 g.rights, .int .i64 g.badge, .int .i64 g.frm] 39)
        have BZ8 := BZ7.alloc (.cells #[.int .i64 g.id, .int .i64 g.thing, .int .i64 g.rights, .int .i64 g.badge, .int .i64 g.frm] 39)
        have BX8 := BX7.alloc (.cells #[.int .i64 g.id, .int .i64 g.thing, .int .i64 g.rights, .int .i64 g.badge, .int .i64 g.frm] 39)
        have BN8 := BN7.alloc (.cells #[.int .i64 g.id, .int .i64 g.thing, .int .i64 g.rights, .int .i64 g.badge, .int .i64 g.frm] 39)
        have O8 := O7.below ((Below.refl _ _).alloc (Nat.le_refl _) (.cells #[.int .i64 g.id, .int .i64 g.thing, .int .i64 g.rights, .int .i64 g.badge, .int .i64 g.frm] 39))
        have bl8 := bl7.alloc bl7.size (.cells #[.int .i64 g.id, .int .i64 g.thing, .int .i64 g.rights, .int .i64 g.badge, .int .i64 g.frm] 39)
        have BY8 := Bx.new w6 [.int .i64 g.id, .int .i64 g.thing, .int .i64 g.rights, .int .i64 g.badge, .int .i64 g.frm] 39
        clear BR7 BP7 BZ7 BX7 BN7 O7 bl7
        generalize hg7 : (w6.alloc (.cells #[.int .i64 g.id, .int .i64 g.thing, .int .i64 g.rights, .int .i64 g.badge, .int .i64 g.frm] 39)) = w7 at BR8 BP8 BZ8 BX8 BN8 BY8 O8 bl8 ⊢
        clear hg7
        have sg7Y := BY8.1
        by_cases hv : drvCode g rights 0 = 0
        rotate_left
        · refine (derived_err g r.nw rights 0 _ hgr7.1 hgr7.2 hv).mono ?_
          rintro e w8 ⟨rfl, hb8⟩
          have sz8 : w7.heap.size ≤ w8.heap.size := hb8.size
          have BR9 := BR8.below hb8
          have BP9 := BP8.below hb8
          have BZ9 := BZ8.below hb8
          have BX9 := BX8.below hb8
          have BN9 := BN8.below hb8
          have BY9 := BY8.below hb8
          have O9 := O8.below hb8
          have bl9 := Below_after bl8 hb8
          clear BR8 BP8 BZ8 BX8 BN8 BY8 O8 bl8
          have lw8 := BZ9.1
          have hC : drvCode g rights 0 = C := HC7.out
          have hp := drvCode_pos g rights 0
          rw [hC]
          rw [hC] at hv hp
          have hd : decide (0 < C) = true := decide_eq_true (by omega)
          clear hC HC7 HS0 hr
          obtain ⟨cR0, cR1, cR2, cR3, cR4, cR5⟩ := BR9.c6
          have zR := BR9.1
          obtain ⟨cP0, cP1⟩ := BP9.c2
          have zP := BP9.1
          obtain ⟨cZ0, fZ0, cZ1, fZ1, cZ2, fZ2, cZ3, fZ3, cZ4, fZ4, cZ5, fZ5⟩ := BZ9.cf6
          have zZ := BZ9.1
          obtain ⟨cX0, cX1, cX2, cX3, cX4⟩ := BX9.c5
          have zX := BX9.1
          obtain ⟨cN0, cN1, cN2, cN3⟩ := BN9.c4
          have zN := BN9.1
          obtain ⟨cY0, cY1, cY2, cY3, cY4⟩ := BY9.c5
          have zY := BY9.1
          go_wp2_with fail
          obtain ⟨y0, y1, y2, y3, y4, y5⟩ := ((BZ9.put6 (.slice none 0 0) (.slice none 0 0) (.slice none 0 0) (.slice none 0 0) (.int .i64 0) (.int .i64 0)).alloc (.cells #[.int .i64 0, .int .i64 0, .int .i64 0, .int .i64 0, .int .i64 0] 39)).six
          have blF := ((below_set6 bl9 (b := w.heap.size + 1 + 1) (by omega) (.slice none 0 0) (.slice none 0 0) (.slice none 0 0) (.slice none 0 0) (.int .i64 0) (.int .i64 0)).alloc (below_set6 bl9 (b := w.heap.size + 1 + 1) (by omega) (.slice none 0 0) (.slice none 0 0) (.slice none 0 0) (.slice none 0 0) (.int .i64 0) (.int .i64 0)).size (.cells #[.int .i64 0, .int .i64 0, .int .i64 0, .int .i64 0, .int .i64 0] 39))
          refine bodyPost_ret (v := .tuple #[.agg #[.slice none 0 0, .slice none 0 0, .slice none 0 0, .slice none 0 0, .int .i64 0, .int .i64 0], .int .i64 C]) (by simp [results, Tryz.results60, go_sem, y0, y1, y2, y3, y4, y5]) rfl ?_
          exact ⟨.inl ⟨hv, rfl⟩, blF⟩
        obtain ⟨v, hv'⟩ : ∃ v, drvW g r.nw rights 0 = v := ⟨_, rfl⟩
        have Hv : Hid (drvW g r.nw rights 0 = v) := hv'
        have Hvi : Hid (v.id = r.nw) := (show _ = _ from by rw [← hv']; rfl)
        refine (derived_any g r.nw rights 0 _ hgr7.1 hgr7.2 hv v hv').mono ?_
        rintro e w8 ⟨rfl, hb8⟩
        have sz8 : w7.heap.size ≤ w8.heap.size := hb8.size
        have BR9 := BR8.below hb8
        have BP9 := BP8.below hb8
        have BZ9 := BZ8.below hb8
        have BX9 := BX8.below hb8
        have BN9 := BN8.below hb8
        have BY9 := BY8.below hb8
        have O9 := O8.below hb8
        have bl9 := Below_after bl8 hb8
        clear BR8 BP8 BZ8 BX8 BN8 BY8 O8 bl8
        have lw8 := BZ9.1
        have hC : C = 0 := HC7.out.symm.trans hv
        clear HC7 hv hv'
        obtain ⟨cR0, cR1, cR2, cR3, cR4, cR5⟩ := BR9.c6
        have zR := BR9.1
        obtain ⟨cP0, cP1⟩ := BP9.c2
        have zP := BP9.1
        obtain ⟨cZ0, cZ1, cZ2, cZ3, cZ4, cZ5⟩ := BZ9.c6
        have zZ := BZ9.1
        obtain ⟨cX0, cX1, cX2, cX3, cX4⟩ := BX9.c5
        have zX := BX9.1
        obtain ⟨cN0, cN1, cN2, cN3⟩ := BN9.c4
        have zN := BN9.1
        obtain ⟨cY0, cY1, cY2, cY3, cY4⟩ := BY9.c5
        have zY := BY9.1
        go_wp2_with fail
        clear cR0 cR1 cR2 cR3 cR4 cR5 zR cP0 cP1 zP cZ0 cZ1 cZ2 cZ3 cZ4 cZ5 zZ cX0 cX1 cX2 cX3 cX4 zX cN0 cN1 cN2 cN3 zN cY0 cY1 cY2 cY3 cY4 zY
        have BR10 := BR9.alloc (.cells #[.int .i64 v.id, .int .i64 v.thing, .int .i64 v.rights, .int .i64 v.badge, .int .i64 v.frm] 39)
        have BP10 := BP9.alloc (.cells #[.int .i64 v.id, .int .i64 v.thing, .int .i64 v.rights, .int .i64 v.badge, .int .i64 v.frm] 39)
        have BZ10 := BZ9.alloc (.cells #[.int .i64 v.id, .int .i64 v.thing, .int .i64 v.rights, .int .i64 v.badge, .int .i64 v.frm] 39)
        have BX10 := BX9.alloc (.cells #[.int .i64 v.id, .int .i64 v.thing, .int .i64 v.rights, .int .i64 v.badge, .int .i64 v.frm] 39)
        have BN10 := BN9.alloc (.cells #[.int .i64 v.id, .int .i64 v.thing, .int .i64 v.rights, .int .i64 v.badge, .int .i64 v.frm] 39)
        have BY10 := BY9.alloc (.cells #[.int .i64 v.id, .int .i64 v.thing, .int .i64 v.rights, .int .i64 v.badge, .int .i64 v.frm] 39)
        have O10 := O9.below ((Below.refl _ _).alloc (Nat.le_refl _) (.cells #[.int .i64 v.id, .int .i64 v.thing, .int .i64 v.rights, .int .i64 v.badge, .int .i64 v.frm] 39))
        have bl10 := bl9.alloc bl9.size (.cells #[.int .i64 v.id, .int .i64 v.thing, .int .i64 v.rights, .int .i64 v.badge, .int .i64 v.frm] 39)
        have BG10 := Bx.new w8 [.int .i64 v.id, .int .i64 v.thing, .int .i64 v.rights, .int .i64 v.badge, .int .i64 v.frm] 39
        clear BR9 BP9 BZ9 BX9 BN9 BY9 O9 bl9
        generalize hg9 : (w8.alloc (.cells #[.int .i64 v.id, .int .i64 v.thing, .int .i64 v.rights, .int .i64 v.badge, .int .i64 v.frm] 39)) = w9 at BR10 BP10 BZ10 BX10 BN10 BY10 BG10 O10 bl10 ⊢
        clear hg9
        have sg9G := BG10.1
        have hs2 : w.heap.size ≤ w9.heap.size := bl10.size
        have hg2 := BG10.1
        have hlow2 := BZ10.1
        refine (radded_any b0 b1 b2 b3 d0 d1 d2 d3 r v _ O10.rm hz).mono ?_
        rintro e w10 ⟨v0, v1, v2, v3, rfl, hO, hb10⟩
        have sz10 : w9.heap.size ≤ w10.heap.size := hb10.size
        have BR11 := BR10.below hb10
        have BP11 := BP10.below hb10
        have BZ11 := BZ10.below hb10
        have BX11 := BX10.below hb10
        have BN11 := BN10.below hb10
        have BY11 := BY10.below hb10
        have BG11 := BG10.below hb10
        have O11 := O10.below hb10
        have bl11 := Below_after bl10 hb10
        clear BR10 BP10 BZ10 BX10 BN10 BY10 BG10 O10 bl10
        have lw10 := BZ11.1
        clear O11
        obtain ⟨L, hL⟩ : ∃ L, (r.ws ++ [v]).length = L := ⟨_, rfl⟩
        obtain ⟨a0, a1, a2, a3, c0, c1, c2, c3, rfl, rfl, rfl, rfl, -⟩ := hO.at4 (L0 := L) (L1 := r.ts.length) (L2 := r.hs.length) (L3 := r.ns.length) hL rfl rfl rfl
        have O11 := hO
        clear hO hL
        obtain ⟨w11, e11⟩ : ∃ V, ((((((w10.setCell ⟨w.heap.size, 0, none⟩ (.slice a0 L c0)).setCell ⟨w.heap.size, 1, none⟩ (.slice a1 r.ts.length c1)).setCell ⟨w.heap.size, 2, none⟩ (.slice a2 r.hs.length c2)).setCell ⟨w.heap.size, 3, none⟩ (.slice a3 r.ns.length c3)).setCell ⟨w.heap.size, 4, none⟩ (.int .i64 (r.nw + 1))).setCell ⟨w.heap.size, 5, none⟩ (.int .i64 r.nt)) = V := ⟨_, rfl⟩
        have BR12 : Bx w11 (w.heap.size) [.slice a0 L c0, .slice a1 r.ts.length c1, .slice a2 r.hs.length c2, .slice a3 r.ns.length c3, .int .i64 (r.nw + 1), .int .i64 r.nt] := by rw [← e11]; exact BR11.put6 _ _ _ _ _ _
        have BP12 := BP11.past6 (b' := w.heap.size) (by omega) (.slice a0 L c0) (.slice a1 r.ts.length c1) (.slice a2 r.hs.length c2) (.slice a3 r.ns.length c3) (.int .i64 (r.nw + 1)) (.int .i64 r.nt)
        rw [e11] at BP12
        have BZ12 := BZ11.past6 (b' := w.heap.size) (by omega) (.slice a0 L c0) (.slice a1 r.ts.length c1) (.slice a2 r.hs.length c2) (.slice a3 r.ns.length c3) (.int .i64 (r.nw + 1)) (.int .i64 r.nt)
        rw [e11] at BZ12
        have BX12 := BX11.past6 (b' := w.heap.size) (by omega) (.slice a0 L c0) (.slice a1 r.ts.length c1) (.slice a2 r.hs.length c2) (.slice a3 r.ns.length c3) (.int .i64 (r.nw + 1)) (.int .i64 r.nt)
        rw [e11] at BX12
        have BN12 := BN11.past6 (b' := w.heap.size) (by omega) (.slice a0 L c0) (.slice a1 r.ts.length c1) (.slice a2 r.hs.length c2) (.slice a3 r.ns.length c3) (.int .i64 (r.nw + 1)) (.int .i64 r.nt)
        rw [e11] at BN12
        have BY12 := BY11.past6 (b' := w.heap.size) (by omega) (.slice a0 L c0) (.slice a1 r.ts.length c1) (.slice a2 r.hs.length c2) (.slice a3 r.ns.length c3) (.int .i64 (r.nw + 1)) (.int .i64 r.nt)
        rw [e11] at BY12
        have BG12 := BG11.past6 (b' := w.heap.size) (by omega) (.slice a0 L c0) (.slice a1 r.ts.length c1) (.slice a2 r.hs.length c2) (.slice a3 r.ns.length c3) (.int .i64 (r.nw + 1)) (.int .i64 r.nt)
        rw [e11] at BG12
        have O12 := O11.set6 (b := w.heap.size) (by omega) (.slice a0 L c0) (.slice a1 r.ts.length c1) (.slice a2 r.hs.length c2) (.slice a3 r.ns.length c3) (.int .i64 (r.nw + 1)) (.int .i64 r.nt)
        rw [e11] at O12
        have bl12 := below_set6 bl11 (b := w.heap.size) (by omega) (.slice a0 L c0) (.slice a1 r.ts.length c1) (.slice a2 r.hs.length c2) (.slice a3 r.ns.length c3) (.int .i64 (r.nw + 1)) (.int .i64 r.nt)
        rw [e11] at bl12
        have hsw11 : w11.heap.size = w10.heap.size := by rw [← e11]; simp
        obtain ⟨w12, e12⟩ : ∃ V, (w11.setCell ⟨wr.heap.size, 3, none⟩ (.int .i64 v.id)) = V := ⟨_, rfl⟩
        have BR13 := BR12.other (b' := wr.heap.size) (by omega) 3 (.int .i64 v.id)
        rw [e12] at BR13
        have BP13 := BP12.other (b' := wr.heap.size) (by omega) 3 (.int .i64 v.id)
        rw [e12] at BP13
        have BZ13 := BZ12.other (b' := wr.heap.size) (by omega) 3 (.int .i64 v.id)
        rw [e12] at BZ13
        have BX13 := BX12.other (b' := wr.heap.size) (by omega) 3 (.int .i64 v.id)
        rw [e12] at BX13
        have BN13 : Bx w12 (wr.heap.size) [.int .i64 x.thing, .string d, .int .i64 x.badge, .int .i64 v.id] := by rw [← e12]; exact BN12.set 3 _
        have BY13 := BY12.other (b' := wr.heap.size) (by omega) 3 (.int .i64 v.id)
        rw [e12] at BY13
        have BG13 := BG12.other (b' := wr.heap.size) (by omega) 3 (.int .i64 v.id)
        rw [e12] at BG13
        have O13 := O12.setLow (b := wr.heap.size) (by omega) 3 (.int .i64 v.id)
        rw [e12] at O13
        have bl13 := bl12.setCell (p := ⟨wr.heap.size, 3, none⟩) (by show w.heap.size ≤ wr.heap.size; omega) (.int .i64 v.id)
        rw [e12] at bl13
        have hsw12 : w12.heap.size = w11.heap.size := by rw [← e12]; simp
        have hgr := O13.below ((Below.refl _ _).alloc (Nat.le_refl _) (.cells #[.int .i64 x.thing, .string d, .int .i64 x.badge, .int .i64 v.id] 52))
        obtain ⟨o0, g0, o1, g1, o2, g2, o3, g3, o4, g4, o5, g5⟩ := BR11.cf6
        have zo := BR11.1
        obtain ⟨oN, gN⟩ := BN12.2 3 _ rfl
        have zN9 := BN12.1
        have cg0 := (BG12.2 0 _ rfl).1
        obtain ⟨cR0, cR1, cR2, cR3, cR4, cR5⟩ := BR13.c6
        have zR := BR13.1
        obtain ⟨cP0, cP1⟩ := BP13.c2
        have zP := BP13.1
        obtain ⟨cZ0, cZ1, cZ2, cZ3, cZ4, cZ5⟩ := BZ13.c6
        have zZ := BZ13.1
        obtain ⟨cX0, cX1, cX2, cX3, cX4⟩ := BX13.c5
        have zX := BX13.1
        obtain ⟨cN0, cN1, cN2, cN3⟩ := BN13.c4
        have zN := BN13.1
        obtain ⟨cY0, cY1, cY2, cY3, cY4⟩ := BY13.c5
        have zY := BY13.1
        obtain ⟨cG0, cG1, cG2, cG3, cG4⟩ := BG13.c5
        have zG := BG13.1
        go_wp2_with (at_builtin; refine wpList_append_own _ rfl _ _ 28 rfl w9.heap.size 52 i0 (.agg #[.int .i64 0, .string ByteArray.empty, .int .i64 0, .int .i64 0]) 4 40 Tryz.underlying28 hi hi0 hi1 hi2 rfl (by decide) _ _ _ rfl hgr.rn _ 1 1 [.int .i64 x.thing, .string d, .int .i64 x.badge, .int .i64 v.id] rfl rfl (new4g w12 _ (hsw12.trans hsw11) _ _ _ _ _) (ncell_one ⟨x.thing, d, x.badge, v.id⟩) ?c3 ?c4 ?c5 ?_)
        case c3 => show r.ns.length + 1 ≤ maxLen; unfold maxLen; omega
        case c4 => show (r.ns.length + 1) * 40 ≤ 140737488355328; omega
        case c5 => simp; omega
        intro v3' w6 hown6' hgrow _
        clear o0 g0 o1 g1 o2 g2 o3 g3 o4 g4 o5 g5 zo oN gN zN9 cg0 cR0 cR1 cR2 cR3 cR4 cR5 zR cP0 cP1 zP cZ0 cZ1 cZ2 cZ3 cZ4 cZ5 zZ cX0 cX1 cX2 cX3 cX4 zX cN0 cN1 cN2 cN3 zN cY0 cY1 cY2 cY3 cY4 zY cG0 cG1 cG2 cG3 cG4 zG
        clear e11 e12
        have R6 := (BR13.alloc (.cells #[.int .i64 x.thing, .string d, .int .i64 x.badge, .int .i64 v.id] 52)).grown hgrow (fun e => by have := (hgr.rn.lt _ e.symm).1; omega)
        have Z6 := (BZ13.alloc (.cells #[.int .i64 x.thing, .string d, .int .i64 x.badge, .int .i64 v.id] 52)).grown hgrow (fun e => by have := (hgr.rn.lt _ e.symm).1; omega)
        have l6 : Below w.heap.size w w6 := (bl13.alloc bl13.size _).grown hgrow (by have := bl13.size; simp; omega) (fun k hk => by have := (hgr.rn.lt k hk).1; omega)
        have hO6 := hgr.grow3 (x := ⟨x.thing, d, x.badge, v.id⟩) hgrow hown6'
        obtain ⟨T, hT⟩ : ∃ T, (r.ns ++ [(⟨x.thing, d, x.badge, v.id⟩ : Nt)]).length = T := ⟨_, rfl⟩
        obtain ⟨a3', c3', hv3, -, -⟩ := nrow_at hO6.rn
        have hv3' : v3' = .slice a3' T c3' := hv3.trans (by rw [← hT])
        subst hv3'
        clear hv3 hT hgrow hown6' hgr
        obtain ⟨V9, e9⟩ : ∃ V, w6.setCell ⟨w.heap.size, 3, none⟩ (.slice a3' T c3') = V := ⟨_, rfl⟩
        have BR9 : Bx V9 w.heap.size [.slice a0 L c0, .slice a1 r.ts.length c1, .slice a2 r.hs.length c2, .slice a3' T c3', .int .i64 (r.nw + 1), .int .i64 r.nt] := by rw [← e9]; exact R6.set 3 _
        have BZ9 : Bx V9 (w.heap.size + 1 + 1) [.slice none 0 0, .slice none 0 0, .slice none 0 0, .slice none 0 0, .int .i64 0, .int .i64 0] := by rw [← e9]; exact Z6.other (by omega) 3 _
        have bl9 : Below w.heap.size w V9 := by rw [← e9]; exact l6.setCell (p := ⟨w.heap.size, 3, none⟩) (Nat.le_refl _) _
        have hO9 := hO6.setLow (b := w.heap.size) (by omega) 3 (.slice a3' T c3')
        rw [e9] at hO9
        have HO9 : Hid (OwnsR _ _ _ _ _ _ _) := hO9
        have cP := (R6.2 3 _ rfl).1
        have fP := (R6.2 3 _ rfl).2
        have zP := R6.1
        clear hO9 hO6 Z6 l6 R6 BR13 BP13 BZ13 BX13 BN13 BY13 BG13 bl13 O13
        obtain ⟨cR0, cR1, cR2, cR3, cR4, cR5⟩ := BR9.c6
        have zR := BR9.1
        obtain ⟨cZ0, fZ0, cZ1, fZ1, cZ2, fZ2, cZ3, fZ3, cZ4, fZ4, cZ5, fZ5⟩ := BZ9.cf6
        have zZ := BZ9.1
        go_wp2_with fail
        obtain ⟨y0, y1, y2, y3, y4, y5⟩ := (BZ9.put6 (.slice a0 L c0) (.slice a1 r.ts.length c1) (.slice a2 r.hs.length c2) (.slice a3' T c3') (.int .i64 (r.nw + 1)) (.int .i64 r.nt)).six
        have blF := (below_set6 bl9 (b := w.heap.size + 1 + 1) (by omega) (.slice a0 L c0) (.slice a1 r.ts.length c1) (.slice a2 r.hs.length c2) (.slice a3' T c3') (.int .i64 (r.nw + 1)) (.int .i64 r.nt))
        refine bodyPost_ret (v := .tuple #[.agg #[.slice a0 L c0, .slice a1 r.ts.length c1, .slice a2 r.hs.length c2, .slice a3' T c3', .int .i64 (r.nw + 1), .int .i64 r.nt], .int .i64 0]) (by simp [results, Tryz.results60, go_sem, y0, y1, y2, y3, y4, y5]) rfl ?_
        exact by rw [show sendR r h s d t rights = ⟨r.ws ++ [v], r.ts, r.hs, r.ns ++ [⟨x.thing, d, x.badge, v.id⟩], r.nw + 1, r.nt⟩ from by rw [HS0.out, Hv.out, Hvi.out]]; exact OutP.ok rfl (HO9.out.set6 hlow2 _ _ _ _ _ _) blF
end Go.Proofs.YtddgpgldbekamaaGreat
