/- realm.Give, Move (E3), as the landed code has them. -/
import Derived.Test.YtddgpgldbekamaaGreatBox
import Derived.Test.YtddgpgldbekamaaGreatMakeW
set_option linter.unusedSimpArgs false
set_option linter.unusedVariables false
namespace Go.Proofs.YtddgpgldbekamaaGreat
open Go.RowKit

set_option maxHeartbeats 2000000 in
set_option maxRecDepth 100000 in
theorem give_get (aw at_ ah an : Option Addr) (cw ct ch cn : Nat) (r : Rm) (h s g t rights badge : Int) (w : World) (hr : RmAt w aw at_ ah an cw ct ch cn r) (hz : RmSz r) (hc : getC r h s ≠ 0) :
    Calls Tryz.prog 48 #[.agg #[.slice aw r.ws.length cw, .slice at_ r.ts.length ct, .slice ah r.hs.length ch, .slice an r.ns.length cn, .int .i64 r.nw, .int .i64 r.nt], .agg #[.int .i64 h, .int .i64 s], .agg #[.int .i64 g, .int .i64 t], .int .i64 rights, .int .i64 badge] w fun e w' => e = .returned (.tuple #[.agg #[.slice none 0 0, .slice none 0 0, .slice none 0 0, .slice none 0 0, .int .i64 0, .int .i64 0], .iface 69 (.int .i64 (getC r h s))]) ∧ Below w.heap.size w w' := by
  obtain ⟨BR0, BP0, BQ0, BZ0, bl0⟩ := boxes4 w [.slice aw r.ws.length cw, .slice at_ r.ts.length ct, .slice ah r.hs.length ch, .slice an r.ns.length cn, .int .i64 r.nw, .int .i64 r.nt] 30 [.int .i64 h, .int .i64 s] 33 [.int .i64 g, .int .i64 t] 33 [.slice none 0 0, .slice none 0 0, .slice none 0 0, .slice none 0 0, .int .i64 0, .int .i64 0] 30
  go_enter Tryz.func48, Tryz.ntmps48
  go_wp2_with fail
  refine (get_err aw at_ ah an cw ct ch cn r h s _ (hr.below bl0) hz hc).mono ?_
  rintro e w1 ⟨rfl, hb1⟩
  have BR1 := BR0.below hb1
  have BP1 := BP0.below hb1
  have BQ1 := BQ0.below hb1
  have BZ1 := BZ0.below hb1
  have bl1 := Below_after bl0 hb1
  clear BR0 BP0 BQ0 BZ0 bl0
  generalize hD' : getC r h s = D at *
  have HD : Hid (getC r h s = D) := hD'
  clear hD'
  obtain ⟨cR0, cR1, cR2, cR3, cR4, cR5⟩ := BR1.c6
  have zR := BR1.1
  obtain ⟨cP0, cP1⟩ := BP1.c2
  have zP := BP1.1
  obtain ⟨cQ0, cQ1⟩ := BQ1.c2
  have zQ := BQ1.1
  obtain ⟨cZ0, fZ0, cZ1, fZ1, cZ2, fZ2, cZ3, fZ3, cZ4, fZ4, cZ5, fZ5⟩ := BZ1.cf6
  have zZ := BZ1.1
  go_wp2_with fail
  obtain ⟨y0, y1, y2, y3, y4, y5⟩ := ((BZ1.put6 (.slice none 0 0) (.slice none 0 0) (.slice none 0 0) (.slice none 0 0) (.int .i64 0) (.int .i64 0)).alloc (.cells #[.int .i64 0, .int .i64 0, .int .i64 0, .int .i64 0, .int .i64 0] 39)).six
  have blF := ((below_set6 bl1 (b := w.heap.size + 1 + 1 + 1) (by omega) (.slice none 0 0) (.slice none 0 0) (.slice none 0 0) (.slice none 0 0) (.int .i64 0) (.int .i64 0)).alloc (below_set6 bl1 (b := w.heap.size + 1 + 1 + 1) (by omega) (.slice none 0 0) (.slice none 0 0) (.slice none 0 0) (.slice none 0 0) (.int .i64 0) (.int .i64 0)).size (.cells #[.int .i64 0, .int .i64 0, .int .i64 0, .int .i64 0, .int .i64 0] 39))
  refine bodyPost_ret (v := .tuple #[.agg #[.slice none 0 0, .slice none 0 0, .slice none 0 0, .slice none 0 0, .int .i64 0, .int .i64 0], .iface 69 (.int .i64 D)]) (by simp [results, Tryz.results48, go_sem, y0, y1, y2, y3, y4, y5]) rfl ?_
  exact ⟨by rw [HD.out], blF⟩
set_option maxHeartbeats 2000000 in
set_option maxRecDepth 100000 in
theorem give_place (aw at_ ah an : Option Addr) (cw ct ch cn : Nat) (r : Rm) (h s g t rights badge : Int) (w : World) (hr : RmAt w aw at_ ah an cw ct ch cn r) (hz : RmSz r) (hc : getC r h s = 0) (hf : freeC r g t ≠ 0) :
    Calls Tryz.prog 48 #[.agg #[.slice aw r.ws.length cw, .slice at_ r.ts.length ct, .slice ah r.hs.length ch, .slice an r.ns.length cn, .int .i64 r.nw, .int .i64 r.nt], .agg #[.int .i64 h, .int .i64 s], .agg #[.int .i64 g, .int .i64 t], .int .i64 rights, .int .i64 badge] w fun e w' => e = .returned (.tuple #[.agg #[.slice none 0 0, .slice none 0 0, .slice none 0 0, .slice none 0 0, .int .i64 0, .int .i64 0], .iface 69 (.int .i64 (freeC r g t))]) ∧ Below w.heap.size w w' := by
  obtain ⟨BR0, BP0, BQ0, BZ0, bl0⟩ := boxes4 w [.slice aw r.ws.length cw, .slice at_ r.ts.length ct, .slice ah r.hs.length ch, .slice an r.ns.length cn, .int .i64 r.nw, .int .i64 r.nt] 30 [.int .i64 h, .int .i64 s] 33 [.int .i64 g, .int .i64 t] 33 [.slice none 0 0, .slice none 0 0, .slice none 0 0, .slice none 0 0, .int .i64 0, .int .i64 0] 30
  go_enter Tryz.func48, Tryz.ntmps48
  go_wp2_with fail
  refine (get_ok aw at_ ah an cw ct ch cn r h s _ (hr.below bl0) hz hc).mono ?_
  rintro e w1 ⟨rfl, hb1⟩
  have BR1 := BR0.below hb1
  have BP1 := BP0.below hb1
  have BQ1 := BQ0.below hb1
  have BZ1 := BZ0.below hb1
  have bl1 := Below_after bl0 hb1
  clear BR0 BP0 BQ0 BZ0 bl0
  generalize hx' : getW r h s = x at *
  have Hx : Hid (getW r h s = x) := hx'
  clear hx'
  obtain ⟨cR0, cR1, cR2, cR3, cR4, cR5⟩ := BR1.c6
  have zR := BR1.1
  obtain ⟨cP0, cP1⟩ := BP1.c2
  have zP := BP1.1
  obtain ⟨cQ0, cQ1⟩ := BQ1.c2
  have zQ := BQ1.1
  obtain ⟨cZ0, cZ1, cZ2, cZ3, cZ4, cZ5⟩ := BZ1.c6
  have zZ := BZ1.1
  go_wp2_with fail
  clear cR0 cR1 cR2 cR3 cR4 cR5 zR cP0 cP1 zP cQ0 cQ1 zQ cZ0 cZ1 cZ2 cZ3 cZ4 cZ5 zZ
  have BR2 := BR1.alloc (.cells #[.int .i64 x.id, .int .i64 x.thing, .int .i64 x.rights, .int .i64 x.badge, .int .i64 x.frm] 39)
  have BP2 := BP1.alloc (.cells #[.int .i64 x.id, .int .i64 x.thing, .int .i64 x.rights, .int .i64 x.badge, .int .i64 x.frm] 39)
  have BQ2 := BQ1.alloc (.cells #[.int .i64 x.id, .int .i64 x.thing, .int .i64 x.rights, .int .i64 x.badge, .int .i64 x.frm] 39)
  have BZ2 := BZ1.alloc (.cells #[.int .i64 x.id, .int .i64 x.thing, .int .i64 x.rights, .int .i64 x.badge, .int .i64 x.frm] 39)
  have bl2 := bl1.alloc bl1.size (.cells #[.int .i64 x.id, .int .i64 x.thing, .int .i64 x.rights, .int .i64 x.badge, .int .i64 x.frm] 39)
  have BX2 := Bx.new w1 [.int .i64 x.id, .int .i64 x.thing, .int .i64 x.rights, .int .i64 x.badge, .int .i64 x.frm] 39
  clear BR1 BP1 BQ1 BZ1 bl1
  generalize hg2 : (w1.alloc (.cells #[.int .i64 x.id, .int .i64 x.thing, .int .i64 x.rights, .int .i64 x.badge, .int .i64 x.frm] 39)) = w2 at BR2 BP2 BQ2 BZ2 BX2 bl2 ⊢
  clear hg2
  have sg2X := BX2.1
  refine (rfree_err aw at_ ah an cw ct ch cn r g t _ (hr.below bl2) hz hf).mono ?_
  rintro e w3 ⟨rfl, hb3⟩
  have sz3 : w2.heap.size ≤ w3.heap.size := hb3.size
  have BR3 := BR2.below hb3
  have BP3 := BP2.below hb3
  have BQ3 := BQ2.below hb3
  have BZ3 := BZ2.below hb3
  have BX3 := BX2.below hb3
  have bl3 := Below_after bl2 hb3
  clear BR2 BP2 BQ2 BZ2 BX2 bl2
  generalize hD' : freeC r g t = D at *
  have HD : Hid (freeC r g t = D) := hD'
  clear hD'
  obtain ⟨cR0, cR1, cR2, cR3, cR4, cR5⟩ := BR3.c6
  have zR := BR3.1
  obtain ⟨cP0, cP1⟩ := BP3.c2
  have zP := BP3.1
  obtain ⟨cQ0, cQ1⟩ := BQ3.c2
  have zQ := BQ3.1
  obtain ⟨cZ0, fZ0, cZ1, fZ1, cZ2, fZ2, cZ3, fZ3, cZ4, fZ4, cZ5, fZ5⟩ := BZ3.cf6
  have zZ := BZ3.1
  obtain ⟨cX0, cX1, cX2, cX3, cX4⟩ := BX3.c5
  have zX := BX3.1
  go_wp2_with fail
  obtain ⟨y0, y1, y2, y3, y4, y5⟩ := (BZ3.put6 (.slice none 0 0) (.slice none 0 0) (.slice none 0 0) (.slice none 0 0) (.int .i64 0) (.int .i64 0)).six
  have blF := (below_set6 bl3 (b := w.heap.size + 1 + 1 + 1) (by omega) (.slice none 0 0) (.slice none 0 0) (.slice none 0 0) (.slice none 0 0) (.int .i64 0) (.int .i64 0))
  refine bodyPost_ret (v := .tuple #[.agg #[.slice none 0 0, .slice none 0 0, .slice none 0 0, .slice none 0 0, .int .i64 0, .int .i64 0], .iface 69 (.int .i64 D)]) (by simp [results, Tryz.results48, go_sem, y0, y1, y2, y3, y4, y5]) rfl ?_
  exact ⟨by rw [HD.out], blF⟩
set_option maxHeartbeats 2000000 in
set_option maxRecDepth 100000 in
theorem give_right (aw at_ ah an : Option Addr) (cw ct ch cn : Nat) (r : Rm) (h s g t rights badge : Int) (w : World) (hr : RmAt w aw at_ ah an cw ct ch cn r) (hz : RmSz r) (hc : getC r h s = 0) (hf : freeC r g t = 0) (hgh : ¬ g = h) (hq : hasB (getW r h s).rights 4 = false) :
    Calls Tryz.prog 48 #[.agg #[.slice aw r.ws.length cw, .slice at_ r.ts.length ct, .slice ah r.hs.length ch, .slice an r.ns.length cn, .int .i64 r.nw, .int .i64 r.nt], .agg #[.int .i64 h, .int .i64 s], .agg #[.int .i64 g, .int .i64 t], .int .i64 rights, .int .i64 badge] w fun e w' => e = .returned (.tuple #[.agg #[.slice none 0 0, .slice none 0 0, .slice none 0 0, .slice none 0 0, .int .i64 0, .int .i64 0], .iface 69 (.int .i64 7)]) ∧ Below w.heap.size w w' := by
  have dg : (g != h) = true := by simpa using hgh
  clear hgh
  obtain ⟨BR0, BP0, BQ0, BZ0, bl0⟩ := boxes4 w [.slice aw r.ws.length cw, .slice at_ r.ts.length ct, .slice ah r.hs.length ch, .slice an r.ns.length cn, .int .i64 r.nw, .int .i64 r.nt] 30 [.int .i64 h, .int .i64 s] 33 [.int .i64 g, .int .i64 t] 33 [.slice none 0 0, .slice none 0 0, .slice none 0 0, .slice none 0 0, .int .i64 0, .int .i64 0] 30
  go_enter Tryz.func48, Tryz.ntmps48
  go_wp2_with fail
  refine (get_ok aw at_ ah an cw ct ch cn r h s _ (hr.below bl0) hz hc).mono ?_
  rintro e w1 ⟨rfl, hb1⟩
  have BR1 := BR0.below hb1
  have BP1 := BP0.below hb1
  have BQ1 := BQ0.below hb1
  have BZ1 := BZ0.below hb1
  have bl1 := Below_after bl0 hb1
  clear BR0 BP0 BQ0 BZ0 bl0
  generalize hx' : getW r h s = x at *
  have Hx : Hid (getW r h s = x) := hx'
  clear hx'
  obtain ⟨cR0, cR1, cR2, cR3, cR4, cR5⟩ := BR1.c6
  have zR := BR1.1
  obtain ⟨cP0, cP1⟩ := BP1.c2
  have zP := BP1.1
  obtain ⟨cQ0, cQ1⟩ := BQ1.c2
  have zQ := BQ1.1
  obtain ⟨cZ0, cZ1, cZ2, cZ3, cZ4, cZ5⟩ := BZ1.c6
  have zZ := BZ1.1
  go_wp2_with fail
  clear cR0 cR1 cR2 cR3 cR4 cR5 zR cP0 cP1 zP cQ0 cQ1 zQ cZ0 cZ1 cZ2 cZ3 cZ4 cZ5 zZ
  have BR2 := BR1.alloc (.cells #[.int .i64 x.id, .int .i64 x.thing, .int .i64 x.rights, .int .i64 x.badge, .int .i64 x.frm] 39)
  have BP2 := BP1.alloc (.cells #[.int .i64 x.id, .int .i64 x.thing, .int .i64 x.rights, .int .i64 x.badge, .int .i64 x.frm] 39)
  have BQ2 := BQ1.alloc (.cells #[.int .i64 x.id, .int .i64 x.thing, .int .i64 x.rights, .int .i64 x.badge, .int .i64 x.frm] 39)
  have BZ2 := BZ1.alloc (.cells #[.int .i64 x.id, .int .i64 x.thing, .int .i64 x.rights, .int .i64 x.badge, .int .i64 x.frm] 39)
  have bl2 := bl1.alloc bl1.size (.cells #[.int .i64 x.id, .int .i64 x.thing, .int .i64 x.rights, .int .i64 x.badge, .int .i64 x.frm] 39)
  have BX2 := Bx.new w1 [.int .i64 x.id, .int .i64 x.thing, .int .i64 x.rights, .int .i64 x.badge, .int .i64 x.frm] 39
  clear BR1 BP1 BQ1 BZ1 bl1
  generalize hg2 : (w1.alloc (.cells #[.int .i64 x.id, .int .i64 x.thing, .int .i64 x.rights, .int .i64 x.badge, .int .i64 x.frm] 39)) = w2 at BR2 BP2 BQ2 BZ2 BX2 bl2 ⊢
  clear hg2
  have sg2X := BX2.1
  refine (rfree_ok aw at_ ah an cw ct ch cn r g t _ (hr.below bl2) hz hf).mono ?_
  rintro e w3 ⟨rfl, hb3⟩
  have sz3 : w2.heap.size ≤ w3.heap.size := hb3.size
  have BR3 := BR2.below hb3
  have BP3 := BP2.below hb3
  have BQ3 := BQ2.below hb3
  have BZ3 := BZ2.below hb3
  have BX3 := BX2.below hb3
  have bl3 := Below_after bl2 hb3
  clear BR2 BP2 BQ2 BZ2 BX2 bl2
  obtain ⟨cR0, cR1, cR2, cR3, cR4, cR5⟩ := BR3.c6
  have zR := BR3.1
  obtain ⟨cP0, cP1⟩ := BP3.c2
  have zP := BP3.1
  obtain ⟨cQ0, cQ1⟩ := BQ3.c2
  have zQ := BQ3.1
  obtain ⟨cZ0, fZ0, cZ1, fZ1, cZ2, fZ2, cZ3, fZ3, cZ4, fZ4, cZ5, fZ5⟩ := BZ3.cf6
  have zZ := BZ3.1
  obtain ⟨cX0, cX1, cX2, cX3, cX4⟩ := BX3.c5
  have zX := BX3.1
  go_wp2_with fail
  refine (has_any x.rights 4 _).mono ?_
  rintro e w' ⟨rfl, hw'⟩
  rw [hw']
  clear hw' w'
  rw [hq]
  go_wp2_with fail
  obtain ⟨y0, y1, y2, y3, y4, y5⟩ := (BZ3.put6 (.slice none 0 0) (.slice none 0 0) (.slice none 0 0) (.slice none 0 0) (.int .i64 0) (.int .i64 0)).six
  have blF := (below_set6 bl3 (b := w.heap.size + 1 + 1 + 1) (by omega) (.slice none 0 0) (.slice none 0 0) (.slice none 0 0) (.slice none 0 0) (.int .i64 0) (.int .i64 0))
  refine bodyPost_ret (v := .tuple #[.agg #[.slice none 0 0, .slice none 0 0, .slice none 0 0, .slice none 0 0, .int .i64 0, .int .i64 0], .iface 69 (.int .i64 7)]) (by simp [results, Tryz.results48, go_sem, y0, y1, y2, y3, y4, y5]) rfl ?_
  exact ⟨rfl, blF⟩
set_option maxHeartbeats 2000000 in
set_option maxRecDepth 100000 in
theorem give_dera (aw at_ ah an : Option Addr) (cw ct ch cn : Nat) (r : Rm) (h s g t rights badge : Int) (w : World) (hr : RmAt w aw at_ ah an cw ct ch cn r) (hz : RmSz r) (hc : getC r h s = 0) (hf : freeC r g t = 0) (hgh : g = h) (hd : dC r (getW r h s) rights badge ≠ 0) :
    Calls Tryz.prog 48 #[.agg #[.slice aw r.ws.length cw, .slice at_ r.ts.length ct, .slice ah r.hs.length ch, .slice an r.ns.length cn, .int .i64 r.nw, .int .i64 r.nt], .agg #[.int .i64 h, .int .i64 s], .agg #[.int .i64 g, .int .i64 t], .int .i64 rights, .int .i64 badge] w fun e w' => e = .returned (.tuple #[.agg #[.slice none 0 0, .slice none 0 0, .slice none 0 0, .slice none 0 0, .int .i64 0, .int .i64 0], .iface 69 (.int .i64 (dC r (getW r h s) rights badge))]) ∧ Below w.heap.size w w' := by
  have dg : (g != h) = false := by simpa using hgh
  clear hgh
  obtain ⟨BR0, BP0, BQ0, BZ0, bl0⟩ := boxes4 w [.slice aw r.ws.length cw, .slice at_ r.ts.length ct, .slice ah r.hs.length ch, .slice an r.ns.length cn, .int .i64 r.nw, .int .i64 r.nt] 30 [.int .i64 h, .int .i64 s] 33 [.int .i64 g, .int .i64 t] 33 [.slice none 0 0, .slice none 0 0, .slice none 0 0, .slice none 0 0, .int .i64 0, .int .i64 0] 30
  go_enter Tryz.func48, Tryz.ntmps48
  go_wp2_with fail
  refine (get_ok aw at_ ah an cw ct ch cn r h s _ (hr.below bl0) hz hc).mono ?_
  rintro e w1 ⟨rfl, hb1⟩
  have BR1 := BR0.below hb1
  have BP1 := BP0.below hb1
  have BQ1 := BQ0.below hb1
  have BZ1 := BZ0.below hb1
  have bl1 := Below_after bl0 hb1
  clear BR0 BP0 BQ0 BZ0 bl0
  generalize hx' : getW r h s = x at *
  have Hx : Hid (getW r h s = x) := hx'
  clear hx'
  obtain ⟨cR0, cR1, cR2, cR3, cR4, cR5⟩ := BR1.c6
  have zR := BR1.1
  obtain ⟨cP0, cP1⟩ := BP1.c2
  have zP := BP1.1
  obtain ⟨cQ0, cQ1⟩ := BQ1.c2
  have zQ := BQ1.1
  obtain ⟨cZ0, cZ1, cZ2, cZ3, cZ4, cZ5⟩ := BZ1.c6
  have zZ := BZ1.1
  go_wp2_with fail
  clear cR0 cR1 cR2 cR3 cR4 cR5 zR cP0 cP1 zP cQ0 cQ1 zQ cZ0 cZ1 cZ2 cZ3 cZ4 cZ5 zZ
  have BR2 := BR1.alloc (.cells #[.int .i64 x.id, .int .i64 x.thing, .int .i64 x.rights, .int .i64 x.badge, .int .i64 x.frm] 39)
  have BP2 := BP1.alloc (.cells #[.int .i64 x.id, .int .i64 x.thing, .int .i64 x.rights, .int .i64 x.badge, .int .i64 x.frm] 39)
  have BQ2 := BQ1.alloc (.cells #[.int .i64 x.id, .int .i64 x.thing, .int .i64 x.rights, .int .i64 x.badge, .int .i64 x.frm] 39)
  have BZ2 := BZ1.alloc (.cells #[.int .i64 x.id, .int .i64 x.thing, .int .i64 x.rights, .int .i64 x.badge, .int .i64 x.frm] 39)
  have bl2 := bl1.alloc bl1.size (.cells #[.int .i64 x.id, .int .i64 x.thing, .int .i64 x.rights, .int .i64 x.badge, .int .i64 x.frm] 39)
  have BX2 := Bx.new w1 [.int .i64 x.id, .int .i64 x.thing, .int .i64 x.rights, .int .i64 x.badge, .int .i64 x.frm] 39
  clear BR1 BP1 BQ1 BZ1 bl1
  generalize hg2 : (w1.alloc (.cells #[.int .i64 x.id, .int .i64 x.thing, .int .i64 x.rights, .int .i64 x.badge, .int .i64 x.frm] 39)) = w2 at BR2 BP2 BQ2 BZ2 BX2 bl2 ⊢
  clear hg2
  have sg2X := BX2.1
  refine (rfree_ok aw at_ ah an cw ct ch cn r g t _ (hr.below bl2) hz hf).mono ?_
  rintro e w3 ⟨rfl, hb3⟩
  have sz3 : w2.heap.size ≤ w3.heap.size := hb3.size
  have BR3 := BR2.below hb3
  have BP3 := BP2.below hb3
  have BQ3 := BQ2.below hb3
  have BZ3 := BZ2.below hb3
  have BX3 := BX2.below hb3
  have bl3 := Below_after bl2 hb3
  clear BR2 BP2 BQ2 BZ2 BX2 bl2
  obtain ⟨cR0, cR1, cR2, cR3, cR4, cR5⟩ := BR3.c6
  have zR := BR3.1
  obtain ⟨cP0, cP1⟩ := BP3.c2
  have zP := BP3.1
  obtain ⟨cQ0, cQ1⟩ := BQ3.c2
  have zQ := BQ3.1
  obtain ⟨cZ0, cZ1, cZ2, cZ3, cZ4, cZ5⟩ := BZ3.c6
  have zZ := BZ3.1
  obtain ⟨cX0, cX1, cX2, cX3, cX4⟩ := BX3.c5
  have zX := BX3.1
  go_wp2_with fail
  clear cR0 cR1 cR2 cR3 cR4 cR5 zR cP0 cP1 zP cQ0 cQ1 zQ cZ0 cZ1 cZ2 cZ3 cZ4 cZ5 zZ cX0 cX1 cX2 cX3 cX4 zX
  refine (rderive_err aw at_ ah an cw ct ch cn r x rights badge _ (hr.below bl3) hz hd).mono ?_
  rintro e w4 ⟨rfl, hb4⟩
  have sz4 : w3.heap.size ≤ w4.heap.size := hb4.size
  have BR4 := BR3.below hb4
  have BP4 := BP3.below hb4
  have BQ4 := BQ3.below hb4
  have BZ4 := BZ3.below hb4
  have BX4 := BX3.below hb4
  have bl4 := Below_after bl3 hb4
  clear BR3 BP3 BQ3 BZ3 BX3 bl3
  generalize hD' : dC r x rights badge = D at *
  have HD : Hid (dC r x rights badge = D) := hD'
  clear hD'
  obtain ⟨cR0, cR1, cR2, cR3, cR4, cR5⟩ := BR4.c6
  have zR := BR4.1
  obtain ⟨cP0, cP1⟩ := BP4.c2
  have zP := BP4.1
  obtain ⟨cQ0, cQ1⟩ := BQ4.c2
  have zQ := BQ4.1
  obtain ⟨cZ0, fZ0, cZ1, fZ1, cZ2, fZ2, cZ3, fZ3, cZ4, fZ4, cZ5, fZ5⟩ := BZ4.cf6
  have zZ := BZ4.1
  obtain ⟨cX0, cX1, cX2, cX3, cX4⟩ := BX4.c5
  have zX := BX4.1
  go_wp2_with fail
  obtain ⟨y0, y1, y2, y3, y4, y5⟩ := ((BZ4.put6 (.slice none 0 0) (.slice none 0 0) (.slice none 0 0) (.slice none 0 0) (.int .i64 0) (.int .i64 0)).alloc (.cells #[.slice none 0 0, .slice none 0 0, .slice none 0 0, .slice none 0 0, .int .i64 0, .int .i64 0] 30)).six
  have blF := ((below_set6 bl4 (b := w.heap.size + 1 + 1 + 1) (by omega) (.slice none 0 0) (.slice none 0 0) (.slice none 0 0) (.slice none 0 0) (.int .i64 0) (.int .i64 0)).alloc (below_set6 bl4 (b := w.heap.size + 1 + 1 + 1) (by omega) (.slice none 0 0) (.slice none 0 0) (.slice none 0 0) (.slice none 0 0) (.int .i64 0) (.int .i64 0)).size (.cells #[.slice none 0 0, .slice none 0 0, .slice none 0 0, .slice none 0 0, .int .i64 0, .int .i64 0] 30))
  refine bodyPost_ret (v := .tuple #[.agg #[.slice none 0 0, .slice none 0 0, .slice none 0 0, .slice none 0 0, .int .i64 0, .int .i64 0], .iface 69 (.int .i64 D)]) (by simp [results, Tryz.results48, go_sem, y0, y1, y2, y3, y4, y5]) rfl ?_
  exact ⟨by rw [Hx.out, HD.out], blF⟩
set_option maxHeartbeats 2000000 in
set_option maxRecDepth 100000 in
theorem give_yesa (aw at_ ah an : Option Addr) (cw ct ch cn : Nat) (r : Rm) (h s g t rights badge : Int) (w : World) (hr : RmAt w aw at_ ah an cw ct ch cn r) (hz : RmSz r) (hc : getC r h s = 0) (hf : freeC r g t = 0) (hgh : g = h) (hd : dC r (getW r h s) rights badge = 0) :
    Calls Tryz.prog 48 #[.agg #[.slice aw r.ws.length cw, .slice at_ r.ts.length ct, .slice ah r.hs.length ch, .slice an r.ns.length cn, .int .i64 r.nw, .int .i64 r.nt], .agg #[.int .i64 h, .int .i64 s], .agg #[.int .i64 g, .int .i64 t], .int .i64 rights, .int .i64 badge] w fun e w' => ∃ v0 v1 v2 v3, e = .returned (.tuple #[.agg #[v0, v1, v2, v3, .int .i64 (r.nw + 1), .int .i64 r.nt], .nilIface]) ∧ OwnsR w' w.heap.size v0 v1 v2 v3 (giveR r h s g t rights badge) ∧ Below w.heap.size w w' := by
  have mh := hz.h
  have dg : (g != h) = false := by simpa using hgh
  clear hgh
  obtain ⟨BR0, BP0, BQ0, BZ0, bl0⟩ := boxes4 w [.slice aw r.ws.length cw, .slice at_ r.ts.length ct, .slice ah r.hs.length ch, .slice an r.ns.length cn, .int .i64 r.nw, .int .i64 r.nt] 30 [.int .i64 h, .int .i64 s] 33 [.int .i64 g, .int .i64 t] 33 [.slice none 0 0, .slice none 0 0, .slice none 0 0, .slice none 0 0, .int .i64 0, .int .i64 0] 30
  go_enter Tryz.func48, Tryz.ntmps48
  go_wp2_with fail
  refine (get_ok aw at_ ah an cw ct ch cn r h s _ (hr.below bl0) hz hc).mono ?_
  rintro e w1 ⟨rfl, hb1⟩
  have BR1 := BR0.below hb1
  have BP1 := BP0.below hb1
  have BQ1 := BQ0.below hb1
  have BZ1 := BZ0.below hb1
  have bl1 := Below_after bl0 hb1
  clear BR0 BP0 BQ0 BZ0 bl0
  generalize hx' : getW r h s = x at *
  have Hx : Hid (getW r h s = x) := hx'
  clear hx'
  obtain ⟨cR0, cR1, cR2, cR3, cR4, cR5⟩ := BR1.c6
  have zR := BR1.1
  obtain ⟨cP0, cP1⟩ := BP1.c2
  have zP := BP1.1
  obtain ⟨cQ0, cQ1⟩ := BQ1.c2
  have zQ := BQ1.1
  obtain ⟨cZ0, cZ1, cZ2, cZ3, cZ4, cZ5⟩ := BZ1.c6
  have zZ := BZ1.1
  go_wp2_with fail
  clear cR0 cR1 cR2 cR3 cR4 cR5 zR cP0 cP1 zP cQ0 cQ1 zQ cZ0 cZ1 cZ2 cZ3 cZ4 cZ5 zZ
  have BR2 := BR1.alloc (.cells #[.int .i64 x.id, .int .i64 x.thing, .int .i64 x.rights, .int .i64 x.badge, .int .i64 x.frm] 39)
  have BP2 := BP1.alloc (.cells #[.int .i64 x.id, .int .i64 x.thing, .int .i64 x.rights, .int .i64 x.badge, .int .i64 x.frm] 39)
  have BQ2 := BQ1.alloc (.cells #[.int .i64 x.id, .int .i64 x.thing, .int .i64 x.rights, .int .i64 x.badge, .int .i64 x.frm] 39)
  have BZ2 := BZ1.alloc (.cells #[.int .i64 x.id, .int .i64 x.thing, .int .i64 x.rights, .int .i64 x.badge, .int .i64 x.frm] 39)
  have bl2 := bl1.alloc bl1.size (.cells #[.int .i64 x.id, .int .i64 x.thing, .int .i64 x.rights, .int .i64 x.badge, .int .i64 x.frm] 39)
  have BX2 := Bx.new w1 [.int .i64 x.id, .int .i64 x.thing, .int .i64 x.rights, .int .i64 x.badge, .int .i64 x.frm] 39
  clear BR1 BP1 BQ1 BZ1 bl1
  generalize hg2 : (w1.alloc (.cells #[.int .i64 x.id, .int .i64 x.thing, .int .i64 x.rights, .int .i64 x.badge, .int .i64 x.frm] 39)) = w2 at BR2 BP2 BQ2 BZ2 BX2 bl2 ⊢
  clear hg2
  have sg2X := BX2.1
  refine (rfree_ok aw at_ ah an cw ct ch cn r g t _ (hr.below bl2) hz hf).mono ?_
  rintro e w3 ⟨rfl, hb3⟩
  have sz3 : w2.heap.size ≤ w3.heap.size := hb3.size
  have BR3 := BR2.below hb3
  have BP3 := BP2.below hb3
  have BQ3 := BQ2.below hb3
  have BZ3 := BZ2.below hb3
  have BX3 := BX2.below hb3
  have bl3 := Below_after bl2 hb3
  clear BR2 BP2 BQ2 BZ2 BX2 bl2
  obtain ⟨cR0, cR1, cR2, cR3, cR4, cR5⟩ := BR3.c6
  have zR := BR3.1
  obtain ⟨cP0, cP1⟩ := BP3.c2
  have zP := BP3.1
  obtain ⟨cQ0, cQ1⟩ := BQ3.c2
  have zQ := BQ3.1
  obtain ⟨cZ0, cZ1, cZ2, cZ3, cZ4, cZ5⟩ := BZ3.c6
  have zZ := BZ3.1
  obtain ⟨cX0, cX1, cX2, cX3, cX4⟩ := BX3.c5
  have zX := BX3.1
  go_wp2_with fail
  clear cR0 cR1 cR2 cR3 cR4 cR5 zR cP0 cP1 zP cQ0 cQ1 zQ cZ0 cZ1 cZ2 cZ3 cZ4 cZ5 zZ cX0 cX1 cX2 cX3 cX4 zX
  obtain ⟨L, hL⟩ : ∃ L, (r.ws ++ [drvW x r.nw rights badge]).length = L := ⟨_, rfl⟩
  have HL : Hid ((r.ws ++ [drvW x r.nw rights badge]).length = L) := hL
  clear hL
  obtain ⟨H, hH⟩ : ∃ H, (putL r.hs g t r.nw).length = H := ⟨_, rfl⟩
  have HH : Hid ((putL r.hs g t r.nw).length = H) := hH
  clear hH
  have hlow := BZ3.1
  have hs1 : w.heap.size ≤ w3.heap.size := bl3.size
  refine (rderive_at aw at_ ah an cw ct ch cn r x rights badge _ (hr.below bl3) hz hd L HL.out).mono ?_
  rintro e w4 ⟨b0, b1, b2, b3, d0, d1, d2, d3, rfl, hO, hb4⟩
  have sz4 : w3.heap.size ≤ w4.heap.size := hb4.size
  have BR4 := BR3.below hb4
  have BP4 := BP3.below hb4
  have BQ4 := BQ3.below hb4
  have BZ4 := BZ3.below hb4
  have BX4 := BX3.below hb4
  have bl4 := Below_after bl3 hb4
  clear BR3 BP3 BQ3 BZ3 BX3 bl3
  obtain ⟨cR0, cR1, cR2, cR3, cR4, cR5⟩ := BR4.c6
  have zR := BR4.1
  obtain ⟨cP0, cP1⟩ := BP4.c2
  have zP := BP4.1
  obtain ⟨cQ0, cQ1⟩ := BQ4.c2
  have zQ := BQ4.1
  obtain ⟨cZ0, cZ1, cZ2, cZ3, cZ4, cZ5⟩ := BZ4.c6
  have zZ := BZ4.1
  obtain ⟨cX0, cX1, cX2, cX3, cX4⟩ := BX4.c5
  have zX := BX4.1
  have HO : Hid (OwnsR w4 _ _ _ _ _ _) := hO
  clear hO
  go_wp2_with fail
  clear cR0 cR1 cR2 cR3 cR4 cR5 zR cP0 cP1 zP cQ0 cQ1 zQ cZ0 cZ1 cZ2 cZ3 cZ4 cZ5 zZ cX0 cX1 cX2 cX3 cX4 zX
  have tag := RTag.new w4 #[.slice b0 L d0, .slice b1 r.ts.length d1, .slice b2 r.hs.length d2, .slice b3 r.ns.length d3, .int .i64 (r.nw + 1), .int .i64 r.nt]
  have hO3 := HO.out.below ((Below.refl _ _).alloc (Nat.le_refl _) (.cells #[.slice b0 L d0, .slice b1 r.ts.length d1, .slice b2 r.hs.length d2, .slice b3 r.ns.length d3, .int .i64 (r.nw + 1), .int .i64 r.nt] 30))
  clear HO
  have BR5 := BR4.alloc (.cells #[.slice b0 L d0, .slice b1 r.ts.length d1, .slice b2 r.hs.length d2, .slice b3 r.ns.length d3, .int .i64 (r.nw + 1), .int .i64 r.nt] 30)
  have BP5 := BP4.alloc (.cells #[.slice b0 L d0, .slice b1 r.ts.length d1, .slice b2 r.hs.length d2, .slice b3 r.ns.length d3, .int .i64 (r.nw + 1), .int .i64 r.nt] 30)
  have BQ5 := BQ4.alloc (.cells #[.slice b0 L d0, .slice b1 r.ts.length d1, .slice b2 r.hs.length d2, .slice b3 r.ns.length d3, .int .i64 (r.nw + 1), .int .i64 r.nt] 30)
  have BZ5 := BZ4.alloc (.cells #[.slice b0 L d0, .slice b1 r.ts.length d1, .slice b2 r.hs.length d2, .slice b3 r.ns.length d3, .int .i64 (r.nw + 1), .int .i64 r.nt] 30)
  have BX5 := BX4.alloc (.cells #[.slice b0 L d0, .slice b1 r.ts.length d1, .slice b2 r.hs.length d2, .slice b3 r.ns.length d3, .int .i64 (r.nw + 1), .int .i64 r.nt] 30)
  have bl5 := bl4.alloc bl4.size (.cells #[.slice b0 L d0, .slice b1 r.ts.length d1, .slice b2 r.hs.length d2, .slice b3 r.ns.length d3, .int .i64 (r.nw + 1), .int .i64 r.nt] 30)
  have BO5 := Bx.new w4 [.slice b0 L d0, .slice b1 r.ts.length d1, .slice b2 r.hs.length d2, .slice b3 r.ns.length d3, .int .i64 (r.nw + 1), .int .i64 r.nt] 30
  clear BR4 BP4 BQ4 BZ4 BX4 bl4
  generalize hg : (w4.alloc (.cells #[.slice b0 L d0, .slice b1 r.ts.length d1, .slice b2 r.hs.length d2, .slice b3 r.ns.length d3, .int .i64 (r.nw + 1), .int .i64 r.nt] 30)) = w5 at BR5 BP5 BQ5 BZ5 BX5 BO5 bl5 tag hO3 ⊢
  clear hg
  have hs3 : w4.heap.size < w5.heap.size := BO5.1
  refine (put_row b2 d2 r.hs g t r.nw _ (HdsAt.ofRow hO3.rh).1 mh H HH.out).mono ?_
  rintro e w6 ⟨b2', d2', rfl, hrow, hb6⟩
  have sz6 : w5.heap.size ≤ w6.heap.size := hb6.size
  have hO4 := (hO3.below hb6).put2 hrow (by omega)
  have tag4 := tag.below hb6
  clear hO3 tag hrow
  have BR6 := BR5.below hb6
  have BP6 := BP5.below hb6
  have BQ6 := BQ5.below hb6
  have BZ6 := BZ5.below hb6
  have BX6 := BX5.below hb6
  have BO6 := BO5.below hb6
  have bl6 := Below_after bl5 hb6
  clear BR5 BP5 BQ5 BZ5 BX5 BO5 bl5
  have HO4 : Hid (OwnsR _ _ _ _ _ _ _) := hO4
  have HT4 : Hid (RTag _ _) := tag4
  clear hO4 tag4
  have hs4 : w4.heap.size < w6.heap.size := BO6.1
  obtain ⟨cR0, cR1, cR2, cR3, cR4, cR5⟩ := BR6.c6
  have zR := BR6.1
  obtain ⟨cP0, cP1⟩ := BP6.c2
  have zP := BP6.1
  obtain ⟨cQ0, cQ1⟩ := BQ6.c2
  have zQ := BQ6.1
  obtain ⟨cZ0, fZ0, cZ1, fZ1, cZ2, fZ2, cZ3, fZ3, cZ4, fZ4, cZ5, fZ5⟩ := BZ6.cf6
  have zZ := BZ6.1
  obtain ⟨cX0, cX1, cX2, cX3, cX4⟩ := BX6.c5
  have zX := BX6.1
  obtain ⟨cO0, fO0, cO1, fO1, cO2, fO2, cO3, fO3, cO4, fO4, cO5, fO5⟩ := BO6.cf6
  have zO := BO6.1
  go_wp2_with fail
  clear cR0 cR1 cR2 cR3 cR4 cR5 zR cP0 cP1 zP cQ0 cQ1 zQ cZ0 fZ0 cZ1 fZ1 cZ2 fZ2 cZ3 fZ3 cZ4 fZ4 cZ5 fZ5 zZ cX0 cX1 cX2 cX3 cX4 zX cO0 fO0 cO1 fO1 cO2 fO2 cO3 fO3 cO4 fO4 cO5 fO5 zO
  have BR7 := BR6.other (b' := w4.heap.size) (by first | omega | (have := BO6.1; have := BR6.1; omega)) 2 (.slice b2' H d2')
  have BP7 := BP6.other (b' := w4.heap.size) (by first | omega | (have := BO6.1; have := BP6.1; omega)) 2 (.slice b2' H d2')
  have BQ7 := BQ6.other (b' := w4.heap.size) (by first | omega | (have := BO6.1; have := BQ6.1; omega)) 2 (.slice b2' H d2')
  have BZ7 := BZ6.other (b' := w4.heap.size) (by first | omega | (have := BO6.1; have := BZ6.1; omega)) 2 (.slice b2' H d2')
  have BX7 := BX6.other (b' := w4.heap.size) (by first | omega | (have := BO6.1; have := BX6.1; omega)) 2 (.slice b2' H d2')
  have BO7 := BO6.set 2 (.slice b2' H d2')
  simp only [List.set_cons_zero, List.set_cons_succ] at BO7
  have bl7 := bl6.setCell (p := ⟨w4.heap.size, 2, none⟩) (by show w.heap.size ≤ w4.heap.size; omega) (.slice b2' H d2')
  clear BR6 BP6 BQ6 BZ6 BX6 BO6 bl6
  have hO8 := HO4.out.setTag HT4.out 2 (.slice b2' H d2')
  obtain ⟨y0, y1, y2, y3, y4, y5⟩ := (BZ7.put6 (.slice b0 L d0) (.slice b1 r.ts.length d1) (.slice b2' H d2') (.slice b3 r.ns.length d3) (.int .i64 (r.nw + 1)) (.int .i64 r.nt)).six
  have blF := (below_set6 bl7 (b := w.heap.size + 1 + 1 + 1) (by omega) (.slice b0 L d0) (.slice b1 r.ts.length d1) (.slice b2' H d2') (.slice b3 r.ns.length d3) (.int .i64 (r.nw + 1)) (.int .i64 r.nt))
  refine bodyPost_ret (v := .tuple #[.agg #[.slice b0 L d0, .slice b1 r.ts.length d1, .slice b2' H d2', .slice b3 r.ns.length d3, .int .i64 (r.nw + 1), .int .i64 r.nt], .nilIface]) (by simp [results, Tryz.results48, go_sem, y0, y1, y2, y3, y4, y5]) rfl ?_
  exact ⟨_, _, _, _, rfl, by unfold giveR; rw [Hx.out]; exact (hO8.set6 hlow _ _ _ _ _ _).mono hs1, blF⟩
set_option maxHeartbeats 2000000 in
set_option maxRecDepth 100000 in
theorem give_derb (aw at_ ah an : Option Addr) (cw ct ch cn : Nat) (r : Rm) (h s g t rights badge : Int) (w : World) (hr : RmAt w aw at_ ah an cw ct ch cn r) (hz : RmSz r) (hc : getC r h s = 0) (hf : freeC r g t = 0) (hgh : ¬ g = h) (hq : hasB (getW r h s).rights 4 = true) (hd : dC r (getW r h s) rights badge ≠ 0) :
    Calls Tryz.prog 48 #[.agg #[.slice aw r.ws.length cw, .slice at_ r.ts.length ct, .slice ah r.hs.length ch, .slice an r.ns.length cn, .int .i64 r.nw, .int .i64 r.nt], .agg #[.int .i64 h, .int .i64 s], .agg #[.int .i64 g, .int .i64 t], .int .i64 rights, .int .i64 badge] w fun e w' => e = .returned (.tuple #[.agg #[.slice none 0 0, .slice none 0 0, .slice none 0 0, .slice none 0 0, .int .i64 0, .int .i64 0], .iface 69 (.int .i64 (dC r (getW r h s) rights badge))]) ∧ Below w.heap.size w w' := by
  have dg : (g != h) = true := by simpa using hgh
  clear hgh
  obtain ⟨BR0, BP0, BQ0, BZ0, bl0⟩ := boxes4 w [.slice aw r.ws.length cw, .slice at_ r.ts.length ct, .slice ah r.hs.length ch, .slice an r.ns.length cn, .int .i64 r.nw, .int .i64 r.nt] 30 [.int .i64 h, .int .i64 s] 33 [.int .i64 g, .int .i64 t] 33 [.slice none 0 0, .slice none 0 0, .slice none 0 0, .slice none 0 0, .int .i64 0, .int .i64 0] 30
  go_enter Tryz.func48, Tryz.ntmps48
  go_wp2_with fail
  refine (get_ok aw at_ ah an cw ct ch cn r h s _ (hr.below bl0) hz hc).mono ?_
  rintro e w1 ⟨rfl, hb1⟩
  have BR1 := BR0.below hb1
  have BP1 := BP0.below hb1
  have BQ1 := BQ0.below hb1
  have BZ1 := BZ0.below hb1
  have bl1 := Below_after bl0 hb1
  clear BR0 BP0 BQ0 BZ0 bl0
  generalize hx' : getW r h s = x at *
  have Hx : Hid (getW r h s = x) := hx'
  clear hx'
  obtain ⟨cR0, cR1, cR2, cR3, cR4, cR5⟩ := BR1.c6
  have zR := BR1.1
  obtain ⟨cP0, cP1⟩ := BP1.c2
  have zP := BP1.1
  obtain ⟨cQ0, cQ1⟩ := BQ1.c2
  have zQ := BQ1.1
  obtain ⟨cZ0, cZ1, cZ2, cZ3, cZ4, cZ5⟩ := BZ1.c6
  have zZ := BZ1.1
  go_wp2_with fail
  clear cR0 cR1 cR2 cR3 cR4 cR5 zR cP0 cP1 zP cQ0 cQ1 zQ cZ0 cZ1 cZ2 cZ3 cZ4 cZ5 zZ
  have BR2 := BR1.alloc (.cells #[.int .i64 x.id, .int .i64 x.thing, .int .i64 x.rights, .int .i64 x.badge, .int .i64 x.frm] 39)
  have BP2 := BP1.alloc (.cells #[.int .i64 x.id, .int .i64 x.thing, .int .i64 x.rights, .int .i64 x.badge, .int .i64 x.frm] 39)
  have BQ2 := BQ1.alloc (.cells #[.int .i64 x.id, .int .i64 x.thing, .int .i64 x.rights, .int .i64 x.badge, .int .i64 x.frm] 39)
  have BZ2 := BZ1.alloc (.cells #[.int .i64 x.id, .int .i64 x.thing, .int .i64 x.rights, .int .i64 x.badge, .int .i64 x.frm] 39)
  have bl2 := bl1.alloc bl1.size (.cells #[.int .i64 x.id, .int .i64 x.thing, .int .i64 x.rights, .int .i64 x.badge, .int .i64 x.frm] 39)
  have BX2 := Bx.new w1 [.int .i64 x.id, .int .i64 x.thing, .int .i64 x.rights, .int .i64 x.badge, .int .i64 x.frm] 39
  clear BR1 BP1 BQ1 BZ1 bl1
  generalize hg2 : (w1.alloc (.cells #[.int .i64 x.id, .int .i64 x.thing, .int .i64 x.rights, .int .i64 x.badge, .int .i64 x.frm] 39)) = w2 at BR2 BP2 BQ2 BZ2 BX2 bl2 ⊢
  clear hg2
  have sg2X := BX2.1
  refine (rfree_ok aw at_ ah an cw ct ch cn r g t _ (hr.below bl2) hz hf).mono ?_
  rintro e w3 ⟨rfl, hb3⟩
  have sz3 : w2.heap.size ≤ w3.heap.size := hb3.size
  have BR3 := BR2.below hb3
  have BP3 := BP2.below hb3
  have BQ3 := BQ2.below hb3
  have BZ3 := BZ2.below hb3
  have BX3 := BX2.below hb3
  have bl3 := Below_after bl2 hb3
  clear BR2 BP2 BQ2 BZ2 BX2 bl2
  obtain ⟨cR0, cR1, cR2, cR3, cR4, cR5⟩ := BR3.c6
  have zR := BR3.1
  obtain ⟨cP0, cP1⟩ := BP3.c2
  have zP := BP3.1
  obtain ⟨cQ0, cQ1⟩ := BQ3.c2
  have zQ := BQ3.1
  obtain ⟨cZ0, cZ1, cZ2, cZ3, cZ4, cZ5⟩ := BZ3.c6
  have zZ := BZ3.1
  obtain ⟨cX0, cX1, cX2, cX3, cX4⟩ := BX3.c5
  have zX := BX3.1
  go_wp2_with fail
  refine (has_any x.rights 4 _).mono ?_
  rintro e w' ⟨rfl, hw'⟩
  rw [hw']
  clear hw' w'
  rw [hq]
  go_wp2_with fail
  clear cR0 cR1 cR2 cR3 cR4 cR5 zR cP0 cP1 zP cQ0 cQ1 zQ cZ0 cZ1 cZ2 cZ3 cZ4 cZ5 zZ cX0 cX1 cX2 cX3 cX4 zX
  refine (rderive_err aw at_ ah an cw ct ch cn r x rights badge _ (hr.below bl3) hz hd).mono ?_
  rintro e w4 ⟨rfl, hb4⟩
  have sz4 : w3.heap.size ≤ w4.heap.size := hb4.size
  have BR4 := BR3.below hb4
  have BP4 := BP3.below hb4
  have BQ4 := BQ3.below hb4
  have BZ4 := BZ3.below hb4
  have BX4 := BX3.below hb4
  have bl4 := Below_after bl3 hb4
  clear BR3 BP3 BQ3 BZ3 BX3 bl3
  generalize hD' : dC r x rights badge = D at *
  have HD : Hid (dC r x rights badge = D) := hD'
  clear hD'
  obtain ⟨cR0, cR1, cR2, cR3, cR4, cR5⟩ := BR4.c6
  have zR := BR4.1
  obtain ⟨cP0, cP1⟩ := BP4.c2
  have zP := BP4.1
  obtain ⟨cQ0, cQ1⟩ := BQ4.c2
  have zQ := BQ4.1
  obtain ⟨cZ0, fZ0, cZ1, fZ1, cZ2, fZ2, cZ3, fZ3, cZ4, fZ4, cZ5, fZ5⟩ := BZ4.cf6
  have zZ := BZ4.1
  obtain ⟨cX0, cX1, cX2, cX3, cX4⟩ := BX4.c5
  have zX := BX4.1
  go_wp2_with fail
  obtain ⟨y0, y1, y2, y3, y4, y5⟩ := ((BZ4.put6 (.slice none 0 0) (.slice none 0 0) (.slice none 0 0) (.slice none 0 0) (.int .i64 0) (.int .i64 0)).alloc (.cells #[.slice none 0 0, .slice none 0 0, .slice none 0 0, .slice none 0 0, .int .i64 0, .int .i64 0] 30)).six
  have blF := ((below_set6 bl4 (b := w.heap.size + 1 + 1 + 1) (by omega) (.slice none 0 0) (.slice none 0 0) (.slice none 0 0) (.slice none 0 0) (.int .i64 0) (.int .i64 0)).alloc (below_set6 bl4 (b := w.heap.size + 1 + 1 + 1) (by omega) (.slice none 0 0) (.slice none 0 0) (.slice none 0 0) (.slice none 0 0) (.int .i64 0) (.int .i64 0)).size (.cells #[.slice none 0 0, .slice none 0 0, .slice none 0 0, .slice none 0 0, .int .i64 0, .int .i64 0] 30))
  refine bodyPost_ret (v := .tuple #[.agg #[.slice none 0 0, .slice none 0 0, .slice none 0 0, .slice none 0 0, .int .i64 0, .int .i64 0], .iface 69 (.int .i64 D)]) (by simp [results, Tryz.results48, go_sem, y0, y1, y2, y3, y4, y5]) rfl ?_
  exact ⟨by rw [Hx.out, HD.out], blF⟩
set_option maxHeartbeats 2000000 in
set_option maxRecDepth 100000 in
theorem give_yesb (aw at_ ah an : Option Addr) (cw ct ch cn : Nat) (r : Rm) (h s g t rights badge : Int) (w : World) (hr : RmAt w aw at_ ah an cw ct ch cn r) (hz : RmSz r) (hc : getC r h s = 0) (hf : freeC r g t = 0) (hgh : ¬ g = h) (hq : hasB (getW r h s).rights 4 = true) (hd : dC r (getW r h s) rights badge = 0) :
    Calls Tryz.prog 48 #[.agg #[.slice aw r.ws.length cw, .slice at_ r.ts.length ct, .slice ah r.hs.length ch, .slice an r.ns.length cn, .int .i64 r.nw, .int .i64 r.nt], .agg #[.int .i64 h, .int .i64 s], .agg #[.int .i64 g, .int .i64 t], .int .i64 rights, .int .i64 badge] w fun e w' => ∃ v0 v1 v2 v3, e = .returned (.tuple #[.agg #[v0, v1, v2, v3, .int .i64 (r.nw + 1), .int .i64 r.nt], .nilIface]) ∧ OwnsR w' w.heap.size v0 v1 v2 v3 (giveR r h s g t rights badge) ∧ Below w.heap.size w w' := by
  have mh := hz.h
  have dg : (g != h) = true := by simpa using hgh
  clear hgh
  obtain ⟨BR0, BP0, BQ0, BZ0, bl0⟩ := boxes4 w [.slice aw r.ws.length cw, .slice at_ r.ts.length ct, .slice ah r.hs.length ch, .slice an r.ns.length cn, .int .i64 r.nw, .int .i64 r.nt] 30 [.int .i64 h, .int .i64 s] 33 [.int .i64 g, .int .i64 t] 33 [.slice none 0 0, .slice none 0 0, .slice none 0 0, .slice none 0 0, .int .i64 0, .int .i64 0] 30
  go_enter Tryz.func48, Tryz.ntmps48
  go_wp2_with fail
  refine (get_ok aw at_ ah an cw ct ch cn r h s _ (hr.below bl0) hz hc).mono ?_
  rintro e w1 ⟨rfl, hb1⟩
  have BR1 := BR0.below hb1
  have BP1 := BP0.below hb1
  have BQ1 := BQ0.below hb1
  have BZ1 := BZ0.below hb1
  have bl1 := Below_after bl0 hb1
  clear BR0 BP0 BQ0 BZ0 bl0
  generalize hx' : getW r h s = x at *
  have Hx : Hid (getW r h s = x) := hx'
  clear hx'
  obtain ⟨cR0, cR1, cR2, cR3, cR4, cR5⟩ := BR1.c6
  have zR := BR1.1
  obtain ⟨cP0, cP1⟩ := BP1.c2
  have zP := BP1.1
  obtain ⟨cQ0, cQ1⟩ := BQ1.c2
  have zQ := BQ1.1
  obtain ⟨cZ0, cZ1, cZ2, cZ3, cZ4, cZ5⟩ := BZ1.c6
  have zZ := BZ1.1
  go_wp2_with fail
  clear cR0 cR1 cR2 cR3 cR4 cR5 zR cP0 cP1 zP cQ0 cQ1 zQ cZ0 cZ1 cZ2 cZ3 cZ4 cZ5 zZ
  have BR2 := BR1.alloc (.cells #[.int .i64 x.id, .int .i64 x.thing, .int .i64 x.rights, .int .i64 x.badge, .int .i64 x.frm] 39)
  have BP2 := BP1.alloc (.cells #[.int .i64 x.id, .int .i64 x.thing, .int .i64 x.rights, .int .i64 x.badge, .int .i64 x.frm] 39)
  have BQ2 := BQ1.alloc (.cells #[.int .i64 x.id, .int .i64 x.thing, .int .i64 x.rights, .int .i64 x.badge, .int .i64 x.frm] 39)
  have BZ2 := BZ1.alloc (.cells #[.int .i64 x.id, .int .i64 x.thing, .int .i64 x.rights, .int .i64 x.badge, .int .i64 x.frm] 39)
  have bl2 := bl1.alloc bl1.size (.cells #[.int .i64 x.id, .int .i64 x.thing, .int .i64 x.rights, .int .i64 x.badge, .int .i64 x.frm] 39)
  have BX2 := Bx.new w1 [.int .i64 x.id, .int .i64 x.thing, .int .i64 x.rights, .int .i64 x.badge, .int .i64 x.frm] 39
  clear BR1 BP1 BQ1 BZ1 bl1
  generalize hg2 : (w1.alloc (.cells #[.int .i64 x.id, .int .i64 x.thing, .int .i64 x.rights, .int .i64 x.badge, .int .i64 x.frm] 39)) = w2 at BR2 BP2 BQ2 BZ2 BX2 bl2 ⊢
  clear hg2
  have sg2X := BX2.1
  refine (rfree_ok aw at_ ah an cw ct ch cn r g t _ (hr.below bl2) hz hf).mono ?_
  rintro e w3 ⟨rfl, hb3⟩
  have sz3 : w2.heap.size ≤ w3.heap.size := hb3.size
  have BR3 := BR2.below hb3
  have BP3 := BP2.below hb3
  have BQ3 := BQ2.below hb3
  have BZ3 := BZ2.below hb3
  have BX3 := BX2.below hb3
  have bl3 := Below_after bl2 hb3
  clear BR2 BP2 BQ2 BZ2 BX2 bl2
  obtain ⟨cR0, cR1, cR2, cR3, cR4, cR5⟩ := BR3.c6
  have zR := BR3.1
  obtain ⟨cP0, cP1⟩ := BP3.c2
  have zP := BP3.1
  obtain ⟨cQ0, cQ1⟩ := BQ3.c2
  have zQ := BQ3.1
  obtain ⟨cZ0, cZ1, cZ2, cZ3, cZ4, cZ5⟩ := BZ3.c6
  have zZ := BZ3.1
  obtain ⟨cX0, cX1, cX2, cX3, cX4⟩ := BX3.c5
  have zX := BX3.1
  go_wp2_with fail
  refine (has_any x.rights 4 _).mono ?_
  rintro e w' ⟨rfl, hw'⟩
  rw [hw']
  clear hw' w'
  rw [hq]
  go_wp2_with fail
  clear cR0 cR1 cR2 cR3 cR4 cR5 zR cP0 cP1 zP cQ0 cQ1 zQ cZ0 cZ1 cZ2 cZ3 cZ4 cZ5 zZ cX0 cX1 cX2 cX3 cX4 zX
  obtain ⟨L, hL⟩ : ∃ L, (r.ws ++ [drvW x r.nw rights badge]).length = L := ⟨_, rfl⟩
  have HL : Hid ((r.ws ++ [drvW x r.nw rights badge]).length = L) := hL
  clear hL
  obtain ⟨H, hH⟩ : ∃ H, (putL r.hs g t r.nw).length = H := ⟨_, rfl⟩
  have HH : Hid ((putL r.hs g t r.nw).length = H) := hH
  clear hH
  have hlow := BZ3.1
  have hs1 : w.heap.size ≤ w3.heap.size := bl3.size
  refine (rderive_at aw at_ ah an cw ct ch cn r x rights badge _ (hr.below bl3) hz hd L HL.out).mono ?_
  rintro e w4 ⟨b0, b1, b2, b3, d0, d1, d2, d3, rfl, hO, hb4⟩
  have sz4 : w3.heap.size ≤ w4.heap.size := hb4.size
  have BR4 := BR3.below hb4
  have BP4 := BP3.below hb4
  have BQ4 := BQ3.below hb4
  have BZ4 := BZ3.below hb4
  have BX4 := BX3.below hb4
  have bl4 := Below_after bl3 hb4
  clear BR3 BP3 BQ3 BZ3 BX3 bl3
  obtain ⟨cR0, cR1, cR2, cR3, cR4, cR5⟩ := BR4.c6
  have zR := BR4.1
  obtain ⟨cP0, cP1⟩ := BP4.c2
  have zP := BP4.1
  obtain ⟨cQ0, cQ1⟩ := BQ4.c2
  have zQ := BQ4.1
  obtain ⟨cZ0, cZ1, cZ2, cZ3, cZ4, cZ5⟩ := BZ4.c6
  have zZ := BZ4.1
  obtain ⟨cX0, cX1, cX2, cX3, cX4⟩ := BX4.c5
  have zX := BX4.1
  have HO : Hid (OwnsR w4 _ _ _ _ _ _) := hO
  clear hO
  go_wp2_with fail
  clear cR0 cR1 cR2 cR3 cR4 cR5 zR cP0 cP1 zP cQ0 cQ1 zQ cZ0 cZ1 cZ2 cZ3 cZ4 cZ5 zZ cX0 cX1 cX2 cX3 cX4 zX
  have tag := RTag.new w4 #[.slice b0 L d0, .slice b1 r.ts.length d1, .slice b2 r.hs.length d2, .slice b3 r.ns.length d3, .int .i64 (r.nw + 1), .int .i64 r.nt]
  have hO3 := HO.out.below ((Below.refl _ _).alloc (Nat.le_refl _) (.cells #[.slice b0 L d0, .slice b1 r.ts.length d1, .slice b2 r.hs.length d2, .slice b3 r.ns.length d3, .int .i64 (r.nw + 1), .int .i64 r.nt] 30))
  clear HO
  have BR5 := BR4.alloc (.cells #[.slice b0 L d0, .slice b1 r.ts.length d1, .slice b2 r.hs.length d2, .slice b3 r.ns.length d3, .int .i64 (r.nw + 1), .int .i64 r.nt] 30)
  have BP5 := BP4.alloc (.cells #[.slice b0 L d0, .slice b1 r.ts.length d1, .slice b2 r.hs.length d2, .slice b3 r.ns.length d3, .int .i64 (r.nw + 1), .int .i64 r.nt] 30)
  have BQ5 := BQ4.alloc (.cells #[.slice b0 L d0, .slice b1 r.ts.length d1, .slice b2 r.hs.length d2, .slice b3 r.ns.length d3, .int .i64 (r.nw + 1), .int .i64 r.nt] 30)
  have BZ5 := BZ4.alloc (.cells #[.slice b0 L d0, .slice b1 r.ts.length d1, .slice b2 r.hs.length d2, .slice b3 r.ns.length d3, .int .i64 (r.nw + 1), .int .i64 r.nt] 30)
  have BX5 := BX4.alloc (.cells #[.slice b0 L d0, .slice b1 r.ts.length d1, .slice b2 r.hs.length d2, .slice b3 r.ns.length d3, .int .i64 (r.nw + 1), .int .i64 r.nt] 30)
  have bl5 := bl4.alloc bl4.size (.cells #[.slice b0 L d0, .slice b1 r.ts.length d1, .slice b2 r.hs.length d2, .slice b3 r.ns.length d3, .int .i64 (r.nw + 1), .int .i64 r.nt] 30)
  have BO5 := Bx.new w4 [.slice b0 L d0, .slice b1 r.ts.length d1, .slice b2 r.hs.length d2, .slice b3 r.ns.length d3, .int .i64 (r.nw + 1), .int .i64 r.nt] 30
  clear BR4 BP4 BQ4 BZ4 BX4 bl4
  generalize hg : (w4.alloc (.cells #[.slice b0 L d0, .slice b1 r.ts.length d1, .slice b2 r.hs.length d2, .slice b3 r.ns.length d3, .int .i64 (r.nw + 1), .int .i64 r.nt] 30)) = w5 at BR5 BP5 BQ5 BZ5 BX5 BO5 bl5 tag hO3 ⊢
  clear hg
  have hs3 : w4.heap.size < w5.heap.size := BO5.1
  refine (put_row b2 d2 r.hs g t r.nw _ (HdsAt.ofRow hO3.rh).1 mh H HH.out).mono ?_
  rintro e w6 ⟨b2', d2', rfl, hrow, hb6⟩
  have sz6 : w5.heap.size ≤ w6.heap.size := hb6.size
  have hO4 := (hO3.below hb6).put2 hrow (by omega)
  have tag4 := tag.below hb6
  clear hO3 tag hrow
  have BR6 := BR5.below hb6
  have BP6 := BP5.below hb6
  have BQ6 := BQ5.below hb6
  have BZ6 := BZ5.below hb6
  have BX6 := BX5.below hb6
  have BO6 := BO5.below hb6
  have bl6 := Below_after bl5 hb6
  clear BR5 BP5 BQ5 BZ5 BX5 BO5 bl5
  have HO4 : Hid (OwnsR _ _ _ _ _ _ _) := hO4
  have HT4 : Hid (RTag _ _) := tag4
  clear hO4 tag4
  have hs4 : w4.heap.size < w6.heap.size := BO6.1
  obtain ⟨cR0, cR1, cR2, cR3, cR4, cR5⟩ := BR6.c6
  have zR := BR6.1
  obtain ⟨cP0, cP1⟩ := BP6.c2
  have zP := BP6.1
  obtain ⟨cQ0, cQ1⟩ := BQ6.c2
  have zQ := BQ6.1
  obtain ⟨cZ0, fZ0, cZ1, fZ1, cZ2, fZ2, cZ3, fZ3, cZ4, fZ4, cZ5, fZ5⟩ := BZ6.cf6
  have zZ := BZ6.1
  obtain ⟨cX0, cX1, cX2, cX3, cX4⟩ := BX6.c5
  have zX := BX6.1
  obtain ⟨cO0, fO0, cO1, fO1, cO2, fO2, cO3, fO3, cO4, fO4, cO5, fO5⟩ := BO6.cf6
  have zO := BO6.1
  go_wp2_with fail
  clear cR0 cR1 cR2 cR3 cR4 cR5 zR cP0 cP1 zP cQ0 cQ1 zQ cZ0 fZ0 cZ1 fZ1 cZ2 fZ2 cZ3 fZ3 cZ4 fZ4 cZ5 fZ5 zZ cX0 cX1 cX2 cX3 cX4 zX cO0 fO0 cO1 fO1 cO2 fO2 cO3 fO3 cO4 fO4 cO5 fO5 zO
  have BR7 := BR6.other (b' := w4.heap.size) (by first | omega | (have := BO6.1; have := BR6.1; omega)) 2 (.slice b2' H d2')
  have BP7 := BP6.other (b' := w4.heap.size) (by first | omega | (have := BO6.1; have := BP6.1; omega)) 2 (.slice b2' H d2')
  have BQ7 := BQ6.other (b' := w4.heap.size) (by first | omega | (have := BO6.1; have := BQ6.1; omega)) 2 (.slice b2' H d2')
  have BZ7 := BZ6.other (b' := w4.heap.size) (by first | omega | (have := BO6.1; have := BZ6.1; omega)) 2 (.slice b2' H d2')
  have BX7 := BX6.other (b' := w4.heap.size) (by first | omega | (have := BO6.1; have := BX6.1; omega)) 2 (.slice b2' H d2')
  have BO7 := BO6.set 2 (.slice b2' H d2')
  simp only [List.set_cons_zero, List.set_cons_succ] at BO7
  have bl7 := bl6.setCell (p := ⟨w4.heap.size, 2, none⟩) (by show w.heap.size ≤ w4.heap.size; omega) (.slice b2' H d2')
  clear BR6 BP6 BQ6 BZ6 BX6 BO6 bl6
  have hO8 := HO4.out.setTag HT4.out 2 (.slice b2' H d2')
  obtain ⟨y0, y1, y2, y3, y4, y5⟩ := (BZ7.put6 (.slice b0 L d0) (.slice b1 r.ts.length d1) (.slice b2' H d2') (.slice b3 r.ns.length d3) (.int .i64 (r.nw + 1)) (.int .i64 r.nt)).six
  have blF := (below_set6 bl7 (b := w.heap.size + 1 + 1 + 1) (by omega) (.slice b0 L d0) (.slice b1 r.ts.length d1) (.slice b2' H d2') (.slice b3 r.ns.length d3) (.int .i64 (r.nw + 1)) (.int .i64 r.nt))
  refine bodyPost_ret (v := .tuple #[.agg #[.slice b0 L d0, .slice b1 r.ts.length d1, .slice b2' H d2', .slice b3 r.ns.length d3, .int .i64 (r.nw + 1), .int .i64 r.nt], .nilIface]) (by simp [results, Tryz.results48, go_sem, y0, y1, y2, y3, y4, y5]) rfl ?_
  exact ⟨_, _, _, _, rfl, by unfold giveR; rw [Hx.out]; exact (hO8.set6 hlow _ _ _ _ _ _).mono hs1, blF⟩
end Go.Proofs.YtddgpgldbekamaaGreat
