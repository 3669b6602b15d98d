/- realm.Move, Write, Read (E3, E7), as the landed code has them. -/
import Derived.Test.YtddgpgldbekamaaGreatAllPure
import Derived.Test.YtddgpgldbekamaaGreatBox
import Derived.Test.YtddgpgldbekamaaGreatMakeW
set_option linter.unusedSimpArgs false
set_option linter.unnecessarySimpa false
set_option linter.unusedVariables false
namespace Go.Proofs.YtddgpgldbekamaaGreat
open Go.RowKit


@[reducible] def SMv (p q x : Nat) (a0 a1 c0 c1 e0 : Value) (w : World) : Prop :=
  w.cell? ⟨p, 0, none⟩ = some a0 ∧ w.cell? ⟨p, 1, none⟩ = some a1 ∧ w.cell? ⟨q, 0, none⟩ = some c0 ∧ w.cell? ⟨q, 1, none⟩ = some c1 ∧ w.cell? ⟨x, 0, none⟩ = some e0 ∧ p < w.heap.size ∧ q < w.heap.size ∧ x < w.heap.size
theorem SMv_below {p q x : Nat} {a0 a1 c0 c1 e0 : Value} {v w : World} (hb : Below v.heap.size v w) (h : SMv p q x a0 a1 c0 c1 e0 v) : SMv p q x a0 a1 c0 c1 e0 w := by
  obtain ⟨h1, h2, h3, h4, h5, h6, h7, h8⟩ := h
  have g := (bcell hb).1
  have := hb.size
  exact ⟨by rw [g _ _ h6]; exact h1, by rw [g _ _ h6]; exact h2, by rw [g _ _ h7]; exact h3, by rw [g _ _ h7]; exact h4, by rw [g _ _ h8]; exact h5, by omega, by omega, by omega⟩
theorem SMv_set {p q x o j : Nat} {a0 a1 c0 c1 e0 u : Value} {w : World} (h : SMv p q x a0 a1 c0 c1 e0 w) (h1 : ¬ p = o) (h2 : ¬ q = o) (h3 : ¬ x = o) : SMv p q x a0 a1 c0 c1 e0 (w.setCell ⟨o, j, none⟩ u) := by
  obtain ⟨g1, g2, g3, g4, g5, g6, g7, g8⟩ := h
  have key : ∀ b k, ¬ b = o → (w.setCell ⟨o, j, none⟩ u).cell? ⟨b, k, none⟩ = w.cell? ⟨b, k, none⟩ := fun b k hb => World.cell?_setCell_other _ _ _ _ (by simpa using fun e => absurd e.symm hb)
  exact ⟨by rw [key _ _ h1]; exact g1, by rw [key _ _ h1]; exact g2, by rw [key _ _ h2]; exact g3, by rw [key _ _ h2]; exact g4, by rw [key _ _ h3]; exact g5, by simpa using g6, by simpa using g7, by simpa using g8⟩
set_option maxHeartbeats 2000000 in
set_option maxRecDepth 100000 in
theorem move_get (aw at_ ah an : Option Addr) (cw ct ch cn : Nat) (r : Rm) (h s t : Int) (w : World) (hr : RmAt w aw at_ ah an cw ct ch cn r) (hz : RmSz r) (hc : getC r h s ≠ 0) :
    Calls Tryz.prog 49 #[.agg #[.slice aw r.ws.length cw, .slice at_ r.ts.length ct, .slice ah r.hs.length ch, .slice an r.ns.length cn, .int .i64 r.nw, .int .i64 r.nt], .agg #[.int .i64 h, .int .i64 s], .int .i64 t] w fun e w' => e = .returned (.tuple #[.agg #[.slice none 0 0, .slice none 0 0, .slice none 0 0, .slice none 0 0, .int .i64 0, .int .i64 0], .iface 69 (.int .i64 (getC r h s))]) ∧ Below w.heap.size w w' := by
  obtain ⟨BR0, BP0, BZ0, bl0⟩ := boxes3 w [.slice aw r.ws.length cw, .slice at_ r.ts.length ct, .slice ah r.hs.length ch, .slice an r.ns.length cn, .int .i64 r.nw, .int .i64 r.nt] 30 [.int .i64 h, .int .i64 s] 33 [.slice none 0 0, .slice none 0 0, .slice none 0 0, .slice none 0 0, .int .i64 0, .int .i64 0] 30
  go_enter Tryz.func49, Tryz.ntmps49
  go_wp2_with fail
  refine (get_err aw at_ ah an cw ct ch cn r h s _ (hr.below bl0) hz hc).mono ?_
  rintro e w1 ⟨rfl, hb1⟩
  have BR1 := BR0.below hb1
  have BP1 := BP0.below hb1
  have BZ1 := BZ0.below hb1
  have bl1 := Below_after bl0 hb1
  clear BR0 BP0 BZ0 bl0
  generalize hD' : getC r h s = D at *
  have HD : Hid (getC r h s = D) := hD'
  clear hD'
  obtain ⟨cR0, cR1, cR2, cR3, cR4, cR5⟩ := BR1.c6
  have zR := BR1.1
  obtain ⟨cP0, cP1⟩ := BP1.c2
  have zP := BP1.1
  obtain ⟨cZ0, fZ0, cZ1, fZ1, cZ2, fZ2, cZ3, fZ3, cZ4, fZ4, cZ5, fZ5⟩ := BZ1.cf6
  have zZ := BZ1.1
  go_wp2_with fail
  obtain ⟨y0, y1, y2, y3, y4, y5⟩ := ((BZ1.put6 (.slice none 0 0) (.slice none 0 0) (.slice none 0 0) (.slice none 0 0) (.int .i64 0) (.int .i64 0)).alloc (.cells #[.int .i64 0, .int .i64 0, .int .i64 0, .int .i64 0, .int .i64 0] 39)).six
  have blF := ((below_set6 bl1 (b := w.heap.size + 1 + 1) (by omega) (.slice none 0 0) (.slice none 0 0) (.slice none 0 0) (.slice none 0 0) (.int .i64 0) (.int .i64 0)).alloc (below_set6 bl1 (b := w.heap.size + 1 + 1) (by omega) (.slice none 0 0) (.slice none 0 0) (.slice none 0 0) (.slice none 0 0) (.int .i64 0) (.int .i64 0)).size (.cells #[.int .i64 0, .int .i64 0, .int .i64 0, .int .i64 0, .int .i64 0] 39))
  refine bodyPost_ret (v := .tuple #[.agg #[.slice none 0 0, .slice none 0 0, .slice none 0 0, .slice none 0 0, .int .i64 0, .int .i64 0], .iface 69 (.int .i64 D)]) (by simp [results, Tryz.results49, go_sem, y0, y1, y2, y3, y4, y5]) rfl ?_
  exact ⟨by rw [HD.out], blF⟩
set_option maxHeartbeats 2000000 in
set_option maxRecDepth 100000 in
theorem move_place (aw at_ ah an : Option Addr) (cw ct ch cn : Nat) (r : Rm) (h s t : Int) (w : World) (hr : RmAt w aw at_ ah an cw ct ch cn r) (hz : RmSz r) (hc : getC r h s = 0) (hf : freeC r h t ≠ 0) :
    Calls Tryz.prog 49 #[.agg #[.slice aw r.ws.length cw, .slice at_ r.ts.length ct, .slice ah r.hs.length ch, .slice an r.ns.length cn, .int .i64 r.nw, .int .i64 r.nt], .agg #[.int .i64 h, .int .i64 s], .int .i64 t] w fun e w' => e = .returned (.tuple #[.agg #[.slice none 0 0, .slice none 0 0, .slice none 0 0, .slice none 0 0, .int .i64 0, .int .i64 0], .iface 69 (.int .i64 (freeC r h t))]) ∧ Below w.heap.size w w' := by
  obtain ⟨BR0, BP0, BZ0, bl0⟩ := boxes3 w [.slice aw r.ws.length cw, .slice at_ r.ts.length ct, .slice ah r.hs.length ch, .slice an r.ns.length cn, .int .i64 r.nw, .int .i64 r.nt] 30 [.int .i64 h, .int .i64 s] 33 [.slice none 0 0, .slice none 0 0, .slice none 0 0, .slice none 0 0, .int .i64 0, .int .i64 0] 30
  go_enter Tryz.func49, Tryz.ntmps49
  go_wp2_with fail
  refine (get_ok aw at_ ah an cw ct ch cn r h s _ (hr.below bl0) hz hc).mono ?_
  rintro e w1 ⟨rfl, hb1⟩
  have BR1 := BR0.below hb1
  have BP1 := BP0.below hb1
  have BZ1 := BZ0.below hb1
  have bl1 := Below_after bl0 hb1
  clear BR0 BP0 BZ0 bl0
  generalize hx' : getW r h s = x at *
  have Hx : Hid (getW r h s = x) := hx'
  clear hx'
  obtain ⟨cR0, cR1, cR2, cR3, cR4, cR5⟩ := BR1.c6
  have zR := BR1.1
  obtain ⟨cP0, cP1⟩ := BP1.c2
  have zP := BP1.1
  obtain ⟨cZ0, cZ1, cZ2, cZ3, cZ4, cZ5⟩ := BZ1.c6
  have zZ := BZ1.1
  go_wp2_with fail
  clear cR0 cR1 cR2 cR3 cR4 cR5 zR cP0 cP1 zP cZ0 cZ1 cZ2 cZ3 cZ4 cZ5 zZ
  have BR2 := BR1.alloc (.cells #[.int .i64 x.id, .int .i64 x.thing, .int .i64 x.rights, .int .i64 x.badge, .int .i64 x.frm] 39)
  have BP2 := BP1.alloc (.cells #[.int .i64 x.id, .int .i64 x.thing, .int .i64 x.rights, .int .i64 x.badge, .int .i64 x.frm] 39)
  have BZ2 := BZ1.alloc (.cells #[.int .i64 x.id, .int .i64 x.thing, .int .i64 x.rights, .int .i64 x.badge, .int .i64 x.frm] 39)
  have bl2 := bl1.alloc bl1.size (.cells #[.int .i64 x.id, .int .i64 x.thing, .int .i64 x.rights, .int .i64 x.badge, .int .i64 x.frm] 39)
  have BX2 := Bx.new w1 [.int .i64 x.id, .int .i64 x.thing, .int .i64 x.rights, .int .i64 x.badge, .int .i64 x.frm] 39
  clear BR1 BP1 BZ1 bl1
  have BR3 := BR2.alloc (.cells #[.int .i64 h, .int .i64 t] 33)
  have BP3 := BP2.alloc (.cells #[.int .i64 h, .int .i64 t] 33)
  have BZ3 := BZ2.alloc (.cells #[.int .i64 h, .int .i64 t] 33)
  have BX3 := BX2.alloc (.cells #[.int .i64 h, .int .i64 t] 33)
  have bl3 := bl2.alloc bl2.size (.cells #[.int .i64 h, .int .i64 t] 33)
  have BQ3 := Bx.new (w1.alloc (.cells #[.int .i64 x.id, .int .i64 x.thing, .int .i64 x.rights, .int .i64 x.badge, .int .i64 x.frm] 39)) [.int .i64 h, .int .i64 t] 33
  rw [show (w1.alloc (.cells #[.int .i64 x.id, .int .i64 x.thing, .int .i64 x.rights, .int .i64 x.badge, .int .i64 x.frm] 39)).heap.size = w1.heap.size + 1 by simp] at BQ3
  clear BR2 BP2 BZ2 BX2 bl2
  generalize hg2 : ((w1.alloc (.cells #[.int .i64 x.id, .int .i64 x.thing, .int .i64 x.rights, .int .i64 x.badge, .int .i64 x.frm] 39)).alloc (.cells #[.int .i64 h, .int .i64 t] 33)) = w2 at BR3 BP3 BZ3 BX3 BQ3 bl3 ⊢
  clear hg2
  have sg2X := BX3.1
  have sg2Q := BQ3.1
  refine (rfree_err aw at_ ah an cw ct ch cn r h t _ (hr.below bl3) hz hf).mono ?_
  rintro e w3 ⟨rfl, hb3⟩
  have sz3 : w2.heap.size ≤ w3.heap.size := hb3.size
  have BR4 := BR3.below hb3
  have BP4 := BP3.below hb3
  have BZ4 := BZ3.below hb3
  have BX4 := BX3.below hb3
  have BQ4 := BQ3.below hb3
  have bl4 := Below_after bl3 hb3
  clear BR3 BP3 BZ3 BX3 BQ3 bl3
  generalize hD' : freeC r h t = D at *
  have HD : Hid (freeC r h t = D) := hD'
  clear hD'
  obtain ⟨cR0, cR1, cR2, cR3, cR4, cR5⟩ := BR4.c6
  have zR := BR4.1
  obtain ⟨cP0, cP1⟩ := BP4.c2
  have zP := BP4.1
  obtain ⟨cZ0, fZ0, cZ1, fZ1, cZ2, fZ2, cZ3, fZ3, cZ4, fZ4, cZ5, fZ5⟩ := BZ4.cf6
  have zZ := BZ4.1
  obtain ⟨cX0, cX1, cX2, cX3, cX4⟩ := BX4.c5
  have zX := BX4.1
  obtain ⟨cQ0, cQ1⟩ := BQ4.c2
  have zQ := BQ4.1
  go_wp2_with fail
  obtain ⟨y0, y1, y2, y3, y4, y5⟩ := (BZ4.put6 (.slice none 0 0) (.slice none 0 0) (.slice none 0 0) (.slice none 0 0) (.int .i64 0) (.int .i64 0)).six
  have blF := (below_set6 bl4 (b := w.heap.size + 1 + 1) (by omega) (.slice none 0 0) (.slice none 0 0) (.slice none 0 0) (.slice none 0 0) (.int .i64 0) (.int .i64 0))
  refine bodyPost_ret (v := .tuple #[.agg #[.slice none 0 0, .slice none 0 0, .slice none 0 0, .slice none 0 0, .int .i64 0, .int .i64 0], .iface 69 (.int .i64 D)]) (by simp [results, Tryz.results49, go_sem, y0, y1, y2, y3, y4, y5]) rfl ?_
  exact ⟨by rw [HD.out], blF⟩
set_option maxHeartbeats 2000000 in
set_option maxRecDepth 100000 in
theorem move_yes (aw at_ ah an : Option Addr) (cw ct ch cn : Nat) (r : Rm) (h s t : Int) (w : World) (hr : RmAt w aw at_ ah an cw ct ch cn r) (hz : RmSz r) (hc : getC r h s = 0) (hf : freeC r h t = 0) (hm2 : (putL r.hs h s 0).length ≤ 100) :
    Calls Tryz.prog 49 #[.agg #[.slice aw r.ws.length cw, .slice at_ r.ts.length ct, .slice ah r.hs.length ch, .slice an r.ns.length cn, .int .i64 r.nw, .int .i64 r.nt], .agg #[.int .i64 h, .int .i64 s], .int .i64 t] w fun e w' => ∃ v0 v1 v2 v3, e = .returned (.tuple #[.agg #[v0, v1, v2, v3, .int .i64 r.nw, .int .i64 r.nt], .nilIface]) ∧ OwnsR w' w.heap.size v0 v1 v2 v3 (moveR r h s t) ∧ Below w.heap.size w w' := by
  have mh := hz.h
  obtain ⟨BR0, BP0, BZ0, bl0⟩ := boxes3 w [.slice aw r.ws.length cw, .slice at_ r.ts.length ct, .slice ah r.hs.length ch, .slice an r.ns.length cn, .int .i64 r.nw, .int .i64 r.nt] 30 [.int .i64 h, .int .i64 s] 33 [.slice none 0 0, .slice none 0 0, .slice none 0 0, .slice none 0 0, .int .i64 0, .int .i64 0] 30
  go_enter Tryz.func49, Tryz.ntmps49
  go_wp2_with fail
  refine (get_ok aw at_ ah an cw ct ch cn r h s _ (hr.below bl0) hz hc).mono ?_
  rintro e w1 ⟨rfl, hb1⟩
  have BR1 := BR0.below hb1
  have BP1 := BP0.below hb1
  have BZ1 := BZ0.below hb1
  have bl1 := Below_after bl0 hb1
  clear BR0 BP0 BZ0 bl0
  generalize hx' : getW r h s = x at *
  have Hx : Hid (getW r h s = x) := hx'
  clear hx'
  obtain ⟨cR0, cR1, cR2, cR3, cR4, cR5⟩ := BR1.c6
  have zR := BR1.1
  obtain ⟨cP0, cP1⟩ := BP1.c2
  have zP := BP1.1
  obtain ⟨cZ0, cZ1, cZ2, cZ3, cZ4, cZ5⟩ := BZ1.c6
  have zZ := BZ1.1
  go_wp2_with fail
  clear cR0 cR1 cR2 cR3 cR4 cR5 zR cP0 cP1 zP cZ0 cZ1 cZ2 cZ3 cZ4 cZ5 zZ
  have BR2 := BR1.alloc (.cells #[.int .i64 x.id, .int .i64 x.thing, .int .i64 x.rights, .int .i64 x.badge, .int .i64 x.frm] 39)
  have BP2 := BP1.alloc (.cells #[.int .i64 x.id, .int .i64 x.thing, .int .i64 x.rights, .int .i64 x.badge, .int .i64 x.frm] 39)
  have BZ2 := BZ1.alloc (.cells #[.int .i64 x.id, .int .i64 x.thing, .int .i64 x.rights, .int .i64 x.badge, .int .i64 x.frm] 39)
  have bl2 := bl1.alloc bl1.size (.cells #[.int .i64 x.id, .int .i64 x.thing, .int .i64 x.rights, .int .i64 x.badge, .int .i64 x.frm] 39)
  have BX2 := Bx.new w1 [.int .i64 x.id, .int .i64 x.thing, .int .i64 x.rights, .int .i64 x.badge, .int .i64 x.frm] 39
  clear BR1 BP1 BZ1 bl1
  have BR3 := BR2.alloc (.cells #[.int .i64 h, .int .i64 t] 33)
  have BP3 := BP2.alloc (.cells #[.int .i64 h, .int .i64 t] 33)
  have BZ3 := BZ2.alloc (.cells #[.int .i64 h, .int .i64 t] 33)
  have BX3 := BX2.alloc (.cells #[.int .i64 h, .int .i64 t] 33)
  have bl3 := bl2.alloc bl2.size (.cells #[.int .i64 h, .int .i64 t] 33)
  have BQ3 := Bx.new (w1.alloc (.cells #[.int .i64 x.id, .int .i64 x.thing, .int .i64 x.rights, .int .i64 x.badge, .int .i64 x.frm] 39)) [.int .i64 h, .int .i64 t] 33
  rw [show (w1.alloc (.cells #[.int .i64 x.id, .int .i64 x.thing, .int .i64 x.rights, .int .i64 x.badge, .int .i64 x.frm] 39)).heap.size = w1.heap.size + 1 by simp] at BQ3
  clear BR2 BP2 BZ2 BX2 bl2
  generalize hg2 : ((w1.alloc (.cells #[.int .i64 x.id, .int .i64 x.thing, .int .i64 x.rights, .int .i64 x.badge, .int .i64 x.frm] 39)).alloc (.cells #[.int .i64 h, .int .i64 t] 33)) = w2 at BR3 BP3 BZ3 BX3 BQ3 bl3 ⊢
  clear hg2
  have sg2X := BX3.1
  have sg2Q := BQ3.1
  refine (rfree_ok aw at_ ah an cw ct ch cn r h t _ (hr.below bl3) hz hf).mono ?_
  rintro e w3 ⟨rfl, hb3⟩
  have sz3 : w2.heap.size ≤ w3.heap.size := hb3.size
  have BR4 := BR3.below hb3
  have BP4 := BP3.below hb3
  have BZ4 := BZ3.below hb3
  have BX4 := BX3.below hb3
  have BQ4 := BQ3.below hb3
  have bl4 := Below_after bl3 hb3
  clear BR3 BP3 BZ3 BX3 BQ3 bl3
  obtain ⟨cR0, cR1, cR2, cR3, cR4, cR5⟩ := BR4.c6
  have zR := BR4.1
  obtain ⟨cP0, cP1⟩ := BP4.c2
  have zP := BP4.1
  obtain ⟨cZ0, cZ1, cZ2, cZ3, cZ4, cZ5⟩ := BZ4.c6
  have zZ := BZ4.1
  obtain ⟨cX0, cX1, cX2, cX3, cX4⟩ := BX4.c5
  have zX := BX4.1
  obtain ⟨cQ0, cQ1⟩ := BQ4.c2
  have zQ := BQ4.1
  go_wp2_with fail
  clear cR0 cR1 cR2 cR3 cR4 cR5 zR cP0 cP1 zP cZ0 cZ1 cZ2 cZ3 cZ4 cZ5 zZ cX0 cX1 cX2 cX3 cX4 zX cQ0 cQ1 zQ
  have hlow := BZ4.1
  have hs1 : w.heap.size ≤ w3.heap.size := bl4.size
  refine (copy_at aw at_ ah an cw ct ch cn r _ (hr.below bl4) hz).mono ?_
  rintro e w4 ⟨b0, b1, b2, b3, d0, d1, d2, d3, rfl, hO, hb4⟩
  have sz4 : w3.heap.size ≤ w4.heap.size := hb4.size
  have BR5 := BR4.below hb4
  have BP5 := BP4.below hb4
  have BZ5 := BZ4.below hb4
  have BX5 := BX4.below hb4
  have BQ5 := BQ4.below hb4
  have bl5 := Below_after bl4 hb4
  clear BR4 BP4 BZ4 BX4 BQ4 bl4
  obtain ⟨cR0, cR1, cR2, cR3, cR4, cR5⟩ := BR5.c6
  have zR := BR5.1
  obtain ⟨cP0, cP1⟩ := BP5.c2
  have zP := BP5.1
  obtain ⟨cZ0, cZ1, cZ2, cZ3, cZ4, cZ5⟩ := BZ5.c6
  have zZ := BZ5.1
  obtain ⟨cX0, cX1, cX2, cX3, cX4⟩ := BX5.c5
  have zX := BX5.1
  obtain ⟨cQ0, cQ1⟩ := BQ5.c2
  have zQ := BQ5.1
  have HO : Hid (OwnsR w4 _ _ _ _ _ _) := hO
  clear hO
  go_wp2_with fail
  clear cR0 cR1 cR2 cR3 cR4 cR5 zR cP0 cP1 zP cZ0 cZ1 cZ2 cZ3 cZ4 cZ5 zZ cX0 cX1 cX2 cX3 cX4 zX cQ0 cQ1 zQ
  have tag := RTag.new w4 #[.slice b0 r.ws.length d0, .slice b1 r.ts.length d1, .slice b2 r.hs.length d2, .slice b3 r.ns.length d3, .int .i64 r.nw, .int .i64 r.nt]
  have hO3 := HO.out.below ((Below.refl _ _).alloc (Nat.le_refl _) (.cells #[.slice b0 r.ws.length d0, .slice b1 r.ts.length d1, .slice b2 r.hs.length d2, .slice b3 r.ns.length d3, .int .i64 r.nw, .int .i64 r.nt] 30))
  clear HO
  have BR6 := BR5.alloc (.cells #[.slice b0 r.ws.length d0, .slice b1 r.ts.length d1, .slice b2 r.hs.length d2, .slice b3 r.ns.length d3, .int .i64 r.nw, .int .i64 r.nt] 30)
  have BP6 := BP5.alloc (.cells #[.slice b0 r.ws.length d0, .slice b1 r.ts.length d1, .slice b2 r.hs.length d2, .slice b3 r.ns.length d3, .int .i64 r.nw, .int .i64 r.nt] 30)
  have BZ6 := BZ5.alloc (.cells #[.slice b0 r.ws.length d0, .slice b1 r.ts.length d1, .slice b2 r.hs.length d2, .slice b3 r.ns.length d3, .int .i64 r.nw, .int .i64 r.nt] 30)
  have BX6 := BX5.alloc (.cells #[.slice b0 r.ws.length d0, .slice b1 r.ts.length d1, .slice b2 r.hs.length d2, .slice b3 r.ns.length d3, .int .i64 r.nw, .int .i64 r.nt] 30)
  have BQ6 := BQ5.alloc (.cells #[.slice b0 r.ws.length d0, .slice b1 r.ts.length d1, .slice b2 r.hs.length d2, .slice b3 r.ns.length d3, .int .i64 r.nw, .int .i64 r.nt] 30)
  have bl6 := bl5.alloc bl5.size (.cells #[.slice b0 r.ws.length d0, .slice b1 r.ts.length d1, .slice b2 r.hs.length d2, .slice b3 r.ns.length d3, .int .i64 r.nw, .int .i64 r.nt] 30)
  have BO6 := Bx.new w4 [.slice b0 r.ws.length d0, .slice b1 r.ts.length d1, .slice b2 r.hs.length d2, .slice b3 r.ns.length d3, .int .i64 r.nw, .int .i64 r.nt] 30
  clear BR5 BP5 BZ5 BX5 BQ5 bl5
  generalize hg : (w4.alloc (.cells #[.slice b0 r.ws.length d0, .slice b1 r.ts.length d1, .slice b2 r.hs.length d2, .slice b3 r.ns.length d3, .int .i64 r.nw, .int .i64 r.nt] 30)) = w5 at BR6 BP6 BZ6 BX6 BQ6 BO6 bl6 tag hO3 ⊢
  clear hg
  have hs3 : w4.heap.size < w5.heap.size := BO6.1
  have srp : SMv (w.heap.size + 1) (w1.heap.size + 1) (w1.heap.size) (.int .i64 h) (.int .i64 s) (.int .i64 h) (.int .i64 t) (.int .i64 x.id) w5.drew := ⟨(BP6.2 0 _ rfl).1, (BP6.2 1 _ rfl).1, (BQ6.2 0 _ rfl).1, (BQ6.2 1 _ rfl).1, (BX6.2 0 _ rfl).1, BP6.1, BQ6.1, BX6.1⟩
  obtain ⟨H1, hH⟩ : ∃ H, (putL r.hs h s 0).length = H := ⟨_, rfl⟩
  have HH1 : Hid ((putL r.hs h s 0).length = H1) := hH
  clear hH
  obtain ⟨H2, hH⟩ : ∃ H, (putL (putL r.hs h s 0) h t x.id).length = H := ⟨_, rfl⟩
  have HH2 : Hid ((putL (putL r.hs h s 0) h t x.id).length = H2) := hH
  clear hH
  have cO2 : w5.cell? ⟨w4.heap.size, 2, none⟩ = some (.slice b2 r.hs.length d2) := (BO6.2 2 _ rfl).1
  refine wp_region_held_drew (S := SMv (w.heap.size + 1) (w1.heap.size + 1) (w1.heap.size) (.int .i64 h) (.int .i64 s) (.int .i64 h) (.int .i64 t) (.int .i64 x.id)) (by kernel_rfl) ?_ (fun hHeld => ?_)
  · exact srp
  refine tkI 0 (.pointer (some ⟨w4.heap.size, 2, none⟩)) rfl ?_
  refine tkI 2 (.agg #[.int .i64 h, .int .i64 s]) rfl ?_
  refine tkI 4 (.agg #[.int .i64 h, .int .i64 t]) rfl ?_
  refine tkI 5 (.pointer (some ⟨w1.heap.size, 0, none⟩)) rfl ?_
  refine tkI 6 (.int .i64 x.id) rfl ?_
  refine rdI 1 rfl (fun K hK => ?_)
  go_wp2_with fail
  refine hK.out _ _ ?_ (fun hHeld => ?_)
  · assumption
  clear hK K
  (try simp only [Act.put, List.setIfInBounds_toArray, List.set_cons_zero, List.set_cons_succ])
  refine rdI 3 rfl (fun K hK => ?_)
  go_wp2_with (go_at_call 35; refine (put_row b2 d2 r.hs h s 0 _ ((HdsAt.ofRow hO3.rh).1.below ((Below.refl _ _).drew)) mh H1 HH1.out).mono ?_; rintro e wP ⟨b2', d2', rfl, hrow, hbP⟩)
  refine hK.out _ _ ?_ (fun hHeld => ?_)
  · exact SMv_below hbP (by assumption)
  clear hK K
  (try simp only [Act.put, List.setIfInBounds_toArray, List.set_cons_zero, List.set_cons_succ])
  have bdP : Below w5.heap.size w5 wP := Below_after ((Below.refl _ _).drew) hbP
  have hatP := HdsAt.ofRow hrow
  obtain ⟨hatP, hnP, -⟩ := hatP
  have HNP : Hid (H1 = (putL r.hs h s 0).length) := hnP
  clear hnP
  have mh2 : (putL r.hs h s 0).length ≤ 100 := hm2
  clear hm2
  refine rdI 7 rfl (fun K hK => ?_)
  go_wp2_with (go_at_call 35; (have hcon := put_row b2' d2' (putL r.hs h s 0) h t x.id _ hatP mh2 H2 HH2.out); rw [← HNP.out] at hcon; refine hcon.mono ?_; rintro e wR ⟨b2x, d2x, rfl, hrow2, hbR⟩)
  refine hK.out _ _ ?_ (fun hHeld => ?_)
  · exact SMv_below hbR (by assumption)
  clear hK K
  (try simp only [Act.put, List.setIfInBounds_toArray, List.set_cons_zero, List.set_cons_succ])
  have bdR : Below w5.heap.size w5 wR := Below_after bdP hbR
  have BOR := BO6.below bdR
  have BZR := BZ6.below bdR
  have blR := Below_after bl6 bdR
  have tagR := tag.below bdR
  have hOR := (hO3.below bdR).put2 hrow2 (by have := bdP.size; omega)
  have HOR : Hid (OwnsR _ _ _ _ _ _ _) := hOR
  have HTR : Hid (RTag _ _) := tagR
  clear hOR tagR
  clear hO3 tag hrow hrow2 hbP hbR bdP bdR hatP cO2 BR6 BP6 BZ6 BX6 BQ6 BO6 bl6
  have cR := (BOR.2 2 _ rfl).1
  have fR := (BOR.2 2 _ rfl).2
  have zR := BOR.1
  refine rdI 8 rfl (fun K hK => ?_)
  go_wp2_with fail
  refine hK.out _ _ ?_ (fun hHeld => ?_)
  · assumption
  clear hK K
  (try simp only [Act.put, List.setIfInBounds_toArray, List.set_cons_zero, List.set_cons_succ])
  have HS : Hid (SMv (w.heap.size + 1) (w1.heap.size + 1) (w1.heap.size) (.int .i64 h) (.int .i64 s) (.int .i64 h) (.int .i64 t) (.int .i64 x.id) wR) := (by assumption)
  refine rdI 9 rfl (fun K hK => ?_)
  go_wp2_with fail
  refine hK.out _ _ ?_ (fun hHeld => ?_)
  · exact SMv_set HS.out (by omega) (by omega) (by omega)
  clear hK K
  (try simp only [Act.put, List.setIfInBounds_toArray, List.set_cons_zero, List.set_cons_succ])
  refine wpAnyH_done (by kernel_rfl) ?_ _
  have BOF := BOR.set 2 (.slice b2x H2 d2x)
  simp only [List.set_cons_zero, List.set_cons_succ] at BOF
  have BZF0 := BZR.other (b' := w4.heap.size) (by omega) 2 (.slice b2x H2 d2x)
  have blF0 := blR.setCell (p := ⟨w4.heap.size, 2, none⟩) (by show w.heap.size ≤ w4.heap.size; omega) (.slice b2x H2 d2x)
  have hO8 := HOR.out.setTag HTR.out 2 (.slice b2x H2 d2x)
  have HO8 : Hid (OwnsR _ _ _ _ _ _ _) := hO8
  clear hO8 HOR HTR HS BOR BZR blR cR fR zR
  generalize hg : wR.setCell ⟨w4.heap.size, 2, none⟩ (.slice b2x H2 d2x) = wF at BOF BZF0 blF0 HO8 ⊢
  clear hg
  have BO30 := BOF
  have BZ30 := BZF0
  have bl30 := blF0
  clear BOF BZF0 blF0
  obtain ⟨cO0, cO1, cO2, cO3, cO4, cO5⟩ := BO30.c6
  have zO := BO30.1
  obtain ⟨cZ0, fZ0, cZ1, fZ1, cZ2, fZ2, cZ3, fZ3, cZ4, fZ4, cZ5, fZ5⟩ := BZ30.cf6
  have zZ := BZ30.1
  go_wp2_with fail
  obtain ⟨y0, y1, y2, y3, y4, y5⟩ := (BZ30.put6 (.slice b0 r.ws.length d0) (.slice b1 r.ts.length d1) (.slice b2x H2 d2x) (.slice b3 r.ns.length d3) (.int .i64 r.nw) (.int .i64 r.nt)).six
  have blF := (below_set6 bl30 (b := w.heap.size + 1 + 1) (by omega) (.slice b0 r.ws.length d0) (.slice b1 r.ts.length d1) (.slice b2x H2 d2x) (.slice b3 r.ns.length d3) (.int .i64 r.nw) (.int .i64 r.nt))
  refine bodyPost_ret (v := .tuple #[.agg #[.slice b0 r.ws.length d0, .slice b1 r.ts.length d1, .slice b2x H2 d2x, .slice b3 r.ns.length d3, .int .i64 r.nw, .int .i64 r.nt], .nilIface]) (by simp [results, Tryz.results49, go_sem, y0, y1, y2, y3, y4, y5]) rfl ?_
  exact ⟨_, _, _, _, rfl, by unfold moveR; rw [Hx.out]; exact (HO8.out.set6 hlow _ _ _ _ _ _).mono hs1, blF⟩
end Go.Proofs.YtddgpgldbekamaaGreat
