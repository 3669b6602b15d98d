/- realm.derive, enclose (E3, E8), as the landed code has them. -/
import Derived.Test.YtddgpgldbekamaaGreatBox
import Derived.Test.YtddgpgldbekamaaGreatAddW
set_option linter.unusedSimpArgs false
set_option linter.unusedVariables false
namespace Go.Proofs.YtddgpgldbekamaaGreat
open Go.RowKit


/-- the number of derive's error, 0: none -/
def dC (r : Rm) (x : Wr) (rights badge : Int) : Int := if 999 < r.nw then 9 else drvCode x rights badge
def addR (r : Rm) (x : Wr) : Rm := ⟨r.ws ++ [x], r.ts, r.hs, r.ns, r.nw + 1, r.nt⟩
theorem add_at (aw at_ ah an : Option Addr) (cw ct ch cn : Nat) (r : Rm) (x : Wr) (w : World) (hr : RmAt w aw at_ ah an cw ct ch cn r) (hz : RmSz r) (L : Nat) (hL : (r.ws ++ [x]).length = L) :
    Calls Tryz.prog 62 #[.agg #[.slice aw r.ws.length cw, .slice at_ r.ts.length ct, .slice ah r.hs.length ch, .slice an r.ns.length cn, .int .i64 r.nw, .int .i64 r.nt], .agg #[.int .i64 x.id, .int .i64 x.thing, .int .i64 x.rights, .int .i64 x.badge, .int .i64 x.frm]] w fun e w' => ∃ b0 b1 b2 b3 d0 d1 d2 d3, e = .returned (.agg #[.slice b0 L d0, .slice b1 r.ts.length d1, .slice b2 r.hs.length d2, .slice b3 r.ns.length d3, .int .i64 (r.nw + 1), .int .i64 r.nt]) ∧ OwnsR w' w.heap.size (.slice b0 L d0) (.slice b1 r.ts.length d1) (.slice b2 r.hs.length d2) (.slice b3 r.ns.length d3) (addR r x) ∧ Below w.heap.size w w' := by
  refine (add_any aw at_ ah an cw ct ch cn r x w hr hz).mono ?_
  rintro e w1 ⟨v0, v1, v2, v3, rfl, hO, hb⟩
  obtain ⟨b0, b1, b2, b3, d0, d1, d2, d3, rfl, rfl, rfl, rfl, -⟩ := hO.at
  subst hL
  exact ⟨b0, b1, b2, b3, d0, d1, d2, d3, rfl, hO, hb⟩
theorem derive_okW (x : Wr) (id rights badge : Int) (w : World) (h : drvCode x rights badge = 0) :
    Calls Tryz.prog 108 #[.agg #[.int .i64 x.id, .int .i64 x.thing, .int .i64 x.rights, .int .i64 x.badge, .int .i64 x.frm], .int .i64 id, .int .i64 rights, .int .i64 badge] w
      fun e w' => e = .returned (.tuple #[.agg #[.int .i64 (drvW x id rights badge).id, .int .i64 (drvW x id rights badge).thing, .int .i64 (drvW x id rights badge).rights, .int .i64 (drvW x id rights badge).badge, .int .i64 (drvW x id rights badge).frm], .nilIface]) ∧ Below w.heap.size w w' := derive_ok x id rights badge w h
set_option maxHeartbeats 1000000 in
theorem rderive_full (aw at_ ah an : Option Addr) (cw ct ch cn : Nat) (r : Rm) (x : Wr) (rights badge : Int) (w : World) (hr : RmAt w aw at_ ah an cw ct ch cn r) (hz : RmSz r) (h : 999 < r.nw) :
    Calls Tryz.prog 89 #[.agg #[.slice aw r.ws.length cw, .slice at_ r.ts.length ct, .slice ah r.hs.length ch, .slice an r.ns.length cn, .int .i64 r.nw, .int .i64 r.nt], .agg #[.int .i64 x.id, .int .i64 x.thing, .int .i64 x.rights, .int .i64 x.badge, .int .i64 x.frm], .int .i64 rights, .int .i64 badge] w fun e w' => e = .returned (.tuple #[.agg #[.slice none 0 0, .slice none 0 0, .slice none 0 0, .slice none 0 0, .int .i64 0, .int .i64 0], .iface 69 (.int .i64 9)]) ∧ Below w.heap.size w w' := by
  obtain ⟨BR0, BX0, BZ0, bl0⟩ := boxes3 w [.slice aw r.ws.length cw, .slice at_ r.ts.length ct, .slice ah r.hs.length ch, .slice an r.ns.length cn, .int .i64 r.nw, .int .i64 r.nt] 30 [.int .i64 x.id, .int .i64 x.thing, .int .i64 x.rights, .int .i64 x.badge, .int .i64 x.frm] 39 [.slice none 0 0, .slice none 0 0, .slice none 0 0, .slice none 0 0, .int .i64 0, .int .i64 0] 30
  go_enter Tryz.func89, Tryz.ntmps89
  go_wp2_with fail
  exact bodyPost_ret (v := .tuple #[.agg #[.slice none 0 0, .slice none 0 0, .slice none 0 0, .slice none 0 0, .int .i64 0, .int .i64 0], .iface 69 (.int .i64 9)]) (by simp [results, Tryz.results89, go_sem]) rfl ⟨rfl, bl0⟩
set_option maxHeartbeats 1000000 in
set_option maxRecDepth 100000 in
theorem rderive_no (aw at_ ah an : Option Addr) (cw ct ch cn : Nat) (r : Rm) (x : Wr) (rights badge : Int) (w : World) (hr : RmAt w aw at_ ah an cw ct ch cn r) (hz : RmSz r) (h : ¬ 999 < r.nw) (hd : drvCode x rights badge ≠ 0) :
    Calls Tryz.prog 89 #[.agg #[.slice aw r.ws.length cw, .slice at_ r.ts.length ct, .slice ah r.hs.length ch, .slice an r.ns.length cn, .int .i64 r.nw, .int .i64 r.nt], .agg #[.int .i64 x.id, .int .i64 x.thing, .int .i64 x.rights, .int .i64 x.badge, .int .i64 x.frm], .int .i64 rights, .int .i64 badge] w fun e w' => e = .returned (.tuple #[.agg #[.slice none 0 0, .slice none 0 0, .slice none 0 0, .slice none 0 0, .int .i64 0, .int .i64 0], .iface 69 (.int .i64 (drvCode x rights badge))]) ∧ Below w.heap.size w w' := by
  obtain ⟨BR0, BX0, BZ0, bl0⟩ := boxes3 w [.slice aw r.ws.length cw, .slice at_ r.ts.length ct, .slice ah r.hs.length ch, .slice an r.ns.length cn, .int .i64 r.nw, .int .i64 r.nt] 30 [.int .i64 x.id, .int .i64 x.thing, .int .i64 x.rights, .int .i64 x.badge, .int .i64 x.frm] 39 [.slice none 0 0, .slice none 0 0, .slice none 0 0, .slice none 0 0, .int .i64 0, .int .i64 0] 30
  go_enter Tryz.func89, Tryz.ntmps89
  go_wp2_with fail
  refine (derive_err x r.nw rights badge _ hd).mono ?_
  rintro e w1 ⟨rfl, hb1⟩
  have BR1 := BR0.below hb1
  have BX1 := BX0.below hb1
  have BZ1 := BZ0.below hb1
  have bl1 := Below_after bl0 hb1
  clear BR0 BX0 BZ0 bl0
  generalize hD : drvCode x rights badge = D at *
  have HD : Hid (drvCode x rights badge = D) := hD
  clear hD
  obtain ⟨cR0, cR1, cR2, cR3, cR4, cR5⟩ := BR1.c6
  have zR := BR1.1
  obtain ⟨cX0, cX1, cX2, cX3, cX4⟩ := BX1.c5
  have zX := BX1.1
  obtain ⟨cZ0, fZ0, cZ1, fZ1, cZ2, fZ2, cZ3, fZ3, cZ4, fZ4, cZ5, fZ5⟩ := BZ1.cf6
  have zZ := BZ1.1
  go_wp2_with fail
  obtain ⟨y0, y1, y2, y3, y4, y5⟩ := ((BZ1.put6 (.slice none 0 0) (.slice none 0 0) (.slice none 0 0) (.slice none 0 0) (.int .i64 0) (.int .i64 0)).alloc (.cells #[.int .i64 0, .int .i64 0, .int .i64 0, .int .i64 0, .int .i64 0] 39)).six
  have blF := ((below_set6 bl1 (b := w.heap.size + 1 + 1) (by omega) (.slice none 0 0) (.slice none 0 0) (.slice none 0 0) (.slice none 0 0) (.int .i64 0) (.int .i64 0)).alloc (below_set6 bl1 (b := w.heap.size + 1 + 1) (by omega) (.slice none 0 0) (.slice none 0 0) (.slice none 0 0) (.slice none 0 0) (.int .i64 0) (.int .i64 0)).size (.cells #[.int .i64 0, .int .i64 0, .int .i64 0, .int .i64 0, .int .i64 0] 39))
  refine bodyPost_ret (v := .tuple #[.agg #[.slice none 0 0, .slice none 0 0, .slice none 0 0, .slice none 0 0, .int .i64 0, .int .i64 0], .iface 69 (.int .i64 D)]) (by simp [results, Tryz.results89, go_sem, y0, y1, y2, y3, y4, y5]) rfl ?_
  exact ⟨by rw [HD.out], blF⟩
set_option maxHeartbeats 1000000 in
set_option maxRecDepth 100000 in
theorem rderive_yes (aw at_ ah an : Option Addr) (cw ct ch cn : Nat) (r : Rm) (x : Wr) (rights badge : Int) (w : World) (hr : RmAt w aw at_ ah an cw ct ch cn r) (hz : RmSz r) (h : ¬ 999 < r.nw) (hd : drvCode x rights badge = 0) :
    Calls Tryz.prog 89 #[.agg #[.slice aw r.ws.length cw, .slice at_ r.ts.length ct, .slice ah r.hs.length ch, .slice an r.ns.length cn, .int .i64 r.nw, .int .i64 r.nt], .agg #[.int .i64 x.id, .int .i64 x.thing, .int .i64 x.rights, .int .i64 x.badge, .int .i64 x.frm], .int .i64 rights, .int .i64 badge] w fun e w' => ∃ v0 v1 v2 v3, e = .returned (.tuple #[.agg #[v0, v1, v2, v3, .int .i64 (r.nw + 1), .int .i64 r.nt], .nilIface]) ∧ OwnsR w' w.heap.size v0 v1 v2 v3 (addR r (drvW x r.nw rights badge)) ∧ Below w.heap.size w w' := by
  obtain ⟨BR0, BX0, BZ0, bl0⟩ := boxes3 w [.slice aw r.ws.length cw, .slice at_ r.ts.length ct, .slice ah r.hs.length ch, .slice an r.ns.length cn, .int .i64 r.nw, .int .i64 r.nt] 30 [.int .i64 x.id, .int .i64 x.thing, .int .i64 x.rights, .int .i64 x.badge, .int .i64 x.frm] 39 [.slice none 0 0, .slice none 0 0, .slice none 0 0, .slice none 0 0, .int .i64 0, .int .i64 0] 30
  go_enter Tryz.func89, Tryz.ntmps89
  go_wp2_with fail
  refine (derive_okW x r.nw rights badge _ hd).mono ?_
  rintro e w1 ⟨rfl, hb1⟩
  have BR1 := BR0.below hb1
  have BX1 := BX0.below hb1
  have BZ1 := BZ0.below hb1
  have bl1 := Below_after bl0 hb1
  clear BR0 BX0 BZ0 bl0
  generalize hD : drvW x r.nw rights badge = y at *
  have HD : Hid (drvW x r.nw rights badge = y) := hD
  clear hD
  obtain ⟨cR0, cR1, cR2, cR3, cR4, cR5⟩ := BR1.c6
  have zR := BR1.1
  obtain ⟨cX0, cX1, cX2, cX3, cX4⟩ := BX1.c5
  have zX := BX1.1
  obtain ⟨cZ0, cZ1, cZ2, cZ3, cZ4, cZ5⟩ := BZ1.c6
  have zZ := BZ1.1
  go_wp2_with fail
  clear cR0 cR1 cR2 cR3 cR4 cR5 zR cX0 cX1 cX2 cX3 cX4 zX cZ0 cZ1 cZ2 cZ3 cZ4 cZ5 zZ
  have BR2 := BR1.alloc (.cells #[.int .i64 y.id, .int .i64 y.thing, .int .i64 y.rights, .int .i64 y.badge, .int .i64 y.frm] 39)
  have BX2 := BX1.alloc (.cells #[.int .i64 y.id, .int .i64 y.thing, .int .i64 y.rights, .int .i64 y.badge, .int .i64 y.frm] 39)
  have BZ2 := BZ1.alloc (.cells #[.int .i64 y.id, .int .i64 y.thing, .int .i64 y.rights, .int .i64 y.badge, .int .i64 y.frm] 39)
  have bl2 := bl1.alloc bl1.size (.cells #[.int .i64 y.id, .int .i64 y.thing, .int .i64 y.rights, .int .i64 y.badge, .int .i64 y.frm] 39)
  have BY2 := Bx.new w1 [.int .i64 y.id, .int .i64 y.thing, .int .i64 y.rights, .int .i64 y.badge, .int .i64 y.frm] 39
  clear BR1 BX1 BZ1 bl1
  generalize hg2 : (w1.alloc (.cells #[.int .i64 y.id, .int .i64 y.thing, .int .i64 y.rights, .int .i64 y.badge, .int .i64 y.frm] 39)) = w2 at BR2 BX2 BZ2 BY2 bl2 ⊢
  clear hg2
  obtain ⟨L, hL⟩ : ∃ L, (r.ws ++ [y]).length = L := ⟨_, rfl⟩
  have HL : Hid ((r.ws ++ [y]).length = L) := hL
  clear hL
  have hlow := BZ2.1
  refine (add_at aw at_ ah an cw ct ch cn r y _ (hr.below bl2) hz L HL.out).mono ?_
  rintro e w3 ⟨b0, b1, b2, b3, d0, d1, d2, d3, rfl, hO, hb3⟩
  have BR3 := BR2.below hb3
  have BX3 := BX2.below hb3
  have BZ3 := BZ2.below hb3
  have BY3 := BY2.below hb3
  have bl3 := Below_after bl2 hb3
  clear BR2 BX2 BZ2 BY2 bl2
  have HO : Hid (OwnsR w3 _ _ _ _ _ _) := hO
  clear hO
  have hw2 : w.heap.size + 1 + 1 < w2.heap.size := hlow
  obtain ⟨cR0, cR1, cR2, cR3, cR4, cR5⟩ := BR3.c6
  have zR := BR3.1
  obtain ⟨cX0, cX1, cX2, cX3, cX4⟩ := BX3.c5
  have zX := BX3.1
  obtain ⟨cZ0, fZ0, cZ1, fZ1, cZ2, fZ2, cZ3, fZ3, cZ4, fZ4, cZ5, fZ5⟩ := BZ3.cf6
  have zZ := BZ3.1
  obtain ⟨cY0, cY1, cY2, cY3, cY4⟩ := BY3.c5
  have zY := BY3.1
  go_wp2_with fail
  obtain ⟨y0, y1, y2, y3, y4, y5⟩ := (BZ3.put6 (.slice b0 L d0) (.slice b1 r.ts.length d1) (.slice b2 r.hs.length d2) (.slice b3 r.ns.length d3) (.int .i64 (r.nw + 1)) (.int .i64 r.nt)).six
  have blF := (below_set6 bl3 (b := w.heap.size + 1 + 1) (by omega) (.slice b0 L d0) (.slice b1 r.ts.length d1) (.slice b2 r.hs.length d2) (.slice b3 r.ns.length d3) (.int .i64 (r.nw + 1)) (.int .i64 r.nt))
  refine bodyPost_ret (v := .tuple #[.agg #[.slice b0 L d0, .slice b1 r.ts.length d1, .slice b2 r.hs.length d2, .slice b3 r.ns.length d3, .int .i64 (r.nw + 1), .int .i64 r.nt], .nilIface]) (by simp [results, Tryz.results89, go_sem, y0, y1, y2, y3, y4, y5]) rfl ?_
  exact ⟨_, _, _, _, rfl, by rw [HD.out]; exact (HO.out.set6 (by omega) _ _ _ _ _ _).mono (by omega), blF⟩
end Go.Proofs.YtddgpgldbekamaaGreat
