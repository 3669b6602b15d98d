/- TopNote, walked: no writ sent along. -/
import Derived.Test.YtpmkkmndgicbgaaGrownB
import Derived.Test.YtpmkkmndgicbgaaMadeW
import Derived.Test.YtpmkkmndgicbgaaNumW
import Derived.Test.YtpmkkmndgicbgaaWaitW
set_option linter.unusedSimpArgs false
set_option linter.unnecessarySimpa false
set_option linter.unusedVariables false
namespace Go.Proofs.Ytpmkkmndgicbgaa
open Go.RowKit

set_option maxHeartbeats 2000000 in
set_option maxRecDepth 100000 in
theorem tnote_mn (a : Option Addr) (c : Nat) (l : List Ac) (h s u t : Int) (dt : ByteArray) (sl ri : Int) (w : World) (hw : AcsAt w a l) (hm : l.length ≤ maxLen) (hq : lacB l 80 = true) (hd : dt.size ≤ 20) (hc : sendC (growR l) h s dt sl ri = 0) (hsl : sl < 0) (hgq : getC (sendR (growR l) h s dt sl ri) u t = 0) (hth : (getW (sendR (growR l) h s dt sl ri) u t).thing = (getW (growR l) h s).thing) :
    Calls Try.prog 3 #[.slice a l.length c, .agg #[.int .i64 h, .int .i64 s], .agg #[.int .i64 u, .int .i64 t], .string dt, .int .i64 sl, .int .i64 ri] w fun e w' => e = .returned (.bool true) ∧ Below w.heap.size w w' := by
  have BP := Bx.new w [.int .i64 h, .int .i64 s] 24
  replace BP := BP.alloc (.cells #[.int .i64 u, .int .i64 t] 24)
  have BQ := Bx.new (w.alloc (.cells #[.int .i64 h, .int .i64 s] 24)) [.int .i64 u, .int .i64 t] 24
  rw [sz_alloc] at BQ
  have bl := ((Below.refl w.heap.size w).alloc (by first | exact Nat.le_refl _ | (simp <;> omega)) (.cells #[.int .i64 h, .int .i64 s] 24)).alloc (by first | exact Nat.le_refl _ | (simp <;> omega)) (.cells #[.int .i64 u, .int .i64 t] 24)
  have hlen := lac_len hq
  have hi := inv_grow l l.length (by omega)
  rw [List.take_length] at hi
  have hI : RmI (growR l) := ⟨hi.sz (by omega), hi.put, hi.wf⟩
  have hW := whole_grow l
  have hk : InvK 80 (growR l) := hi.mono (by omega)
  clear hi
  go_enter Try.func3, Try.ntmps3
  have hcon := made_any ((w.alloc (.cells #[.int .i64 h, .int .i64 s] 24)).alloc (.cells #[.int .i64 u, .int .i64 t] 24))
  go_wp2_with fail
  refine hcon.mono ?_
  rintro e w1 ⟨rfl, hb1⟩
  clear hcon
  replace BP := BP.below hb1
  replace BQ := BQ.below hb1
  replace bl := Below_after bl hb1
  have yP := BP.1
  have yQ := BQ.1
  have hg := grown_yes a c l w1 (hw.below bl) hm hq
  generalize growR l = g at hg hI hW hk hc hgq hth
  clear hq hw hm hlen
  have hcon := hg
  clear hg
  go_wp2_with fail
  refine hcon.mono ?_
  rintro e w2 ⟨a0, a1, a2, a3, N0, N1, N2, N3, c0, c1, c2, c3, M, N, rfl, ⟨l0, l1, l2, l3, l4, l5⟩, hat, -, hb2⟩
  clear hcon
  clear yP yQ
  replace BP := BP.below hb2
  replace BQ := BQ.below hb2
  replace bl := Below_after bl hb2
  have yP := BP.1
  have yQ := BQ.1
  replace BP := BP.alloc (.cells #[.slice a0 N0 c0, .slice a1 N1 c1, .slice a2 N2 c2, .slice a3 N3 c3, .int .i64 M, .int .i64 N] 31)
  replace BQ := BQ.alloc (.cells #[.slice a0 N0 c0, .slice a1 N1 c1, .slice a2 N2 c2, .slice a3 N3 c3, .int .i64 M, .int .i64 N] 31)
  replace hat := hat.below ((Below.refl _ _).alloc (Nat.le_refl _) (.cells #[.slice a0 N0 c0, .slice a1 N1 c1, .slice a2 N2 c2, .slice a3 N3 c3, .int .i64 M, .int .i64 N] 31))
  replace bl := bl.alloc bl.size (.cells #[.slice a0 N0 c0, .slice a1 N1 c1, .slice a2 N2 c2, .slice a3 N3 c3, .int .i64 M, .int .i64 N] 31)
  have BR := Bx.new w2 [.slice a0 N0 c0, .slice a1 N1 c1, .slice a2 N2 c2, .slice a3 N3 c3, .int .i64 M, .int .i64 N] 31
  have hdl : decide ((20 : Int) < (dt.size : Int)) = false := decide_eq_false (by omega)
  obtain ⟨sw, -, slen, shd⟩ := send_facts hc
  obtain ⟨f1, -, f3⟩ := who_facts sw
  have hkd := inv_send hk hc
  have hId := rmI_of hkd (by omega)
  have hbeg := fun h1 h2 => send_begin hW hc (g := u) (u := t) h1 h2
  have hs0 : decide (0 ≤ sl) = false := decide_eq_false (by omega)
  have hcon := get_ok a0 a1 a2 a3 c0 c1 c2 c3 g h s _ hat hI.sz f1
  rw [l0, l1, l2, l3, l4, l5] at hcon
  have cR0 := (BR.2 0 _ rfl).1
  have cR1 := (BR.2 1 _ rfl).1
  have cR2 := (BR.2 2 _ rfl).1
  have cR3 := (BR.2 3 _ rfl).1
  have cR4 := (BR.2 4 _ rfl).1
  have cR5 := (BR.2 5 _ rfl).1
  have zR := BR.1
  have cP0 := (BP.2 0 _ rfl).1
  have cP1 := (BP.2 1 _ rfl).1
  have zP := BP.1
  go_wp2_with fail
  refine hcon.mono ?_
  rintro e w3 ⟨rfl, hb3⟩
  clear cR0 cR1 cR2 cR3 cR4 cR5 zR cP0 cP1 zP hcon
  clear yP yQ
  replace BP := BP.below hb3
  replace BQ := BQ.below hb3
  replace BR := BR.below hb3
  replace hat := hat.below hb3
  replace bl := Below_after bl hb3
  have yP := BP.1
  have yQ := BQ.1
  have yR := BR.1
  replace BP := BP.alloc (.cells #[.int .i64 (getW g h s).id, .int .i64 (getW g h s).thing, .int .i64 (getW g h s).rights, .int .i64 (getW g h s).badge, .int .i64 (getW g h s).frm] 35)
  replace BQ := BQ.alloc (.cells #[.int .i64 (getW g h s).id, .int .i64 (getW g h s).thing, .int .i64 (getW g h s).rights, .int .i64 (getW g h s).badge, .int .i64 (getW g h s).frm] 35)
  replace BR := BR.alloc (.cells #[.int .i64 (getW g h s).id, .int .i64 (getW g h s).thing, .int .i64 (getW g h s).rights, .int .i64 (getW g h s).badge, .int .i64 (getW g h s).frm] 35)
  replace hat := hat.below ((Below.refl _ _).alloc (Nat.le_refl _) (.cells #[.int .i64 (getW g h s).id, .int .i64 (getW g h s).thing, .int .i64 (getW g h s).rights, .int .i64 (getW g h s).badge, .int .i64 (getW g h s).frm] 35))
  replace bl := bl.alloc bl.size (.cells #[.int .i64 (getW g h s).id, .int .i64 (getW g h s).thing, .int .i64 (getW g h s).rights, .int .i64 (getW g h s).badge, .int .i64 (getW g h s).frm] 35)
  have BX := Bx.new w3 [.int .i64 (getW g h s).id, .int .i64 (getW g h s).thing, .int .i64 (getW g h s).rights, .int .i64 (getW g h s).badge, .int .i64 (getW g h s).frm] 35
  have hcon := get_any a0 a1 a2 a3 c0 c1 c2 c3 g h sl _ hat hI.sz
  rw [l0, l1, l2, l3, l4, l5] at hcon
  have cR0 := (BR.2 0 _ rfl).1
  have cR1 := (BR.2 1 _ rfl).1
  have cR2 := (BR.2 2 _ rfl).1
  have cR3 := (BR.2 3 _ rfl).1
  have cR4 := (BR.2 4 _ rfl).1
  have cR5 := (BR.2 5 _ rfl).1
  have zR := BR.1
  have cP0 := (BP.2 0 _ rfl).1
  have cP1 := (BP.2 1 _ rfl).1
  have zP := BP.1
  go_wp2_with fail
  refine hcon.mono ?_
  rintro e w4 ⟨y, ev2, rfl, hG2, hb4⟩
  clear cR0 cR1 cR2 cR3 cR4 cR5 zR cP0 cP1 zP hcon
  clear yP yQ yR
  replace BP := BP.below hb4
  replace BQ := BQ.below hb4
  replace BR := BR.below hb4
  replace BX := BX.below hb4
  replace hat := hat.below hb4
  replace bl := Below_after bl hb4
  have yP := BP.1
  have yQ := BQ.1
  have yR := BR.1
  have yX := BX.1
  replace BP := BP.alloc (.cells #[.int .i64 y.id, .int .i64 y.thing, .int .i64 y.rights, .int .i64 y.badge, .int .i64 y.frm] 35)
  replace BQ := BQ.alloc (.cells #[.int .i64 y.id, .int .i64 y.thing, .int .i64 y.rights, .int .i64 y.badge, .int .i64 y.frm] 35)
  replace BR := BR.alloc (.cells #[.int .i64 y.id, .int .i64 y.thing, .int .i64 y.rights, .int .i64 y.badge, .int .i64 y.frm] 35)
  replace BX := BX.alloc (.cells #[.int .i64 y.id, .int .i64 y.thing, .int .i64 y.rights, .int .i64 y.badge, .int .i64 y.frm] 35)
  replace hat := hat.below ((Below.refl _ _).alloc (Nat.le_refl _) (.cells #[.int .i64 y.id, .int .i64 y.thing, .int .i64 y.rights, .int .i64 y.badge, .int .i64 y.frm] 35))
  replace bl := bl.alloc bl.size (.cells #[.int .i64 y.id, .int .i64 y.thing, .int .i64 y.rights, .int .i64 y.badge, .int .i64 y.frm] 35)
  have BG := Bx.new w4 [.int .i64 y.id, .int .i64 y.thing, .int .i64 y.rights, .int .i64 y.badge, .int .i64 y.frm] 35
  have hcon := act_send a0 a1 a2 a3 c0 c1 c2 c3 g h s dt sl ri _ hat hI (by unfold maxLen; omega)
  rw [l0, l1, l2, l3, l4, l5] at hcon
  have cR0 := (BR.2 0 _ rfl).1
  have cR1 := (BR.2 1 _ rfl).1
  have cR2 := (BR.2 2 _ rfl).1
  have cR3 := (BR.2 3 _ rfl).1
  have cR4 := (BR.2 4 _ rfl).1
  have cR5 := (BR.2 5 _ rfl).1
  have zR := BR.1
  have cP0 := (BP.2 0 _ rfl).1
  have cP1 := (BP.2 1 _ rfl).1
  have zP := BP.1
  go_wp2_with fail
  refine hcon.mono ?_
  rintro e w5 ⟨b0, b1, b2, b3, m0, m1, m2, m3, e0, e1, e2, e3, mm, nn, ev, rfl, hA, hb5⟩
  clear cR0 cR1 cR2 cR3 cR4 cR5 zR cP0 cP1 zP hcon
  clear yP yQ yR yX
  replace BP := BP.below hb5
  replace BQ := BQ.below hb5
  replace BR := BR.below hb5
  replace BX := BX.below hb5
  replace BG := BG.below hb5
  replace hat := hat.below hb5
  replace bl := Below_after bl hb5
  have yP := BP.1
  have yQ := BQ.1
  have yR := BR.1
  have yX := BX.1
  have yG := BG.1
  obtain ⟨-, rfl, rfl, rfl, rfl, rfl, rfl, rfl, hat2, -⟩ := hA.resolve_right (fun h => h.1 hc)
  generalize sendR g h s dt sl ri = d at *
  have BX5 := BX
  have BG5 := BG
  have BR5 := BR
  have BQ5 := BQ
  have hat5 := hat
  have bl5 := bl
  have hL : Below w5.heap.size w5 (w5.alloc (.cells #[.slice b0 d.ws.length e0, .slice b1 d.ts.length e1, .slice b2 d.hs.length e2, .slice b3 d.ns.length e3, .int .i64 d.nw, .int .i64 d.nt] 31)) := (Below.refl _ _).alloc (Nat.le_refl _) _
  replace BP := BP.alloc (.cells #[.slice b0 d.ws.length e0, .slice b1 d.ts.length e1, .slice b2 d.hs.length e2, .slice b3 d.ns.length e3, .int .i64 d.nw, .int .i64 d.nt] 31)
  replace BQ := BQ.alloc (.cells #[.slice b0 d.ws.length e0, .slice b1 d.ts.length e1, .slice b2 d.hs.length e2, .slice b3 d.ns.length e3, .int .i64 d.nw, .int .i64 d.nt] 31)
  replace BR := BR.alloc (.cells #[.slice b0 d.ws.length e0, .slice b1 d.ts.length e1, .slice b2 d.hs.length e2, .slice b3 d.ns.length e3, .int .i64 d.nw, .int .i64 d.nt] 31)
  replace BX := BX.alloc (.cells #[.slice b0 d.ws.length e0, .slice b1 d.ts.length e1, .slice b2 d.hs.length e2, .slice b3 d.ns.length e3, .int .i64 d.nw, .int .i64 d.nt] 31)
  replace BG := BG.alloc (.cells #[.slice b0 d.ws.length e0, .slice b1 d.ts.length e1, .slice b2 d.hs.length e2, .slice b3 d.ns.length e3, .int .i64 d.nw, .int .i64 d.nt] 31)
  replace hat := hat.below ((Below.refl _ _).alloc (Nat.le_refl _) (.cells #[.slice b0 d.ws.length e0, .slice b1 d.ts.length e1, .slice b2 d.hs.length e2, .slice b3 d.ns.length e3, .int .i64 d.nw, .int .i64 d.nt] 31))
  replace hat2 := hat2.below ((Below.refl _ _).alloc (Nat.le_refl _) (.cells #[.slice b0 d.ws.length e0, .slice b1 d.ts.length e1, .slice b2 d.hs.length e2, .slice b3 d.ns.length e3, .int .i64 d.nw, .int .i64 d.nt] 31))
  replace bl := bl.alloc bl.size (.cells #[.slice b0 d.ws.length e0, .slice b1 d.ts.length e1, .slice b2 d.hs.length e2, .slice b3 d.ns.length e3, .int .i64 d.nw, .int .i64 d.nt] 31)
  have BY := Bx.new w5 [.slice b0 d.ws.length e0, .slice b1 d.ts.length e1, .slice b2 d.hs.length e2, .slice b3 d.ns.length e3, .int .i64 d.nw, .int .i64 d.nt] 31
  have hcon := has_any (getW g h s).rights 2 (w5.alloc (.cells #[.slice b0 d.ws.length e0, .slice b1 d.ts.length e1, .slice b2 d.hs.length e2, .slice b3 d.ns.length e3, .int .i64 d.nw, .int .i64 d.nt] 31))
  rw [f3] at hcon
  have cX0 := (BX.2 0 _ rfl).1
  have cX1 := (BX.2 1 _ rfl).1
  have cX2 := (BX.2 2 _ rfl).1
  have cX3 := (BX.2 3 _ rfl).1
  have cX4 := (BX.2 4 _ rfl).1
  have zX := BX.1
  go_wp2_with fail
  refine hcon.mono ?_
  rintro e w' ⟨rfl, hw'⟩
  rw [hw']
  clear hw' w' hcon
  clear cX0 cX1 cX2 cX3 cX4 zX
  have hN0 := hbeg hgq hth
  clear hbeg
  obtain ⟨vi, vr, vb, vf, hv⟩ : ∃ vi vr vb vf, getW d u t = ⟨vi, (getW g h s).thing, vr, vb, vf⟩ := ⟨(getW d u t).id, (getW d u t).rights, (getW d u t).badge, (getW d u t).frm, Wr.ext5 rfl hth rfl rfl rfl⟩
  have hgo := get_ok b0 b1 b2 b3 e0 e1 e2 e3 d u t _ hat2 hId.sz hgq
  rw [hv] at hgo hN0
  dsimp only at hgo
  clear hv hth
  have hwl := wait_len g (getW g h s).thing
  generalize hx0 : getW g h s = x at *
  have hLL : (waitL g x.thing ++ [(⟨x.thing, dt, x.badge, if sl < 0 then 0 else g.nw⟩ : Nt)])[(waitL g x.thing).length]? = some (⟨x.thing, dt, x.badge, if sl < 0 then 0 else g.nw⟩ : Nt) := by simp
  have hLl : (waitL g x.thing ++ [(⟨x.thing, dt, x.badge, if sl < 0 then 0 else g.nw⟩ : Nt)]).length = (waitL g x.thing).length + 1 := by simp
  generalize waitL g x.thing ++ [(⟨x.thing, dt, x.badge, if sl < 0 then 0 else g.nw⟩ : Nt)] = LL at hN0 hLL hLl
  generalize hKe : (waitL g x.thing).length = KK at *
  have hcon := hgo
  have cY0 := (BY.2 0 _ rfl).1
  have cY1 := (BY.2 1 _ rfl).1
  have cY2 := (BY.2 2 _ rfl).1
  have cY3 := (BY.2 3 _ rfl).1
  have cY4 := (BY.2 4 _ rfl).1
  have cY5 := (BY.2 5 _ rfl).1
  have zY := BY.1
  have cQ0 := (BQ.2 0 _ rfl).1
  have cQ1 := (BQ.2 1 _ rfl).1
  have zQ := BQ.1
  go_wp2_with fail
  refine hcon.mono ?_
  rintro e w6 ⟨rfl, hb6⟩
  clear cY0 cY1 cY2 cY3 cY4 cY5 zY cQ0 cQ1 zQ hcon
  clear yP yQ yR yX yG
  replace BP := BP.below hb6
  replace BQ := BQ.below hb6
  replace BR := BR.below hb6
  replace BX := BX.below hb6
  replace BG := BG.below hb6
  replace BY := BY.below hb6
  replace hat := hat.below hb6
  replace hat2 := hat2.below hb6
  replace bl := Below_after bl hb6
  have yP := BP.1
  have yQ := BQ.1
  have yR := BR.1
  have yX := BX.1
  have yG := BG.1
  have yY := BY.1
  clear hgo
  replace hL := Below_after hL hb6
  replace hL := hL.alloc hL.size (.cells #[.int .i64 vi, .int .i64 x.thing, .int .i64 vr, .int .i64 vb, .int .i64 vf] 35)
  replace BP := BP.alloc (.cells #[.int .i64 vi, .int .i64 x.thing, .int .i64 vr, .int .i64 vb, .int .i64 vf] 35)
  replace BQ := BQ.alloc (.cells #[.int .i64 vi, .int .i64 x.thing, .int .i64 vr, .int .i64 vb, .int .i64 vf] 35)
  replace BR := BR.alloc (.cells #[.int .i64 vi, .int .i64 x.thing, .int .i64 vr, .int .i64 vb, .int .i64 vf] 35)
  replace BX := BX.alloc (.cells #[.int .i64 vi, .int .i64 x.thing, .int .i64 vr, .int .i64 vb, .int .i64 vf] 35)
  replace BG := BG.alloc (.cells #[.int .i64 vi, .int .i64 x.thing, .int .i64 vr, .int .i64 vb, .int .i64 vf] 35)
  replace BY := BY.alloc (.cells #[.int .i64 vi, .int .i64 x.thing, .int .i64 vr, .int .i64 vb, .int .i64 vf] 35)
  replace hat := hat.below ((Below.refl _ _).alloc (Nat.le_refl _) (.cells #[.int .i64 vi, .int .i64 x.thing, .int .i64 vr, .int .i64 vb, .int .i64 vf] 35))
  replace hat2 := hat2.below ((Below.refl _ _).alloc (Nat.le_refl _) (.cells #[.int .i64 vi, .int .i64 x.thing, .int .i64 vr, .int .i64 vb, .int .i64 vf] 35))
  replace bl := bl.alloc bl.size (.cells #[.int .i64 vi, .int .i64 x.thing, .int .i64 vr, .int .i64 vb, .int .i64 vf] 35)
  have BV := Bx.new w6 [.int .i64 vi, .int .i64 x.thing, .int .i64 vr, .int .i64 vb, .int .i64 vf] 35
  have cV0 := (BV.2 0 _ rfl).1
  have cV1 := (BV.2 1 _ rfl).1
  have cV2 := (BV.2 2 _ rfl).1
  have cV3 := (BV.2 3 _ rfl).1
  have cV4 := (BV.2 4 _ rfl).1
  have zV := BV.1
  have cX0 := (BX.2 0 _ rfl).1
  have cX1 := (BX.2 1 _ rfl).1
  have cX2 := (BX.2 2 _ rfl).1
  have cX3 := (BX.2 3 _ rfl).1
  have cX4 := (BX.2 4 _ rfl).1
  have zX := BX.1
  go_wp2_with fail
  clear cV0 cV1 cV2 cV3 cV4 zV cX0 cX1 cX2 cX3 cX4 zX
  have hva := yY
  generalize (w6.alloc (.cells #[.int .i64 vi, .int .i64 x.thing, .int .i64 vr, .int .i64 vb, .int .i64 vf] 35)) = v0 at *
  generalize w6.heap.size = va at *
  go_loopw [23] (fun ii wr => ∃ (i : Nat) (x' : Rm) (y0 y1 y2 y3 : Option Addr) (n0 n1 n2 n3 d0 d1 d2 d3 : Nat) (M' N' : Int), i ≤ KK ∧ ii = .int .i64 i ∧ Hid (NInv ⟨vi, x.thing, vr, vb, vf⟩ u t d.ws g.ts (LL.drop i) x') ∧ Hid (InvK (81 + i) x') ∧ Hid (LenR x' n0 n1 n2 n3 M' N') ∧ Hid (RmAt wr y0 y1 y2 y3 d0 d1 d2 d3 x') ∧ Bx wr w5.heap.size [.slice y0 n0 d0, .slice y1 n1 d1, .slice y2 n2 d2, .slice y3 n3 d3, .int .i64 M', .int .i64 N'] ∧ Bx wr va [.int .i64 vi, .int .i64 x.thing, .int .i64 vr, .int .i64 vb, .int .i64 vf] ∧ Below w5.heap.size w5 wr) (fun ii _ => 3 - (intOf ii).toNat)
  case atStart => exact ⟨0, d, b0, b1, b2, b3, _, _, _, _, e0, e1, e2, e3, _, _, Nat.zero_le _, rfl, hN0, hkd, ⟨rfl, rfl, rfl, rfl, rfl, rfl⟩, hat2, BY, BV, hL⟩
  case round =>
    clear hN0 hat2 BY BV hL BX BG BR BP BQ hat bl hkd hId hW hk
    obtain ⟨i, x', y0, y1, y2, y3, n0, n1, n2, n3, d0, d1, d2, d3, M', N', hi', rfl, HN, HI, HLn, HAt, BY, BV, hL⟩ := hrel
    have hN := HN.out
    obtain ⟨l0', l1', l2', l3', l4', l5'⟩ := HLn.out
    have hIx := rmI_of HI.out (by omega)
    obtain ⟨nt, hnt⟩ : ∃ nt, LL[i]? = some nt := ⟨LL[i]'(by omega), List.getElem?_eq_getElem (by omega)⟩
    have hdr : LL.drop i = nt :: LL.drop (i + 1) := by obtain ⟨h1, h2⟩ := List.getElem?_eq_some_iff.1 hnt; rw [← h2]; exact List.drop_eq_getElem_cons h1
    rw [hdr] at hN
    clear hdr
    obtain ⟨tn, tc⟩ := take_code hN
    have hnx := fun h0 => take_next hN h0
    have hcon := act_take y0 y1 y2 y3 d0 d1 d2 d3 x' u t wr HAt.out hIx
    rw [l0', l1', l2', l3', l4', l5'] at hcon
    have BQ := BQ5.below hL
    have cY0 := (BY.2 0 _ rfl).1
    have cY1 := (BY.2 1 _ rfl).1
    have cY2 := (BY.2 2 _ rfl).1
    have cY3 := (BY.2 3 _ rfl).1
    have cY4 := (BY.2 4 _ rfl).1
    have cY5 := (BY.2 5 _ rfl).1
    have zY := BY.1
    have cQ0 := (BQ.2 0 _ rfl).1
    have cQ1 := (BQ.2 1 _ rfl).1
    have zQ := BQ.1
    have d3' : decide ((i : Int) < 3) = true := decide_eq_true (by omega)
    go_wp2_with fail
    refine hcon.mono ?_
    rintro e w8 ⟨z0, z1, z2, z3, r0, r1, r2, r3, s0, s1, s2, s3, mm, nn, ev, qn, sl', rfl, hA, hT, hb8⟩
    clear cY0 cY1 cY2 cY3 cY4 cY5 zY cQ0 cQ1 zQ hcon
    have BY8 := BY.below hb8
    have BV8 := BV.below hb8
    have BQ8 := BQ.below hb8
    have hL8 := Below_after hL hb8
    have bl8 := Below_after bl5 hL8
    have hyb := BY.1
    have hq5 := BQ5.1
    clear BY BV BQ
    have hhas := fun W : World => has_any vr 1 W
    rcases tc with ⟨hb1, hT7⟩ | ⟨hb1, hw0, hfr, hT9⟩ | ⟨hb1, hT0⟩
    · rw [hT7] at hA hT
      obtain ⟨-, rfl, rfl, rfl, rfl, rfl, rfl, rfl, rfl, rfl, rfl, rfl, rfl, rfl, rfl, rfl⟩ := hA.resolve_left (fun h => by cases h.1)
      obtain ⟨-, rfl, rfl⟩ := hT.resolve_left (fun h => by cases h.1)
      simp only [hb1] at hhas
      clear hnx hN HN
      have cV0 := (BV8.2 0 _ rfl).1
      have cV1 := (BV8.2 1 _ rfl).1
      have cV2 := (BV8.2 2 _ rfl).1
      have cV3 := (BV8.2 3 _ rfl).1
      have cV4 := (BV8.2 4 _ rfl).1
      have zV := BV8.1
      go_wp2_with fail
      refine (hhas _).mono ?_
      rintro e w' ⟨rfl, hw'⟩
      rw [hw']
      clear hw' w'
      go_wp2_with fail
      refine (number_err 7 _).mono ?_
      rintro e w' ⟨rfl, hw'⟩
      rw [hw']
      clear hw' w'
      have blF := (bl8.alloc bl8.size (.cells #[.slice none 0 0, .slice none 0 0, .slice none 0 0, .slice none 0 0, .int .i64 0, .int .i64 0] 31))
      go_wp2_with fail
      go_ret
      exact ⟨rfl, blF.alloc blF.size _⟩
    · rw [hT9] at hA hT
      obtain ⟨-, rfl, rfl, rfl, rfl, rfl, rfl, rfl, rfl, rfl, rfl, rfl, rfl, rfl, rfl, rfl⟩ := hA.resolve_left (fun h => by cases h.1)
      obtain ⟨-, rfl, rfl⟩ := hT.resolve_left (fun h => by cases h.1)
      simp only [hb1] at hhas
      have cV0 := (BV8.2 0 _ rfl).1
      have cV1 := (BV8.2 1 _ rfl).1
      have cV2 := (BV8.2 2 _ rfl).1
      have cV3 := (BV8.2 3 _ rfl).1
      have cV4 := (BV8.2 4 _ rfl).1
      have zV := BV8.1
      have hzh := hIx.sz.h
      have hfree := fun (W : World) (hB : Below w8.heap.size w8 W) => free_any y2 d2 x'.hs u W ((HAt.out.below hb8).h.below hB) (by simp [maxLen]; omega)
      rw [l2'] at hfree
      generalize freeP x'.hs u = f at hfree hfr
      have hdf : decide (f < 0) = true := decide_eq_true hfr
      clear hnx hN HN
      have cY0 := (BY8.2 0 _ rfl).1
      have cY1 := (BY8.2 1 _ rfl).1
      have cY2 := (BY8.2 2 _ rfl).1
      have cY3 := (BY8.2 3 _ rfl).1
      have cY4 := (BY8.2 4 _ rfl).1
      have cY5 := (BY8.2 5 _ rfl).1
      have zY := BY8.1
      have BQ9 := (BQ8.alloc (.cells #[.slice none 0 0, .slice none 0 0, .slice none 0 0, .slice none 0 0, .int .i64 0, .int .i64 0] 31)).alloc (.cells #[.int .i64 zeroN.port, .string zeroN.data, .int .i64 zeroN.badge, .int .i64 zeroN.writ] 44)
      have cQ0 := (BQ9.2 0 _ rfl).1
      have zQ : w.heap.size + 1 < w8.heap.size := BQ8.1
      have zQ2 : w.heap.size < w8.heap.size := by omega
      go_wp2_with fail
      refine (hhas _).mono ?_
      rintro e w' ⟨rfl, hw'⟩
      rw [hw']
      clear hw' w'
      go_wp2_with fail
      refine (number_err 9 _).mono ?_
      rintro e w' ⟨rfl, hw'⟩
      rw [hw']
      clear hw' w'
      have hB1 := (Below.refl w8.heap.size w8).alloc (Nat.le_refl _) (.cells #[.slice none 0 0, .slice none 0 0, .slice none 0 0, .slice none 0 0, .int .i64 0, .int .i64 0] 31)
      go_wp2_with fail
      refine (hfree _ (hB1.alloc hB1.size _)).mono ?_
      rintro e w9 ⟨rfl, hb9⟩
      have blF := (bl8.alloc bl8.size (.cells #[.slice none 0 0, .slice none 0 0, .slice none 0 0, .slice none 0 0, .int .i64 0, .int .i64 0] 31))
      have blG := Below_after (blF.alloc blF.size _) hb9
      go_wp2_with fail
      go_ret
      exact ⟨rfl, blG⟩
    · obtain ⟨hN2, hs1, hs2⟩ := hnx hT0
      have hI2 := inv_take HI.out hT0
      rw [hT0] at hA hT
      obtain ⟨-, rfl, D0, D1, D2, D3, D4, D5, hat', h0, h1, h2, h3⟩ := hA.resolve_right (fun h => h.1 rfl)
      obtain ⟨-, hqe, hse⟩ := hT.resolve_right (fun h => h.1 rfl)
      rw [tn] at hqe
      subst hqe
      subst hse
      clear hnx hN HN HLn HAt hA hT tn hT0 hhas
      generalize takeR x' u t = X2 at *
      generalize takeSlot x' u t = tsl at *
      have HLn : Hid (LenR X2 r0 r1 r2 r3 mm nn) := ⟨D0.symm, D1.symm, D2.symm, D3.symm, D4.symm, D5.symm⟩
      clear D0 D1 D2 D3 D4 D5
      have BYn := ((BY8.put6 (.slice z0 r0 s0) (.slice z1 r1 s1) (.slice z2 r2 s2) (.slice z3 r3 s3) (.int .i64 mm) (.int .i64 nn)).alloc (.cells #[.slice z0 r0 s0, .slice z1 r1 s1, .slice z2 r2 s2, .slice z3 r3 s3, .int .i64 mm, .int .i64 nn] 31)).alloc (.cells #[.int .i64 qn.port, .string qn.data, .int .i64 qn.badge, .int .i64 qn.writ] 44)
      have BVn := ((BV8.past6 (b' := w5.heap.size) (by omega) (.slice z0 r0 s0) (.slice z1 r1 s1) (.slice z2 r2 s2) (.slice z3 r3 s3) (.int .i64 mm) (.int .i64 nn)).alloc (.cells #[.slice z0 r0 s0, .slice z1 r1 s1, .slice z2 r2 s2, .slice z3 r3 s3, .int .i64 mm, .int .i64 nn] 31)).alloc (.cells #[.int .i64 qn.port, .string qn.data, .int .i64 qn.badge, .int .i64 qn.writ] 44)
      have hLs := below_set6 hL8 (b := w5.heap.size) (Nat.le_refl _) (.slice z0 r0 s0) (.slice z1 r1 s1) (.slice z2 r2 s2) (.slice z3 r3 s3) (.int .i64 mm) (.int .i64 nn)
      have hLn := hLs.alloc hLs.size (.cells #[.slice z0 r0 s0, .slice z1 r1 s1, .slice z2 r2 s2, .slice z3 r3 s3, .int .i64 mm, .int .i64 nn] 31)
      have hLm := hLn.alloc hLn.size (.cells #[.int .i64 qn.port, .string qn.data, .int .i64 qn.badge, .int .i64 qn.writ] 44)
      have hatn := ((hat'.setB6 (off_hi (n := 0) (m := w5.heap.size) h0 (by omega) hyb) (off_hi (n := 0) (m := w5.heap.size) h1 (by omega) hyb) (off_hi (n := 0) (m := w5.heap.size) h2 (by omega) hyb) (off_hi (n := 0) (m := w5.heap.size) h3 (by omega) hyb) (b := w5.heap.size) (.inr (.inr rfl)) (.slice z0 r0 s0) (.slice z1 r1 s1) (.slice z2 r2 s2) (.slice z3 r3 s3) (.int .i64 mm) (.int .i64 nn)).below ((Below.refl _ _).alloc (Nat.le_refl _) (.cells #[.slice z0 r0 s0, .slice z1 r1 s1, .slice z2 r2 s2, .slice z3 r3 s3, .int .i64 mm, .int .i64 nn] 31))).below ((Below.refl _ _).alloc (Nat.le_refl _) (.cells #[.int .i64 qn.port, .string qn.data, .int .i64 qn.badge, .int .i64 qn.writ] 44))
      have BNn := Bx.new (((((((w8.setCell ⟨w5.heap.size, 0, none⟩ (.slice z0 r0 s0)).setCell ⟨w5.heap.size, 1, none⟩ (.slice z1 r1 s1)).setCell ⟨w5.heap.size, 2, none⟩ (.slice z2 r2 s2)).setCell ⟨w5.heap.size, 3, none⟩ (.slice z3 r3 s3)).setCell ⟨w5.heap.size, 4, none⟩ (.int .i64 mm)).setCell ⟨w5.heap.size, 5, none⟩ (.int .i64 nn)).alloc (.cells #[.slice z0 r0 s0, .slice z1 r1 s1, .slice z2 r2 s2, .slice z3 r3 s3, .int .i64 mm, .int .i64 nn] 31)) [.int .i64 qn.port, .string qn.data, .int .i64 qn.badge, .int .i64 qn.writ] 44
      rw [show (((((((w8.setCell ⟨w5.heap.size, 0, none⟩ (.slice z0 r0 s0)).setCell ⟨w5.heap.size, 1, none⟩ (.slice z1 r1 s1)).setCell ⟨w5.heap.size, 2, none⟩ (.slice z2 r2 s2)).setCell ⟨w5.heap.size, 3, none⟩ (.slice z3 r3 s3)).setCell ⟨w5.heap.size, 4, none⟩ (.int .i64 mm)).setCell ⟨w5.heap.size, 5, none⟩ (.int .i64 nn)).alloc (.cells #[.slice z0 r0 s0, .slice z1 r1 s1, .slice z2 r2 s2, .slice z3 r3 s3, .int .i64 mm, .int .i64 nn] 31)).heap.size = w8.heap.size + 1 by simp] at BNn
      clear hLs hLn h0 h1 h2 h3 hat'
      have hcw : g.ns.countP (fun y => y.port == x.thing) = KK := hwl.symm
      have hcon := wait_any a0 a1 a2 a3 c0 c1 c2 c3 g x.thing _ (hat5.below hLm) hI.sz
      rw [l0, l1, l2, l3, l4, l5] at hcon
      rw [hcw] at hcon
      clear hcw hwl
      try clear hKe
      try clear hx0
      have BRn := BR5.below hLm
      have BXn := BX5.below hLm
      have cR0 := (BRn.2 0 _ rfl).1
      have cR1 := (BRn.2 1 _ rfl).1
      have cR2 := (BRn.2 2 _ rfl).1
      have cR3 := (BRn.2 3 _ rfl).1
      have cR4 := (BRn.2 4 _ rfl).1
      have cR5 := (BRn.2 5 _ rfl).1
      have zR := BRn.1
      have cX0 := (BXn.2 0 _ rfl).1
      have cX1 := (BXn.2 1 _ rfl).1
      have cX2 := (BXn.2 2 _ rfl).1
      have cX3 := (BXn.2 3 _ rfl).1
      have cX4 := (BXn.2 4 _ rfl).1
      have zX := BXn.1
      have cY0 := (BY8.2 0 _ rfl).1
      have cY1 := (BY8.2 1 _ rfl).1
      have cY2 := (BY8.2 2 _ rfl).1
      have cY3 := (BY8.2 3 _ rfl).1
      have cY4 := (BY8.2 4 _ rfl).1
      have cY5 := (BY8.2 5 _ rfl).1
      have fY0 := (BY8.2 0 _ rfl).2
      have fY1 := (BY8.2 1 _ rfl).2
      have fY2 := (BY8.2 2 _ rfl).2
      have fY3 := (BY8.2 3 _ rfl).2
      have fY4 := (BY8.2 4 _ rfl).2
      have fY5 := (BY8.2 5 _ rfl).2
      have zY := BY8.1
      go_wp2_with fail
      refine hcon.mono ?_
      rintro e w9 ⟨rfl, hb9⟩
      clear hcon cR0 cR1 cR2 cR3 cR4 cR5 zR cX0 cX1 cX2 cX3 cX4 zX cY0 cY1 cY2 cY3 cY4 cY5 fY0 fY1 fY2 fY3 fY4 fY5 zY BY8 BV8 hL8 bl8 hb8
      have hLf := Below_after hLm hb9
      by_cases hik : i < KK
      · have dK : decide ((i : Int) < (KK : Int)) = true := decide_eq_true (by omega)
        go_wp2_with fail
        go_roundw
        case rel => exact ⟨i + 1, X2, z0, z1, z2, z3, r0, r1, r2, r3, s0, s1, s2, s3, mm, nn, by omega, by go_num, hN2, (hI2 : InvK (81 + (i + 1)) X2), HLn, hatn.below hb9, BYn.below hb9, BVn.below hb9, hLf⟩
        case measure => simp [intOf]; omega
      have dK : decide ((i : Int) < (KK : Int)) = false := decide_eq_false (by omega)
      have hiK : i = KK := by omega
      rw [hiK, hLL] at hnt
      obtain rfl : (⟨x.thing, dt, x.badge, if sl < 0 then 0 else g.nw⟩ : Nt) = qn := Option.some.inj hnt
      dsimp only at BNn hs1 hs2
      clear hnt hLL hiK
      have BN9 := BNn.below hb9
      have BX9 := BX5.below hLf
      have BG9 := BG5.below hLf
      have BQ9 := BQ5.below hLf
      have BY9 := BYn.below hb9
      have hat9 := hatn.below hb9
      have blf := Below_after bl5 hLf
      clear BNn BYn hatn BVn
      have cN0 := (BN9.2 0 _ rfl).1
      have cN1 := (BN9.2 1 _ rfl).1
      have cN2 := (BN9.2 2 _ rfl).1
      have cN3 := (BN9.2 3 _ rfl).1
      have zN := BN9.1
      have cX0 := (BX9.2 0 _ rfl).1
      have cX1 := (BX9.2 1 _ rfl).1
      have cX2 := (BX9.2 2 _ rfl).1
      have cX3 := (BX9.2 3 _ rfl).1
      have cX4 := (BX9.2 4 _ rfl).1
      have zX := BX9.1
      have hsl' : tsl = -1 := hs1 (by rw [if_pos hsl])
      subst hsl'
      rw [if_pos hsl] at cN3
      have dS : decide (sl < 0) = true := decide_eq_true hsl
      clear hs1 hs2
      go_wp2_with fail
      go_ret
      exact ⟨rfl, blf⟩
end Go.Proofs.Ytpmkkmndgicbgaa
