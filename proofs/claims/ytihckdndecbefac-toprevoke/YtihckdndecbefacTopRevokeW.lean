/- TopRevoke, walked. -/
import Derived.Test.YtihckdndecbefacGrownB
import Derived.Test.YtihckdndecbefacMadeW
import Derived.Test.YtihckdndecbefacNumW
import Derived.Test.YtihckdndecbefacInW
import Derived.Test.YtihckdndecbefacWhereW
import Derived.Deep.QuietTactic
import Derived.BigQuiet
import Derived.Deep.RegionHeld3
set_option linter.unusedSimpArgs false
set_option linter.unnecessarySimpa false
set_option linter.unusedVariables false
namespace Go.Proofs.Ytihckdndecbefac
open Go.RowKit

set_option maxHeartbeats 2000000 in
set_option maxRecDepth 100000 in
theorem trev_no (a : Option Addr) (c : Nat) (l : List Ac) (h s : Int) (w : World) (hw : AcsAt w a l) (hm : l.length ≤ maxLen) (hq : lacB l 80 = false) :
    Calls Try.prog 6 #[.slice a l.length c, .agg #[.int .i64 h, .int .i64 s]] w fun e w' => e = .returned (.bool true) ∧ Below w.heap.size w w' := by
  have BP := Bx.new w [.int .i64 h, .int .i64 s] 44
  have bl := (Below.refl w.heap.size w).alloc (by first | exact Nat.le_refl _ | (simp <;> omega)) (.cells #[.int .i64 h, .int .i64 s] 44)
  go_enter Try.func6, Try.ntmps6
  have hcon := made_any (w.alloc (.cells #[.int .i64 h, .int .i64 s] 44))
  go_wp2_with fail
  refine hcon.mono ?_
  rintro e w1 ⟨rfl, hb1⟩
  clear hcon
  replace BP := BP.below hb1
  replace bl := Below_after bl hb1
  have yP := BP.1
  have hcon := grown_no a c l w1 (hw.below bl) hm hq
  go_wp2_with fail
  refine hcon.mono ?_
  rintro e w2 ⟨rfl, hb2⟩
  clear hcon
  clear yP
  replace BP := BP.below hb2
  replace bl := Below_after bl hb2
  have yP := BP.1
  replace BP := BP.alloc (.cells #[.slice none 0 0, .slice none 0 0, .slice none 0 0, .slice none 0 0, .int .i64 0, .int .i64 0] 29)
  replace bl := bl.alloc bl.size (.cells #[.slice none 0 0, .slice none 0 0, .slice none 0 0, .slice none 0 0, .int .i64 0, .int .i64 0] 29)
  have BZ := Bx.new w2 [.slice none 0 0, .slice none 0 0, .slice none 0 0, .slice none 0 0, .int .i64 0, .int .i64 0] 29
  go_wp2_with fail
  go_ret
  exact ⟨rfl, bl⟩
set_option maxHeartbeats 2000000 in
set_option maxRecDepth 100000 in
theorem trev_err (a : Option Addr) (c : Nat) (l : List Ac) (h s : Int) (w : World) (hw : AcsAt w a l) (hm : l.length ≤ maxLen) (hq : lacB l 80 = true) (hc : getC (growR l) h s ≠ 0) :
    Calls Try.prog 6 #[.slice a l.length c, .agg #[.int .i64 h, .int .i64 s]] w fun e w' => e = .returned (.bool true) ∧ Below w.heap.size w w' := by
  have BP := Bx.new w [.int .i64 h, .int .i64 s] 44
  have bl := (Below.refl w.heap.size w).alloc (by first | exact Nat.le_refl _ | (simp <;> omega)) (.cells #[.int .i64 h, .int .i64 s] 44)
  have hlen := lac_len hq
  have hi := inv_grow l l.length (by omega)
  rw [List.take_length] at hi
  have hI : RmI (growR l) := ⟨hi.sz (by omega), hi.put, hi.wf⟩
  have hW := whole_grow l
  have hk : InvK 80 (growR l) := hi.mono (by omega)
  clear hi
  go_enter Try.func6, Try.ntmps6
  have hcon := made_any (w.alloc (.cells #[.int .i64 h, .int .i64 s] 44))
  go_wp2_with fail
  refine hcon.mono ?_
  rintro e w1 ⟨rfl, hb1⟩
  clear hcon
  replace BP := BP.below hb1
  replace bl := Below_after bl hb1
  have yP := BP.1
  have hg := grown_yes a c l w1 (hw.below bl) hm hq
  generalize growR l = g at hg hI hW hk hc
  clear hq hw hm hlen
  have hcon := hg
  clear hg
  go_wp2_with fail
  refine hcon.mono ?_
  rintro e w2 ⟨a0, a1, a2, a3, N0, N1, N2, N3, c0, c1, c2, c3, M, N, rfl, ⟨l0, l1, l2, l3, l4, l5⟩, hat, -, hb2⟩
  clear hcon
  clear yP
  replace BP := BP.below hb2
  replace bl := Below_after bl hb2
  have yP := BP.1
  replace BP := BP.alloc (.cells #[.slice a0 N0 c0, .slice a1 N1 c1, .slice a2 N2 c2, .slice a3 N3 c3, .int .i64 M, .int .i64 N] 29)
  replace hat := hat.below ((Below.refl _ _).alloc (Nat.le_refl _) (.cells #[.slice a0 N0 c0, .slice a1 N1 c1, .slice a2 N2 c2, .slice a3 N3 c3, .int .i64 M, .int .i64 N] 29))
  replace bl := bl.alloc bl.size (.cells #[.slice a0 N0 c0, .slice a1 N1 c1, .slice a2 N2 c2, .slice a3 N3 c3, .int .i64 M, .int .i64 N] 29)
  have BR := Bx.new w2 [.slice a0 N0 c0, .slice a1 N1 c1, .slice a2 N2 c2, .slice a3 N3 c3, .int .i64 M, .int .i64 N] 29
  have hcon := get_err a0 a1 a2 a3 c0 c1 c2 c3 g h s _ hat hI.sz hc
  rw [l0, l1, l2, l3, l4, l5] at hcon
  have cR0 := (BR.2 0 _ rfl).1
  have cR1 := (BR.2 1 _ rfl).1
  have cR2 := (BR.2 2 _ rfl).1
  have cR3 := (BR.2 3 _ rfl).1
  have cR4 := (BR.2 4 _ rfl).1
  have cR5 := (BR.2 5 _ rfl).1
  have zR := BR.1
  have cP0 := (BP.2 0 _ rfl).1
  have cP1 := (BP.2 1 _ rfl).1
  have zP := BP.1
  go_wp2_with fail
  refine hcon.mono ?_
  rintro e w3 ⟨rfl, hb3⟩
  clear cR0 cR1 cR2 cR3 cR4 cR5 zR cP0 cP1 zP hcon
  clear yP
  replace BP := BP.below hb3
  replace BR := BR.below hb3
  replace hat := hat.below hb3
  replace bl := Below_after bl hb3
  have yP := BP.1
  have yR := BR.1
  replace BP := BP.alloc (.cells #[.int .i64 0, .int .i64 0, .int .i64 0, .int .i64 0, .int .i64 0] 36)
  replace BR := BR.alloc (.cells #[.int .i64 0, .int .i64 0, .int .i64 0, .int .i64 0, .int .i64 0] 36)
  replace hat := hat.below ((Below.refl _ _).alloc (Nat.le_refl _) (.cells #[.int .i64 0, .int .i64 0, .int .i64 0, .int .i64 0, .int .i64 0] 36))
  replace bl := bl.alloc bl.size (.cells #[.int .i64 0, .int .i64 0, .int .i64 0, .int .i64 0, .int .i64 0] 36)
  have BX := Bx.new w3 [.int .i64 0, .int .i64 0, .int .i64 0, .int .i64 0, .int .i64 0] 36
  have hd := act_revoke a0 a1 a2 a3 c0 c1 c2 c3 g h s _ hat hI
  rw [l0, l1, l2, l3, l4, l5] at hd
  have hcon := hd
  have cR0 := (BR.2 0 _ rfl).1
  have cR1 := (BR.2 1 _ rfl).1
  have cR2 := (BR.2 2 _ rfl).1
  have cR3 := (BR.2 3 _ rfl).1
  have cR4 := (BR.2 4 _ rfl).1
  have cR5 := (BR.2 5 _ rfl).1
  have zR := BR.1
  have cP0 := (BP.2 0 _ rfl).1
  have cP1 := (BP.2 1 _ rfl).1
  have zP := BP.1
  go_wp2_with fail
  refine hcon.mono ?_
  rintro e w4 ⟨b0, b1, b2, b3, m0, m1, m2, m3, e0, e1, e2, e3, mm, nn, ev, rfl, hA, hb4⟩
  clear cR0 cR1 cR2 cR3 cR4 cR5 zR cP0 cP1 zP hcon
  clear yP yR
  replace BP := BP.below hb4
  replace BR := BR.below hb4
  replace BX := BX.below hb4
  replace hat := hat.below hb4
  replace bl := Below_after bl hb4
  have yP := BP.1
  have yR := BR.1
  have yX := BX.1
  replace BP := BP.alloc (.cells #[.slice b0 m0 e0, .slice b1 m1 e1, .slice b2 m2 e2, .slice b3 m3 e3, .int .i64 mm, .int .i64 nn] 29)
  replace BR := BR.alloc (.cells #[.slice b0 m0 e0, .slice b1 m1 e1, .slice b2 m2 e2, .slice b3 m3 e3, .int .i64 mm, .int .i64 nn] 29)
  replace BX := BX.alloc (.cells #[.slice b0 m0 e0, .slice b1 m1 e1, .slice b2 m2 e2, .slice b3 m3 e3, .int .i64 mm, .int .i64 nn] 29)
  replace hat := hat.below ((Below.refl _ _).alloc (Nat.le_refl _) (.cells #[.slice b0 m0 e0, .slice b1 m1 e1, .slice b2 m2 e2, .slice b3 m3 e3, .int .i64 mm, .int .i64 nn] 29))
  replace bl := bl.alloc bl.size (.cells #[.slice b0 m0 e0, .slice b1 m1 e1, .slice b2 m2 e2, .slice b3 m3 e3, .int .i64 mm, .int .i64 nn] 29)
  have BY := Bx.new w4 [.slice b0 m0 e0, .slice b1 m1 e1, .slice b2 m2 e2, .slice b3 m3 e3, .int .i64 mm, .int .i64 nn] 29
  obtain ⟨-, rfl, -⟩ := hA.resolve_left (fun h => hc h.1)
  clear hd
  have hcon := number_err (dropC g h s) (w4.alloc (.cells #[.slice b0 m0 e0, .slice b1 m1 e1, .slice b2 m2 e2, .slice b3 m3 e3, .int .i64 mm, .int .i64 nn] 29))
  go_wp2_with fail
  refine hcon.mono ?_
  rintro e w' ⟨rfl, hw'⟩
  rw [hw']
  clear hw' w' hcon
  have hcon := number_err (getC g h s) (w4.alloc (.cells #[.slice b0 m0 e0, .slice b1 m1 e1, .slice b2 m2 e2, .slice b3 m3 e3, .int .i64 mm, .int .i64 nn] 29))
  go_wp2_with fail
  refine hcon.mono ?_
  rintro e w' ⟨rfl, hw'⟩
  rw [hw']
  clear hw' w' hcon
  have heq : (dropC g h s == getC g h s) = true := by simp [dropC]
  go_wp2_with fail
  go_ret
  exact ⟨rfl, bl⟩
set_option maxHeartbeats 2000000 in
set_option maxRecDepth 100000 in
theorem trev_ok (a : Option Addr) (c : Nat) (l : List Ac) (h s : Int) (w : World) (hw : AcsAt w a l) (hm : l.length ≤ maxLen) (hq : lacB l 80 = true) (hc : getC (growR l) h s = 0) :
    Calls Try.prog 6 #[.slice a l.length c, .agg #[.int .i64 h, .int .i64 s]] w fun e w' => e = .returned (.bool true) ∧ Below w.heap.size w w' := by
  have BP := Bx.new w [.int .i64 h, .int .i64 s] 44
  have bl := (Below.refl w.heap.size w).alloc (by first | exact Nat.le_refl _ | (simp <;> omega)) (.cells #[.int .i64 h, .int .i64 s] 44)
  have hlen := lac_len hq
  have hi := inv_grow l l.length (by omega)
  rw [List.take_length] at hi
  have hI : RmI (growR l) := ⟨hi.sz (by omega), hi.put, hi.wf⟩
  have hW := whole_grow l
  have hk : InvK 80 (growR l) := hi.mono (by omega)
  clear hi
  go_enter Try.func6, Try.ntmps6
  have hcon := made_any (w.alloc (.cells #[.int .i64 h, .int .i64 s] 44))
  go_wp2_with fail
  refine hcon.mono ?_
  rintro e w1 ⟨rfl, hb1⟩
  clear hcon
  replace BP := BP.below hb1
  replace bl := Below_after bl hb1
  have yP := BP.1
  have hg := grown_yes a c l w1 (hw.below bl) hm hq
  generalize growR l = g at hg hI hW hk hc
  clear hq hw hm hlen
  have hcon := hg
  clear hg
  go_wp2_with fail
  refine hcon.mono ?_
  rintro e w2 ⟨a0, a1, a2, a3, N0, N1, N2, N3, c0, c1, c2, c3, M, N, rfl, ⟨l0, l1, l2, l3, l4, l5⟩, hat, -, hb2⟩
  clear hcon
  clear yP
  replace BP := BP.below hb2
  replace bl := Below_after bl hb2
  have yP := BP.1
  replace BP := BP.alloc (.cells #[.slice a0 N0 c0, .slice a1 N1 c1, .slice a2 N2 c2, .slice a3 N3 c3, .int .i64 M, .int .i64 N] 29)
  replace hat := hat.below ((Below.refl _ _).alloc (Nat.le_refl _) (.cells #[.slice a0 N0 c0, .slice a1 N1 c1, .slice a2 N2 c2, .slice a3 N3 c3, .int .i64 M, .int .i64 N] 29))
  replace bl := bl.alloc bl.size (.cells #[.slice a0 N0 c0, .slice a1 N1 c1, .slice a2 N2 c2, .slice a3 N3 c3, .int .i64 M, .int .i64 N] 29)
  have BR := Bx.new w2 [.slice a0 N0 c0, .slice a1 N1 c1, .slice a2 N2 c2, .slice a3 N3 c3, .int .i64 M, .int .i64 N] 29
  obtain ⟨t1, t2, t3⟩ := top_revoke hW hc
  have hkd := rmI_of (inv_revoke hk h s) (by omega)
  have hgo := get_ok a0 a1 a2 a3 c0 c1 c2 c3 g h s _ hat hI.sz hc
  have hdo := fun (W : World) (hb : RmAt W a0 a1 a2 a3 c0 c1 c2 c3 g) => act_revoke a0 a1 a2 a3 c0 c1 c2 c3 g h s W hb hI
  rw [l0, l1, l2, l3, l4, l5] at hgo
  simp only [l0, l1, l2, l3, l4, l5] at hdo
  have hc' : dropC g h s = 0 := hc
  generalize revokeR g h s = d at t1 t2 t3 hkd hdo
  generalize getW g h s = x at t1 t2 t3 hgo
  have hcon := hgo
  have cR0 := (BR.2 0 _ rfl).1
  have cR1 := (BR.2 1 _ rfl).1
  have cR2 := (BR.2 2 _ rfl).1
  have cR3 := (BR.2 3 _ rfl).1
  have cR4 := (BR.2 4 _ rfl).1
  have cR5 := (BR.2 5 _ rfl).1
  have zR := BR.1
  have cP0 := (BP.2 0 _ rfl).1
  have cP1 := (BP.2 1 _ rfl).1
  have zP := BP.1
  go_wp2_with fail
  refine hcon.mono ?_
  rintro e w3 ⟨rfl, hb3⟩
  clear cR0 cR1 cR2 cR3 cR4 cR5 zR cP0 cP1 zP hcon
  clear yP
  replace BP := BP.below hb3
  replace BR := BR.below hb3
  replace hat := hat.below hb3
  replace bl := Below_after bl hb3
  have yP := BP.1
  have yR := BR.1
  replace BP := BP.alloc (.cells #[.int .i64 x.id, .int .i64 x.thing, .int .i64 x.rights, .int .i64 x.badge, .int .i64 x.frm] 36)
  replace BR := BR.alloc (.cells #[.int .i64 x.id, .int .i64 x.thing, .int .i64 x.rights, .int .i64 x.badge, .int .i64 x.frm] 36)
  replace hat := hat.below ((Below.refl _ _).alloc (Nat.le_refl _) (.cells #[.int .i64 x.id, .int .i64 x.thing, .int .i64 x.rights, .int .i64 x.badge, .int .i64 x.frm] 36))
  replace bl := bl.alloc bl.size (.cells #[.int .i64 x.id, .int .i64 x.thing, .int .i64 x.rights, .int .i64 x.badge, .int .i64 x.frm] 36)
  have BX := Bx.new w3 [.int .i64 x.id, .int .i64 x.thing, .int .i64 x.rights, .int .i64 x.badge, .int .i64 x.frm] 36
  clear hgo
  have hcon := hdo _ hat
  have cR0 := (BR.2 0 _ rfl).1
  have cR1 := (BR.2 1 _ rfl).1
  have cR2 := (BR.2 2 _ rfl).1
  have cR3 := (BR.2 3 _ rfl).1
  have cR4 := (BR.2 4 _ rfl).1
  have cR5 := (BR.2 5 _ rfl).1
  have zR := BR.1
  have cP0 := (BP.2 0 _ rfl).1
  have cP1 := (BP.2 1 _ rfl).1
  have zP := BP.1
  go_wp2_with fail
  refine hcon.mono ?_
  rintro e w4 ⟨b0, b1, b2, b3, m0, m1, m2, m3, e0, e1, e2, e3, mm, nn, ev, rfl, hA, hb4⟩
  clear cR0 cR1 cR2 cR3 cR4 cR5 zR cP0 cP1 zP hcon
  clear yP yR
  replace BP := BP.below hb4
  replace BR := BR.below hb4
  replace BX := BX.below hb4
  replace hat := hat.below hb4
  replace bl := Below_after bl hb4
  have yP := BP.1
  have yR := BR.1
  have yX := BX.1
  obtain ⟨-, rfl, rfl, rfl, rfl, rfl, rfl, rfl, hat2, -⟩ := hA.resolve_right (fun h => h.1 hc')
  replace BP := BP.alloc (.cells #[.slice b0 d.ws.length e0, .slice b1 d.ts.length e1, .slice b2 d.hs.length e2, .slice b3 d.ns.length e3, .int .i64 d.nw, .int .i64 d.nt] 29)
  replace BR := BR.alloc (.cells #[.slice b0 d.ws.length e0, .slice b1 d.ts.length e1, .slice b2 d.hs.length e2, .slice b3 d.ns.length e3, .int .i64 d.nw, .int .i64 d.nt] 29)
  replace BX := BX.alloc (.cells #[.slice b0 d.ws.length e0, .slice b1 d.ts.length e1, .slice b2 d.hs.length e2, .slice b3 d.ns.length e3, .int .i64 d.nw, .int .i64 d.nt] 29)
  replace hat := hat.below ((Below.refl _ _).alloc (Nat.le_refl _) (.cells #[.slice b0 d.ws.length e0, .slice b1 d.ts.length e1, .slice b2 d.hs.length e2, .slice b3 d.ns.length e3, .int .i64 d.nw, .int .i64 d.nt] 29))
  replace hat2 := hat2.below ((Below.refl _ _).alloc (Nat.le_refl _) (.cells #[.slice b0 d.ws.length e0, .slice b1 d.ts.length e1, .slice b2 d.hs.length e2, .slice b3 d.ns.length e3, .int .i64 d.nw, .int .i64 d.nt] 29))
  replace bl := bl.alloc bl.size (.cells #[.slice b0 d.ws.length e0, .slice b1 d.ts.length e1, .slice b2 d.hs.length e2, .slice b3 d.ns.length e3, .int .i64 d.nw, .int .i64 d.nt] 29)
  have BY := Bx.new w4 [.slice b0 d.ws.length e0, .slice b1 d.ts.length e1, .slice b2 d.hs.length e2, .slice b3 d.ns.length e3, .int .i64 d.nw, .int .i64 d.nt] 29
  clear hdo
  have hz0 := hI.sz.w
  have hz2 := hI.sz.h
  have hw0 := hkd.sz.w
  have hw2 := hkd.sz.h
  have hw3 := hkd.sz.n
  have hN2 : N2 ≤ 100 := by omega
  have hcon := beneath_any a0 c0 g.ws x.id _ hat.w (by omega) hI.wf
  rw [l0] at hcon
  have cR0 := (BR.2 0 _ rfl).1
  have cR1 := (BR.2 1 _ rfl).1
  have cR2 := (BR.2 2 _ rfl).1
  have cR3 := (BR.2 3 _ rfl).1
  have cR4 := (BR.2 4 _ rfl).1
  have cR5 := (BR.2 5 _ rfl).1
  have zR := BR.1
  have cX0 := (BX.2 0 _ rfl).1
  have cX1 := (BX.2 1 _ rfl).1
  have cX2 := (BX.2 2 _ rfl).1
  have cX3 := (BX.2 3 _ rfl).1
  have cX4 := (BX.2 4 _ rfl).1
  have zX := BX.1
  go_wp2_with fail
  refine hcon.mono ?_
  rintro e w5 ⟨az, cz, rfl, hints, haz, hb5⟩
  clear cR0 cR1 cR2 cR3 cR4 cR5 zR cX0 cX1 cX2 cX3 cX4 zX hcon
  clear yP yR yX
  replace BP := BP.below hb5
  replace BR := BR.below hb5
  replace BX := BX.below hb5
  replace BY := BY.below hb5
  replace hat := hat.below hb5
  replace hat2 := hat2.below hb5
  replace bl := Below_after bl hb5
  have yP := BP.1
  have yR := BR.1
  have yX := BX.1
  have yY := BY.1
  have hZl := beneathLen g.ws x.id
  generalize beneathL g.ws x.id = Z at *
  have hZ : Z.length ≤ 1000 := by omega
  have hcon := beneath_any b0 e0 d.ws x.id _ hat2.w (by omega) hkd.wf
  rw [t1] at hcon
  have cY0 := (BY.2 0 _ rfl).1
  have cY1 := (BY.2 1 _ rfl).1
  have cY2 := (BY.2 2 _ rfl).1
  have cY3 := (BY.2 3 _ rfl).1
  have cY4 := (BY.2 4 _ rfl).1
  have cY5 := (BY.2 5 _ rfl).1
  have zY := BY.1
  have cX0 := (BX.2 0 _ rfl).1
  have cX1 := (BX.2 1 _ rfl).1
  have cX2 := (BX.2 2 _ rfl).1
  have cX3 := (BX.2 3 _ rfl).1
  have cX4 := (BX.2 4 _ rfl).1
  have zX := BX.1
  go_wp2_with fail
  refine hcon.mono ?_
  rintro e w6 ⟨ay, cy, rfl, -, -, hb6⟩
  clear cY0 cY1 cY2 cY3 cY4 cY5 zY cX0 cX1 cX2 cX3 cX4 zX hcon
  clear yP yR yX yY
  replace BP := BP.below hb6
  replace BR := BR.below hb6
  replace BX := BX.below hb6
  replace BY := BY.below hb6
  replace hat := hat.below hb6
  replace hat2 := hat2.below hb6
  replace bl := Below_after bl hb6
  have yP := BP.1
  have yR := BR.1
  have yX := BX.1
  have yY := BY.1
  replace hints := hints.below hb6 haz
  replace haz : ∀ b o, az = some ⟨b, o, none⟩ → b < w6.heap.size := fun b o e => Nat.lt_of_lt_of_le (haz b o e) hb6.size
  clear t1
  generalize hv0 : w6 = v0 at *
  clear hv0
  have cR0 := (BR.2 0 _ rfl).1
  have cR1 := (BR.2 1 _ rfl).1
  have cR2 := (BR.2 2 _ rfl).1
  have cR3 := (BR.2 3 _ rfl).1
  have cR4 := (BR.2 4 _ rfl).1
  have cR5 := (BR.2 5 _ rfl).1
  have zR := BR.1
  have cY0 := (BY.2 0 _ rfl).1
  have cY1 := (BY.2 1 _ rfl).1
  have cY2 := (BY.2 2 _ rfl).1
  have cY3 := (BY.2 3 _ rfl).1
  have cY4 := (BY.2 4 _ rfl).1
  have cY5 := (BY.2 5 _ rfl).1
  have zY := BY.1
  go_wp2_with fail
  clear cR0 cR1 cR2 cR3 cR4 cR5 zR cY0 cY1 cY2 cY3 cY4 cY5 zY
  go_loopw [12] (fun i wr => ∃ j : Nat, j ≤ Z.length ∧ i = .int .i64 j ∧ Below v0.heap.size v0 wr) (fun i _ => Z.length - (intOf i).toNat)
  case atStart => exact ⟨0, Nat.zero_le _, rfl, Below.refl _ _⟩
  case round =>
    obtain ⟨j, hj', rfl, hbl⟩ := hrel
    clear yP yR yX yY
    replace BP := BP.below hbl
    replace BR := BR.below hbl
    replace BX := BX.below hbl
    replace BY := BY.below hbl
    replace hat := hat.below hbl
    replace hat2 := hat2.below hbl
    replace bl := Below_after bl hbl
    have yP := BP.1
    have yR := BR.1
    have yX := BX.1
    have yY := BY.1
    by_cases hlt : j < Z.length
    rotate_left
    · clear t2
      replace hints := hints.below hbl haz
      have haz' : ∀ b o, az = some ⟨b, o, none⟩ → b < wr.heap.size := fun b o e => Nat.lt_of_lt_of_le (haz b o e) hbl.size
      clear haz hbl
      have cR0 := (BR.2 0 _ rfl).1
      have cR1 := (BR.2 1 _ rfl).1
      have cR2 := (BR.2 2 _ rfl).1
      have cR3 := (BR.2 3 _ rfl).1
      have cR4 := (BR.2 4 _ rfl).1
      have cR5 := (BR.2 5 _ rfl).1
      have zR := BR.1
      go_wp2_with fail
      clear cR0 cR1 cR2 cR3 cR4 cR5 zR
      have hza : ∀ b o, az = some ⟨b, o, none⟩ → b < wr.heap.size := haz'
      go_loopw [16] (fun i wr => ∃ k : Nat, k ≤ N2 ∧ i = .int .i64 k ∧ Below w.heap.size w wr ∧ Bx wr w2.heap.size [.slice a0 N0 c0, .slice a1 N1 c1, .slice a2 N2 c2, .slice a3 N3 c3, .int .i64 M, .int .i64 N] ∧ Bx wr w4.heap.size [.slice b0 d.ws.length e0, .slice b1 d.ts.length e1, .slice b2 d.hs.length e2, .slice b3 d.ns.length e3, .int .i64 d.nw, .int .i64 d.nt] ∧ Hid (RmAt wr a0 a1 a2 a3 c0 c1 c2 c3 g) ∧ Hid (RmAt wr b0 b1 b2 b3 e0 e1 e2 e3 d) ∧ Hid (IntsAt wr az Z ∧ ∀ b o, az = some ⟨b, o, none⟩ → b < wr.heap.size)) (fun i _ => N2 - (intOf i).toNat)
      case atStart => exact ⟨0, Nat.zero_le _, rfl, bl, BR, BY, hat, hat2, ⟨hints, hza⟩⟩
      case round =>
        clear bl BR BY hat hat2 hints hza haz' yP yR yX yY BP BX
        obtain ⟨k, hk', rfl, bl, BR, BY, HAT, HAT2, HZ⟩ := hrel
        have hat := HAT.out
        have hat2 := HAT2.out
        obtain ⟨hints, hza⟩ := HZ.out
        have cR0 := (BR.2 0 _ rfl).1
        have cR1 := (BR.2 1 _ rfl).1
        have cR2 := (BR.2 2 _ rfl).1
        have cR3 := (BR.2 3 _ rfl).1
        have cR4 := (BR.2 4 _ rfl).1
        have cR5 := (BR.2 5 _ rfl).1
        have zR := BR.1
        have cY0 := (BY.2 0 _ rfl).1
        have cY1 := (BY.2 1 _ rfl).1
        have cY2 := (BY.2 2 _ rfl).1
        have cY3 := (BY.2 3 _ rfl).1
        have cY4 := (BY.2 4 _ rfl).1
        have cY5 := (BY.2 5 _ rfl).1
        have zY := BY.1
        by_cases hlt2 : k < N2
        rotate_left
        · go_wp2_with fail
          go_ret
          exact ⟨rfl, bl⟩
        obtain ⟨y, hy⟩ : ∃ y, g.hs[k]? = some y := ⟨g.hs[k], List.getElem?_eq_getElem (by omega)⟩
        have hym := t3 y (List.mem_of_getElem? hy)
        obtain ⟨b, o, rfl, hb, hww⟩ := hat.h.resolve_left (by rintro e; rw [e] at l2; simp at l2; omega)
        obtain ⟨q1, q2, q3⟩ := hww k y hy
        clear hww hy t3
        have BH := Bx.new wr [.int .i64 y.holder, .int .i64 y.slot, .int .i64 y.writ] 46
        have hF := (Below.refl wr.heap.size wr).alloc (Nat.le_refl _) (.cells #[.int .i64 y.holder, .int .i64 y.slot, .int .i64 y.writ] 46)
        have hin0 := fun (W : World) (h' : IntsAt W az Z) => in_any az cz Z y.writ W h' (by omega)
        have hat0 := fun (W : World) (h' : HdsAt W b2 d.hs) => at_any b2 e2 d.hs y.holder y.slot W h' (by simp [maxLen]; omega)
        replace BR := BR.below hF
        replace BY := BY.below hF
        replace hat := hat.below hF
        replace hat2 := hat2.below hF
        replace hints := hints.below hF hza
        replace bl := Below_after bl hF
        have hza2 : ∀ b o, az = some ⟨b, o, none⟩ → b < (wr.alloc (.cells #[.int .i64 y.holder, .int .i64 y.slot, .int .i64 y.writ] 46)).heap.size := fun b o e => Nat.lt_of_lt_of_le (hza b o e) hF.size
        go_wp2_with fail
        clear cR0 cR1 cR2 cR3 cR4 cR5 zR cY0 cY1 cY2 cY3 cY4 cY5 zY q1 q2 q3
        generalize wr.alloc (.cells #[.int .i64 y.holder, .int .i64 y.slot, .int .i64 y.writ] 46) = v5 at *
        generalize wr.heap.size = hb5 at *
        have cY0 := (BY.2 0 _ rfl).1
        have cY1 := (BY.2 1 _ rfl).1
        have cY2 := (BY.2 2 _ rfl).1
        have cY3 := (BY.2 3 _ rfl).1
        have cY4 := (BY.2 4 _ rfl).1
        have cY5 := (BY.2 5 _ rfl).1
        have zY := BY.1
        have cH0 := (BH.2 0 _ rfl).1
        have cH1 := (BH.2 1 _ rfl).1
        have cH2 := (BH.2 2 _ rfl).1
        have zH := BH.1
        cases hib : inB Z y.writ
        · have hat1 := hym hib
          simp only [hib] at hin0
          simp only [hat1] at hat0
          clear hym hib hat1
          have mk : ∀ w' : World, Below v5.heap.size v5 w' → Below v5.heap.size v5 w' ∧ w'.cell? ⟨w4.heap.size, 2, none⟩ = some (.slice b2 d.hs.length e2) ∧ w'.cell? ⟨hb5, 0, none⟩ = some (.int .i64 y.holder) ∧ w'.cell? ⟨hb5, 1, none⟩ = some (.int .i64 y.slot) ∧ w'.cell? ⟨hb5, 2, none⟩ = some (.int .i64 y.writ) := fun w' h => ⟨h, by rw [(bcell h).1 _ _ zY]; exact cY2, by rw [(bcell h).1 _ _ zH]; exact cH0, by rw [(bcell h).1 _ _ zH]; exact cH1, by rw [(bcell h).1 _ _ zH]; exact cH2⟩
          have hB0 : Below v5.heap.size v5 v5.drew := below_drewN (Below.refl _ _) 1
          refine wp_region_held_drew (S := fun w' => Below v5.heap.size v5 w' ∧ w'.cell? ⟨w4.heap.size, 2, none⟩ = some (.slice b2 d.hs.length e2) ∧ w'.cell? ⟨hb5, 0, none⟩ = some (.int .i64 y.holder) ∧ w'.cell? ⟨hb5, 1, none⟩ = some (.int .i64 y.slot) ∧ w'.cell? ⟨hb5, 2, none⟩ = some (.int .i64 y.writ)) (by kernel_rfl) ?_ (fun hHeld => ?_)
          · exact mk _ hB0
          refine wpAnyH_take (i := 0) (oi := ({ dst := some 118, op := Op.move (Operand.tmp 11), type := 37, pos := "parts.go:324", after := #[], guard := none } : Oper)) (v := .slice az Z.length cz) rfl (by kernel_rfl) (by kernel_rfl) (by kernel_rfl) (fun _ _ _ h => h) (Or.inl ⟨by rfl, ?_⟩) (by assumption) ?_
          · intro w hSw; (try dsimp only at hSw); go_simp
          (try simp only [Act.put, List.setIfInBounds_toArray, List.set_cons_zero, List.set_cons_succ])
          refine wpAnyH_take (i := 1) (oi := ({ dst := some 119, op := Op.fieldAddr 46 (Operand.tmp 17) 1, type := 0, pos := "parts.go:324", after := #[], guard := none } : Oper)) (v := .pointer (some ⟨hb5, 2, none⟩)) rfl (by kernel_rfl) (by kernel_rfl) (by kernel_rfl) (fun _ _ _ h => h) (Or.inl ⟨by rfl, ?_⟩) (by assumption) ?_
          · intro w hSw; (try dsimp only at hSw); go_simp
          (try simp only [Act.put, List.setIfInBounds_toArray, List.set_cons_zero, List.set_cons_succ])
          refine wpAnyH_take (i := 2) (oi := ({ dst := some 120, op := Op.load 3 (Operand.tmp 119), type := 3, pos := "parts.go:324", after := #[{ on := 1, ground := Ground.data }], guard := none } : Oper)) (v := .int .i64 y.writ) rfl (by kernel_rfl) (by kernel_rfl) (by kernel_rfl) (fun _ _ _ h => h) (Or.inl ⟨by rfl, ?_⟩) (by assumption) ?_
          · intro w hSw; (try dsimp only at hSw); go_simp
          (try simp only [Act.put, List.setIfInBounds_toArray, List.set_cons_zero, List.set_cons_succ])
          refine wpAnyH_ready (rs := [3]) (by kernel_rfl) (by simp) ?_
          refine AllReadyH.cons (o := ({ dst := some 121, op := Op.call { callee := Callee.value (Operand.func 23), args := #[Operand.tmp 118, Operand.tmp 120], argTypes := #[37, 3] }, type := 4, pos := "parts.go:324", after := #[{ on := 0, ground := Ground.data }, { on := 2, ground := Ground.data }], guard := none } : Oper)) rfl (fun K hK => ?_) AllReadyH.nil
          rw [if_pos (by rfl)]
          go_wp2_with (first | (go_at_call 23; refine (hin0 _ (hints.below hB0 hza2)).mono ?_; rintro e w' ⟨rfl, rfl⟩))
          refine hK.out _ _ ?_ (fun hHeld => ?_)
          · exact mk _ hB0
          clear hK K
          (try simp only [Act.put, List.setIfInBounds_toArray, List.set_cons_zero, List.set_cons_succ])
          refine wpAnyH_take (i := 4) (oi := ({ dst := some 122, op := Op.unOp UnOp.not 4 (Operand.tmp 121), type := 4, pos := "parts.go:324", after := #[{ on := 3, ground := Ground.data }], guard := none } : Oper)) (v := .bool true) rfl (by kernel_rfl) (by kernel_rfl) (by kernel_rfl) (fun _ _ _ h => h) (Or.inl ⟨by rfl, ?_⟩) (by assumption) ?_
          · intro w hSw; (try dsimp only at hSw); go_simp
          (try simp only [Act.put, List.setIfInBounds_toArray, List.set_cons_zero, List.set_cons_succ])
          refine wpAnyH_take (i := 5) (oi := ({ dst := some 123, op := Op.move (Operand.tmp 122), type := 4, pos := "parts.go:324", after := #[{ on := 4, ground := Ground.data }, { on := 3, ground := Ground.chain }], guard := none } : Oper)) (v := .bool true) rfl (by kernel_rfl) (by kernel_rfl) (by kernel_rfl) (fun _ _ _ h => h) (Or.inl ⟨by rfl, ?_⟩) (by assumption) ?_
          · intro w hSw; (try dsimp only at hSw); go_simp
          (try simp only [Act.put, List.setIfInBounds_toArray, List.set_cons_zero, List.set_cons_succ])
          refine wpAnyH_take (i := 6) (oi := ({ dst := some 124, op := Op.fieldAddr 29 (Operand.tmp 9) 2, type := 0, pos := "parts.go:324", after := #[{ on := 5, ground := Ground.guard }], guard := some (5, true) } : Oper)) (v := .pointer (some ⟨w4.heap.size, 2, none⟩)) rfl (by kernel_rfl) (by kernel_rfl) (by kernel_rfl) (fun _ _ _ h => h) (Or.inl ⟨by rfl, ?_⟩) (by assumption) ?_
          · intro w hSw; (try dsimp only at hSw); go_simp
          (try simp only [Act.put, List.setIfInBounds_toArray, List.set_cons_zero, List.set_cons_succ])
          refine wpAnyH_take (i := 7) (oi := ({ dst := some 125, op := Op.load 26 (Operand.tmp 124), type := 26, pos := "parts.go:324", after := #[{ on := 6, ground := Ground.data }, { on := 5, ground := Ground.guard }], guard := some (5, true) } : Oper)) (v := .slice b2 d.hs.length e2) rfl (by kernel_rfl) (by kernel_rfl) (by kernel_rfl) (fun _ _ _ h => h) (Or.inl ⟨by rfl, ?_⟩) (by assumption) ?_
          · intro w hSw; (try dsimp only at hSw); go_simp
          (try simp only [Act.put, List.setIfInBounds_toArray, List.set_cons_zero, List.set_cons_succ])
          refine wpAnyH_take (i := 8) (oi := ({ dst := some 126, op := Op.fieldAddr 46 (Operand.tmp 17) 0, type := 0, pos := "parts.go:324", after := #[{ on := 5, ground := Ground.guard }], guard := some (5, true) } : Oper)) (v := .pointer (some ⟨hb5, 0, none⟩)) rfl (by kernel_rfl) (by kernel_rfl) (by kernel_rfl) (fun _ _ _ h => h) (Or.inl ⟨by rfl, ?_⟩) (by assumption) ?_
          · intro w hSw; (try dsimp only at hSw); go_simp
          (try simp only [Act.put, List.setIfInBounds_toArray, List.set_cons_zero, List.set_cons_succ])
          refine wpAnyH_take (i := 9) (oi := ({ dst := some 127, op := Op.load 44 (Operand.tmp 126), type := 44, pos := "parts.go:324", after := #[{ on := 8, ground := Ground.data }, { on := 5, ground := Ground.guard }], guard := some (5, true) } : Oper)) (v := .agg #[.int .i64 y.holder, .int .i64 y.slot]) rfl (by kernel_rfl) (by kernel_rfl) (by kernel_rfl) (fun _ _ _ h => h) (Or.inl ⟨by rfl, ?_⟩) (by assumption) ?_
          · intro w hSw; (try dsimp only at hSw); go_simp
          (try simp only [Act.put, List.setIfInBounds_toArray, List.set_cons_zero, List.set_cons_succ])
          refine wpAnyH_take (i := 11) (oi := ({ dst := some 129, op := Op.fieldAddr 46 (Operand.tmp 17) 1, type := 0, pos := "parts.go:324", after := #[{ on := 5, ground := Ground.guard }], guard := some (5, true) } : Oper)) (v := .pointer (some ⟨hb5, 2, none⟩)) rfl (by kernel_rfl) (by kernel_rfl) (by kernel_rfl) (fun _ _ _ h => h) (Or.inl ⟨by rfl, ?_⟩) (by assumption) ?_
          · intro w hSw; (try dsimp only at hSw); go_simp
          (try simp only [Act.put, List.setIfInBounds_toArray, List.set_cons_zero, List.set_cons_succ])
          refine wpAnyH_take (i := 12) (oi := ({ dst := some 130, op := Op.load 3 (Operand.tmp 129), type := 3, pos := "parts.go:324", after := #[{ on := 11, ground := Ground.data }, { on := 5, ground := Ground.guard }], guard := some (5, true) } : Oper)) (v := .int .i64 y.writ) rfl (by kernel_rfl) (by kernel_rfl) (by kernel_rfl) (fun _ _ _ h => h) (Or.inl ⟨by rfl, ?_⟩) (by assumption) ?_
          · intro w hSw; (try dsimp only at hSw); go_simp
          (try simp only [Act.put, List.setIfInBounds_toArray, List.set_cons_zero, List.set_cons_succ])
          refine wpAnyH_ready (rs := [10]) (by kernel_rfl) (by simp) ?_
          refine AllReadyH.cons (o := ({ dst := some 128, op := Op.call { callee := Callee.value (Operand.func 24), args := #[Operand.tmp 125, Operand.tmp 127], argTypes := #[26, 44] }, type := 3, pos := "parts.go:324", after := #[{ on := 7, ground := Ground.data }, { on := 9, ground := Ground.data }, { on := 5, ground := Ground.chain }, { on := 5, ground := Ground.guard }], guard := some (5, true) } : Oper)) rfl (fun K hK => ?_) AllReadyH.nil
          rw [if_pos (by rfl)]
          go_wp2_with (first | (go_at_call 24; refine Calls.mono (hat0 _ (hat2.h.below hB0)) ?_; rintro e w8 ⟨rfl, hb8⟩; have hB8 := Below_after hB0 hb8))
          refine hK.out _ _ ?_ (fun hHeld => ?_)
          · exact mk _ hB8
          clear hK K
          (try simp only [Act.put, List.setIfInBounds_toArray, List.set_cons_zero, List.set_cons_succ])
          refine wpAnyH_take (i := 13) (oi := ({ dst := some 131, op := Op.binOp BinOp.neq 3 (Operand.tmp 128) (Operand.tmp 130) 3, type := 4, pos := "parts.go:324", after := #[{ on := 10, ground := Ground.data }, { on := 12, ground := Ground.data }, { on := 5, ground := Ground.guard }], guard := some (5, true) } : Oper)) (v := .bool false) rfl (by kernel_rfl) (by kernel_rfl) (by kernel_rfl) (fun _ _ _ h => h) (Or.inl ⟨by rfl, ?_⟩) (by assumption) ?_
          · intro w hSw; (try dsimp only at hSw); go_simp
          (try simp only [Act.put, List.setIfInBounds_toArray, List.set_cons_zero, List.set_cons_succ])
          refine wpAnyH_take (i := 14) (oi := ({ dst := some 132, op := Op.pick (Operand.tmp 123) (Operand.tmp 131) (Operand.const (Value.bool false)), type := 4, pos := "parts.go:324", after := #[{ on := 5, ground := Ground.data }, { on := 13, ground := Ground.data }], guard := none } : Oper)) (v := .bool false) rfl (by kernel_rfl) (by kernel_rfl) (by kernel_rfl) (fun _ _ _ h => h) (Or.inl ⟨by rfl, ?_⟩) (by assumption) ?_
          · intro w hSw; (try dsimp only at hSw); go_simp
          (try simp only [Act.put, List.setIfInBounds_toArray, List.set_cons_zero, List.set_cons_succ])
          refine wpAnyH_done (by kernel_rfl) ?_ _
          go_wp2_with fail
          go_roundw
          case rel => exact ⟨k + 1, by omega, by go_num, Below_after bl hB8, BR.below hB8, BY.below hB8, hat.below hB8, hat2.below hB8, ⟨hints.below hB8 hza2, fun b o e => Nat.lt_of_lt_of_le (hza2 b o e) hB8.size⟩⟩
          case measure => simp [intOf]; omega
        · simp only [hib] at hin0
          clear hym hib
          have mk : ∀ w' : World, Below v5.heap.size v5 w' → Below v5.heap.size v5 w' ∧ w'.cell? ⟨w4.heap.size, 2, none⟩ = some (.slice b2 d.hs.length e2) ∧ w'.cell? ⟨hb5, 0, none⟩ = some (.int .i64 y.holder) ∧ w'.cell? ⟨hb5, 1, none⟩ = some (.int .i64 y.slot) ∧ w'.cell? ⟨hb5, 2, none⟩ = some (.int .i64 y.writ) := fun w' h => ⟨h, by rw [(bcell h).1 _ _ zY]; exact cY2, by rw [(bcell h).1 _ _ zH]; exact cH0, by rw [(bcell h).1 _ _ zH]; exact cH1, by rw [(bcell h).1 _ _ zH]; exact cH2⟩
          have hB0 : Below v5.heap.size v5 v5.drew := below_drewN (Below.refl _ _) 1
          refine wp_region_held_drew (S := fun w' => Below v5.heap.size v5 w' ∧ w'.cell? ⟨w4.heap.size, 2, none⟩ = some (.slice b2 d.hs.length e2) ∧ w'.cell? ⟨hb5, 0, none⟩ = some (.int .i64 y.holder) ∧ w'.cell? ⟨hb5, 1, none⟩ = some (.int .i64 y.slot) ∧ w'.cell? ⟨hb5, 2, none⟩ = some (.int .i64 y.writ)) (by kernel_rfl) ?_ (fun hHeld => ?_)
          · exact mk _ hB0
          refine wpAnyH_take (i := 0) (oi := ({ dst := some 118, op := Op.move (Operand.tmp 11), type := 37, pos := "parts.go:324", after := #[], guard := none } : Oper)) (v := .slice az Z.length cz) rfl (by kernel_rfl) (by kernel_rfl) (by kernel_rfl) (fun _ _ _ h => h) (Or.inl ⟨by rfl, ?_⟩) (by assumption) ?_
          · intro w hSw; (try dsimp only at hSw); go_simp
          (try simp only [Act.put, List.setIfInBounds_toArray, List.set_cons_zero, List.set_cons_succ])
          refine wpAnyH_take (i := 1) (oi := ({ dst := some 119, op := Op.fieldAddr 46 (Operand.tmp 17) 1, type := 0, pos := "parts.go:324", after := #[], guard := none } : Oper)) (v := .pointer (some ⟨hb5, 2, none⟩)) rfl (by kernel_rfl) (by kernel_rfl) (by kernel_rfl) (fun _ _ _ h => h) (Or.inl ⟨by rfl, ?_⟩) (by assumption) ?_
          · intro w hSw; (try dsimp only at hSw); go_simp
          (try simp only [Act.put, List.setIfInBounds_toArray, List.set_cons_zero, List.set_cons_succ])
          refine wpAnyH_take (i := 2) (oi := ({ dst := some 120, op := Op.load 3 (Operand.tmp 119), type := 3, pos := "parts.go:324", after := #[{ on := 1, ground := Ground.data }], guard := none } : Oper)) (v := .int .i64 y.writ) rfl (by kernel_rfl) (by kernel_rfl) (by kernel_rfl) (fun _ _ _ h => h) (Or.inl ⟨by rfl, ?_⟩) (by assumption) ?_
          · intro w hSw; (try dsimp only at hSw); go_simp
          (try simp only [Act.put, List.setIfInBounds_toArray, List.set_cons_zero, List.set_cons_succ])
          refine wpAnyH_ready (rs := [3]) (by kernel_rfl) (by simp) ?_
          refine AllReadyH.cons (o := ({ dst := some 121, op := Op.call { callee := Callee.value (Operand.func 23), args := #[Operand.tmp 118, Operand.tmp 120], argTypes := #[37, 3] }, type := 4, pos := "parts.go:324", after := #[{ on := 0, ground := Ground.data }, { on := 2, ground := Ground.data }], guard := none } : Oper)) rfl (fun K hK => ?_) AllReadyH.nil
          rw [if_pos (by rfl)]
          go_wp2_with (first | (go_at_call 23; refine (hin0 _ (hints.below hB0 hza2)).mono ?_; rintro e w' ⟨rfl, rfl⟩))
          refine hK.out _ _ ?_ (fun hHeld => ?_)
          · exact mk _ hB0
          clear hK K
          (try simp only [Act.put, List.setIfInBounds_toArray, List.set_cons_zero, List.set_cons_succ])
          refine wpAnyH_take (i := 4) (oi := ({ dst := some 122, op := Op.unOp UnOp.not 4 (Operand.tmp 121), type := 4, pos := "parts.go:324", after := #[{ on := 3, ground := Ground.data }], guard := none } : Oper)) (v := .bool false) rfl (by kernel_rfl) (by kernel_rfl) (by kernel_rfl) (fun _ _ _ h => h) (Or.inl ⟨by rfl, ?_⟩) (by assumption) ?_
          · intro w hSw; (try dsimp only at hSw); go_simp
          (try simp only [Act.put, List.setIfInBounds_toArray, List.set_cons_zero, List.set_cons_succ])
          refine wpAnyH_take (i := 5) (oi := ({ dst := some 123, op := Op.move (Operand.tmp 122), type := 4, pos := "parts.go:324", after := #[{ on := 4, ground := Ground.data }, { on := 3, ground := Ground.chain }], guard := none } : Oper)) (v := .bool false) rfl (by kernel_rfl) (by kernel_rfl) (by kernel_rfl) (fun _ _ _ h => h) (Or.inl ⟨by rfl, ?_⟩) (by assumption) ?_
          · intro w hSw; (try dsimp only at hSw); go_simp
          (try simp only [Act.put, List.setIfInBounds_toArray, List.set_cons_zero, List.set_cons_succ])
          refine wpAnyH_take (i := 6) (oi := ({ dst := some 124, op := Op.fieldAddr 29 (Operand.tmp 9) 2, type := 0, pos := "parts.go:324", after := #[{ on := 5, ground := Ground.guard }], guard := some (5, true) } : Oper)) (v := undef) rfl (by kernel_rfl) (by kernel_rfl) (by kernel_rfl) (fun _ _ _ h => h) (Or.inr ⟨by rfl, rfl⟩) (by assumption) ?_
          (try simp only [Act.put, List.setIfInBounds_toArray, List.set_cons_zero, List.set_cons_succ])
          refine wpAnyH_take (i := 7) (oi := ({ dst := some 125, op := Op.load 26 (Operand.tmp 124), type := 26, pos := "parts.go:324", after := #[{ on := 6, ground := Ground.data }, { on := 5, ground := Ground.guard }], guard := some (5, true) } : Oper)) (v := undef) rfl (by kernel_rfl) (by kernel_rfl) (by kernel_rfl) (fun _ _ _ h => h) (Or.inr ⟨by rfl, rfl⟩) (by assumption) ?_
          (try simp only [Act.put, List.setIfInBounds_toArray, List.set_cons_zero, List.set_cons_succ])
          refine wpAnyH_take (i := 8) (oi := ({ dst := some 126, op := Op.fieldAddr 46 (Operand.tmp 17) 0, type := 0, pos := "parts.go:324", after := #[{ on := 5, ground := Ground.guard }], guard := some (5, true) } : Oper)) (v := undef) rfl (by kernel_rfl) (by kernel_rfl) (by kernel_rfl) (fun _ _ _ h => h) (Or.inr ⟨by rfl, rfl⟩) (by assumption) ?_
          (try simp only [Act.put, List.setIfInBounds_toArray, List.set_cons_zero, List.set_cons_succ])
          refine wpAnyH_take (i := 9) (oi := ({ dst := some 127, op := Op.load 44 (Operand.tmp 126), type := 44, pos := "parts.go:324", after := #[{ on := 8, ground := Ground.data }, { on := 5, ground := Ground.guard }], guard := some (5, true) } : Oper)) (v := undef) rfl (by kernel_rfl) (by kernel_rfl) (by kernel_rfl) (fun _ _ _ h => h) (Or.inr ⟨by rfl, rfl⟩) (by assumption) ?_
          (try simp only [Act.put, List.setIfInBounds_toArray, List.set_cons_zero, List.set_cons_succ])
          refine wpAnyH_take (i := 10) (oi := ({ dst := some 128, op := Op.call { callee := Callee.value (Operand.func 24), args := #[Operand.tmp 125, Operand.tmp 127], argTypes := #[26, 44] }, type := 3, pos := "parts.go:324", after := #[{ on := 7, ground := Ground.data }, { on := 9, ground := Ground.data }, { on := 5, ground := Ground.chain }, { on := 5, ground := Ground.guard }], guard := some (5, true) } : Oper)) (v := undef) rfl (by kernel_rfl) (by kernel_rfl) (by kernel_rfl) (fun _ _ _ h => h) (Or.inr ⟨by rfl, rfl⟩) (by assumption) ?_
          (try simp only [Act.put, List.setIfInBounds_toArray, List.set_cons_zero, List.set_cons_succ])
          refine wpAnyH_take (i := 11) (oi := ({ dst := some 129, op := Op.fieldAddr 46 (Operand.tmp 17) 1, type := 0, pos := "parts.go:324", after := #[{ on := 5, ground := Ground.guard }], guard := some (5, true) } : Oper)) (v := undef) rfl (by kernel_rfl) (by kernel_rfl) (by kernel_rfl) (fun _ _ _ h => h) (Or.inr ⟨by rfl, rfl⟩) (by assumption) ?_
          (try simp only [Act.put, List.setIfInBounds_toArray, List.set_cons_zero, List.set_cons_succ])
          refine wpAnyH_take (i := 12) (oi := ({ dst := some 130, op := Op.load 3 (Operand.tmp 129), type := 3, pos := "parts.go:324", after := #[{ on := 11, ground := Ground.data }, { on := 5, ground := Ground.guard }], guard := some (5, true) } : Oper)) (v := undef) rfl (by kernel_rfl) (by kernel_rfl) (by kernel_rfl) (fun _ _ _ h => h) (Or.inr ⟨by rfl, rfl⟩) (by assumption) ?_
          (try simp only [Act.put, List.setIfInBounds_toArray, List.set_cons_zero, List.set_cons_succ])
          refine wpAnyH_take (i := 13) (oi := ({ dst := some 131, op := Op.binOp BinOp.neq 3 (Operand.tmp 128) (Operand.tmp 130) 3, type := 4, pos := "parts.go:324", after := #[{ on := 10, ground := Ground.data }, { on := 12, ground := Ground.data }, { on := 5, ground := Ground.guard }], guard := some (5, true) } : Oper)) (v := undef) rfl (by kernel_rfl) (by kernel_rfl) (by kernel_rfl) (fun _ _ _ h => h) (Or.inr ⟨by rfl, rfl⟩) (by assumption) ?_
          (try simp only [Act.put, List.setIfInBounds_toArray, List.set_cons_zero, List.set_cons_succ])
          refine wpAnyH_take (i := 14) (oi := ({ dst := some 132, op := Op.pick (Operand.tmp 123) (Operand.tmp 131) (Operand.const (Value.bool false)), type := 4, pos := "parts.go:324", after := #[{ on := 5, ground := Ground.data }, { on := 13, ground := Ground.data }], guard := none } : Oper)) (v := .bool false) rfl (by kernel_rfl) (by kernel_rfl) (by kernel_rfl) (fun _ _ _ h => h) (Or.inl ⟨by rfl, ?_⟩) (by assumption) ?_
          · intro w hSw; (try dsimp only at hSw); go_simp
          (try simp only [Act.put, List.setIfInBounds_toArray, List.set_cons_zero, List.set_cons_succ])
          refine wpAnyH_done (by kernel_rfl) ?_ _
          go_wp2_with fail
          go_roundw
          case rel => exact ⟨k + 1, by omega, by go_num, Below_after bl hB0, BR.below hB0, BY.below hB0, hat.below hB0, hat2.below hB0, ⟨hints.below hB0 hza2, fun b o e => Nat.lt_of_lt_of_le (hza2 b o e) hB0.size⟩⟩
          case measure => simp [intOf]; omega
    · obtain ⟨u1, u2, u3⟩ := t2 Z[j] (List.getElem_mem hlt)
      have hf := find_neg_iff.2 u1
      have hwn := where_none u2
      obtain ⟨ba, oa, rfl, hia⟩ := hints.resolve_left (by rintro rfl; simp at hlt)
      have hba := haz ba oa rfl
      have qa : wr.cell? ⟨ba, oa + j, none⟩ = some (.int .i64 Z[j]) := by rw [(bcell hbl).1 _ _ hba, hia j hlt, getD_at hlt]
      have hbz : ba < wr.heap.size := Nat.lt_of_lt_of_le hba hbl.size
      clear t2 t3 u1 u2 hints haz hia
      have hfa := fun (W : World) (h' : Below wr.heap.size wr W) => find_any b0 e0 d.ws Z[j] W (hat2.w.below h') (by omega)
      generalize find d.ws Z[j] = f at hfa hf
      have hdf : decide (0 ≤ f) = false := decide_eq_false (by omega)
      have cY0 := (BY.2 0 _ rfl).1
      have cY1 := (BY.2 1 _ rfl).1
      have cY2 := (BY.2 2 _ rfl).1
      have cY3 := (BY.2 3 _ rfl).1
      have cY4 := (BY.2 4 _ rfl).1
      have cY5 := (BY.2 5 _ rfl).1
      have zY := BY.1
      go_wp2_with fail
      have mk : ∀ w' : World, Below wr.heap.size wr w' → Below wr.heap.size wr w' ∧ w'.cell? ⟨w4.heap.size, 0, none⟩ = some (.slice b0 d.ws.length e0) ∧ w'.cell? ⟨ba, oa + j, none⟩ = some (.int .i64 Z[j]) := fun w' h => ⟨h, by rw [(bcell h).1 _ _ zY]; exact cY0, by rw [(bcell h).1 _ _ hbz]; exact qa⟩
      have hB0 : Below wr.heap.size wr wr.drew := below_drewN (Below.refl _ _) 1
      refine wp_region_held_drew (S := fun w' => Below wr.heap.size wr w' ∧ w'.cell? ⟨w4.heap.size, 0, none⟩ = some (.slice b0 d.ws.length e0) ∧ w'.cell? ⟨ba, oa + j, none⟩ = some (.int .i64 Z[j])) (by kernel_rfl) ?_ (fun hHeld => ?_)
      · exact mk _ hB0
      refine wpAnyH_take (i := 0) (oi := ({ dst := some 69, op := Op.fieldAddr 29 (Operand.tmp 9) 0, type := 0, pos := "parts.go:309", after := #[], guard := none } : Oper)) (v := .pointer (some ⟨w4.heap.size, 0, none⟩)) rfl (by kernel_rfl) (by kernel_rfl) (by kernel_rfl) (fun _ _ _ h => h) (Or.inl ⟨by rfl, ?_⟩) (by assumption) ?_
      · intro w hSw; (try dsimp only at hSw); go_simp
      (try simp only [Act.put, List.setIfInBounds_toArray, List.set_cons_zero, List.set_cons_succ])
      refine wpAnyH_take (i := 1) (oi := ({ dst := some 70, op := Op.load 24 (Operand.tmp 69), type := 24, pos := "parts.go:309", after := #[{ on := 0, ground := Ground.data }], guard := none } : Oper)) (v := .slice b0 d.ws.length e0) rfl (by kernel_rfl) (by kernel_rfl) (by kernel_rfl) (fun _ _ _ h => h) (Or.inl ⟨by rfl, ?_⟩) (by assumption) ?_
      · intro w hSw; (try dsimp only at hSw); go_simp
      (try simp only [Act.put, List.setIfInBounds_toArray, List.set_cons_zero, List.set_cons_succ])
      refine wpAnyH_take (i := 2) (oi := ({ dst := some 71, op := Op.move (Operand.tmp 11), type := 37, pos := "parts.go:309", after := #[], guard := none } : Oper)) (v := .slice (some ⟨ba, oa, none⟩) Z.length cz) rfl (by kernel_rfl) (by kernel_rfl) (by kernel_rfl) (fun _ _ _ h => h) (Or.inl ⟨by rfl, ?_⟩) (by assumption) ?_
      · intro w hSw; (try dsimp only at hSw); go_simp
      (try simp only [Act.put, List.setIfInBounds_toArray, List.set_cons_zero, List.set_cons_succ])
      refine wpAnyH_take (i := 3) (oi := ({ dst := some 72, op := Op.move (Operand.tmp 12), type := 3, pos := "parts.go:309", after := #[], guard := none } : Oper)) (v := .int .i64 j) rfl (by kernel_rfl) (by kernel_rfl) (by kernel_rfl) (fun _ _ _ h => h) (Or.inl ⟨by rfl, ?_⟩) (by assumption) ?_
      · intro w hSw; (try dsimp only at hSw); go_simp
      (try simp only [Act.put, List.setIfInBounds_toArray, List.set_cons_zero, List.set_cons_succ])
      refine wpAnyH_take (i := 4) (oi := ({ dst := some 73, op := Op.indexAddr 37 (Operand.tmp 71) (Operand.tmp 72), type := 0, pos := "parts.go:309", after := #[{ on := 2, ground := Ground.data }, { on := 3, ground := Ground.data }], guard := none } : Oper)) (v := .pointer (some ⟨ba, oa + j, none⟩)) rfl (by kernel_rfl) (by kernel_rfl) (by kernel_rfl) (fun _ _ _ h => h) (Or.inl ⟨by rfl, ?_⟩) (by assumption) ?_
      · intro w hSw; (try dsimp only at hSw); go_simp
      (try simp only [Act.put, List.setIfInBounds_toArray, List.set_cons_zero, List.set_cons_succ])
      refine wpAnyH_take (i := 5) (oi := ({ dst := some 74, op := Op.load 3 (Operand.tmp 73), type := 3, pos := "parts.go:309", after := #[{ on := 4, ground := Ground.data }], guard := none } : Oper)) (v := .int .i64 Z[j]) rfl (by kernel_rfl) (by kernel_rfl) (by kernel_rfl) (fun _ _ _ h => h) (Or.inl ⟨by rfl, ?_⟩) (by assumption) ?_
      · intro w hSw; (try dsimp only at hSw); go_simp
      (try simp only [Act.put, List.setIfInBounds_toArray, List.set_cons_zero, List.set_cons_succ])
      refine wpAnyH_ready (rs := [6]) (by kernel_rfl) (by simp) ?_
      refine AllReadyH.cons (o := ({ dst := some 75, op := Op.call { callee := Callee.value (Operand.func 13), args := #[Operand.tmp 70, Operand.tmp 74], argTypes := #[24, 3] }, type := 3, pos := "parts.go:309", after := #[{ on := 1, ground := Ground.data }, { on := 5, ground := Ground.data }], guard := none } : Oper)) rfl (fun K hK => ?_) AllReadyH.nil
      rw [if_pos (by rfl)]
      go_wp2_with (first | (go_at_call 13; refine Calls.mono (hfa _ hB0) ?_; rintro e w6 ⟨rfl, hb6⟩; have hB6 := Below_after hB0 hb6))
      refine hK.out _ _ ?_ (fun hHeld => ?_)
      · exact mk _ hB6
      clear hK K
      (try simp only [Act.put, List.setIfInBounds_toArray, List.set_cons_zero, List.set_cons_succ])
      refine wpAnyH_take (i := 7) (oi := ({ dst := some 76, op := Op.binOp BinOp.geq 3 (Operand.tmp 75) (Operand.const (Value.int IntKind.i64 0)) 3, type := 4, pos := "parts.go:309", after := #[{ on := 6, ground := Ground.data }], guard := none } : Oper)) (v := .bool false) rfl (by kernel_rfl) (by kernel_rfl) (by kernel_rfl) (fun _ _ _ h => h) (Or.inl ⟨by rfl, ?_⟩) (by assumption) ?_
      · intro w hSw; (try dsimp only at hSw); go_simp
      (try simp only [Act.put, List.setIfInBounds_toArray, List.set_cons_zero, List.set_cons_succ])
      refine wpAnyH_done (by kernel_rfl) ?_ _
      clear cY0 cY1 cY2 cY3 cY4 cY5 zY
      clear mk
      clear hfa
      clear hdf
      replace qa : w6.cell? ⟨ba, oa + j, none⟩ = some (.int .i64 Z[j]) := by rw [(bcell hB6).1 _ _ hbz]; exact qa
      replace hbz : ba < w6.heap.size := Nat.lt_of_lt_of_le hbz hB6.size
      replace BY := BY.below hB6
      replace hat2 := hat2.below hB6
      replace hbl := Below_after hbl hB6
      clear BR BX BP hat bl
      have hwh := fun (W : World) (h' : Below w6.heap.size w6 W) => where_no b2 e2 d.hs Z[j] W (hat2.h.below h') hw2 hwn
      have cY0 := (BY.2 0 _ rfl).1
      have cY1 := (BY.2 1 _ rfl).1
      have cY2 := (BY.2 2 _ rfl).1
      have cY3 := (BY.2 3 _ rfl).1
      have cY4 := (BY.2 4 _ rfl).1
      have cY5 := (BY.2 5 _ rfl).1
      have zY := BY.1
      go_wp2_with fail
      have hB0' : Below w6.heap.size w6 w6.drew := below_drewN (Below.refl _ _) 1
      have hB1 := hB0'.alloc hB0'.size (.cells #[.int .i64 0, .int .i64 0] 44)
      have BN0 : Bx (w6.drew.alloc (.cells #[.int .i64 0, .int .i64 0] 44)) w6.heap.size [.int .i64 0, .int .i64 0] := Bx.new w6.drew [.int .i64 0, .int .i64 0] 44
      have hds : w6.heap.size ≤ w6.heap.size := Nat.le_refl _
      have mk : ∀ w' : World, Below w6.heap.size w6 w' → Below w6.heap.size w6 w' ∧ w'.cell? ⟨w4.heap.size, 2, none⟩ = some (.slice b2 d.hs.length e2) ∧ w'.cell? ⟨ba, oa + j, none⟩ = some (.int .i64 Z[j]) := fun w' h => ⟨h, by rw [(bcell h).1 _ _ zY]; exact cY2, by rw [(bcell h).1 _ _ hbz]; exact qa⟩
      have hB0 : Below w6.heap.size w6 w6.drew := below_drewN (Below.refl _ _) 1
      go_region_held3 (fun w' => Below w6.heap.size w6 w' ∧ w'.cell? ⟨w4.heap.size, 2, none⟩ = some (.slice b2 d.hs.length e2) ∧ w'.cell? ⟨ba, oa + j, none⟩ = some (.int .i64 Z[j])) (first | exact mk _ hB0 | exact mk _ hB1 | exact mk _ hB8 | exact mk _ (hB8.alloc hB8.size _) | exact mk _ ((hB8.setCell (p := ⟨w6.heap.size, 0, none⟩) hds _).setCell (p := ⟨w6.heap.size, 1, none⟩) hds _)) (first | (go_at_call 22; refine Calls.mono (hwh _ hB0) ?_; rintro e w8 ⟨rfl, hb8⟩; have hB8 := Below_after hB0 hb8) | (go_at_call 22; refine Calls.mono (hwh _ hB1) ?_; rintro e w8 ⟨rfl, hb8⟩; have hB8 := Below_after hB1 hb8; have BN := BN0.below hb8; obtain ⟨n0, n1⟩ := BN.two; have i0 := (BN.2 0 _ rfl).2; have i1 := (BN.2 1 _ rfl).2; have zN := BN.1))
      rotate_left
      · have hF := (hB8.setCell (p := ⟨w6.heap.size, 0, none⟩) hds (.int .i64 0)).setCell (p := ⟨w6.heap.size, 1, none⟩) hds (.int .i64 0)
        clear n0 n1 i0 i1 zN BN
        generalize (w8.setCell ⟨w6.heap.size, 0, none⟩ (.int .i64 0)).setCell ⟨w6.heap.size, 1, none⟩ (.int .i64 0) = wf at hF ⊢
        replace qa : wf.cell? ⟨ba, oa + j, none⟩ = some (.int .i64 Z[j]) := by rw [(bcell hF).1 _ _ hbz]; exact qa
        replace hbz : ba < wf.heap.size := Nat.lt_of_lt_of_le hbz hF.size
        replace BY := BY.below hF
        replace hat2 := hat2.below hF
        replace hbl := Below_after hbl hF
        clear hF cY0 cY1 cY2 cY3 cY4 cY5 zY mk hwh hB0 hB0' hB1 BN0 hds hB8 hb8
        have cY0 := (BY.2 0 _ rfl).1
        have cY1 := (BY.2 1 _ rfl).1
        have cY2 := (BY.2 2 _ rfl).1
        have cY3 := (BY.2 3 _ rfl).1
        have cY4 := (BY.2 4 _ rfl).1
        have cY5 := (BY.2 5 _ rfl).1
        have zY := BY.1
        go_wp2_with fail
        clear cY0 cY1 cY2 cY3 cY4 cY5 zY
        go_loopw [15] (fun i wr => ∃ m : Nat, m ≤ d.ns.length ∧ i = .int .i64 m ∧ Below wf.heap.size wf wr) (fun i _ => d.ns.length - (intOf i).toNat)
        case atStart => exact ⟨0, Nat.zero_le _, rfl, Below.refl _ _⟩
        case round =>
          obtain ⟨m, hm', rfl, hbq⟩ := hrel
          replace qa : wr.cell? ⟨ba, oa + j, none⟩ = some (.int .i64 Z[j]) := by rw [(bcell hbq).1 _ _ hbz]; exact qa
          replace hbz : ba < wr.heap.size := Nat.lt_of_lt_of_le hbz hbq.size
          replace BY := BY.below hbq
          replace hat2 := hat2.below hbq
          have cY0 := (BY.2 0 _ rfl).1
          have cY1 := (BY.2 1 _ rfl).1
          have cY2 := (BY.2 2 _ rfl).1
          have cY3 := (BY.2 3 _ rfl).1
          have cY4 := (BY.2 4 _ rfl).1
          have cY5 := (BY.2 5 _ rfl).1
          have zY := BY.1
          by_cases hlt5 : m < d.ns.length
          rotate_left
          · go_wp2_with fail
            go_roundw
            case rel => exact ⟨j + 1, by omega, by go_num, Below_after hbl hbq⟩
            case measure => simp [intOf]; omega
          obtain ⟨y, hy⟩ : ∃ y, d.ns[m]? = some y := ⟨d.ns[m], List.getElem?_eq_getElem hlt5⟩
          have hne := u3 y (List.mem_of_getElem? hy)
          have hde : (y.writ == Z[j]) = false := by simpa using hne
          obtain ⟨b', o', rfl, hb', hww⟩ := hat2.n.resolve_left (by rintro e; rw [e] at hlt5; simp at hlt5)
          obtain ⟨p1, p2, p3, p4⟩ := hww m y hy
          clear hww hy hne p1 p2 p3 u3
          go_wp2_with fail
          go_quiet (fail)
          go_wp2_with fail
          go_roundw
          case rel => exact ⟨m + 1, by omega, by go_num, below_drewN hbq _⟩
          case measure => simp [intOf]; omega
      · have hF := hB8.alloc hB8.size (.cells #[.int .i64 0, .int .i64 0] 44)
        generalize w8.alloc (.cells #[.int .i64 0, .int .i64 0] 44) = wf at hF ⊢
        replace qa : wf.cell? ⟨ba, oa + j, none⟩ = some (.int .i64 Z[j]) := by rw [(bcell hF).1 _ _ hbz]; exact qa
        replace hbz : ba < wf.heap.size := Nat.lt_of_lt_of_le hbz hF.size
        replace BY := BY.below hF
        replace hat2 := hat2.below hF
        replace hbl := Below_after hbl hF
        clear hF cY0 cY1 cY2 cY3 cY4 cY5 zY mk hwh hB0 hB0' hB1 BN0 hds hB8 hb8
        have cY0 := (BY.2 0 _ rfl).1
        have cY1 := (BY.2 1 _ rfl).1
        have cY2 := (BY.2 2 _ rfl).1
        have cY3 := (BY.2 3 _ rfl).1
        have cY4 := (BY.2 4 _ rfl).1
        have cY5 := (BY.2 5 _ rfl).1
        have zY := BY.1
        go_wp2_with fail
        clear cY0 cY1 cY2 cY3 cY4 cY5 zY
        go_loopw [15] (fun i wr => ∃ m : Nat, m ≤ d.ns.length ∧ i = .int .i64 m ∧ Below wf.heap.size wf wr) (fun i _ => d.ns.length - (intOf i).toNat)
        case atStart => exact ⟨0, Nat.zero_le _, rfl, Below.refl _ _⟩
        case round =>
          obtain ⟨m, hm', rfl, hbq⟩ := hrel
          replace qa : wr.cell? ⟨ba, oa + j, none⟩ = some (.int .i64 Z[j]) := by rw [(bcell hbq).1 _ _ hbz]; exact qa
          replace hbz : ba < wr.heap.size := Nat.lt_of_lt_of_le hbz hbq.size
          replace BY := BY.below hbq
          replace hat2 := hat2.below hbq
          have cY0 := (BY.2 0 _ rfl).1
          have cY1 := (BY.2 1 _ rfl).1
          have cY2 := (BY.2 2 _ rfl).1
          have cY3 := (BY.2 3 _ rfl).1
          have cY4 := (BY.2 4 _ rfl).1
          have cY5 := (BY.2 5 _ rfl).1
          have zY := BY.1
          by_cases hlt5 : m < d.ns.length
          rotate_left
          · go_wp2_with fail
            go_roundw
            case rel => exact ⟨j + 1, by omega, by go_num, Below_after hbl hbq⟩
            case measure => simp [intOf]; omega
          obtain ⟨y, hy⟩ : ∃ y, d.ns[m]? = some y := ⟨d.ns[m], List.getElem?_eq_getElem hlt5⟩
          have hne := u3 y (List.mem_of_getElem? hy)
          have hde : (y.writ == Z[j]) = false := by simpa using hne
          obtain ⟨b', o', rfl, hb', hww⟩ := hat2.n.resolve_left (by rintro e; rw [e] at hlt5; simp at hlt5)
          obtain ⟨p1, p2, p3, p4⟩ := hww m y hy
          clear hww hy hne p1 p2 p3 u3
          go_wp2_with fail
          go_quiet (fail)
          go_wp2_with fail
          go_roundw
          case rel => exact ⟨m + 1, by omega, by go_num, below_drewN hbq _⟩
          case measure => simp [intOf]; omega
theorem trev_yes (a : Option Addr) (c : Nat) (l : List Ac) (h s : Int) (w : World) (hw : AcsAt w a l) (hm : l.length ≤ maxLen) (hq : lacB l 80 = true) :
    Calls Try.prog 6 #[.slice a l.length c, .agg #[.int .i64 h, .int .i64 s]] w fun e w' => e = .returned (.bool true) ∧ Below w.heap.size w w' := by
  by_cases hc : getC (growR l) h s = 0
  · exact trev_ok a c l h s w hw hm hq hc
  · exact trev_err a c l h s w hw hm hq hc
theorem trev_any (w : World) (a : Option Addr) (l : List Ac) (c : Nat) (hw : AcsAt w a l) (hm : l.length ≤ maxLen) (h s : Int) :
    Calls Try.prog 6 #[.slice a l.length c, .agg #[.int .i64 h, .int .i64 s]] w fun e w' => e = .returned (.bool true) ∧ Below w.heap.size w w' := by
  cases hq : lacB l 80
  · exact trev_no a c l h s w hw hm hq
  · exact trev_yes a c l h s w hw hm hq
end Go.Proofs.Ytihckdndecbefac
