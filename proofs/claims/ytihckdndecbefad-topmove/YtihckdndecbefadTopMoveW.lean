/- TopMove, walked. -/
import Derived.Test.YtihckdndecbefadGrownB
import Derived.Test.YtihckdndecbefadMadeW
import Derived.Test.YtihckdndecbefadNumW
import Derived.Test.YtihckdndecbefadSameW
set_option linter.unusedSimpArgs false
set_option linter.unnecessarySimpa false
set_option linter.unusedVariables false
namespace Go.Proofs.Ytihckdndecbefad
open Go.RowKit

set_option maxHeartbeats 2000000 in
set_option maxRecDepth 100000 in
theorem tmove_no (a : Option Addr) (c : Nat) (l : List Ac) (h s t : Int) (w : World) (hw : AcsAt w a l) (hm : l.length ≤ maxLen) (hq : lacB l 80 = false) :
    Calls Try.prog 7 #[.slice a l.length c, .agg #[.int .i64 h, .int .i64 s], .int .i64 t] w fun e w' => e = .returned (.bool true) ∧ Below w.heap.size w w' := by
  have BP := Bx.new w [.int .i64 h, .int .i64 s] 24
  have bl := (Below.refl w.heap.size w).alloc (by first | exact Nat.le_refl _ | (simp <;> omega)) (.cells #[.int .i64 h, .int .i64 s] 24)
  go_enter Try.func7, Try.ntmps7
  have hcon := made_any (w.alloc (.cells #[.int .i64 h, .int .i64 s] 24))
  go_wp2_with fail
  refine hcon.mono ?_
  rintro e w1 ⟨rfl, hb1⟩
  clear hcon
  replace BP := BP.below hb1
  replace bl := Below_after bl hb1
  have yP := BP.1
  have hcon := grown_no a c l w1 (hw.below bl) hm hq
  go_wp2_with fail
  refine hcon.mono ?_
  rintro e w2 ⟨rfl, hb2⟩
  clear hcon
  clear yP
  replace BP := BP.below hb2
  replace bl := Below_after bl hb2
  have yP := BP.1
  replace BP := BP.alloc (.cells #[.slice none 0 0, .slice none 0 0, .slice none 0 0, .slice none 0 0, .int .i64 0, .int .i64 0] 31)
  replace bl := bl.alloc bl.size (.cells #[.slice none 0 0, .slice none 0 0, .slice none 0 0, .slice none 0 0, .int .i64 0, .int .i64 0] 31)
  have BZ := Bx.new w2 [.slice none 0 0, .slice none 0 0, .slice none 0 0, .slice none 0 0, .int .i64 0, .int .i64 0] 31
  go_wp2_with fail
  go_ret
  exact ⟨rfl, bl⟩
set_option maxHeartbeats 2000000 in
set_option maxRecDepth 100000 in
theorem tmove_err (a : Option Addr) (c : Nat) (l : List Ac) (h s t : Int) (w : World) (hw : AcsAt w a l) (hm : l.length ≤ maxLen) (hq : lacB l 80 = true) (hc : moveC (growR l) h s t ≠ 0) :
    Calls Try.prog 7 #[.slice a l.length c, .agg #[.int .i64 h, .int .i64 s], .int .i64 t] w fun e w' => e = .returned (.bool true) ∧ Below w.heap.size w w' := by
  have BP := Bx.new w [.int .i64 h, .int .i64 s] 24
  have bl := (Below.refl w.heap.size w).alloc (by first | exact Nat.le_refl _ | (simp <;> omega)) (.cells #[.int .i64 h, .int .i64 s] 24)
  have hlen := lac_len hq
  have hi := inv_grow l l.length (by omega)
  rw [List.take_length] at hi
  have hI : RmI (growR l) := ⟨hi.sz (by omega), hi.put, hi.wf⟩
  have hW := whole_grow l
  have hk : InvK 80 (growR l) := hi.mono (by omega)
  clear hi
  go_enter Try.func7, Try.ntmps7
  have hcon := made_any (w.alloc (.cells #[.int .i64 h, .int .i64 s] 24))
  go_wp2_with fail
  refine hcon.mono ?_
  rintro e w1 ⟨rfl, hb1⟩
  clear hcon
  replace BP := BP.below hb1
  replace bl := Below_after bl hb1
  have yP := BP.1
  have hg := grown_yes a c l w1 (hw.below bl) hm hq
  generalize growR l = g at hg hI hW hk hc
  clear hq hw hm hlen
  have hcon := hg
  clear hg
  go_wp2_with fail
  refine hcon.mono ?_
  rintro e w2 ⟨a0, a1, a2, a3, N0, N1, N2, N3, c0, c1, c2, c3, M, N, rfl, ⟨l0, l1, l2, l3, l4, l5⟩, hat, -, hb2⟩
  clear hcon
  clear yP
  replace BP := BP.below hb2
  replace bl := Below_after bl hb2
  have yP := BP.1
  replace BP := BP.alloc (.cells #[.slice a0 N0 c0, .slice a1 N1 c1, .slice a2 N2 c2, .slice a3 N3 c3, .int .i64 M, .int .i64 N] 31)
  replace hat := hat.below ((Below.refl _ _).alloc (Nat.le_refl _) (.cells #[.slice a0 N0 c0, .slice a1 N1 c1, .slice a2 N2 c2, .slice a3 N3 c3, .int .i64 M, .int .i64 N] 31))
  replace bl := bl.alloc bl.size (.cells #[.slice a0 N0 c0, .slice a1 N1 c1, .slice a2 N2 c2, .slice a3 N3 c3, .int .i64 M, .int .i64 N] 31)
  have BR := Bx.new w2 [.slice a0 N0 c0, .slice a1 N1 c1, .slice a2 N2 c2, .slice a3 N3 c3, .int .i64 M, .int .i64 N] 31
  have hcon := get_any a0 a1 a2 a3 c0 c1 c2 c3 g h s _ hat hI.sz
  rw [l0, l1, l2, l3, l4, l5] at hcon
  have cR0 := (BR.2 0 _ rfl).1
  have cR1 := (BR.2 1 _ rfl).1
  have cR2 := (BR.2 2 _ rfl).1
  have cR3 := (BR.2 3 _ rfl).1
  have cR4 := (BR.2 4 _ rfl).1
  have cR5 := (BR.2 5 _ rfl).1
  have zR := BR.1
  have cP0 := (BP.2 0 _ rfl).1
  have cP1 := (BP.2 1 _ rfl).1
  have zP := BP.1
  go_wp2_with fail
  refine hcon.mono ?_
  rintro e w3 ⟨x, ev1, rfl, hG, hb3⟩
  clear cR0 cR1 cR2 cR3 cR4 cR5 zR cP0 cP1 zP hcon
  clear yP
  replace BP := BP.below hb3
  replace BR := BR.below hb3
  replace hat := hat.below hb3
  replace bl := Below_after bl hb3
  have yP := BP.1
  have yR := BR.1
  replace BP := BP.alloc (.cells #[.int .i64 x.id, .int .i64 x.thing, .int .i64 x.rights, .int .i64 x.badge, .int .i64 x.frm] 35)
  replace BR := BR.alloc (.cells #[.int .i64 x.id, .int .i64 x.thing, .int .i64 x.rights, .int .i64 x.badge, .int .i64 x.frm] 35)
  replace hat := hat.below ((Below.refl _ _).alloc (Nat.le_refl _) (.cells #[.int .i64 x.id, .int .i64 x.thing, .int .i64 x.rights, .int .i64 x.badge, .int .i64 x.frm] 35))
  replace bl := bl.alloc bl.size (.cells #[.int .i64 x.id, .int .i64 x.thing, .int .i64 x.rights, .int .i64 x.badge, .int .i64 x.frm] 35)
  have BX := Bx.new w3 [.int .i64 x.id, .int .i64 x.thing, .int .i64 x.rights, .int .i64 x.badge, .int .i64 x.frm] 35
  have hcon := act_move a0 a1 a2 a3 c0 c1 c2 c3 g h s t _ hat hI
  rw [l0, l1, l2, l3, l4, l5] at hcon
  have cR0 := (BR.2 0 _ rfl).1
  have cR1 := (BR.2 1 _ rfl).1
  have cR2 := (BR.2 2 _ rfl).1
  have cR3 := (BR.2 3 _ rfl).1
  have cR4 := (BR.2 4 _ rfl).1
  have cR5 := (BR.2 5 _ rfl).1
  have zR := BR.1
  have cP0 := (BP.2 0 _ rfl).1
  have cP1 := (BP.2 1 _ rfl).1
  have zP := BP.1
  go_wp2_with fail
  refine hcon.mono ?_
  rintro e w4 ⟨b0, b1, b2, b3, m0, m1, m2, m3, e0, e1, e2, e3, mm, nn, ev, rfl, hA, hb4⟩
  clear cR0 cR1 cR2 cR3 cR4 cR5 zR cP0 cP1 zP hcon
  clear yP yR
  replace BP := BP.below hb4
  replace BR := BR.below hb4
  replace BX := BX.below hb4
  replace hat := hat.below hb4
  replace bl := Below_after bl hb4
  have yP := BP.1
  have yR := BR.1
  have yX := BX.1
  obtain ⟨-, rfl, rfl, rfl, rfl, rfl, rfl, rfl, rfl, rfl, rfl, rfl, rfl, rfl, rfl, rfl⟩ := hA.resolve_left (fun h => hc h.1)
  replace BP := BP.alloc (.cells #[.slice none 0 0, .slice none 0 0, .slice none 0 0, .slice none 0 0, .int .i64 0, .int .i64 0] 31)
  replace BR := BR.alloc (.cells #[.slice none 0 0, .slice none 0 0, .slice none 0 0, .slice none 0 0, .int .i64 0, .int .i64 0] 31)
  replace BX := BX.alloc (.cells #[.slice none 0 0, .slice none 0 0, .slice none 0 0, .slice none 0 0, .int .i64 0, .int .i64 0] 31)
  replace hat := hat.below ((Below.refl _ _).alloc (Nat.le_refl _) (.cells #[.slice none 0 0, .slice none 0 0, .slice none 0 0, .slice none 0 0, .int .i64 0, .int .i64 0] 31))
  replace bl := bl.alloc bl.size (.cells #[.slice none 0 0, .slice none 0 0, .slice none 0 0, .slice none 0 0, .int .i64 0, .int .i64 0] 31)
  have BY := Bx.new w4 [.slice none 0 0, .slice none 0 0, .slice none 0 0, .slice none 0 0, .int .i64 0, .int .i64 0] 31
  go_wp2_with fail
  go_ret
  exact ⟨rfl, bl⟩
set_option maxHeartbeats 2000000 in
set_option maxRecDepth 100000 in
theorem tmove_ok (a : Option Addr) (c : Nat) (l : List Ac) (h s t : Int) (w : World) (hw : AcsAt w a l) (hm : l.length ≤ maxLen) (hq : lacB l 80 = true) (hc : moveC (growR l) h s t = 0) :
    Calls Try.prog 7 #[.slice a l.length c, .agg #[.int .i64 h, .int .i64 s], .int .i64 t] w fun e w' => e = .returned (.bool true) ∧ Below w.heap.size w w' := by
  have BP := Bx.new w [.int .i64 h, .int .i64 s] 24
  have bl := (Below.refl w.heap.size w).alloc (by first | exact Nat.le_refl _ | (simp <;> omega)) (.cells #[.int .i64 h, .int .i64 s] 24)
  have hlen := lac_len hq
  have hi := inv_grow l l.length (by omega)
  rw [List.take_length] at hi
  have hI : RmI (growR l) := ⟨hi.sz (by omega), hi.put, hi.wf⟩
  have hW := whole_grow l
  have hk : InvK 80 (growR l) := hi.mono (by omega)
  clear hi
  go_enter Try.func7, Try.ntmps7
  have hcon := made_any (w.alloc (.cells #[.int .i64 h, .int .i64 s] 24))
  go_wp2_with fail
  refine hcon.mono ?_
  rintro e w1 ⟨rfl, hb1⟩
  clear hcon
  replace BP := BP.below hb1
  replace bl := Below_after bl hb1
  have yP := BP.1
  have hg := grown_yes a c l w1 (hw.below bl) hm hq
  generalize growR l = g at hg hI hW hk hc
  clear hq hw hm hlen
  have hcon := hg
  clear hg
  go_wp2_with fail
  refine hcon.mono ?_
  rintro e w2 ⟨a0, a1, a2, a3, N0, N1, N2, N3, c0, c1, c2, c3, M, N, rfl, ⟨l0, l1, l2, l3, l4, l5⟩, hat, -, hb2⟩
  clear hcon
  clear yP
  replace BP := BP.below hb2
  replace bl := Below_after bl hb2
  have yP := BP.1
  replace BP := BP.alloc (.cells #[.slice a0 N0 c0, .slice a1 N1 c1, .slice a2 N2 c2, .slice a3 N3 c3, .int .i64 M, .int .i64 N] 31)
  replace hat := hat.below ((Below.refl _ _).alloc (Nat.le_refl _) (.cells #[.slice a0 N0 c0, .slice a1 N1 c1, .slice a2 N2 c2, .slice a3 N3 c3, .int .i64 M, .int .i64 N] 31))
  replace bl := bl.alloc bl.size (.cells #[.slice a0 N0 c0, .slice a1 N1 c1, .slice a2 N2 c2, .slice a3 N3 c3, .int .i64 M, .int .i64 N] 31)
  have BR := Bx.new w2 [.slice a0 N0 c0, .slice a1 N1 c1, .slice a2 N2 c2, .slice a3 N3 c3, .int .i64 M, .int .i64 N] 31
  obtain ⟨t1, t2, t3, t4, t5, t6⟩ := top_move hW hc
  have hkm := inv_move hk hc
  have hIm := rmI_of hkm (by omega)
  have hcon := get_ok a0 a1 a2 a3 c0 c1 c2 c3 g h s _ hat hI.sz t1
  rw [l0, l1, l2, l3, l4, l5] at hcon
  have cR0 := (BR.2 0 _ rfl).1
  have cR1 := (BR.2 1 _ rfl).1
  have cR2 := (BR.2 2 _ rfl).1
  have cR3 := (BR.2 3 _ rfl).1
  have cR4 := (BR.2 4 _ rfl).1
  have cR5 := (BR.2 5 _ rfl).1
  have zR := BR.1
  have cP0 := (BP.2 0 _ rfl).1
  have cP1 := (BP.2 1 _ rfl).1
  have zP := BP.1
  go_wp2_with fail
  refine hcon.mono ?_
  rintro e w3 ⟨rfl, hb3⟩
  clear cR0 cR1 cR2 cR3 cR4 cR5 zR cP0 cP1 zP hcon
  clear yP
  replace BP := BP.below hb3
  replace BR := BR.below hb3
  replace hat := hat.below hb3
  replace bl := Below_after bl hb3
  have yP := BP.1
  have yR := BR.1
  replace BP := BP.alloc (.cells #[.int .i64 (getW g h s).id, .int .i64 (getW g h s).thing, .int .i64 (getW g h s).rights, .int .i64 (getW g h s).badge, .int .i64 (getW g h s).frm] 35)
  replace BR := BR.alloc (.cells #[.int .i64 (getW g h s).id, .int .i64 (getW g h s).thing, .int .i64 (getW g h s).rights, .int .i64 (getW g h s).badge, .int .i64 (getW g h s).frm] 35)
  replace hat := hat.below ((Below.refl _ _).alloc (Nat.le_refl _) (.cells #[.int .i64 (getW g h s).id, .int .i64 (getW g h s).thing, .int .i64 (getW g h s).rights, .int .i64 (getW g h s).badge, .int .i64 (getW g h s).frm] 35))
  replace bl := bl.alloc bl.size (.cells #[.int .i64 (getW g h s).id, .int .i64 (getW g h s).thing, .int .i64 (getW g h s).rights, .int .i64 (getW g h s).badge, .int .i64 (getW g h s).frm] 35)
  have BX := Bx.new w3 [.int .i64 (getW g h s).id, .int .i64 (getW g h s).thing, .int .i64 (getW g h s).rights, .int .i64 (getW g h s).badge, .int .i64 (getW g h s).frm] 35
  have hcon := act_move a0 a1 a2 a3 c0 c1 c2 c3 g h s t _ hat hI
  rw [l0, l1, l2, l3, l4, l5] at hcon
  have cR0 := (BR.2 0 _ rfl).1
  have cR1 := (BR.2 1 _ rfl).1
  have cR2 := (BR.2 2 _ rfl).1
  have cR3 := (BR.2 3 _ rfl).1
  have cR4 := (BR.2 4 _ rfl).1
  have cR5 := (BR.2 5 _ rfl).1
  have zR := BR.1
  have cP0 := (BP.2 0 _ rfl).1
  have cP1 := (BP.2 1 _ rfl).1
  have zP := BP.1
  go_wp2_with fail
  refine hcon.mono ?_
  rintro e w4 ⟨b0, b1, b2, b3, m0, m1, m2, m3, e0, e1, e2, e3, mm, nn, ev, rfl, hA, hb4⟩
  clear cR0 cR1 cR2 cR3 cR4 cR5 zR cP0 cP1 zP hcon
  clear yP yR
  replace BP := BP.below hb4
  replace BR := BR.below hb4
  replace BX := BX.below hb4
  replace hat := hat.below hb4
  replace bl := Below_after bl hb4
  have yP := BP.1
  have yR := BR.1
  have yX := BX.1
  obtain ⟨-, rfl, rfl, rfl, rfl, rfl, rfl, rfl, hat2, -⟩ := hA.resolve_right (fun h => h.1 hc)
  generalize moveR g h s t = d at *
  replace BP := BP.alloc (.cells #[.slice b0 d.ws.length e0, .slice b1 d.ts.length e1, .slice b2 d.hs.length e2, .slice b3 d.ns.length e3, .int .i64 d.nw, .int .i64 d.nt] 31)
  replace BR := BR.alloc (.cells #[.slice b0 d.ws.length e0, .slice b1 d.ts.length e1, .slice b2 d.hs.length e2, .slice b3 d.ns.length e3, .int .i64 d.nw, .int .i64 d.nt] 31)
  replace BX := BX.alloc (.cells #[.slice b0 d.ws.length e0, .slice b1 d.ts.length e1, .slice b2 d.hs.length e2, .slice b3 d.ns.length e3, .int .i64 d.nw, .int .i64 d.nt] 31)
  replace hat := hat.below ((Below.refl _ _).alloc (Nat.le_refl _) (.cells #[.slice b0 d.ws.length e0, .slice b1 d.ts.length e1, .slice b2 d.hs.length e2, .slice b3 d.ns.length e3, .int .i64 d.nw, .int .i64 d.nt] 31))
  replace hat2 := hat2.below ((Below.refl _ _).alloc (Nat.le_refl _) (.cells #[.slice b0 d.ws.length e0, .slice b1 d.ts.length e1, .slice b2 d.hs.length e2, .slice b3 d.ns.length e3, .int .i64 d.nw, .int .i64 d.nt] 31))
  replace bl := bl.alloc bl.size (.cells #[.slice b0 d.ws.length e0, .slice b1 d.ts.length e1, .slice b2 d.hs.length e2, .slice b3 d.ns.length e3, .int .i64 d.nw, .int .i64 d.nt] 31)
  have BY := Bx.new w4 [.slice b0 d.ws.length e0, .slice b1 d.ts.length e1, .slice b2 d.hs.length e2, .slice b3 d.ns.length e3, .int .i64 d.nw, .int .i64 d.nt] 31
  have hcon := get_ok b0 b1 b2 b3 e0 e1 e2 e3 d h t _ hat2 hIm.sz t2
  rw [t3] at hcon
  have cY0 := (BY.2 0 _ rfl).1
  have cY1 := (BY.2 1 _ rfl).1
  have cY2 := (BY.2 2 _ rfl).1
  have cY3 := (BY.2 3 _ rfl).1
  have cY4 := (BY.2 4 _ rfl).1
  have cY5 := (BY.2 5 _ rfl).1
  have zY := BY.1
  have cP0 := (BP.2 0 _ rfl).1
  have cP1 := (BP.2 1 _ rfl).1
  have zP := BP.1
  go_wp2_with fail
  refine hcon.mono ?_
  rintro e w5 ⟨rfl, hb5⟩
  clear cY0 cY1 cY2 cY3 cY4 cY5 zY cP0 cP1 zP hcon
  clear yP yR yX
  replace BP := BP.below hb5
  replace BR := BR.below hb5
  replace BX := BX.below hb5
  replace BY := BY.below hb5
  replace hat := hat.below hb5
  replace hat2 := hat2.below hb5
  replace bl := Below_after bl hb5
  have yP := BP.1
  have yR := BR.1
  have yX := BX.1
  have yY := BY.1
  replace BP := BP.alloc (.cells #[.int .i64 (getW g h s).id, .int .i64 (getW g h s).thing, .int .i64 (getW g h s).rights, .int .i64 (getW g h s).badge, .int .i64 (getW g h s).frm] 35)
  replace BR := BR.alloc (.cells #[.int .i64 (getW g h s).id, .int .i64 (getW g h s).thing, .int .i64 (getW g h s).rights, .int .i64 (getW g h s).badge, .int .i64 (getW g h s).frm] 35)
  replace BX := BX.alloc (.cells #[.int .i64 (getW g h s).id, .int .i64 (getW g h s).thing, .int .i64 (getW g h s).rights, .int .i64 (getW g h s).badge, .int .i64 (getW g h s).frm] 35)
  replace BY := BY.alloc (.cells #[.int .i64 (getW g h s).id, .int .i64 (getW g h s).thing, .int .i64 (getW g h s).rights, .int .i64 (getW g h s).badge, .int .i64 (getW g h s).frm] 35)
  replace hat := hat.below ((Below.refl _ _).alloc (Nat.le_refl _) (.cells #[.int .i64 (getW g h s).id, .int .i64 (getW g h s).thing, .int .i64 (getW g h s).rights, .int .i64 (getW g h s).badge, .int .i64 (getW g h s).frm] 35))
  replace hat2 := hat2.below ((Below.refl _ _).alloc (Nat.le_refl _) (.cells #[.int .i64 (getW g h s).id, .int .i64 (getW g h s).thing, .int .i64 (getW g h s).rights, .int .i64 (getW g h s).badge, .int .i64 (getW g h s).frm] 35))
  replace bl := bl.alloc bl.size (.cells #[.int .i64 (getW g h s).id, .int .i64 (getW g h s).thing, .int .i64 (getW g h s).rights, .int .i64 (getW g h s).badge, .int .i64 (getW g h s).frm] 35)
  have BV := Bx.new w5 [.int .i64 (getW g h s).id, .int .i64 (getW g h s).thing, .int .i64 (getW g h s).rights, .int .i64 (getW g h s).badge, .int .i64 (getW g h s).frm] 35
  have hcon := get_err b0 b1 b2 b3 e0 e1 e2 e3 d h s _ hat2 hIm.sz (by rw [t4]; decide)
  rw [t4] at hcon
  have cY0 := (BY.2 0 _ rfl).1
  have cY1 := (BY.2 1 _ rfl).1
  have cY2 := (BY.2 2 _ rfl).1
  have cY3 := (BY.2 3 _ rfl).1
  have cY4 := (BY.2 4 _ rfl).1
  have cY5 := (BY.2 5 _ rfl).1
  have zY := BY.1
  have cP0 := (BP.2 0 _ rfl).1
  have cP1 := (BP.2 1 _ rfl).1
  have zP := BP.1
  go_wp2_with fail
  refine hcon.mono ?_
  rintro e w6 ⟨rfl, hb6⟩
  clear cY0 cY1 cY2 cY3 cY4 cY5 zY cP0 cP1 zP hcon
  clear yP yR yX yY
  replace BP := BP.below hb6
  replace BR := BR.below hb6
  replace BX := BX.below hb6
  replace BY := BY.below hb6
  replace BV := BV.below hb6
  replace hat := hat.below hb6
  replace hat2 := hat2.below hb6
  replace bl := Below_after bl hb6
  have yP := BP.1
  have yR := BR.1
  have yX := BX.1
  have yY := BY.1
  have yV := BV.1
  replace BP := BP.alloc (.cells #[.int .i64 0, .int .i64 0, .int .i64 0, .int .i64 0, .int .i64 0] 35)
  replace BR := BR.alloc (.cells #[.int .i64 0, .int .i64 0, .int .i64 0, .int .i64 0, .int .i64 0] 35)
  replace BX := BX.alloc (.cells #[.int .i64 0, .int .i64 0, .int .i64 0, .int .i64 0, .int .i64 0] 35)
  replace BY := BY.alloc (.cells #[.int .i64 0, .int .i64 0, .int .i64 0, .int .i64 0, .int .i64 0] 35)
  replace BV := BV.alloc (.cells #[.int .i64 0, .int .i64 0, .int .i64 0, .int .i64 0, .int .i64 0] 35)
  replace hat := hat.below ((Below.refl _ _).alloc (Nat.le_refl _) (.cells #[.int .i64 0, .int .i64 0, .int .i64 0, .int .i64 0, .int .i64 0] 35))
  replace hat2 := hat2.below ((Below.refl _ _).alloc (Nat.le_refl _) (.cells #[.int .i64 0, .int .i64 0, .int .i64 0, .int .i64 0, .int .i64 0] 35))
  replace bl := bl.alloc bl.size (.cells #[.int .i64 0, .int .i64 0, .int .i64 0, .int .i64 0, .int .i64 0] 35)
  have BO := Bx.new w6 [.int .i64 0, .int .i64 0, .int .i64 0, .int .i64 0, .int .i64 0] 35
  have hcon := act_move b0 b1 b2 b3 e0 e1 e2 e3 d h t s _ hat2 hIm
  rw [t6] at hcon
  have cY0 := (BY.2 0 _ rfl).1
  have cY1 := (BY.2 1 _ rfl).1
  have cY2 := (BY.2 2 _ rfl).1
  have cY3 := (BY.2 3 _ rfl).1
  have cY4 := (BY.2 4 _ rfl).1
  have cY5 := (BY.2 5 _ rfl).1
  have zY := BY.1
  have cP0 := (BP.2 0 _ rfl).1
  have cP1 := (BP.2 1 _ rfl).1
  have zP := BP.1
  go_wp2_with fail
  refine hcon.mono ?_
  rintro e w7 ⟨f0, f1, f2, f3, r0, r1, r2, r3, s0, s1, s2, s3, mm, nn, ev, rfl, hA, hb7⟩
  clear cY0 cY1 cY2 cY3 cY4 cY5 zY cP0 cP1 zP hcon
  clear yP yR yX yY yV
  replace BP := BP.below hb7
  replace BR := BR.below hb7
  replace BX := BX.below hb7
  replace BY := BY.below hb7
  replace BV := BV.below hb7
  replace BO := BO.below hb7
  replace hat := hat.below hb7
  replace hat2 := hat2.below hb7
  replace bl := Below_after bl hb7
  have yP := BP.1
  have yR := BR.1
  have yX := BX.1
  have yY := BY.1
  have yV := BV.1
  have yO := BO.1
  obtain ⟨-, rfl, d0, d1, d2, d3, d4, d5, hat3, -⟩ := hA.resolve_right (fun h => h.1 t5)
  rw [l0] at d0
  rw [l1] at d1
  rw [l2] at d2
  rw [l3] at d3
  rw [l4] at d4
  rw [l5] at d5
  subst d0 d1 d2 d3 d4 d5
  generalize getW g h s = x at *
  replace BP := BP.alloc (.cells #[.slice f0 r0 s0, .slice f1 r1 s1, .slice f2 r2 s2, .slice f3 r3 s3, .int .i64 mm, .int .i64 nn] 31)
  replace BR := BR.alloc (.cells #[.slice f0 r0 s0, .slice f1 r1 s1, .slice f2 r2 s2, .slice f3 r3 s3, .int .i64 mm, .int .i64 nn] 31)
  replace BX := BX.alloc (.cells #[.slice f0 r0 s0, .slice f1 r1 s1, .slice f2 r2 s2, .slice f3 r3 s3, .int .i64 mm, .int .i64 nn] 31)
  replace BY := BY.alloc (.cells #[.slice f0 r0 s0, .slice f1 r1 s1, .slice f2 r2 s2, .slice f3 r3 s3, .int .i64 mm, .int .i64 nn] 31)
  replace BV := BV.alloc (.cells #[.slice f0 r0 s0, .slice f1 r1 s1, .slice f2 r2 s2, .slice f3 r3 s3, .int .i64 mm, .int .i64 nn] 31)
  replace BO := BO.alloc (.cells #[.slice f0 r0 s0, .slice f1 r1 s1, .slice f2 r2 s2, .slice f3 r3 s3, .int .i64 mm, .int .i64 nn] 31)
  replace hat := hat.below ((Below.refl _ _).alloc (Nat.le_refl _) (.cells #[.slice f0 r0 s0, .slice f1 r1 s1, .slice f2 r2 s2, .slice f3 r3 s3, .int .i64 mm, .int .i64 nn] 31))
  replace hat2 := hat2.below ((Below.refl _ _).alloc (Nat.le_refl _) (.cells #[.slice f0 r0 s0, .slice f1 r1 s1, .slice f2 r2 s2, .slice f3 r3 s3, .int .i64 mm, .int .i64 nn] 31))
  replace hat3 := hat3.below ((Below.refl _ _).alloc (Nat.le_refl _) (.cells #[.slice f0 r0 s0, .slice f1 r1 s1, .slice f2 r2 s2, .slice f3 r3 s3, .int .i64 mm, .int .i64 nn] 31))
  replace bl := bl.alloc bl.size (.cells #[.slice f0 r0 s0, .slice f1 r1 s1, .slice f2 r2 s2, .slice f3 r3 s3, .int .i64 mm, .int .i64 nn] 31)
  have BZ := Bx.new w7 [.slice f0 r0 s0, .slice f1 r1 s1, .slice f2 r2 s2, .slice f3 r3 s3, .int .i64 mm, .int .i64 nn] 31
  have cX0 := (BX.2 0 _ rfl).1
  have cX1 := (BX.2 1 _ rfl).1
  have cX2 := (BX.2 2 _ rfl).1
  have cX3 := (BX.2 3 _ rfl).1
  have cX4 := (BX.2 4 _ rfl).1
  have zX := BX.1
  have cV0 := (BV.2 0 _ rfl).1
  have cV1 := (BV.2 1 _ rfl).1
  have cV2 := (BV.2 2 _ rfl).1
  have cV3 := (BV.2 3 _ rfl).1
  have cV4 := (BV.2 4 _ rfl).1
  have zV := BV.1
  have hcon := number_err 5 (w7.alloc (.cells #[.slice f0 r0 s0, .slice f1 r1 s1, .slice f2 r2 s2, .slice f3 r3 s3, .int .i64 mm, .int .i64 nn] 31))
  go_wp2_with fail
  refine hcon.mono ?_
  rintro e w' ⟨rfl, hw'⟩
  rw [hw']
  clear hw' w' hcon
  clear cX0 cX1 cX2 cX3 cX4 zX cV0 cV1 cV2 cV3 cV4 zV
  have hcon := sr_same f0 f1 f2 f3 s0 s1 s2 s3 g a0 a1 a2 a3 c0 c1 c2 c3 _ hat3 hat hI.sz
  rw [l0, l1, l2, l3, l4, l5] at hcon
  have cZ0 := (BZ.2 0 _ rfl).1
  have cZ1 := (BZ.2 1 _ rfl).1
  have cZ2 := (BZ.2 2 _ rfl).1
  have cZ3 := (BZ.2 3 _ rfl).1
  have cZ4 := (BZ.2 4 _ rfl).1
  have cZ5 := (BZ.2 5 _ rfl).1
  have zZ := BZ.1
  have cR0 := (BR.2 0 _ rfl).1
  have cR1 := (BR.2 1 _ rfl).1
  have cR2 := (BR.2 2 _ rfl).1
  have cR3 := (BR.2 3 _ rfl).1
  have cR4 := (BR.2 4 _ rfl).1
  have cR5 := (BR.2 5 _ rfl).1
  have zR := BR.1
  go_wp2_with fail
  refine hcon.mono ?_
  rintro e w9 ⟨rfl, hb9⟩
  clear cZ0 cZ1 cZ2 cZ3 cZ4 cZ5 zZ cR0 cR1 cR2 cR3 cR4 cR5 zR hcon
  clear yP yR yX yY yV yO
  replace BP := BP.below hb9
  replace BR := BR.below hb9
  replace BX := BX.below hb9
  replace BY := BY.below hb9
  replace BV := BV.below hb9
  replace BO := BO.below hb9
  replace BZ := BZ.below hb9
  replace hat := hat.below hb9
  replace hat2 := hat2.below hb9
  replace hat3 := hat3.below hb9
  replace bl := Below_after bl hb9
  have yP := BP.1
  have yR := BR.1
  have yX := BX.1
  have yY := BY.1
  have yV := BV.1
  have yO := BO.1
  have yZ := BZ.1
  go_wp2_with fail
  go_ret
  exact ⟨rfl, bl⟩
theorem tmove_yes (a : Option Addr) (c : Nat) (l : List Ac) (h s t : Int) (w : World) (hw : AcsAt w a l) (hm : l.length ≤ maxLen) (hq : lacB l 80 = true) :
    Calls Try.prog 7 #[.slice a l.length c, .agg #[.int .i64 h, .int .i64 s], .int .i64 t] w fun e w' => e = .returned (.bool true) ∧ Below w.heap.size w w' := by
  by_cases hc : moveC (growR l) h s t = 0
  · exact tmove_ok a c l h s t w hw hm hq hc
  · exact tmove_err a c l h s t w hw hm hq hc
theorem tmove_any (w : World) (a : Option Addr) (l : List Ac) (c : Nat) (hw : AcsAt w a l) (hm : l.length ≤ maxLen) (h s t : Int) :
    Calls Try.prog 7 #[.slice a l.length c, .agg #[.int .i64 h, .int .i64 s], .int .i64 t] w fun e w' => e = .returned (.bool true) ∧ Below w.heap.size w w' := by
  cases hq : lacB l 80
  · exact tmove_no a c l h s t w hw hm hq
  · exact tmove_yes a c l h s t w hw hm hq
end Go.Proofs.Ytihckdndecbefad
