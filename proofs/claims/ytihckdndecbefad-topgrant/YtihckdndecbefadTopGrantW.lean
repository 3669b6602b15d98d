/- TopGrant, walked. -/
import Derived.Test.YtihckdndecbefadGrownB
import Derived.Test.YtihckdndecbefadMadeW
import Derived.Test.YtihckdndecbefadNumW
import Derived.Test.YtihckdndecbefadInW
import Derived.Deep.RegionHeld3
set_option linter.unusedSimpArgs false
set_option linter.unnecessarySimpa false
set_option linter.unusedVariables false
namespace Go.Proofs.Ytihckdndecbefad
open Go.RowKit

set_option maxHeartbeats 2000000 in
set_option maxRecDepth 100000 in
theorem tgrant_no (a : Option Addr) (c : Nat) (l : List Ac) (h s u t rights badge : Int) (w : World) (hw : AcsAt w a l) (hm : l.length ≤ maxLen) (hq : lacB l 80 = false) :
    Calls Try.prog 3 #[.slice a l.length c, .agg #[.int .i64 h, .int .i64 s], .agg #[.int .i64 u, .int .i64 t], .int .i64 rights, .int .i64 badge] w fun e w' => e = .returned (.bool true) ∧ Below w.heap.size w w' := by
  have BP := Bx.new w [.int .i64 h, .int .i64 s] 24
  replace BP := BP.alloc (.cells #[.int .i64 u, .int .i64 t] 24)
  have BQ := Bx.new (w.alloc (.cells #[.int .i64 h, .int .i64 s] 24)) [.int .i64 u, .int .i64 t] 24
  rw [sz_alloc] at BQ
  have bl := ((Below.refl w.heap.size w).alloc (by first | exact Nat.le_refl _ | (simp <;> omega)) (.cells #[.int .i64 h, .int .i64 s] 24)).alloc (by first | exact Nat.le_refl _ | (simp <;> omega)) (.cells #[.int .i64 u, .int .i64 t] 24)
  go_enter Try.func3, Try.ntmps3
  have hcon := made_any ((w.alloc (.cells #[.int .i64 h, .int .i64 s] 24)).alloc (.cells #[.int .i64 u, .int .i64 t] 24))
  go_wp2_with fail
  refine hcon.mono ?_
  rintro e w1 ⟨rfl, hb1⟩
  clear hcon
  replace BP := BP.below hb1
  replace BQ := BQ.below hb1
  replace bl := Below_after bl hb1
  have yP := BP.1
  have yQ := BQ.1
  have hcon := grown_no a c l w1 (hw.below bl) hm hq
  go_wp2_with fail
  refine hcon.mono ?_
  rintro e w2 ⟨rfl, hb2⟩
  clear hcon
  clear yP yQ
  replace BP := BP.below hb2
  replace BQ := BQ.below hb2
  replace bl := Below_after bl hb2
  have yP := BP.1
  have yQ := BQ.1
  replace BP := BP.alloc (.cells #[.slice none 0 0, .slice none 0 0, .slice none 0 0, .slice none 0 0, .int .i64 0, .int .i64 0] 31)
  replace BQ := BQ.alloc (.cells #[.slice none 0 0, .slice none 0 0, .slice none 0 0, .slice none 0 0, .int .i64 0, .int .i64 0] 31)
  replace bl := bl.alloc bl.size (.cells #[.slice none 0 0, .slice none 0 0, .slice none 0 0, .slice none 0 0, .int .i64 0, .int .i64 0] 31)
  have BZ := Bx.new w2 [.slice none 0 0, .slice none 0 0, .slice none 0 0, .slice none 0 0, .int .i64 0, .int .i64 0] 31
  go_wp2_with fail
  go_ret
  exact ⟨rfl, bl⟩
set_option maxHeartbeats 2000000 in
set_option maxRecDepth 100000 in
theorem tgrant_err (a : Option Addr) (c : Nat) (l : List Ac) (h s u t rights badge : Int) (w : World) (hw : AcsAt w a l) (hm : l.length ≤ maxLen) (hq : lacB l 80 = true) (hc : giveC (growR l) h s u t rights badge ≠ 0) :
    Calls Try.prog 3 #[.slice a l.length c, .agg #[.int .i64 h, .int .i64 s], .agg #[.int .i64 u, .int .i64 t], .int .i64 rights, .int .i64 badge] w fun e w' => e = .returned (.bool true) ∧ Below w.heap.size w w' := by
  have BP := Bx.new w [.int .i64 h, .int .i64 s] 24
  replace BP := BP.alloc (.cells #[.int .i64 u, .int .i64 t] 24)
  have BQ := Bx.new (w.alloc (.cells #[.int .i64 h, .int .i64 s] 24)) [.int .i64 u, .int .i64 t] 24
  rw [sz_alloc] at BQ
  have bl := ((Below.refl w.heap.size w).alloc (by first | exact Nat.le_refl _ | (simp <;> omega)) (.cells #[.int .i64 h, .int .i64 s] 24)).alloc (by first | exact Nat.le_refl _ | (simp <;> omega)) (.cells #[.int .i64 u, .int .i64 t] 24)
  have hlen := lac_len hq
  have hi := inv_grow l l.length (by omega)
  rw [List.take_length] at hi
  have hI : RmI (growR l) := ⟨hi.sz (by omega), hi.put, hi.wf⟩
  have hW := whole_grow l
  have hk : InvK 80 (growR l) := hi.mono (by omega)
  clear hi
  go_enter Try.func3, Try.ntmps3
  have hcon := made_any ((w.alloc (.cells #[.int .i64 h, .int .i64 s] 24)).alloc (.cells #[.int .i64 u, .int .i64 t] 24))
  go_wp2_with fail
  refine hcon.mono ?_
  rintro e w1 ⟨rfl, hb1⟩
  clear hcon
  replace BP := BP.below hb1
  replace BQ := BQ.below hb1
  replace bl := Below_after bl hb1
  have yP := BP.1
  have yQ := BQ.1
  have hg := grown_yes a c l w1 (hw.below bl) hm hq
  generalize growR l = g at hg hI hW hk hc
  clear hq hw hm hlen
  have hcon := hg
  clear hg
  go_wp2_with fail
  refine hcon.mono ?_
  rintro e w2 ⟨a0, a1, a2, a3, N0, N1, N2, N3, c0, c1, c2, c3, M, N, rfl, ⟨l0, l1, l2, l3, l4, l5⟩, hat, -, hb2⟩
  clear hcon
  clear yP yQ
  replace BP := BP.below hb2
  replace BQ := BQ.below hb2
  replace bl := Below_after bl hb2
  have yP := BP.1
  have yQ := BQ.1
  replace BP := BP.alloc (.cells #[.slice a0 N0 c0, .slice a1 N1 c1, .slice a2 N2 c2, .slice a3 N3 c3, .int .i64 M, .int .i64 N] 31)
  replace BQ := BQ.alloc (.cells #[.slice a0 N0 c0, .slice a1 N1 c1, .slice a2 N2 c2, .slice a3 N3 c3, .int .i64 M, .int .i64 N] 31)
  replace hat := hat.below ((Below.refl _ _).alloc (Nat.le_refl _) (.cells #[.slice a0 N0 c0, .slice a1 N1 c1, .slice a2 N2 c2, .slice a3 N3 c3, .int .i64 M, .int .i64 N] 31))
  replace bl := bl.alloc bl.size (.cells #[.slice a0 N0 c0, .slice a1 N1 c1, .slice a2 N2 c2, .slice a3 N3 c3, .int .i64 M, .int .i64 N] 31)
  have BR := Bx.new w2 [.slice a0 N0 c0, .slice a1 N1 c1, .slice a2 N2 c2, .slice a3 N3 c3, .int .i64 M, .int .i64 N] 31
  have hcon := get_any a0 a1 a2 a3 c0 c1 c2 c3 g h s _ hat hI.sz
  rw [l0, l1, l2, l3, l4, l5] at hcon
  have cR0 := (BR.2 0 _ rfl).1
  have cR1 := (BR.2 1 _ rfl).1
  have cR2 := (BR.2 2 _ rfl).1
  have cR3 := (BR.2 3 _ rfl).1
  have cR4 := (BR.2 4 _ rfl).1
  have cR5 := (BR.2 5 _ rfl).1
  have zR := BR.1
  have cP0 := (BP.2 0 _ rfl).1
  have cP1 := (BP.2 1 _ rfl).1
  have zP := BP.1
  go_wp2_with fail
  refine hcon.mono ?_
  rintro e w3 ⟨x, ev1, rfl, hG, hb3⟩
  clear cR0 cR1 cR2 cR3 cR4 cR5 zR cP0 cP1 zP hcon
  clear yP yQ
  replace BP := BP.below hb3
  replace BQ := BQ.below hb3
  replace BR := BR.below hb3
  replace hat := hat.below hb3
  replace bl := Below_after bl hb3
  have yP := BP.1
  have yQ := BQ.1
  have yR := BR.1
  replace BP := BP.alloc (.cells #[.int .i64 x.id, .int .i64 x.thing, .int .i64 x.rights, .int .i64 x.badge, .int .i64 x.frm] 35)
  replace BQ := BQ.alloc (.cells #[.int .i64 x.id, .int .i64 x.thing, .int .i64 x.rights, .int .i64 x.badge, .int .i64 x.frm] 35)
  replace BR := BR.alloc (.cells #[.int .i64 x.id, .int .i64 x.thing, .int .i64 x.rights, .int .i64 x.badge, .int .i64 x.frm] 35)
  replace hat := hat.below ((Below.refl _ _).alloc (Nat.le_refl _) (.cells #[.int .i64 x.id, .int .i64 x.thing, .int .i64 x.rights, .int .i64 x.badge, .int .i64 x.frm] 35))
  replace bl := bl.alloc bl.size (.cells #[.int .i64 x.id, .int .i64 x.thing, .int .i64 x.rights, .int .i64 x.badge, .int .i64 x.frm] 35)
  have BX := Bx.new w3 [.int .i64 x.id, .int .i64 x.thing, .int .i64 x.rights, .int .i64 x.badge, .int .i64 x.frm] 35
  have hcon := act_give a0 a1 a2 a3 c0 c1 c2 c3 g h s u t rights badge _ hat hI
  rw [l0, l1, l2, l3, l4, l5] at hcon
  have cR0 := (BR.2 0 _ rfl).1
  have cR1 := (BR.2 1 _ rfl).1
  have cR2 := (BR.2 2 _ rfl).1
  have cR3 := (BR.2 3 _ rfl).1
  have cR4 := (BR.2 4 _ rfl).1
  have cR5 := (BR.2 5 _ rfl).1
  have zR := BR.1
  have cP0 := (BP.2 0 _ rfl).1
  have cP1 := (BP.2 1 _ rfl).1
  have zP := BP.1
  have cQ0 := (BQ.2 0 _ rfl).1
  have cQ1 := (BQ.2 1 _ rfl).1
  have zQ := BQ.1
  go_wp2_with fail
  refine hcon.mono ?_
  rintro e w4 ⟨b0, b1, b2, b3, m0, m1, m2, m3, e0, e1, e2, e3, mm, nn, ev, rfl, hA, hb4⟩
  clear cR0 cR1 cR2 cR3 cR4 cR5 zR cP0 cP1 zP cQ0 cQ1 zQ hcon
  clear yP yQ yR
  replace BP := BP.below hb4
  replace BQ := BQ.below hb4
  replace BR := BR.below hb4
  replace BX := BX.below hb4
  replace hat := hat.below hb4
  replace bl := Below_after bl hb4
  have yP := BP.1
  have yQ := BQ.1
  have yR := BR.1
  have yX := BX.1
  obtain ⟨-, rfl, rfl, rfl, rfl, rfl, rfl, rfl, rfl, rfl, rfl, rfl, rfl, rfl, rfl, rfl⟩ := hA.resolve_left (fun h => hc h.1)
  replace BP := BP.alloc (.cells #[.slice none 0 0, .slice none 0 0, .slice none 0 0, .slice none 0 0, .int .i64 0, .int .i64 0] 31)
  replace BQ := BQ.alloc (.cells #[.slice none 0 0, .slice none 0 0, .slice none 0 0, .slice none 0 0, .int .i64 0, .int .i64 0] 31)
  replace BR := BR.alloc (.cells #[.slice none 0 0, .slice none 0 0, .slice none 0 0, .slice none 0 0, .int .i64 0, .int .i64 0] 31)
  replace BX := BX.alloc (.cells #[.slice none 0 0, .slice none 0 0, .slice none 0 0, .slice none 0 0, .int .i64 0, .int .i64 0] 31)
  replace hat := hat.below ((Below.refl _ _).alloc (Nat.le_refl _) (.cells #[.slice none 0 0, .slice none 0 0, .slice none 0 0, .slice none 0 0, .int .i64 0, .int .i64 0] 31))
  replace bl := bl.alloc bl.size (.cells #[.slice none 0 0, .slice none 0 0, .slice none 0 0, .slice none 0 0, .int .i64 0, .int .i64 0] 31)
  have BY := Bx.new w4 [.slice none 0 0, .slice none 0 0, .slice none 0 0, .slice none 0 0, .int .i64 0, .int .i64 0] 31
  go_wp2_with fail
  go_ret
  exact ⟨rfl, bl⟩
set_option maxHeartbeats 2000000 in
set_option maxRecDepth 100000 in
theorem tgrant_ok (a : Option Addr) (c : Nat) (l : List Ac) (h s u t rights badge : Int) (w : World) (hw : AcsAt w a l) (hm : l.length ≤ maxLen) (hq : lacB l 80 = true) (hc : giveC (growR l) h s u t rights badge = 0) :
    Calls Try.prog 3 #[.slice a l.length c, .agg #[.int .i64 h, .int .i64 s], .agg #[.int .i64 u, .int .i64 t], .int .i64 rights, .int .i64 badge] w fun e w' => e = .returned (.bool true) ∧ Below w.heap.size w w' := by
  have BP := Bx.new w [.int .i64 h, .int .i64 s] 24
  replace BP := BP.alloc (.cells #[.int .i64 u, .int .i64 t] 24)
  have BQ := Bx.new (w.alloc (.cells #[.int .i64 h, .int .i64 s] 24)) [.int .i64 u, .int .i64 t] 24
  rw [sz_alloc] at BQ
  have bl := ((Below.refl w.heap.size w).alloc (by first | exact Nat.le_refl _ | (simp <;> omega)) (.cells #[.int .i64 h, .int .i64 s] 24)).alloc (by first | exact Nat.le_refl _ | (simp <;> omega)) (.cells #[.int .i64 u, .int .i64 t] 24)
  have hlen := lac_len hq
  have hi := inv_grow l l.length (by omega)
  rw [List.take_length] at hi
  have hI : RmI (growR l) := ⟨hi.sz (by omega), hi.put, hi.wf⟩
  have hW := whole_grow l
  have hk : InvK 80 (growR l) := hi.mono (by omega)
  clear hi
  go_enter Try.func3, Try.ntmps3
  have hcon := made_any ((w.alloc (.cells #[.int .i64 h, .int .i64 s] 24)).alloc (.cells #[.int .i64 u, .int .i64 t] 24))
  go_wp2_with fail
  refine hcon.mono ?_
  rintro e w1 ⟨rfl, hb1⟩
  clear hcon
  replace BP := BP.below hb1
  replace BQ := BQ.below hb1
  replace bl := Below_after bl hb1
  have yP := BP.1
  have yQ := BQ.1
  have hg := grown_yes a c l w1 (hw.below bl) hm hq
  generalize growR l = g at hg hI hW hk hc
  clear hq hw hm hlen
  have hcon := hg
  clear hg
  go_wp2_with fail
  refine hcon.mono ?_
  rintro e w2 ⟨a0, a1, a2, a3, N0, N1, N2, N3, c0, c1, c2, c3, M, N, rfl, ⟨l0, l1, l2, l3, l4, l5⟩, hat, -, hb2⟩
  clear hcon
  clear yP yQ
  replace BP := BP.below hb2
  replace BQ := BQ.below hb2
  replace bl := Below_after bl hb2
  have yP := BP.1
  have yQ := BQ.1
  replace BP := BP.alloc (.cells #[.slice a0 N0 c0, .slice a1 N1 c1, .slice a2 N2 c2, .slice a3 N3 c3, .int .i64 M, .int .i64 N] 31)
  replace BQ := BQ.alloc (.cells #[.slice a0 N0 c0, .slice a1 N1 c1, .slice a2 N2 c2, .slice a3 N3 c3, .int .i64 M, .int .i64 N] 31)
  replace hat := hat.below ((Below.refl _ _).alloc (Nat.le_refl _) (.cells #[.slice a0 N0 c0, .slice a1 N1 c1, .slice a2 N2 c2, .slice a3 N3 c3, .int .i64 M, .int .i64 N] 31))
  replace bl := bl.alloc bl.size (.cells #[.slice a0 N0 c0, .slice a1 N1 c1, .slice a2 N2 c2, .slice a3 N3 c3, .int .i64 M, .int .i64 N] 31)
  have BR := Bx.new w2 [.slice a0 N0 c0, .slice a1 N1 c1, .slice a2 N2 c2, .slice a3 N3 c3, .int .i64 M, .int .i64 N] 31
  obtain ⟨t1, t2, t3, t4, t5, t6⟩ := top_grant hW hc
  have hkm := inv_give hk hc
  have hIm := rmI_of hkm (by omega)
  have hcon := get_ok a0 a1 a2 a3 c0 c1 c2 c3 g h s _ hat hI.sz t1
  rw [l0, l1, l2, l3, l4, l5] at hcon
  have cR0 := (BR.2 0 _ rfl).1
  have cR1 := (BR.2 1 _ rfl).1
  have cR2 := (BR.2 2 _ rfl).1
  have cR3 := (BR.2 3 _ rfl).1
  have cR4 := (BR.2 4 _ rfl).1
  have cR5 := (BR.2 5 _ rfl).1
  have zR := BR.1
  have cP0 := (BP.2 0 _ rfl).1
  have cP1 := (BP.2 1 _ rfl).1
  have zP := BP.1
  go_wp2_with fail
  refine hcon.mono ?_
  rintro e w3 ⟨rfl, hb3⟩
  clear cR0 cR1 cR2 cR3 cR4 cR5 zR cP0 cP1 zP hcon
  clear yP yQ
  replace BP := BP.below hb3
  replace BQ := BQ.below hb3
  replace BR := BR.below hb3
  replace hat := hat.below hb3
  replace bl := Below_after bl hb3
  have yP := BP.1
  have yQ := BQ.1
  have yR := BR.1
  replace BP := BP.alloc (.cells #[.int .i64 (getW g h s).id, .int .i64 (getW g h s).thing, .int .i64 (getW g h s).rights, .int .i64 (getW g h s).badge, .int .i64 (getW g h s).frm] 35)
  replace BQ := BQ.alloc (.cells #[.int .i64 (getW g h s).id, .int .i64 (getW g h s).thing, .int .i64 (getW g h s).rights, .int .i64 (getW g h s).badge, .int .i64 (getW g h s).frm] 35)
  replace BR := BR.alloc (.cells #[.int .i64 (getW g h s).id, .int .i64 (getW g h s).thing, .int .i64 (getW g h s).rights, .int .i64 (getW g h s).badge, .int .i64 (getW g h s).frm] 35)
  replace hat := hat.below ((Below.refl _ _).alloc (Nat.le_refl _) (.cells #[.int .i64 (getW g h s).id, .int .i64 (getW g h s).thing, .int .i64 (getW g h s).rights, .int .i64 (getW g h s).badge, .int .i64 (getW g h s).frm] 35))
  replace bl := bl.alloc bl.size (.cells #[.int .i64 (getW g h s).id, .int .i64 (getW g h s).thing, .int .i64 (getW g h s).rights, .int .i64 (getW g h s).badge, .int .i64 (getW g h s).frm] 35)
  have BX := Bx.new w3 [.int .i64 (getW g h s).id, .int .i64 (getW g h s).thing, .int .i64 (getW g h s).rights, .int .i64 (getW g h s).badge, .int .i64 (getW g h s).frm] 35
  have hcon := act_give a0 a1 a2 a3 c0 c1 c2 c3 g h s u t rights badge _ hat hI
  rw [l0, l1, l2, l3, l4, l5] at hcon
  have cR0 := (BR.2 0 _ rfl).1
  have cR1 := (BR.2 1 _ rfl).1
  have cR2 := (BR.2 2 _ rfl).1
  have cR3 := (BR.2 3 _ rfl).1
  have cR4 := (BR.2 4 _ rfl).1
  have cR5 := (BR.2 5 _ rfl).1
  have zR := BR.1
  have cP0 := (BP.2 0 _ rfl).1
  have cP1 := (BP.2 1 _ rfl).1
  have zP := BP.1
  have cQ0 := (BQ.2 0 _ rfl).1
  have cQ1 := (BQ.2 1 _ rfl).1
  have zQ := BQ.1
  go_wp2_with fail
  refine hcon.mono ?_
  rintro e w4 ⟨b0, b1, b2, b3, m0, m1, m2, m3, e0, e1, e2, e3, mm, nn, ev, rfl, hA, hb4⟩
  clear cR0 cR1 cR2 cR3 cR4 cR5 zR cP0 cP1 zP cQ0 cQ1 zQ hcon
  clear yP yQ yR
  replace BP := BP.below hb4
  replace BQ := BQ.below hb4
  replace BR := BR.below hb4
  replace BX := BX.below hb4
  replace hat := hat.below hb4
  replace bl := Below_after bl hb4
  have yP := BP.1
  have yQ := BQ.1
  have yR := BR.1
  have yX := BX.1
  obtain ⟨-, rfl, rfl, rfl, rfl, rfl, rfl, rfl, hat2, -⟩ := hA.resolve_right (fun h => h.1 hc)
  generalize giveR g h s u t rights badge = d at *
  generalize hxe : getW g h s = x at *
  have hbd : (drvW x g.nw rights badge).id = M ∧ (drvW x g.nw rights badge).rights = rights ∧ (drvW x g.nw rights badge).frm = x.id := ⟨l4, rfl, rfl⟩
  replace BP := BP.alloc (.cells #[.slice b0 d.ws.length e0, .slice b1 d.ts.length e1, .slice b2 d.hs.length e2, .slice b3 d.ns.length e3, .int .i64 d.nw, .int .i64 d.nt] 31)
  replace BQ := BQ.alloc (.cells #[.slice b0 d.ws.length e0, .slice b1 d.ts.length e1, .slice b2 d.hs.length e2, .slice b3 d.ns.length e3, .int .i64 d.nw, .int .i64 d.nt] 31)
  replace BR := BR.alloc (.cells #[.slice b0 d.ws.length e0, .slice b1 d.ts.length e1, .slice b2 d.hs.length e2, .slice b3 d.ns.length e3, .int .i64 d.nw, .int .i64 d.nt] 31)
  replace BX := BX.alloc (.cells #[.slice b0 d.ws.length e0, .slice b1 d.ts.length e1, .slice b2 d.hs.length e2, .slice b3 d.ns.length e3, .int .i64 d.nw, .int .i64 d.nt] 31)
  replace hat := hat.below ((Below.refl _ _).alloc (Nat.le_refl _) (.cells #[.slice b0 d.ws.length e0, .slice b1 d.ts.length e1, .slice b2 d.hs.length e2, .slice b3 d.ns.length e3, .int .i64 d.nw, .int .i64 d.nt] 31))
  replace hat2 := hat2.below ((Below.refl _ _).alloc (Nat.le_refl _) (.cells #[.slice b0 d.ws.length e0, .slice b1 d.ts.length e1, .slice b2 d.hs.length e2, .slice b3 d.ns.length e3, .int .i64 d.nw, .int .i64 d.nt] 31))
  replace bl := bl.alloc bl.size (.cells #[.slice b0 d.ws.length e0, .slice b1 d.ts.length e1, .slice b2 d.hs.length e2, .slice b3 d.ns.length e3, .int .i64 d.nw, .int .i64 d.nt] 31)
  have BY := Bx.new w4 [.slice b0 d.ws.length e0, .slice b1 d.ts.length e1, .slice b2 d.hs.length e2, .slice b3 d.ns.length e3, .int .i64 d.nw, .int .i64 d.nt] 31
  have hgo := get_ok b0 b1 b2 b3 e0 e1 e2 e3 d u t _ hat2 hIm.sz t2
  rw [t3, hbd.1, hbd.2.1, hbd.2.2] at hgo
  clear hbd
  rw [l4] at t6
  generalize (drvW x g.nw rights badge).thing = vt at hgo
  generalize (drvW x g.nw rights badge).badge = vb at hgo
  clear t3 hat hc hW hk hI hxe
  have hcon := hgo
  have cY0 := (BY.2 0 _ rfl).1
  have cY1 := (BY.2 1 _ rfl).1
  have cY2 := (BY.2 2 _ rfl).1
  have cY3 := (BY.2 3 _ rfl).1
  have cY4 := (BY.2 4 _ rfl).1
  have cY5 := (BY.2 5 _ rfl).1
  have zY := BY.1
  have cQ0 := (BQ.2 0 _ rfl).1
  have cQ1 := (BQ.2 1 _ rfl).1
  have zQ := BQ.1
  go_wp2_with fail
  refine hcon.mono ?_
  rintro e w5 ⟨rfl, hb5⟩
  clear cY0 cY1 cY2 cY3 cY4 cY5 zY cQ0 cQ1 zQ hcon
  clear yP yQ yR yX
  replace BP := BP.below hb5
  replace BQ := BQ.below hb5
  replace BR := BR.below hb5
  replace BX := BX.below hb5
  replace BY := BY.below hb5
  replace hat2 := hat2.below hb5
  replace bl := Below_after bl hb5
  have yP := BP.1
  have yQ := BQ.1
  have yR := BR.1
  have yX := BX.1
  have yY := BY.1
  replace BP := BP.alloc (.cells #[.int .i64 M, .int .i64 vt, .int .i64 rights, .int .i64 vb, .int .i64 x.id] 35)
  replace BQ := BQ.alloc (.cells #[.int .i64 M, .int .i64 vt, .int .i64 rights, .int .i64 vb, .int .i64 x.id] 35)
  replace BR := BR.alloc (.cells #[.int .i64 M, .int .i64 vt, .int .i64 rights, .int .i64 vb, .int .i64 x.id] 35)
  replace BX := BX.alloc (.cells #[.int .i64 M, .int .i64 vt, .int .i64 rights, .int .i64 vb, .int .i64 x.id] 35)
  replace BY := BY.alloc (.cells #[.int .i64 M, .int .i64 vt, .int .i64 rights, .int .i64 vb, .int .i64 x.id] 35)
  replace hat2 := hat2.below ((Below.refl _ _).alloc (Nat.le_refl _) (.cells #[.int .i64 M, .int .i64 vt, .int .i64 rights, .int .i64 vb, .int .i64 x.id] 35))
  replace bl := bl.alloc bl.size (.cells #[.int .i64 M, .int .i64 vt, .int .i64 rights, .int .i64 vb, .int .i64 x.id] 35)
  have BV := Bx.new w5 [.int .i64 M, .int .i64 vt, .int .i64 rights, .int .i64 vb, .int .i64 x.id] 35
  clear hgo
  have hsw := hIm.sz.w
  have hwf := hIm.wf
  have cX0 := (BX.2 0 _ rfl).1
  have cX1 := (BX.2 1 _ rfl).1
  have cX2 := (BX.2 2 _ rfl).1
  have cX3 := (BX.2 3 _ rfl).1
  have cX4 := (BX.2 4 _ rfl).1
  have zX := BX.1
  have cV0 := (BV.2 0 _ rfl).1
  have cV1 := (BV.2 1 _ rfl).1
  have cV2 := (BV.2 2 _ rfl).1
  have cV3 := (BV.2 3 _ rfl).1
  have cV4 := (BV.2 4 _ rfl).1
  have zV := BV.1
  have cP0 := (BP.2 0 _ rfl).1
  have cP1 := (BP.2 1 _ rfl).1
  have zP := BP.1
  have cQ0 := (BQ.2 0 _ rfl).1
  have cQ1 := (BQ.2 1 _ rfl).1
  have zQ := BQ.1
  have cY0 := (BY.2 0 _ rfl).1
  have cY1 := (BY.2 1 _ rfl).1
  have cY2 := (BY.2 2 _ rfl).1
  have cY3 := (BY.2 3 _ rfl).1
  have cY4 := (BY.2 4 _ rfl).1
  have cY5 := (BY.2 5 _ rfl).1
  have zY := BY.1
  have hd : (h == u) = true ∨ (h == u) = false ∧ hasB x.rights 4 = true := by
    by_cases e : h = u
    · exact .inl (by simp [e])
    · exact .inr ⟨by simp [e], t5.resolve_left e⟩
  clear t5
  go_wp2_with fail
  generalize (w5.alloc (.cells #[.int .i64 M, .int .i64 vt, .int .i64 rights, .int .i64 vb, .int .i64 x.id] 35)) = vv at *
  have hc1 := fun W : World => has_any x.rights rights W
  simp only [t4] at hc1
  have hbn := fun (W : World) (h : Below vv.heap.size vv W) => beneath_any b0 e0 d.ws x.id W (hat2.w.below h) hsw hwf
  have hbl := beneathLen d.ws x.id
  generalize beneathL d.ws x.id = Z at *
  rcases hd with hd | ⟨hd, hd4⟩
  · have mk : ∀ w' : World, Below vv.heap.size vv w' → Below vv.heap.size vv w' ∧ w'.cell? ⟨w3.heap.size, 0, none⟩ = some (.int .i64 x.id) ∧ w'.cell? ⟨w3.heap.size, 2, none⟩ = some (.int .i64 x.rights) ∧ w'.cell? ⟨w5.heap.size, 0, none⟩ = some (.int .i64 M) ∧ w'.cell? ⟨w5.heap.size, 2, none⟩ = some (.int .i64 rights) ∧ w'.cell? ⟨w5.heap.size, 4, none⟩ = some (.int .i64 x.id) ∧ w'.cell? ⟨w.heap.size, 0, none⟩ = some (.int .i64 h) ∧ w'.cell? ⟨w.heap.size + 1, 0, none⟩ = some (.int .i64 u) ∧ w'.cell? ⟨w4.heap.size, 0, none⟩ = some (.slice b0 d.ws.length e0) := fun w' h => ⟨h, by rw [(bcell h).1 _ _ zX]; exact cX0, by rw [(bcell h).1 _ _ zX]; exact cX2, by rw [(bcell h).1 _ _ zV]; exact cV0, by rw [(bcell h).1 _ _ zV]; exact cV2, by rw [(bcell h).1 _ _ zV]; exact cV4, by rw [(bcell h).1 _ _ zP]; exact cP0, by rw [(bcell h).1 _ _ zQ]; exact cQ0, by rw [(bcell h).1 _ _ zY]; exact cY0⟩
    have hB0 : Below vv.heap.size vv vv.drew := below_drewN (Below.refl _ _) 1
    refine wp_region_held_drew (S := fun w' => Below vv.heap.size vv w' ∧ w'.cell? ⟨w3.heap.size, 0, none⟩ = some (.int .i64 x.id) ∧ w'.cell? ⟨w3.heap.size, 2, none⟩ = some (.int .i64 x.rights) ∧ w'.cell? ⟨w5.heap.size, 0, none⟩ = some (.int .i64 M) ∧ w'.cell? ⟨w5.heap.size, 2, none⟩ = some (.int .i64 rights) ∧ w'.cell? ⟨w5.heap.size, 4, none⟩ = some (.int .i64 x.id) ∧ w'.cell? ⟨w.heap.size, 0, none⟩ = some (.int .i64 h) ∧ w'.cell? ⟨w.heap.size + 1, 0, none⟩ = some (.int .i64 u) ∧ w'.cell? ⟨w4.heap.size, 0, none⟩ = some (.slice b0 d.ws.length e0)) (by kernel_rfl) ?_ (fun hHeld => ?_)
    · exact mk _ hB0
    refine wpAnyH_take (i := 0) (oi := ({ dst := some 52, op := Op.move (Operand.tmp 14), type := 37, pos := "parts.go:412", after := #[], guard := none } : Oper)) (v := .nilIface) rfl (by kernel_rfl) (by kernel_rfl) (by kernel_rfl) (fun _ _ _ h => h) (Or.inl ⟨by rfl, ?_⟩) (by assumption) ?_
    · intro w hSw; (try dsimp only at hSw); go_simp
    (try simp only [Act.put, List.setIfInBounds_toArray, List.set_cons_zero, List.set_cons_succ])
    refine wpAnyH_take (i := 1) (oi := ({ dst := some 53, op := Op.binOp BinOp.eql 37 (Operand.tmp 52) (Operand.const Value.nilIface) 37, type := 4, pos := "parts.go:412", after := #[{ on := 0, ground := Ground.data }], guard := none } : Oper)) (v := .bool true) rfl (by kernel_rfl) (by kernel_rfl) (by kernel_rfl) (fun _ _ _ h => h) (Or.inl ⟨by rfl, ?_⟩) (by assumption) ?_
    · intro w hSw; (try dsimp only at hSw); go_simp
    (try simp only [Act.put, List.setIfInBounds_toArray, List.set_cons_zero, List.set_cons_succ])
    refine wpAnyH_take (i := 2) (oi := ({ dst := some 54, op := Op.move (Operand.tmp 53), type := 4, pos := "parts.go:412", after := #[{ on := 1, ground := Ground.data }], guard := none } : Oper)) (v := .bool true) rfl (by kernel_rfl) (by kernel_rfl) (by kernel_rfl) (fun _ _ _ h => h) (Or.inl ⟨by rfl, ?_⟩) (by assumption) ?_
    · intro w hSw; (try dsimp only at hSw); go_simp
    (try simp only [Act.put, List.setIfInBounds_toArray, List.set_cons_zero, List.set_cons_succ])
    refine wpAnyH_take (i := 3) (oi := ({ dst := some 55, op := Op.move (Operand.tmp 18), type := 37, pos := "parts.go:412", after := #[{ on := 2, ground := Ground.guard }], guard := some (2, true) } : Oper)) (v := .nilIface) rfl (by kernel_rfl) (by kernel_rfl) (by kernel_rfl) (fun _ _ _ h => h) (Or.inl ⟨by rfl, ?_⟩) (by assumption) ?_
    · intro w hSw; (try dsimp only at hSw); go_simp
    (try simp only [Act.put, List.setIfInBounds_toArray, List.set_cons_zero, List.set_cons_succ])
    refine wpAnyH_take (i := 4) (oi := ({ dst := some 56, op := Op.binOp BinOp.eql 37 (Operand.tmp 55) (Operand.const Value.nilIface) 37, type := 4, pos := "parts.go:412", after := #[{ on := 3, ground := Ground.data }, { on := 2, ground := Ground.guard }], guard := some (2, true) } : Oper)) (v := .bool true) rfl (by kernel_rfl) (by kernel_rfl) (by kernel_rfl) (fun _ _ _ h => h) (Or.inl ⟨by rfl, ?_⟩) (by assumption) ?_
    · intro w hSw; (try dsimp only at hSw); go_simp
    (try simp only [Act.put, List.setIfInBounds_toArray, List.set_cons_zero, List.set_cons_succ])
    refine wpAnyH_take (i := 5) (oi := ({ dst := some 57, op := Op.pick (Operand.tmp 54) (Operand.tmp 56) (Operand.const (Value.bool false)), type := 4, pos := "parts.go:412", after := #[{ on := 2, ground := Ground.data }, { on := 4, ground := Ground.data }], guard := none } : Oper)) (v := .bool true) rfl (by kernel_rfl) (by kernel_rfl) (by kernel_rfl) (fun _ _ _ h => h) (Or.inl ⟨by rfl, ?_⟩) (by assumption) ?_
    · intro w hSw; (try dsimp only at hSw); go_simp
    (try simp only [Act.put, List.setIfInBounds_toArray, List.set_cons_zero, List.set_cons_succ])
    refine wpAnyH_take (i := 6) (oi := ({ dst := some 58, op := Op.move (Operand.tmp 57), type := 4, pos := "parts.go:412", after := #[{ on := 5, ground := Ground.data }, { on := 2, ground := Ground.chain }], guard := none } : Oper)) (v := .bool true) rfl (by kernel_rfl) (by kernel_rfl) (by kernel_rfl) (fun _ _ _ h => h) (Or.inl ⟨by rfl, ?_⟩) (by assumption) ?_
    · intro w hSw; (try dsimp only at hSw); go_simp
    (try simp only [Act.put, List.setIfInBounds_toArray, List.set_cons_zero, List.set_cons_succ])
    refine wpAnyH_take (i := 7) (oi := ({ dst := some 59, op := Op.fieldAddr 35 (Operand.tmp 13) 2, type := 0, pos := "parts.go:412", after := #[{ on := 6, ground := Ground.guard }], guard := some (6, true) } : Oper)) (v := .pointer (some ⟨w3.heap.size, 2, none⟩)) rfl (by kernel_rfl) (by kernel_rfl) (by kernel_rfl) (fun _ _ _ h => h) (Or.inl ⟨by rfl, ?_⟩) (by assumption) ?_
    · intro w hSw; (try dsimp only at hSw); go_simp
    (try simp only [Act.put, List.setIfInBounds_toArray, List.set_cons_zero, List.set_cons_succ])
    refine wpAnyH_take (i := 8) (oi := ({ dst := some 60, op := Op.load 3 (Operand.tmp 59), type := 3, pos := "parts.go:412", after := #[{ on := 7, ground := Ground.data }, { on := 6, ground := Ground.guard }], guard := some (6, true) } : Oper)) (v := .int .i64 x.rights) rfl (by kernel_rfl) (by kernel_rfl) (by kernel_rfl) (fun _ _ _ h => h) (Or.inl ⟨by rfl, ?_⟩) (by assumption) ?_
    · intro w hSw; (try dsimp only at hSw); go_simp
    (try simp only [Act.put, List.setIfInBounds_toArray, List.set_cons_zero, List.set_cons_succ])
    refine wpAnyH_take (i := 9) (oi := ({ dst := some 61, op := Op.fieldAddr 35 (Operand.tmp 17) 2, type := 0, pos := "parts.go:412", after := #[{ on := 6, ground := Ground.guard }], guard := some (6, true) } : Oper)) (v := .pointer (some ⟨w5.heap.size, 2, none⟩)) rfl (by kernel_rfl) (by kernel_rfl) (by kernel_rfl) (fun _ _ _ h => h) (Or.inl ⟨by rfl, ?_⟩) (by assumption) ?_
    · intro w hSw; (try dsimp only at hSw); go_simp
    (try simp only [Act.put, List.setIfInBounds_toArray, List.set_cons_zero, List.set_cons_succ])
    refine wpAnyH_take (i := 10) (oi := ({ dst := some 62, op := Op.load 3 (Operand.tmp 61), type := 3, pos := "parts.go:412", after := #[{ on := 9, ground := Ground.data }, { on := 6, ground := Ground.guard }], guard := some (6, true) } : Oper)) (v := .int .i64 rights) rfl (by kernel_rfl) (by kernel_rfl) (by kernel_rfl) (fun _ _ _ h => h) (Or.inl ⟨by rfl, ?_⟩) (by assumption) ?_
    · intro w hSw; (try dsimp only at hSw); go_simp
    (try simp only [Act.put, List.setIfInBounds_toArray, List.set_cons_zero, List.set_cons_succ])
    refine wpAnyH_ready (rs := [11]) (by kernel_rfl) (by simp) ?_
    refine AllReadyH.cons (o := ({ dst := some 63, op := Op.call { callee := Callee.value (Operand.func 12), args := #[Operand.tmp 60, Operand.tmp 62], argTypes := #[3, 3] }, type := 4, pos := "parts.go:412", after := #[{ on := 8, ground := Ground.data }, { on := 10, ground := Ground.data }, { on := 6, ground := Ground.chain }, { on := 6, ground := Ground.guard }], guard := some (6, true) } : Oper)) rfl (fun K hK => ?_) AllReadyH.nil
    rw [if_pos (by rfl)]
    go_wp2_with (first | (go_at_call 12; refine (hc1 _).mono ?_; rintro e w' ⟨rfl, rfl⟩))
    refine hK.out _ _ ?_ (fun hHeld => ?_)
    · exact mk _ hB0
    clear hK K
    (try simp only [Act.put, List.setIfInBounds_toArray, List.set_cons_zero, List.set_cons_succ])
    refine wpAnyH_take (i := 12) (oi := ({ dst := some 64, op := Op.pick (Operand.tmp 58) (Operand.tmp 63) (Operand.const (Value.bool false)), type := 4, pos := "parts.go:412", after := #[{ on := 6, ground := Ground.data }, { on := 11, ground := Ground.data }], guard := none } : Oper)) (v := .bool true) rfl (by kernel_rfl) (by kernel_rfl) (by kernel_rfl) (fun _ _ _ h => h) (Or.inl ⟨by rfl, ?_⟩) (by assumption) ?_
    · intro w hSw; (try dsimp only at hSw); go_simp
    (try simp only [Act.put, List.setIfInBounds_toArray, List.set_cons_zero, List.set_cons_succ])
    refine wpAnyH_take (i := 13) (oi := ({ dst := some 65, op := Op.move (Operand.tmp 64), type := 4, pos := "parts.go:412", after := #[{ on := 12, ground := Ground.data }, { on := 11, ground := Ground.chain }], guard := none } : Oper)) (v := .bool true) rfl (by kernel_rfl) (by kernel_rfl) (by kernel_rfl) (fun _ _ _ h => h) (Or.inl ⟨by rfl, ?_⟩) (by assumption) ?_
    · intro w hSw; (try dsimp only at hSw); go_simp
    (try simp only [Act.put, List.setIfInBounds_toArray, List.set_cons_zero, List.set_cons_succ])
    refine wpAnyH_take (i := 14) (oi := ({ dst := some 66, op := Op.fieldAddr 35 (Operand.tmp 17) 2, type := 0, pos := "parts.go:412", after := #[{ on := 13, ground := Ground.guard }], guard := some (13, true) } : Oper)) (v := .pointer (some ⟨w5.heap.size, 2, none⟩)) rfl (by kernel_rfl) (by kernel_rfl) (by kernel_rfl) (fun _ _ _ h => h) (Or.inl ⟨by rfl, ?_⟩) (by assumption) ?_
    · intro w hSw; (try dsimp only at hSw); go_simp
    (try simp only [Act.put, List.setIfInBounds_toArray, List.set_cons_zero, List.set_cons_succ])
    refine wpAnyH_take (i := 15) (oi := ({ dst := some 67, op := Op.load 3 (Operand.tmp 66), type := 3, pos := "parts.go:412", after := #[{ on := 14, ground := Ground.data }, { on := 13, ground := Ground.guard }], guard := some (13, true) } : Oper)) (v := .int .i64 rights) rfl (by kernel_rfl) (by kernel_rfl) (by kernel_rfl) (fun _ _ _ h => h) (Or.inl ⟨by rfl, ?_⟩) (by assumption) ?_
    · intro w hSw; (try dsimp only at hSw); go_simp
    (try simp only [Act.put, List.setIfInBounds_toArray, List.set_cons_zero, List.set_cons_succ])
    refine wpAnyH_take (i := 16) (oi := ({ dst := some 68, op := Op.move (Operand.tmp 3), type := 3, pos := "parts.go:412", after := #[{ on := 13, ground := Ground.guard }], guard := some (13, true) } : Oper)) (v := .int .i64 rights) rfl (by kernel_rfl) (by kernel_rfl) (by kernel_rfl) (fun _ _ _ h => h) (Or.inl ⟨by rfl, ?_⟩) (by assumption) ?_
    · intro w hSw; (try dsimp only at hSw); go_simp
    (try simp only [Act.put, List.setIfInBounds_toArray, List.set_cons_zero, List.set_cons_succ])
    refine wpAnyH_take (i := 17) (oi := ({ dst := some 69, op := Op.binOp BinOp.eql 3 (Operand.tmp 67) (Operand.tmp 68) 3, type := 4, pos := "parts.go:412", after := #[{ on := 15, ground := Ground.data }, { on := 16, ground := Ground.data }, { on := 13, ground := Ground.guard }], guard := some (13, true) } : Oper)) (v := .bool true) rfl (by kernel_rfl) (by kernel_rfl) (by kernel_rfl) (fun _ _ _ h => h) (Or.inl ⟨by rfl, ?_⟩) (by assumption) ?_
    · intro w hSw; (try dsimp only at hSw); go_simp
    (try simp only [Act.put, List.setIfInBounds_toArray, List.set_cons_zero, List.set_cons_succ])
    refine wpAnyH_take (i := 18) (oi := ({ dst := some 70, op := Op.pick (Operand.tmp 65) (Operand.tmp 69) (Operand.const (Value.bool false)), type := 4, pos := "parts.go:412", after := #[{ on := 13, ground := Ground.data }, { on := 17, ground := Ground.data }], guard := none } : Oper)) (v := .bool true) rfl (by kernel_rfl) (by kernel_rfl) (by kernel_rfl) (fun _ _ _ h => h) (Or.inl ⟨by rfl, ?_⟩) (by assumption) ?_
    · intro w hSw; (try dsimp only at hSw); go_simp
    (try simp only [Act.put, List.setIfInBounds_toArray, List.set_cons_zero, List.set_cons_succ])
    refine wpAnyH_take (i := 19) (oi := ({ dst := some 71, op := Op.move (Operand.tmp 70), type := 4, pos := "parts.go:412", after := #[{ on := 18, ground := Ground.data }, { on := 13, ground := Ground.chain }], guard := none } : Oper)) (v := .bool true) rfl (by kernel_rfl) (by kernel_rfl) (by kernel_rfl) (fun _ _ _ h => h) (Or.inl ⟨by rfl, ?_⟩) (by assumption) ?_
    · intro w hSw; (try dsimp only at hSw); go_simp
    (try simp only [Act.put, List.setIfInBounds_toArray, List.set_cons_zero, List.set_cons_succ])
    refine wpAnyH_take (i := 20) (oi := ({ dst := some 72, op := Op.fieldAddr 35 (Operand.tmp 17) 4, type := 0, pos := "parts.go:412", after := #[{ on := 19, ground := Ground.guard }], guard := some (19, true) } : Oper)) (v := .pointer (some ⟨w5.heap.size, 4, none⟩)) rfl (by kernel_rfl) (by kernel_rfl) (by kernel_rfl) (fun _ _ _ h => h) (Or.inl ⟨by rfl, ?_⟩) (by assumption) ?_
    · intro w hSw; (try dsimp only at hSw); go_simp
    (try simp only [Act.put, List.setIfInBounds_toArray, List.set_cons_zero, List.set_cons_succ])
    refine wpAnyH_take (i := 21) (oi := ({ dst := some 73, op := Op.load 3 (Operand.tmp 72), type := 3, pos := "parts.go:412", after := #[{ on := 20, ground := Ground.data }, { on := 19, ground := Ground.guard }], guard := some (19, true) } : Oper)) (v := .int .i64 x.id) rfl (by kernel_rfl) (by kernel_rfl) (by kernel_rfl) (fun _ _ _ h => h) (Or.inl ⟨by rfl, ?_⟩) (by assumption) ?_
    · intro w hSw; (try dsimp only at hSw); go_simp
    (try simp only [Act.put, List.setIfInBounds_toArray, List.set_cons_zero, List.set_cons_succ])
    refine wpAnyH_take (i := 22) (oi := ({ dst := some 74, op := Op.fieldAddr 35 (Operand.tmp 13) 0, type := 0, pos := "parts.go:412", after := #[{ on := 19, ground := Ground.guard }], guard := some (19, true) } : Oper)) (v := .pointer (some ⟨w3.heap.size, 0, none⟩)) rfl (by kernel_rfl) (by kernel_rfl) (by kernel_rfl) (fun _ _ _ h => h) (Or.inl ⟨by rfl, ?_⟩) (by assumption) ?_
    · intro w hSw; (try dsimp only at hSw); go_simp
    (try simp only [Act.put, List.setIfInBounds_toArray, List.set_cons_zero, List.set_cons_succ])
    refine wpAnyH_take (i := 23) (oi := ({ dst := some 75, op := Op.load 3 (Operand.tmp 74), type := 3, pos := "parts.go:412", after := #[{ on := 22, ground := Ground.data }, { on := 19, ground := Ground.guard }], guard := some (19, true) } : Oper)) (v := .int .i64 x.id) rfl (by kernel_rfl) (by kernel_rfl) (by kernel_rfl) (fun _ _ _ h => h) (Or.inl ⟨by rfl, ?_⟩) (by assumption) ?_
    · intro w hSw; (try dsimp only at hSw); go_simp
    (try simp only [Act.put, List.setIfInBounds_toArray, List.set_cons_zero, List.set_cons_succ])
    refine wpAnyH_take (i := 24) (oi := ({ dst := some 76, op := Op.binOp BinOp.eql 3 (Operand.tmp 73) (Operand.tmp 75) 3, type := 4, pos := "parts.go:412", after := #[{ on := 21, ground := Ground.data }, { on := 23, ground := Ground.data }, { on := 19, ground := Ground.guard }], guard := some (19, true) } : Oper)) (v := .bool true) rfl (by kernel_rfl) (by kernel_rfl) (by kernel_rfl) (fun _ _ _ h => h) (Or.inl ⟨by rfl, ?_⟩) (by assumption) ?_
    · intro w hSw; (try dsimp only at hSw); go_simp
    (try simp only [Act.put, List.setIfInBounds_toArray, List.set_cons_zero, List.set_cons_succ])
    refine wpAnyH_take (i := 25) (oi := ({ dst := some 77, op := Op.pick (Operand.tmp 71) (Operand.tmp 76) (Operand.const (Value.bool false)), type := 4, pos := "parts.go:412", after := #[{ on := 19, ground := Ground.data }, { on := 24, ground := Ground.data }], guard := none } : Oper)) (v := .bool true) rfl (by kernel_rfl) (by kernel_rfl) (by kernel_rfl) (fun _ _ _ h => h) (Or.inl ⟨by rfl, ?_⟩) (by assumption) ?_
    · intro w hSw; (try dsimp only at hSw); go_simp
    (try simp only [Act.put, List.setIfInBounds_toArray, List.set_cons_zero, List.set_cons_succ])
    refine wpAnyH_take (i := 26) (oi := ({ dst := some 78, op := Op.move (Operand.tmp 77), type := 4, pos := "parts.go:412", after := #[{ on := 25, ground := Ground.data }, { on := 19, ground := Ground.chain }], guard := none } : Oper)) (v := .bool true) rfl (by kernel_rfl) (by kernel_rfl) (by kernel_rfl) (fun _ _ _ h => h) (Or.inl ⟨by rfl, ?_⟩) (by assumption) ?_
    · intro w hSw; (try dsimp only at hSw); go_simp
    (try simp only [Act.put, List.setIfInBounds_toArray, List.set_cons_zero, List.set_cons_succ])
    refine wpAnyH_take (i := 27) (oi := ({ dst := some 79, op := Op.fieldAddr 24 (Operand.tmp 6) 0, type := 0, pos := "parts.go:412", after := #[{ on := 26, ground := Ground.guard }], guard := some (26, true) } : Oper)) (v := .pointer (some ⟨w.heap.size, 0, none⟩)) rfl (by kernel_rfl) (by kernel_rfl) (by kernel_rfl) (fun _ _ _ h => h) (Or.inl ⟨by rfl, ?_⟩) (by assumption) ?_
    · intro w hSw; (try dsimp only at hSw); go_simp
    (try simp only [Act.put, List.setIfInBounds_toArray, List.set_cons_zero, List.set_cons_succ])
    refine wpAnyH_take (i := 28) (oi := ({ dst := some 80, op := Op.load 3 (Operand.tmp 79), type := 3, pos := "parts.go:412", after := #[{ on := 27, ground := Ground.data }, { on := 26, ground := Ground.guard }], guard := some (26, true) } : Oper)) (v := .int .i64 h) rfl (by kernel_rfl) (by kernel_rfl) (by kernel_rfl) (fun _ _ _ h => h) (Or.inl ⟨by rfl, ?_⟩) (by assumption) ?_
    · intro w hSw; (try dsimp only at hSw); go_simp
    (try simp only [Act.put, List.setIfInBounds_toArray, List.set_cons_zero, List.set_cons_succ])
    refine wpAnyH_take (i := 29) (oi := ({ dst := some 81, op := Op.fieldAddr 24 (Operand.tmp 7) 0, type := 0, pos := "parts.go:412", after := #[{ on := 26, ground := Ground.guard }], guard := some (26, true) } : Oper)) (v := .pointer (some ⟨w.heap.size + 1, 0, none⟩)) rfl (by kernel_rfl) (by kernel_rfl) (by kernel_rfl) (fun _ _ _ h => h) (Or.inl ⟨by rfl, ?_⟩) (by assumption) ?_
    · intro w hSw; (try dsimp only at hSw); go_simp
    (try simp only [Act.put, List.setIfInBounds_toArray, List.set_cons_zero, List.set_cons_succ])
    refine wpAnyH_take (i := 30) (oi := ({ dst := some 82, op := Op.load 3 (Operand.tmp 81), type := 3, pos := "parts.go:412", after := #[{ on := 29, ground := Ground.data }, { on := 26, ground := Ground.guard }], guard := some (26, true) } : Oper)) (v := .int .i64 u) rfl (by kernel_rfl) (by kernel_rfl) (by kernel_rfl) (fun _ _ _ h => h) (Or.inl ⟨by rfl, ?_⟩) (by assumption) ?_
    · intro w hSw; (try dsimp only at hSw); go_simp
    (try simp only [Act.put, List.setIfInBounds_toArray, List.set_cons_zero, List.set_cons_succ])
    refine wpAnyH_take (i := 31) (oi := ({ dst := some 83, op := Op.binOp BinOp.eql 3 (Operand.tmp 80) (Operand.tmp 82) 3, type := 4, pos := "parts.go:412", after := #[{ on := 28, ground := Ground.data }, { on := 30, ground := Ground.data }, { on := 26, ground := Ground.guard }], guard := some (26, true) } : Oper)) (v := .bool true) rfl (by kernel_rfl) (by kernel_rfl) (by kernel_rfl) (fun _ _ _ h => h) (Or.inl ⟨by rfl, ?_⟩) (by assumption) ?_
    · intro w hSw; (try dsimp only at hSw); go_simp
    (try simp only [Act.put, List.setIfInBounds_toArray, List.set_cons_zero, List.set_cons_succ])
    refine wpAnyH_take (i := 32) (oi := ({ dst := some 84, op := Op.move (Operand.tmp 83), type := 4, pos := "parts.go:412", after := #[{ on := 31, ground := Ground.data }, { on := 26, ground := Ground.chain }, { on := 26, ground := Ground.guard }], guard := some (26, true) } : Oper)) (v := .bool true) rfl (by kernel_rfl) (by kernel_rfl) (by kernel_rfl) (fun _ _ _ h => h) (Or.inl ⟨by rfl, ?_⟩) (by assumption) ?_
    · intro w hSw; (try dsimp only at hSw); go_simp
    (try simp only [Act.put, List.setIfInBounds_toArray, List.set_cons_zero, List.set_cons_succ])
    refine wpAnyH_take (i := 33) (oi := ({ dst := some 85, op := Op.fieldAddr 35 (Operand.tmp 13) 2, type := 0, pos := "parts.go:412", after := #[{ on := 32, ground := Ground.guard }], guard := some (32, false) } : Oper)) (v := undef) rfl (by kernel_rfl) (by kernel_rfl) (by kernel_rfl) (fun _ _ _ h => h) (Or.inr ⟨by rfl, rfl⟩) (by assumption) ?_
    (try simp only [Act.put, List.setIfInBounds_toArray, List.set_cons_zero, List.set_cons_succ])
    refine wpAnyH_take (i := 34) (oi := ({ dst := some 86, op := Op.load 3 (Operand.tmp 85), type := 3, pos := "parts.go:412", after := #[{ on := 33, ground := Ground.data }, { on := 32, ground := Ground.guard }], guard := some (32, false) } : Oper)) (v := undef) rfl (by kernel_rfl) (by kernel_rfl) (by kernel_rfl) (fun _ _ _ h => h) (Or.inr ⟨by rfl, rfl⟩) (by assumption) ?_
    (try simp only [Act.put, List.setIfInBounds_toArray, List.set_cons_zero, List.set_cons_succ])
    refine wpAnyH_take (i := 35) (oi := ({ dst := some 87, op := Op.call { callee := Callee.value (Operand.func 12), args := #[Operand.tmp 86, Operand.const (Value.int IntKind.i64 4)], argTypes := #[3, 3] }, type := 4, pos := "parts.go:412", after := #[{ on := 34, ground := Ground.data }, { on := 32, ground := Ground.chain }, { on := 32, ground := Ground.guard }], guard := some (32, false) } : Oper)) (v := undef) rfl (by kernel_rfl) (by kernel_rfl) (by kernel_rfl) (fun _ _ _ h => h) (Or.inr ⟨by rfl, rfl⟩) (by assumption) ?_
    (try simp only [Act.put, List.setIfInBounds_toArray, List.set_cons_zero, List.set_cons_succ])
    refine wpAnyH_take (i := 36) (oi := ({ dst := some 88, op := Op.pick (Operand.tmp 84) (Operand.const (Value.bool true)) (Operand.tmp 87), type := 4, pos := "parts.go:412", after := #[{ on := 32, ground := Ground.data }, { on := 35, ground := Ground.data }, { on := 26, ground := Ground.guard }], guard := some (26, true) } : Oper)) (v := .bool true) rfl (by kernel_rfl) (by kernel_rfl) (by kernel_rfl) (fun _ _ _ h => h) (Or.inl ⟨by rfl, ?_⟩) (by assumption) ?_
    · intro w hSw; (try dsimp only at hSw); go_simp
    (try simp only [Act.put, List.setIfInBounds_toArray, List.set_cons_zero, List.set_cons_succ])
    refine wpAnyH_take (i := 37) (oi := ({ dst := some 89, op := Op.pick (Operand.tmp 78) (Operand.tmp 88) (Operand.const (Value.bool false)), type := 4, pos := "parts.go:412", after := #[{ on := 26, ground := Ground.data }, { on := 36, ground := Ground.data }], guard := none } : Oper)) (v := .bool true) rfl (by kernel_rfl) (by kernel_rfl) (by kernel_rfl) (fun _ _ _ h => h) (Or.inl ⟨by rfl, ?_⟩) (by assumption) ?_
    · intro w hSw; (try dsimp only at hSw); go_simp
    (try simp only [Act.put, List.setIfInBounds_toArray, List.set_cons_zero, List.set_cons_succ])
    refine wpAnyH_take (i := 38) (oi := ({ dst := some 90, op := Op.move (Operand.tmp 89), type := 4, pos := "parts.go:412", after := #[{ on := 37, ground := Ground.data }, { on := 35, ground := Ground.chain }], guard := none } : Oper)) (v := .bool true) rfl (by kernel_rfl) (by kernel_rfl) (by kernel_rfl) (fun _ _ _ h => h) (Or.inl ⟨by rfl, ?_⟩) (by assumption) ?_
    · intro w hSw; (try dsimp only at hSw); go_simp
    (try simp only [Act.put, List.setIfInBounds_toArray, List.set_cons_zero, List.set_cons_succ])
    refine wpAnyH_take (i := 39) (oi := ({ dst := some 91, op := Op.fieldAddr 31 (Operand.tmp 15) 0, type := 0, pos := "parts.go:412", after := #[{ on := 38, ground := Ground.guard }], guard := some (38, true) } : Oper)) (v := .pointer (some ⟨w4.heap.size, 0, none⟩)) rfl (by kernel_rfl) (by kernel_rfl) (by kernel_rfl) (fun _ _ _ h => h) (Or.inl ⟨by rfl, ?_⟩) (by assumption) ?_
    · intro w hSw; (try dsimp only at hSw); go_simp
    (try simp only [Act.put, List.setIfInBounds_toArray, List.set_cons_zero, List.set_cons_succ])
    refine wpAnyH_take (i := 40) (oi := ({ dst := some 92, op := Op.load 26 (Operand.tmp 91), type := 26, pos := "parts.go:412", after := #[{ on := 39, ground := Ground.data }, { on := 38, ground := Ground.guard }], guard := some (38, true) } : Oper)) (v := .slice b0 d.ws.length e0) rfl (by kernel_rfl) (by kernel_rfl) (by kernel_rfl) (fun _ _ _ h => h) (Or.inl ⟨by rfl, ?_⟩) (by assumption) ?_
    · intro w hSw; (try dsimp only at hSw); go_simp
    (try simp only [Act.put, List.setIfInBounds_toArray, List.set_cons_zero, List.set_cons_succ])
    refine wpAnyH_take (i := 41) (oi := ({ dst := some 93, op := Op.fieldAddr 35 (Operand.tmp 13) 0, type := 0, pos := "parts.go:412", after := #[{ on := 38, ground := Ground.guard }], guard := some (38, true) } : Oper)) (v := .pointer (some ⟨w3.heap.size, 0, none⟩)) rfl (by kernel_rfl) (by kernel_rfl) (by kernel_rfl) (fun _ _ _ h => h) (Or.inl ⟨by rfl, ?_⟩) (by assumption) ?_
    · intro w hSw; (try dsimp only at hSw); go_simp
    (try simp only [Act.put, List.setIfInBounds_toArray, List.set_cons_zero, List.set_cons_succ])
    refine wpAnyH_take (i := 42) (oi := ({ dst := some 94, op := Op.load 3 (Operand.tmp 93), type := 3, pos := "parts.go:412", after := #[{ on := 41, ground := Ground.data }, { on := 38, ground := Ground.guard }], guard := some (38, true) } : Oper)) (v := .int .i64 x.id) rfl (by kernel_rfl) (by kernel_rfl) (by kernel_rfl) (fun _ _ _ h => h) (Or.inl ⟨by rfl, ?_⟩) (by assumption) ?_
    · intro w hSw; (try dsimp only at hSw); go_simp
    (try simp only [Act.put, List.setIfInBounds_toArray, List.set_cons_zero, List.set_cons_succ])
    refine wpAnyH_take (i := 44) (oi := ({ dst := some 96, op := Op.fieldAddr 35 (Operand.tmp 17) 0, type := 0, pos := "parts.go:412", after := #[{ on := 38, ground := Ground.guard }], guard := some (38, true) } : Oper)) (v := .pointer (some ⟨w5.heap.size, 0, none⟩)) rfl (by kernel_rfl) (by kernel_rfl) (by kernel_rfl) (fun _ _ _ h => h) (Or.inl ⟨by rfl, ?_⟩) (by assumption) ?_
    · intro w hSw; (try dsimp only at hSw); go_simp
    (try simp only [Act.put, List.setIfInBounds_toArray, List.set_cons_zero, List.set_cons_succ])
    refine wpAnyH_take (i := 45) (oi := ({ dst := some 97, op := Op.load 3 (Operand.tmp 96), type := 3, pos := "parts.go:412", after := #[{ on := 44, ground := Ground.data }, { on := 38, ground := Ground.guard }], guard := some (38, true) } : Oper)) (v := .int .i64 M) rfl (by kernel_rfl) (by kernel_rfl) (by kernel_rfl) (fun _ _ _ h => h) (Or.inl ⟨by rfl, ?_⟩) (by assumption) ?_
    · intro w hSw; (try dsimp only at hSw); go_simp
    (try simp only [Act.put, List.setIfInBounds_toArray, List.set_cons_zero, List.set_cons_succ])
    refine wpAnyH_ready (rs := [43]) (by kernel_rfl) (by simp) ?_
    refine AllReadyH.cons (o := ({ dst := some 95, op := Op.call { callee := Callee.value (Operand.func 14), args := #[Operand.tmp 92, Operand.tmp 94], argTypes := #[26, 3] }, type := 44, pos := "parts.go:412", after := #[{ on := 40, ground := Ground.data }, { on := 42, ground := Ground.data }, { on := 38, ground := Ground.chain }, { on := 38, ground := Ground.guard }], guard := some (38, true) } : Oper)) rfl (fun K hK => ?_) AllReadyH.nil
    rw [if_pos (by rfl)]
    go_wp2_with (first | (go_at_call 14; refine Calls.mono (hbn _ hB0) ?_; rintro e w6 ⟨av, cv, rfl, hints, hav, hb6⟩; have hB6 := Below_after hB0 hb6))
    refine hK.out _ _ ?_ (fun hHeld => ?_)
    · exact mk _ hB6
    clear hK K
    (try simp only [Act.put, List.setIfInBounds_toArray, List.set_cons_zero, List.set_cons_succ])
    refine wpAnyH_ready (rs := [46]) (by kernel_rfl) (by simp) ?_
    refine AllReadyH.cons (o := ({ dst := some 98, op := Op.call { callee := Callee.value (Operand.func 13), args := #[Operand.tmp 95, Operand.tmp 97], argTypes := #[44, 3] }, type := 4, pos := "parts.go:412", after := #[{ on := 43, ground := Ground.data }, { on := 45, ground := Ground.data }, { on := 43, ground := Ground.chain }, { on := 38, ground := Ground.guard }], guard := some (38, true) } : Oper)) rfl (fun K hK => ?_) AllReadyH.nil
    rw [if_pos (by rfl)]
    go_wp2_with (first | (go_at_call 13; refine (in_any av cv Z M _ hints (by omega)).mono ?_; rintro e w' ⟨rfl, rfl⟩))
    refine hK.out _ _ ?_ (fun hHeld => ?_)
    · exact mk _ hB6
    clear hK K
    (try simp only [Act.put, List.setIfInBounds_toArray, List.set_cons_zero, List.set_cons_succ])
    refine wpAnyH_take (i := 47) (oi := ({ dst := some 99, op := Op.pick (Operand.tmp 90) (Operand.tmp 98) (Operand.const (Value.bool false)), type := 4, pos := "parts.go:412", after := #[{ on := 38, ground := Ground.data }, { on := 46, ground := Ground.data }], guard := none } : Oper)) (v := .bool true) rfl (by kernel_rfl) (by kernel_rfl) (by kernel_rfl) (fun _ _ _ h => h) (Or.inl ⟨by rfl, ?_⟩) (by assumption) ?_
    · intro w hSw; (try dsimp only at hSw); go_simp
    (try simp only [Act.put, List.setIfInBounds_toArray, List.set_cons_zero, List.set_cons_succ])
    refine wpAnyH_take (i := 48) (oi := ({ dst := some 10, op := Op.assign (Operand.tmp 99), type := 4, pos := "parts.go:412", after := #[{ on := 47, ground := Ground.data }, { on := 46, ground := Ground.chain }, { on := 0, ground := Ground.phase }, { on := 1, ground := Ground.phase }, { on := 2, ground := Ground.phase }, { on := 3, ground := Ground.phase }, { on := 4, ground := Ground.phase }, { on := 5, ground := Ground.phase }, { on := 6, ground := Ground.phase }, { on := 7, ground := Ground.phase }, { on := 8, ground := Ground.phase }, { on := 9, ground := Ground.phase }, { on := 10, ground := Ground.phase }, { on := 11, ground := Ground.phase }, { on := 12, ground := Ground.phase }, { on := 13, ground := Ground.phase }, { on := 14, ground := Ground.phase }, { on := 15, ground := Ground.phase }, { on := 16, ground := Ground.phase }, { on := 17, ground := Ground.phase }, { on := 18, ground := Ground.phase }, { on := 19, ground := Ground.phase }, { on := 20, ground := Ground.phase }, { on := 21, ground := Ground.phase }, { on := 22, ground := Ground.phase }, { on := 23, ground := Ground.phase }, { on := 24, ground := Ground.phase }, { on := 25, ground := Ground.phase }, { on := 26, ground := Ground.phase }, { on := 27, ground := Ground.phase }, { on := 28, ground := Ground.phase }, { on := 29, ground := Ground.phase }, { on := 30, ground := Ground.phase }, { on := 31, ground := Ground.phase }, { on := 32, ground := Ground.phase }, { on := 33, ground := Ground.phase }, { on := 34, ground := Ground.phase }, { on := 35, ground := Ground.phase }, { on := 36, ground := Ground.phase }, { on := 37, ground := Ground.phase }, { on := 38, ground := Ground.phase }, { on := 39, ground := Ground.phase }, { on := 40, ground := Ground.phase }, { on := 41, ground := Ground.phase }, { on := 42, ground := Ground.phase }, { on := 43, ground := Ground.phase }, { on := 44, ground := Ground.phase }, { on := 45, ground := Ground.phase }, { on := 46, ground := Ground.phase }, { on := 47, ground := Ground.phase }], guard := none } : Oper)) (v := .bool true) rfl (by kernel_rfl) (by kernel_rfl) (by kernel_rfl) (fun _ _ _ h => h) (Or.inl ⟨by rfl, ?_⟩) (by assumption) ?_
    · intro w hSw; (try dsimp only at hSw); go_simp
    (try simp only [Act.put, List.setIfInBounds_toArray, List.set_cons_zero, List.set_cons_succ])
    refine wpAnyH_done (by kernel_rfl) ?_ _
    have hF : Below w.heap.size w _ := Below_after bl hB6
    go_wp2_with fail
    go_ret
    exact ⟨rfl, hF⟩
  · have hc2 := fun W : World => has_any x.rights 4 W
    simp only [hd4] at hc2
    have mk : ∀ w' : World, Below vv.heap.size vv w' → Below vv.heap.size vv w' ∧ w'.cell? ⟨w3.heap.size, 0, none⟩ = some (.int .i64 x.id) ∧ w'.cell? ⟨w3.heap.size, 2, none⟩ = some (.int .i64 x.rights) ∧ w'.cell? ⟨w5.heap.size, 0, none⟩ = some (.int .i64 M) ∧ w'.cell? ⟨w5.heap.size, 2, none⟩ = some (.int .i64 rights) ∧ w'.cell? ⟨w5.heap.size, 4, none⟩ = some (.int .i64 x.id) ∧ w'.cell? ⟨w.heap.size, 0, none⟩ = some (.int .i64 h) ∧ w'.cell? ⟨w.heap.size + 1, 0, none⟩ = some (.int .i64 u) ∧ w'.cell? ⟨w4.heap.size, 0, none⟩ = some (.slice b0 d.ws.length e0) := fun w' h => ⟨h, by rw [(bcell h).1 _ _ zX]; exact cX0, by rw [(bcell h).1 _ _ zX]; exact cX2, by rw [(bcell h).1 _ _ zV]; exact cV0, by rw [(bcell h).1 _ _ zV]; exact cV2, by rw [(bcell h).1 _ _ zV]; exact cV4, by rw [(bcell h).1 _ _ zP]; exact cP0, by rw [(bcell h).1 _ _ zQ]; exact cQ0, by rw [(bcell h).1 _ _ zY]; exact cY0⟩
    have hB0 : Below vv.heap.size vv vv.drew := below_drewN (Below.refl _ _) 1
    go_region_held3 (fun w' => Below vv.heap.size vv w' ∧ w'.cell? ⟨w3.heap.size, 0, none⟩ = some (.int .i64 x.id) ∧ w'.cell? ⟨w3.heap.size, 2, none⟩ = some (.int .i64 x.rights) ∧ w'.cell? ⟨w5.heap.size, 0, none⟩ = some (.int .i64 M) ∧ w'.cell? ⟨w5.heap.size, 2, none⟩ = some (.int .i64 rights) ∧ w'.cell? ⟨w5.heap.size, 4, none⟩ = some (.int .i64 x.id) ∧ w'.cell? ⟨w.heap.size, 0, none⟩ = some (.int .i64 h) ∧ w'.cell? ⟨w.heap.size + 1, 0, none⟩ = some (.int .i64 u) ∧ w'.cell? ⟨w4.heap.size, 0, none⟩ = some (.slice b0 d.ws.length e0)) (first | exact mk _ hB0 | exact mk _ hB6) (first | (go_at_call 12; refine (hc1 _).mono ?_; rintro e w' ⟨rfl, rfl⟩) | (go_at_call 12; refine (hc2 _).mono ?_; rintro e w' ⟨rfl, rfl⟩) | (go_at_call 14; refine Calls.mono (hbn _ hB0) ?_; rintro e w6 ⟨av, cv, rfl, hints, hav, hb6⟩; have hB6 := Below_after hB0 hb6) | (go_at_call 13; refine (in_any av cv Z M _ hints (by omega)).mono ?_; rintro e w' ⟨rfl, rfl⟩))
    all_goals
      have hF : Below w.heap.size w _ := Below_after bl hB6
      go_wp2_with fail
      go_ret
      exact ⟨rfl, hF⟩
theorem tgrant_yes (a : Option Addr) (c : Nat) (l : List Ac) (h s u t rights badge : Int) (w : World) (hw : AcsAt w a l) (hm : l.length ≤ maxLen) (hq : lacB l 80 = true) :
    Calls Try.prog 3 #[.slice a l.length c, .agg #[.int .i64 h, .int .i64 s], .agg #[.int .i64 u, .int .i64 t], .int .i64 rights, .int .i64 badge] w fun e w' => e = .returned (.bool true) ∧ Below w.heap.size w w' := by
  by_cases hc : giveC (growR l) h s u t rights badge = 0
  · exact tgrant_ok a c l h s u t rights badge w hw hm hq hc
  · exact tgrant_err a c l h s u t rights badge w hw hm hq hc
theorem tgrant_any (w : World) (a : Option Addr) (l : List Ac) (c : Nat) (hw : AcsAt w a l) (hm : l.length ≤ maxLen) (h s u t rights badge : Int) :
    Calls Try.prog 3 #[.slice a l.length c, .agg #[.int .i64 h, .int .i64 s], .agg #[.int .i64 u, .int .i64 t], .int .i64 rights, .int .i64 badge] w fun e w' => e = .returned (.bool true) ∧ Below w.heap.size w w' := by
  cases hq : lacB l 80
  · exact tgrant_no a c l h s u t rights badge w hw hm hq
  · exact tgrant_yes a c l h s u t rights badge w hw hm hq
end Go.Proofs.Ytihckdndecbefad
