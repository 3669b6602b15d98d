/- TopDrop, walked. -/
import Derived.Test.YtihckdndecbefacGrownB
import Derived.Test.YtihckdndecbefacMadeW
import Derived.Test.YtihckdndecbefacNumW
set_option linter.unusedSimpArgs false
set_option linter.unnecessarySimpa false
set_option linter.unusedVariables false
namespace Go.Proofs.Ytihckdndecbefac
open Go.RowKit

set_option maxHeartbeats 2000000 in
set_option maxRecDepth 100000 in
theorem tdrop_no (a : Option Addr) (c : Nat) (l : List Ac) (h s : Int) (w : World) (hw : AcsAt w a l) (hm : l.length ≤ maxLen) (hq : lacB l 80 = false) :
    Calls Try.prog 7 #[.slice a l.length c, .agg #[.int .i64 h, .int .i64 s]] w fun e w' => e = .returned (.bool true) ∧ Below w.heap.size w w' := by
  have BP := Bx.new w [.int .i64 h, .int .i64 s] 44
  have bl := (Below.refl w.heap.size w).alloc (by first | exact Nat.le_refl _ | (simp <;> omega)) (.cells #[.int .i64 h, .int .i64 s] 44)
  go_enter Try.func7, Try.ntmps7
  have hcon := made_any (w.alloc (.cells #[.int .i64 h, .int .i64 s] 44))
  go_wp2_with fail
  refine hcon.mono ?_
  rintro e w1 ⟨rfl, hb1⟩
  clear hcon
  replace BP := BP.below hb1
  replace bl := Below_after bl hb1
  have yP := BP.1
  have hcon := grown_no a c l w1 (hw.below bl) hm hq
  go_wp2_with fail
  refine hcon.mono ?_
  rintro e w2 ⟨rfl, hb2⟩
  clear hcon
  clear yP
  replace BP := BP.below hb2
  replace bl := Below_after bl hb2
  have yP := BP.1
  replace BP := BP.alloc (.cells #[.slice none 0 0, .slice none 0 0, .slice none 0 0, .slice none 0 0, .int .i64 0, .int .i64 0] 29)
  replace bl := bl.alloc bl.size (.cells #[.slice none 0 0, .slice none 0 0, .slice none 0 0, .slice none 0 0, .int .i64 0, .int .i64 0] 29)
  have BZ := Bx.new w2 [.slice none 0 0, .slice none 0 0, .slice none 0 0, .slice none 0 0, .int .i64 0, .int .i64 0] 29
  go_wp2_with fail
  go_ret
  exact ⟨rfl, bl⟩
set_option maxHeartbeats 2000000 in
set_option maxRecDepth 100000 in
theorem tdrop_err (a : Option Addr) (c : Nat) (l : List Ac) (h s : Int) (w : World) (hw : AcsAt w a l) (hm : l.length ≤ maxLen) (hq : lacB l 80 = true) (hc : getC (growR l) h s ≠ 0) :
    Calls Try.prog 7 #[.slice a l.length c, .agg #[.int .i64 h, .int .i64 s]] w fun e w' => e = .returned (.bool true) ∧ Below w.heap.size w w' := by
  have BP := Bx.new w [.int .i64 h, .int .i64 s] 44
  have bl := (Below.refl w.heap.size w).alloc (by first | exact Nat.le_refl _ | (simp <;> omega)) (.cells #[.int .i64 h, .int .i64 s] 44)
  have hlen := lac_len hq
  have hi := inv_grow l l.length (by omega)
  rw [List.take_length] at hi
  have hI : RmI (growR l) := ⟨hi.sz (by omega), hi.put, hi.wf⟩
  have hW := whole_grow l
  have hk : InvK 80 (growR l) := hi.mono (by omega)
  clear hi
  go_enter Try.func7, Try.ntmps7
  have hcon := made_any (w.alloc (.cells #[.int .i64 h, .int .i64 s] 44))
  go_wp2_with fail
  refine hcon.mono ?_
  rintro e w1 ⟨rfl, hb1⟩
  clear hcon
  replace BP := BP.below hb1
  replace bl := Below_after bl hb1
  have yP := BP.1
  have hg := grown_yes a c l w1 (hw.below bl) hm hq
  generalize growR l = g at hg hI hW hk hc
  clear hq hw hm hlen
  have hcon := hg
  clear hg
  go_wp2_with fail
  refine hcon.mono ?_
  rintro e w2 ⟨a0, a1, a2, a3, N0, N1, N2, N3, c0, c1, c2, c3, M, N, rfl, ⟨l0, l1, l2, l3, l4, l5⟩, hat, -, hb2⟩
  clear hcon
  clear yP
  replace BP := BP.below hb2
  replace bl := Below_after bl hb2
  have yP := BP.1
  replace BP := BP.alloc (.cells #[.slice a0 N0 c0, .slice a1 N1 c1, .slice a2 N2 c2, .slice a3 N3 c3, .int .i64 M, .int .i64 N] 29)
  replace hat := hat.below ((Below.refl _ _).alloc (Nat.le_refl _) (.cells #[.slice a0 N0 c0, .slice a1 N1 c1, .slice a2 N2 c2, .slice a3 N3 c3, .int .i64 M, .int .i64 N] 29))
  replace bl := bl.alloc bl.size (.cells #[.slice a0 N0 c0, .slice a1 N1 c1, .slice a2 N2 c2, .slice a3 N3 c3, .int .i64 M, .int .i64 N] 29)
  have BR := Bx.new w2 [.slice a0 N0 c0, .slice a1 N1 c1, .slice a2 N2 c2, .slice a3 N3 c3, .int .i64 M, .int .i64 N] 29
  have hcon := get_err a0 a1 a2 a3 c0 c1 c2 c3 g h s _ hat hI.sz hc
  rw [l0, l1, l2, l3, l4, l5] at hcon
  have cR0 := (BR.2 0 _ rfl).1
  have cR1 := (BR.2 1 _ rfl).1
  have cR2 := (BR.2 2 _ rfl).1
  have cR3 := (BR.2 3 _ rfl).1
  have cR4 := (BR.2 4 _ rfl).1
  have cR5 := (BR.2 5 _ rfl).1
  have zR := BR.1
  have cP0 := (BP.2 0 _ rfl).1
  have cP1 := (BP.2 1 _ rfl).1
  have zP := BP.1
  go_wp2_with fail
  refine hcon.mono ?_
  rintro e w3 ⟨rfl, hb3⟩
  clear cR0 cR1 cR2 cR3 cR4 cR5 zR cP0 cP1 zP hcon
  clear yP
  replace BP := BP.below hb3
  replace BR := BR.below hb3
  replace hat := hat.below hb3
  replace bl := Below_after bl hb3
  have yP := BP.1
  have yR := BR.1
  replace BP := BP.alloc (.cells #[.int .i64 0, .int .i64 0, .int .i64 0, .int .i64 0, .int .i64 0] 36)
  replace BR := BR.alloc (.cells #[.int .i64 0, .int .i64 0, .int .i64 0, .int .i64 0, .int .i64 0] 36)
  replace hat := hat.below ((Below.refl _ _).alloc (Nat.le_refl _) (.cells #[.int .i64 0, .int .i64 0, .int .i64 0, .int .i64 0, .int .i64 0] 36))
  replace bl := bl.alloc bl.size (.cells #[.int .i64 0, .int .i64 0, .int .i64 0, .int .i64 0, .int .i64 0] 36)
  have BX := Bx.new w3 [.int .i64 0, .int .i64 0, .int .i64 0, .int .i64 0, .int .i64 0] 36
  have hd := act_drop a0 a1 a2 a3 c0 c1 c2 c3 g h s _ hat hI
  rw [l0, l1, l2, l3, l4, l5] at hd
  have hcon := hd
  have cR0 := (BR.2 0 _ rfl).1
  have cR1 := (BR.2 1 _ rfl).1
  have cR2 := (BR.2 2 _ rfl).1
  have cR3 := (BR.2 3 _ rfl).1
  have cR4 := (BR.2 4 _ rfl).1
  have cR5 := (BR.2 5 _ rfl).1
  have zR := BR.1
  have cP0 := (BP.2 0 _ rfl).1
  have cP1 := (BP.2 1 _ rfl).1
  have zP := BP.1
  go_wp2_with fail
  refine hcon.mono ?_
  rintro e w4 ⟨b0, b1, b2, b3, m0, m1, m2, m3, e0, e1, e2, e3, mm, nn, ev, rfl, hA, hb4⟩
  clear cR0 cR1 cR2 cR3 cR4 cR5 zR cP0 cP1 zP hcon
  clear yP yR
  replace BP := BP.below hb4
  replace BR := BR.below hb4
  replace BX := BX.below hb4
  replace hat := hat.below hb4
  replace bl := Below_after bl hb4
  have yP := BP.1
  have yR := BR.1
  have yX := BX.1
  replace BP := BP.alloc (.cells #[.slice b0 m0 e0, .slice b1 m1 e1, .slice b2 m2 e2, .slice b3 m3 e3, .int .i64 mm, .int .i64 nn] 29)
  replace BR := BR.alloc (.cells #[.slice b0 m0 e0, .slice b1 m1 e1, .slice b2 m2 e2, .slice b3 m3 e3, .int .i64 mm, .int .i64 nn] 29)
  replace BX := BX.alloc (.cells #[.slice b0 m0 e0, .slice b1 m1 e1, .slice b2 m2 e2, .slice b3 m3 e3, .int .i64 mm, .int .i64 nn] 29)
  replace hat := hat.below ((Below.refl _ _).alloc (Nat.le_refl _) (.cells #[.slice b0 m0 e0, .slice b1 m1 e1, .slice b2 m2 e2, .slice b3 m3 e3, .int .i64 mm, .int .i64 nn] 29))
  replace bl := bl.alloc bl.size (.cells #[.slice b0 m0 e0, .slice b1 m1 e1, .slice b2 m2 e2, .slice b3 m3 e3, .int .i64 mm, .int .i64 nn] 29)
  have BY := Bx.new w4 [.slice b0 m0 e0, .slice b1 m1 e1, .slice b2 m2 e2, .slice b3 m3 e3, .int .i64 mm, .int .i64 nn] 29
  obtain ⟨-, rfl, -⟩ := hA.resolve_left (fun h => hc h.1)
  clear hd
  have hcon := number_err (dropC g h s) (w4.alloc (.cells #[.slice b0 m0 e0, .slice b1 m1 e1, .slice b2 m2 e2, .slice b3 m3 e3, .int .i64 mm, .int .i64 nn] 29))
  go_wp2_with fail
  refine hcon.mono ?_
  rintro e w' ⟨rfl, hw'⟩
  rw [hw']
  clear hw' w' hcon
  have hcon := number_err (getC g h s) (w4.alloc (.cells #[.slice b0 m0 e0, .slice b1 m1 e1, .slice b2 m2 e2, .slice b3 m3 e3, .int .i64 mm, .int .i64 nn] 29))
  go_wp2_with fail
  refine hcon.mono ?_
  rintro e w' ⟨rfl, hw'⟩
  rw [hw']
  clear hw' w' hcon
  have heq : (dropC g h s == getC g h s) = true := by simp [dropC]
  go_wp2_with fail
  go_ret
  exact ⟨rfl, bl⟩
set_option maxHeartbeats 2000000 in
set_option maxRecDepth 100000 in
theorem tdrop_ok (a : Option Addr) (c : Nat) (l : List Ac) (h s : Int) (w : World) (hw : AcsAt w a l) (hm : l.length ≤ maxLen) (hq : lacB l 80 = true) (hc : getC (growR l) h s = 0) :
    Calls Try.prog 7 #[.slice a l.length c, .agg #[.int .i64 h, .int .i64 s]] w fun e w' => e = .returned (.bool true) ∧ Below w.heap.size w w' := by
  have BP := Bx.new w [.int .i64 h, .int .i64 s] 44
  have bl := (Below.refl w.heap.size w).alloc (by first | exact Nat.le_refl _ | (simp <;> omega)) (.cells #[.int .i64 h, .int .i64 s] 44)
  have hlen := lac_len hq
  have hi := inv_grow l l.length (by omega)
  rw [List.take_length] at hi
  have hI : RmI (growR l) := ⟨hi.sz (by omega), hi.put, hi.wf⟩
  have hW := whole_grow l
  have hk : InvK 80 (growR l) := hi.mono (by omega)
  clear hi
  go_enter Try.func7, Try.ntmps7
  have hcon := made_any (w.alloc (.cells #[.int .i64 h, .int .i64 s] 44))
  go_wp2_with fail
  refine hcon.mono ?_
  rintro e w1 ⟨rfl, hb1⟩
  clear hcon
  replace BP := BP.below hb1
  replace bl := Below_after bl hb1
  have yP := BP.1
  have hg := grown_yes a c l w1 (hw.below bl) hm hq
  generalize growR l = g at hg hI hW hk hc
  clear hq hw hm hlen
  have hcon := hg
  clear hg
  go_wp2_with fail
  refine hcon.mono ?_
  rintro e w2 ⟨a0, a1, a2, a3, N0, N1, N2, N3, c0, c1, c2, c3, M, N, rfl, ⟨l0, l1, l2, l3, l4, l5⟩, hat, -, hb2⟩
  clear hcon
  clear yP
  replace BP := BP.below hb2
  replace bl := Below_after bl hb2
  have yP := BP.1
  replace BP := BP.alloc (.cells #[.slice a0 N0 c0, .slice a1 N1 c1, .slice a2 N2 c2, .slice a3 N3 c3, .int .i64 M, .int .i64 N] 29)
  replace hat := hat.below ((Below.refl _ _).alloc (Nat.le_refl _) (.cells #[.slice a0 N0 c0, .slice a1 N1 c1, .slice a2 N2 c2, .slice a3 N3 c3, .int .i64 M, .int .i64 N] 29))
  replace bl := bl.alloc bl.size (.cells #[.slice a0 N0 c0, .slice a1 N1 c1, .slice a2 N2 c2, .slice a3 N3 c3, .int .i64 M, .int .i64 N] 29)
  have BR := Bx.new w2 [.slice a0 N0 c0, .slice a1 N1 c1, .slice a2 N2 c2, .slice a3 N3 c3, .int .i64 M, .int .i64 N] 29
  obtain ⟨t1, t2, t3⟩ := top_drop hW hc
  have hkd := rmI_of (inv_drop hk h s) (by omega)
  have hgo := get_ok a0 a1 a2 a3 c0 c1 c2 c3 g h s _ hat hI.sz hc
  have hdo := fun (W : World) (hb : RmAt W a0 a1 a2 a3 c0 c1 c2 c3 g) => act_drop a0 a1 a2 a3 c0 c1 c2 c3 g h s W hb hI
  rw [l0, l1, l2, l3, l4, l5] at hgo
  simp only [l0, l1, l2, l3, l4, l5] at hdo
  have hc' : dropC g h s = 0 := hc
  generalize dropR g h s = d at t1 t2 t3 hkd hdo
  generalize getW g h s = x at t1 hgo
  have hcon := hgo
  have cR0 := (BR.2 0 _ rfl).1
  have cR1 := (BR.2 1 _ rfl).1
  have cR2 := (BR.2 2 _ rfl).1
  have cR3 := (BR.2 3 _ rfl).1
  have cR4 := (BR.2 4 _ rfl).1
  have cR5 := (BR.2 5 _ rfl).1
  have zR := BR.1
  have cP0 := (BP.2 0 _ rfl).1
  have cP1 := (BP.2 1 _ rfl).1
  have zP := BP.1
  go_wp2_with fail
  refine hcon.mono ?_
  rintro e w3 ⟨rfl, hb3⟩
  clear cR0 cR1 cR2 cR3 cR4 cR5 zR cP0 cP1 zP hcon
  clear yP
  replace BP := BP.below hb3
  replace BR := BR.below hb3
  replace hat := hat.below hb3
  replace bl := Below_after bl hb3
  have yP := BP.1
  have yR := BR.1
  replace BP := BP.alloc (.cells #[.int .i64 x.id, .int .i64 x.thing, .int .i64 x.rights, .int .i64 x.badge, .int .i64 x.frm] 36)
  replace BR := BR.alloc (.cells #[.int .i64 x.id, .int .i64 x.thing, .int .i64 x.rights, .int .i64 x.badge, .int .i64 x.frm] 36)
  replace hat := hat.below ((Below.refl _ _).alloc (Nat.le_refl _) (.cells #[.int .i64 x.id, .int .i64 x.thing, .int .i64 x.rights, .int .i64 x.badge, .int .i64 x.frm] 36))
  replace bl := bl.alloc bl.size (.cells #[.int .i64 x.id, .int .i64 x.thing, .int .i64 x.rights, .int .i64 x.badge, .int .i64 x.frm] 36)
  have BX := Bx.new w3 [.int .i64 x.id, .int .i64 x.thing, .int .i64 x.rights, .int .i64 x.badge, .int .i64 x.frm] 36
  clear hgo
  have hcon := hdo _ hat
  have cR0 := (BR.2 0 _ rfl).1
  have cR1 := (BR.2 1 _ rfl).1
  have cR2 := (BR.2 2 _ rfl).1
  have cR3 := (BR.2 3 _ rfl).1
  have cR4 := (BR.2 4 _ rfl).1
  have cR5 := (BR.2 5 _ rfl).1
  have zR := BR.1
  have cP0 := (BP.2 0 _ rfl).1
  have cP1 := (BP.2 1 _ rfl).1
  have zP := BP.1
  go_wp2_with fail
  refine hcon.mono ?_
  rintro e w4 ⟨b0, b1, b2, b3, m0, m1, m2, m3, e0, e1, e2, e3, mm, nn, ev, rfl, hA, hb4⟩
  clear cR0 cR1 cR2 cR3 cR4 cR5 zR cP0 cP1 zP hcon
  clear yP yR
  replace BP := BP.below hb4
  replace BR := BR.below hb4
  replace BX := BX.below hb4
  replace hat := hat.below hb4
  replace bl := Below_after bl hb4
  have yP := BP.1
  have yR := BR.1
  have yX := BX.1
  obtain ⟨-, rfl, rfl, rfl, rfl, rfl, rfl, rfl, hat2, -⟩ := hA.resolve_right (fun h => h.1 hc')
  replace BP := BP.alloc (.cells #[.slice b0 d.ws.length e0, .slice b1 d.ts.length e1, .slice b2 d.hs.length e2, .slice b3 d.ns.length e3, .int .i64 d.nw, .int .i64 d.nt] 29)
  replace BR := BR.alloc (.cells #[.slice b0 d.ws.length e0, .slice b1 d.ts.length e1, .slice b2 d.hs.length e2, .slice b3 d.ns.length e3, .int .i64 d.nw, .int .i64 d.nt] 29)
  replace BX := BX.alloc (.cells #[.slice b0 d.ws.length e0, .slice b1 d.ts.length e1, .slice b2 d.hs.length e2, .slice b3 d.ns.length e3, .int .i64 d.nw, .int .i64 d.nt] 29)
  replace hat := hat.below ((Below.refl _ _).alloc (Nat.le_refl _) (.cells #[.slice b0 d.ws.length e0, .slice b1 d.ts.length e1, .slice b2 d.hs.length e2, .slice b3 d.ns.length e3, .int .i64 d.nw, .int .i64 d.nt] 29))
  replace hat2 := hat2.below ((Below.refl _ _).alloc (Nat.le_refl _) (.cells #[.slice b0 d.ws.length e0, .slice b1 d.ts.length e1, .slice b2 d.hs.length e2, .slice b3 d.ns.length e3, .int .i64 d.nw, .int .i64 d.nt] 29))
  replace bl := bl.alloc bl.size (.cells #[.slice b0 d.ws.length e0, .slice b1 d.ts.length e1, .slice b2 d.hs.length e2, .slice b3 d.ns.length e3, .int .i64 d.nw, .int .i64 d.nt] 29)
  have BY := Bx.new w4 [.slice b0 d.ws.length e0, .slice b1 d.ts.length e1, .slice b2 d.hs.length e2, .slice b3 d.ns.length e3, .int .i64 d.nw, .int .i64 d.nt] 29
  clear hdo
  have hsz := hkd.sz.w
  have hsh := hkd.sz.h
  have hcon := find_any b0 e0 d.ws x.id _ hat2.w (by omega)
  have cX0 := (BX.2 0 _ rfl).1
  have cX1 := (BX.2 1 _ rfl).1
  have cX2 := (BX.2 2 _ rfl).1
  have cX3 := (BX.2 3 _ rfl).1
  have cX4 := (BX.2 4 _ rfl).1
  have zX := BX.1
  have cY0 := (BY.2 0 _ rfl).1
  have cY1 := (BY.2 1 _ rfl).1
  have cY2 := (BY.2 2 _ rfl).1
  have cY3 := (BY.2 3 _ rfl).1
  have cY4 := (BY.2 4 _ rfl).1
  have cY5 := (BY.2 5 _ rfl).1
  have zY := BY.1
  go_wp2_with fail
  refine hcon.mono ?_
  rintro e w5 ⟨rfl, hb5⟩
  clear cX0 cX1 cX2 cX3 cX4 zX cY0 cY1 cY2 cY3 cY4 cY5 zY hcon
  clear yP yR yX
  replace BP := BP.below hb5
  replace BR := BR.below hb5
  replace BX := BX.below hb5
  replace BY := BY.below hb5
  replace hat := hat.below hb5
  replace hat2 := hat2.below hb5
  replace bl := Below_after bl hb5
  have yP := BP.1
  have yR := BR.1
  have yX := BX.1
  have yY := BY.1
  generalize find d.ws x.id = f at t1 ⊢
  have hcon := at_any b2 e2 d.hs h s _ hat2.h (by simp [maxLen]; omega)
  rw [t2] at hcon
  have cP0 := (BP.2 0 _ rfl).1
  have cP1 := (BP.2 1 _ rfl).1
  have zP := BP.1
  have cY0 := (BY.2 0 _ rfl).1
  have cY1 := (BY.2 1 _ rfl).1
  have cY2 := (BY.2 2 _ rfl).1
  have cY3 := (BY.2 3 _ rfl).1
  have cY4 := (BY.2 4 _ rfl).1
  have cY5 := (BY.2 5 _ rfl).1
  have zY := BY.1
  go_wp2_with fail
  refine hcon.mono ?_
  rintro e w6 ⟨rfl, hb6⟩
  clear cP0 cP1 zP cY0 cY1 cY2 cY3 cY4 cY5 zY hcon
  clear yP yR yX yY
  replace BP := BP.below hb6
  replace BR := BR.below hb6
  replace BX := BX.below hb6
  replace BY := BY.below hb6
  replace hat := hat.below hb6
  replace hat2 := hat2.below hb6
  replace bl := Below_after bl hb6
  have yP := BP.1
  have yR := BR.1
  have yX := BX.1
  have yY := BY.1
  have hgh := hI.sz.h
  have hlw := w6.heap.size
  go_wp2_with fail
  go_loopw [11] (fun i wr => ∃ k : Nat, k ≤ N2 ∧ i = .int .i64 k ∧ Below w6.heap.size w6 wr) (fun i _ => N2 - (intOf i).toNat)
  case atStart => exact ⟨0, Nat.zero_le _, rfl, Below.refl _ _⟩
  case round =>
    obtain ⟨k, hk', rfl, hbl⟩ := hrel
    clear yP yR yX yY
    replace BP := BP.below hbl
    replace BR := BR.below hbl
    replace BX := BX.below hbl
    replace BY := BY.below hbl
    replace hat := hat.below hbl
    replace hat2 := hat2.below hbl
    replace bl := Below_after bl hbl
    have yP := BP.1
    have yR := BR.1
    have yX := BX.1
    have yY := BY.1
    have cR0 := (BR.2 0 _ rfl).1
    have cR1 := (BR.2 1 _ rfl).1
    have cR2 := (BR.2 2 _ rfl).1
    have cR3 := (BR.2 3 _ rfl).1
    have cR4 := (BR.2 4 _ rfl).1
    have cR5 := (BR.2 5 _ rfl).1
    have zR := BR.1
    by_cases hlt : k < N2
    rotate_left
    · go_wp2_with fail
      go_ret
      exact ⟨rfl, bl⟩
    obtain ⟨y, hy⟩ : ∃ y, g.hs[k]? = some y := ⟨g.hs[k], List.getElem?_eq_getElem (by omega)⟩
    have hym : y ∈ g.hs := List.mem_of_getElem? hy
    obtain ⟨b, o, rfl, hb, hwh⟩ := hat.h.resolve_left (by rintro e; rw [e] at l2; simp at l2; omega)
    obtain ⟨q1, q2, q3⟩ := hwh k y hy
    have cP0 := (BP.2 0 _ rfl).1
    have cP1 := (BP.2 1 _ rfl).1
    have zP := BP.1
    clear hwh hy
    by_cases he : y.holder = h ∧ y.slot = s
    · have d1 : (y.holder == h) = true := by simp [he.1]
      have d2 : (y.slot == s) = true := by simp [he.2]
      clear he
      go_wp2_with fail
      go_roundw
      case rel => exact ⟨k + 1, by omega, by go_num, (hbl.alloc hbl.size _)⟩
      case measure => simp [intOf]; omega
    obtain ⟨g1, g2, g3⟩ := t3 y hym he
    obtain ⟨f1, f2, f3, f4⟩ := g3
    have hd : (y.holder == h) = false ∨ (y.holder == h) = true ∧ (y.slot == s) = false := by
      by_cases e : y.holder = h
      · exact .inr ⟨by simp [e], by simp; exact fun e2 => he ⟨e, e2⟩⟩
      · exact .inl (by simp [e])
    clear he t3 hym
    replace BP := BP.alloc (.cells #[.int .i64 y.holder, .int .i64 y.slot, .int .i64 y.writ] 46)
    replace BR := BR.alloc (.cells #[.int .i64 y.holder, .int .i64 y.slot, .int .i64 y.writ] 46)
    replace BX := BX.alloc (.cells #[.int .i64 y.holder, .int .i64 y.slot, .int .i64 y.writ] 46)
    replace BY := BY.alloc (.cells #[.int .i64 y.holder, .int .i64 y.slot, .int .i64 y.writ] 46)
    replace hat := hat.below ((Below.refl _ _).alloc (Nat.le_refl _) (.cells #[.int .i64 y.holder, .int .i64 y.slot, .int .i64 y.writ] 46))
    replace hat2 := hat2.below ((Below.refl _ _).alloc (Nat.le_refl _) (.cells #[.int .i64 y.holder, .int .i64 y.slot, .int .i64 y.writ] 46))
    replace bl := bl.alloc bl.size (.cells #[.int .i64 y.holder, .int .i64 y.slot, .int .i64 y.writ] 46)
    have BH := Bx.new wr [.int .i64 y.holder, .int .i64 y.slot, .int .i64 y.writ] 46
    have hbl' := hbl.alloc hbl.size (.cells #[.int .i64 y.holder, .int .i64 y.slot, .int .i64 y.writ] 46)
    have hcon := get_ok a0 a1 (some ⟨b, o, none⟩) a3 c0 c1 c2 c3 g y.holder y.slot _ hat hI.sz g1
    rw [l0, l1, l2, l3, l4, l5] at hcon
    rcases hd with d1 | ⟨d1, d2⟩
    all_goals
      obtain ⟨pf, hpf⟩ : ∃ pf, getW g y.holder y.slot = ⟨(getW d y.holder y.slot).id, (getW d y.holder y.slot).thing, (getW d y.holder y.slot).rights, (getW d y.holder y.slot).badge, pf⟩ := ⟨(getW g y.holder y.slot).frm, Wr.ext5 f1 f2 f3 f4 rfl⟩
      rw [hpf] at hcon
      dsimp only at hcon
      clear hpf f1 f2 f3 f4
      generalize hA2 : getW d y.holder y.slot = q at hcon
      go_wp2_with fail
      refine hcon.mono ?_
      rintro e w8 ⟨rfl, hb8⟩
      clear cR0 cR1 cR2 cR3 cR4 cR5 zR cP0 cP1 zP hcon q1 q2 q3 d1
      try clear d2
      clear yP yR yX yY
      replace BP := BP.below hb8
      replace BR := BR.below hb8
      replace BX := BX.below hb8
      replace BY := BY.below hb8
      replace BH := BH.below hb8
      replace hat := hat.below hb8
      replace hat2 := hat2.below hb8
      replace bl := Below_after bl hb8
      have yP := BP.1
      have yR := BR.1
      have yX := BX.1
      have yY := BY.1
      have yH := BH.1
      replace hbl' := Below_after hbl' hb8
      have hz8 := hbl'.size
      replace BP := BP.alloc (.cells #[.int .i64 q.id, .int .i64 q.thing, .int .i64 q.rights, .int .i64 q.badge, .int .i64 pf] 36)
      replace BR := BR.alloc (.cells #[.int .i64 q.id, .int .i64 q.thing, .int .i64 q.rights, .int .i64 q.badge, .int .i64 pf] 36)
      replace BX := BX.alloc (.cells #[.int .i64 q.id, .int .i64 q.thing, .int .i64 q.rights, .int .i64 q.badge, .int .i64 pf] 36)
      replace BY := BY.alloc (.cells #[.int .i64 q.id, .int .i64 q.thing, .int .i64 q.rights, .int .i64 q.badge, .int .i64 pf] 36)
      replace BH := BH.alloc (.cells #[.int .i64 q.id, .int .i64 q.thing, .int .i64 q.rights, .int .i64 q.badge, .int .i64 pf] 36)
      replace hat := hat.below ((Below.refl _ _).alloc (Nat.le_refl _) (.cells #[.int .i64 q.id, .int .i64 q.thing, .int .i64 q.rights, .int .i64 q.badge, .int .i64 pf] 36))
      replace hat2 := hat2.below ((Below.refl _ _).alloc (Nat.le_refl _) (.cells #[.int .i64 q.id, .int .i64 q.thing, .int .i64 q.rights, .int .i64 q.badge, .int .i64 pf] 36))
      replace bl := bl.alloc bl.size (.cells #[.int .i64 q.id, .int .i64 q.thing, .int .i64 q.rights, .int .i64 q.badge, .int .i64 pf] 36)
      have BA := Bx.new w8 [.int .i64 q.id, .int .i64 q.thing, .int .i64 q.rights, .int .i64 q.badge, .int .i64 pf] 36
      replace hbl' := hbl'.alloc hbl'.size (.cells #[.int .i64 q.id, .int .i64 q.thing, .int .i64 q.rights, .int .i64 q.badge, .int .i64 pf] 36)
      have hcon := get_ok b0 b1 b2 b3 e0 e1 e2 e3 d y.holder y.slot _ hat2 hkd.sz g2
      rw [hA2] at hcon
      clear hA2
      have cY0 := (BY.2 0 _ rfl).1
      have cY1 := (BY.2 1 _ rfl).1
      have cY2 := (BY.2 2 _ rfl).1
      have cY3 := (BY.2 3 _ rfl).1
      have cY4 := (BY.2 4 _ rfl).1
      have cY5 := (BY.2 5 _ rfl).1
      have zY := BY.1
      have cH0 := (BH.2 0 _ rfl).1
      have cH1 := (BH.2 1 _ rfl).1
      have cH2 := (BH.2 2 _ rfl).1
      have zH := BH.1
      go_wp2_with fail
      refine hcon.mono ?_
      rintro e w9 ⟨rfl, hb9⟩
      clear cY0 cY1 cY2 cY3 cY4 cY5 zY cH0 cH1 cH2 zH hcon
      clear yP yR yX yY yH
      replace BP := BP.below hb9
      replace BR := BR.below hb9
      replace BX := BX.below hb9
      replace BY := BY.below hb9
      replace BH := BH.below hb9
      replace BA := BA.below hb9
      replace hat := hat.below hb9
      replace hat2 := hat2.below hb9
      replace bl := Below_after bl hb9
      have yP := BP.1
      have yR := BR.1
      have yX := BX.1
      have yY := BY.1
      have yH := BH.1
      have yA := BA.1
      replace hbl' := Below_after hbl' hb9
      have cA0 := (BA.2 0 _ rfl).1
      have fA0 := (BA.2 0 _ rfl).2
      have cA1 := (BA.2 1 _ rfl).1
      have fA1 := (BA.2 1 _ rfl).2
      have cA2 := (BA.2 2 _ rfl).1
      have fA2 := (BA.2 2 _ rfl).2
      have cA3 := (BA.2 3 _ rfl).1
      have fA3 := (BA.2 3 _ rfl).2
      have cA4 := (BA.2 4 _ rfl).1
      have fA4 := (BA.2 4 _ rfl).2
      have zA := BA.1
      have hfin := (hbl'.setCell (p := ⟨w8.heap.size, 4, none⟩) hz8 (.int .i64 q.frm))
      replace hfin := hfin.alloc hfin.size (.cells #[.int .i64 q.id, .int .i64 q.thing, .int .i64 q.rights, .int .i64 q.badge, .int .i64 q.frm] 36)
      go_wp2_with fail
      go_roundw
      case rel => exact ⟨k + 1, by omega, by go_num, hfin⟩
      case measure => simp [intOf]; omega
theorem tdrop_yes (a : Option Addr) (c : Nat) (l : List Ac) (h s : Int) (w : World) (hw : AcsAt w a l) (hm : l.length ≤ maxLen) (hq : lacB l 80 = true) :
    Calls Try.prog 7 #[.slice a l.length c, .agg #[.int .i64 h, .int .i64 s]] w fun e w' => e = .returned (.bool true) ∧ Below w.heap.size w w' := by
  by_cases hc : getC (growR l) h s = 0
  · exact tdrop_ok a c l h s w hw hm hq hc
  · exact tdrop_err a c l h s w hw hm hq hc
theorem tdrop_any (w : World) (a : Option Addr) (l : List Ac) (c : Nat) (hw : AcsAt w a l) (hm : l.length ≤ maxLen) (h s : Int) :
    Calls Try.prog 7 #[.slice a l.length c, .agg #[.int .i64 h, .int .i64 s]] w fun e w' => e = .returned (.bool true) ∧ Below w.heap.size w w' := by
  cases hq : lacB l 80
  · exact tdrop_no a c l h s w hw hm hq
  · exact tdrop_yes a c l h s w hw hm hq
end Go.Proofs.Ytihckdndecbefac
