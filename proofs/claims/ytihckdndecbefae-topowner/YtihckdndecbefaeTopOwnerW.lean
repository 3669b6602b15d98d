/- TopOwner, walked. -/
import Derived.Test.YtihckdndecbefaeGrownB
import Derived.Test.YtihckdndecbefaeMadeW
import Derived.Test.YtihckdndecbefaeGetAny
import Derived.Test.YtihckdndecbefaeAboveW
import Derived.Deep.QuietTactic
import Derived.BigQuiet
set_option linter.unusedSimpArgs false
set_option linter.unnecessarySimpa false
set_option linter.unusedVariables false
namespace Go.Proofs.Ytihckdndecbefae
open Go.RowKit

set_option maxHeartbeats 2000000 in
set_option maxRecDepth 100000 in
theorem towner_no (a : Option Addr) (c : Nat) (l : List Ac) (h s : Int) (w : World) (hw : AcsAt w a l) (hm : l.length ≤ maxLen) (hq : lacB l 80 = false) :
    Calls Try.prog 4 #[.slice a l.length c, .agg #[.int .i64 h, .int .i64 s]] w fun e w' => e = .returned (.bool true) ∧ Below w.heap.size w w' := by
  have BP := Bx.new w [.int .i64 h, .int .i64 s] 24
  have bl := (Below.refl w.heap.size w).alloc (by first | exact Nat.le_refl _ | (simp <;> omega)) (.cells #[.int .i64 h, .int .i64 s] 24)
  go_enter Try.func4, Try.ntmps4
  have hcon := made_any (w.alloc (.cells #[.int .i64 h, .int .i64 s] 24))
  go_wp2_with fail
  refine hcon.mono ?_
  rintro e w1 ⟨rfl, hb1⟩
  clear hcon
  replace BP := BP.below hb1
  replace bl := Below_after bl hb1
  have yP := BP.1
  have hcon := grown_no a c l w1 (hw.below bl) hm hq
  go_wp2_with fail
  refine hcon.mono ?_
  rintro e w2 ⟨rfl, hb2⟩
  clear hcon
  clear yP
  replace BP := BP.below hb2
  replace bl := Below_after bl hb2
  have yP := BP.1
  replace BP := BP.alloc (.cells #[.slice none 0 0, .slice none 0 0, .slice none 0 0, .slice none 0 0, .int .i64 0, .int .i64 0] 31)
  replace bl := bl.alloc bl.size (.cells #[.slice none 0 0, .slice none 0 0, .slice none 0 0, .slice none 0 0, .int .i64 0, .int .i64 0] 31)
  have BZ := Bx.new w2 [.slice none 0 0, .slice none 0 0, .slice none 0 0, .slice none 0 0, .int .i64 0, .int .i64 0] 31
  go_wp2_with fail
  go_ret
  exact ⟨rfl, bl⟩
set_option maxHeartbeats 2000000 in
set_option maxRecDepth 100000 in
theorem towner_err (a : Option Addr) (c : Nat) (l : List Ac) (h s : Int) (w : World) (hw : AcsAt w a l) (hm : l.length ≤ maxLen) (hq : lacB l 80 = true) (hc : getC (growR l) h s ≠ 0) :
    Calls Try.prog 4 #[.slice a l.length c, .agg #[.int .i64 h, .int .i64 s]] w fun e w' => e = .returned (.bool true) ∧ Below w.heap.size w w' := by
  have BP := Bx.new w [.int .i64 h, .int .i64 s] 24
  have bl := (Below.refl w.heap.size w).alloc (by first | exact Nat.le_refl _ | (simp <;> omega)) (.cells #[.int .i64 h, .int .i64 s] 24)
  have hlen := lac_len hq
  have hi := inv_grow l l.length (by omega)
  rw [List.take_length] at hi
  have hI : RmI (growR l) := ⟨hi.sz (by omega), hi.put, hi.wf⟩
  have hW := whole_grow l
  have hk : InvK 80 (growR l) := hi.mono (by omega)
  clear hi
  go_enter Try.func4, Try.ntmps4
  have hcon := made_any (w.alloc (.cells #[.int .i64 h, .int .i64 s] 24))
  go_wp2_with fail
  refine hcon.mono ?_
  rintro e w1 ⟨rfl, hb1⟩
  clear hcon
  replace BP := BP.below hb1
  replace bl := Below_after bl hb1
  have yP := BP.1
  have hg := grown_yes a c l w1 (hw.below bl) hm hq
  generalize growR l = g at hg hI hW hk hc
  clear hq hw hm hlen
  have hcon := hg
  clear hg
  go_wp2_with fail
  refine hcon.mono ?_
  rintro e w2 ⟨a0, a1, a2, a3, N0, N1, N2, N3, c0, c1, c2, c3, M, N, rfl, ⟨l0, l1, l2, l3, l4, l5⟩, hat, -, hb2⟩
  clear hcon
  clear yP
  replace BP := BP.below hb2
  replace bl := Below_after bl hb2
  have yP := BP.1
  replace BP := BP.alloc (.cells #[.slice a0 N0 c0, .slice a1 N1 c1, .slice a2 N2 c2, .slice a3 N3 c3, .int .i64 M, .int .i64 N] 31)
  replace hat := hat.below ((Below.refl _ _).alloc (Nat.le_refl _) (.cells #[.slice a0 N0 c0, .slice a1 N1 c1, .slice a2 N2 c2, .slice a3 N3 c3, .int .i64 M, .int .i64 N] 31))
  replace bl := bl.alloc bl.size (.cells #[.slice a0 N0 c0, .slice a1 N1 c1, .slice a2 N2 c2, .slice a3 N3 c3, .int .i64 M, .int .i64 N] 31)
  have BR := Bx.new w2 [.slice a0 N0 c0, .slice a1 N1 c1, .slice a2 N2 c2, .slice a3 N3 c3, .int .i64 M, .int .i64 N] 31
  have hcon := get_err a0 a1 a2 a3 c0 c1 c2 c3 g h s _ hat hI.sz hc
  rw [l0, l1, l2, l3, l4, l5] at hcon
  have cR0 := (BR.2 0 _ rfl).1
  have cR1 := (BR.2 1 _ rfl).1
  have cR2 := (BR.2 2 _ rfl).1
  have cR3 := (BR.2 3 _ rfl).1
  have cR4 := (BR.2 4 _ rfl).1
  have cR5 := (BR.2 5 _ rfl).1
  have zR := BR.1
  have cP0 := (BP.2 0 _ rfl).1
  have cP1 := (BP.2 1 _ rfl).1
  have zP := BP.1
  go_wp2_with fail
  refine hcon.mono ?_
  rintro e w3 ⟨rfl, hb3⟩
  clear cR0 cR1 cR2 cR3 cR4 cR5 zR cP0 cP1 zP hcon
  clear yP
  replace BP := BP.below hb3
  replace BR := BR.below hb3
  replace hat := hat.below hb3
  replace bl := Below_after bl hb3
  have yP := BP.1
  have yR := BR.1
  replace BP := BP.alloc (.cells #[.int .i64 0, .int .i64 0, .int .i64 0, .int .i64 0, .int .i64 0] 39)
  replace BR := BR.alloc (.cells #[.int .i64 0, .int .i64 0, .int .i64 0, .int .i64 0, .int .i64 0] 39)
  replace hat := hat.below ((Below.refl _ _).alloc (Nat.le_refl _) (.cells #[.int .i64 0, .int .i64 0, .int .i64 0, .int .i64 0, .int .i64 0] 39))
  replace bl := bl.alloc bl.size (.cells #[.int .i64 0, .int .i64 0, .int .i64 0, .int .i64 0, .int .i64 0] 39)
  have BX := Bx.new w3 [.int .i64 0, .int .i64 0, .int .i64 0, .int .i64 0, .int .i64 0] 39
  go_wp2_with fail
  go_ret
  exact ⟨rfl, bl⟩
set_option maxHeartbeats 2000000 in
set_option maxRecDepth 100000 in
theorem towner_made (a : Option Addr) (c : Nat) (l : List Ac) (h s : Int) (w : World) (hw : AcsAt w a l) (hm : l.length ≤ maxLen) (hq : lacB l 80 = true) (hc : getC (growR l) h s = 0) (hf : ¬ (getW (growR l) h s).frm = 0) :
    Calls Try.prog 4 #[.slice a l.length c, .agg #[.int .i64 h, .int .i64 s]] w fun e w' => e = .returned (.bool true) ∧ Below w.heap.size w w' := by
  have BP := Bx.new w [.int .i64 h, .int .i64 s] 24
  have bl := (Below.refl w.heap.size w).alloc (by first | exact Nat.le_refl _ | (simp <;> omega)) (.cells #[.int .i64 h, .int .i64 s] 24)
  have hlen := lac_len hq
  have hi := inv_grow l l.length (by omega)
  rw [List.take_length] at hi
  have hI : RmI (growR l) := ⟨hi.sz (by omega), hi.put, hi.wf⟩
  have hW := whole_grow l
  have hk : InvK 80 (growR l) := hi.mono (by omega)
  clear hi
  go_enter Try.func4, Try.ntmps4
  have hcon := made_any (w.alloc (.cells #[.int .i64 h, .int .i64 s] 24))
  go_wp2_with fail
  refine hcon.mono ?_
  rintro e w1 ⟨rfl, hb1⟩
  clear hcon
  replace BP := BP.below hb1
  replace bl := Below_after bl hb1
  have yP := BP.1
  have hg := grown_yes a c l w1 (hw.below bl) hm hq
  generalize growR l = g at hg hI hW hk hc hf
  clear hq hw hm hlen
  have hcon := hg
  clear hg
  go_wp2_with fail
  refine hcon.mono ?_
  rintro e w2 ⟨a0, a1, a2, a3, N0, N1, N2, N3, c0, c1, c2, c3, M, N, rfl, ⟨l0, l1, l2, l3, l4, l5⟩, hat, -, hb2⟩
  clear hcon
  clear yP
  replace BP := BP.below hb2
  replace bl := Below_after bl hb2
  have yP := BP.1
  replace BP := BP.alloc (.cells #[.slice a0 N0 c0, .slice a1 N1 c1, .slice a2 N2 c2, .slice a3 N3 c3, .int .i64 M, .int .i64 N] 31)
  replace hat := hat.below ((Below.refl _ _).alloc (Nat.le_refl _) (.cells #[.slice a0 N0 c0, .slice a1 N1 c1, .slice a2 N2 c2, .slice a3 N3 c3, .int .i64 M, .int .i64 N] 31))
  replace bl := bl.alloc bl.size (.cells #[.slice a0 N0 c0, .slice a1 N1 c1, .slice a2 N2 c2, .slice a3 N3 c3, .int .i64 M, .int .i64 N] 31)
  have BR := Bx.new w2 [.slice a0 N0 c0, .slice a1 N1 c1, .slice a2 N2 c2, .slice a3 N3 c3, .int .i64 M, .int .i64 N] 31
  have hgo := get_ok a0 a1 a2 a3 c0 c1 c2 c3 g h s _ hat hI.sz hc
  rw [l0, l1, l2, l3, l4, l5] at hgo
  generalize getW g h s = x at hgo hf
  have hf' : (x.frm != 0) = true := by simpa using hf
  have hcon := hgo
  have cR0 := (BR.2 0 _ rfl).1
  have cR1 := (BR.2 1 _ rfl).1
  have cR2 := (BR.2 2 _ rfl).1
  have cR3 := (BR.2 3 _ rfl).1
  have cR4 := (BR.2 4 _ rfl).1
  have cR5 := (BR.2 5 _ rfl).1
  have zR := BR.1
  have cP0 := (BP.2 0 _ rfl).1
  have cP1 := (BP.2 1 _ rfl).1
  have zP := BP.1
  go_wp2_with fail
  refine hcon.mono ?_
  rintro e w3 ⟨rfl, hb3⟩
  clear cR0 cR1 cR2 cR3 cR4 cR5 zR cP0 cP1 zP hcon
  clear yP
  replace BP := BP.below hb3
  replace BR := BR.below hb3
  replace hat := hat.below hb3
  replace bl := Below_after bl hb3
  have yP := BP.1
  have yR := BR.1
  replace BP := BP.alloc (.cells #[.int .i64 x.id, .int .i64 x.thing, .int .i64 x.rights, .int .i64 x.badge, .int .i64 x.frm] 39)
  replace BR := BR.alloc (.cells #[.int .i64 x.id, .int .i64 x.thing, .int .i64 x.rights, .int .i64 x.badge, .int .i64 x.frm] 39)
  replace hat := hat.below ((Below.refl _ _).alloc (Nat.le_refl _) (.cells #[.int .i64 x.id, .int .i64 x.thing, .int .i64 x.rights, .int .i64 x.badge, .int .i64 x.frm] 39))
  replace bl := bl.alloc bl.size (.cells #[.int .i64 x.id, .int .i64 x.thing, .int .i64 x.rights, .int .i64 x.badge, .int .i64 x.frm] 39)
  have BX := Bx.new w3 [.int .i64 x.id, .int .i64 x.thing, .int .i64 x.rights, .int .i64 x.badge, .int .i64 x.frm] 39
  clear hgo hf
  have cX0 := (BX.2 0 _ rfl).1
  have cX1 := (BX.2 1 _ rfl).1
  have cX2 := (BX.2 2 _ rfl).1
  have cX3 := (BX.2 3 _ rfl).1
  have cX4 := (BX.2 4 _ rfl).1
  have zX := BX.1
  go_wp2_with fail
  go_ret
  exact ⟨rfl, bl⟩
set_option maxHeartbeats 2000000 in
set_option maxRecDepth 100000 in
theorem towner_ok (a : Option Addr) (c : Nat) (l : List Ac) (h s : Int) (w : World) (hw : AcsAt w a l) (hm : l.length ≤ maxLen) (hq : lacB l 80 = true) (hc : getC (growR l) h s = 0) (hf : (getW (growR l) h s).frm = 0) :
    Calls Try.prog 4 #[.slice a l.length c, .agg #[.int .i64 h, .int .i64 s]] w fun e w' => e = .returned (.bool true) ∧ Below w.heap.size w w' := by
  have BP := Bx.new w [.int .i64 h, .int .i64 s] 24
  have bl := (Below.refl w.heap.size w).alloc (by first | exact Nat.le_refl _ | (simp <;> omega)) (.cells #[.int .i64 h, .int .i64 s] 24)
  have hlen := lac_len hq
  have hi := inv_grow l l.length (by omega)
  rw [List.take_length] at hi
  have hI : RmI (growR l) := ⟨hi.sz (by omega), hi.put, hi.wf⟩
  have hW := whole_grow l
  have hk : InvK 80 (growR l) := hi.mono (by omega)
  clear hi
  go_enter Try.func4, Try.ntmps4
  have hcon := made_any (w.alloc (.cells #[.int .i64 h, .int .i64 s] 24))
  go_wp2_with fail
  refine hcon.mono ?_
  rintro e w1 ⟨rfl, hb1⟩
  clear hcon
  replace BP := BP.below hb1
  replace bl := Below_after bl hb1
  have yP := BP.1
  have hg := grown_yes a c l w1 (hw.below bl) hm hq
  generalize growR l = g at hg hI hW hk hc hf
  clear hq hw hm hlen
  have hcon := hg
  clear hg
  go_wp2_with fail
  refine hcon.mono ?_
  rintro e w2 ⟨a0, a1, a2, a3, N0, N1, N2, N3, c0, c1, c2, c3, M, N, rfl, ⟨l0, l1, l2, l3, l4, l5⟩, hat, -, hb2⟩
  clear hcon
  clear yP
  replace BP := BP.below hb2
  replace bl := Below_after bl hb2
  have yP := BP.1
  replace BP := BP.alloc (.cells #[.slice a0 N0 c0, .slice a1 N1 c1, .slice a2 N2 c2, .slice a3 N3 c3, .int .i64 M, .int .i64 N] 31)
  replace hat := hat.below ((Below.refl _ _).alloc (Nat.le_refl _) (.cells #[.slice a0 N0 c0, .slice a1 N1 c1, .slice a2 N2 c2, .slice a3 N3 c3, .int .i64 M, .int .i64 N] 31))
  replace bl := bl.alloc bl.size (.cells #[.slice a0 N0 c0, .slice a1 N1 c1, .slice a2 N2 c2, .slice a3 N3 c3, .int .i64 M, .int .i64 N] 31)
  have BR := Bx.new w2 [.slice a0 N0 c0, .slice a1 N1 c1, .slice a2 N2 c2, .slice a3 N3 c3, .int .i64 M, .int .i64 N] 31
  obtain ⟨t1, t2⟩ := top_owner hW hc
  have hkd := rmI_of (inv_revoke hk h s) (by omega)
  have hgo := get_ok a0 a1 a2 a3 c0 c1 c2 c3 g h s _ hat hI.sz hc
  have hdo := fun (W : World) (hb : RmAt W a0 a1 a2 a3 c0 c1 c2 c3 g) => act_revoke a0 a1 a2 a3 c0 c1 c2 c3 g h s W hb hI
  rw [l0, l1, l2, l3, l4, l5] at hgo
  simp only [l0, l1, l2, l3, l4, l5] at hdo
  have hc' : dropC g h s = 0 := hc
  have t1' := find_pos_iff.2 t1
  generalize revokeR g h s = d at t1' t2 hkd hdo
  generalize getW g h s = x at t1' t2 hgo hf
  have hf' : (x.frm != 0) = false := by simpa using hf
  clear t1 hf
  have hcon := hgo
  have cR0 := (BR.2 0 _ rfl).1
  have cR1 := (BR.2 1 _ rfl).1
  have cR2 := (BR.2 2 _ rfl).1
  have cR3 := (BR.2 3 _ rfl).1
  have cR4 := (BR.2 4 _ rfl).1
  have cR5 := (BR.2 5 _ rfl).1
  have zR := BR.1
  have cP0 := (BP.2 0 _ rfl).1
  have cP1 := (BP.2 1 _ rfl).1
  have zP := BP.1
  go_wp2_with fail
  refine hcon.mono ?_
  rintro e w3 ⟨rfl, hb3⟩
  clear cR0 cR1 cR2 cR3 cR4 cR5 zR cP0 cP1 zP hcon
  clear yP
  replace BP := BP.below hb3
  replace BR := BR.below hb3
  replace hat := hat.below hb3
  replace bl := Below_after bl hb3
  have yP := BP.1
  have yR := BR.1
  replace BP := BP.alloc (.cells #[.int .i64 x.id, .int .i64 x.thing, .int .i64 x.rights, .int .i64 x.badge, .int .i64 x.frm] 39)
  replace BR := BR.alloc (.cells #[.int .i64 x.id, .int .i64 x.thing, .int .i64 x.rights, .int .i64 x.badge, .int .i64 x.frm] 39)
  replace hat := hat.below ((Below.refl _ _).alloc (Nat.le_refl _) (.cells #[.int .i64 x.id, .int .i64 x.thing, .int .i64 x.rights, .int .i64 x.badge, .int .i64 x.frm] 39))
  replace bl := bl.alloc bl.size (.cells #[.int .i64 x.id, .int .i64 x.thing, .int .i64 x.rights, .int .i64 x.badge, .int .i64 x.frm] 39)
  have BX := Bx.new w3 [.int .i64 x.id, .int .i64 x.thing, .int .i64 x.rights, .int .i64 x.badge, .int .i64 x.frm] 39
  clear hgo
  have cX0 := (BX.2 0 _ rfl).1
  have cX1 := (BX.2 1 _ rfl).1
  have cX2 := (BX.2 2 _ rfl).1
  have cX3 := (BX.2 3 _ rfl).1
  have cX4 := (BX.2 4 _ rfl).1
  have zX := BX.1
  have hcon := hdo _ hat
  have cR0 := (BR.2 0 _ rfl).1
  have cR1 := (BR.2 1 _ rfl).1
  have cR2 := (BR.2 2 _ rfl).1
  have cR3 := (BR.2 3 _ rfl).1
  have cR4 := (BR.2 4 _ rfl).1
  have cR5 := (BR.2 5 _ rfl).1
  have zR := BR.1
  have cP0 := (BP.2 0 _ rfl).1
  have cP1 := (BP.2 1 _ rfl).1
  have zP := BP.1
  go_wp2_with fail
  refine hcon.mono ?_
  rintro e w4 ⟨b0, b1, b2, b3, m0, m1, m2, m3, e0, e1, e2, e3, mm, nn, ev, rfl, hA, hb4⟩
  clear cR0 cR1 cR2 cR3 cR4 cR5 zR cP0 cP1 zP hcon
  clear yP yR
  replace BP := BP.below hb4
  replace BR := BR.below hb4
  replace BX := BX.below hb4
  replace hat := hat.below hb4
  replace bl := Below_after bl hb4
  have yP := BP.1
  have yR := BR.1
  have yX := BX.1
  obtain ⟨-, rfl, rfl, rfl, rfl, rfl, rfl, rfl, hat2, -⟩ := hA.resolve_right (fun h => h.1 hc')
  clear cX0 cX1 cX2 cX3 cX4 zX
  replace BP := BP.alloc (.cells #[.slice b0 d.ws.length e0, .slice b1 d.ts.length e1, .slice b2 d.hs.length e2, .slice b3 d.ns.length e3, .int .i64 d.nw, .int .i64 d.nt] 31)
  replace BR := BR.alloc (.cells #[.slice b0 d.ws.length e0, .slice b1 d.ts.length e1, .slice b2 d.hs.length e2, .slice b3 d.ns.length e3, .int .i64 d.nw, .int .i64 d.nt] 31)
  replace BX := BX.alloc (.cells #[.slice b0 d.ws.length e0, .slice b1 d.ts.length e1, .slice b2 d.hs.length e2, .slice b3 d.ns.length e3, .int .i64 d.nw, .int .i64 d.nt] 31)
  replace hat := hat.below ((Below.refl _ _).alloc (Nat.le_refl _) (.cells #[.slice b0 d.ws.length e0, .slice b1 d.ts.length e1, .slice b2 d.hs.length e2, .slice b3 d.ns.length e3, .int .i64 d.nw, .int .i64 d.nt] 31))
  replace hat2 := hat2.below ((Below.refl _ _).alloc (Nat.le_refl _) (.cells #[.slice b0 d.ws.length e0, .slice b1 d.ts.length e1, .slice b2 d.hs.length e2, .slice b3 d.ns.length e3, .int .i64 d.nw, .int .i64 d.nt] 31))
  replace bl := bl.alloc bl.size (.cells #[.slice b0 d.ws.length e0, .slice b1 d.ts.length e1, .slice b2 d.hs.length e2, .slice b3 d.ns.length e3, .int .i64 d.nw, .int .i64 d.nt] 31)
  have BY := Bx.new w4 [.slice b0 d.ws.length e0, .slice b1 d.ts.length e1, .slice b2 d.hs.length e2, .slice b3 d.ns.length e3, .int .i64 d.nw, .int .i64 d.nt] 31
  clear hdo
  have hsz := hkd.sz.w
  have hfw := hat2.fw
  go_wp2_with fail
  generalize (w4.alloc (.cells #[.slice b0 d.ws.length e0, .slice b1 d.ts.length e1, .slice b2 d.hs.length e2, .slice b3 d.ns.length e3, .int .i64 d.nw, .int .i64 d.nt] 31)) = v0 at *
  go_loopw [10] (fun i wr => ∃ k : Nat, k ≤ d.ws.length ∧ i = .int .i64 k ∧ Below v0.heap.size v0 wr) (fun i _ => d.ws.length - (intOf i).toNat)
  case atStart => exact ⟨0, Nat.zero_le _, rfl, Below.refl _ _⟩
  case round =>
    obtain ⟨k, hk', rfl, hbl⟩ := hrel
    clear yP yR yX
    replace BP := BP.below hbl
    replace BR := BR.below hbl
    replace BX := BX.below hbl
    replace BY := BY.below hbl
    replace hat := hat.below hbl
    replace hat2 := hat2.below hbl
    replace bl := Below_after bl hbl
    have yP := BP.1
    have yR := BR.1
    have yX := BX.1
    have yY := BY.1
    have cY0 := (BY.2 0 _ rfl).1
    have cY1 := (BY.2 1 _ rfl).1
    have cY2 := (BY.2 2 _ rfl).1
    have cY3 := (BY.2 3 _ rfl).1
    have cY4 := (BY.2 4 _ rfl).1
    have cY5 := (BY.2 5 _ rfl).1
    have zY := BY.1
    have cX0 := (BX.2 0 _ rfl).1
    have cX1 := (BX.2 1 _ rfl).1
    have cX2 := (BX.2 2 _ rfl).1
    have cX3 := (BX.2 3 _ rfl).1
    have cX4 := (BX.2 4 _ rfl).1
    have zX := BX.1
    by_cases hlt : k < d.ws.length
    rotate_left
    · have hcon := find_any b0 e0 d.ws x.id wr hat2.w (by omega)
      generalize find d.ws x.id = f at hcon t1'
      have hf0 : decide (0 ≤ f) = true := decide_eq_true t1'
      go_wp2_with fail
      refine hcon.mono ?_
      rintro e w9 ⟨rfl, hb9⟩
      replace bl := Below_after bl hb9
      go_wp2_with fail
      go_ret
      exact ⟨rfl, bl⟩
    · obtain ⟨v, hv⟩ : ∃ v, d.ws[k]? = some v := ⟨d.ws[k], List.getElem?_eq_getElem hlt⟩
      have hvm : v ∈ d.ws := List.mem_of_getElem? hv
      obtain ⟨u1, u2⟩ := t2 v hvm
      obtain ⟨b, o, rfl, hb, hww⟩ := hat2.w.resolve_left (by rintro e; rw [e] at hlt; simp at hlt)
      obtain ⟨q1, q2, q3, q4, q5⟩ := hww k v hv
      have hF := hbl.alloc hbl.size (.cells #[.int .i64 v.id, .int .i64 v.thing, .int .i64 v.rights, .int .i64 v.badge, .int .i64 v.frm] 39)
      have hcon := above_any (some ⟨b, o, none⟩) e0 d.ws v.id _ (hat2.w.below ((Below.refl _ _).alloc (Nat.le_refl _) (.cells #[.int .i64 v.id, .int .i64 v.thing, .int .i64 v.rights, .int .i64 v.badge, .int .i64 v.frm] 39))) hsz hfw.1 hfw.2
      have hAl := aboveLen d.ws v.id
      generalize aboveL d.ws v.id = A at hcon u1 u2 hAl
      clear t2 hww hv hvm
      have hcs : (v.thing != x.thing) = true ∨ (v.thing != x.thing) = false ∧ (v.id == x.id) = true ∨ (v.thing != x.thing) = false ∧ (v.id == x.id) = false := by
        cases (v.thing != x.thing) <;> cases (v.id == x.id) <;> simp
      rcases hcs with c1 | ⟨c1, c2⟩ | ⟨c1, c2⟩
      · go_wp2_with fail
        go_roundw
        case rel => exact ⟨k + 1, by omega, by go_num, hF⟩
        case measure => simp [intOf]; omega
      · go_wp2_with fail
        go_roundw
        case rel => exact ⟨k + 1, by omega, by go_num, hF⟩
        case measure => simp [intOf]; omega
      have BV := Bx.new wr [.int .i64 v.id, .int .i64 v.thing, .int .i64 v.rights, .int .i64 v.badge, .int .i64 v.frm] 39
      have BX2 := BX.alloc (.cells #[.int .i64 v.id, .int .i64 v.thing, .int .i64 v.rights, .int .i64 v.badge, .int .i64 v.frm] 39)
      go_wp2_with fail
      refine hcon.mono ?_
      rintro e w6 ⟨av, cv, rfl, hints, hav, hb6⟩
      clear cY0 cY1 cY2 cY3 cY4 cY5 zY cX0 cX1 cX2 cX3 cX4 zX hcon q1 q2 q3 q4 q5 c1 c2
      replace BV := BV.below hb6
      replace BX2 := BX2.below hb6
      replace hF := Below_after hF hb6
      have cV0 := (BV.2 0 _ rfl).1
      have cV1 := (BV.2 1 _ rfl).1
      have cV2 := (BV.2 2 _ rfl).1
      have cV3 := (BV.2 3 _ rfl).1
      have cV4 := (BV.2 4 _ rfl).1
      have cX0 := (BX2.2 0 _ rfl).1
      have cX1 := (BX2.2 1 _ rfl).1
      have cX2 := (BX2.2 2 _ rfl).1
      have cX3 := (BX2.2 3 _ rfl).1
      have cX4 := (BX2.2 4 _ rfl).1
      have zV := BV.1
      have zX := BX2.1
      have hAs : A.length ≤ 1000 := by omega
      cases A with
      | nil =>
        have hfv : (v.frm != 0) = false := by simpa using u1 rfl
        clear u1 u2
        go_wp2_with fail
        go_quiet (fail)
        go_wp2_with fail
        go_roundw
        case rel => exact ⟨k + 1, by omega, by go_num, below_drewN hF _⟩
        case measure => simp [intOf]; omega
      | cons z A' =>
        obtain ⟨ba, oa, rfl, hia⟩ := hints.resolve_left (by simp)
        have hba := hav ba oa rfl
        have hlast := hia A'.length (by simp)
        rw [getD_at (by simp)] at hlast
        have hlm : (z :: A')[A'.length] ∈ z :: A' := List.getElem_mem _
        generalize (z :: A')[A'.length] = q at hlast hlm
        have hqn : (q == x.id) = false := by
          cases hh : (q == x.id) with
          | false => rfl
          | true => exact absurd (by rw [← (beq_iff_eq.1 hh)]; exact hlm) u2
        clear u1 u2 hia hlm
        rw [List.length_cons] at hAs hAl ⊢
        generalize A'.length = n at *
        have dn0 : ((n : Int) + 1 == 0) = false := by simp; omega
        have dn1 : decide (0 < (n : Int) + 1) = true := decide_eq_true (by omega)
        have dn2 : (((n + 1 : Nat) : Int) == 0) = false := by simp; omega
        have dn3 : decide (0 < ((n + 1 : Nat) : Int)) = true := decide_eq_true (by omega)
        go_wp2_with fail
        go_quiet (fail)
        go_wp2_with fail
        go_roundw
        case rel => exact ⟨k + 1, by omega, by go_num, below_drewN hF _⟩
        case measure => simp [intOf]; omega
theorem towner_yes (a : Option Addr) (c : Nat) (l : List Ac) (h s : Int) (w : World) (hw : AcsAt w a l) (hm : l.length ≤ maxLen) (hq : lacB l 80 = true) :
    Calls Try.prog 4 #[.slice a l.length c, .agg #[.int .i64 h, .int .i64 s]] w fun e w' => e = .returned (.bool true) ∧ Below w.heap.size w w' := by
  by_cases hc : getC (growR l) h s = 0
  · by_cases hf : (getW (growR l) h s).frm = 0
    · exact towner_ok a c l h s w hw hm hq hc hf
    · exact towner_made a c l h s w hw hm hq hc hf
  · exact towner_err a c l h s w hw hm hq hc
theorem towner_any (w : World) (a : Option Addr) (l : List Ac) (c : Nat) (hw : AcsAt w a l) (hm : l.length ≤ maxLen) (h s : Int) :
    Calls Try.prog 4 #[.slice a l.length c, .agg #[.int .i64 h, .int .i64 s]] w fun e w' => e = .returned (.bool true) ∧ Below w.heap.size w w' := by
  cases hq : lacB l 80
  · exact towner_no a c l h s w hw hm hq
  · exact towner_yes a c l h s w hw hm hq
end Go.Proofs.Ytihckdndecbefae
