/- TopCell, walked. -/
import Derived.Test.YtihckdndecbefadGrownB
import Derived.Test.YtihckdndecbefadMadeW
import Derived.Test.YtihckdndecbefadNumW
import Derived.Test.YtihckdndecbefadSameW
import Derived.Test.YtihckdndecbefadReadW
set_option linter.unusedSimpArgs false
set_option linter.unnecessarySimpa false
set_option linter.unusedVariables false
namespace Go.Proofs.Ytihckdndecbefad
open Go.RowKit

set_option maxHeartbeats 2000000 in
set_option maxRecDepth 100000 in
theorem tcell_no (a : Option Addr) (c : Nat) (l : List Ac) (h s u t : Int) (dt : ByteArray) (w : World) (hw : AcsAt w a l) (hm : l.length ≤ maxLen) (hq : lacB l 80 = false) :
    Calls Try.prog 4 #[.slice a l.length c, .agg #[.int .i64 h, .int .i64 s], .agg #[.int .i64 u, .int .i64 t], .string dt] w fun e w' => e = .returned (.bool true) ∧ Below w.heap.size w w' := by
  have BP := Bx.new w [.int .i64 h, .int .i64 s] 24
  replace BP := BP.alloc (.cells #[.int .i64 u, .int .i64 t] 24)
  have BQ := Bx.new (w.alloc (.cells #[.int .i64 h, .int .i64 s] 24)) [.int .i64 u, .int .i64 t] 24
  rw [sz_alloc] at BQ
  have bl := ((Below.refl w.heap.size w).alloc (by first | exact Nat.le_refl _ | (simp <;> omega)) (.cells #[.int .i64 h, .int .i64 s] 24)).alloc (by first | exact Nat.le_refl _ | (simp <;> omega)) (.cells #[.int .i64 u, .int .i64 t] 24)
  go_enter Try.func4, Try.ntmps4
  have hcon := made_any ((w.alloc (.cells #[.int .i64 h, .int .i64 s] 24)).alloc (.cells #[.int .i64 u, .int .i64 t] 24))
  go_wp2_with fail
  refine hcon.mono ?_
  rintro e w1 ⟨rfl, hb1⟩
  clear hcon
  replace BP := BP.below hb1
  replace BQ := BQ.below hb1
  replace bl := Below_after bl hb1
  have yP := BP.1
  have yQ := BQ.1
  have hcon := grown_no a c l w1 (hw.below bl) hm hq
  go_wp2_with fail
  refine hcon.mono ?_
  rintro e w2 ⟨rfl, hb2⟩
  clear hcon
  clear yP yQ
  replace BP := BP.below hb2
  replace BQ := BQ.below hb2
  replace bl := Below_after bl hb2
  have yP := BP.1
  have yQ := BQ.1
  replace BP := BP.alloc (.cells #[.slice none 0 0, .slice none 0 0, .slice none 0 0, .slice none 0 0, .int .i64 0, .int .i64 0] 31)
  replace BQ := BQ.alloc (.cells #[.slice none 0 0, .slice none 0 0, .slice none 0 0, .slice none 0 0, .int .i64 0, .int .i64 0] 31)
  replace bl := bl.alloc bl.size (.cells #[.slice none 0 0, .slice none 0 0, .slice none 0 0, .slice none 0 0, .int .i64 0, .int .i64 0] 31)
  have BZ := Bx.new w2 [.slice none 0 0, .slice none 0 0, .slice none 0 0, .slice none 0 0, .int .i64 0, .int .i64 0] 31
  go_wp2_with fail
  go_ret
  exact ⟨rfl, bl⟩
set_option maxHeartbeats 2000000 in
set_option maxRecDepth 100000 in
theorem tcell_long (a : Option Addr) (c : Nat) (l : List Ac) (h s u t : Int) (dt : ByteArray) (w : World) (hw : AcsAt w a l) (hm : l.length ≤ maxLen) (hq : lacB l 80 = true) (hd : ¬ dt.size ≤ 20) :
    Calls Try.prog 4 #[.slice a l.length c, .agg #[.int .i64 h, .int .i64 s], .agg #[.int .i64 u, .int .i64 t], .string dt] w fun e w' => e = .returned (.bool true) ∧ Below w.heap.size w w' := by
  have BP := Bx.new w [.int .i64 h, .int .i64 s] 24
  replace BP := BP.alloc (.cells #[.int .i64 u, .int .i64 t] 24)
  have BQ := Bx.new (w.alloc (.cells #[.int .i64 h, .int .i64 s] 24)) [.int .i64 u, .int .i64 t] 24
  rw [sz_alloc] at BQ
  have bl := ((Below.refl w.heap.size w).alloc (by first | exact Nat.le_refl _ | (simp <;> omega)) (.cells #[.int .i64 h, .int .i64 s] 24)).alloc (by first | exact Nat.le_refl _ | (simp <;> omega)) (.cells #[.int .i64 u, .int .i64 t] 24)
  have hlen := lac_len hq
  have hi := inv_grow l l.length (by omega)
  rw [List.take_length] at hi
  have hI : RmI (growR l) := ⟨hi.sz (by omega), hi.put, hi.wf⟩
  have hW := whole_grow l
  have hk : InvK 80 (growR l) := hi.mono (by omega)
  clear hi
  go_enter Try.func4, Try.ntmps4
  have hcon := made_any ((w.alloc (.cells #[.int .i64 h, .int .i64 s] 24)).alloc (.cells #[.int .i64 u, .int .i64 t] 24))
  go_wp2_with fail
  refine hcon.mono ?_
  rintro e w1 ⟨rfl, hb1⟩
  clear hcon
  replace BP := BP.below hb1
  replace BQ := BQ.below hb1
  replace bl := Below_after bl hb1
  have yP := BP.1
  have yQ := BQ.1
  have hg := grown_yes a c l w1 (hw.below bl) hm hq
  generalize growR l = g at hg hI hW hk
  clear hq hw hm hlen
  have hcon := hg
  clear hg
  go_wp2_with fail
  refine hcon.mono ?_
  rintro e w2 ⟨a0, a1, a2, a3, N0, N1, N2, N3, c0, c1, c2, c3, M, N, rfl, ⟨l0, l1, l2, l3, l4, l5⟩, hat, -, hb2⟩
  clear hcon
  clear yP yQ
  replace BP := BP.below hb2
  replace BQ := BQ.below hb2
  replace bl := Below_after bl hb2
  have yP := BP.1
  have yQ := BQ.1
  replace BP := BP.alloc (.cells #[.slice a0 N0 c0, .slice a1 N1 c1, .slice a2 N2 c2, .slice a3 N3 c3, .int .i64 M, .int .i64 N] 31)
  replace BQ := BQ.alloc (.cells #[.slice a0 N0 c0, .slice a1 N1 c1, .slice a2 N2 c2, .slice a3 N3 c3, .int .i64 M, .int .i64 N] 31)
  replace hat := hat.below ((Below.refl _ _).alloc (Nat.le_refl _) (.cells #[.slice a0 N0 c0, .slice a1 N1 c1, .slice a2 N2 c2, .slice a3 N3 c3, .int .i64 M, .int .i64 N] 31))
  replace bl := bl.alloc bl.size (.cells #[.slice a0 N0 c0, .slice a1 N1 c1, .slice a2 N2 c2, .slice a3 N3 c3, .int .i64 M, .int .i64 N] 31)
  have BR := Bx.new w2 [.slice a0 N0 c0, .slice a1 N1 c1, .slice a2 N2 c2, .slice a3 N3 c3, .int .i64 M, .int .i64 N] 31
  have hdl : decide ((20 : Int) < (dt.size : Int)) = true := decide_eq_true (by omega)
  go_wp2_with fail
  go_ret
  exact ⟨rfl, bl⟩
set_option maxHeartbeats 2000000 in
set_option maxRecDepth 100000 in
theorem tcell_e1 (a : Option Addr) (c : Nat) (l : List Ac) (h s u t : Int) (dt : ByteArray) (w : World) (hw : AcsAt w a l) (hm : l.length ≤ maxLen) (hq : lacB l 80 = true) (hd : dt.size ≤ 20) (hc : writeC (growR l) h s dt ≠ 0) (hr : whoC (growR l) u t 1 1 = 0) :
    Calls Try.prog 4 #[.slice a l.length c, .agg #[.int .i64 h, .int .i64 s], .agg #[.int .i64 u, .int .i64 t], .string dt] w fun e w' => e = .returned (.bool true) ∧ Below w.heap.size w w' := by
  have BP := Bx.new w [.int .i64 h, .int .i64 s] 24
  replace BP := BP.alloc (.cells #[.int .i64 u, .int .i64 t] 24)
  have BQ := Bx.new (w.alloc (.cells #[.int .i64 h, .int .i64 s] 24)) [.int .i64 u, .int .i64 t] 24
  rw [sz_alloc] at BQ
  have bl := ((Below.refl w.heap.size w).alloc (by first | exact Nat.le_refl _ | (simp <;> omega)) (.cells #[.int .i64 h, .int .i64 s] 24)).alloc (by first | exact Nat.le_refl _ | (simp <;> omega)) (.cells #[.int .i64 u, .int .i64 t] 24)
  have hlen := lac_len hq
  have hi := inv_grow l l.length (by omega)
  rw [List.take_length] at hi
  have hI : RmI (growR l) := ⟨hi.sz (by omega), hi.put, hi.wf⟩
  have hW := whole_grow l
  have hk : InvK 80 (growR l) := hi.mono (by omega)
  clear hi
  go_enter Try.func4, Try.ntmps4
  have hcon := made_any ((w.alloc (.cells #[.int .i64 h, .int .i64 s] 24)).alloc (.cells #[.int .i64 u, .int .i64 t] 24))
  go_wp2_with fail
  refine hcon.mono ?_
  rintro e w1 ⟨rfl, hb1⟩
  clear hcon
  replace BP := BP.below hb1
  replace BQ := BQ.below hb1
  replace bl := Below_after bl hb1
  have yP := BP.1
  have yQ := BQ.1
  have hg := grown_yes a c l w1 (hw.below bl) hm hq
  generalize growR l = g at hg hI hW hk hc hr
  clear hq hw hm hlen
  have hcon := hg
  clear hg
  go_wp2_with fail
  refine hcon.mono ?_
  rintro e w2 ⟨a0, a1, a2, a3, N0, N1, N2, N3, c0, c1, c2, c3, M, N, rfl, ⟨l0, l1, l2, l3, l4, l5⟩, hat, -, hb2⟩
  clear hcon
  clear yP yQ
  replace BP := BP.below hb2
  replace BQ := BQ.below hb2
  replace bl := Below_after bl hb2
  have yP := BP.1
  have yQ := BQ.1
  replace BP := BP.alloc (.cells #[.slice a0 N0 c0, .slice a1 N1 c1, .slice a2 N2 c2, .slice a3 N3 c3, .int .i64 M, .int .i64 N] 31)
  replace BQ := BQ.alloc (.cells #[.slice a0 N0 c0, .slice a1 N1 c1, .slice a2 N2 c2, .slice a3 N3 c3, .int .i64 M, .int .i64 N] 31)
  replace hat := hat.below ((Below.refl _ _).alloc (Nat.le_refl _) (.cells #[.slice a0 N0 c0, .slice a1 N1 c1, .slice a2 N2 c2, .slice a3 N3 c3, .int .i64 M, .int .i64 N] 31))
  replace bl := bl.alloc bl.size (.cells #[.slice a0 N0 c0, .slice a1 N1 c1, .slice a2 N2 c2, .slice a3 N3 c3, .int .i64 M, .int .i64 N] 31)
  have BR := Bx.new w2 [.slice a0 N0 c0, .slice a1 N1 c1, .slice a2 N2 c2, .slice a3 N3 c3, .int .i64 M, .int .i64 N] 31
  have hdl : decide ((20 : Int) < (dt.size : Int)) = false := decide_eq_false (by omega)
  have hcon := get_any a0 a1 a2 a3 c0 c1 c2 c3 g h s _ hat hI.sz
  rw [l0, l1, l2, l3, l4, l5] at hcon
  have cR0 := (BR.2 0 _ rfl).1
  have cR1 := (BR.2 1 _ rfl).1
  have cR2 := (BR.2 2 _ rfl).1
  have cR3 := (BR.2 3 _ rfl).1
  have cR4 := (BR.2 4 _ rfl).1
  have cR5 := (BR.2 5 _ rfl).1
  have zR := BR.1
  have cP0 := (BP.2 0 _ rfl).1
  have cP1 := (BP.2 1 _ rfl).1
  have zP := BP.1
  go_wp2_with fail
  refine hcon.mono ?_
  rintro e w3 ⟨x, ev1, rfl, hG1, hb3⟩
  clear cR0 cR1 cR2 cR3 cR4 cR5 zR cP0 cP1 zP hcon
  clear yP yQ
  replace BP := BP.below hb3
  replace BQ := BQ.below hb3
  replace BR := BR.below hb3
  replace hat := hat.below hb3
  replace bl := Below_after bl hb3
  have yP := BP.1
  have yQ := BQ.1
  have yR := BR.1
  replace BP := BP.alloc (.cells #[.int .i64 x.id, .int .i64 x.thing, .int .i64 x.rights, .int .i64 x.badge, .int .i64 x.frm] 35)
  replace BQ := BQ.alloc (.cells #[.int .i64 x.id, .int .i64 x.thing, .int .i64 x.rights, .int .i64 x.badge, .int .i64 x.frm] 35)
  replace BR := BR.alloc (.cells #[.int .i64 x.id, .int .i64 x.thing, .int .i64 x.rights, .int .i64 x.badge, .int .i64 x.frm] 35)
  replace hat := hat.below ((Below.refl _ _).alloc (Nat.le_refl _) (.cells #[.int .i64 x.id, .int .i64 x.thing, .int .i64 x.rights, .int .i64 x.badge, .int .i64 x.frm] 35))
  replace bl := bl.alloc bl.size (.cells #[.int .i64 x.id, .int .i64 x.thing, .int .i64 x.rights, .int .i64 x.badge, .int .i64 x.frm] 35)
  have BX := Bx.new w3 [.int .i64 x.id, .int .i64 x.thing, .int .i64 x.rights, .int .i64 x.badge, .int .i64 x.frm] 35
  obtain ⟨r1, -, r3⟩ := who_facts hr
  have hcon := get_ok a0 a1 a2 a3 c0 c1 c2 c3 g u t _ hat hI.sz r1
  rw [l0, l1, l2, l3, l4, l5] at hcon
  have cR0 := (BR.2 0 _ rfl).1
  have cR1 := (BR.2 1 _ rfl).1
  have cR2 := (BR.2 2 _ rfl).1
  have cR3 := (BR.2 3 _ rfl).1
  have cR4 := (BR.2 4 _ rfl).1
  have cR5 := (BR.2 5 _ rfl).1
  have zR := BR.1
  have cQ0 := (BQ.2 0 _ rfl).1
  have cQ1 := (BQ.2 1 _ rfl).1
  have zQ := BQ.1
  go_wp2_with fail
  refine hcon.mono ?_
  rintro e w4 ⟨rfl, hb4⟩
  clear cR0 cR1 cR2 cR3 cR4 cR5 zR cQ0 cQ1 zQ hcon
  clear yP yQ yR
  replace BP := BP.below hb4
  replace BQ := BQ.below hb4
  replace BR := BR.below hb4
  replace BX := BX.below hb4
  replace hat := hat.below hb4
  replace bl := Below_after bl hb4
  have yP := BP.1
  have yQ := BQ.1
  have yR := BR.1
  have yX := BX.1
  replace BP := BP.alloc (.cells #[.int .i64 (getW g u t).id, .int .i64 (getW g u t).thing, .int .i64 (getW g u t).rights, .int .i64 (getW g u t).badge, .int .i64 (getW g u t).frm] 35)
  replace BQ := BQ.alloc (.cells #[.int .i64 (getW g u t).id, .int .i64 (getW g u t).thing, .int .i64 (getW g u t).rights, .int .i64 (getW g u t).badge, .int .i64 (getW g u t).frm] 35)
  replace BR := BR.alloc (.cells #[.int .i64 (getW g u t).id, .int .i64 (getW g u t).thing, .int .i64 (getW g u t).rights, .int .i64 (getW g u t).badge, .int .i64 (getW g u t).frm] 35)
  replace BX := BX.alloc (.cells #[.int .i64 (getW g u t).id, .int .i64 (getW g u t).thing, .int .i64 (getW g u t).rights, .int .i64 (getW g u t).badge, .int .i64 (getW g u t).frm] 35)
  replace hat := hat.below ((Below.refl _ _).alloc (Nat.le_refl _) (.cells #[.int .i64 (getW g u t).id, .int .i64 (getW g u t).thing, .int .i64 (getW g u t).rights, .int .i64 (getW g u t).badge, .int .i64 (getW g u t).frm] 35))
  replace bl := bl.alloc bl.size (.cells #[.int .i64 (getW g u t).id, .int .i64 (getW g u t).thing, .int .i64 (getW g u t).rights, .int .i64 (getW g u t).badge, .int .i64 (getW g u t).frm] 35)
  have BV := Bx.new w4 [.int .i64 (getW g u t).id, .int .i64 (getW g u t).thing, .int .i64 (getW g u t).rights, .int .i64 (getW g u t).badge, .int .i64 (getW g u t).frm] 35
  have hcon := act_write a0 a1 a2 a3 c0 c1 c2 c3 g h s dt _ hat hI (by unfold maxLen; omega)
  rw [l0, l1, l2, l3, l4, l5] at hcon
  have cR0 := (BR.2 0 _ rfl).1
  have cR1 := (BR.2 1 _ rfl).1
  have cR2 := (BR.2 2 _ rfl).1
  have cR3 := (BR.2 3 _ rfl).1
  have cR4 := (BR.2 4 _ rfl).1
  have cR5 := (BR.2 5 _ rfl).1
  have zR := BR.1
  have cP0 := (BP.2 0 _ rfl).1
  have cP1 := (BP.2 1 _ rfl).1
  have zP := BP.1
  go_wp2_with fail
  refine hcon.mono ?_
  rintro e w5 ⟨b0, b1, b2, b3, m0, m1, m2, m3, e0, e1, e2, e3, mm, nn, ev, rfl, hA, hb5⟩
  clear cR0 cR1 cR2 cR3 cR4 cR5 zR cP0 cP1 zP hcon
  clear yP yQ yR yX
  replace BP := BP.below hb5
  replace BQ := BQ.below hb5
  replace BR := BR.below hb5
  replace BX := BX.below hb5
  replace BV := BV.below hb5
  replace hat := hat.below hb5
  replace bl := Below_after bl hb5
  have yP := BP.1
  have yQ := BQ.1
  have yR := BR.1
  have yX := BX.1
  have yV := BV.1
  obtain ⟨-, rfl, rfl, rfl, rfl, rfl, rfl, rfl, rfl, rfl, rfl, rfl, rfl, rfl, rfl, rfl⟩ := hA.resolve_left (fun h => hc h.1)
  replace BP := BP.alloc (.cells #[.slice none 0 0, .slice none 0 0, .slice none 0 0, .slice none 0 0, .int .i64 0, .int .i64 0] 31)
  replace BQ := BQ.alloc (.cells #[.slice none 0 0, .slice none 0 0, .slice none 0 0, .slice none 0 0, .int .i64 0, .int .i64 0] 31)
  replace BR := BR.alloc (.cells #[.slice none 0 0, .slice none 0 0, .slice none 0 0, .slice none 0 0, .int .i64 0, .int .i64 0] 31)
  replace BX := BX.alloc (.cells #[.slice none 0 0, .slice none 0 0, .slice none 0 0, .slice none 0 0, .int .i64 0, .int .i64 0] 31)
  replace BV := BV.alloc (.cells #[.slice none 0 0, .slice none 0 0, .slice none 0 0, .slice none 0 0, .int .i64 0, .int .i64 0] 31)
  replace hat := hat.below ((Below.refl _ _).alloc (Nat.le_refl _) (.cells #[.slice none 0 0, .slice none 0 0, .slice none 0 0, .slice none 0 0, .int .i64 0, .int .i64 0] 31))
  replace bl := bl.alloc bl.size (.cells #[.slice none 0 0, .slice none 0 0, .slice none 0 0, .slice none 0 0, .int .i64 0, .int .i64 0] 31)
  have BY := Bx.new w5 [.slice none 0 0, .slice none 0 0, .slice none 0 0, .slice none 0 0, .int .i64 0, .int .i64 0] 31
  have hcon := read_ok a0 a1 a2 a3 c0 c1 c2 c3 g u t _ hat hI.sz hr
  rw [l0, l1, l2, l3, l4, l5] at hcon
  have cR0 := (BR.2 0 _ rfl).1
  have cR1 := (BR.2 1 _ rfl).1
  have cR2 := (BR.2 2 _ rfl).1
  have cR3 := (BR.2 3 _ rfl).1
  have cR4 := (BR.2 4 _ rfl).1
  have cR5 := (BR.2 5 _ rfl).1
  have zR := BR.1
  have cQ0 := (BQ.2 0 _ rfl).1
  have cQ1 := (BQ.2 1 _ rfl).1
  have zQ := BQ.1
  go_wp2_with fail
  refine hcon.mono ?_
  rintro e w6 ⟨rfl, hb6⟩
  clear cR0 cR1 cR2 cR3 cR4 cR5 zR cQ0 cQ1 zQ hcon
  clear yP yQ yR yX yV
  replace BP := BP.below hb6
  replace BQ := BQ.below hb6
  replace BR := BR.below hb6
  replace BX := BX.below hb6
  replace BV := BV.below hb6
  replace BY := BY.below hb6
  replace hat := hat.below hb6
  replace bl := Below_after bl hb6
  have yP := BP.1
  have yQ := BQ.1
  have yR := BR.1
  have yX := BX.1
  have yV := BV.1
  have yY := BY.1
  generalize readD g u t = sv at *
  have hcon := has_any (getW g u t).rights 1 w6
  rw [r3] at hcon
  have cV0 := (BV.2 0 _ rfl).1
  have cV1 := (BV.2 1 _ rfl).1
  have cV2 := (BV.2 2 _ rfl).1
  have cV3 := (BV.2 3 _ rfl).1
  have cV4 := (BV.2 4 _ rfl).1
  have zV := BV.1
  go_wp2_with fail
  refine hcon.mono ?_
  rintro e w' ⟨rfl, hw'⟩
  rw [hw']
  clear hw' w' hcon
  go_wp2_with fail
  go_ret
  exact ⟨rfl, bl⟩
set_option maxHeartbeats 2000000 in
set_option maxRecDepth 100000 in
theorem tcell_e2 (a : Option Addr) (c : Nat) (l : List Ac) (h s u t : Int) (dt : ByteArray) (w : World) (hw : AcsAt w a l) (hm : l.length ≤ maxLen) (hq : lacB l 80 = true) (hd : dt.size ≤ 20) (hc : writeC (growR l) h s dt ≠ 0) (hr : whoC (growR l) u t 1 1 ≠ 0) :
    Calls Try.prog 4 #[.slice a l.length c, .agg #[.int .i64 h, .int .i64 s], .agg #[.int .i64 u, .int .i64 t], .string dt] w fun e w' => e = .returned (.bool true) ∧ Below w.heap.size w w' := by
  have BP := Bx.new w [.int .i64 h, .int .i64 s] 24
  replace BP := BP.alloc (.cells #[.int .i64 u, .int .i64 t] 24)
  have BQ := Bx.new (w.alloc (.cells #[.int .i64 h, .int .i64 s] 24)) [.int .i64 u, .int .i64 t] 24
  rw [sz_alloc] at BQ
  have bl := ((Below.refl w.heap.size w).alloc (by first | exact Nat.le_refl _ | (simp <;> omega)) (.cells #[.int .i64 h, .int .i64 s] 24)).alloc (by first | exact Nat.le_refl _ | (simp <;> omega)) (.cells #[.int .i64 u, .int .i64 t] 24)
  have hlen := lac_len hq
  have hi := inv_grow l l.length (by omega)
  rw [List.take_length] at hi
  have hI : RmI (growR l) := ⟨hi.sz (by omega), hi.put, hi.wf⟩
  have hW := whole_grow l
  have hk : InvK 80 (growR l) := hi.mono (by omega)
  clear hi
  go_enter Try.func4, Try.ntmps4
  have hcon := made_any ((w.alloc (.cells #[.int .i64 h, .int .i64 s] 24)).alloc (.cells #[.int .i64 u, .int .i64 t] 24))
  go_wp2_with fail
  refine hcon.mono ?_
  rintro e w1 ⟨rfl, hb1⟩
  clear hcon
  replace BP := BP.below hb1
  replace BQ := BQ.below hb1
  replace bl := Below_after bl hb1
  have yP := BP.1
  have yQ := BQ.1
  have hg := grown_yes a c l w1 (hw.below bl) hm hq
  generalize growR l = g at hg hI hW hk hc hr
  clear hq hw hm hlen
  have hcon := hg
  clear hg
  go_wp2_with fail
  refine hcon.mono ?_
  rintro e w2 ⟨a0, a1, a2, a3, N0, N1, N2, N3, c0, c1, c2, c3, M, N, rfl, ⟨l0, l1, l2, l3, l4, l5⟩, hat, -, hb2⟩
  clear hcon
  clear yP yQ
  replace BP := BP.below hb2
  replace BQ := BQ.below hb2
  replace bl := Below_after bl hb2
  have yP := BP.1
  have yQ := BQ.1
  replace BP := BP.alloc (.cells #[.slice a0 N0 c0, .slice a1 N1 c1, .slice a2 N2 c2, .slice a3 N3 c3, .int .i64 M, .int .i64 N] 31)
  replace BQ := BQ.alloc (.cells #[.slice a0 N0 c0, .slice a1 N1 c1, .slice a2 N2 c2, .slice a3 N3 c3, .int .i64 M, .int .i64 N] 31)
  replace hat := hat.below ((Below.refl _ _).alloc (Nat.le_refl _) (.cells #[.slice a0 N0 c0, .slice a1 N1 c1, .slice a2 N2 c2, .slice a3 N3 c3, .int .i64 M, .int .i64 N] 31))
  replace bl := bl.alloc bl.size (.cells #[.slice a0 N0 c0, .slice a1 N1 c1, .slice a2 N2 c2, .slice a3 N3 c3, .int .i64 M, .int .i64 N] 31)
  have BR := Bx.new w2 [.slice a0 N0 c0, .slice a1 N1 c1, .slice a2 N2 c2, .slice a3 N3 c3, .int .i64 M, .int .i64 N] 31
  have hdl : decide ((20 : Int) < (dt.size : Int)) = false := decide_eq_false (by omega)
  have hcon := get_any a0 a1 a2 a3 c0 c1 c2 c3 g h s _ hat hI.sz
  rw [l0, l1, l2, l3, l4, l5] at hcon
  have cR0 := (BR.2 0 _ rfl).1
  have cR1 := (BR.2 1 _ rfl).1
  have cR2 := (BR.2 2 _ rfl).1
  have cR3 := (BR.2 3 _ rfl).1
  have cR4 := (BR.2 4 _ rfl).1
  have cR5 := (BR.2 5 _ rfl).1
  have zR := BR.1
  have cP0 := (BP.2 0 _ rfl).1
  have cP1 := (BP.2 1 _ rfl).1
  have zP := BP.1
  go_wp2_with fail
  refine hcon.mono ?_
  rintro e w3 ⟨x, ev1, rfl, hG1, hb3⟩
  clear cR0 cR1 cR2 cR3 cR4 cR5 zR cP0 cP1 zP hcon
  clear yP yQ
  replace BP := BP.below hb3
  replace BQ := BQ.below hb3
  replace BR := BR.below hb3
  replace hat := hat.below hb3
  replace bl := Below_after bl hb3
  have yP := BP.1
  have yQ := BQ.1
  have yR := BR.1
  replace BP := BP.alloc (.cells #[.int .i64 x.id, .int .i64 x.thing, .int .i64 x.rights, .int .i64 x.badge, .int .i64 x.frm] 35)
  replace BQ := BQ.alloc (.cells #[.int .i64 x.id, .int .i64 x.thing, .int .i64 x.rights, .int .i64 x.badge, .int .i64 x.frm] 35)
  replace BR := BR.alloc (.cells #[.int .i64 x.id, .int .i64 x.thing, .int .i64 x.rights, .int .i64 x.badge, .int .i64 x.frm] 35)
  replace hat := hat.below ((Below.refl _ _).alloc (Nat.le_refl _) (.cells #[.int .i64 x.id, .int .i64 x.thing, .int .i64 x.rights, .int .i64 x.badge, .int .i64 x.frm] 35))
  replace bl := bl.alloc bl.size (.cells #[.int .i64 x.id, .int .i64 x.thing, .int .i64 x.rights, .int .i64 x.badge, .int .i64 x.frm] 35)
  have BX := Bx.new w3 [.int .i64 x.id, .int .i64 x.thing, .int .i64 x.rights, .int .i64 x.badge, .int .i64 x.frm] 35
  have hcon := get_any a0 a1 a2 a3 c0 c1 c2 c3 g u t _ hat hI.sz
  rw [l0, l1, l2, l3, l4, l5] at hcon
  have cR0 := (BR.2 0 _ rfl).1
  have cR1 := (BR.2 1 _ rfl).1
  have cR2 := (BR.2 2 _ rfl).1
  have cR3 := (BR.2 3 _ rfl).1
  have cR4 := (BR.2 4 _ rfl).1
  have cR5 := (BR.2 5 _ rfl).1
  have zR := BR.1
  have cQ0 := (BQ.2 0 _ rfl).1
  have cQ1 := (BQ.2 1 _ rfl).1
  have zQ := BQ.1
  go_wp2_with fail
  refine hcon.mono ?_
  rintro e w4 ⟨v, ev2, rfl, hG2, hb4⟩
  clear cR0 cR1 cR2 cR3 cR4 cR5 zR cQ0 cQ1 zQ hcon
  clear yP yQ yR
  replace BP := BP.below hb4
  replace BQ := BQ.below hb4
  replace BR := BR.below hb4
  replace BX := BX.below hb4
  replace hat := hat.below hb4
  replace bl := Below_after bl hb4
  have yP := BP.1
  have yQ := BQ.1
  have yR := BR.1
  have yX := BX.1
  replace BP := BP.alloc (.cells #[.int .i64 v.id, .int .i64 v.thing, .int .i64 v.rights, .int .i64 v.badge, .int .i64 v.frm] 35)
  replace BQ := BQ.alloc (.cells #[.int .i64 v.id, .int .i64 v.thing, .int .i64 v.rights, .int .i64 v.badge, .int .i64 v.frm] 35)
  replace BR := BR.alloc (.cells #[.int .i64 v.id, .int .i64 v.thing, .int .i64 v.rights, .int .i64 v.badge, .int .i64 v.frm] 35)
  replace BX := BX.alloc (.cells #[.int .i64 v.id, .int .i64 v.thing, .int .i64 v.rights, .int .i64 v.badge, .int .i64 v.frm] 35)
  replace hat := hat.below ((Below.refl _ _).alloc (Nat.le_refl _) (.cells #[.int .i64 v.id, .int .i64 v.thing, .int .i64 v.rights, .int .i64 v.badge, .int .i64 v.frm] 35))
  replace bl := bl.alloc bl.size (.cells #[.int .i64 v.id, .int .i64 v.thing, .int .i64 v.rights, .int .i64 v.badge, .int .i64 v.frm] 35)
  have BV := Bx.new w4 [.int .i64 v.id, .int .i64 v.thing, .int .i64 v.rights, .int .i64 v.badge, .int .i64 v.frm] 35
  have hcon := act_write a0 a1 a2 a3 c0 c1 c2 c3 g h s dt _ hat hI (by unfold maxLen; omega)
  rw [l0, l1, l2, l3, l4, l5] at hcon
  have cR0 := (BR.2 0 _ rfl).1
  have cR1 := (BR.2 1 _ rfl).1
  have cR2 := (BR.2 2 _ rfl).1
  have cR3 := (BR.2 3 _ rfl).1
  have cR4 := (BR.2 4 _ rfl).1
  have cR5 := (BR.2 5 _ rfl).1
  have zR := BR.1
  have cP0 := (BP.2 0 _ rfl).1
  have cP1 := (BP.2 1 _ rfl).1
  have zP := BP.1
  go_wp2_with fail
  refine hcon.mono ?_
  rintro e w5 ⟨b0, b1, b2, b3, m0, m1, m2, m3, e0, e1, e2, e3, mm, nn, ev, rfl, hA, hb5⟩
  clear cR0 cR1 cR2 cR3 cR4 cR5 zR cP0 cP1 zP hcon
  clear yP yQ yR yX
  replace BP := BP.below hb5
  replace BQ := BQ.below hb5
  replace BR := BR.below hb5
  replace BX := BX.below hb5
  replace BV := BV.below hb5
  replace hat := hat.below hb5
  replace bl := Below_after bl hb5
  have yP := BP.1
  have yQ := BQ.1
  have yR := BR.1
  have yX := BX.1
  have yV := BV.1
  obtain ⟨-, rfl, rfl, rfl, rfl, rfl, rfl, rfl, rfl, rfl, rfl, rfl, rfl, rfl, rfl, rfl⟩ := hA.resolve_left (fun h => hc h.1)
  replace BP := BP.alloc (.cells #[.slice none 0 0, .slice none 0 0, .slice none 0 0, .slice none 0 0, .int .i64 0, .int .i64 0] 31)
  replace BQ := BQ.alloc (.cells #[.slice none 0 0, .slice none 0 0, .slice none 0 0, .slice none 0 0, .int .i64 0, .int .i64 0] 31)
  replace BR := BR.alloc (.cells #[.slice none 0 0, .slice none 0 0, .slice none 0 0, .slice none 0 0, .int .i64 0, .int .i64 0] 31)
  replace BX := BX.alloc (.cells #[.slice none 0 0, .slice none 0 0, .slice none 0 0, .slice none 0 0, .int .i64 0, .int .i64 0] 31)
  replace BV := BV.alloc (.cells #[.slice none 0 0, .slice none 0 0, .slice none 0 0, .slice none 0 0, .int .i64 0, .int .i64 0] 31)
  replace hat := hat.below ((Below.refl _ _).alloc (Nat.le_refl _) (.cells #[.slice none 0 0, .slice none 0 0, .slice none 0 0, .slice none 0 0, .int .i64 0, .int .i64 0] 31))
  replace bl := bl.alloc bl.size (.cells #[.slice none 0 0, .slice none 0 0, .slice none 0 0, .slice none 0 0, .int .i64 0, .int .i64 0] 31)
  have BY := Bx.new w5 [.slice none 0 0, .slice none 0 0, .slice none 0 0, .slice none 0 0, .int .i64 0, .int .i64 0] 31
  have hcon := read_err a0 a1 a2 a3 c0 c1 c2 c3 g u t _ hat hI.sz hr
  rw [l0, l1, l2, l3, l4, l5] at hcon
  have cR0 := (BR.2 0 _ rfl).1
  have cR1 := (BR.2 1 _ rfl).1
  have cR2 := (BR.2 2 _ rfl).1
  have cR3 := (BR.2 3 _ rfl).1
  have cR4 := (BR.2 4 _ rfl).1
  have cR5 := (BR.2 5 _ rfl).1
  have zR := BR.1
  have cQ0 := (BQ.2 0 _ rfl).1
  have cQ1 := (BQ.2 1 _ rfl).1
  have zQ := BQ.1
  go_wp2_with fail
  refine hcon.mono ?_
  rintro e w6 ⟨rfl, hb6⟩
  clear cR0 cR1 cR2 cR3 cR4 cR5 zR cQ0 cQ1 zQ hcon
  clear yP yQ yR yX yV
  replace BP := BP.below hb6
  replace BQ := BQ.below hb6
  replace BR := BR.below hb6
  replace BX := BX.below hb6
  replace BV := BV.below hb6
  replace BY := BY.below hb6
  replace hat := hat.below hb6
  replace bl := Below_after bl hb6
  have yP := BP.1
  have yQ := BQ.1
  have yR := BR.1
  have yX := BX.1
  have yV := BV.1
  have yY := BY.1
  go_wp2_with fail
  go_ret
  exact ⟨rfl, bl⟩
set_option maxHeartbeats 2000000 in
set_option maxRecDepth 100000 in
theorem tcell_o1 (a : Option Addr) (c : Nat) (l : List Ac) (h s u t : Int) (dt : ByteArray) (w : World) (hw : AcsAt w a l) (hm : l.length ≤ maxLen) (hq : lacB l 80 = true) (hd : dt.size ≤ 20) (hc : writeC (growR l) h s dt = 0) (hr : whoC (growR l) u t 1 1 = 0) (hth : ((getW (growR l) h s).thing = (getW (growR l) u t).thing)) :
    Calls Try.prog 4 #[.slice a l.length c, .agg #[.int .i64 h, .int .i64 s], .agg #[.int .i64 u, .int .i64 t], .string dt] w fun e w' => e = .returned (.bool true) ∧ Below w.heap.size w w' := by
  have BP := Bx.new w [.int .i64 h, .int .i64 s] 24
  replace BP := BP.alloc (.cells #[.int .i64 u, .int .i64 t] 24)
  have BQ := Bx.new (w.alloc (.cells #[.int .i64 h, .int .i64 s] 24)) [.int .i64 u, .int .i64 t] 24
  rw [sz_alloc] at BQ
  have bl := ((Below.refl w.heap.size w).alloc (by first | exact Nat.le_refl _ | (simp <;> omega)) (.cells #[.int .i64 h, .int .i64 s] 24)).alloc (by first | exact Nat.le_refl _ | (simp <;> omega)) (.cells #[.int .i64 u, .int .i64 t] 24)
  have hlen := lac_len hq
  have hi := inv_grow l l.length (by omega)
  rw [List.take_length] at hi
  have hI : RmI (growR l) := ⟨hi.sz (by omega), hi.put, hi.wf⟩
  have hW := whole_grow l
  have hk : InvK 80 (growR l) := hi.mono (by omega)
  clear hi
  go_enter Try.func4, Try.ntmps4
  have hcon := made_any ((w.alloc (.cells #[.int .i64 h, .int .i64 s] 24)).alloc (.cells #[.int .i64 u, .int .i64 t] 24))
  go_wp2_with fail
  refine hcon.mono ?_
  rintro e w1 ⟨rfl, hb1⟩
  clear hcon
  replace BP := BP.below hb1
  replace BQ := BQ.below hb1
  replace bl := Below_after bl hb1
  have yP := BP.1
  have yQ := BQ.1
  have hg := grown_yes a c l w1 (hw.below bl) hm hq
  generalize growR l = g at hg hI hW hk hc hr hth
  clear hq hw hm hlen
  have hcon := hg
  clear hg
  go_wp2_with fail
  refine hcon.mono ?_
  rintro e w2 ⟨a0, a1, a2, a3, N0, N1, N2, N3, c0, c1, c2, c3, M, N, rfl, ⟨l0, l1, l2, l3, l4, l5⟩, hat, -, hb2⟩
  clear hcon
  clear yP yQ
  replace BP := BP.below hb2
  replace BQ := BQ.below hb2
  replace bl := Below_after bl hb2
  have yP := BP.1
  have yQ := BQ.1
  replace BP := BP.alloc (.cells #[.slice a0 N0 c0, .slice a1 N1 c1, .slice a2 N2 c2, .slice a3 N3 c3, .int .i64 M, .int .i64 N] 31)
  replace BQ := BQ.alloc (.cells #[.slice a0 N0 c0, .slice a1 N1 c1, .slice a2 N2 c2, .slice a3 N3 c3, .int .i64 M, .int .i64 N] 31)
  replace hat := hat.below ((Below.refl _ _).alloc (Nat.le_refl _) (.cells #[.slice a0 N0 c0, .slice a1 N1 c1, .slice a2 N2 c2, .slice a3 N3 c3, .int .i64 M, .int .i64 N] 31))
  replace bl := bl.alloc bl.size (.cells #[.slice a0 N0 c0, .slice a1 N1 c1, .slice a2 N2 c2, .slice a3 N3 c3, .int .i64 M, .int .i64 N] 31)
  have BR := Bx.new w2 [.slice a0 N0 c0, .slice a1 N1 c1, .slice a2 N2 c2, .slice a3 N3 c3, .int .i64 M, .int .i64 N] 31
  have hdl : decide ((20 : Int) < (dt.size : Int)) = false := decide_eq_false (by omega)
  obtain ⟨w1', w2'⟩ := write_facts hc
  obtain ⟨f1, -, f3⟩ := who_facts w1'
  have hd8 : decide ((8 : Int) < (dt.size : Int)) = false := decide_eq_false (by omega)
  have hId := rmI_of (inv_write hk h s dt) (by omega)
  have hwho := writeR_who g h s dt u t 1 1
  have hrd := writeR_read (h := h) (s := s) (d := dt) hr
  rw [if_pos hth] at hrd
  have e1 : ((getW g h s).thing == (getW g u t).thing) = true := by simp [hth]
  clear hth
  have hcon := get_ok a0 a1 a2 a3 c0 c1 c2 c3 g h s _ hat hI.sz f1
  rw [l0, l1, l2, l3, l4, l5] at hcon
  have cR0 := (BR.2 0 _ rfl).1
  have cR1 := (BR.2 1 _ rfl).1
  have cR2 := (BR.2 2 _ rfl).1
  have cR3 := (BR.2 3 _ rfl).1
  have cR4 := (BR.2 4 _ rfl).1
  have cR5 := (BR.2 5 _ rfl).1
  have zR := BR.1
  have cP0 := (BP.2 0 _ rfl).1
  have cP1 := (BP.2 1 _ rfl).1
  have zP := BP.1
  go_wp2_with fail
  refine hcon.mono ?_
  rintro e w3 ⟨rfl, hb3⟩
  clear cR0 cR1 cR2 cR3 cR4 cR5 zR cP0 cP1 zP hcon
  clear yP yQ
  replace BP := BP.below hb3
  replace BQ := BQ.below hb3
  replace BR := BR.below hb3
  replace hat := hat.below hb3
  replace bl := Below_after bl hb3
  have yP := BP.1
  have yQ := BQ.1
  have yR := BR.1
  replace BP := BP.alloc (.cells #[.int .i64 (getW g h s).id, .int .i64 (getW g h s).thing, .int .i64 (getW g h s).rights, .int .i64 (getW g h s).badge, .int .i64 (getW g h s).frm] 35)
  replace BQ := BQ.alloc (.cells #[.int .i64 (getW g h s).id, .int .i64 (getW g h s).thing, .int .i64 (getW g h s).rights, .int .i64 (getW g h s).badge, .int .i64 (getW g h s).frm] 35)
  replace BR := BR.alloc (.cells #[.int .i64 (getW g h s).id, .int .i64 (getW g h s).thing, .int .i64 (getW g h s).rights, .int .i64 (getW g h s).badge, .int .i64 (getW g h s).frm] 35)
  replace hat := hat.below ((Below.refl _ _).alloc (Nat.le_refl _) (.cells #[.int .i64 (getW g h s).id, .int .i64 (getW g h s).thing, .int .i64 (getW g h s).rights, .int .i64 (getW g h s).badge, .int .i64 (getW g h s).frm] 35))
  replace bl := bl.alloc bl.size (.cells #[.int .i64 (getW g h s).id, .int .i64 (getW g h s).thing, .int .i64 (getW g h s).rights, .int .i64 (getW g h s).badge, .int .i64 (getW g h s).frm] 35)
  have BX := Bx.new w3 [.int .i64 (getW g h s).id, .int .i64 (getW g h s).thing, .int .i64 (getW g h s).rights, .int .i64 (getW g h s).badge, .int .i64 (getW g h s).frm] 35
  obtain ⟨r1, -, r3⟩ := who_facts hr
  have hcon := get_ok a0 a1 a2 a3 c0 c1 c2 c3 g u t _ hat hI.sz r1
  rw [l0, l1, l2, l3, l4, l5] at hcon
  have cR0 := (BR.2 0 _ rfl).1
  have cR1 := (BR.2 1 _ rfl).1
  have cR2 := (BR.2 2 _ rfl).1
  have cR3 := (BR.2 3 _ rfl).1
  have cR4 := (BR.2 4 _ rfl).1
  have cR5 := (BR.2 5 _ rfl).1
  have zR := BR.1
  have cQ0 := (BQ.2 0 _ rfl).1
  have cQ1 := (BQ.2 1 _ rfl).1
  have zQ := BQ.1
  go_wp2_with fail
  refine hcon.mono ?_
  rintro e w4 ⟨rfl, hb4⟩
  clear cR0 cR1 cR2 cR3 cR4 cR5 zR cQ0 cQ1 zQ hcon
  clear yP yQ yR
  replace BP := BP.below hb4
  replace BQ := BQ.below hb4
  replace BR := BR.below hb4
  replace BX := BX.below hb4
  replace hat := hat.below hb4
  replace bl := Below_after bl hb4
  have yP := BP.1
  have yQ := BQ.1
  have yR := BR.1
  have yX := BX.1
  replace BP := BP.alloc (.cells #[.int .i64 (getW g u t).id, .int .i64 (getW g u t).thing, .int .i64 (getW g u t).rights, .int .i64 (getW g u t).badge, .int .i64 (getW g u t).frm] 35)
  replace BQ := BQ.alloc (.cells #[.int .i64 (getW g u t).id, .int .i64 (getW g u t).thing, .int .i64 (getW g u t).rights, .int .i64 (getW g u t).badge, .int .i64 (getW g u t).frm] 35)
  replace BR := BR.alloc (.cells #[.int .i64 (getW g u t).id, .int .i64 (getW g u t).thing, .int .i64 (getW g u t).rights, .int .i64 (getW g u t).badge, .int .i64 (getW g u t).frm] 35)
  replace BX := BX.alloc (.cells #[.int .i64 (getW g u t).id, .int .i64 (getW g u t).thing, .int .i64 (getW g u t).rights, .int .i64 (getW g u t).badge, .int .i64 (getW g u t).frm] 35)
  replace hat := hat.below ((Below.refl _ _).alloc (Nat.le_refl _) (.cells #[.int .i64 (getW g u t).id, .int .i64 (getW g u t).thing, .int .i64 (getW g u t).rights, .int .i64 (getW g u t).badge, .int .i64 (getW g u t).frm] 35))
  replace bl := bl.alloc bl.size (.cells #[.int .i64 (getW g u t).id, .int .i64 (getW g u t).thing, .int .i64 (getW g u t).rights, .int .i64 (getW g u t).badge, .int .i64 (getW g u t).frm] 35)
  have BV := Bx.new w4 [.int .i64 (getW g u t).id, .int .i64 (getW g u t).thing, .int .i64 (getW g u t).rights, .int .i64 (getW g u t).badge, .int .i64 (getW g u t).frm] 35
  have hcon := act_write a0 a1 a2 a3 c0 c1 c2 c3 g h s dt _ hat hI (by unfold maxLen; omega)
  rw [l0, l1, l2, l3, l4, l5] at hcon
  have cR0 := (BR.2 0 _ rfl).1
  have cR1 := (BR.2 1 _ rfl).1
  have cR2 := (BR.2 2 _ rfl).1
  have cR3 := (BR.2 3 _ rfl).1
  have cR4 := (BR.2 4 _ rfl).1
  have cR5 := (BR.2 5 _ rfl).1
  have zR := BR.1
  have cP0 := (BP.2 0 _ rfl).1
  have cP1 := (BP.2 1 _ rfl).1
  have zP := BP.1
  go_wp2_with fail
  refine hcon.mono ?_
  rintro e w5 ⟨b0, b1, b2, b3, m0, m1, m2, m3, e0, e1, e2, e3, mm, nn, ev, rfl, hA, hb5⟩
  clear cR0 cR1 cR2 cR3 cR4 cR5 zR cP0 cP1 zP hcon
  clear yP yQ yR yX
  replace BP := BP.below hb5
  replace BQ := BQ.below hb5
  replace BR := BR.below hb5
  replace BX := BX.below hb5
  replace BV := BV.below hb5
  replace hat := hat.below hb5
  replace bl := Below_after bl hb5
  have yP := BP.1
  have yQ := BQ.1
  have yR := BR.1
  have yX := BX.1
  have yV := BV.1
  obtain ⟨-, rfl, d0, rfl, rfl, rfl, rfl, rfl, hat2, -⟩ := hA.resolve_right (fun h => h.1 hc)
  have hdws : (writeR g h s dt).ws = g.ws := rfl
  rw [hdws, l0] at d0
  subst d0
  generalize writeR g h s dt = d at *
  replace BP := BP.alloc (.cells #[.slice b0 m0 e0, .slice b1 d.ts.length e1, .slice b2 d.hs.length e2, .slice b3 d.ns.length e3, .int .i64 d.nw, .int .i64 d.nt] 31)
  replace BQ := BQ.alloc (.cells #[.slice b0 m0 e0, .slice b1 d.ts.length e1, .slice b2 d.hs.length e2, .slice b3 d.ns.length e3, .int .i64 d.nw, .int .i64 d.nt] 31)
  replace BR := BR.alloc (.cells #[.slice b0 m0 e0, .slice b1 d.ts.length e1, .slice b2 d.hs.length e2, .slice b3 d.ns.length e3, .int .i64 d.nw, .int .i64 d.nt] 31)
  replace BX := BX.alloc (.cells #[.slice b0 m0 e0, .slice b1 d.ts.length e1, .slice b2 d.hs.length e2, .slice b3 d.ns.length e3, .int .i64 d.nw, .int .i64 d.nt] 31)
  replace BV := BV.alloc (.cells #[.slice b0 m0 e0, .slice b1 d.ts.length e1, .slice b2 d.hs.length e2, .slice b3 d.ns.length e3, .int .i64 d.nw, .int .i64 d.nt] 31)
  replace hat := hat.below ((Below.refl _ _).alloc (Nat.le_refl _) (.cells #[.slice b0 m0 e0, .slice b1 d.ts.length e1, .slice b2 d.hs.length e2, .slice b3 d.ns.length e3, .int .i64 d.nw, .int .i64 d.nt] 31))
  replace hat2 := hat2.below ((Below.refl _ _).alloc (Nat.le_refl _) (.cells #[.slice b0 m0 e0, .slice b1 d.ts.length e1, .slice b2 d.hs.length e2, .slice b3 d.ns.length e3, .int .i64 d.nw, .int .i64 d.nt] 31))
  replace bl := bl.alloc bl.size (.cells #[.slice b0 m0 e0, .slice b1 d.ts.length e1, .slice b2 d.hs.length e2, .slice b3 d.ns.length e3, .int .i64 d.nw, .int .i64 d.nt] 31)
  have BY := Bx.new w5 [.slice b0 m0 e0, .slice b1 d.ts.length e1, .slice b2 d.hs.length e2, .slice b3 d.ns.length e3, .int .i64 d.nw, .int .i64 d.nt] 31
  have hdl0 : d.ws.length = m0 := by rw [hdws]; exact l0
  have hcon := has_any (getW g h s).rights 2 (w5.alloc (.cells #[.slice b0 m0 e0, .slice b1 d.ts.length e1, .slice b2 d.hs.length e2, .slice b3 d.ns.length e3, .int .i64 d.nw, .int .i64 d.nt] 31))
  rw [f3] at hcon
  have cX0 := (BX.2 0 _ rfl).1
  have cX1 := (BX.2 1 _ rfl).1
  have cX2 := (BX.2 2 _ rfl).1
  have cX3 := (BX.2 3 _ rfl).1
  have cX4 := (BX.2 4 _ rfl).1
  have zX := BX.1
  go_wp2_with fail
  refine hcon.mono ?_
  rintro e w' ⟨rfl, hw'⟩
  rw [hw']
  clear hw' w' hcon
  clear cX0 cX1 cX2 cX3 cX4 zX
  have hcon := read_ok a0 a1 a2 a3 c0 c1 c2 c3 g u t _ hat hI.sz hr
  rw [l0, l1, l2, l3, l4, l5] at hcon
  have cR0 := (BR.2 0 _ rfl).1
  have cR1 := (BR.2 1 _ rfl).1
  have cR2 := (BR.2 2 _ rfl).1
  have cR3 := (BR.2 3 _ rfl).1
  have cR4 := (BR.2 4 _ rfl).1
  have cR5 := (BR.2 5 _ rfl).1
  have zR := BR.1
  have cQ0 := (BQ.2 0 _ rfl).1
  have cQ1 := (BQ.2 1 _ rfl).1
  have zQ := BQ.1
  go_wp2_with fail
  refine hcon.mono ?_
  rintro e w6 ⟨rfl, hb6⟩
  clear cR0 cR1 cR2 cR3 cR4 cR5 zR cQ0 cQ1 zQ hcon
  clear yP yQ yR yX yV
  replace BP := BP.below hb6
  replace BQ := BQ.below hb6
  replace BR := BR.below hb6
  replace BX := BX.below hb6
  replace BV := BV.below hb6
  replace BY := BY.below hb6
  replace hat := hat.below hb6
  replace hat2 := hat2.below hb6
  replace bl := Below_after bl hb6
  have yP := BP.1
  have yQ := BQ.1
  have yR := BR.1
  have yX := BX.1
  have yV := BV.1
  have yY := BY.1
  generalize readD g u t = sv at *
  have hcon := has_any (getW g u t).rights 1 w6
  rw [r3] at hcon
  have cV0 := (BV.2 0 _ rfl).1
  have cV1 := (BV.2 1 _ rfl).1
  have cV2 := (BV.2 2 _ rfl).1
  have cV3 := (BV.2 3 _ rfl).1
  have cV4 := (BV.2 4 _ rfl).1
  have zV := BV.1
  go_wp2_with fail
  refine hcon.mono ?_
  rintro e w' ⟨rfl, hw'⟩
  rw [hw']
  clear hw' w' hcon
  clear cV0 cV1 cV2 cV3 cV4 zV
  have hcon := read_ok b0 b1 b2 b3 e0 e1 e2 e3 d u t _ hat2 hId.sz (hwho.trans hr)
  rw [hrd, hdl0] at hcon
  have cY0 := (BY.2 0 _ rfl).1
  have cY1 := (BY.2 1 _ rfl).1
  have cY2 := (BY.2 2 _ rfl).1
  have cY3 := (BY.2 3 _ rfl).1
  have cY4 := (BY.2 4 _ rfl).1
  have cY5 := (BY.2 5 _ rfl).1
  have zY := BY.1
  have cQ0 := (BQ.2 0 _ rfl).1
  have cQ1 := (BQ.2 1 _ rfl).1
  have zQ := BQ.1
  go_wp2_with fail
  refine hcon.mono ?_
  rintro e w7 ⟨rfl, hb7⟩
  clear cY0 cY1 cY2 cY3 cY4 cY5 zY cQ0 cQ1 zQ hcon
  clear yP yQ yR yX yV yY
  replace BP := BP.below hb7
  replace BQ := BQ.below hb7
  replace BR := BR.below hb7
  replace BX := BX.below hb7
  replace BV := BV.below hb7
  replace BY := BY.below hb7
  replace hat := hat.below hb7
  replace hat2 := hat2.below hb7
  replace bl := Below_after bl hb7
  have yP := BP.1
  have yQ := BQ.1
  have yR := BR.1
  have yX := BX.1
  have yV := BV.1
  have yY := BY.1
  have hcon := number_nil w7
  go_wp2_with fail
  refine hcon.mono ?_
  rintro e w' ⟨rfl, hw'⟩
  rw [hw']
  clear hw' w' hcon
  have hcon := number_nil w7
  go_wp2_with fail
  refine hcon.mono ?_
  rintro e w' ⟨rfl, hw'⟩
  rw [hw']
  clear hw' w' hcon
  have hsw := sw_same b0 a0 e0 c0 g.ws _ (hdws ▸ hat2.w) hat.w (by have := hI.sz.w; omega)
  rw [l0] at hsw
  have cY0 := (BY.2 0 _ rfl).1
  have cY1 := (BY.2 1 _ rfl).1
  have cY2 := (BY.2 2 _ rfl).1
  have cY3 := (BY.2 3 _ rfl).1
  have cY4 := (BY.2 4 _ rfl).1
  have cY5 := (BY.2 5 _ rfl).1
  have zY := BY.1
  have cR0 := (BR.2 0 _ rfl).1
  have cR1 := (BR.2 1 _ rfl).1
  have cR2 := (BR.2 2 _ rfl).1
  have cR3 := (BR.2 3 _ rfl).1
  have cR4 := (BR.2 4 _ rfl).1
  have cR5 := (BR.2 5 _ rfl).1
  have zR := BR.1
  have cX0 := (BX.2 0 _ rfl).1
  have cX1 := (BX.2 1 _ rfl).1
  have cX2 := (BX.2 2 _ rfl).1
  have cX3 := (BX.2 3 _ rfl).1
  have cX4 := (BX.2 4 _ rfl).1
  have zX := BX.1
  have cV0 := (BV.2 0 _ rfl).1
  have cV1 := (BV.2 1 _ rfl).1
  have cV2 := (BV.2 2 _ rfl).1
  have cV3 := (BV.2 3 _ rfl).1
  have cV4 := (BV.2 4 _ rfl).1
  have zV := BV.1
  go_wp2_with fail
  refine hsw.mono ?_
  rintro e w' ⟨rfl, nq, hw'⟩
  rw [hw']
  clear hw' w' hsw
  replace bl := below_drewN bl nq
  go_wp2_with fail
  go_ret
  exact ⟨rfl, bl⟩
set_option maxHeartbeats 2000000 in
set_option maxRecDepth 100000 in
theorem tcell_o3 (a : Option Addr) (c : Nat) (l : List Ac) (h s u t : Int) (dt : ByteArray) (w : World) (hw : AcsAt w a l) (hm : l.length ≤ maxLen) (hq : lacB l 80 = true) (hd : dt.size ≤ 20) (hc : writeC (growR l) h s dt = 0) (hr : whoC (growR l) u t 1 1 = 0) (hth : ¬ ((getW (growR l) h s).thing = (getW (growR l) u t).thing)) :
    Calls Try.prog 4 #[.slice a l.length c, .agg #[.int .i64 h, .int .i64 s], .agg #[.int .i64 u, .int .i64 t], .string dt] w fun e w' => e = .returned (.bool true) ∧ Below w.heap.size w w' := by
  have BP := Bx.new w [.int .i64 h, .int .i64 s] 24
  replace BP := BP.alloc (.cells #[.int .i64 u, .int .i64 t] 24)
  have BQ := Bx.new (w.alloc (.cells #[.int .i64 h, .int .i64 s] 24)) [.int .i64 u, .int .i64 t] 24
  rw [sz_alloc] at BQ
  have bl := ((Below.refl w.heap.size w).alloc (by first | exact Nat.le_refl _ | (simp <;> omega)) (.cells #[.int .i64 h, .int .i64 s] 24)).alloc (by first | exact Nat.le_refl _ | (simp <;> omega)) (.cells #[.int .i64 u, .int .i64 t] 24)
  have hlen := lac_len hq
  have hi := inv_grow l l.length (by omega)
  rw [List.take_length] at hi
  have hI : RmI (growR l) := ⟨hi.sz (by omega), hi.put, hi.wf⟩
  have hW := whole_grow l
  have hk : InvK 80 (growR l) := hi.mono (by omega)
  clear hi
  go_enter Try.func4, Try.ntmps4
  have hcon := made_any ((w.alloc (.cells #[.int .i64 h, .int .i64 s] 24)).alloc (.cells #[.int .i64 u, .int .i64 t] 24))
  go_wp2_with fail
  refine hcon.mono ?_
  rintro e w1 ⟨rfl, hb1⟩
  clear hcon
  replace BP := BP.below hb1
  replace BQ := BQ.below hb1
  replace bl := Below_after bl hb1
  have yP := BP.1
  have yQ := BQ.1
  have hg := grown_yes a c l w1 (hw.below bl) hm hq
  generalize growR l = g at hg hI hW hk hc hr hth
  clear hq hw hm hlen
  have hcon := hg
  clear hg
  go_wp2_with fail
  refine hcon.mono ?_
  rintro e w2 ⟨a0, a1, a2, a3, N0, N1, N2, N3, c0, c1, c2, c3, M, N, rfl, ⟨l0, l1, l2, l3, l4, l5⟩, hat, -, hb2⟩
  clear hcon
  clear yP yQ
  replace BP := BP.below hb2
  replace BQ := BQ.below hb2
  replace bl := Below_after bl hb2
  have yP := BP.1
  have yQ := BQ.1
  replace BP := BP.alloc (.cells #[.slice a0 N0 c0, .slice a1 N1 c1, .slice a2 N2 c2, .slice a3 N3 c3, .int .i64 M, .int .i64 N] 31)
  replace BQ := BQ.alloc (.cells #[.slice a0 N0 c0, .slice a1 N1 c1, .slice a2 N2 c2, .slice a3 N3 c3, .int .i64 M, .int .i64 N] 31)
  replace hat := hat.below ((Below.refl _ _).alloc (Nat.le_refl _) (.cells #[.slice a0 N0 c0, .slice a1 N1 c1, .slice a2 N2 c2, .slice a3 N3 c3, .int .i64 M, .int .i64 N] 31))
  replace bl := bl.alloc bl.size (.cells #[.slice a0 N0 c0, .slice a1 N1 c1, .slice a2 N2 c2, .slice a3 N3 c3, .int .i64 M, .int .i64 N] 31)
  have BR := Bx.new w2 [.slice a0 N0 c0, .slice a1 N1 c1, .slice a2 N2 c2, .slice a3 N3 c3, .int .i64 M, .int .i64 N] 31
  have hdl : decide ((20 : Int) < (dt.size : Int)) = false := decide_eq_false (by omega)
  obtain ⟨w1', w2'⟩ := write_facts hc
  obtain ⟨f1, -, f3⟩ := who_facts w1'
  have hd8 : decide ((8 : Int) < (dt.size : Int)) = false := decide_eq_false (by omega)
  have hId := rmI_of (inv_write hk h s dt) (by omega)
  have hwho := writeR_who g h s dt u t 1 1
  have hrd := writeR_read (h := h) (s := s) (d := dt) hr
  rw [if_neg hth] at hrd
  have e1 : ((getW g h s).thing == (getW g u t).thing) = false := by simp [hth]
  have e2' : ((getW g h s).thing != (getW g u t).thing) = true := by simp [hth]
  clear hth
  have hcon := get_ok a0 a1 a2 a3 c0 c1 c2 c3 g h s _ hat hI.sz f1
  rw [l0, l1, l2, l3, l4, l5] at hcon
  have cR0 := (BR.2 0 _ rfl).1
  have cR1 := (BR.2 1 _ rfl).1
  have cR2 := (BR.2 2 _ rfl).1
  have cR3 := (BR.2 3 _ rfl).1
  have cR4 := (BR.2 4 _ rfl).1
  have cR5 := (BR.2 5 _ rfl).1
  have zR := BR.1
  have cP0 := (BP.2 0 _ rfl).1
  have cP1 := (BP.2 1 _ rfl).1
  have zP := BP.1
  go_wp2_with fail
  refine hcon.mono ?_
  rintro e w3 ⟨rfl, hb3⟩
  clear cR0 cR1 cR2 cR3 cR4 cR5 zR cP0 cP1 zP hcon
  clear yP yQ
  replace BP := BP.below hb3
  replace BQ := BQ.below hb3
  replace BR := BR.below hb3
  replace hat := hat.below hb3
  replace bl := Below_after bl hb3
  have yP := BP.1
  have yQ := BQ.1
  have yR := BR.1
  replace BP := BP.alloc (.cells #[.int .i64 (getW g h s).id, .int .i64 (getW g h s).thing, .int .i64 (getW g h s).rights, .int .i64 (getW g h s).badge, .int .i64 (getW g h s).frm] 35)
  replace BQ := BQ.alloc (.cells #[.int .i64 (getW g h s).id, .int .i64 (getW g h s).thing, .int .i64 (getW g h s).rights, .int .i64 (getW g h s).badge, .int .i64 (getW g h s).frm] 35)
  replace BR := BR.alloc (.cells #[.int .i64 (getW g h s).id, .int .i64 (getW g h s).thing, .int .i64 (getW g h s).rights, .int .i64 (getW g h s).badge, .int .i64 (getW g h s).frm] 35)
  replace hat := hat.below ((Below.refl _ _).alloc (Nat.le_refl _) (.cells #[.int .i64 (getW g h s).id, .int .i64 (getW g h s).thing, .int .i64 (getW g h s).rights, .int .i64 (getW g h s).badge, .int .i64 (getW g h s).frm] 35))
  replace bl := bl.alloc bl.size (.cells #[.int .i64 (getW g h s).id, .int .i64 (getW g h s).thing, .int .i64 (getW g h s).rights, .int .i64 (getW g h s).badge, .int .i64 (getW g h s).frm] 35)
  have BX := Bx.new w3 [.int .i64 (getW g h s).id, .int .i64 (getW g h s).thing, .int .i64 (getW g h s).rights, .int .i64 (getW g h s).badge, .int .i64 (getW g h s).frm] 35
  obtain ⟨r1, -, r3⟩ := who_facts hr
  have hcon := get_ok a0 a1 a2 a3 c0 c1 c2 c3 g u t _ hat hI.sz r1
  rw [l0, l1, l2, l3, l4, l5] at hcon
  have cR0 := (BR.2 0 _ rfl).1
  have cR1 := (BR.2 1 _ rfl).1
  have cR2 := (BR.2 2 _ rfl).1
  have cR3 := (BR.2 3 _ rfl).1
  have cR4 := (BR.2 4 _ rfl).1
  have cR5 := (BR.2 5 _ rfl).1
  have zR := BR.1
  have cQ0 := (BQ.2 0 _ rfl).1
  have cQ1 := (BQ.2 1 _ rfl).1
  have zQ := BQ.1
  go_wp2_with fail
  refine hcon.mono ?_
  rintro e w4 ⟨rfl, hb4⟩
  clear cR0 cR1 cR2 cR3 cR4 cR5 zR cQ0 cQ1 zQ hcon
  clear yP yQ yR
  replace BP := BP.below hb4
  replace BQ := BQ.below hb4
  replace BR := BR.below hb4
  replace BX := BX.below hb4
  replace hat := hat.below hb4
  replace bl := Below_after bl hb4
  have yP := BP.1
  have yQ := BQ.1
  have yR := BR.1
  have yX := BX.1
  replace BP := BP.alloc (.cells #[.int .i64 (getW g u t).id, .int .i64 (getW g u t).thing, .int .i64 (getW g u t).rights, .int .i64 (getW g u t).badge, .int .i64 (getW g u t).frm] 35)
  replace BQ := BQ.alloc (.cells #[.int .i64 (getW g u t).id, .int .i64 (getW g u t).thing, .int .i64 (getW g u t).rights, .int .i64 (getW g u t).badge, .int .i64 (getW g u t).frm] 35)
  replace BR := BR.alloc (.cells #[.int .i64 (getW g u t).id, .int .i64 (getW g u t).thing, .int .i64 (getW g u t).rights, .int .i64 (getW g u t).badge, .int .i64 (getW g u t).frm] 35)
  replace BX := BX.alloc (.cells #[.int .i64 (getW g u t).id, .int .i64 (getW g u t).thing, .int .i64 (getW g u t).rights, .int .i64 (getW g u t).badge, .int .i64 (getW g u t).frm] 35)
  replace hat := hat.below ((Below.refl _ _).alloc (Nat.le_refl _) (.cells #[.int .i64 (getW g u t).id, .int .i64 (getW g u t).thing, .int .i64 (getW g u t).rights, .int .i64 (getW g u t).badge, .int .i64 (getW g u t).frm] 35))
  replace bl := bl.alloc bl.size (.cells #[.int .i64 (getW g u t).id, .int .i64 (getW g u t).thing, .int .i64 (getW g u t).rights, .int .i64 (getW g u t).badge, .int .i64 (getW g u t).frm] 35)
  have BV := Bx.new w4 [.int .i64 (getW g u t).id, .int .i64 (getW g u t).thing, .int .i64 (getW g u t).rights, .int .i64 (getW g u t).badge, .int .i64 (getW g u t).frm] 35
  have hcon := act_write a0 a1 a2 a3 c0 c1 c2 c3 g h s dt _ hat hI (by unfold maxLen; omega)
  rw [l0, l1, l2, l3, l4, l5] at hcon
  have cR0 := (BR.2 0 _ rfl).1
  have cR1 := (BR.2 1 _ rfl).1
  have cR2 := (BR.2 2 _ rfl).1
  have cR3 := (BR.2 3 _ rfl).1
  have cR4 := (BR.2 4 _ rfl).1
  have cR5 := (BR.2 5 _ rfl).1
  have zR := BR.1
  have cP0 := (BP.2 0 _ rfl).1
  have cP1 := (BP.2 1 _ rfl).1
  have zP := BP.1
  go_wp2_with fail
  refine hcon.mono ?_
  rintro e w5 ⟨b0, b1, b2, b3, m0, m1, m2, m3, e0, e1, e2, e3, mm, nn, ev, rfl, hA, hb5⟩
  clear cR0 cR1 cR2 cR3 cR4 cR5 zR cP0 cP1 zP hcon
  clear yP yQ yR yX
  replace BP := BP.below hb5
  replace BQ := BQ.below hb5
  replace BR := BR.below hb5
  replace BX := BX.below hb5
  replace BV := BV.below hb5
  replace hat := hat.below hb5
  replace bl := Below_after bl hb5
  have yP := BP.1
  have yQ := BQ.1
  have yR := BR.1
  have yX := BX.1
  have yV := BV.1
  obtain ⟨-, rfl, d0, rfl, rfl, rfl, rfl, rfl, hat2, -⟩ := hA.resolve_right (fun h => h.1 hc)
  have hdws : (writeR g h s dt).ws = g.ws := rfl
  rw [hdws, l0] at d0
  subst d0
  generalize writeR g h s dt = d at *
  replace BP := BP.alloc (.cells #[.slice b0 m0 e0, .slice b1 d.ts.length e1, .slice b2 d.hs.length e2, .slice b3 d.ns.length e3, .int .i64 d.nw, .int .i64 d.nt] 31)
  replace BQ := BQ.alloc (.cells #[.slice b0 m0 e0, .slice b1 d.ts.length e1, .slice b2 d.hs.length e2, .slice b3 d.ns.length e3, .int .i64 d.nw, .int .i64 d.nt] 31)
  replace BR := BR.alloc (.cells #[.slice b0 m0 e0, .slice b1 d.ts.length e1, .slice b2 d.hs.length e2, .slice b3 d.ns.length e3, .int .i64 d.nw, .int .i64 d.nt] 31)
  replace BX := BX.alloc (.cells #[.slice b0 m0 e0, .slice b1 d.ts.length e1, .slice b2 d.hs.length e2, .slice b3 d.ns.length e3, .int .i64 d.nw, .int .i64 d.nt] 31)
  replace BV := BV.alloc (.cells #[.slice b0 m0 e0, .slice b1 d.ts.length e1, .slice b2 d.hs.length e2, .slice b3 d.ns.length e3, .int .i64 d.nw, .int .i64 d.nt] 31)
  replace hat := hat.below ((Below.refl _ _).alloc (Nat.le_refl _) (.cells #[.slice b0 m0 e0, .slice b1 d.ts.length e1, .slice b2 d.hs.length e2, .slice b3 d.ns.length e3, .int .i64 d.nw, .int .i64 d.nt] 31))
  replace hat2 := hat2.below ((Below.refl _ _).alloc (Nat.le_refl _) (.cells #[.slice b0 m0 e0, .slice b1 d.ts.length e1, .slice b2 d.hs.length e2, .slice b3 d.ns.length e3, .int .i64 d.nw, .int .i64 d.nt] 31))
  replace bl := bl.alloc bl.size (.cells #[.slice b0 m0 e0, .slice b1 d.ts.length e1, .slice b2 d.hs.length e2, .slice b3 d.ns.length e3, .int .i64 d.nw, .int .i64 d.nt] 31)
  have BY := Bx.new w5 [.slice b0 m0 e0, .slice b1 d.ts.length e1, .slice b2 d.hs.length e2, .slice b3 d.ns.length e3, .int .i64 d.nw, .int .i64 d.nt] 31
  have hdl0 : d.ws.length = m0 := by rw [hdws]; exact l0
  have hcon := has_any (getW g h s).rights 2 (w5.alloc (.cells #[.slice b0 m0 e0, .slice b1 d.ts.length e1, .slice b2 d.hs.length e2, .slice b3 d.ns.length e3, .int .i64 d.nw, .int .i64 d.nt] 31))
  rw [f3] at hcon
  have cX0 := (BX.2 0 _ rfl).1
  have cX1 := (BX.2 1 _ rfl).1
  have cX2 := (BX.2 2 _ rfl).1
  have cX3 := (BX.2 3 _ rfl).1
  have cX4 := (BX.2 4 _ rfl).1
  have zX := BX.1
  go_wp2_with fail
  refine hcon.mono ?_
  rintro e w' ⟨rfl, hw'⟩
  rw [hw']
  clear hw' w' hcon
  clear cX0 cX1 cX2 cX3 cX4 zX
  have hcon := read_ok a0 a1 a2 a3 c0 c1 c2 c3 g u t _ hat hI.sz hr
  rw [l0, l1, l2, l3, l4, l5] at hcon
  have cR0 := (BR.2 0 _ rfl).1
  have cR1 := (BR.2 1 _ rfl).1
  have cR2 := (BR.2 2 _ rfl).1
  have cR3 := (BR.2 3 _ rfl).1
  have cR4 := (BR.2 4 _ rfl).1
  have cR5 := (BR.2 5 _ rfl).1
  have zR := BR.1
  have cQ0 := (BQ.2 0 _ rfl).1
  have cQ1 := (BQ.2 1 _ rfl).1
  have zQ := BQ.1
  go_wp2_with fail
  refine hcon.mono ?_
  rintro e w6 ⟨rfl, hb6⟩
  clear cR0 cR1 cR2 cR3 cR4 cR5 zR cQ0 cQ1 zQ hcon
  clear yP yQ yR yX yV
  replace BP := BP.below hb6
  replace BQ := BQ.below hb6
  replace BR := BR.below hb6
  replace BX := BX.below hb6
  replace BV := BV.below hb6
  replace BY := BY.below hb6
  replace hat := hat.below hb6
  replace hat2 := hat2.below hb6
  replace bl := Below_after bl hb6
  have yP := BP.1
  have yQ := BQ.1
  have yR := BR.1
  have yX := BX.1
  have yV := BV.1
  have yY := BY.1
  generalize readD g u t = sv at *
  have hcon := has_any (getW g u t).rights 1 w6
  rw [r3] at hcon
  have cV0 := (BV.2 0 _ rfl).1
  have cV1 := (BV.2 1 _ rfl).1
  have cV2 := (BV.2 2 _ rfl).1
  have cV3 := (BV.2 3 _ rfl).1
  have cV4 := (BV.2 4 _ rfl).1
  have zV := BV.1
  go_wp2_with fail
  refine hcon.mono ?_
  rintro e w' ⟨rfl, hw'⟩
  rw [hw']
  clear hw' w' hcon
  clear cV0 cV1 cV2 cV3 cV4 zV
  have hcon := read_ok b0 b1 b2 b3 e0 e1 e2 e3 d u t _ hat2 hId.sz (hwho.trans hr)
  rw [hrd, hdl0] at hcon
  have cY0 := (BY.2 0 _ rfl).1
  have cY1 := (BY.2 1 _ rfl).1
  have cY2 := (BY.2 2 _ rfl).1
  have cY3 := (BY.2 3 _ rfl).1
  have cY4 := (BY.2 4 _ rfl).1
  have cY5 := (BY.2 5 _ rfl).1
  have zY := BY.1
  have cQ0 := (BQ.2 0 _ rfl).1
  have cQ1 := (BQ.2 1 _ rfl).1
  have zQ := BQ.1
  go_wp2_with fail
  refine hcon.mono ?_
  rintro e w7 ⟨rfl, hb7⟩
  clear cY0 cY1 cY2 cY3 cY4 cY5 zY cQ0 cQ1 zQ hcon
  clear yP yQ yR yX yV yY
  replace BP := BP.below hb7
  replace BQ := BQ.below hb7
  replace BR := BR.below hb7
  replace BX := BX.below hb7
  replace BV := BV.below hb7
  replace BY := BY.below hb7
  replace hat := hat.below hb7
  replace hat2 := hat2.below hb7
  replace bl := Below_after bl hb7
  have yP := BP.1
  have yQ := BQ.1
  have yR := BR.1
  have yX := BX.1
  have yV := BV.1
  have yY := BY.1
  have hcon := number_nil w7
  go_wp2_with fail
  refine hcon.mono ?_
  rintro e w' ⟨rfl, hw'⟩
  rw [hw']
  clear hw' w' hcon
  have hcon := number_nil w7
  go_wp2_with fail
  refine hcon.mono ?_
  rintro e w' ⟨rfl, hw'⟩
  rw [hw']
  clear hw' w' hcon
  have hsw := sw_same b0 a0 e0 c0 g.ws _ (hdws ▸ hat2.w) hat.w (by have := hI.sz.w; omega)
  rw [l0] at hsw
  have cY0 := (BY.2 0 _ rfl).1
  have cY1 := (BY.2 1 _ rfl).1
  have cY2 := (BY.2 2 _ rfl).1
  have cY3 := (BY.2 3 _ rfl).1
  have cY4 := (BY.2 4 _ rfl).1
  have cY5 := (BY.2 5 _ rfl).1
  have zY := BY.1
  have cR0 := (BR.2 0 _ rfl).1
  have cR1 := (BR.2 1 _ rfl).1
  have cR2 := (BR.2 2 _ rfl).1
  have cR3 := (BR.2 3 _ rfl).1
  have cR4 := (BR.2 4 _ rfl).1
  have cR5 := (BR.2 5 _ rfl).1
  have zR := BR.1
  have cX0 := (BX.2 0 _ rfl).1
  have cX1 := (BX.2 1 _ rfl).1
  have cX2 := (BX.2 2 _ rfl).1
  have cX3 := (BX.2 3 _ rfl).1
  have cX4 := (BX.2 4 _ rfl).1
  have zX := BX.1
  have cV0 := (BV.2 0 _ rfl).1
  have cV1 := (BV.2 1 _ rfl).1
  have cV2 := (BV.2 2 _ rfl).1
  have cV3 := (BV.2 3 _ rfl).1
  have cV4 := (BV.2 4 _ rfl).1
  have zV := BV.1
  go_wp2_with fail
  refine hsw.mono ?_
  rintro e w' ⟨rfl, nq, hw'⟩
  rw [hw']
  clear hw' w' hsw
  replace bl := below_drewN bl nq
  go_wp2_with fail
  go_ret
  exact ⟨rfl, bl⟩
set_option maxHeartbeats 2000000 in
set_option maxRecDepth 100000 in
theorem tcell_o2 (a : Option Addr) (c : Nat) (l : List Ac) (h s u t : Int) (dt : ByteArray) (w : World) (hw : AcsAt w a l) (hm : l.length ≤ maxLen) (hq : lacB l 80 = true) (hd : dt.size ≤ 20) (hc : writeC (growR l) h s dt = 0) (hr : whoC (growR l) u t 1 1 ≠ 0) :
    Calls Try.prog 4 #[.slice a l.length c, .agg #[.int .i64 h, .int .i64 s], .agg #[.int .i64 u, .int .i64 t], .string dt] w fun e w' => e = .returned (.bool true) ∧ Below w.heap.size w w' := by
  have BP := Bx.new w [.int .i64 h, .int .i64 s] 24
  replace BP := BP.alloc (.cells #[.int .i64 u, .int .i64 t] 24)
  have BQ := Bx.new (w.alloc (.cells #[.int .i64 h, .int .i64 s] 24)) [.int .i64 u, .int .i64 t] 24
  rw [sz_alloc] at BQ
  have bl := ((Below.refl w.heap.size w).alloc (by first | exact Nat.le_refl _ | (simp <;> omega)) (.cells #[.int .i64 h, .int .i64 s] 24)).alloc (by first | exact Nat.le_refl _ | (simp <;> omega)) (.cells #[.int .i64 u, .int .i64 t] 24)
  have hlen := lac_len hq
  have hi := inv_grow l l.length (by omega)
  rw [List.take_length] at hi
  have hI : RmI (growR l) := ⟨hi.sz (by omega), hi.put, hi.wf⟩
  have hW := whole_grow l
  have hk : InvK 80 (growR l) := hi.mono (by omega)
  clear hi
  go_enter Try.func4, Try.ntmps4
  have hcon := made_any ((w.alloc (.cells #[.int .i64 h, .int .i64 s] 24)).alloc (.cells #[.int .i64 u, .int .i64 t] 24))
  go_wp2_with fail
  refine hcon.mono ?_
  rintro e w1 ⟨rfl, hb1⟩
  clear hcon
  replace BP := BP.below hb1
  replace BQ := BQ.below hb1
  replace bl := Below_after bl hb1
  have yP := BP.1
  have yQ := BQ.1
  have hg := grown_yes a c l w1 (hw.below bl) hm hq
  generalize growR l = g at hg hI hW hk hc hr
  clear hq hw hm hlen
  have hcon := hg
  clear hg
  go_wp2_with fail
  refine hcon.mono ?_
  rintro e w2 ⟨a0, a1, a2, a3, N0, N1, N2, N3, c0, c1, c2, c3, M, N, rfl, ⟨l0, l1, l2, l3, l4, l5⟩, hat, -, hb2⟩
  clear hcon
  clear yP yQ
  replace BP := BP.below hb2
  replace BQ := BQ.below hb2
  replace bl := Below_after bl hb2
  have yP := BP.1
  have yQ := BQ.1
  replace BP := BP.alloc (.cells #[.slice a0 N0 c0, .slice a1 N1 c1, .slice a2 N2 c2, .slice a3 N3 c3, .int .i64 M, .int .i64 N] 31)
  replace BQ := BQ.alloc (.cells #[.slice a0 N0 c0, .slice a1 N1 c1, .slice a2 N2 c2, .slice a3 N3 c3, .int .i64 M, .int .i64 N] 31)
  replace hat := hat.below ((Below.refl _ _).alloc (Nat.le_refl _) (.cells #[.slice a0 N0 c0, .slice a1 N1 c1, .slice a2 N2 c2, .slice a3 N3 c3, .int .i64 M, .int .i64 N] 31))
  replace bl := bl.alloc bl.size (.cells #[.slice a0 N0 c0, .slice a1 N1 c1, .slice a2 N2 c2, .slice a3 N3 c3, .int .i64 M, .int .i64 N] 31)
  have BR := Bx.new w2 [.slice a0 N0 c0, .slice a1 N1 c1, .slice a2 N2 c2, .slice a3 N3 c3, .int .i64 M, .int .i64 N] 31
  have hdl : decide ((20 : Int) < (dt.size : Int)) = false := decide_eq_false (by omega)
  obtain ⟨w1', w2'⟩ := write_facts hc
  obtain ⟨f1, -, f3⟩ := who_facts w1'
  have hd8 : decide ((8 : Int) < (dt.size : Int)) = false := decide_eq_false (by omega)
  have hId := rmI_of (inv_write hk h s dt) (by omega)
  have hwho := writeR_who g h s dt u t 1 1
  have hcon := get_ok a0 a1 a2 a3 c0 c1 c2 c3 g h s _ hat hI.sz f1
  rw [l0, l1, l2, l3, l4, l5] at hcon
  have cR0 := (BR.2 0 _ rfl).1
  have cR1 := (BR.2 1 _ rfl).1
  have cR2 := (BR.2 2 _ rfl).1
  have cR3 := (BR.2 3 _ rfl).1
  have cR4 := (BR.2 4 _ rfl).1
  have cR5 := (BR.2 5 _ rfl).1
  have zR := BR.1
  have cP0 := (BP.2 0 _ rfl).1
  have cP1 := (BP.2 1 _ rfl).1
  have zP := BP.1
  go_wp2_with fail
  refine hcon.mono ?_
  rintro e w3 ⟨rfl, hb3⟩
  clear cR0 cR1 cR2 cR3 cR4 cR5 zR cP0 cP1 zP hcon
  clear yP yQ
  replace BP := BP.below hb3
  replace BQ := BQ.below hb3
  replace BR := BR.below hb3
  replace hat := hat.below hb3
  replace bl := Below_after bl hb3
  have yP := BP.1
  have yQ := BQ.1
  have yR := BR.1
  replace BP := BP.alloc (.cells #[.int .i64 (getW g h s).id, .int .i64 (getW g h s).thing, .int .i64 (getW g h s).rights, .int .i64 (getW g h s).badge, .int .i64 (getW g h s).frm] 35)
  replace BQ := BQ.alloc (.cells #[.int .i64 (getW g h s).id, .int .i64 (getW g h s).thing, .int .i64 (getW g h s).rights, .int .i64 (getW g h s).badge, .int .i64 (getW g h s).frm] 35)
  replace BR := BR.alloc (.cells #[.int .i64 (getW g h s).id, .int .i64 (getW g h s).thing, .int .i64 (getW g h s).rights, .int .i64 (getW g h s).badge, .int .i64 (getW g h s).frm] 35)
  replace hat := hat.below ((Below.refl _ _).alloc (Nat.le_refl _) (.cells #[.int .i64 (getW g h s).id, .int .i64 (getW g h s).thing, .int .i64 (getW g h s).rights, .int .i64 (getW g h s).badge, .int .i64 (getW g h s).frm] 35))
  replace bl := bl.alloc bl.size (.cells #[.int .i64 (getW g h s).id, .int .i64 (getW g h s).thing, .int .i64 (getW g h s).rights, .int .i64 (getW g h s).badge, .int .i64 (getW g h s).frm] 35)
  have BX := Bx.new w3 [.int .i64 (getW g h s).id, .int .i64 (getW g h s).thing, .int .i64 (getW g h s).rights, .int .i64 (getW g h s).badge, .int .i64 (getW g h s).frm] 35
  have hcon := get_any a0 a1 a2 a3 c0 c1 c2 c3 g u t _ hat hI.sz
  rw [l0, l1, l2, l3, l4, l5] at hcon
  have cR0 := (BR.2 0 _ rfl).1
  have cR1 := (BR.2 1 _ rfl).1
  have cR2 := (BR.2 2 _ rfl).1
  have cR3 := (BR.2 3 _ rfl).1
  have cR4 := (BR.2 4 _ rfl).1
  have cR5 := (BR.2 5 _ rfl).1
  have zR := BR.1
  have cQ0 := (BQ.2 0 _ rfl).1
  have cQ1 := (BQ.2 1 _ rfl).1
  have zQ := BQ.1
  go_wp2_with fail
  refine hcon.mono ?_
  rintro e w4 ⟨v, ev2, rfl, hG2, hb4⟩
  clear cR0 cR1 cR2 cR3 cR4 cR5 zR cQ0 cQ1 zQ hcon
  clear yP yQ yR
  replace BP := BP.below hb4
  replace BQ := BQ.below hb4
  replace BR := BR.below hb4
  replace BX := BX.below hb4
  replace hat := hat.below hb4
  replace bl := Below_after bl hb4
  have yP := BP.1
  have yQ := BQ.1
  have yR := BR.1
  have yX := BX.1
  replace BP := BP.alloc (.cells #[.int .i64 v.id, .int .i64 v.thing, .int .i64 v.rights, .int .i64 v.badge, .int .i64 v.frm] 35)
  replace BQ := BQ.alloc (.cells #[.int .i64 v.id, .int .i64 v.thing, .int .i64 v.rights, .int .i64 v.badge, .int .i64 v.frm] 35)
  replace BR := BR.alloc (.cells #[.int .i64 v.id, .int .i64 v.thing, .int .i64 v.rights, .int .i64 v.badge, .int .i64 v.frm] 35)
  replace BX := BX.alloc (.cells #[.int .i64 v.id, .int .i64 v.thing, .int .i64 v.rights, .int .i64 v.badge, .int .i64 v.frm] 35)
  replace hat := hat.below ((Below.refl _ _).alloc (Nat.le_refl _) (.cells #[.int .i64 v.id, .int .i64 v.thing, .int .i64 v.rights, .int .i64 v.badge, .int .i64 v.frm] 35))
  replace bl := bl.alloc bl.size (.cells #[.int .i64 v.id, .int .i64 v.thing, .int .i64 v.rights, .int .i64 v.badge, .int .i64 v.frm] 35)
  have BV := Bx.new w4 [.int .i64 v.id, .int .i64 v.thing, .int .i64 v.rights, .int .i64 v.badge, .int .i64 v.frm] 35
  have hcon := act_write a0 a1 a2 a3 c0 c1 c2 c3 g h s dt _ hat hI (by unfold maxLen; omega)
  rw [l0, l1, l2, l3, l4, l5] at hcon
  have cR0 := (BR.2 0 _ rfl).1
  have cR1 := (BR.2 1 _ rfl).1
  have cR2 := (BR.2 2 _ rfl).1
  have cR3 := (BR.2 3 _ rfl).1
  have cR4 := (BR.2 4 _ rfl).1
  have cR5 := (BR.2 5 _ rfl).1
  have zR := BR.1
  have cP0 := (BP.2 0 _ rfl).1
  have cP1 := (BP.2 1 _ rfl).1
  have zP := BP.1
  go_wp2_with fail
  refine hcon.mono ?_
  rintro e w5 ⟨b0, b1, b2, b3, m0, m1, m2, m3, e0, e1, e2, e3, mm, nn, ev, rfl, hA, hb5⟩
  clear cR0 cR1 cR2 cR3 cR4 cR5 zR cP0 cP1 zP hcon
  clear yP yQ yR yX
  replace BP := BP.below hb5
  replace BQ := BQ.below hb5
  replace BR := BR.below hb5
  replace BX := BX.below hb5
  replace BV := BV.below hb5
  replace hat := hat.below hb5
  replace bl := Below_after bl hb5
  have yP := BP.1
  have yQ := BQ.1
  have yR := BR.1
  have yX := BX.1
  have yV := BV.1
  obtain ⟨-, rfl, d0, rfl, rfl, rfl, rfl, rfl, hat2, -⟩ := hA.resolve_right (fun h => h.1 hc)
  have hdws : (writeR g h s dt).ws = g.ws := rfl
  rw [hdws, l0] at d0
  subst d0
  generalize writeR g h s dt = d at *
  replace BP := BP.alloc (.cells #[.slice b0 m0 e0, .slice b1 d.ts.length e1, .slice b2 d.hs.length e2, .slice b3 d.ns.length e3, .int .i64 d.nw, .int .i64 d.nt] 31)
  replace BQ := BQ.alloc (.cells #[.slice b0 m0 e0, .slice b1 d.ts.length e1, .slice b2 d.hs.length e2, .slice b3 d.ns.length e3, .int .i64 d.nw, .int .i64 d.nt] 31)
  replace BR := BR.alloc (.cells #[.slice b0 m0 e0, .slice b1 d.ts.length e1, .slice b2 d.hs.length e2, .slice b3 d.ns.length e3, .int .i64 d.nw, .int .i64 d.nt] 31)
  replace BX := BX.alloc (.cells #[.slice b0 m0 e0, .slice b1 d.ts.length e1, .slice b2 d.hs.length e2, .slice b3 d.ns.length e3, .int .i64 d.nw, .int .i64 d.nt] 31)
  replace BV := BV.alloc (.cells #[.slice b0 m0 e0, .slice b1 d.ts.length e1, .slice b2 d.hs.length e2, .slice b3 d.ns.length e3, .int .i64 d.nw, .int .i64 d.nt] 31)
  replace hat := hat.below ((Below.refl _ _).alloc (Nat.le_refl _) (.cells #[.slice b0 m0 e0, .slice b1 d.ts.length e1, .slice b2 d.hs.length e2, .slice b3 d.ns.length e3, .int .i64 d.nw, .int .i64 d.nt] 31))
  replace hat2 := hat2.below ((Below.refl _ _).alloc (Nat.le_refl _) (.cells #[.slice b0 m0 e0, .slice b1 d.ts.length e1, .slice b2 d.hs.length e2, .slice b3 d.ns.length e3, .int .i64 d.nw, .int .i64 d.nt] 31))
  replace bl := bl.alloc bl.size (.cells #[.slice b0 m0 e0, .slice b1 d.ts.length e1, .slice b2 d.hs.length e2, .slice b3 d.ns.length e3, .int .i64 d.nw, .int .i64 d.nt] 31)
  have BY := Bx.new w5 [.slice b0 m0 e0, .slice b1 d.ts.length e1, .slice b2 d.hs.length e2, .slice b3 d.ns.length e3, .int .i64 d.nw, .int .i64 d.nt] 31
  have hdl0 : d.ws.length = m0 := by rw [hdws]; exact l0
  have hcon := has_any (getW g h s).rights 2 (w5.alloc (.cells #[.slice b0 m0 e0, .slice b1 d.ts.length e1, .slice b2 d.hs.length e2, .slice b3 d.ns.length e3, .int .i64 d.nw, .int .i64 d.nt] 31))
  rw [f3] at hcon
  have cX0 := (BX.2 0 _ rfl).1
  have cX1 := (BX.2 1 _ rfl).1
  have cX2 := (BX.2 2 _ rfl).1
  have cX3 := (BX.2 3 _ rfl).1
  have cX4 := (BX.2 4 _ rfl).1
  have zX := BX.1
  go_wp2_with fail
  refine hcon.mono ?_
  rintro e w' ⟨rfl, hw'⟩
  rw [hw']
  clear hw' w' hcon
  clear cX0 cX1 cX2 cX3 cX4 zX
  have hcon := read_err a0 a1 a2 a3 c0 c1 c2 c3 g u t _ hat hI.sz hr
  rw [l0, l1, l2, l3, l4, l5] at hcon
  have cR0 := (BR.2 0 _ rfl).1
  have cR1 := (BR.2 1 _ rfl).1
  have cR2 := (BR.2 2 _ rfl).1
  have cR3 := (BR.2 3 _ rfl).1
  have cR4 := (BR.2 4 _ rfl).1
  have cR5 := (BR.2 5 _ rfl).1
  have zR := BR.1
  have cQ0 := (BQ.2 0 _ rfl).1
  have cQ1 := (BQ.2 1 _ rfl).1
  have zQ := BQ.1
  go_wp2_with fail
  refine hcon.mono ?_
  rintro e w6 ⟨rfl, hb6⟩
  clear cR0 cR1 cR2 cR3 cR4 cR5 zR cQ0 cQ1 zQ hcon
  clear yP yQ yR yX yV
  replace BP := BP.below hb6
  replace BQ := BQ.below hb6
  replace BR := BR.below hb6
  replace BX := BX.below hb6
  replace BV := BV.below hb6
  replace BY := BY.below hb6
  replace hat := hat.below hb6
  replace hat2 := hat2.below hb6
  replace bl := Below_after bl hb6
  have yP := BP.1
  have yQ := BQ.1
  have yR := BR.1
  have yX := BX.1
  have yV := BV.1
  have yY := BY.1
  have hcon := read_err b0 b1 b2 b3 e0 e1 e2 e3 d u t _ hat2 hId.sz (by rw [hwho]; exact hr)
  rw [hwho, hdl0] at hcon
  have cY0 := (BY.2 0 _ rfl).1
  have cY1 := (BY.2 1 _ rfl).1
  have cY2 := (BY.2 2 _ rfl).1
  have cY3 := (BY.2 3 _ rfl).1
  have cY4 := (BY.2 4 _ rfl).1
  have cY5 := (BY.2 5 _ rfl).1
  have zY := BY.1
  have cQ0 := (BQ.2 0 _ rfl).1
  have cQ1 := (BQ.2 1 _ rfl).1
  have zQ := BQ.1
  go_wp2_with fail
  refine hcon.mono ?_
  rintro e w7 ⟨rfl, hb7⟩
  clear cY0 cY1 cY2 cY3 cY4 cY5 zY cQ0 cQ1 zQ hcon
  clear yP yQ yR yX yV yY
  replace BP := BP.below hb7
  replace BQ := BQ.below hb7
  replace BR := BR.below hb7
  replace BX := BX.below hb7
  replace BV := BV.below hb7
  replace BY := BY.below hb7
  replace hat := hat.below hb7
  replace hat2 := hat2.below hb7
  replace bl := Below_after bl hb7
  have yP := BP.1
  have yQ := BQ.1
  have yR := BR.1
  have yX := BX.1
  have yV := BV.1
  have yY := BY.1
  generalize whoC g u t 1 1 = C at *
  have hcon := number_err C w7
  go_wp2_with fail
  refine hcon.mono ?_
  rintro e w' ⟨rfl, hw'⟩
  rw [hw']
  clear hw' w' hcon
  have hcon := number_err C w7
  go_wp2_with fail
  refine hcon.mono ?_
  rintro e w' ⟨rfl, hw'⟩
  rw [hw']
  clear hw' w' hcon
  have hsw := sw_same b0 a0 e0 c0 g.ws _ (hdws ▸ hat2.w) hat.w (by have := hI.sz.w; omega)
  rw [l0] at hsw
  have cY0 := (BY.2 0 _ rfl).1
  have cY1 := (BY.2 1 _ rfl).1
  have cY2 := (BY.2 2 _ rfl).1
  have cY3 := (BY.2 3 _ rfl).1
  have cY4 := (BY.2 4 _ rfl).1
  have cY5 := (BY.2 5 _ rfl).1
  have zY := BY.1
  have cR0 := (BR.2 0 _ rfl).1
  have cR1 := (BR.2 1 _ rfl).1
  have cR2 := (BR.2 2 _ rfl).1
  have cR3 := (BR.2 3 _ rfl).1
  have cR4 := (BR.2 4 _ rfl).1
  have cR5 := (BR.2 5 _ rfl).1
  have zR := BR.1
  go_wp2_with fail
  refine hsw.mono ?_
  rintro e w' ⟨rfl, nq, hw'⟩
  rw [hw']
  clear hw' w' hsw
  replace bl := below_drewN bl nq
  go_wp2_with fail
  go_ret
  exact ⟨rfl, bl⟩
theorem tcell_yes (a : Option Addr) (c : Nat) (l : List Ac) (h s u t : Int) (dt : ByteArray) (w : World) (hw : AcsAt w a l) (hm : l.length ≤ maxLen) (hq : lacB l 80 = true) :
    Calls Try.prog 4 #[.slice a l.length c, .agg #[.int .i64 h, .int .i64 s], .agg #[.int .i64 u, .int .i64 t], .string dt] w fun e w' => e = .returned (.bool true) ∧ Below w.heap.size w w' := by
  by_cases hd : dt.size ≤ 20
  · by_cases hc : writeC (growR l) h s dt = 0
    · by_cases hr : whoC (growR l) u t 1 1 = 0
      · by_cases hth : (getW (growR l) h s).thing = (getW (growR l) u t).thing
        · exact tcell_o1 a c l h s u t dt w hw hm hq hd hc hr hth
        · exact tcell_o3 a c l h s u t dt w hw hm hq hd hc hr hth
      · exact tcell_o2 a c l h s u t dt w hw hm hq hd hc hr
    · by_cases hr : whoC (growR l) u t 1 1 = 0
      · exact tcell_e1 a c l h s u t dt w hw hm hq hd hc hr
      · exact tcell_e2 a c l h s u t dt w hw hm hq hd hc hr
  · exact tcell_long a c l h s u t dt w hw hm hq hd
theorem tcell_any (w : World) (a : Option Addr) (l : List Ac) (c : Nat) (hw : AcsAt w a l) (hm : l.length ≤ maxLen) (h s u t : Int) (dt : ByteArray) :
    Calls Try.prog 4 #[.slice a l.length c, .agg #[.int .i64 h, .int .i64 s], .agg #[.int .i64 u, .int .i64 t], .string dt] w fun e w' => e = .returned (.bool true) ∧ Below w.heap.size w w' := by
  cases hq : lacB l 80
  · exact tcell_no a c l h s u t dt w hw hm hq
  · exact tcell_yes a c l h s u t dt w hw hm hq
end Go.Proofs.Ytihckdndecbefad
