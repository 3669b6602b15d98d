/- TopNote, walked. -/
import Derived.Test.YtpmkkmndgicbgaaGrownB
import Derived.Test.YtpmkkmndgicbgaaMadeW
import Derived.Test.YtpmkkmndgicbgaaNumW
import Derived.Test.YtpmkkmndgicbgaaWaitW
import Derived.Test.YtpmkkmndgicbgaaTopNoteA
import Derived.Test.YtpmkkmndgicbgaaTopNoteB
set_option linter.unusedSimpArgs false
set_option linter.unnecessarySimpa false
set_option linter.unusedVariables false
namespace Go.Proofs.Ytpmkkmndgicbgaa
open Go.RowKit

set_option maxHeartbeats 2000000 in
set_option maxRecDepth 100000 in
theorem tnote_no (a : Option Addr) (c : Nat) (l : List Ac) (h s u t : Int) (dt : ByteArray) (sl ri : Int) (w : World) (hw : AcsAt w a l) (hm : l.length ≤ maxLen) (hq : lacB l 80 = false) :
    Calls Try.prog 3 #[.slice a l.length c, .agg #[.int .i64 h, .int .i64 s], .agg #[.int .i64 u, .int .i64 t], .string dt, .int .i64 sl, .int .i64 ri] w fun e w' => e = .returned (.bool true) ∧ Below w.heap.size w w' := by
  have BP := Bx.new w [.int .i64 h, .int .i64 s] 24
  replace BP := BP.alloc (.cells #[.int .i64 u, .int .i64 t] 24)
  have BQ := Bx.new (w.alloc (.cells #[.int .i64 h, .int .i64 s] 24)) [.int .i64 u, .int .i64 t] 24
  rw [sz_alloc] at BQ
  have bl := ((Below.refl w.heap.size w).alloc (by first | exact Nat.le_refl _ | (simp <;> omega)) (.cells #[.int .i64 h, .int .i64 s] 24)).alloc (by first | exact Nat.le_refl _ | (simp <;> omega)) (.cells #[.int .i64 u, .int .i64 t] 24)
  go_enter Try.func3, Try.ntmps3
  have hcon := made_any ((w.alloc (.cells #[.int .i64 h, .int .i64 s] 24)).alloc (.cells #[.int .i64 u, .int .i64 t] 24))
  go_wp2_with fail
  refine hcon.mono ?_
  rintro e w1 ⟨rfl, hb1⟩
  clear hcon
  replace BP := BP.below hb1
  replace BQ := BQ.below hb1
  replace bl := Below_after bl hb1
  have yP := BP.1
  have yQ := BQ.1
  have hcon := grown_no a c l w1 (hw.below bl) hm hq
  go_wp2_with fail
  refine hcon.mono ?_
  rintro e w2 ⟨rfl, hb2⟩
  clear hcon
  clear yP yQ
  replace BP := BP.below hb2
  replace BQ := BQ.below hb2
  replace bl := Below_after bl hb2
  have yP := BP.1
  have yQ := BQ.1
  replace BP := BP.alloc (.cells #[.slice none 0 0, .slice none 0 0, .slice none 0 0, .slice none 0 0, .int .i64 0, .int .i64 0] 31)
  replace BQ := BQ.alloc (.cells #[.slice none 0 0, .slice none 0 0, .slice none 0 0, .slice none 0 0, .int .i64 0, .int .i64 0] 31)
  replace bl := bl.alloc bl.size (.cells #[.slice none 0 0, .slice none 0 0, .slice none 0 0, .slice none 0 0, .int .i64 0, .int .i64 0] 31)
  have BZ := Bx.new w2 [.slice none 0 0, .slice none 0 0, .slice none 0 0, .slice none 0 0, .int .i64 0, .int .i64 0] 31
  go_wp2_with fail
  go_ret
  exact ⟨rfl, bl⟩
set_option maxHeartbeats 2000000 in
set_option maxRecDepth 100000 in
theorem tnote_long (a : Option Addr) (c : Nat) (l : List Ac) (h s u t : Int) (dt : ByteArray) (sl ri : Int) (w : World) (hw : AcsAt w a l) (hm : l.length ≤ maxLen) (hq : lacB l 80 = true) (hd : ¬ dt.size ≤ 20) :
    Calls Try.prog 3 #[.slice a l.length c, .agg #[.int .i64 h, .int .i64 s], .agg #[.int .i64 u, .int .i64 t], .string dt, .int .i64 sl, .int .i64 ri] w fun e w' => e = .returned (.bool true) ∧ Below w.heap.size w w' := by
  have BP := Bx.new w [.int .i64 h, .int .i64 s] 24
  replace BP := BP.alloc (.cells #[.int .i64 u, .int .i64 t] 24)
  have BQ := Bx.new (w.alloc (.cells #[.int .i64 h, .int .i64 s] 24)) [.int .i64 u, .int .i64 t] 24
  rw [sz_alloc] at BQ
  have bl := ((Below.refl w.heap.size w).alloc (by first | exact Nat.le_refl _ | (simp <;> omega)) (.cells #[.int .i64 h, .int .i64 s] 24)).alloc (by first | exact Nat.le_refl _ | (simp <;> omega)) (.cells #[.int .i64 u, .int .i64 t] 24)
  have hlen := lac_len hq
  have hi := inv_grow l l.length (by omega)
  rw [List.take_length] at hi
  have hI : RmI (growR l) := ⟨hi.sz (by omega), hi.put, hi.wf⟩
  have hW := whole_grow l
  have hk : InvK 80 (growR l) := hi.mono (by omega)
  clear hi
  go_enter Try.func3, Try.ntmps3
  have hcon := made_any ((w.alloc (.cells #[.int .i64 h, .int .i64 s] 24)).alloc (.cells #[.int .i64 u, .int .i64 t] 24))
  go_wp2_with fail
  refine hcon.mono ?_
  rintro e w1 ⟨rfl, hb1⟩
  clear hcon
  replace BP := BP.below hb1
  replace BQ := BQ.below hb1
  replace bl := Below_after bl hb1
  have yP := BP.1
  have yQ := BQ.1
  have hg := grown_yes a c l w1 (hw.below bl) hm hq
  generalize growR l = g at hg hI hW hk
  clear hq hw hm hlen
  have hcon := hg
  clear hg
  go_wp2_with fail
  refine hcon.mono ?_
  rintro e w2 ⟨a0, a1, a2, a3, N0, N1, N2, N3, c0, c1, c2, c3, M, N, rfl, ⟨l0, l1, l2, l3, l4, l5⟩, hat, -, hb2⟩
  clear hcon
  clear yP yQ
  replace BP := BP.below hb2
  replace BQ := BQ.below hb2
  replace bl := Below_after bl hb2
  have yP := BP.1
  have yQ := BQ.1
  replace BP := BP.alloc (.cells #[.slice a0 N0 c0, .slice a1 N1 c1, .slice a2 N2 c2, .slice a3 N3 c3, .int .i64 M, .int .i64 N] 31)
  replace BQ := BQ.alloc (.cells #[.slice a0 N0 c0, .slice a1 N1 c1, .slice a2 N2 c2, .slice a3 N3 c3, .int .i64 M, .int .i64 N] 31)
  replace hat := hat.below ((Below.refl _ _).alloc (Nat.le_refl _) (.cells #[.slice a0 N0 c0, .slice a1 N1 c1, .slice a2 N2 c2, .slice a3 N3 c3, .int .i64 M, .int .i64 N] 31))
  replace bl := bl.alloc bl.size (.cells #[.slice a0 N0 c0, .slice a1 N1 c1, .slice a2 N2 c2, .slice a3 N3 c3, .int .i64 M, .int .i64 N] 31)
  have BR := Bx.new w2 [.slice a0 N0 c0, .slice a1 N1 c1, .slice a2 N2 c2, .slice a3 N3 c3, .int .i64 M, .int .i64 N] 31
  have hdl : decide ((20 : Int) < (dt.size : Int)) = true := decide_eq_true (by omega)
  go_wp2_with fail
  go_ret
  exact ⟨rfl, bl⟩
set_option maxHeartbeats 2000000 in
set_option maxRecDepth 100000 in
theorem tnote_err (a : Option Addr) (c : Nat) (l : List Ac) (h s u t : Int) (dt : ByteArray) (sl ri : Int) (w : World) (hw : AcsAt w a l) (hm : l.length ≤ maxLen) (hq : lacB l 80 = true) (hd : dt.size ≤ 20) (hc : sendC (growR l) h s dt sl ri ≠ 0) :
    Calls Try.prog 3 #[.slice a l.length c, .agg #[.int .i64 h, .int .i64 s], .agg #[.int .i64 u, .int .i64 t], .string dt, .int .i64 sl, .int .i64 ri] w fun e w' => e = .returned (.bool true) ∧ Below w.heap.size w w' := by
  have BP := Bx.new w [.int .i64 h, .int .i64 s] 24
  replace BP := BP.alloc (.cells #[.int .i64 u, .int .i64 t] 24)
  have BQ := Bx.new (w.alloc (.cells #[.int .i64 h, .int .i64 s] 24)) [.int .i64 u, .int .i64 t] 24
  rw [sz_alloc] at BQ
  have bl := ((Below.refl w.heap.size w).alloc (by first | exact Nat.le_refl _ | (simp <;> omega)) (.cells #[.int .i64 h, .int .i64 s] 24)).alloc (by first | exact Nat.le_refl _ | (simp <;> omega)) (.cells #[.int .i64 u, .int .i64 t] 24)
  have hlen := lac_len hq
  have hi := inv_grow l l.length (by omega)
  rw [List.take_length] at hi
  have hI : RmI (growR l) := ⟨hi.sz (by omega), hi.put, hi.wf⟩
  have hW := whole_grow l
  have hk : InvK 80 (growR l) := hi.mono (by omega)
  clear hi
  go_enter Try.func3, Try.ntmps3
  have hcon := made_any ((w.alloc (.cells #[.int .i64 h, .int .i64 s] 24)).alloc (.cells #[.int .i64 u, .int .i64 t] 24))
  go_wp2_with fail
  refine hcon.mono ?_
  rintro e w1 ⟨rfl, hb1⟩
  clear hcon
  replace BP := BP.below hb1
  replace BQ := BQ.below hb1
  replace bl := Below_after bl hb1
  have yP := BP.1
  have yQ := BQ.1
  have hg := grown_yes a c l w1 (hw.below bl) hm hq
  generalize growR l = g at hg hI hW hk hc
  clear hq hw hm hlen
  have hcon := hg
  clear hg
  go_wp2_with fail
  refine hcon.mono ?_
  rintro e w2 ⟨a0, a1, a2, a3, N0, N1, N2, N3, c0, c1, c2, c3, M, N, rfl, ⟨l0, l1, l2, l3, l4, l5⟩, hat, -, hb2⟩
  clear hcon
  clear yP yQ
  replace BP := BP.below hb2
  replace BQ := BQ.below hb2
  replace bl := Below_after bl hb2
  have yP := BP.1
  have yQ := BQ.1
  replace BP := BP.alloc (.cells #[.slice a0 N0 c0, .slice a1 N1 c1, .slice a2 N2 c2, .slice a3 N3 c3, .int .i64 M, .int .i64 N] 31)
  replace BQ := BQ.alloc (.cells #[.slice a0 N0 c0, .slice a1 N1 c1, .slice a2 N2 c2, .slice a3 N3 c3, .int .i64 M, .int .i64 N] 31)
  replace hat := hat.below ((Below.refl _ _).alloc (Nat.le_refl _) (.cells #[.slice a0 N0 c0, .slice a1 N1 c1, .slice a2 N2 c2, .slice a3 N3 c3, .int .i64 M, .int .i64 N] 31))
  replace bl := bl.alloc bl.size (.cells #[.slice a0 N0 c0, .slice a1 N1 c1, .slice a2 N2 c2, .slice a3 N3 c3, .int .i64 M, .int .i64 N] 31)
  have BR := Bx.new w2 [.slice a0 N0 c0, .slice a1 N1 c1, .slice a2 N2 c2, .slice a3 N3 c3, .int .i64 M, .int .i64 N] 31
  have hdl : decide ((20 : Int) < (dt.size : Int)) = false := decide_eq_false (by omega)
  have hcon := get_any a0 a1 a2 a3 c0 c1 c2 c3 g h s _ hat hI.sz
  rw [l0, l1, l2, l3, l4, l5] at hcon
  have cR0 := (BR.2 0 _ rfl).1
  have cR1 := (BR.2 1 _ rfl).1
  have cR2 := (BR.2 2 _ rfl).1
  have cR3 := (BR.2 3 _ rfl).1
  have cR4 := (BR.2 4 _ rfl).1
  have cR5 := (BR.2 5 _ rfl).1
  have zR := BR.1
  have cP0 := (BP.2 0 _ rfl).1
  have cP1 := (BP.2 1 _ rfl).1
  have zP := BP.1
  go_wp2_with fail
  refine hcon.mono ?_
  rintro e w3 ⟨x, ev1, rfl, hG1, hb3⟩
  clear cR0 cR1 cR2 cR3 cR4 cR5 zR cP0 cP1 zP hcon
  clear yP yQ
  replace BP := BP.below hb3
  replace BQ := BQ.below hb3
  replace BR := BR.below hb3
  replace hat := hat.below hb3
  replace bl := Below_after bl hb3
  have yP := BP.1
  have yQ := BQ.1
  have yR := BR.1
  replace BP := BP.alloc (.cells #[.int .i64 x.id, .int .i64 x.thing, .int .i64 x.rights, .int .i64 x.badge, .int .i64 x.frm] 35)
  replace BQ := BQ.alloc (.cells #[.int .i64 x.id, .int .i64 x.thing, .int .i64 x.rights, .int .i64 x.badge, .int .i64 x.frm] 35)
  replace BR := BR.alloc (.cells #[.int .i64 x.id, .int .i64 x.thing, .int .i64 x.rights, .int .i64 x.badge, .int .i64 x.frm] 35)
  replace hat := hat.below ((Below.refl _ _).alloc (Nat.le_refl _) (.cells #[.int .i64 x.id, .int .i64 x.thing, .int .i64 x.rights, .int .i64 x.badge, .int .i64 x.frm] 35))
  replace bl := bl.alloc bl.size (.cells #[.int .i64 x.id, .int .i64 x.thing, .int .i64 x.rights, .int .i64 x.badge, .int .i64 x.frm] 35)
  have BX := Bx.new w3 [.int .i64 x.id, .int .i64 x.thing, .int .i64 x.rights, .int .i64 x.badge, .int .i64 x.frm] 35
  have hcon := get_any a0 a1 a2 a3 c0 c1 c2 c3 g h sl _ hat hI.sz
  rw [l0, l1, l2, l3, l4, l5] at hcon
  have cR0 := (BR.2 0 _ rfl).1
  have cR1 := (BR.2 1 _ rfl).1
  have cR2 := (BR.2 2 _ rfl).1
  have cR3 := (BR.2 3 _ rfl).1
  have cR4 := (BR.2 4 _ rfl).1
  have cR5 := (BR.2 5 _ rfl).1
  have zR := BR.1
  have cP0 := (BP.2 0 _ rfl).1
  have cP1 := (BP.2 1 _ rfl).1
  have zP := BP.1
  go_wp2_with fail
  refine hcon.mono ?_
  rintro e w4 ⟨y, ev2, rfl, hG2, hb4⟩
  clear cR0 cR1 cR2 cR3 cR4 cR5 zR cP0 cP1 zP hcon
  clear yP yQ yR
  replace BP := BP.below hb4
  replace BQ := BQ.below hb4
  replace BR := BR.below hb4
  replace BX := BX.below hb4
  replace hat := hat.below hb4
  replace bl := Below_after bl hb4
  have yP := BP.1
  have yQ := BQ.1
  have yR := BR.1
  have yX := BX.1
  replace BP := BP.alloc (.cells #[.int .i64 y.id, .int .i64 y.thing, .int .i64 y.rights, .int .i64 y.badge, .int .i64 y.frm] 35)
  replace BQ := BQ.alloc (.cells #[.int .i64 y.id, .int .i64 y.thing, .int .i64 y.rights, .int .i64 y.badge, .int .i64 y.frm] 35)
  replace BR := BR.alloc (.cells #[.int .i64 y.id, .int .i64 y.thing, .int .i64 y.rights, .int .i64 y.badge, .int .i64 y.frm] 35)
  replace BX := BX.alloc (.cells #[.int .i64 y.id, .int .i64 y.thing, .int .i64 y.rights, .int .i64 y.badge, .int .i64 y.frm] 35)
  replace hat := hat.below ((Below.refl _ _).alloc (Nat.le_refl _) (.cells #[.int .i64 y.id, .int .i64 y.thing, .int .i64 y.rights, .int .i64 y.badge, .int .i64 y.frm] 35))
  replace bl := bl.alloc bl.size (.cells #[.int .i64 y.id, .int .i64 y.thing, .int .i64 y.rights, .int .i64 y.badge, .int .i64 y.frm] 35)
  have BG := Bx.new w4 [.int .i64 y.id, .int .i64 y.thing, .int .i64 y.rights, .int .i64 y.badge, .int .i64 y.frm] 35
  have hcon := act_send a0 a1 a2 a3 c0 c1 c2 c3 g h s dt sl ri _ hat hI (by unfold maxLen; omega)
  rw [l0, l1, l2, l3, l4, l5] at hcon
  have cR0 := (BR.2 0 _ rfl).1
  have cR1 := (BR.2 1 _ rfl).1
  have cR2 := (BR.2 2 _ rfl).1
  have cR3 := (BR.2 3 _ rfl).1
  have cR4 := (BR.2 4 _ rfl).1
  have cR5 := (BR.2 5 _ rfl).1
  have zR := BR.1
  have cP0 := (BP.2 0 _ rfl).1
  have cP1 := (BP.2 1 _ rfl).1
  have zP := BP.1
  go_wp2_with fail
  refine hcon.mono ?_
  rintro e w5 ⟨b0, b1, b2, b3, m0, m1, m2, m3, e0, e1, e2, e3, mm, nn, ev, rfl, hA, hb5⟩
  clear cR0 cR1 cR2 cR3 cR4 cR5 zR cP0 cP1 zP hcon
  clear yP yQ yR yX
  replace BP := BP.below hb5
  replace BQ := BQ.below hb5
  replace BR := BR.below hb5
  replace BX := BX.below hb5
  replace BG := BG.below hb5
  replace hat := hat.below hb5
  replace bl := Below_after bl hb5
  have yP := BP.1
  have yQ := BQ.1
  have yR := BR.1
  have yX := BX.1
  have yG := BG.1
  obtain ⟨-, rfl, rfl, rfl, rfl, rfl, rfl, rfl, rfl, rfl, rfl, rfl, rfl, rfl, rfl, rfl⟩ := hA.resolve_left (fun h => hc h.1)
  replace BP := BP.alloc (.cells #[.slice none 0 0, .slice none 0 0, .slice none 0 0, .slice none 0 0, .int .i64 0, .int .i64 0] 31)
  replace BQ := BQ.alloc (.cells #[.slice none 0 0, .slice none 0 0, .slice none 0 0, .slice none 0 0, .int .i64 0, .int .i64 0] 31)
  replace BR := BR.alloc (.cells #[.slice none 0 0, .slice none 0 0, .slice none 0 0, .slice none 0 0, .int .i64 0, .int .i64 0] 31)
  replace BX := BX.alloc (.cells #[.slice none 0 0, .slice none 0 0, .slice none 0 0, .slice none 0 0, .int .i64 0, .int .i64 0] 31)
  replace BG := BG.alloc (.cells #[.slice none 0 0, .slice none 0 0, .slice none 0 0, .slice none 0 0, .int .i64 0, .int .i64 0] 31)
  replace hat := hat.below ((Below.refl _ _).alloc (Nat.le_refl _) (.cells #[.slice none 0 0, .slice none 0 0, .slice none 0 0, .slice none 0 0, .int .i64 0, .int .i64 0] 31))
  replace bl := bl.alloc bl.size (.cells #[.slice none 0 0, .slice none 0 0, .slice none 0 0, .slice none 0 0, .int .i64 0, .int .i64 0] 31)
  have BY := Bx.new w5 [.slice none 0 0, .slice none 0 0, .slice none 0 0, .slice none 0 0, .int .i64 0, .int .i64 0] 31
  go_wp2_with fail
  go_ret
  exact ⟨rfl, bl⟩
set_option maxHeartbeats 2000000 in
set_option maxRecDepth 100000 in
theorem tnote_qn (a : Option Addr) (c : Nat) (l : List Ac) (h s u t : Int) (dt : ByteArray) (sl ri : Int) (w : World) (hw : AcsAt w a l) (hm : l.length ≤ maxLen) (hq : lacB l 80 = true) (hd : dt.size ≤ 20) (hc : sendC (growR l) h s dt sl ri = 0) (hsl : sl < 0) (hgq : getC (sendR (growR l) h s dt sl ri) u t ≠ 0) :
    Calls Try.prog 3 #[.slice a l.length c, .agg #[.int .i64 h, .int .i64 s], .agg #[.int .i64 u, .int .i64 t], .string dt, .int .i64 sl, .int .i64 ri] w fun e w' => e = .returned (.bool true) ∧ Below w.heap.size w w' := by
  have BP := Bx.new w [.int .i64 h, .int .i64 s] 24
  replace BP := BP.alloc (.cells #[.int .i64 u, .int .i64 t] 24)
  have BQ := Bx.new (w.alloc (.cells #[.int .i64 h, .int .i64 s] 24)) [.int .i64 u, .int .i64 t] 24
  rw [sz_alloc] at BQ
  have bl := ((Below.refl w.heap.size w).alloc (by first | exact Nat.le_refl _ | (simp <;> omega)) (.cells #[.int .i64 h, .int .i64 s] 24)).alloc (by first | exact Nat.le_refl _ | (simp <;> omega)) (.cells #[.int .i64 u, .int .i64 t] 24)
  have hlen := lac_len hq
  have hi := inv_grow l l.length (by omega)
  rw [List.take_length] at hi
  have hI : RmI (growR l) := ⟨hi.sz (by omega), hi.put, hi.wf⟩
  have hW := whole_grow l
  have hk : InvK 80 (growR l) := hi.mono (by omega)
  clear hi
  go_enter Try.func3, Try.ntmps3
  have hcon := made_any ((w.alloc (.cells #[.int .i64 h, .int .i64 s] 24)).alloc (.cells #[.int .i64 u, .int .i64 t] 24))
  go_wp2_with fail
  refine hcon.mono ?_
  rintro e w1 ⟨rfl, hb1⟩
  clear hcon
  replace BP := BP.below hb1
  replace BQ := BQ.below hb1
  replace bl := Below_after bl hb1
  have yP := BP.1
  have yQ := BQ.1
  have hg := grown_yes a c l w1 (hw.below bl) hm hq
  generalize growR l = g at hg hI hW hk hc hgq
  clear hq hw hm hlen
  have hcon := hg
  clear hg
  go_wp2_with fail
  refine hcon.mono ?_
  rintro e w2 ⟨a0, a1, a2, a3, N0, N1, N2, N3, c0, c1, c2, c3, M, N, rfl, ⟨l0, l1, l2, l3, l4, l5⟩, hat, -, hb2⟩
  clear hcon
  clear yP yQ
  replace BP := BP.below hb2
  replace BQ := BQ.below hb2
  replace bl := Below_after bl hb2
  have yP := BP.1
  have yQ := BQ.1
  replace BP := BP.alloc (.cells #[.slice a0 N0 c0, .slice a1 N1 c1, .slice a2 N2 c2, .slice a3 N3 c3, .int .i64 M, .int .i64 N] 31)
  replace BQ := BQ.alloc (.cells #[.slice a0 N0 c0, .slice a1 N1 c1, .slice a2 N2 c2, .slice a3 N3 c3, .int .i64 M, .int .i64 N] 31)
  replace hat := hat.below ((Below.refl _ _).alloc (Nat.le_refl _) (.cells #[.slice a0 N0 c0, .slice a1 N1 c1, .slice a2 N2 c2, .slice a3 N3 c3, .int .i64 M, .int .i64 N] 31))
  replace bl := bl.alloc bl.size (.cells #[.slice a0 N0 c0, .slice a1 N1 c1, .slice a2 N2 c2, .slice a3 N3 c3, .int .i64 M, .int .i64 N] 31)
  have BR := Bx.new w2 [.slice a0 N0 c0, .slice a1 N1 c1, .slice a2 N2 c2, .slice a3 N3 c3, .int .i64 M, .int .i64 N] 31
  have hdl : decide ((20 : Int) < (dt.size : Int)) = false := decide_eq_false (by omega)
  obtain ⟨sw, -, slen, shd⟩ := send_facts hc
  obtain ⟨f1, -, f3⟩ := who_facts sw
  have hkd := inv_send hk hc
  have hId := rmI_of hkd (by omega)
  have hbeg := fun h1 h2 => send_begin hW hc (g := u) (u := t) h1 h2
  have hs0 : decide (0 ≤ sl) = false := decide_eq_false (by omega)
  have hcon := get_ok a0 a1 a2 a3 c0 c1 c2 c3 g h s _ hat hI.sz f1
  rw [l0, l1, l2, l3, l4, l5] at hcon
  have cR0 := (BR.2 0 _ rfl).1
  have cR1 := (BR.2 1 _ rfl).1
  have cR2 := (BR.2 2 _ rfl).1
  have cR3 := (BR.2 3 _ rfl).1
  have cR4 := (BR.2 4 _ rfl).1
  have cR5 := (BR.2 5 _ rfl).1
  have zR := BR.1
  have cP0 := (BP.2 0 _ rfl).1
  have cP1 := (BP.2 1 _ rfl).1
  have zP := BP.1
  go_wp2_with fail
  refine hcon.mono ?_
  rintro e w3 ⟨rfl, hb3⟩
  clear cR0 cR1 cR2 cR3 cR4 cR5 zR cP0 cP1 zP hcon
  clear yP yQ
  replace BP := BP.below hb3
  replace BQ := BQ.below hb3
  replace BR := BR.below hb3
  replace hat := hat.below hb3
  replace bl := Below_after bl hb3
  have yP := BP.1
  have yQ := BQ.1
  have yR := BR.1
  replace BP := BP.alloc (.cells #[.int .i64 (getW g h s).id, .int .i64 (getW g h s).thing, .int .i64 (getW g h s).rights, .int .i64 (getW g h s).badge, .int .i64 (getW g h s).frm] 35)
  replace BQ := BQ.alloc (.cells #[.int .i64 (getW g h s).id, .int .i64 (getW g h s).thing, .int .i64 (getW g h s).rights, .int .i64 (getW g h s).badge, .int .i64 (getW g h s).frm] 35)
  replace BR := BR.alloc (.cells #[.int .i64 (getW g h s).id, .int .i64 (getW g h s).thing, .int .i64 (getW g h s).rights, .int .i64 (getW g h s).badge, .int .i64 (getW g h s).frm] 35)
  replace hat := hat.below ((Below.refl _ _).alloc (Nat.le_refl _) (.cells #[.int .i64 (getW g h s).id, .int .i64 (getW g h s).thing, .int .i64 (getW g h s).rights, .int .i64 (getW g h s).badge, .int .i64 (getW g h s).frm] 35))
  replace bl := bl.alloc bl.size (.cells #[.int .i64 (getW g h s).id, .int .i64 (getW g h s).thing, .int .i64 (getW g h s).rights, .int .i64 (getW g h s).badge, .int .i64 (getW g h s).frm] 35)
  have BX := Bx.new w3 [.int .i64 (getW g h s).id, .int .i64 (getW g h s).thing, .int .i64 (getW g h s).rights, .int .i64 (getW g h s).badge, .int .i64 (getW g h s).frm] 35
  have hcon := get_any a0 a1 a2 a3 c0 c1 c2 c3 g h sl _ hat hI.sz
  rw [l0, l1, l2, l3, l4, l5] at hcon
  have cR0 := (BR.2 0 _ rfl).1
  have cR1 := (BR.2 1 _ rfl).1
  have cR2 := (BR.2 2 _ rfl).1
  have cR3 := (BR.2 3 _ rfl).1
  have cR4 := (BR.2 4 _ rfl).1
  have cR5 := (BR.2 5 _ rfl).1
  have zR := BR.1
  have cP0 := (BP.2 0 _ rfl).1
  have cP1 := (BP.2 1 _ rfl).1
  have zP := BP.1
  go_wp2_with fail
  refine hcon.mono ?_
  rintro e w4 ⟨y, ev2, rfl, hG2, hb4⟩
  clear cR0 cR1 cR2 cR3 cR4 cR5 zR cP0 cP1 zP hcon
  clear yP yQ yR
  replace BP := BP.below hb4
  replace BQ := BQ.below hb4
  replace BR := BR.below hb4
  replace BX := BX.below hb4
  replace hat := hat.below hb4
  replace bl := Below_after bl hb4
  have yP := BP.1
  have yQ := BQ.1
  have yR := BR.1
  have yX := BX.1
  replace BP := BP.alloc (.cells #[.int .i64 y.id, .int .i64 y.thing, .int .i64 y.rights, .int .i64 y.badge, .int .i64 y.frm] 35)
  replace BQ := BQ.alloc (.cells #[.int .i64 y.id, .int .i64 y.thing, .int .i64 y.rights, .int .i64 y.badge, .int .i64 y.frm] 35)
  replace BR := BR.alloc (.cells #[.int .i64 y.id, .int .i64 y.thing, .int .i64 y.rights, .int .i64 y.badge, .int .i64 y.frm] 35)
  replace BX := BX.alloc (.cells #[.int .i64 y.id, .int .i64 y.thing, .int .i64 y.rights, .int .i64 y.badge, .int .i64 y.frm] 35)
  replace hat := hat.below ((Below.refl _ _).alloc (Nat.le_refl _) (.cells #[.int .i64 y.id, .int .i64 y.thing, .int .i64 y.rights, .int .i64 y.badge, .int .i64 y.frm] 35))
  replace bl := bl.alloc bl.size (.cells #[.int .i64 y.id, .int .i64 y.thing, .int .i64 y.rights, .int .i64 y.badge, .int .i64 y.frm] 35)
  have BG := Bx.new w4 [.int .i64 y.id, .int .i64 y.thing, .int .i64 y.rights, .int .i64 y.badge, .int .i64 y.frm] 35
  have hcon := act_send a0 a1 a2 a3 c0 c1 c2 c3 g h s dt sl ri _ hat hI (by unfold maxLen; omega)
  rw [l0, l1, l2, l3, l4, l5] at hcon
  have cR0 := (BR.2 0 _ rfl).1
  have cR1 := (BR.2 1 _ rfl).1
  have cR2 := (BR.2 2 _ rfl).1
  have cR3 := (BR.2 3 _ rfl).1
  have cR4 := (BR.2 4 _ rfl).1
  have cR5 := (BR.2 5 _ rfl).1
  have zR := BR.1
  have cP0 := (BP.2 0 _ rfl).1
  have cP1 := (BP.2 1 _ rfl).1
  have zP := BP.1
  go_wp2_with fail
  refine hcon.mono ?_
  rintro e w5 ⟨b0, b1, b2, b3, m0, m1, m2, m3, e0, e1, e2, e3, mm, nn, ev, rfl, hA, hb5⟩
  clear cR0 cR1 cR2 cR3 cR4 cR5 zR cP0 cP1 zP hcon
  clear yP yQ yR yX
  replace BP := BP.below hb5
  replace BQ := BQ.below hb5
  replace BR := BR.below hb5
  replace BX := BX.below hb5
  replace BG := BG.below hb5
  replace hat := hat.below hb5
  replace bl := Below_after bl hb5
  have yP := BP.1
  have yQ := BQ.1
  have yR := BR.1
  have yX := BX.1
  have yG := BG.1
  obtain ⟨-, rfl, rfl, rfl, rfl, rfl, rfl, rfl, hat2, -⟩ := hA.resolve_right (fun h => h.1 hc)
  generalize sendR g h s dt sl ri = d at *
  replace BP := BP.alloc (.cells #[.slice b0 d.ws.length e0, .slice b1 d.ts.length e1, .slice b2 d.hs.length e2, .slice b3 d.ns.length e3, .int .i64 d.nw, .int .i64 d.nt] 31)
  replace BQ := BQ.alloc (.cells #[.slice b0 d.ws.length e0, .slice b1 d.ts.length e1, .slice b2 d.hs.length e2, .slice b3 d.ns.length e3, .int .i64 d.nw, .int .i64 d.nt] 31)
  replace BR := BR.alloc (.cells #[.slice b0 d.ws.length e0, .slice b1 d.ts.length e1, .slice b2 d.hs.length e2, .slice b3 d.ns.length e3, .int .i64 d.nw, .int .i64 d.nt] 31)
  replace BX := BX.alloc (.cells #[.slice b0 d.ws.length e0, .slice b1 d.ts.length e1, .slice b2 d.hs.length e2, .slice b3 d.ns.length e3, .int .i64 d.nw, .int .i64 d.nt] 31)
  replace BG := BG.alloc (.cells #[.slice b0 d.ws.length e0, .slice b1 d.ts.length e1, .slice b2 d.hs.length e2, .slice b3 d.ns.length e3, .int .i64 d.nw, .int .i64 d.nt] 31)
  replace hat := hat.below ((Below.refl _ _).alloc (Nat.le_refl _) (.cells #[.slice b0 d.ws.length e0, .slice b1 d.ts.length e1, .slice b2 d.hs.length e2, .slice b3 d.ns.length e3, .int .i64 d.nw, .int .i64 d.nt] 31))
  replace hat2 := hat2.below ((Below.refl _ _).alloc (Nat.le_refl _) (.cells #[.slice b0 d.ws.length e0, .slice b1 d.ts.length e1, .slice b2 d.hs.length e2, .slice b3 d.ns.length e3, .int .i64 d.nw, .int .i64 d.nt] 31))
  replace bl := bl.alloc bl.size (.cells #[.slice b0 d.ws.length e0, .slice b1 d.ts.length e1, .slice b2 d.hs.length e2, .slice b3 d.ns.length e3, .int .i64 d.nw, .int .i64 d.nt] 31)
  have BY := Bx.new w5 [.slice b0 d.ws.length e0, .slice b1 d.ts.length e1, .slice b2 d.hs.length e2, .slice b3 d.ns.length e3, .int .i64 d.nw, .int .i64 d.nt] 31
  have hcon := has_any (getW g h s).rights 2 (w5.alloc (.cells #[.slice b0 d.ws.length e0, .slice b1 d.ts.length e1, .slice b2 d.hs.length e2, .slice b3 d.ns.length e3, .int .i64 d.nw, .int .i64 d.nt] 31))
  rw [f3] at hcon
  have cX0 := (BX.2 0 _ rfl).1
  have cX1 := (BX.2 1 _ rfl).1
  have cX2 := (BX.2 2 _ rfl).1
  have cX3 := (BX.2 3 _ rfl).1
  have cX4 := (BX.2 4 _ rfl).1
  have zX := BX.1
  go_wp2_with fail
  refine hcon.mono ?_
  rintro e w' ⟨rfl, hw'⟩
  rw [hw']
  clear hw' w' hcon
  clear cX0 cX1 cX2 cX3 cX4 zX
  have hcon := get_err b0 b1 b2 b3 e0 e1 e2 e3 d u t _ hat2 hId.sz hgq
  have cY0 := (BY.2 0 _ rfl).1
  have cY1 := (BY.2 1 _ rfl).1
  have cY2 := (BY.2 2 _ rfl).1
  have cY3 := (BY.2 3 _ rfl).1
  have cY4 := (BY.2 4 _ rfl).1
  have cY5 := (BY.2 5 _ rfl).1
  have zY := BY.1
  have cQ0 := (BQ.2 0 _ rfl).1
  have cQ1 := (BQ.2 1 _ rfl).1
  have zQ := BQ.1
  go_wp2_with fail
  refine hcon.mono ?_
  rintro e w6 ⟨rfl, hb6⟩
  clear cY0 cY1 cY2 cY3 cY4 cY5 zY cQ0 cQ1 zQ hcon
  clear yP yQ yR yX yG
  replace BP := BP.below hb6
  replace BQ := BQ.below hb6
  replace BR := BR.below hb6
  replace BX := BX.below hb6
  replace BG := BG.below hb6
  replace BY := BY.below hb6
  replace hat := hat.below hb6
  replace hat2 := hat2.below hb6
  replace bl := Below_after bl hb6
  have yP := BP.1
  have yQ := BQ.1
  have yR := BR.1
  have yX := BX.1
  have yG := BG.1
  have yY := BY.1
  replace BP := BP.alloc (.cells #[.int .i64 0, .int .i64 0, .int .i64 0, .int .i64 0, .int .i64 0] 35)
  replace BQ := BQ.alloc (.cells #[.int .i64 0, .int .i64 0, .int .i64 0, .int .i64 0, .int .i64 0] 35)
  replace BR := BR.alloc (.cells #[.int .i64 0, .int .i64 0, .int .i64 0, .int .i64 0, .int .i64 0] 35)
  replace BX := BX.alloc (.cells #[.int .i64 0, .int .i64 0, .int .i64 0, .int .i64 0, .int .i64 0] 35)
  replace BG := BG.alloc (.cells #[.int .i64 0, .int .i64 0, .int .i64 0, .int .i64 0, .int .i64 0] 35)
  replace BY := BY.alloc (.cells #[.int .i64 0, .int .i64 0, .int .i64 0, .int .i64 0, .int .i64 0] 35)
  replace hat := hat.below ((Below.refl _ _).alloc (Nat.le_refl _) (.cells #[.int .i64 0, .int .i64 0, .int .i64 0, .int .i64 0, .int .i64 0] 35))
  replace hat2 := hat2.below ((Below.refl _ _).alloc (Nat.le_refl _) (.cells #[.int .i64 0, .int .i64 0, .int .i64 0, .int .i64 0, .int .i64 0] 35))
  replace bl := bl.alloc bl.size (.cells #[.int .i64 0, .int .i64 0, .int .i64 0, .int .i64 0, .int .i64 0] 35)
  have BV := Bx.new w6 [.int .i64 0, .int .i64 0, .int .i64 0, .int .i64 0, .int .i64 0] 35
  go_wp2_with fail
  go_ret
  exact ⟨rfl, bl⟩
set_option maxHeartbeats 2000000 in
set_option maxRecDepth 100000 in
theorem tnote_tn (a : Option Addr) (c : Nat) (l : List Ac) (h s u t : Int) (dt : ByteArray) (sl ri : Int) (w : World) (hw : AcsAt w a l) (hm : l.length ≤ maxLen) (hq : lacB l 80 = true) (hd : dt.size ≤ 20) (hc : sendC (growR l) h s dt sl ri = 0) (hsl : sl < 0) (hgq : getC (sendR (growR l) h s dt sl ri) u t = 0) (hth : ¬ (getW (sendR (growR l) h s dt sl ri) u t).thing = (getW (growR l) h s).thing) :
    Calls Try.prog 3 #[.slice a l.length c, .agg #[.int .i64 h, .int .i64 s], .agg #[.int .i64 u, .int .i64 t], .string dt, .int .i64 sl, .int .i64 ri] w fun e w' => e = .returned (.bool true) ∧ Below w.heap.size w w' := by
  have BP := Bx.new w [.int .i64 h, .int .i64 s] 24
  replace BP := BP.alloc (.cells #[.int .i64 u, .int .i64 t] 24)
  have BQ := Bx.new (w.alloc (.cells #[.int .i64 h, .int .i64 s] 24)) [.int .i64 u, .int .i64 t] 24
  rw [sz_alloc] at BQ
  have bl := ((Below.refl w.heap.size w).alloc (by first | exact Nat.le_refl _ | (simp <;> omega)) (.cells #[.int .i64 h, .int .i64 s] 24)).alloc (by first | exact Nat.le_refl _ | (simp <;> omega)) (.cells #[.int .i64 u, .int .i64 t] 24)
  have hlen := lac_len hq
  have hi := inv_grow l l.length (by omega)
  rw [List.take_length] at hi
  have hI : RmI (growR l) := ⟨hi.sz (by omega), hi.put, hi.wf⟩
  have hW := whole_grow l
  have hk : InvK 80 (growR l) := hi.mono (by omega)
  clear hi
  go_enter Try.func3, Try.ntmps3
  have hcon := made_any ((w.alloc (.cells #[.int .i64 h, .int .i64 s] 24)).alloc (.cells #[.int .i64 u, .int .i64 t] 24))
  go_wp2_with fail
  refine hcon.mono ?_
  rintro e w1 ⟨rfl, hb1⟩
  clear hcon
  replace BP := BP.below hb1
  replace BQ := BQ.below hb1
  replace bl := Below_after bl hb1
  have yP := BP.1
  have yQ := BQ.1
  have hg := grown_yes a c l w1 (hw.below bl) hm hq
  generalize growR l = g at hg hI hW hk hc hgq hth
  clear hq hw hm hlen
  have hcon := hg
  clear hg
  go_wp2_with fail
  refine hcon.mono ?_
  rintro e w2 ⟨a0, a1, a2, a3, N0, N1, N2, N3, c0, c1, c2, c3, M, N, rfl, ⟨l0, l1, l2, l3, l4, l5⟩, hat, -, hb2⟩
  clear hcon
  clear yP yQ
  replace BP := BP.below hb2
  replace BQ := BQ.below hb2
  replace bl := Below_after bl hb2
  have yP := BP.1
  have yQ := BQ.1
  replace BP := BP.alloc (.cells #[.slice a0 N0 c0, .slice a1 N1 c1, .slice a2 N2 c2, .slice a3 N3 c3, .int .i64 M, .int .i64 N] 31)
  replace BQ := BQ.alloc (.cells #[.slice a0 N0 c0, .slice a1 N1 c1, .slice a2 N2 c2, .slice a3 N3 c3, .int .i64 M, .int .i64 N] 31)
  replace hat := hat.below ((Below.refl _ _).alloc (Nat.le_refl _) (.cells #[.slice a0 N0 c0, .slice a1 N1 c1, .slice a2 N2 c2, .slice a3 N3 c3, .int .i64 M, .int .i64 N] 31))
  replace bl := bl.alloc bl.size (.cells #[.slice a0 N0 c0, .slice a1 N1 c1, .slice a2 N2 c2, .slice a3 N3 c3, .int .i64 M, .int .i64 N] 31)
  have BR := Bx.new w2 [.slice a0 N0 c0, .slice a1 N1 c1, .slice a2 N2 c2, .slice a3 N3 c3, .int .i64 M, .int .i64 N] 31
  have hdl : decide ((20 : Int) < (dt.size : Int)) = false := decide_eq_false (by omega)
  obtain ⟨sw, -, slen, shd⟩ := send_facts hc
  obtain ⟨f1, -, f3⟩ := who_facts sw
  have hkd := inv_send hk hc
  have hId := rmI_of hkd (by omega)
  have hbeg := fun h1 h2 => send_begin hW hc (g := u) (u := t) h1 h2
  have hs0 : decide (0 ≤ sl) = false := decide_eq_false (by omega)
  have hcon := get_ok a0 a1 a2 a3 c0 c1 c2 c3 g h s _ hat hI.sz f1
  rw [l0, l1, l2, l3, l4, l5] at hcon
  have cR0 := (BR.2 0 _ rfl).1
  have cR1 := (BR.2 1 _ rfl).1
  have cR2 := (BR.2 2 _ rfl).1
  have cR3 := (BR.2 3 _ rfl).1
  have cR4 := (BR.2 4 _ rfl).1
  have cR5 := (BR.2 5 _ rfl).1
  have zR := BR.1
  have cP0 := (BP.2 0 _ rfl).1
  have cP1 := (BP.2 1 _ rfl).1
  have zP := BP.1
  go_wp2_with fail
  refine hcon.mono ?_
  rintro e w3 ⟨rfl, hb3⟩
  clear cR0 cR1 cR2 cR3 cR4 cR5 zR cP0 cP1 zP hcon
  clear yP yQ
  replace BP := BP.below hb3
  replace BQ := BQ.below hb3
  replace BR := BR.below hb3
  replace hat := hat.below hb3
  replace bl := Below_after bl hb3
  have yP := BP.1
  have yQ := BQ.1
  have yR := BR.1
  replace BP := BP.alloc (.cells #[.int .i64 (getW g h s).id, .int .i64 (getW g h s).thing, .int .i64 (getW g h s).rights, .int .i64 (getW g h s).badge, .int .i64 (getW g h s).frm] 35)
  replace BQ := BQ.alloc (.cells #[.int .i64 (getW g h s).id, .int .i64 (getW g h s).thing, .int .i64 (getW g h s).rights, .int .i64 (getW g h s).badge, .int .i64 (getW g h s).frm] 35)
  replace BR := BR.alloc (.cells #[.int .i64 (getW g h s).id, .int .i64 (getW g h s).thing, .int .i64 (getW g h s).rights, .int .i64 (getW g h s).badge, .int .i64 (getW g h s).frm] 35)
  replace hat := hat.below ((Below.refl _ _).alloc (Nat.le_refl _) (.cells #[.int .i64 (getW g h s).id, .int .i64 (getW g h s).thing, .int .i64 (getW g h s).rights, .int .i64 (getW g h s).badge, .int .i64 (getW g h s).frm] 35))
  replace bl := bl.alloc bl.size (.cells #[.int .i64 (getW g h s).id, .int .i64 (getW g h s).thing, .int .i64 (getW g h s).rights, .int .i64 (getW g h s).badge, .int .i64 (getW g h s).frm] 35)
  have BX := Bx.new w3 [.int .i64 (getW g h s).id, .int .i64 (getW g h s).thing, .int .i64 (getW g h s).rights, .int .i64 (getW g h s).badge, .int .i64 (getW g h s).frm] 35
  have hcon := get_any a0 a1 a2 a3 c0 c1 c2 c3 g h sl _ hat hI.sz
  rw [l0, l1, l2, l3, l4, l5] at hcon
  have cR0 := (BR.2 0 _ rfl).1
  have cR1 := (BR.2 1 _ rfl).1
  have cR2 := (BR.2 2 _ rfl).1
  have cR3 := (BR.2 3 _ rfl).1
  have cR4 := (BR.2 4 _ rfl).1
  have cR5 := (BR.2 5 _ rfl).1
  have zR := BR.1
  have cP0 := (BP.2 0 _ rfl).1
  have cP1 := (BP.2 1 _ rfl).1
  have zP := BP.1
  go_wp2_with fail
  refine hcon.mono ?_
  rintro e w4 ⟨y, ev2, rfl, hG2, hb4⟩
  clear cR0 cR1 cR2 cR3 cR4 cR5 zR cP0 cP1 zP hcon
  clear yP yQ yR
  replace BP := BP.below hb4
  replace BQ := BQ.below hb4
  replace BR := BR.below hb4
  replace BX := BX.below hb4
  replace hat := hat.below hb4
  replace bl := Below_after bl hb4
  have yP := BP.1
  have yQ := BQ.1
  have yR := BR.1
  have yX := BX.1
  replace BP := BP.alloc (.cells #[.int .i64 y.id, .int .i64 y.thing, .int .i64 y.rights, .int .i64 y.badge, .int .i64 y.frm] 35)
  replace BQ := BQ.alloc (.cells #[.int .i64 y.id, .int .i64 y.thing, .int .i64 y.rights, .int .i64 y.badge, .int .i64 y.frm] 35)
  replace BR := BR.alloc (.cells #[.int .i64 y.id, .int .i64 y.thing, .int .i64 y.rights, .int .i64 y.badge, .int .i64 y.frm] 35)
  replace BX := BX.alloc (.cells #[.int .i64 y.id, .int .i64 y.thing, .int .i64 y.rights, .int .i64 y.badge, .int .i64 y.frm] 35)
  replace hat := hat.below ((Below.refl _ _).alloc (Nat.le_refl _) (.cells #[.int .i64 y.id, .int .i64 y.thing, .int .i64 y.rights, .int .i64 y.badge, .int .i64 y.frm] 35))
  replace bl := bl.alloc bl.size (.cells #[.int .i64 y.id, .int .i64 y.thing, .int .i64 y.rights, .int .i64 y.badge, .int .i64 y.frm] 35)
  have BG := Bx.new w4 [.int .i64 y.id, .int .i64 y.thing, .int .i64 y.rights, .int .i64 y.badge, .int .i64 y.frm] 35
  have hcon := act_send a0 a1 a2 a3 c0 c1 c2 c3 g h s dt sl ri _ hat hI (by unfold maxLen; omega)
  rw [l0, l1, l2, l3, l4, l5] at hcon
  have cR0 := (BR.2 0 _ rfl).1
  have cR1 := (BR.2 1 _ rfl).1
  have cR2 := (BR.2 2 _ rfl).1
  have cR3 := (BR.2 3 _ rfl).1
  have cR4 := (BR.2 4 _ rfl).1
  have cR5 := (BR.2 5 _ rfl).1
  have zR := BR.1
  have cP0 := (BP.2 0 _ rfl).1
  have cP1 := (BP.2 1 _ rfl).1
  have zP := BP.1
  go_wp2_with fail
  refine hcon.mono ?_
  rintro e w5 ⟨b0, b1, b2, b3, m0, m1, m2, m3, e0, e1, e2, e3, mm, nn, ev, rfl, hA, hb5⟩
  clear cR0 cR1 cR2 cR3 cR4 cR5 zR cP0 cP1 zP hcon
  clear yP yQ yR yX
  replace BP := BP.below hb5
  replace BQ := BQ.below hb5
  replace BR := BR.below hb5
  replace BX := BX.below hb5
  replace BG := BG.below hb5
  replace hat := hat.below hb5
  replace bl := Below_after bl hb5
  have yP := BP.1
  have yQ := BQ.1
  have yR := BR.1
  have yX := BX.1
  have yG := BG.1
  obtain ⟨-, rfl, rfl, rfl, rfl, rfl, rfl, rfl, hat2, -⟩ := hA.resolve_right (fun h => h.1 hc)
  generalize sendR g h s dt sl ri = d at *
  replace BP := BP.alloc (.cells #[.slice b0 d.ws.length e0, .slice b1 d.ts.length e1, .slice b2 d.hs.length e2, .slice b3 d.ns.length e3, .int .i64 d.nw, .int .i64 d.nt] 31)
  replace BQ := BQ.alloc (.cells #[.slice b0 d.ws.length e0, .slice b1 d.ts.length e1, .slice b2 d.hs.length e2, .slice b3 d.ns.length e3, .int .i64 d.nw, .int .i64 d.nt] 31)
  replace BR := BR.alloc (.cells #[.slice b0 d.ws.length e0, .slice b1 d.ts.length e1, .slice b2 d.hs.length e2, .slice b3 d.ns.length e3, .int .i64 d.nw, .int .i64 d.nt] 31)
  replace BX := BX.alloc (.cells #[.slice b0 d.ws.length e0, .slice b1 d.ts.length e1, .slice b2 d.hs.length e2, .slice b3 d.ns.length e3, .int .i64 d.nw, .int .i64 d.nt] 31)
  replace BG := BG.alloc (.cells #[.slice b0 d.ws.length e0, .slice b1 d.ts.length e1, .slice b2 d.hs.length e2, .slice b3 d.ns.length e3, .int .i64 d.nw, .int .i64 d.nt] 31)
  replace hat := hat.below ((Below.refl _ _).alloc (Nat.le_refl _) (.cells #[.slice b0 d.ws.length e0, .slice b1 d.ts.length e1, .slice b2 d.hs.length e2, .slice b3 d.ns.length e3, .int .i64 d.nw, .int .i64 d.nt] 31))
  replace hat2 := hat2.below ((Below.refl _ _).alloc (Nat.le_refl _) (.cells #[.slice b0 d.ws.length e0, .slice b1 d.ts.length e1, .slice b2 d.hs.length e2, .slice b3 d.ns.length e3, .int .i64 d.nw, .int .i64 d.nt] 31))
  replace bl := bl.alloc bl.size (.cells #[.slice b0 d.ws.length e0, .slice b1 d.ts.length e1, .slice b2 d.hs.length e2, .slice b3 d.ns.length e3, .int .i64 d.nw, .int .i64 d.nt] 31)
  have BY := Bx.new w5 [.slice b0 d.ws.length e0, .slice b1 d.ts.length e1, .slice b2 d.hs.length e2, .slice b3 d.ns.length e3, .int .i64 d.nw, .int .i64 d.nt] 31
  have hcon := has_any (getW g h s).rights 2 (w5.alloc (.cells #[.slice b0 d.ws.length e0, .slice b1 d.ts.length e1, .slice b2 d.hs.length e2, .slice b3 d.ns.length e3, .int .i64 d.nw, .int .i64 d.nt] 31))
  rw [f3] at hcon
  have cX0 := (BX.2 0 _ rfl).1
  have cX1 := (BX.2 1 _ rfl).1
  have cX2 := (BX.2 2 _ rfl).1
  have cX3 := (BX.2 3 _ rfl).1
  have cX4 := (BX.2 4 _ rfl).1
  have zX := BX.1
  go_wp2_with fail
  refine hcon.mono ?_
  rintro e w' ⟨rfl, hw'⟩
  rw [hw']
  clear hw' w' hcon
  clear cX0 cX1 cX2 cX3 cX4 zX
  have hth' : ((getW d u t).thing != (getW g h s).thing) = true := by simpa using hth
  clear hth
  have hcon := get_ok b0 b1 b2 b3 e0 e1 e2 e3 d u t _ hat2 hId.sz hgq
  have cY0 := (BY.2 0 _ rfl).1
  have cY1 := (BY.2 1 _ rfl).1
  have cY2 := (BY.2 2 _ rfl).1
  have cY3 := (BY.2 3 _ rfl).1
  have cY4 := (BY.2 4 _ rfl).1
  have cY5 := (BY.2 5 _ rfl).1
  have zY := BY.1
  have cQ0 := (BQ.2 0 _ rfl).1
  have cQ1 := (BQ.2 1 _ rfl).1
  have zQ := BQ.1
  go_wp2_with fail
  refine hcon.mono ?_
  rintro e w6 ⟨rfl, hb6⟩
  clear cY0 cY1 cY2 cY3 cY4 cY5 zY cQ0 cQ1 zQ hcon
  clear yP yQ yR yX yG
  replace BP := BP.below hb6
  replace BQ := BQ.below hb6
  replace BR := BR.below hb6
  replace BX := BX.below hb6
  replace BG := BG.below hb6
  replace BY := BY.below hb6
  replace hat := hat.below hb6
  replace hat2 := hat2.below hb6
  replace bl := Below_after bl hb6
  have yP := BP.1
  have yQ := BQ.1
  have yR := BR.1
  have yX := BX.1
  have yG := BG.1
  have yY := BY.1
  replace BP := BP.alloc (.cells #[.int .i64 (getW d u t).id, .int .i64 (getW d u t).thing, .int .i64 (getW d u t).rights, .int .i64 (getW d u t).badge, .int .i64 (getW d u t).frm] 35)
  replace BQ := BQ.alloc (.cells #[.int .i64 (getW d u t).id, .int .i64 (getW d u t).thing, .int .i64 (getW d u t).rights, .int .i64 (getW d u t).badge, .int .i64 (getW d u t).frm] 35)
  replace BR := BR.alloc (.cells #[.int .i64 (getW d u t).id, .int .i64 (getW d u t).thing, .int .i64 (getW d u t).rights, .int .i64 (getW d u t).badge, .int .i64 (getW d u t).frm] 35)
  replace BX := BX.alloc (.cells #[.int .i64 (getW d u t).id, .int .i64 (getW d u t).thing, .int .i64 (getW d u t).rights, .int .i64 (getW d u t).badge, .int .i64 (getW d u t).frm] 35)
  replace BG := BG.alloc (.cells #[.int .i64 (getW d u t).id, .int .i64 (getW d u t).thing, .int .i64 (getW d u t).rights, .int .i64 (getW d u t).badge, .int .i64 (getW d u t).frm] 35)
  replace BY := BY.alloc (.cells #[.int .i64 (getW d u t).id, .int .i64 (getW d u t).thing, .int .i64 (getW d u t).rights, .int .i64 (getW d u t).badge, .int .i64 (getW d u t).frm] 35)
  replace hat := hat.below ((Below.refl _ _).alloc (Nat.le_refl _) (.cells #[.int .i64 (getW d u t).id, .int .i64 (getW d u t).thing, .int .i64 (getW d u t).rights, .int .i64 (getW d u t).badge, .int .i64 (getW d u t).frm] 35))
  replace hat2 := hat2.below ((Below.refl _ _).alloc (Nat.le_refl _) (.cells #[.int .i64 (getW d u t).id, .int .i64 (getW d u t).thing, .int .i64 (getW d u t).rights, .int .i64 (getW d u t).badge, .int .i64 (getW d u t).frm] 35))
  replace bl := bl.alloc bl.size (.cells #[.int .i64 (getW d u t).id, .int .i64 (getW d u t).thing, .int .i64 (getW d u t).rights, .int .i64 (getW d u t).badge, .int .i64 (getW d u t).frm] 35)
  have BV := Bx.new w6 [.int .i64 (getW d u t).id, .int .i64 (getW d u t).thing, .int .i64 (getW d u t).rights, .int .i64 (getW d u t).badge, .int .i64 (getW d u t).frm] 35
  have cV0 := (BV.2 0 _ rfl).1
  have cV1 := (BV.2 1 _ rfl).1
  have cV2 := (BV.2 2 _ rfl).1
  have cV3 := (BV.2 3 _ rfl).1
  have cV4 := (BV.2 4 _ rfl).1
  have zV := BV.1
  have cX0 := (BX.2 0 _ rfl).1
  have cX1 := (BX.2 1 _ rfl).1
  have cX2 := (BX.2 2 _ rfl).1
  have cX3 := (BX.2 3 _ rfl).1
  have cX4 := (BX.2 4 _ rfl).1
  have zX := BX.1
  go_wp2_with fail
  go_ret
  exact ⟨rfl, bl⟩
set_option maxHeartbeats 2000000 in
set_option maxRecDepth 100000 in
theorem tnote_qp (a : Option Addr) (c : Nat) (l : List Ac) (h s u t : Int) (dt : ByteArray) (sl ri : Int) (w : World) (hw : AcsAt w a l) (hm : l.length ≤ maxLen) (hq : lacB l 80 = true) (hd : dt.size ≤ 20) (hc : sendC (growR l) h s dt sl ri = 0) (hsl : 0 ≤ sl) (hgq : getC (sendR (growR l) h s dt sl ri) u t ≠ 0) :
    Calls Try.prog 3 #[.slice a l.length c, .agg #[.int .i64 h, .int .i64 s], .agg #[.int .i64 u, .int .i64 t], .string dt, .int .i64 sl, .int .i64 ri] w fun e w' => e = .returned (.bool true) ∧ Below w.heap.size w w' := by
  have BP := Bx.new w [.int .i64 h, .int .i64 s] 24
  replace BP := BP.alloc (.cells #[.int .i64 u, .int .i64 t] 24)
  have BQ := Bx.new (w.alloc (.cells #[.int .i64 h, .int .i64 s] 24)) [.int .i64 u, .int .i64 t] 24
  rw [sz_alloc] at BQ
  have bl := ((Below.refl w.heap.size w).alloc (by first | exact Nat.le_refl _ | (simp <;> omega)) (.cells #[.int .i64 h, .int .i64 s] 24)).alloc (by first | exact Nat.le_refl _ | (simp <;> omega)) (.cells #[.int .i64 u, .int .i64 t] 24)
  have hlen := lac_len hq
  have hi := inv_grow l l.length (by omega)
  rw [List.take_length] at hi
  have hI : RmI (growR l) := ⟨hi.sz (by omega), hi.put, hi.wf⟩
  have hW := whole_grow l
  have hk : InvK 80 (growR l) := hi.mono (by omega)
  clear hi
  go_enter Try.func3, Try.ntmps3
  have hcon := made_any ((w.alloc (.cells #[.int .i64 h, .int .i64 s] 24)).alloc (.cells #[.int .i64 u, .int .i64 t] 24))
  go_wp2_with fail
  refine hcon.mono ?_
  rintro e w1 ⟨rfl, hb1⟩
  clear hcon
  replace BP := BP.below hb1
  replace BQ := BQ.below hb1
  replace bl := Below_after bl hb1
  have yP := BP.1
  have yQ := BQ.1
  have hg := grown_yes a c l w1 (hw.below bl) hm hq
  generalize growR l = g at hg hI hW hk hc hgq
  clear hq hw hm hlen
  have hcon := hg
  clear hg
  go_wp2_with fail
  refine hcon.mono ?_
  rintro e w2 ⟨a0, a1, a2, a3, N0, N1, N2, N3, c0, c1, c2, c3, M, N, rfl, ⟨l0, l1, l2, l3, l4, l5⟩, hat, -, hb2⟩
  clear hcon
  clear yP yQ
  replace BP := BP.below hb2
  replace BQ := BQ.below hb2
  replace bl := Below_after bl hb2
  have yP := BP.1
  have yQ := BQ.1
  replace BP := BP.alloc (.cells #[.slice a0 N0 c0, .slice a1 N1 c1, .slice a2 N2 c2, .slice a3 N3 c3, .int .i64 M, .int .i64 N] 31)
  replace BQ := BQ.alloc (.cells #[.slice a0 N0 c0, .slice a1 N1 c1, .slice a2 N2 c2, .slice a3 N3 c3, .int .i64 M, .int .i64 N] 31)
  replace hat := hat.below ((Below.refl _ _).alloc (Nat.le_refl _) (.cells #[.slice a0 N0 c0, .slice a1 N1 c1, .slice a2 N2 c2, .slice a3 N3 c3, .int .i64 M, .int .i64 N] 31))
  replace bl := bl.alloc bl.size (.cells #[.slice a0 N0 c0, .slice a1 N1 c1, .slice a2 N2 c2, .slice a3 N3 c3, .int .i64 M, .int .i64 N] 31)
  have BR := Bx.new w2 [.slice a0 N0 c0, .slice a1 N1 c1, .slice a2 N2 c2, .slice a3 N3 c3, .int .i64 M, .int .i64 N] 31
  have hdl : decide ((20 : Int) < (dt.size : Int)) = false := decide_eq_false (by omega)
  obtain ⟨sw, -, slen, shd⟩ := send_facts hc
  obtain ⟨f1, -, f3⟩ := who_facts sw
  have hkd := inv_send hk hc
  have hId := rmI_of hkd (by omega)
  have hbeg := fun h1 h2 => send_begin hW hc (g := u) (u := t) h1 h2
  have hs0 : decide (0 ≤ sl) = true := decide_eq_true (by omega)
  obtain ⟨-, g4, g1, -, -⟩ := shd.resolve_left (by omega)
  have htail := fun z hz hid => send_tail hW hc hsl (z := z) hz hid
  have hMp0 : 0 < g.nw := by have := hW.nw; omega
  have hcon := get_ok a0 a1 a2 a3 c0 c1 c2 c3 g h s _ hat hI.sz f1
  rw [l0, l1, l2, l3, l4, l5] at hcon
  have cR0 := (BR.2 0 _ rfl).1
  have cR1 := (BR.2 1 _ rfl).1
  have cR2 := (BR.2 2 _ rfl).1
  have cR3 := (BR.2 3 _ rfl).1
  have cR4 := (BR.2 4 _ rfl).1
  have cR5 := (BR.2 5 _ rfl).1
  have zR := BR.1
  have cP0 := (BP.2 0 _ rfl).1
  have cP1 := (BP.2 1 _ rfl).1
  have zP := BP.1
  go_wp2_with fail
  refine hcon.mono ?_
  rintro e w3 ⟨rfl, hb3⟩
  clear cR0 cR1 cR2 cR3 cR4 cR5 zR cP0 cP1 zP hcon
  clear yP yQ
  replace BP := BP.below hb3
  replace BQ := BQ.below hb3
  replace BR := BR.below hb3
  replace hat := hat.below hb3
  replace bl := Below_after bl hb3
  have yP := BP.1
  have yQ := BQ.1
  have yR := BR.1
  replace BP := BP.alloc (.cells #[.int .i64 (getW g h s).id, .int .i64 (getW g h s).thing, .int .i64 (getW g h s).rights, .int .i64 (getW g h s).badge, .int .i64 (getW g h s).frm] 35)
  replace BQ := BQ.alloc (.cells #[.int .i64 (getW g h s).id, .int .i64 (getW g h s).thing, .int .i64 (getW g h s).rights, .int .i64 (getW g h s).badge, .int .i64 (getW g h s).frm] 35)
  replace BR := BR.alloc (.cells #[.int .i64 (getW g h s).id, .int .i64 (getW g h s).thing, .int .i64 (getW g h s).rights, .int .i64 (getW g h s).badge, .int .i64 (getW g h s).frm] 35)
  replace hat := hat.below ((Below.refl _ _).alloc (Nat.le_refl _) (.cells #[.int .i64 (getW g h s).id, .int .i64 (getW g h s).thing, .int .i64 (getW g h s).rights, .int .i64 (getW g h s).badge, .int .i64 (getW g h s).frm] 35))
  replace bl := bl.alloc bl.size (.cells #[.int .i64 (getW g h s).id, .int .i64 (getW g h s).thing, .int .i64 (getW g h s).rights, .int .i64 (getW g h s).badge, .int .i64 (getW g h s).frm] 35)
  have BX := Bx.new w3 [.int .i64 (getW g h s).id, .int .i64 (getW g h s).thing, .int .i64 (getW g h s).rights, .int .i64 (getW g h s).badge, .int .i64 (getW g h s).frm] 35
  have hcon := get_ok a0 a1 a2 a3 c0 c1 c2 c3 g h sl _ hat hI.sz g1
  rw [l0, l1, l2, l3, l4, l5] at hcon
  have cR0 := (BR.2 0 _ rfl).1
  have cR1 := (BR.2 1 _ rfl).1
  have cR2 := (BR.2 2 _ rfl).1
  have cR3 := (BR.2 3 _ rfl).1
  have cR4 := (BR.2 4 _ rfl).1
  have cR5 := (BR.2 5 _ rfl).1
  have zR := BR.1
  have cP0 := (BP.2 0 _ rfl).1
  have cP1 := (BP.2 1 _ rfl).1
  have zP := BP.1
  go_wp2_with fail
  refine hcon.mono ?_
  rintro e w4 ⟨rfl, hb4⟩
  clear cR0 cR1 cR2 cR3 cR4 cR5 zR cP0 cP1 zP hcon
  clear yP yQ yR
  replace BP := BP.below hb4
  replace BQ := BQ.below hb4
  replace BR := BR.below hb4
  replace BX := BX.below hb4
  replace hat := hat.below hb4
  replace bl := Below_after bl hb4
  have yP := BP.1
  have yQ := BQ.1
  have yR := BR.1
  have yX := BX.1
  replace BP := BP.alloc (.cells #[.int .i64 (getW g h sl).id, .int .i64 (getW g h sl).thing, .int .i64 (getW g h sl).rights, .int .i64 (getW g h sl).badge, .int .i64 (getW g h sl).frm] 35)
  replace BQ := BQ.alloc (.cells #[.int .i64 (getW g h sl).id, .int .i64 (getW g h sl).thing, .int .i64 (getW g h sl).rights, .int .i64 (getW g h sl).badge, .int .i64 (getW g h sl).frm] 35)
  replace BR := BR.alloc (.cells #[.int .i64 (getW g h sl).id, .int .i64 (getW g h sl).thing, .int .i64 (getW g h sl).rights, .int .i64 (getW g h sl).badge, .int .i64 (getW g h sl).frm] 35)
  replace BX := BX.alloc (.cells #[.int .i64 (getW g h sl).id, .int .i64 (getW g h sl).thing, .int .i64 (getW g h sl).rights, .int .i64 (getW g h sl).badge, .int .i64 (getW g h sl).frm] 35)
  replace hat := hat.below ((Below.refl _ _).alloc (Nat.le_refl _) (.cells #[.int .i64 (getW g h sl).id, .int .i64 (getW g h sl).thing, .int .i64 (getW g h sl).rights, .int .i64 (getW g h sl).badge, .int .i64 (getW g h sl).frm] 35))
  replace bl := bl.alloc bl.size (.cells #[.int .i64 (getW g h sl).id, .int .i64 (getW g h sl).thing, .int .i64 (getW g h sl).rights, .int .i64 (getW g h sl).badge, .int .i64 (getW g h sl).frm] 35)
  have BG := Bx.new w4 [.int .i64 (getW g h sl).id, .int .i64 (getW g h sl).thing, .int .i64 (getW g h sl).rights, .int .i64 (getW g h sl).badge, .int .i64 (getW g h sl).frm] 35
  have hcon := act_send a0 a1 a2 a3 c0 c1 c2 c3 g h s dt sl ri _ hat hI (by unfold maxLen; omega)
  rw [l0, l1, l2, l3, l4, l5] at hcon
  have cR0 := (BR.2 0 _ rfl).1
  have cR1 := (BR.2 1 _ rfl).1
  have cR2 := (BR.2 2 _ rfl).1
  have cR3 := (BR.2 3 _ rfl).1
  have cR4 := (BR.2 4 _ rfl).1
  have cR5 := (BR.2 5 _ rfl).1
  have zR := BR.1
  have cP0 := (BP.2 0 _ rfl).1
  have cP1 := (BP.2 1 _ rfl).1
  have zP := BP.1
  go_wp2_with fail
  refine hcon.mono ?_
  rintro e w5 ⟨b0, b1, b2, b3, m0, m1, m2, m3, e0, e1, e2, e3, mm, nn, ev, rfl, hA, hb5⟩
  clear cR0 cR1 cR2 cR3 cR4 cR5 zR cP0 cP1 zP hcon
  clear yP yQ yR yX
  replace BP := BP.below hb5
  replace BQ := BQ.below hb5
  replace BR := BR.below hb5
  replace BX := BX.below hb5
  replace BG := BG.below hb5
  replace hat := hat.below hb5
  replace bl := Below_after bl hb5
  have yP := BP.1
  have yQ := BQ.1
  have yR := BR.1
  have yX := BX.1
  have yG := BG.1
  obtain ⟨-, rfl, rfl, rfl, rfl, rfl, rfl, rfl, hat2, -⟩ := hA.resolve_right (fun h => h.1 hc)
  generalize sendR g h s dt sl ri = d at *
  replace BP := BP.alloc (.cells #[.slice b0 d.ws.length e0, .slice b1 d.ts.length e1, .slice b2 d.hs.length e2, .slice b3 d.ns.length e3, .int .i64 d.nw, .int .i64 d.nt] 31)
  replace BQ := BQ.alloc (.cells #[.slice b0 d.ws.length e0, .slice b1 d.ts.length e1, .slice b2 d.hs.length e2, .slice b3 d.ns.length e3, .int .i64 d.nw, .int .i64 d.nt] 31)
  replace BR := BR.alloc (.cells #[.slice b0 d.ws.length e0, .slice b1 d.ts.length e1, .slice b2 d.hs.length e2, .slice b3 d.ns.length e3, .int .i64 d.nw, .int .i64 d.nt] 31)
  replace BX := BX.alloc (.cells #[.slice b0 d.ws.length e0, .slice b1 d.ts.length e1, .slice b2 d.hs.length e2, .slice b3 d.ns.length e3, .int .i64 d.nw, .int .i64 d.nt] 31)
  replace BG := BG.alloc (.cells #[.slice b0 d.ws.length e0, .slice b1 d.ts.length e1, .slice b2 d.hs.length e2, .slice b3 d.ns.length e3, .int .i64 d.nw, .int .i64 d.nt] 31)
  replace hat := hat.below ((Below.refl _ _).alloc (Nat.le_refl _) (.cells #[.slice b0 d.ws.length e0, .slice b1 d.ts.length e1, .slice b2 d.hs.length e2, .slice b3 d.ns.length e3, .int .i64 d.nw, .int .i64 d.nt] 31))
  replace hat2 := hat2.below ((Below.refl _ _).alloc (Nat.le_refl _) (.cells #[.slice b0 d.ws.length e0, .slice b1 d.ts.length e1, .slice b2 d.hs.length e2, .slice b3 d.ns.length e3, .int .i64 d.nw, .int .i64 d.nt] 31))
  replace bl := bl.alloc bl.size (.cells #[.slice b0 d.ws.length e0, .slice b1 d.ts.length e1, .slice b2 d.hs.length e2, .slice b3 d.ns.length e3, .int .i64 d.nw, .int .i64 d.nt] 31)
  have BY := Bx.new w5 [.slice b0 d.ws.length e0, .slice b1 d.ts.length e1, .slice b2 d.hs.length e2, .slice b3 d.ns.length e3, .int .i64 d.nw, .int .i64 d.nt] 31
  have hcon := has_any (getW g h s).rights 2 (w5.alloc (.cells #[.slice b0 d.ws.length e0, .slice b1 d.ts.length e1, .slice b2 d.hs.length e2, .slice b3 d.ns.length e3, .int .i64 d.nw, .int .i64 d.nt] 31))
  rw [f3] at hcon
  have cX0 := (BX.2 0 _ rfl).1
  have cX1 := (BX.2 1 _ rfl).1
  have cX2 := (BX.2 2 _ rfl).1
  have cX3 := (BX.2 3 _ rfl).1
  have cX4 := (BX.2 4 _ rfl).1
  have zX := BX.1
  go_wp2_with fail
  refine hcon.mono ?_
  rintro e w' ⟨rfl, hw'⟩
  rw [hw']
  clear hw' w' hcon
  have hcon := has_any (getW g h s).rights 4 (w5.alloc (.cells #[.slice b0 d.ws.length e0, .slice b1 d.ts.length e1, .slice b2 d.hs.length e2, .slice b3 d.ns.length e3, .int .i64 d.nw, .int .i64 d.nt] 31))
  rw [g4] at hcon
  go_wp2_with fail
  refine hcon.mono ?_
  rintro e w' ⟨rfl, hw'⟩
  rw [hw']
  clear hw' w' hcon
  clear cX0 cX1 cX2 cX3 cX4 zX
  have hcon := get_err b0 b1 b2 b3 e0 e1 e2 e3 d u t _ hat2 hId.sz hgq
  have cY0 := (BY.2 0 _ rfl).1
  have cY1 := (BY.2 1 _ rfl).1
  have cY2 := (BY.2 2 _ rfl).1
  have cY3 := (BY.2 3 _ rfl).1
  have cY4 := (BY.2 4 _ rfl).1
  have cY5 := (BY.2 5 _ rfl).1
  have zY := BY.1
  have cQ0 := (BQ.2 0 _ rfl).1
  have cQ1 := (BQ.2 1 _ rfl).1
  have zQ := BQ.1
  go_wp2_with fail
  refine hcon.mono ?_
  rintro e w6 ⟨rfl, hb6⟩
  clear cY0 cY1 cY2 cY3 cY4 cY5 zY cQ0 cQ1 zQ hcon
  clear yP yQ yR yX yG
  replace BP := BP.below hb6
  replace BQ := BQ.below hb6
  replace BR := BR.below hb6
  replace BX := BX.below hb6
  replace BG := BG.below hb6
  replace BY := BY.below hb6
  replace hat := hat.below hb6
  replace hat2 := hat2.below hb6
  replace bl := Below_after bl hb6
  have yP := BP.1
  have yQ := BQ.1
  have yR := BR.1
  have yX := BX.1
  have yG := BG.1
  have yY := BY.1
  replace BP := BP.alloc (.cells #[.int .i64 0, .int .i64 0, .int .i64 0, .int .i64 0, .int .i64 0] 35)
  replace BQ := BQ.alloc (.cells #[.int .i64 0, .int .i64 0, .int .i64 0, .int .i64 0, .int .i64 0] 35)
  replace BR := BR.alloc (.cells #[.int .i64 0, .int .i64 0, .int .i64 0, .int .i64 0, .int .i64 0] 35)
  replace BX := BX.alloc (.cells #[.int .i64 0, .int .i64 0, .int .i64 0, .int .i64 0, .int .i64 0] 35)
  replace BG := BG.alloc (.cells #[.int .i64 0, .int .i64 0, .int .i64 0, .int .i64 0, .int .i64 0] 35)
  replace BY := BY.alloc (.cells #[.int .i64 0, .int .i64 0, .int .i64 0, .int .i64 0, .int .i64 0] 35)
  replace hat := hat.below ((Below.refl _ _).alloc (Nat.le_refl _) (.cells #[.int .i64 0, .int .i64 0, .int .i64 0, .int .i64 0, .int .i64 0] 35))
  replace hat2 := hat2.below ((Below.refl _ _).alloc (Nat.le_refl _) (.cells #[.int .i64 0, .int .i64 0, .int .i64 0, .int .i64 0, .int .i64 0] 35))
  replace bl := bl.alloc bl.size (.cells #[.int .i64 0, .int .i64 0, .int .i64 0, .int .i64 0, .int .i64 0] 35)
  have BV := Bx.new w6 [.int .i64 0, .int .i64 0, .int .i64 0, .int .i64 0, .int .i64 0] 35
  go_wp2_with fail
  go_ret
  exact ⟨rfl, bl⟩
set_option maxHeartbeats 2000000 in
set_option maxRecDepth 100000 in
theorem tnote_tp (a : Option Addr) (c : Nat) (l : List Ac) (h s u t : Int) (dt : ByteArray) (sl ri : Int) (w : World) (hw : AcsAt w a l) (hm : l.length ≤ maxLen) (hq : lacB l 80 = true) (hd : dt.size ≤ 20) (hc : sendC (growR l) h s dt sl ri = 0) (hsl : 0 ≤ sl) (hgq : getC (sendR (growR l) h s dt sl ri) u t = 0) (hth : ¬ (getW (sendR (growR l) h s dt sl ri) u t).thing = (getW (growR l) h s).thing) :
    Calls Try.prog 3 #[.slice a l.length c, .agg #[.int .i64 h, .int .i64 s], .agg #[.int .i64 u, .int .i64 t], .string dt, .int .i64 sl, .int .i64 ri] w fun e w' => e = .returned (.bool true) ∧ Below w.heap.size w w' := by
  have BP := Bx.new w [.int .i64 h, .int .i64 s] 24
  replace BP := BP.alloc (.cells #[.int .i64 u, .int .i64 t] 24)
  have BQ := Bx.new (w.alloc (.cells #[.int .i64 h, .int .i64 s] 24)) [.int .i64 u, .int .i64 t] 24
  rw [sz_alloc] at BQ
  have bl := ((Below.refl w.heap.size w).alloc (by first | exact Nat.le_refl _ | (simp <;> omega)) (.cells #[.int .i64 h, .int .i64 s] 24)).alloc (by first | exact Nat.le_refl _ | (simp <;> omega)) (.cells #[.int .i64 u, .int .i64 t] 24)
  have hlen := lac_len hq
  have hi := inv_grow l l.length (by omega)
  rw [List.take_length] at hi
  have hI : RmI (growR l) := ⟨hi.sz (by omega), hi.put, hi.wf⟩
  have hW := whole_grow l
  have hk : InvK 80 (growR l) := hi.mono (by omega)
  clear hi
  go_enter Try.func3, Try.ntmps3
  have hcon := made_any ((w.alloc (.cells #[.int .i64 h, .int .i64 s] 24)).alloc (.cells #[.int .i64 u, .int .i64 t] 24))
  go_wp2_with fail
  refine hcon.mono ?_
  rintro e w1 ⟨rfl, hb1⟩
  clear hcon
  replace BP := BP.below hb1
  replace BQ := BQ.below hb1
  replace bl := Below_after bl hb1
  have yP := BP.1
  have yQ := BQ.1
  have hg := grown_yes a c l w1 (hw.below bl) hm hq
  generalize growR l = g at hg hI hW hk hc hgq hth
  clear hq hw hm hlen
  have hcon := hg
  clear hg
  go_wp2_with fail
  refine hcon.mono ?_
  rintro e w2 ⟨a0, a1, a2, a3, N0, N1, N2, N3, c0, c1, c2, c3, M, N, rfl, ⟨l0, l1, l2, l3, l4, l5⟩, hat, -, hb2⟩
  clear hcon
  clear yP yQ
  replace BP := BP.below hb2
  replace BQ := BQ.below hb2
  replace bl := Below_after bl hb2
  have yP := BP.1
  have yQ := BQ.1
  replace BP := BP.alloc (.cells #[.slice a0 N0 c0, .slice a1 N1 c1, .slice a2 N2 c2, .slice a3 N3 c3, .int .i64 M, .int .i64 N] 31)
  replace BQ := BQ.alloc (.cells #[.slice a0 N0 c0, .slice a1 N1 c1, .slice a2 N2 c2, .slice a3 N3 c3, .int .i64 M, .int .i64 N] 31)
  replace hat := hat.below ((Below.refl _ _).alloc (Nat.le_refl _) (.cells #[.slice a0 N0 c0, .slice a1 N1 c1, .slice a2 N2 c2, .slice a3 N3 c3, .int .i64 M, .int .i64 N] 31))
  replace bl := bl.alloc bl.size (.cells #[.slice a0 N0 c0, .slice a1 N1 c1, .slice a2 N2 c2, .slice a3 N3 c3, .int .i64 M, .int .i64 N] 31)
  have BR := Bx.new w2 [.slice a0 N0 c0, .slice a1 N1 c1, .slice a2 N2 c2, .slice a3 N3 c3, .int .i64 M, .int .i64 N] 31
  have hdl : decide ((20 : Int) < (dt.size : Int)) = false := decide_eq_false (by omega)
  obtain ⟨sw, -, slen, shd⟩ := send_facts hc
  obtain ⟨f1, -, f3⟩ := who_facts sw
  have hkd := inv_send hk hc
  have hId := rmI_of hkd (by omega)
  have hbeg := fun h1 h2 => send_begin hW hc (g := u) (u := t) h1 h2
  have hs0 : decide (0 ≤ sl) = true := decide_eq_true (by omega)
  obtain ⟨-, g4, g1, -, -⟩ := shd.resolve_left (by omega)
  have htail := fun z hz hid => send_tail hW hc hsl (z := z) hz hid
  have hMp0 : 0 < g.nw := by have := hW.nw; omega
  have hcon := get_ok a0 a1 a2 a3 c0 c1 c2 c3 g h s _ hat hI.sz f1
  rw [l0, l1, l2, l3, l4, l5] at hcon
  have cR0 := (BR.2 0 _ rfl).1
  have cR1 := (BR.2 1 _ rfl).1
  have cR2 := (BR.2 2 _ rfl).1
  have cR3 := (BR.2 3 _ rfl).1
  have cR4 := (BR.2 4 _ rfl).1
  have cR5 := (BR.2 5 _ rfl).1
  have zR := BR.1
  have cP0 := (BP.2 0 _ rfl).1
  have cP1 := (BP.2 1 _ rfl).1
  have zP := BP.1
  go_wp2_with fail
  refine hcon.mono ?_
  rintro e w3 ⟨rfl, hb3⟩
  clear cR0 cR1 cR2 cR3 cR4 cR5 zR cP0 cP1 zP hcon
  clear yP yQ
  replace BP := BP.below hb3
  replace BQ := BQ.below hb3
  replace BR := BR.below hb3
  replace hat := hat.below hb3
  replace bl := Below_after bl hb3
  have yP := BP.1
  have yQ := BQ.1
  have yR := BR.1
  replace BP := BP.alloc (.cells #[.int .i64 (getW g h s).id, .int .i64 (getW g h s).thing, .int .i64 (getW g h s).rights, .int .i64 (getW g h s).badge, .int .i64 (getW g h s).frm] 35)
  replace BQ := BQ.alloc (.cells #[.int .i64 (getW g h s).id, .int .i64 (getW g h s).thing, .int .i64 (getW g h s).rights, .int .i64 (getW g h s).badge, .int .i64 (getW g h s).frm] 35)
  replace BR := BR.alloc (.cells #[.int .i64 (getW g h s).id, .int .i64 (getW g h s).thing, .int .i64 (getW g h s).rights, .int .i64 (getW g h s).badge, .int .i64 (getW g h s).frm] 35)
  replace hat := hat.below ((Below.refl _ _).alloc (Nat.le_refl _) (.cells #[.int .i64 (getW g h s).id, .int .i64 (getW g h s).thing, .int .i64 (getW g h s).rights, .int .i64 (getW g h s).badge, .int .i64 (getW g h s).frm] 35))
  replace bl := bl.alloc bl.size (.cells #[.int .i64 (getW g h s).id, .int .i64 (getW g h s).thing, .int .i64 (getW g h s).rights, .int .i64 (getW g h s).badge, .int .i64 (getW g h s).frm] 35)
  have BX := Bx.new w3 [.int .i64 (getW g h s).id, .int .i64 (getW g h s).thing, .int .i64 (getW g h s).rights, .int .i64 (getW g h s).badge, .int .i64 (getW g h s).frm] 35
  have hcon := get_ok a0 a1 a2 a3 c0 c1 c2 c3 g h sl _ hat hI.sz g1
  rw [l0, l1, l2, l3, l4, l5] at hcon
  have cR0 := (BR.2 0 _ rfl).1
  have cR1 := (BR.2 1 _ rfl).1
  have cR2 := (BR.2 2 _ rfl).1
  have cR3 := (BR.2 3 _ rfl).1
  have cR4 := (BR.2 4 _ rfl).1
  have cR5 := (BR.2 5 _ rfl).1
  have zR := BR.1
  have cP0 := (BP.2 0 _ rfl).1
  have cP1 := (BP.2 1 _ rfl).1
  have zP := BP.1
  go_wp2_with fail
  refine hcon.mono ?_
  rintro e w4 ⟨rfl, hb4⟩
  clear cR0 cR1 cR2 cR3 cR4 cR5 zR cP0 cP1 zP hcon
  clear yP yQ yR
  replace BP := BP.below hb4
  replace BQ := BQ.below hb4
  replace BR := BR.below hb4
  replace BX := BX.below hb4
  replace hat := hat.below hb4
  replace bl := Below_after bl hb4
  have yP := BP.1
  have yQ := BQ.1
  have yR := BR.1
  have yX := BX.1
  replace BP := BP.alloc (.cells #[.int .i64 (getW g h sl).id, .int .i64 (getW g h sl).thing, .int .i64 (getW g h sl).rights, .int .i64 (getW g h sl).badge, .int .i64 (getW g h sl).frm] 35)
  replace BQ := BQ.alloc (.cells #[.int .i64 (getW g h sl).id, .int .i64 (getW g h sl).thing, .int .i64 (getW g h sl).rights, .int .i64 (getW g h sl).badge, .int .i64 (getW g h sl).frm] 35)
  replace BR := BR.alloc (.cells #[.int .i64 (getW g h sl).id, .int .i64 (getW g h sl).thing, .int .i64 (getW g h sl).rights, .int .i64 (getW g h sl).badge, .int .i64 (getW g h sl).frm] 35)
  replace BX := BX.alloc (.cells #[.int .i64 (getW g h sl).id, .int .i64 (getW g h sl).thing, .int .i64 (getW g h sl).rights, .int .i64 (getW g h sl).badge, .int .i64 (getW g h sl).frm] 35)
  replace hat := hat.below ((Below.refl _ _).alloc (Nat.le_refl _) (.cells #[.int .i64 (getW g h sl).id, .int .i64 (getW g h sl).thing, .int .i64 (getW g h sl).rights, .int .i64 (getW g h sl).badge, .int .i64 (getW g h sl).frm] 35))
  replace bl := bl.alloc bl.size (.cells #[.int .i64 (getW g h sl).id, .int .i64 (getW g h sl).thing, .int .i64 (getW g h sl).rights, .int .i64 (getW g h sl).badge, .int .i64 (getW g h sl).frm] 35)
  have BG := Bx.new w4 [.int .i64 (getW g h sl).id, .int .i64 (getW g h sl).thing, .int .i64 (getW g h sl).rights, .int .i64 (getW g h sl).badge, .int .i64 (getW g h sl).frm] 35
  have hcon := act_send a0 a1 a2 a3 c0 c1 c2 c3 g h s dt sl ri _ hat hI (by unfold maxLen; omega)
  rw [l0, l1, l2, l3, l4, l5] at hcon
  have cR0 := (BR.2 0 _ rfl).1
  have cR1 := (BR.2 1 _ rfl).1
  have cR2 := (BR.2 2 _ rfl).1
  have cR3 := (BR.2 3 _ rfl).1
  have cR4 := (BR.2 4 _ rfl).1
  have cR5 := (BR.2 5 _ rfl).1
  have zR := BR.1
  have cP0 := (BP.2 0 _ rfl).1
  have cP1 := (BP.2 1 _ rfl).1
  have zP := BP.1
  go_wp2_with fail
  refine hcon.mono ?_
  rintro e w5 ⟨b0, b1, b2, b3, m0, m1, m2, m3, e0, e1, e2, e3, mm, nn, ev, rfl, hA, hb5⟩
  clear cR0 cR1 cR2 cR3 cR4 cR5 zR cP0 cP1 zP hcon
  clear yP yQ yR yX
  replace BP := BP.below hb5
  replace BQ := BQ.below hb5
  replace BR := BR.below hb5
  replace BX := BX.below hb5
  replace BG := BG.below hb5
  replace hat := hat.below hb5
  replace bl := Below_after bl hb5
  have yP := BP.1
  have yQ := BQ.1
  have yR := BR.1
  have yX := BX.1
  have yG := BG.1
  obtain ⟨-, rfl, rfl, rfl, rfl, rfl, rfl, rfl, hat2, -⟩ := hA.resolve_right (fun h => h.1 hc)
  generalize sendR g h s dt sl ri = d at *
  replace BP := BP.alloc (.cells #[.slice b0 d.ws.length e0, .slice b1 d.ts.length e1, .slice b2 d.hs.length e2, .slice b3 d.ns.length e3, .int .i64 d.nw, .int .i64 d.nt] 31)
  replace BQ := BQ.alloc (.cells #[.slice b0 d.ws.length e0, .slice b1 d.ts.length e1, .slice b2 d.hs.length e2, .slice b3 d.ns.length e3, .int .i64 d.nw, .int .i64 d.nt] 31)
  replace BR := BR.alloc (.cells #[.slice b0 d.ws.length e0, .slice b1 d.ts.length e1, .slice b2 d.hs.length e2, .slice b3 d.ns.length e3, .int .i64 d.nw, .int .i64 d.nt] 31)
  replace BX := BX.alloc (.cells #[.slice b0 d.ws.length e0, .slice b1 d.ts.length e1, .slice b2 d.hs.length e2, .slice b3 d.ns.length e3, .int .i64 d.nw, .int .i64 d.nt] 31)
  replace BG := BG.alloc (.cells #[.slice b0 d.ws.length e0, .slice b1 d.ts.length e1, .slice b2 d.hs.length e2, .slice b3 d.ns.length e3, .int .i64 d.nw, .int .i64 d.nt] 31)
  replace hat := hat.below ((Below.refl _ _).alloc (Nat.le_refl _) (.cells #[.slice b0 d.ws.length e0, .slice b1 d.ts.length e1, .slice b2 d.hs.length e2, .slice b3 d.ns.length e3, .int .i64 d.nw, .int .i64 d.nt] 31))
  replace hat2 := hat2.below ((Below.refl _ _).alloc (Nat.le_refl _) (.cells #[.slice b0 d.ws.length e0, .slice b1 d.ts.length e1, .slice b2 d.hs.length e2, .slice b3 d.ns.length e3, .int .i64 d.nw, .int .i64 d.nt] 31))
  replace bl := bl.alloc bl.size (.cells #[.slice b0 d.ws.length e0, .slice b1 d.ts.length e1, .slice b2 d.hs.length e2, .slice b3 d.ns.length e3, .int .i64 d.nw, .int .i64 d.nt] 31)
  have BY := Bx.new w5 [.slice b0 d.ws.length e0, .slice b1 d.ts.length e1, .slice b2 d.hs.length e2, .slice b3 d.ns.length e3, .int .i64 d.nw, .int .i64 d.nt] 31
  have hcon := has_any (getW g h s).rights 2 (w5.alloc (.cells #[.slice b0 d.ws.length e0, .slice b1 d.ts.length e1, .slice b2 d.hs.length e2, .slice b3 d.ns.length e3, .int .i64 d.nw, .int .i64 d.nt] 31))
  rw [f3] at hcon
  have cX0 := (BX.2 0 _ rfl).1
  have cX1 := (BX.2 1 _ rfl).1
  have cX2 := (BX.2 2 _ rfl).1
  have cX3 := (BX.2 3 _ rfl).1
  have cX4 := (BX.2 4 _ rfl).1
  have zX := BX.1
  go_wp2_with fail
  refine hcon.mono ?_
  rintro e w' ⟨rfl, hw'⟩
  rw [hw']
  clear hw' w' hcon
  have hcon := has_any (getW g h s).rights 4 (w5.alloc (.cells #[.slice b0 d.ws.length e0, .slice b1 d.ts.length e1, .slice b2 d.hs.length e2, .slice b3 d.ns.length e3, .int .i64 d.nw, .int .i64 d.nt] 31))
  rw [g4] at hcon
  go_wp2_with fail
  refine hcon.mono ?_
  rintro e w' ⟨rfl, hw'⟩
  rw [hw']
  clear hw' w' hcon
  clear cX0 cX1 cX2 cX3 cX4 zX
  have hth' : ((getW d u t).thing != (getW g h s).thing) = true := by simpa using hth
  clear hth
  have hcon := get_ok b0 b1 b2 b3 e0 e1 e2 e3 d u t _ hat2 hId.sz hgq
  have cY0 := (BY.2 0 _ rfl).1
  have cY1 := (BY.2 1 _ rfl).1
  have cY2 := (BY.2 2 _ rfl).1
  have cY3 := (BY.2 3 _ rfl).1
  have cY4 := (BY.2 4 _ rfl).1
  have cY5 := (BY.2 5 _ rfl).1
  have zY := BY.1
  have cQ0 := (BQ.2 0 _ rfl).1
  have cQ1 := (BQ.2 1 _ rfl).1
  have zQ := BQ.1
  go_wp2_with fail
  refine hcon.mono ?_
  rintro e w6 ⟨rfl, hb6⟩
  clear cY0 cY1 cY2 cY3 cY4 cY5 zY cQ0 cQ1 zQ hcon
  clear yP yQ yR yX yG
  replace BP := BP.below hb6
  replace BQ := BQ.below hb6
  replace BR := BR.below hb6
  replace BX := BX.below hb6
  replace BG := BG.below hb6
  replace BY := BY.below hb6
  replace hat := hat.below hb6
  replace hat2 := hat2.below hb6
  replace bl := Below_after bl hb6
  have yP := BP.1
  have yQ := BQ.1
  have yR := BR.1
  have yX := BX.1
  have yG := BG.1
  have yY := BY.1
  replace BP := BP.alloc (.cells #[.int .i64 (getW d u t).id, .int .i64 (getW d u t).thing, .int .i64 (getW d u t).rights, .int .i64 (getW d u t).badge, .int .i64 (getW d u t).frm] 35)
  replace BQ := BQ.alloc (.cells #[.int .i64 (getW d u t).id, .int .i64 (getW d u t).thing, .int .i64 (getW d u t).rights, .int .i64 (getW d u t).badge, .int .i64 (getW d u t).frm] 35)
  replace BR := BR.alloc (.cells #[.int .i64 (getW d u t).id, .int .i64 (getW d u t).thing, .int .i64 (getW d u t).rights, .int .i64 (getW d u t).badge, .int .i64 (getW d u t).frm] 35)
  replace BX := BX.alloc (.cells #[.int .i64 (getW d u t).id, .int .i64 (getW d u t).thing, .int .i64 (getW d u t).rights, .int .i64 (getW d u t).badge, .int .i64 (getW d u t).frm] 35)
  replace BG := BG.alloc (.cells #[.int .i64 (getW d u t).id, .int .i64 (getW d u t).thing, .int .i64 (getW d u t).rights, .int .i64 (getW d u t).badge, .int .i64 (getW d u t).frm] 35)
  replace BY := BY.alloc (.cells #[.int .i64 (getW d u t).id, .int .i64 (getW d u t).thing, .int .i64 (getW d u t).rights, .int .i64 (getW d u t).badge, .int .i64 (getW d u t).frm] 35)
  replace hat := hat.below ((Below.refl _ _).alloc (Nat.le_refl _) (.cells #[.int .i64 (getW d u t).id, .int .i64 (getW d u t).thing, .int .i64 (getW d u t).rights, .int .i64 (getW d u t).badge, .int .i64 (getW d u t).frm] 35))
  replace hat2 := hat2.below ((Below.refl _ _).alloc (Nat.le_refl _) (.cells #[.int .i64 (getW d u t).id, .int .i64 (getW d u t).thing, .int .i64 (getW d u t).rights, .int .i64 (getW d u t).badge, .int .i64 (getW d u t).frm] 35))
  replace bl := bl.alloc bl.size (.cells #[.int .i64 (getW d u t).id, .int .i64 (getW d u t).thing, .int .i64 (getW d u t).rights, .int .i64 (getW d u t).badge, .int .i64 (getW d u t).frm] 35)
  have BV := Bx.new w6 [.int .i64 (getW d u t).id, .int .i64 (getW d u t).thing, .int .i64 (getW d u t).rights, .int .i64 (getW d u t).badge, .int .i64 (getW d u t).frm] 35
  have cV0 := (BV.2 0 _ rfl).1
  have cV1 := (BV.2 1 _ rfl).1
  have cV2 := (BV.2 2 _ rfl).1
  have cV3 := (BV.2 3 _ rfl).1
  have cV4 := (BV.2 4 _ rfl).1
  have zV := BV.1
  have cX0 := (BX.2 0 _ rfl).1
  have cX1 := (BX.2 1 _ rfl).1
  have cX2 := (BX.2 2 _ rfl).1
  have cX3 := (BX.2 3 _ rfl).1
  have cX4 := (BX.2 4 _ rfl).1
  have zX := BX.1
  go_wp2_with fail
  go_ret
  exact ⟨rfl, bl⟩
theorem tnote_yes (a : Option Addr) (c : Nat) (l : List Ac) (h s u t : Int) (dt : ByteArray) (sl ri : Int) (w : World) (hw : AcsAt w a l) (hm : l.length ≤ maxLen) (hq : lacB l 80 = true) :
    Calls Try.prog 3 #[.slice a l.length c, .agg #[.int .i64 h, .int .i64 s], .agg #[.int .i64 u, .int .i64 t], .string dt, .int .i64 sl, .int .i64 ri] w fun e w' => e = .returned (.bool true) ∧ Below w.heap.size w w' := by
  by_cases hd : dt.size ≤ 20
  · by_cases hc : sendC (growR l) h s dt sl ri = 0
    · by_cases hsl : sl < 0
      · by_cases hgq : getC (sendR (growR l) h s dt sl ri) u t = 0
        · by_cases hth : (getW (sendR (growR l) h s dt sl ri) u t).thing = (getW (growR l) h s).thing
          · exact tnote_mn a c l h s u t dt sl ri w hw hm hq hd hc hsl hgq hth
          · exact tnote_tn a c l h s u t dt sl ri w hw hm hq hd hc hsl hgq hth
        · exact tnote_qn a c l h s u t dt sl ri w hw hm hq hd hc hsl hgq
      · by_cases hgq : getC (sendR (growR l) h s dt sl ri) u t = 0
        · by_cases hth : (getW (sendR (growR l) h s dt sl ri) u t).thing = (getW (growR l) h s).thing
          · exact tnote_mp a c l h s u t dt sl ri w hw hm hq hd hc (by omega) hgq hth
          · exact tnote_tp a c l h s u t dt sl ri w hw hm hq hd hc (by omega) hgq hth
        · exact tnote_qp a c l h s u t dt sl ri w hw hm hq hd hc (by omega) hgq
    · exact tnote_err a c l h s u t dt sl ri w hw hm hq hd hc
  · exact tnote_long a c l h s u t dt sl ri w hw hm hq hd
theorem tnote_any (w : World) (a : Option Addr) (l : List Ac) (c : Nat) (hw : AcsAt w a l) (hm : l.length ≤ maxLen) (h s u t : Int) (dt : ByteArray) (sl ri : Int) :
    Calls Try.prog 3 #[.slice a l.length c, .agg #[.int .i64 h, .int .i64 s], .agg #[.int .i64 u, .int .i64 t], .string dt, .int .i64 sl, .int .i64 ri] w fun e w' => e = .returned (.bool true) ∧ Below w.heap.size w w' := by
  cases hq : lacB l 80
  · exact tnote_no a c l h s u t dt sl ri w hw hm hq
  · exact tnote_yes a c l h s u t dt sl ri w hw hm hq
end Go.Proofs.Ytpmkkmndgicbgaa
