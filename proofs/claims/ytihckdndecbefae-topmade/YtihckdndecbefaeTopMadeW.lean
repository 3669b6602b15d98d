/- TopMade, walked. -/
import Derived.Test.YtihckdndecbefaeGrownB
import Derived.Test.YtihckdndecbefaeMadeW
import Derived.Test.YtihckdndecbefaeGetAny
import Derived.Test.YtihckdndecbefaeSameW
import Derived.Deep.QuietTactic
import Derived.BigQuiet
set_option linter.unusedSimpArgs false
set_option linter.unnecessarySimpa false
set_option linter.unusedVariables false
namespace Go.Proofs.Ytihckdndecbefae
open Go.RowKit

set_option maxHeartbeats 2000000 in
set_option maxRecDepth 100000 in
theorem tmade_no (a : Option Addr) (c : Nat) (l : List Ac) (h s kind : Int) (w : World) (hw : AcsAt w a l) (hm : l.length ≤ maxLen) (hq : lacB l 80 = false) :
    Calls Try.prog 3 #[.slice a l.length c, .agg #[.int .i64 h, .int .i64 s], .int .i64 kind] w fun e w' => e = .returned (.bool true) ∧ Below w.heap.size w w' := by
  have BP := Bx.new w [.int .i64 h, .int .i64 s] 24
  have bl := (Below.refl w.heap.size w).alloc (by first | exact Nat.le_refl _ | (simp <;> omega)) (.cells #[.int .i64 h, .int .i64 s] 24)
  go_enter Try.func3, Try.ntmps3
  have hcon := made_any (w.alloc (.cells #[.int .i64 h, .int .i64 s] 24))
  go_wp2_with fail
  refine hcon.mono ?_
  rintro e w1 ⟨rfl, hb1⟩
  clear hcon
  replace BP := BP.below hb1
  replace bl := Below_after bl hb1
  have yP := BP.1
  have hcon := grown_no a c l w1 (hw.below bl) hm hq
  go_wp2_with fail
  refine hcon.mono ?_
  rintro e w2 ⟨rfl, hb2⟩
  clear hcon
  clear yP
  replace BP := BP.below hb2
  replace bl := Below_after bl hb2
  have yP := BP.1
  replace BP := BP.alloc (.cells #[.slice none 0 0, .slice none 0 0, .slice none 0 0, .slice none 0 0, .int .i64 0, .int .i64 0] 31)
  replace bl := bl.alloc bl.size (.cells #[.slice none 0 0, .slice none 0 0, .slice none 0 0, .slice none 0 0, .int .i64 0, .int .i64 0] 31)
  have BZ := Bx.new w2 [.slice none 0 0, .slice none 0 0, .slice none 0 0, .slice none 0 0, .int .i64 0, .int .i64 0] 31
  go_wp2_with fail
  go_ret
  exact ⟨rfl, bl⟩
set_option maxHeartbeats 2000000 in
set_option maxRecDepth 100000 in
theorem tmade_err (a : Option Addr) (c : Nat) (l : List Ac) (h s kind : Int) (w : World) (hw : AcsAt w a l) (hm : l.length ≤ maxLen) (hq : lacB l 80 = true) (hc : makeC (growR l) h s kind ≠ 0) :
    Calls Try.prog 3 #[.slice a l.length c, .agg #[.int .i64 h, .int .i64 s], .int .i64 kind] w fun e w' => e = .returned (.bool true) ∧ Below w.heap.size w w' := by
  have BP := Bx.new w [.int .i64 h, .int .i64 s] 24
  have bl := (Below.refl w.heap.size w).alloc (by first | exact Nat.le_refl _ | (simp <;> omega)) (.cells #[.int .i64 h, .int .i64 s] 24)
  have hlen := lac_len hq
  have hi := inv_grow l l.length (by omega)
  rw [List.take_length] at hi
  have hI : RmI (growR l) := ⟨hi.sz (by omega), hi.put, hi.wf⟩
  have hW := whole_grow l
  have hk : InvK 80 (growR l) := hi.mono (by omega)
  clear hi
  go_enter Try.func3, Try.ntmps3
  have hcon := made_any (w.alloc (.cells #[.int .i64 h, .int .i64 s] 24))
  go_wp2_with fail
  refine hcon.mono ?_
  rintro e w1 ⟨rfl, hb1⟩
  clear hcon
  replace BP := BP.below hb1
  replace bl := Below_after bl hb1
  have yP := BP.1
  have hg := grown_yes a c l w1 (hw.below bl) hm hq
  generalize growR l = g at hg hI hW hk hc
  clear hq hw hm hlen
  have hcon := hg
  clear hg
  go_wp2_with fail
  refine hcon.mono ?_
  rintro e w2 ⟨a0, a1, a2, a3, N0, N1, N2, N3, c0, c1, c2, c3, M, N, rfl, ⟨l0, l1, l2, l3, l4, l5⟩, hat, -, hb2⟩
  clear hcon
  clear yP
  replace BP := BP.below hb2
  replace bl := Below_after bl hb2
  have yP := BP.1
  replace BP := BP.alloc (.cells #[.slice a0 N0 c0, .slice a1 N1 c1, .slice a2 N2 c2, .slice a3 N3 c3, .int .i64 M, .int .i64 N] 31)
  replace hat := hat.below ((Below.refl _ _).alloc (Nat.le_refl _) (.cells #[.slice a0 N0 c0, .slice a1 N1 c1, .slice a2 N2 c2, .slice a3 N3 c3, .int .i64 M, .int .i64 N] 31))
  replace bl := bl.alloc bl.size (.cells #[.slice a0 N0 c0, .slice a1 N1 c1, .slice a2 N2 c2, .slice a3 N3 c3, .int .i64 M, .int .i64 N] 31)
  have BR := Bx.new w2 [.slice a0 N0 c0, .slice a1 N1 c1, .slice a2 N2 c2, .slice a3 N3 c3, .int .i64 M, .int .i64 N] 31
  have hcon := act_make a0 a1 a2 a3 c0 c1 c2 c3 g h s kind _ hat hI
  rw [l0, l1, l2, l3, l4, l5] at hcon
  have cR0 := (BR.2 0 _ rfl).1
  have cR1 := (BR.2 1 _ rfl).1
  have cR2 := (BR.2 2 _ rfl).1
  have cR3 := (BR.2 3 _ rfl).1
  have cR4 := (BR.2 4 _ rfl).1
  have cR5 := (BR.2 5 _ rfl).1
  have zR := BR.1
  have cP0 := (BP.2 0 _ rfl).1
  have cP1 := (BP.2 1 _ rfl).1
  have zP := BP.1
  go_wp2_with fail
  refine hcon.mono ?_
  rintro e w3 ⟨b0, b1, b2, b3, m0, m1, m2, m3, e0, e1, e2, e3, mm, nn, ev, rfl, hA, hb3⟩
  clear cR0 cR1 cR2 cR3 cR4 cR5 zR cP0 cP1 zP hcon
  clear yP
  replace BP := BP.below hb3
  replace BR := BR.below hb3
  replace hat := hat.below hb3
  replace bl := Below_after bl hb3
  have yP := BP.1
  have yR := BR.1
  obtain ⟨-, rfl, rfl, rfl, rfl, rfl, rfl, rfl, rfl, rfl, rfl, rfl, rfl, rfl, rfl, rfl⟩ := hA.resolve_left (fun h => hc h.1)
  replace BP := BP.alloc (.cells #[.slice none 0 0, .slice none 0 0, .slice none 0 0, .slice none 0 0, .int .i64 0, .int .i64 0] 31)
  replace BR := BR.alloc (.cells #[.slice none 0 0, .slice none 0 0, .slice none 0 0, .slice none 0 0, .int .i64 0, .int .i64 0] 31)
  replace hat := hat.below ((Below.refl _ _).alloc (Nat.le_refl _) (.cells #[.slice none 0 0, .slice none 0 0, .slice none 0 0, .slice none 0 0, .int .i64 0, .int .i64 0] 31))
  replace bl := bl.alloc bl.size (.cells #[.slice none 0 0, .slice none 0 0, .slice none 0 0, .slice none 0 0, .int .i64 0, .int .i64 0] 31)
  have BY := Bx.new w3 [.slice none 0 0, .slice none 0 0, .slice none 0 0, .slice none 0 0, .int .i64 0, .int .i64 0] 31
  go_wp2_with fail
  go_ret
  exact ⟨rfl, bl⟩
set_option maxHeartbeats 2000000 in
set_option maxRecDepth 100000 in
theorem tmade_ok (a : Option Addr) (c : Nat) (l : List Ac) (h s kind : Int) (w : World) (hw : AcsAt w a l) (hm : l.length ≤ maxLen) (hq : lacB l 80 = true) (hc : makeC (growR l) h s kind = 0) :
    Calls Try.prog 3 #[.slice a l.length c, .agg #[.int .i64 h, .int .i64 s], .int .i64 kind] w fun e w' => e = .returned (.bool true) ∧ Below w.heap.size w w' := by
  have BP := Bx.new w [.int .i64 h, .int .i64 s] 24
  have bl := (Below.refl w.heap.size w).alloc (by first | exact Nat.le_refl _ | (simp <;> omega)) (.cells #[.int .i64 h, .int .i64 s] 24)
  have hlen := lac_len hq
  have hi := inv_grow l l.length (by omega)
  rw [List.take_length] at hi
  have hI : RmI (growR l) := ⟨hi.sz (by omega), hi.put, hi.wf⟩
  have hW := whole_grow l
  have hk : InvK 80 (growR l) := hi.mono (by omega)
  clear hi
  go_enter Try.func3, Try.ntmps3
  have hcon := made_any (w.alloc (.cells #[.int .i64 h, .int .i64 s] 24))
  go_wp2_with fail
  refine hcon.mono ?_
  rintro e w1 ⟨rfl, hb1⟩
  clear hcon
  replace BP := BP.below hb1
  replace bl := Below_after bl hb1
  have yP := BP.1
  have hg := grown_yes a c l w1 (hw.below bl) hm hq
  generalize growR l = g at hg hI hW hk hc
  clear hq hw hm hlen
  have hcon := hg
  clear hg
  go_wp2_with fail
  refine hcon.mono ?_
  rintro e w2 ⟨a0, a1, a2, a3, N0, N1, N2, N3, c0, c1, c2, c3, M, N, rfl, ⟨l0, l1, l2, l3, l4, l5⟩, hat, -, hb2⟩
  clear hcon
  clear yP
  replace BP := BP.below hb2
  replace bl := Below_after bl hb2
  have yP := BP.1
  replace BP := BP.alloc (.cells #[.slice a0 N0 c0, .slice a1 N1 c1, .slice a2 N2 c2, .slice a3 N3 c3, .int .i64 M, .int .i64 N] 31)
  replace hat := hat.below ((Below.refl _ _).alloc (Nat.le_refl _) (.cells #[.slice a0 N0 c0, .slice a1 N1 c1, .slice a2 N2 c2, .slice a3 N3 c3, .int .i64 M, .int .i64 N] 31))
  replace bl := bl.alloc bl.size (.cells #[.slice a0 N0 c0, .slice a1 N1 c1, .slice a2 N2 c2, .slice a3 N3 c3, .int .i64 M, .int .i64 N] 31)
  have BR := Bx.new w2 [.slice a0 N0 c0, .slice a1 N1 c1, .slice a2 N2 c2, .slice a3 N3 c3, .int .i64 M, .int .i64 N] 31
  obtain ⟨t1, t2, t3, t4⟩ := top_made hW hc
  have hkm := inv_make hk hc
  have hIm := rmI_of hkm (by omega)
  have hdw : (makeR g h s kind).ws = g.ws ++ [⟨g.nw, g.nt, 7, 0, 0⟩] := rfl
  have hd1 : (makeR g h s kind).ws.length = N0 + 1 := by rw [hdw]; simp [l0]
  have hd2 : (makeR g h s kind).ts.length = N1 + 1 := by show (g.ts ++ [_]).length = _; simp [l1]
  have hcon := act_make a0 a1 a2 a3 c0 c1 c2 c3 g h s kind _ hat hI
  rw [l0, l1, l2, l3, l4, l5] at hcon
  have cR0 := (BR.2 0 _ rfl).1
  have cR1 := (BR.2 1 _ rfl).1
  have cR2 := (BR.2 2 _ rfl).1
  have cR3 := (BR.2 3 _ rfl).1
  have cR4 := (BR.2 4 _ rfl).1
  have cR5 := (BR.2 5 _ rfl).1
  have zR := BR.1
  have cP0 := (BP.2 0 _ rfl).1
  have cP1 := (BP.2 1 _ rfl).1
  have zP := BP.1
  go_wp2_with fail
  refine hcon.mono ?_
  rintro e w3 ⟨b0, b1, b2, b3, m0, m1, m2, m3, e0, e1, e2, e3, mm, nn, ev, rfl, hA, hb3⟩
  clear cR0 cR1 cR2 cR3 cR4 cR5 zR cP0 cP1 zP hcon
  clear yP
  replace BP := BP.below hb3
  replace BR := BR.below hb3
  replace hat := hat.below hb3
  replace bl := Below_after bl hb3
  have yP := BP.1
  have yR := BR.1
  obtain ⟨-, rfl, d0, d1, rfl, rfl, rfl, rfl, hat2, -⟩ := hA.resolve_right (fun h => h.1 hc)
  rw [hd1] at d0
  rw [hd2] at d1
  subst d0
  subst d1
  generalize makeR g h s kind = d at *
  replace BP := BP.alloc (.cells #[.slice b0 (N0 + 1) e0, .slice b1 (N1 + 1) e1, .slice b2 d.hs.length e2, .slice b3 d.ns.length e3, .int .i64 d.nw, .int .i64 d.nt] 31)
  replace BR := BR.alloc (.cells #[.slice b0 (N0 + 1) e0, .slice b1 (N1 + 1) e1, .slice b2 d.hs.length e2, .slice b3 d.ns.length e3, .int .i64 d.nw, .int .i64 d.nt] 31)
  replace hat := hat.below ((Below.refl _ _).alloc (Nat.le_refl _) (.cells #[.slice b0 (N0 + 1) e0, .slice b1 (N1 + 1) e1, .slice b2 d.hs.length e2, .slice b3 d.ns.length e3, .int .i64 d.nw, .int .i64 d.nt] 31))
  replace hat2 := hat2.below ((Below.refl _ _).alloc (Nat.le_refl _) (.cells #[.slice b0 (N0 + 1) e0, .slice b1 (N1 + 1) e1, .slice b2 d.hs.length e2, .slice b3 d.ns.length e3, .int .i64 d.nw, .int .i64 d.nt] 31))
  replace bl := bl.alloc bl.size (.cells #[.slice b0 (N0 + 1) e0, .slice b1 (N1 + 1) e1, .slice b2 d.hs.length e2, .slice b3 d.ns.length e3, .int .i64 d.nw, .int .i64 d.nt] 31)
  have BY := Bx.new w3 [.slice b0 (N0 + 1) e0, .slice b1 (N1 + 1) e1, .slice b2 d.hs.length e2, .slice b3 d.ns.length e3, .int .i64 d.nw, .int .i64 d.nt] 31
  rw [l4, l5] at t2
  have hcon := get_ok b0 b1 b2 b3 e0 e1 e2 e3 d h s _ hat2 hIm.sz t1
  rw [t2, hd1, hd2] at hcon
  have cY0 := (BY.2 0 _ rfl).1
  have cY1 := (BY.2 1 _ rfl).1
  have cY2 := (BY.2 2 _ rfl).1
  have cY3 := (BY.2 3 _ rfl).1
  have cY4 := (BY.2 4 _ rfl).1
  have cY5 := (BY.2 5 _ rfl).1
  have zY := BY.1
  have cP0 := (BP.2 0 _ rfl).1
  have cP1 := (BP.2 1 _ rfl).1
  have zP := BP.1
  go_wp2_with fail
  refine hcon.mono ?_
  rintro e w4 ⟨rfl, hb4⟩
  clear cY0 cY1 cY2 cY3 cY4 cY5 zY cP0 cP1 zP hcon
  clear yP yR
  replace BP := BP.below hb4
  replace BR := BR.below hb4
  replace BY := BY.below hb4
  replace hat := hat.below hb4
  replace hat2 := hat2.below hb4
  replace bl := Below_after bl hb4
  have yP := BP.1
  have yR := BR.1
  have yY := BY.1
  replace BP := BP.alloc (.cells #[.int .i64 M, .int .i64 N, .int .i64 7, .int .i64 0, .int .i64 0] 39)
  replace BR := BR.alloc (.cells #[.int .i64 M, .int .i64 N, .int .i64 7, .int .i64 0, .int .i64 0] 39)
  replace BY := BY.alloc (.cells #[.int .i64 M, .int .i64 N, .int .i64 7, .int .i64 0, .int .i64 0] 39)
  replace hat := hat.below ((Below.refl _ _).alloc (Nat.le_refl _) (.cells #[.int .i64 M, .int .i64 N, .int .i64 7, .int .i64 0, .int .i64 0] 39))
  replace hat2 := hat2.below ((Below.refl _ _).alloc (Nat.le_refl _) (.cells #[.int .i64 M, .int .i64 N, .int .i64 7, .int .i64 0, .int .i64 0] 39))
  replace bl := bl.alloc bl.size (.cells #[.int .i64 M, .int .i64 N, .int .i64 7, .int .i64 0, .int .i64 0] 39)
  have BX := Bx.new w4 [.int .i64 M, .int .i64 N, .int .i64 7, .int .i64 0, .int .i64 0] 39
  have hz0 := hI.sz.w
  have hz1 := hI.sz.t
  have hN0 : N0 ≤ 1000 := by omega
  have hN1 : N1 ≤ 1000 := by omega
  have he1 : ∀ x ∈ g.ws, (x.thing == N) = false := fun x hx => by have := t3 x hx; rw [l5] at this; simpa using this
  clear t3
  have hq1 : ∀ W, RmAt W b0 b1 b2 b3 e0 e1 e2 e3 d → Calls Try.prog 11 #[.agg #[.slice b0 (N0 + 1) e0, .slice b1 (N1 + 1) e1, .slice b2 d.hs.length e2, .slice b3 d.ns.length e3, .int .i64 d.nw, .int .i64 d.nt], .agg #[.int .i64 h, .int .i64 s]] W _ := fun W hr => by
    have := act_drop b0 b1 b2 b3 e0 e1 e2 e3 d h s W hr hIm
    rw [hd1, hd2, t4] at this
    exact this
  have cR0 := (BR.2 0 _ rfl).1
  have cR1 := (BR.2 1 _ rfl).1
  have cR2 := (BR.2 2 _ rfl).1
  have cR3 := (BR.2 3 _ rfl).1
  have cR4 := (BR.2 4 _ rfl).1
  have cR5 := (BR.2 5 _ rfl).1
  have zR := BR.1
  have cY0 := (BY.2 0 _ rfl).1
  have cY1 := (BY.2 1 _ rfl).1
  have cY2 := (BY.2 2 _ rfl).1
  have cY3 := (BY.2 3 _ rfl).1
  have cY4 := (BY.2 4 _ rfl).1
  have cY5 := (BY.2 5 _ rfl).1
  have zY := BY.1
  have cX0 := (BX.2 0 _ rfl).1
  have cX1 := (BX.2 1 _ rfl).1
  have cX2 := (BX.2 2 _ rfl).1
  have cX3 := (BX.2 3 _ rfl).1
  have cX4 := (BX.2 4 _ rfl).1
  have zX := BX.1
  go_wp2_with fail
  clear cR0 cR1 cR2 cR3 cR4 cR5 zR cY0 cY1 cY2 cY3 cY4 cY5 zY cX0 cX1 cX2 cX3 cX4 zX
  generalize (w4.alloc (.cells #[.int .i64 M, .int .i64 N, .int .i64 7, .int .i64 0, .int .i64 0] 39)) = v0 at *
  go_loopw [13] (fun i wr => ∃ k : Nat, k ≤ N0 ∧ i = .int .i64 k ∧ Below v0.heap.size v0 wr) (fun i _ => N0 - (intOf i).toNat)
  case atStart => exact ⟨0, Nat.zero_le _, rfl, Below.refl _ _⟩
  case round =>
    obtain ⟨k, hk', rfl, hbl⟩ := hrel
    clear yP yR yY
    replace BP := BP.below hbl
    replace BR := BR.below hbl
    replace BY := BY.below hbl
    replace BX := BX.below hbl
    replace hat := hat.below hbl
    replace hat2 := hat2.below hbl
    replace bl := Below_after bl hbl
    have yP := BP.1
    have yR := BR.1
    have yY := BY.1
    have yX := BX.1
    have cR0 := (BR.2 0 _ rfl).1
    have cR1 := (BR.2 1 _ rfl).1
    have cR2 := (BR.2 2 _ rfl).1
    have cR3 := (BR.2 3 _ rfl).1
    have cR4 := (BR.2 4 _ rfl).1
    have cR5 := (BR.2 5 _ rfl).1
    have zR := BR.1
    have cY0 := (BY.2 0 _ rfl).1
    have fY0 := (BY.2 0 _ rfl).2
    have cY1 := (BY.2 1 _ rfl).1
    have fY1 := (BY.2 1 _ rfl).2
    have cY2 := (BY.2 2 _ rfl).1
    have fY2 := (BY.2 2 _ rfl).2
    have cY3 := (BY.2 3 _ rfl).1
    have fY3 := (BY.2 3 _ rfl).2
    have cY4 := (BY.2 4 _ rfl).1
    have fY4 := (BY.2 4 _ rfl).2
    have cY5 := (BY.2 5 _ rfl).1
    have fY5 := (BY.2 5 _ rfl).2
    have zY := BY.1
    have cX0 := (BX.2 0 _ rfl).1
    have cX1 := (BX.2 1 _ rfl).1
    have cX2 := (BX.2 2 _ rfl).1
    have cX3 := (BX.2 3 _ rfl).1
    have cX4 := (BX.2 4 _ rfl).1
    have zX := BX.1
    by_cases hlt : k < N0
    rotate_left
    · clear he1 hdw
      clear cR0 cR1 cR2 cR3 cR4 cR5 zR cY0 fY0 cY1 fY1 cY2 fY2 cY3 fY3 cY4 fY4 cY5 fY5 zY cX0 cX1 cX2 cX3 cX4 zX
      have hcon := hq1 _ hat2
      have cY0 := (BY.2 0 _ rfl).1
      have cY1 := (BY.2 1 _ rfl).1
      have cY2 := (BY.2 2 _ rfl).1
      have cY3 := (BY.2 3 _ rfl).1
      have cY4 := (BY.2 4 _ rfl).1
      have cY5 := (BY.2 5 _ rfl).1
      have zY := BY.1
      have cP0 := (BP.2 0 _ rfl).1
      have cP1 := (BP.2 1 _ rfl).1
      have zP := BP.1
      have cR0 := (BR.2 0 _ rfl).1
      have cR1 := (BR.2 1 _ rfl).1
      have cR2 := (BR.2 2 _ rfl).1
      have cR3 := (BR.2 3 _ rfl).1
      have cR4 := (BR.2 4 _ rfl).1
      have cR5 := (BR.2 5 _ rfl).1
      have zR := BR.1
      go_wp2_with fail
      refine hcon.mono ?_
      rintro e w5 ⟨f0, f1, f2, f3, r0, r1, r2, r3, s0, s1, s2, s3, mm, nn, ev, rfl, hA, hb5⟩
      clear cY0 cY1 cY2 cY3 cY4 cY5 zY cP0 cP1 zP cR0 cR1 cR2 cR3 cR4 cR5 zR hcon
      clear yP yR yY yX
      replace BP := BP.below hb5
      replace BR := BR.below hb5
      replace BY := BY.below hb5
      replace BX := BX.below hb5
      replace hat := hat.below hb5
      replace hat2 := hat2.below hb5
      replace bl := Below_after bl hb5
      have yP := BP.1
      have yR := BR.1
      have yY := BY.1
      have yX := BX.1
      obtain ⟨-, rfl, d0, d1, d2, d3, d4, d5, hat3, -⟩ := hA.resolve_right (fun h => h.1 t1)
      dsimp only at d0 d1 d2 d3 d4 d5
      rw [l0] at d0
      rw [l1] at d1
      rw [l2] at d2
      rw [l3] at d3
      subst d0 d1 d2 d3 d4 d5
      have hat4 : RmAt _ f0 f1 f2 f3 s0 s1 s2 s3 g := ⟨hat3.w, hat3.t, hat3.h, hat3.n, hat3.fw, hat3.ft, hat3.fh, hat3.fn⟩
      clear hat3
      have cR0 := (BR.2 0 _ rfl).1
      have cR1 := (BR.2 1 _ rfl).1
      have cR2 := (BR.2 2 _ rfl).1
      have cR3 := (BR.2 3 _ rfl).1
      have cR4 := (BR.2 4 _ rfl).1
      have cR5 := (BR.2 5 _ rfl).1
      have zR := BR.1
      replace BP := BP.alloc (.cells #[.slice f0 r0 s0, .slice f1 r1 s1, .slice f2 r2 s2, .slice f3 r3 s3, .int .i64 M, .int .i64 N] 31)
      replace BR := BR.alloc (.cells #[.slice f0 r0 s0, .slice f1 r1 s1, .slice f2 r2 s2, .slice f3 r3 s3, .int .i64 M, .int .i64 N] 31)
      replace BY := BY.alloc (.cells #[.slice f0 r0 s0, .slice f1 r1 s1, .slice f2 r2 s2, .slice f3 r3 s3, .int .i64 M, .int .i64 N] 31)
      replace BX := BX.alloc (.cells #[.slice f0 r0 s0, .slice f1 r1 s1, .slice f2 r2 s2, .slice f3 r3 s3, .int .i64 M, .int .i64 N] 31)
      replace hat := hat.below ((Below.refl _ _).alloc (Nat.le_refl _) (.cells #[.slice f0 r0 s0, .slice f1 r1 s1, .slice f2 r2 s2, .slice f3 r3 s3, .int .i64 M, .int .i64 N] 31))
      replace hat2 := hat2.below ((Below.refl _ _).alloc (Nat.le_refl _) (.cells #[.slice f0 r0 s0, .slice f1 r1 s1, .slice f2 r2 s2, .slice f3 r3 s3, .int .i64 M, .int .i64 N] 31))
      replace hat4 := hat4.below ((Below.refl _ _).alloc (Nat.le_refl _) (.cells #[.slice f0 r0 s0, .slice f1 r1 s1, .slice f2 r2 s2, .slice f3 r3 s3, .int .i64 M, .int .i64 N] 31))
      replace bl := bl.alloc bl.size (.cells #[.slice f0 r0 s0, .slice f1 r1 s1, .slice f2 r2 s2, .slice f3 r3 s3, .int .i64 M, .int .i64 N] 31)
      have BZ := Bx.new w5 [.slice f0 r0 s0, .slice f1 r1 s1, .slice f2 r2 s2, .slice f3 r3 s3, .int .i64 M, .int .i64 N] 31
      have hsr := sr_same f0 f1 f2 f3 s0 s1 s2 s3 g a0 a1 a2 a3 c0 c1 c2 c3 _ hat4 hat hI.sz
      rw [l0, l1, l2, l3, l4, l5] at hsr
      go_wp2_with fail
      refine hsr.mono ?_
      rintro e w9 ⟨rfl, hb9⟩
      replace bl := Below_after bl hb9
      go_wp2_with fail
      go_ret
      exact ⟨rfl, bl⟩
    · obtain ⟨x, hx⟩ : ∃ x, g.ws[k]? = some x := ⟨g.ws[k], List.getElem?_eq_getElem (by omega)⟩
      have hxm := he1 x (List.mem_of_getElem? hx)
      have hx2 : d.ws[k]? = some x := by rw [hdw, List.getElem?_append_left (by omega)]; exact hx
      obtain ⟨b, o, rfl, hb, hww⟩ := hat.w.resolve_left (by rintro e; rw [e] at l0; simp at l0; omega)
      obtain ⟨b', o', rfl, hb', hww'⟩ := hat2.w.resolve_left (by rintro e; rw [e] at hd1; simp at hd1)
      obtain ⟨q1, q2, q3, q4, q5⟩ := hww k x hx
      obtain ⟨p1, p2, p3, p4, p5⟩ := hww' k x hx2
      clear he1 hww hww' hq1 hx hx2 hdw
      go_wp2_with fail
      go_quiet (fail)
      go_wp2_with fail
      go_roundw
      case rel => exact ⟨k + 1, by omega, by go_num, below_drewN hbl _⟩
      case measure => simp [intOf]; omega
theorem tmade_yes (a : Option Addr) (c : Nat) (l : List Ac) (h s kind : Int) (w : World) (hw : AcsAt w a l) (hm : l.length ≤ maxLen) (hq : lacB l 80 = true) :
    Calls Try.prog 3 #[.slice a l.length c, .agg #[.int .i64 h, .int .i64 s], .int .i64 kind] w fun e w' => e = .returned (.bool true) ∧ Below w.heap.size w w' := by
  by_cases hc : makeC (growR l) h s kind = 0
  · exact tmade_ok a c l h s kind w hw hm hq hc
  · exact tmade_err a c l h s kind w hw hm hq hc
theorem tmade_any (w : World) (a : Option Addr) (l : List Ac) (c : Nat) (hw : AcsAt w a l) (hm : l.length ≤ maxLen) (h s kind : Int) :
    Calls Try.prog 3 #[.slice a l.length c, .agg #[.int .i64 h, .int .i64 s], .int .i64 kind] w fun e w' => e = .returned (.bool true) ∧ Below w.heap.size w w' := by
  cases hq : lacB l 80
  · exact tmade_no a c l h s kind w hw hm hq
  · exact tmade_yes a c l h s kind w hw hm hq
end Go.Proofs.Ytihckdndecbefae
