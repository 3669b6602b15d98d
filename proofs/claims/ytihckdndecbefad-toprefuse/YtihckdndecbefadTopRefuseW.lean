/- TopRefuse, walked. -/
import Derived.Test.YtihckdndecbefadGrownB
import Derived.Test.YtihckdndecbefadMadeW
import Derived.Test.YtihckdndecbefadSameW
import Derived.Test.YtihckdndecbefadCopyOfW
import Derived.Test.YtihckdndecbefadOpenAct
set_option linter.unusedSimpArgs false
set_option linter.unnecessarySimpa false
set_option linter.unusedVariables false
namespace Go.Proofs.Ytihckdndecbefad
open Go.RowKit

set_option maxHeartbeats 2000000 in
set_option maxRecDepth 100000 in
theorem refuse_no (a : Option Addr) (c : Nat) (l : List Ac) (x : Ac) (w : World) (hw : AcsAt w a l) (hm : l.length ≤ maxLen) (hx : AcOk w x) (hq : lacB l 80 = false) :
    Calls Try.prog 6 #[.slice a l.length c, .agg #[.string x.kd, .string x.sd, .int .i64 x.ph, .int .i64 x.ps, .int .i64 x.qh, .int .i64 x.qs, .int .i64 x.aa, .int .i64 x.bb, .int .i64 x.nn, .int .u64 x.kk, .slice x.xc x.lc x.cc]] w fun e w' => e = .returned (.bool true) ∧ Below w.heap.size w w' := by
  have BA0 := Bx.new w [.string x.kd, .string x.sd, .int .i64 x.ph, .int .i64 x.ps, .int .i64 x.qh, .int .i64 x.qs, .int .i64 x.aa, .int .i64 x.bb, .int .i64 x.nn, .int .u64 x.kk, .slice x.xc x.lc x.cc] 64
  have bl0 : Below w.heap.size w (w.alloc (.cells #[.string x.kd, .string x.sd, .int .i64 x.ph, .int .i64 x.ps, .int .i64 x.qh, .int .i64 x.qs, .int .i64 x.aa, .int .i64 x.bb, .int .i64 x.nn, .int .u64 x.kk, .slice x.xc x.lc x.cc] 64)) := (Below.refl _ _).alloc (Nat.le_refl _) _
  go_enter Try.func6, Try.ntmps6
  go_wp2_with fail
  refine (made_any _).mono ?_
  rintro e w1 ⟨rfl, hb1⟩
  have bl1 := Below_after bl0 hb1
  have BA1 := BA0.below hb1
  have hcon := grown_no a c l w1 (hw.below bl1) hm hq
  clear BA0 bl0 hb1
  go_wp2_with fail
  refine hcon.mono ?_
  rintro e w2 ⟨rfl, hb2⟩
  clear hcon
  have bl2 := (Below_after bl1 hb2).alloc (Below_after bl1 hb2).size (.cells #[.slice none 0 0, .slice none 0 0, .slice none 0 0, .slice none 0 0, .int .i64 0, .int .i64 0] 31)
  go_wp2_with fail
  go_ret
  exact ⟨rfl, bl2⟩
set_option maxHeartbeats 2000000 in
set_option maxRecDepth 100000 in
theorem refuse_yes (a : Option Addr) (c : Nat) (l : List Ac) (x : Ac) (w : World) (hw : AcsAt w a l) (hm : l.length ≤ maxLen) (hx : AcOk w x) (hq : lacB l 80 = true) :
    Calls Try.prog 6 #[.slice a l.length c, .agg #[.string x.kd, .string x.sd, .int .i64 x.ph, .int .i64 x.ps, .int .i64 x.qh, .int .i64 x.qs, .int .i64 x.aa, .int .i64 x.bb, .int .i64 x.nn, .int .u64 x.kk, .slice x.xc x.lc x.cc]] w fun e w' => e = .returned (.bool true) ∧ Below w.heap.size w w' := by
  have BA0 := Bx.new w [.string x.kd, .string x.sd, .int .i64 x.ph, .int .i64 x.ps, .int .i64 x.qh, .int .i64 x.qs, .int .i64 x.aa, .int .i64 x.bb, .int .i64 x.nn, .int .u64 x.kk, .slice x.xc x.lc x.cc] 64
  have bl0 : Below w.heap.size w (w.alloc (.cells #[.string x.kd, .string x.sd, .int .i64 x.ph, .int .i64 x.ps, .int .i64 x.qh, .int .i64 x.qs, .int .i64 x.aa, .int .i64 x.bb, .int .i64 x.nn, .int .u64 x.kk, .slice x.xc x.lc x.cc] 64)) := (Below.refl _ _).alloc (Nat.le_refl _) _
  have hlen := lac_len hq
  have hi := inv_grow l l.length (by omega)
  rw [List.take_length] at hi
  have hI : RmI (growR l) := ⟨hi.sz (by omega), hi.put, hi.wf⟩
  clear hi
  go_enter Try.func6, Try.ntmps6
  go_wp2_with fail
  refine (made_any _).mono ?_
  rintro e w1 ⟨rfl, hb1⟩
  have bl1 := Below_after bl0 hb1
  have BA1 := BA0.below hb1
  have hcon := grown_yes a c l w1 (hw.below bl1) hm hq
  clear BA0 bl0 hb1 hq
  generalize growR l = g at hcon hI
  go_wp2_with fail
  refine hcon.mono ?_
  rintro e w2 ⟨a0, a1, a2, a3, N0, N1, N2, N3, c0, c1, c2, c3, M, N, rfl, hL, hat, -, hb2⟩
  obtain ⟨l0, l1, l2, l3, l4, l5⟩ := hL
  have bl2 := (Below_after bl1 hb2).alloc (Below_after bl1 hb2).size (.cells #[.slice a0 N0 c0, .slice a1 N1 c1, .slice a2 N2 c2, .slice a3 N3 c3, .int .i64 M, .int .i64 N] 31)
  have BA2 := (BA1.below hb2).alloc (.cells #[.slice a0 N0 c0, .slice a1 N1 c1, .slice a2 N2 c2, .slice a3 N3 c3, .int .i64 M, .int .i64 N] 31)
  have BR2 := Bx.new w2 [.slice a0 N0 c0, .slice a1 N1 c1, .slice a2 N2 c2, .slice a3 N3 c3, .int .i64 M, .int .i64 N] 31
  have hat2 := hat.below ((Below.refl _ _).alloc (Nat.le_refl _) (.cells #[.slice a0 N0 c0, .slice a1 N1 c1, .slice a2 N2 c2, .slice a3 N3 c3, .int .i64 M, .int .i64 N] 31))
  have BS2 := Bx.new (w2.alloc (.cells #[.slice a0 N0 c0, .slice a1 N1 c1, .slice a2 N2 c2, .slice a3 N3 c3, .int .i64 M, .int .i64 N] 31)) [.string x.kd, .string x.sd, .int .i64 x.ph, .int .i64 x.ps, .int .i64 x.qh, .int .i64 x.qs, .int .i64 x.aa, .int .i64 x.bb, .int .i64 x.nn, .int .u64 x.kk, .slice x.xc x.lc x.cc] 64
  have hs2 : AcsAt ((w2.alloc (.cells #[.slice a0 N0 c0, .slice a1 N1 c1, .slice a2 N2 c2, .slice a3 N3 c3, .int .i64 M, .int .i64 N] 31)).alloc (.cells #[.string x.kd, .string x.sd, .int .i64 x.ph, .int .i64 x.ps, .int .i64 x.qh, .int .i64 x.qs, .int .i64 x.aa, .int .i64 x.bb, .int .i64 x.nn, .int .u64 x.kk, .slice x.xc x.lc x.cc] 64)) (some ⟨(w2.alloc (.cells #[.slice a0 N0 c0, .slice a1 N1 c1, .slice a2 N2 c2, .slice a3 N3 c3, .int .i64 M, .int .i64 N] 31)).heap.size, 0, none⟩) [x] := by
    refine .inr ⟨_, 0, rfl, BS2.1, ?_⟩
    intro j y hy
    match j, hy with
    | 0, hy =>
      cases hy
      refine ⟨⟨(BS2.2 0 _ rfl).1, (BS2.2 1 _ rfl).1, (BS2.2 2 _ rfl).1, (BS2.2 3 _ rfl).1, (BS2.2 4 _ rfl).1, (BS2.2 5 _ rfl).1, (BS2.2 6 _ rfl).1, (BS2.2 7 _ rfl).1, (BS2.2 8 _ rfl).1, (BS2.2 9 _ rfl).1, (BS2.2 10 _ rfl).1⟩, hx.1, hx.2.1, hx.2.2.1, ?_⟩
      exact (hx.2.2.2.below bl2).below ((Below.refl _ _).alloc (Nat.le_refl _) _)
  have hlac := lac_any _ 1 [x] 1 _ hs2 (by simp [maxLen]) (by omega) (by omega)
  clear hcon hat BA1 bl1 hb2 hs2
  have p0 := (BA2.2 0 _ rfl).1
  have p1 := (BA2.2 1 _ rfl).1
  have p2 := (BA2.2 2 _ rfl).1
  have p3 := (BA2.2 3 _ rfl).1
  have p4 := (BA2.2 4 _ rfl).1
  have p5 := (BA2.2 5 _ rfl).1
  have p6 := (BA2.2 6 _ rfl).1
  have p7 := (BA2.2 7 _ rfl).1
  have p8 := (BA2.2 8 _ rfl).1
  have p9 := (BA2.2 9 _ rfl).1
  have p10 := (BA2.2 10 _ rfl).1
  have zA := BA2.1
  rw [sz_alloc] at hlac
  change Calls _ _ #[.slice (some ⟨w2.heap.size + 1, 0, none⟩) 1 1, .int .i64 1] _ _ at hlac
  cases hl : lacB [x] 1
  · rw [hl] at hlac
    clear BS2 BR2 hat2 hx hw
    go_wp2_with fail
    refine hlac.mono ?_
    rintro e w' ⟨rfl, hw'⟩
    rw [hw']
    clear hw' w' hlac
    have bl3 := bl2.alloc bl2.size (.cells #[.string x.kd, .string x.sd, .int .i64 x.ph, .int .i64 x.ps, .int .i64 x.qh, .int .i64 x.qs, .int .i64 x.aa, .int .i64 x.bb, .int .i64 x.nn, .int .u64 x.kk, .slice x.xc x.lc x.cc] 64)
    go_wp2_with fail
    go_ret
    exact ⟨rfl, bl3⟩
  rw [hl] at hlac
  go_wp2_with fail
  refine hlac.mono ?_
  rintro e w' ⟨rfl, hw'⟩
  rw [hw']
  clear hw' w' hlac hl
  have bl3 := bl2.alloc bl2.size (.cells #[.string x.kd, .string x.sd, .int .i64 x.ph, .int .i64 x.ps, .int .i64 x.qh, .int .i64 x.qs, .int .i64 x.aa, .int .i64 x.bb, .int .i64 x.nn, .int .u64 x.kk, .slice x.xc x.lc x.cc] 64)
  have BA3 := BA2.alloc (.cells #[.string x.kd, .string x.sd, .int .i64 x.ph, .int .i64 x.ps, .int .i64 x.qh, .int .i64 x.qs, .int .i64 x.aa, .int .i64 x.bb, .int .i64 x.nn, .int .u64 x.kk, .slice x.xc x.lc x.cc] 64)
  have BR3 := BR2.alloc (.cells #[.string x.kd, .string x.sd, .int .i64 x.ph, .int .i64 x.ps, .int .i64 x.qh, .int .i64 x.qs, .int .i64 x.aa, .int .i64 x.bb, .int .i64 x.nn, .int .u64 x.kk, .slice x.xc x.lc x.cc] 64)
  have hat3 := hat2.below ((Below.refl _ _).alloc (Nat.le_refl _) (.cells #[.string x.kd, .string x.sd, .int .i64 x.ph, .int .i64 x.ps, .int .i64 x.qh, .int .i64 x.qs, .int .i64 x.aa, .int .i64 x.bb, .int .i64 x.nn, .int .u64 x.kk, .slice x.xc x.lc x.cc] 64))
  clear BA2 BR2 hat2 BS2 bl2 p0 p1 p2 p3 p4 p5 p6 p7 p8 p9 p10 zA hw hm
  generalize (w2.alloc (.cells #[.slice a0 N0 c0, .slice a1 N1 c1, .slice a2 N2 c2, .slice a3 N3 c3, .int .i64 M, .int .i64 N] 31)).alloc (.cells #[.string x.kd, .string x.sd, .int .i64 x.ph, .int .i64 x.ps, .int .i64 x.qh, .int .i64 x.qs, .int .i64 x.aa, .int .i64 x.bb, .int .i64 x.nn, .int .u64 x.kk, .slice x.xc x.lc x.cc] 64) = w3 at BA3 BR3 hat3 bl3 ⊢
  generalize w2.heap.size = B at BR3 ⊢
  have hcon := copyOf_any a0 a1 a2 a3 c0 c1 c2 c3 g w3 hat3 hI.sz
  rw [l0, l1, l2, l3, l4, l5] at hcon
  obtain ⟨p0, p1, p2, p3, p4, p5⟩ := BR3.six
  have zR := BR3.1
  go_wp2_with fail
  refine hcon.mono ?_
  rintro e w4 ⟨b0, b1, b2, b3, d0, d1, d2, d3, rfl, hwas, hb4⟩
  have bl4 := (Below_after bl3 hb4).alloc (Below_after bl3 hb4).size (.cells #[.slice b0 N0 d0, .slice b1 N1 d1, .slice b2 N2 d2, .slice b3 N3 d3, .int .i64 M, .int .i64 N] 31)
  have BA4 := (BA3.below hb4).alloc (.cells #[.slice b0 N0 d0, .slice b1 N1 d1, .slice b2 N2 d2, .slice b3 N3 d3, .int .i64 M, .int .i64 N] 31)
  have BR4 := (BR3.below hb4).alloc (.cells #[.slice b0 N0 d0, .slice b1 N1 d1, .slice b2 N2 d2, .slice b3 N3 d3, .int .i64 M, .int .i64 N] 31)
  have BW4 := Bx.new w4 [.slice b0 N0 d0, .slice b1 N1 d1, .slice b2 N2 d2, .slice b3 N3 d3, .int .i64 M, .int .i64 N] 31
  have hat4 := (hat3.below hb4).below ((Below.refl _ _).alloc (Nat.le_refl _) (.cells #[.slice b0 N0 d0, .slice b1 N1 d1, .slice b2 N2 d2, .slice b3 N3 d3, .int .i64 M, .int .i64 N] 31))
  have hwas4 := hwas.below ((Below.refl _ _).alloc (Nat.le_refl _) (.cells #[.slice b0 N0 d0, .slice b1 N1 d1, .slice b2 N2 d2, .slice b3 N3 d3, .int .i64 M, .int .i64 N] 31))
  clear hcon bl3 BA3 BR3 hat3 hwas hb4 p0 p1 p2 p3 p4 p5 zR
  have hcon := do_any a0 a1 a2 a3 c0 c1 c2 c3 g x _ hat4 hI hx.1
  rw [l0, l1, l2, l3, l4, l5] at hcon
  have p0 := (BA4.2 0 _ rfl).1
  have p1 := (BA4.2 1 _ rfl).1
  have p2 := (BA4.2 2 _ rfl).1
  have p3 := (BA4.2 3 _ rfl).1
  have p4 := (BA4.2 4 _ rfl).1
  have p5 := (BA4.2 5 _ rfl).1
  have p6 := (BA4.2 6 _ rfl).1
  have p7 := (BA4.2 7 _ rfl).1
  have p8 := (BA4.2 8 _ rfl).1
  have p9 := (BA4.2 9 _ rfl).1
  have p10 := (BA4.2 10 _ rfl).1
  have zA := BA4.1
  have q0 := (BR4.2 0 _ rfl).1
  have q1 := (BR4.2 1 _ rfl).1
  have q2 := (BR4.2 2 _ rfl).1
  have q3 := (BR4.2 3 _ rfl).1
  have q4 := (BR4.2 4 _ rfl).1
  have q5 := (BR4.2 5 _ rfl).1
  have zR := BR4.1
  go_wp2_with fail
  refine hcon.mono ?_
  rintro e w5 ⟨e0, e1, e2, e3, n0, n1, n2, n3, f0, f1, f2, f3, m, n, ev, rfl, hD, hb5⟩
  clear hcon p0 p1 p2 p3 p4 p5 p6 p7 p8 p9 p10 zA q0 q1 q2 q3 q4 q5 zR hx
  have bl5 := (Below_after bl4 hb5).alloc (Below_after bl4 hb5).size (.cells #[.slice e0 n0 f0, .slice e1 n1 f1, .slice e2 n2 f2, .slice e3 n3 f3, .int .i64 m, .int .i64 n] 31)
  have BR5 := (BR4.below hb5).alloc (.cells #[.slice e0 n0 f0, .slice e1 n1 f1, .slice e2 n2 f2, .slice e3 n3 f3, .int .i64 m, .int .i64 n] 31)
  have BW5 := (BW4.below hb5).alloc (.cells #[.slice e0 n0 f0, .slice e1 n1 f1, .slice e2 n2 f2, .slice e3 n3 f3, .int .i64 m, .int .i64 n] 31)
  have BX5 := Bx.new w5 [.slice e0 n0 f0, .slice e1 n1 f1, .slice e2 n2 f2, .slice e3 n3 f3, .int .i64 m, .int .i64 n] 31
  have hat5 := (hat4.below hb5).below ((Below.refl _ _).alloc (Nat.le_refl _) (.cells #[.slice e0 n0 f0, .slice e1 n1 f1, .slice e2 n2 f2, .slice e3 n3 f3, .int .i64 m, .int .i64 n] 31))
  have hwas5 := (hwas4.below hb5).below ((Below.refl _ _).alloc (Nat.le_refl _) (.cells #[.slice e0 n0 f0, .slice e1 n1 f1, .slice e2 n2 f2, .slice e3 n3 f3, .int .i64 m, .int .i64 n] 31))
  clear bl4 BA4 BR4 BW4 hat4 hwas4 hb5
  have hev : ev = .nilIface ∨ ((∃ C : Int, ev = .iface 76 (.int .i64 C)) ∧ e0 = none ∧ e1 = none ∧ e2 = none ∧ e3 = none ∧ n0 = 0 ∧ n1 = 0 ∧ n2 = 0 ∧ n3 = 0 ∧ f0 = 0 ∧ f1 = 0 ∧ f2 = 0 ∧ f3 = 0 ∧ m = 0 ∧ n = 0) := by
    rcases hD with (⟨-, h, -⟩ | ⟨-, h, hr⟩) | ⟨-, -, h, -⟩
    · exact .inl h
    · exact .inr ⟨⟨_, h⟩, hr⟩
    · exact .inl h
  clear hD
  have fin : ∀ W : World, Below (w5.alloc (.cells #[.slice e0 n0 f0, .slice e1 n1 f1, .slice e2 n2 f2, .slice e3 n3 f3, .int .i64 m, .int .i64 n] 31)).heap.size (w5.alloc (.cells #[.slice e0 n0 f0, .slice e1 n1 f1, .slice e2 n2 f2, .slice e3 n3 f3, .int .i64 m, .int .i64 n] 31)) W → Calls Try.prog 26 #[.agg #[.slice a0 N0 c0, .slice a1 N1 c1, .slice a2 N2 c2, .slice a3 N3 c3, .int .i64 M, .int .i64 N], .agg #[.slice b0 N0 d0, .slice b1 N1 d1, .slice b2 N2 d2, .slice b3 N3 d3, .int .i64 M, .int .i64 N]] W fun e w' => e = .returned (.bool true) ∧ Below W.heap.size W w' := by
    intro W hW
    have h := sr_same a0 a1 a2 a3 c0 c1 c2 c3 g b0 b1 b2 b3 d0 d1 d2 d3 W (hat5.below hW) (hwas5.below hW) hI.sz
    rw [l0, l1, l2, l3, l4, l5] at h
    exact h
  rcases hev with rfl | ⟨⟨C, rfl⟩, rfl, rfl, rfl, rfl, rfl, rfl, rfl, rfl, rfl, rfl, rfl, rfl, rfl, rfl⟩
  · have hc := fin _ (Below.refl _ _)
    have p0 := (BR5.2 0 _ rfl).1
    have p1 := (BR5.2 1 _ rfl).1
    have p2 := (BR5.2 2 _ rfl).1
    have p3 := (BR5.2 3 _ rfl).1
    have p4 := (BR5.2 4 _ rfl).1
    have p5 := (BR5.2 5 _ rfl).1
    have zR := BR5.1
    have q0 := (BW5.2 0 _ rfl).1
    have q1 := (BW5.2 1 _ rfl).1
    have q2 := (BW5.2 2 _ rfl).1
    have q3 := (BW5.2 3 _ rfl).1
    have q4 := (BW5.2 4 _ rfl).1
    have q5 := (BW5.2 5 _ rfl).1
    have zW := BW5.1
    go_wp2_with fail
    refine hc.mono ?_
    rintro e w6 ⟨rfl, hb6⟩
    have bl6 := Below_after bl5 hb6
    go_wp2_with fail
    go_ret
    exact ⟨rfl, bl6⟩
  · have hz0 : ∀ W : World, Calls Try.prog 26 #[.agg #[.slice none 0 0, .slice none 0 0, .slice none 0 0, .slice none 0 0, .int .i64 0, .int .i64 0], .agg #[.slice none 0 0, .slice none 0 0, .slice none 0 0, .slice none 0 0, .int .i64 0, .int .i64 0]] W fun e w' => e = .returned (.bool true) ∧ Below W.heap.size W w' := by
      intro W
      have hr0 : RmAt W none none none none 0 0 0 0 ⟨[], [], [], [], 0, 0⟩ := ⟨.inl rfl, .inl rfl, .inl rfl, .inl rfl, by simp [Fit], by simp [Fit], by simp [Fit], by simp [Fit]⟩
      exact sr_same none none none none 0 0 0 0 ⟨[], [], [], [], 0, 0⟩ none none none none 0 0 0 0 W hr0 hr0 (by constructor <;> simp)
    go_wp2_with fail
    refine (hz0 _).mono ?_
    rintro e w6 ⟨rfl, hb6⟩
    have hc := fin _ hb6
    have BR6 := BR5.below hb6
    have BW6 := BW5.below hb6
    have p0 := (BR6.2 0 _ rfl).1
    have p1 := (BR6.2 1 _ rfl).1
    have p2 := (BR6.2 2 _ rfl).1
    have p3 := (BR6.2 3 _ rfl).1
    have p4 := (BR6.2 4 _ rfl).1
    have p5 := (BR6.2 5 _ rfl).1
    have zR := BR6.1
    have q0 := (BW6.2 0 _ rfl).1
    have q1 := (BW6.2 1 _ rfl).1
    have q2 := (BW6.2 2 _ rfl).1
    have q3 := (BW6.2 3 _ rfl).1
    have q4 := (BW6.2 4 _ rfl).1
    have q5 := (BW6.2 5 _ rfl).1
    have zW := BW6.1
    go_wp2_with fail
    refine hc.mono ?_
    rintro e w7 ⟨rfl, hb7⟩
    have bl7 := Below_after (Below_after bl5 hb6) hb7
    go_wp2_with fail
    go_ret
    exact ⟨rfl, bl7⟩
theorem refuse_any (w : World) (a : Option Addr) (l : List Ac) (c : Nat) (hw : AcsAt w a l) (hm : l.length ≤ maxLen) (x : Ac) (hx : AcOk w x) :
    Calls Try.prog 6 #[.slice a l.length c, .agg #[.string x.kd, .string x.sd, .int .i64 x.ph, .int .i64 x.ps, .int .i64 x.qh, .int .i64 x.qs, .int .i64 x.aa, .int .i64 x.bb, .int .i64 x.nn, .int .u64 x.kk, .slice x.xc x.lc x.cc]] w fun e w' => e = .returned (.bool true) ∧ Below w.heap.size w w' := by
  cases hq : lacB l 80
  · exact refuse_no a c l x w hw hm hx hq
  · exact refuse_yes a c l x w hw hm hx hq
end Go.Proofs.Ytihckdndecbefad
