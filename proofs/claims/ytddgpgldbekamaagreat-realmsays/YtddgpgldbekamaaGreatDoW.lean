/- writkeeplaw.Do: an act, as the statements do it. -/
import Derived.Test.YtddgpgldbekamaaGreatBox
import Derived.Test.YtddgpgldbekamaaGreatActsW
set_option linter.unusedSimpArgs false
set_option linter.unnecessarySimpa false
set_option linter.unusedVariables false
namespace Go.Proofs.YtddgpgldbekamaaGreat
open Go.RowKit


theorem RmAt.set1L {w : World} {k z : Nat} {aw at_ ah an : Option Addr} {cw ct ch cn : Nat} {r : Rm} (h : RmAt w aw at_ ah an cw ct ch cn r) (h0 : HiA k aw) (h1 : HiA k at_) (h2 : HiA k ah) (h3 : HiA k an) (hz : z < k) (hp : 0 < z) (j : Nat) (u : Value) : RmAt (w.setCell ⟨z, j, none⟩ u) aw at_ ah an cw ct ch cn r :=
  ⟨h.w.setOff (.inr (off_hi (n := z - 1) (m := z) h0 (by omega) hz)) (.inr (.inr rfl)) j u, h.t.setOff (.inr (off_hi (n := z - 1) (m := z) h1 (by omega) hz)) (.inr (.inr rfl)) j u, h.h.setOff (.inr (off_hi (n := z - 1) (m := z) h2 (by omega) hz)) (.inr (.inr rfl)) j u, h.n.setOff (.inr (off_hi (n := z - 1) (m := z) h3 (by omega) hz)) (.inr (.inr rfl)) j u, h.fw, h.ft, h.fh, h.fn⟩
theorem ActP.set1 {E : TypeId} {base : Nat} {C : Int} {r : Rm} {w : World} {a0 a1 a2 a3 : Option Addr} {n0 n1 n2 n3 c0 c1 c2 c3 : Nat} {m n : Int} {ev : Value} (h : ActP E base C r w a0 a1 a2 a3 n0 n1 n2 n3 c0 c1 c2 c3 m n ev) {z : Nat} (hz : z < base) (hp : 0 < z) (j : Nat) (u : Value) :
    ActP E base C r (w.setCell ⟨z, j, none⟩ u) a0 a1 a2 a3 n0 n1 n2 n3 c0 c1 c2 c3 m n ev := by
  rcases h with ⟨h1, h2, h3, h4, h5, h6, h7, h8, hat, i0, i1, i2, i3⟩ | h
  · exact .inl ⟨h1, h2, h3, h4, h5, h6, h7, h8, hat.set1L i0 i1 i2 i3 hz hp j u, i0, i1, i2, i3⟩
  · exact .inr h
theorem ActP.set6 {E : TypeId} {base base' : Nat} {C : Int} {r : Rm} {w : World} {a0 a1 a2 a3 : Option Addr} {n0 n1 n2 n3 c0 c1 c2 c3 : Nat} {m n : Int} {ev : Value} (h : ActP E base C r w a0 a1 a2 a3 n0 n1 n2 n3 c0 c1 c2 c3 m n ev) {z : Nat} (hz : z < base) (hp : 0 < z) (hle : base' ≤ base) (x0 x1 x2 x3 x4 x5 : Value) :
    ActP E base' C r ((((((w.setCell ⟨z, 0, none⟩ x0).setCell ⟨z, 1, none⟩ x1).setCell ⟨z, 2, none⟩ x2).setCell ⟨z, 3, none⟩ x3).setCell ⟨z, 4, none⟩ x4).setCell ⟨z, 5, none⟩ x5) a0 a1 a2 a3 n0 n1 n2 n3 c0 c1 c2 c3 m n ev := by
  have := (((((h.set1 hz hp 0 x0).set1 hz hp 1 x1).set1 hz hp 2 x2).set1 hz hp 3 x3).set1 hz hp 4 x4).set1 hz hp 5 x5
  rcases this with ⟨h1, h2, h3, h4, h5, h6, h7, h8, hat, i0, i1, i2, i3⟩ | h
  · exact .inl ⟨h1, h2, h3, h4, h5, h6, h7, h8, hat, i0.mono hle, i1.mono hle, i2.mono hle, i3.mono hle⟩
  · exact .inr h
set_option maxHeartbeats 2000000 in
set_option maxRecDepth 100000 in
theorem do_make (aw at_ ah an : Option Addr) (cw ct ch cn : Nat) (r : Rm) (kd sd : ByteArray) (ph ps qh qs aa bb nn kk : Int) (xc : Option Addr) (lc cc : Nat) (w : World) (hr : RmAt w aw at_ ah an cw ct ch cn r) (hI : RmI r) (hsd : sd.size ≤ maxLen) (k0 : (kd.toList == [109, 97, 107, 101]) = true) :
    Calls Tryz.prog 19 #[.agg #[.slice aw r.ws.length cw, .slice at_ r.ts.length ct, .slice ah r.hs.length ch, .slice an r.ns.length cn, .int .i64 r.nw, .int .i64 r.nt], .agg #[.string kd, .string sd, .int .i64 ph, .int .i64 ps, .int .i64 qh, .int .i64 qs, .int .i64 aa, .int .i64 bb, .int .i64 nn, .int .u64 kk, .slice xc lc cc]] w fun e w' => ∃ (a0 a1 a2 a3 : Option Addr) (n0 n1 n2 n3 c0 c1 c2 c3 : Nat) (m n : Int) (ev : Value), e = .returned (.tuple #[.agg #[.slice a0 n0 c0, .slice a1 n1 c1, .slice a2 n2 c2, .slice a3 n3 c3, .int .i64 m, .int .i64 n], ev]) ∧ ActP 69 w.heap.size (makeC r ph ps aa) (makeR r ph ps aa) w' a0 a1 a2 a3 n0 n1 n2 n3 c0 c1 c2 c3 m n ev ∧ Below w.heap.size w w' := by
  obtain ⟨BR0, BA0, BZ0, bl0⟩ := boxes3 w [.slice aw r.ws.length cw, .slice at_ r.ts.length ct, .slice ah r.hs.length ch, .slice an r.ns.length cn, .int .i64 r.nw, .int .i64 r.nt] 30 [.string kd, .string sd, .int .i64 ph, .int .i64 ps, .int .i64 qh, .int .i64 qs, .int .i64 aa, .int .i64 bb, .int .i64 nn, .int .u64 kk, .slice xc lc cc] 37 [.slice none 0 0, .slice none 0 0, .slice none 0 0, .slice none 0 0, .int .i64 0, .int .i64 0] 30
  go_enter Tryz.func19, Tryz.ntmps19
  go_wp2_with fail
  refine (act_make aw at_ ah an cw ct ch cn r ph ps aa _ (hr.below bl0) hI).mono ?_
  rintro e w1 ⟨a0, a1, a2, a3, n0, n1, n2, n3, c0, c1, c2, c3, m, n, ev, rfl, hA, hb1⟩
  have BR1 := BR0.below hb1
  have BA1 := BA0.below hb1
  have BZ1 := BZ0.below hb1
  have bl1 := Below_after bl0 hb1
  clear BR0 BA0 BZ0 bl0
  have lw1 := BZ1.1
  have HA : Hid (ActP _ _ _ _ _ _ _ _ _ _ _ _ _ _ _ _ _ _ _ _) := hA
  clear hA hI hr
  obtain ⟨cR0, cR1, cR2, cR3, cR4, cR5⟩ := BR1.c6
  have zR := BR1.1
  obtain ⟨cA0, cA1, cA2, cA3, cA4, cA5, cA6, cA7, cA8, cA9, cA10⟩ := BA1.c11
  have zA := BA1.1
  obtain ⟨cZ0, fZ0, cZ1, fZ1, cZ2, fZ2, cZ3, fZ3, cZ4, fZ4, cZ5, fZ5⟩ := BZ1.cf6
  have zZ := BZ1.1
  go_wp2_with fail
  obtain ⟨y0, y1, y2, y3, y4, y5⟩ := (BZ1.put6 (.slice a0 n0 c0) (.slice a1 n1 c1) (.slice a2 n2 c2) (.slice a3 n3 c3) (.int .i64 m) (.int .i64 n)).six
  have blF := (below_set6 bl1 (b := w.heap.size + 1 + 1) (by omega) (.slice a0 n0 c0) (.slice a1 n1 c1) (.slice a2 n2 c2) (.slice a3 n3 c3) (.int .i64 m) (.int .i64 n))
  refine bodyPost_ret (v := .tuple #[.agg #[.slice a0 n0 c0, .slice a1 n1 c1, .slice a2 n2 c2, .slice a3 n3 c3, .int .i64 m, .int .i64 n], ev]) (by simp [results, Tryz.results19, go_sem, y0, y1, y2, y3, y4, y5]) rfl ?_
  exact ⟨a0, a1, a2, a3, n0, n1, n2, n3, c0, c1, c2, c3, m, n, ev, rfl, HA.out.set6 (by simp) (by omega) (by simp <;> omega) _ _ _ _ _ _, blF⟩
set_option maxHeartbeats 2000000 in
set_option maxRecDepth 100000 in
theorem do_give (aw at_ ah an : Option Addr) (cw ct ch cn : Nat) (r : Rm) (kd sd : ByteArray) (ph ps qh qs aa bb nn kk : Int) (xc : Option Addr) (lc cc : Nat) (w : World) (hr : RmAt w aw at_ ah an cw ct ch cn r) (hI : RmI r) (hsd : sd.size ≤ maxLen) (k0 : (kd.toList == [109, 97, 107, 101]) = false) (k1 : (kd.toList == [103, 105, 118, 101]) = true) :
    Calls Tryz.prog 19 #[.agg #[.slice aw r.ws.length cw, .slice at_ r.ts.length ct, .slice ah r.hs.length ch, .slice an r.ns.length cn, .int .i64 r.nw, .int .i64 r.nt], .agg #[.string kd, .string sd, .int .i64 ph, .int .i64 ps, .int .i64 qh, .int .i64 qs, .int .i64 aa, .int .i64 bb, .int .i64 nn, .int .u64 kk, .slice xc lc cc]] w fun e w' => ∃ (a0 a1 a2 a3 : Option Addr) (n0 n1 n2 n3 c0 c1 c2 c3 : Nat) (m n : Int) (ev : Value), e = .returned (.tuple #[.agg #[.slice a0 n0 c0, .slice a1 n1 c1, .slice a2 n2 c2, .slice a3 n3 c3, .int .i64 m, .int .i64 n], ev]) ∧ ActP 69 w.heap.size (giveC r ph ps qh qs aa bb) (giveR r ph ps qh qs aa bb) w' a0 a1 a2 a3 n0 n1 n2 n3 c0 c1 c2 c3 m n ev ∧ Below w.heap.size w w' := by
  obtain ⟨BR0, BA0, BZ0, bl0⟩ := boxes3 w [.slice aw r.ws.length cw, .slice at_ r.ts.length ct, .slice ah r.hs.length ch, .slice an r.ns.length cn, .int .i64 r.nw, .int .i64 r.nt] 30 [.string kd, .string sd, .int .i64 ph, .int .i64 ps, .int .i64 qh, .int .i64 qs, .int .i64 aa, .int .i64 bb, .int .i64 nn, .int .u64 kk, .slice xc lc cc] 37 [.slice none 0 0, .slice none 0 0, .slice none 0 0, .slice none 0 0, .int .i64 0, .int .i64 0] 30
  go_enter Tryz.func19, Tryz.ntmps19
  go_wp2_with fail
  refine (act_give aw at_ ah an cw ct ch cn r ph ps qh qs aa bb _ (hr.below bl0) hI).mono ?_
  rintro e w1 ⟨a0, a1, a2, a3, n0, n1, n2, n3, c0, c1, c2, c3, m, n, ev, rfl, hA, hb1⟩
  have BR1 := BR0.below hb1
  have BA1 := BA0.below hb1
  have BZ1 := BZ0.below hb1
  have bl1 := Below_after bl0 hb1
  clear BR0 BA0 BZ0 bl0
  have lw1 := BZ1.1
  have HA : Hid (ActP _ _ _ _ _ _ _ _ _ _ _ _ _ _ _ _ _ _ _ _) := hA
  clear hA hI hr
  obtain ⟨cR0, cR1, cR2, cR3, cR4, cR5⟩ := BR1.c6
  have zR := BR1.1
  obtain ⟨cA0, cA1, cA2, cA3, cA4, cA5, cA6, cA7, cA8, cA9, cA10⟩ := BA1.c11
  have zA := BA1.1
  obtain ⟨cZ0, fZ0, cZ1, fZ1, cZ2, fZ2, cZ3, fZ3, cZ4, fZ4, cZ5, fZ5⟩ := BZ1.cf6
  have zZ := BZ1.1
  go_wp2_with fail
  obtain ⟨y0, y1, y2, y3, y4, y5⟩ := (BZ1.put6 (.slice a0 n0 c0) (.slice a1 n1 c1) (.slice a2 n2 c2) (.slice a3 n3 c3) (.int .i64 m) (.int .i64 n)).six
  have blF := (below_set6 bl1 (b := w.heap.size + 1 + 1) (by omega) (.slice a0 n0 c0) (.slice a1 n1 c1) (.slice a2 n2 c2) (.slice a3 n3 c3) (.int .i64 m) (.int .i64 n))
  refine bodyPost_ret (v := .tuple #[.agg #[.slice a0 n0 c0, .slice a1 n1 c1, .slice a2 n2 c2, .slice a3 n3 c3, .int .i64 m, .int .i64 n], ev]) (by simp [results, Tryz.results19, go_sem, y0, y1, y2, y3, y4, y5]) rfl ?_
  exact ⟨a0, a1, a2, a3, n0, n1, n2, n3, c0, c1, c2, c3, m, n, ev, rfl, HA.out.set6 (by simp) (by omega) (by simp <;> omega) _ _ _ _ _ _, blF⟩
set_option maxHeartbeats 2000000 in
set_option maxRecDepth 100000 in
theorem do_move (aw at_ ah an : Option Addr) (cw ct ch cn : Nat) (r : Rm) (kd sd : ByteArray) (ph ps qh qs aa bb nn kk : Int) (xc : Option Addr) (lc cc : Nat) (w : World) (hr : RmAt w aw at_ ah an cw ct ch cn r) (hI : RmI r) (hsd : sd.size ≤ maxLen) (k0 : (kd.toList == [109, 97, 107, 101]) = false) (k1 : (kd.toList == [103, 105, 118, 101]) = false) (k2 : (kd.toList == [109, 111, 118, 101]) = true) :
    Calls Tryz.prog 19 #[.agg #[.slice aw r.ws.length cw, .slice at_ r.ts.length ct, .slice ah r.hs.length ch, .slice an r.ns.length cn, .int .i64 r.nw, .int .i64 r.nt], .agg #[.string kd, .string sd, .int .i64 ph, .int .i64 ps, .int .i64 qh, .int .i64 qs, .int .i64 aa, .int .i64 bb, .int .i64 nn, .int .u64 kk, .slice xc lc cc]] w fun e w' => ∃ (a0 a1 a2 a3 : Option Addr) (n0 n1 n2 n3 c0 c1 c2 c3 : Nat) (m n : Int) (ev : Value), e = .returned (.tuple #[.agg #[.slice a0 n0 c0, .slice a1 n1 c1, .slice a2 n2 c2, .slice a3 n3 c3, .int .i64 m, .int .i64 n], ev]) ∧ ActP 69 w.heap.size (moveC r ph ps aa) (moveR r ph ps aa) w' a0 a1 a2 a3 n0 n1 n2 n3 c0 c1 c2 c3 m n ev ∧ Below w.heap.size w w' := by
  obtain ⟨BR0, BA0, BZ0, bl0⟩ := boxes3 w [.slice aw r.ws.length cw, .slice at_ r.ts.length ct, .slice ah r.hs.length ch, .slice an r.ns.length cn, .int .i64 r.nw, .int .i64 r.nt] 30 [.string kd, .string sd, .int .i64 ph, .int .i64 ps, .int .i64 qh, .int .i64 qs, .int .i64 aa, .int .i64 bb, .int .i64 nn, .int .u64 kk, .slice xc lc cc] 37 [.slice none 0 0, .slice none 0 0, .slice none 0 0, .slice none 0 0, .int .i64 0, .int .i64 0] 30
  go_enter Tryz.func19, Tryz.ntmps19
  go_wp2_with fail
  refine (act_move aw at_ ah an cw ct ch cn r ph ps aa _ (hr.below bl0) hI).mono ?_
  rintro e w1 ⟨a0, a1, a2, a3, n0, n1, n2, n3, c0, c1, c2, c3, m, n, ev, rfl, hA, hb1⟩
  have BR1 := BR0.below hb1
  have BA1 := BA0.below hb1
  have BZ1 := BZ0.below hb1
  have bl1 := Below_after bl0 hb1
  clear BR0 BA0 BZ0 bl0
  have lw1 := BZ1.1
  have HA : Hid (ActP _ _ _ _ _ _ _ _ _ _ _ _ _ _ _ _ _ _ _ _) := hA
  clear hA hI hr
  obtain ⟨cR0, cR1, cR2, cR3, cR4, cR5⟩ := BR1.c6
  have zR := BR1.1
  obtain ⟨cA0, cA1, cA2, cA3, cA4, cA5, cA6, cA7, cA8, cA9, cA10⟩ := BA1.c11
  have zA := BA1.1
  obtain ⟨cZ0, fZ0, cZ1, fZ1, cZ2, fZ2, cZ3, fZ3, cZ4, fZ4, cZ5, fZ5⟩ := BZ1.cf6
  have zZ := BZ1.1
  go_wp2_with fail
  obtain ⟨y0, y1, y2, y3, y4, y5⟩ := (BZ1.put6 (.slice a0 n0 c0) (.slice a1 n1 c1) (.slice a2 n2 c2) (.slice a3 n3 c3) (.int .i64 m) (.int .i64 n)).six
  have blF := (below_set6 bl1 (b := w.heap.size + 1 + 1) (by omega) (.slice a0 n0 c0) (.slice a1 n1 c1) (.slice a2 n2 c2) (.slice a3 n3 c3) (.int .i64 m) (.int .i64 n))
  refine bodyPost_ret (v := .tuple #[.agg #[.slice a0 n0 c0, .slice a1 n1 c1, .slice a2 n2 c2, .slice a3 n3 c3, .int .i64 m, .int .i64 n], ev]) (by simp [results, Tryz.results19, go_sem, y0, y1, y2, y3, y4, y5]) rfl ?_
  exact ⟨a0, a1, a2, a3, n0, n1, n2, n3, c0, c1, c2, c3, m, n, ev, rfl, HA.out.set6 (by simp) (by omega) (by simp <;> omega) _ _ _ _ _ _, blF⟩
set_option maxHeartbeats 2000000 in
set_option maxRecDepth 100000 in
theorem do_drop (aw at_ ah an : Option Addr) (cw ct ch cn : Nat) (r : Rm) (kd sd : ByteArray) (ph ps qh qs aa bb nn kk : Int) (xc : Option Addr) (lc cc : Nat) (w : World) (hr : RmAt w aw at_ ah an cw ct ch cn r) (hI : RmI r) (hsd : sd.size ≤ maxLen) (k0 : (kd.toList == [109, 97, 107, 101]) = false) (k1 : (kd.toList == [103, 105, 118, 101]) = false) (k2 : (kd.toList == [109, 111, 118, 101]) = false) (k3 : (kd.toList == [100, 114, 111, 112]) = true) :
    Calls Tryz.prog 19 #[.agg #[.slice aw r.ws.length cw, .slice at_ r.ts.length ct, .slice ah r.hs.length ch, .slice an r.ns.length cn, .int .i64 r.nw, .int .i64 r.nt], .agg #[.string kd, .string sd, .int .i64 ph, .int .i64 ps, .int .i64 qh, .int .i64 qs, .int .i64 aa, .int .i64 bb, .int .i64 nn, .int .u64 kk, .slice xc lc cc]] w fun e w' => ∃ (a0 a1 a2 a3 : Option Addr) (n0 n1 n2 n3 c0 c1 c2 c3 : Nat) (m n : Int) (ev : Value), e = .returned (.tuple #[.agg #[.slice a0 n0 c0, .slice a1 n1 c1, .slice a2 n2 c2, .slice a3 n3 c3, .int .i64 m, .int .i64 n], ev]) ∧ ActP 69 w.heap.size (dropC r ph ps) (dropR r ph ps) w' a0 a1 a2 a3 n0 n1 n2 n3 c0 c1 c2 c3 m n ev ∧ Below w.heap.size w w' := by
  obtain ⟨BR0, BA0, BZ0, bl0⟩ := boxes3 w [.slice aw r.ws.length cw, .slice at_ r.ts.length ct, .slice ah r.hs.length ch, .slice an r.ns.length cn, .int .i64 r.nw, .int .i64 r.nt] 30 [.string kd, .string sd, .int .i64 ph, .int .i64 ps, .int .i64 qh, .int .i64 qs, .int .i64 aa, .int .i64 bb, .int .i64 nn, .int .u64 kk, .slice xc lc cc] 37 [.slice none 0 0, .slice none 0 0, .slice none 0 0, .slice none 0 0, .int .i64 0, .int .i64 0] 30
  go_enter Tryz.func19, Tryz.ntmps19
  go_wp2_with fail
  refine (act_drop aw at_ ah an cw ct ch cn r ph ps _ (hr.below bl0) hI).mono ?_
  rintro e w1 ⟨a0, a1, a2, a3, n0, n1, n2, n3, c0, c1, c2, c3, m, n, ev, rfl, hA, hb1⟩
  have BR1 := BR0.below hb1
  have BA1 := BA0.below hb1
  have BZ1 := BZ0.below hb1
  have bl1 := Below_after bl0 hb1
  clear BR0 BA0 BZ0 bl0
  have lw1 := BZ1.1
  have HA : Hid (ActP _ _ _ _ _ _ _ _ _ _ _ _ _ _ _ _ _ _ _ _) := hA
  clear hA hI hr
  obtain ⟨cR0, cR1, cR2, cR3, cR4, cR5⟩ := BR1.c6
  have zR := BR1.1
  obtain ⟨cA0, cA1, cA2, cA3, cA4, cA5, cA6, cA7, cA8, cA9, cA10⟩ := BA1.c11
  have zA := BA1.1
  obtain ⟨cZ0, fZ0, cZ1, fZ1, cZ2, fZ2, cZ3, fZ3, cZ4, fZ4, cZ5, fZ5⟩ := BZ1.cf6
  have zZ := BZ1.1
  go_wp2_with fail
  obtain ⟨y0, y1, y2, y3, y4, y5⟩ := (BZ1.put6 (.slice a0 n0 c0) (.slice a1 n1 c1) (.slice a2 n2 c2) (.slice a3 n3 c3) (.int .i64 m) (.int .i64 n)).six
  have blF := (below_set6 bl1 (b := w.heap.size + 1 + 1) (by omega) (.slice a0 n0 c0) (.slice a1 n1 c1) (.slice a2 n2 c2) (.slice a3 n3 c3) (.int .i64 m) (.int .i64 n))
  refine bodyPost_ret (v := .tuple #[.agg #[.slice a0 n0 c0, .slice a1 n1 c1, .slice a2 n2 c2, .slice a3 n3 c3, .int .i64 m, .int .i64 n], ev]) (by simp [results, Tryz.results19, go_sem, y0, y1, y2, y3, y4, y5]) rfl ?_
  exact ⟨a0, a1, a2, a3, n0, n1, n2, n3, c0, c1, c2, c3, m, n, ev, rfl, HA.out.set6 (by simp) (by omega) (by simp <;> omega) _ _ _ _ _ _, blF⟩
set_option maxHeartbeats 2000000 in
set_option maxRecDepth 100000 in
theorem do_revoke (aw at_ ah an : Option Addr) (cw ct ch cn : Nat) (r : Rm) (kd sd : ByteArray) (ph ps qh qs aa bb nn kk : Int) (xc : Option Addr) (lc cc : Nat) (w : World) (hr : RmAt w aw at_ ah an cw ct ch cn r) (hI : RmI r) (hsd : sd.size ≤ maxLen) (k0 : (kd.toList == [109, 97, 107, 101]) = false) (k1 : (kd.toList == [103, 105, 118, 101]) = false) (k2 : (kd.toList == [109, 111, 118, 101]) = false) (k3 : (kd.toList == [100, 114, 111, 112]) = false) (k4 : (kd.toList == [114, 101, 118, 111, 107, 101]) = true) :
    Calls Tryz.prog 19 #[.agg #[.slice aw r.ws.length cw, .slice at_ r.ts.length ct, .slice ah r.hs.length ch, .slice an r.ns.length cn, .int .i64 r.nw, .int .i64 r.nt], .agg #[.string kd, .string sd, .int .i64 ph, .int .i64 ps, .int .i64 qh, .int .i64 qs, .int .i64 aa, .int .i64 bb, .int .i64 nn, .int .u64 kk, .slice xc lc cc]] w fun e w' => ∃ (a0 a1 a2 a3 : Option Addr) (n0 n1 n2 n3 c0 c1 c2 c3 : Nat) (m n : Int) (ev : Value), e = .returned (.tuple #[.agg #[.slice a0 n0 c0, .slice a1 n1 c1, .slice a2 n2 c2, .slice a3 n3 c3, .int .i64 m, .int .i64 n], ev]) ∧ ActP 69 w.heap.size (dropC r ph ps) (revokeR r ph ps) w' a0 a1 a2 a3 n0 n1 n2 n3 c0 c1 c2 c3 m n ev ∧ Below w.heap.size w w' := by
  obtain ⟨BR0, BA0, BZ0, bl0⟩ := boxes3 w [.slice aw r.ws.length cw, .slice at_ r.ts.length ct, .slice ah r.hs.length ch, .slice an r.ns.length cn, .int .i64 r.nw, .int .i64 r.nt] 30 [.string kd, .string sd, .int .i64 ph, .int .i64 ps, .int .i64 qh, .int .i64 qs, .int .i64 aa, .int .i64 bb, .int .i64 nn, .int .u64 kk, .slice xc lc cc] 37 [.slice none 0 0, .slice none 0 0, .slice none 0 0, .slice none 0 0, .int .i64 0, .int .i64 0] 30
  go_enter Tryz.func19, Tryz.ntmps19
  go_wp2_with fail
  refine (act_revoke aw at_ ah an cw ct ch cn r ph ps _ (hr.below bl0) hI).mono ?_
  rintro e w1 ⟨a0, a1, a2, a3, n0, n1, n2, n3, c0, c1, c2, c3, m, n, ev, rfl, hA, hb1⟩
  have BR1 := BR0.below hb1
  have BA1 := BA0.below hb1
  have BZ1 := BZ0.below hb1
  have bl1 := Below_after bl0 hb1
  clear BR0 BA0 BZ0 bl0
  have lw1 := BZ1.1
  have HA : Hid (ActP _ _ _ _ _ _ _ _ _ _ _ _ _ _ _ _ _ _ _ _) := hA
  clear hA hI hr
  obtain ⟨cR0, cR1, cR2, cR3, cR4, cR5⟩ := BR1.c6
  have zR := BR1.1
  obtain ⟨cA0, cA1, cA2, cA3, cA4, cA5, cA6, cA7, cA8, cA9, cA10⟩ := BA1.c11
  have zA := BA1.1
  obtain ⟨cZ0, fZ0, cZ1, fZ1, cZ2, fZ2, cZ3, fZ3, cZ4, fZ4, cZ5, fZ5⟩ := BZ1.cf6
  have zZ := BZ1.1
  go_wp2_with fail
  obtain ⟨y0, y1, y2, y3, y4, y5⟩ := (BZ1.put6 (.slice a0 n0 c0) (.slice a1 n1 c1) (.slice a2 n2 c2) (.slice a3 n3 c3) (.int .i64 m) (.int .i64 n)).six
  have blF := (below_set6 bl1 (b := w.heap.size + 1 + 1) (by omega) (.slice a0 n0 c0) (.slice a1 n1 c1) (.slice a2 n2 c2) (.slice a3 n3 c3) (.int .i64 m) (.int .i64 n))
  refine bodyPost_ret (v := .tuple #[.agg #[.slice a0 n0 c0, .slice a1 n1 c1, .slice a2 n2 c2, .slice a3 n3 c3, .int .i64 m, .int .i64 n], ev]) (by simp [results, Tryz.results19, go_sem, y0, y1, y2, y3, y4, y5]) rfl ?_
  exact ⟨a0, a1, a2, a3, n0, n1, n2, n3, c0, c1, c2, c3, m, n, ev, rfl, HA.out.set6 (by simp) (by omega) (by simp <;> omega) _ _ _ _ _ _, blF⟩
set_option maxHeartbeats 2000000 in
set_option maxRecDepth 100000 in
theorem do_write (aw at_ ah an : Option Addr) (cw ct ch cn : Nat) (r : Rm) (kd sd : ByteArray) (ph ps qh qs aa bb nn kk : Int) (xc : Option Addr) (lc cc : Nat) (w : World) (hr : RmAt w aw at_ ah an cw ct ch cn r) (hI : RmI r) (hsd : sd.size ≤ maxLen) (k0 : (kd.toList == [109, 97, 107, 101]) = false) (k1 : (kd.toList == [103, 105, 118, 101]) = false) (k2 : (kd.toList == [109, 111, 118, 101]) = false) (k3 : (kd.toList == [100, 114, 111, 112]) = false) (k4 : (kd.toList == [114, 101, 118, 111, 107, 101]) = false) (k5 : (kd.toList == [119, 114, 105, 116, 101]) = true) :
    Calls Tryz.prog 19 #[.agg #[.slice aw r.ws.length cw, .slice at_ r.ts.length ct, .slice ah r.hs.length ch, .slice an r.ns.length cn, .int .i64 r.nw, .int .i64 r.nt], .agg #[.string kd, .string sd, .int .i64 ph, .int .i64 ps, .int .i64 qh, .int .i64 qs, .int .i64 aa, .int .i64 bb, .int .i64 nn, .int .u64 kk, .slice xc lc cc]] w fun e w' => ∃ (a0 a1 a2 a3 : Option Addr) (n0 n1 n2 n3 c0 c1 c2 c3 : Nat) (m n : Int) (ev : Value), e = .returned (.tuple #[.agg #[.slice a0 n0 c0, .slice a1 n1 c1, .slice a2 n2 c2, .slice a3 n3 c3, .int .i64 m, .int .i64 n], ev]) ∧ ActP 69 w.heap.size (writeC r ph ps sd) (writeR r ph ps sd) w' a0 a1 a2 a3 n0 n1 n2 n3 c0 c1 c2 c3 m n ev ∧ Below w.heap.size w w' := by
  obtain ⟨BR0, BA0, BZ0, bl0⟩ := boxes3 w [.slice aw r.ws.length cw, .slice at_ r.ts.length ct, .slice ah r.hs.length ch, .slice an r.ns.length cn, .int .i64 r.nw, .int .i64 r.nt] 30 [.string kd, .string sd, .int .i64 ph, .int .i64 ps, .int .i64 qh, .int .i64 qs, .int .i64 aa, .int .i64 bb, .int .i64 nn, .int .u64 kk, .slice xc lc cc] 37 [.slice none 0 0, .slice none 0 0, .slice none 0 0, .slice none 0 0, .int .i64 0, .int .i64 0] 30
  go_enter Tryz.func19, Tryz.ntmps19
  go_wp2_with fail
  refine (act_write aw at_ ah an cw ct ch cn r ph ps sd _ (hr.below bl0) hI hsd).mono ?_
  rintro e w1 ⟨a0, a1, a2, a3, n0, n1, n2, n3, c0, c1, c2, c3, m, n, ev, rfl, hA, hb1⟩
  have BR1 := BR0.below hb1
  have BA1 := BA0.below hb1
  have BZ1 := BZ0.below hb1
  have bl1 := Below_after bl0 hb1
  clear BR0 BA0 BZ0 bl0
  have lw1 := BZ1.1
  have HA : Hid (ActP _ _ _ _ _ _ _ _ _ _ _ _ _ _ _ _ _ _ _ _) := hA
  clear hA hI hr
  obtain ⟨cR0, cR1, cR2, cR3, cR4, cR5⟩ := BR1.c6
  have zR := BR1.1
  obtain ⟨cA0, cA1, cA2, cA3, cA4, cA5, cA6, cA7, cA8, cA9, cA10⟩ := BA1.c11
  have zA := BA1.1
  obtain ⟨cZ0, fZ0, cZ1, fZ1, cZ2, fZ2, cZ3, fZ3, cZ4, fZ4, cZ5, fZ5⟩ := BZ1.cf6
  have zZ := BZ1.1
  go_wp2_with fail
  obtain ⟨y0, y1, y2, y3, y4, y5⟩ := (BZ1.put6 (.slice a0 n0 c0) (.slice a1 n1 c1) (.slice a2 n2 c2) (.slice a3 n3 c3) (.int .i64 m) (.int .i64 n)).six
  have blF := (below_set6 bl1 (b := w.heap.size + 1 + 1) (by omega) (.slice a0 n0 c0) (.slice a1 n1 c1) (.slice a2 n2 c2) (.slice a3 n3 c3) (.int .i64 m) (.int .i64 n))
  refine bodyPost_ret (v := .tuple #[.agg #[.slice a0 n0 c0, .slice a1 n1 c1, .slice a2 n2 c2, .slice a3 n3 c3, .int .i64 m, .int .i64 n], ev]) (by simp [results, Tryz.results19, go_sem, y0, y1, y2, y3, y4, y5]) rfl ?_
  exact ⟨a0, a1, a2, a3, n0, n1, n2, n3, c0, c1, c2, c3, m, n, ev, rfl, HA.out.set6 (by simp) (by omega) (by simp <;> omega) _ _ _ _ _ _, blF⟩
set_option maxHeartbeats 2000000 in
set_option maxRecDepth 100000 in
theorem do_send (aw at_ ah an : Option Addr) (cw ct ch cn : Nat) (r : Rm) (kd sd : ByteArray) (ph ps qh qs aa bb nn kk : Int) (xc : Option Addr) (lc cc : Nat) (w : World) (hr : RmAt w aw at_ ah an cw ct ch cn r) (hI : RmI r) (hsd : sd.size ≤ maxLen) (k0 : (kd.toList == [109, 97, 107, 101]) = false) (k1 : (kd.toList == [103, 105, 118, 101]) = false) (k2 : (kd.toList == [109, 111, 118, 101]) = false) (k3 : (kd.toList == [100, 114, 111, 112]) = false) (k4 : (kd.toList == [114, 101, 118, 111, 107, 101]) = false) (k5 : (kd.toList == [119, 114, 105, 116, 101]) = false) (k6 : (kd.toList == [115, 101, 110, 100]) = true) :
    Calls Tryz.prog 19 #[.agg #[.slice aw r.ws.length cw, .slice at_ r.ts.length ct, .slice ah r.hs.length ch, .slice an r.ns.length cn, .int .i64 r.nw, .int .i64 r.nt], .agg #[.string kd, .string sd, .int .i64 ph, .int .i64 ps, .int .i64 qh, .int .i64 qs, .int .i64 aa, .int .i64 bb, .int .i64 nn, .int .u64 kk, .slice xc lc cc]] w fun e w' => ∃ (a0 a1 a2 a3 : Option Addr) (n0 n1 n2 n3 c0 c1 c2 c3 : Nat) (m n : Int) (ev : Value), e = .returned (.tuple #[.agg #[.slice a0 n0 c0, .slice a1 n1 c1, .slice a2 n2 c2, .slice a3 n3 c3, .int .i64 m, .int .i64 n], ev]) ∧ ActP 69 w.heap.size (sendC r ph ps sd aa bb) (sendR r ph ps sd aa bb) w' a0 a1 a2 a3 n0 n1 n2 n3 c0 c1 c2 c3 m n ev ∧ Below w.heap.size w w' := by
  obtain ⟨BR0, BA0, BZ0, bl0⟩ := boxes3 w [.slice aw r.ws.length cw, .slice at_ r.ts.length ct, .slice ah r.hs.length ch, .slice an r.ns.length cn, .int .i64 r.nw, .int .i64 r.nt] 30 [.string kd, .string sd, .int .i64 ph, .int .i64 ps, .int .i64 qh, .int .i64 qs, .int .i64 aa, .int .i64 bb, .int .i64 nn, .int .u64 kk, .slice xc lc cc] 37 [.slice none 0 0, .slice none 0 0, .slice none 0 0, .slice none 0 0, .int .i64 0, .int .i64 0] 30
  go_enter Tryz.func19, Tryz.ntmps19
  go_wp2_with fail
  refine (act_send aw at_ ah an cw ct ch cn r ph ps sd aa bb _ (hr.below bl0) hI hsd).mono ?_
  rintro e w1 ⟨a0, a1, a2, a3, n0, n1, n2, n3, c0, c1, c2, c3, m, n, ev, rfl, hA, hb1⟩
  have BR1 := BR0.below hb1
  have BA1 := BA0.below hb1
  have BZ1 := BZ0.below hb1
  have bl1 := Below_after bl0 hb1
  clear BR0 BA0 BZ0 bl0
  have lw1 := BZ1.1
  have HA : Hid (ActP _ _ _ _ _ _ _ _ _ _ _ _ _ _ _ _ _ _ _ _) := hA
  clear hA hI hr
  obtain ⟨cR0, cR1, cR2, cR3, cR4, cR5⟩ := BR1.c6
  have zR := BR1.1
  obtain ⟨cA0, cA1, cA2, cA3, cA4, cA5, cA6, cA7, cA8, cA9, cA10⟩ := BA1.c11
  have zA := BA1.1
  obtain ⟨cZ0, fZ0, cZ1, fZ1, cZ2, fZ2, cZ3, fZ3, cZ4, fZ4, cZ5, fZ5⟩ := BZ1.cf6
  have zZ := BZ1.1
  go_wp2_with fail
  obtain ⟨y0, y1, y2, y3, y4, y5⟩ := (BZ1.put6 (.slice a0 n0 c0) (.slice a1 n1 c1) (.slice a2 n2 c2) (.slice a3 n3 c3) (.int .i64 m) (.int .i64 n)).six
  have blF := (below_set6 bl1 (b := w.heap.size + 1 + 1) (by omega) (.slice a0 n0 c0) (.slice a1 n1 c1) (.slice a2 n2 c2) (.slice a3 n3 c3) (.int .i64 m) (.int .i64 n))
  refine bodyPost_ret (v := .tuple #[.agg #[.slice a0 n0 c0, .slice a1 n1 c1, .slice a2 n2 c2, .slice a3 n3 c3, .int .i64 m, .int .i64 n], ev]) (by simp [results, Tryz.results19, go_sem, y0, y1, y2, y3, y4, y5]) rfl ?_
  exact ⟨a0, a1, a2, a3, n0, n1, n2, n3, c0, c1, c2, c3, m, n, ev, rfl, HA.out.set6 (by simp) (by omega) (by simp <;> omega) _ _ _ _ _ _, blF⟩
theorem ActP.below {E : TypeId} {base : Nat} {C : Int} {r : Rm} {w w1 : World} {a0 a1 a2 a3 : Option Addr} {n0 n1 n2 n3 c0 c1 c2 c3 : Nat} {m n : Int} {ev : Value} (h : ActP E base C r w a0 a1 a2 a3 n0 n1 n2 n3 c0 c1 c2 c3 m n ev) (hb : Below w.heap.size w w1) : ActP E base C r w1 a0 a1 a2 a3 n0 n1 n2 n3 c0 c1 c2 c3 m n ev := by
  rcases h with ⟨h1, h2, h3, h4, h5, h6, h7, h8, hat, i⟩ | h
  · exact .inl ⟨h1, h2, h3, h4, h5, h6, h7, h8, hat.below hb, i⟩
  · exact .inr h
set_option maxHeartbeats 2000000 in
set_option maxRecDepth 100000 in
theorem do_take (aw at_ ah an : Option Addr) (cw ct ch cn : Nat) (r : Rm) (kd sd : ByteArray) (ph ps qh qs aa bb nn kk : Int) (xc : Option Addr) (lc cc : Nat) (w : World) (hr : RmAt w aw at_ ah an cw ct ch cn r) (hI : RmI r) (k0 : (kd.toList == [109, 97, 107, 101]) = false) (k1 : (kd.toList == [103, 105, 118, 101]) = false) (k2 : (kd.toList == [109, 111, 118, 101]) = false) (k3 : (kd.toList == [100, 114, 111, 112]) = false) (k4 : (kd.toList == [114, 101, 118, 111, 107, 101]) = false) (k5 : (kd.toList == [119, 114, 105, 116, 101]) = false) (k6 : (kd.toList == [115, 101, 110, 100]) = false) (k7 : (kd.toList == [116, 97, 107, 101]) = true) :
    Calls Tryz.prog 19 #[.agg #[.slice aw r.ws.length cw, .slice at_ r.ts.length ct, .slice ah r.hs.length ch, .slice an r.ns.length cn, .int .i64 r.nw, .int .i64 r.nt], .agg #[.string kd, .string sd, .int .i64 ph, .int .i64 ps, .int .i64 qh, .int .i64 qs, .int .i64 aa, .int .i64 bb, .int .i64 nn, .int .u64 kk, .slice xc lc cc]] w fun e w' => ∃ (a0 a1 a2 a3 : Option Addr) (n0 n1 n2 n3 c0 c1 c2 c3 : Nat) (m n : Int) (ev : Value), e = .returned (.tuple #[.agg #[.slice a0 n0 c0, .slice a1 n1 c1, .slice a2 n2 c2, .slice a3 n3 c3, .int .i64 m, .int .i64 n], ev]) ∧ ActP 69 w.heap.size (takeC r ph ps) (takeR r ph ps) w' a0 a1 a2 a3 n0 n1 n2 n3 c0 c1 c2 c3 m n ev ∧ Below w.heap.size w w' := by
  obtain ⟨BR0, BA0, BZ0, bl0⟩ := boxes3 w [.slice aw r.ws.length cw, .slice at_ r.ts.length ct, .slice ah r.hs.length ch, .slice an r.ns.length cn, .int .i64 r.nw, .int .i64 r.nt] 30 [.string kd, .string sd, .int .i64 ph, .int .i64 ps, .int .i64 qh, .int .i64 qs, .int .i64 aa, .int .i64 bb, .int .i64 nn, .int .u64 kk, .slice xc lc cc] 37 [.slice none 0 0, .slice none 0 0, .slice none 0 0, .slice none 0 0, .int .i64 0, .int .i64 0] 30
  go_enter Tryz.func19, Tryz.ntmps19
  go_wp2_with fail
  refine (act_take aw at_ ah an cw ct ch cn r ph ps _ (hr.below bl0) hI).mono ?_
  rintro e w1 ⟨a0, a1, a2, a3, n0, n1, n2, n3, c0, c1, c2, c3, m, n, ev, q, sl, rfl, hA, -, hb1⟩
  have BR1 := BR0.below hb1
  have BA1 := BA0.below hb1
  have BZ1 := BZ0.below hb1
  have bl1 := Below_after bl0 hb1
  clear BR0 BA0 BZ0 bl0
  have lw1 := BZ1.1
  have HA : Hid (ActP _ _ _ _ _ _ _ _ _ _ _ _ _ _ _ _ _ _ _ _) := hA
  clear hA hI hr
  obtain ⟨cR0, cR1, cR2, cR3, cR4, cR5⟩ := BR1.c6
  have zR := BR1.1
  obtain ⟨cA0, cA1, cA2, cA3, cA4, cA5, cA6, cA7, cA8, cA9, cA10⟩ := BA1.c11
  have zA := BA1.1
  obtain ⟨cZ0, fZ0, cZ1, fZ1, cZ2, fZ2, cZ3, fZ3, cZ4, fZ4, cZ5, fZ5⟩ := BZ1.cf6
  have zZ := BZ1.1
  go_wp2_with fail
  have hAF := ((HA.out.set6 (z := w.heap.size + 1 + 1) (by simp) (by omega) (base' := w.heap.size) (by simp <;> omega) (.slice a0 n0 c0) (.slice a1 n1 c1) (.slice a2 n2 c2) (.slice a3 n3 c3) (.int .i64 m) (.int .i64 n)).below ((Below.refl _ _).alloc (Nat.le_refl _) (.cells #[.slice a0 n0 c0, .slice a1 n1 c1, .slice a2 n2 c2, .slice a3 n3 c3, .int .i64 m, .int .i64 n] 30))).below ((Below.refl _ _).alloc (Nat.le_refl _) (.cells #[.int .i64 q.port, .string q.data, .int .i64 q.badge, .int .i64 q.writ] 52))
  obtain ⟨y0, y1, y2, y3, y4, y5⟩ := (((BZ1.put6 (.slice a0 n0 c0) (.slice a1 n1 c1) (.slice a2 n2 c2) (.slice a3 n3 c3) (.int .i64 m) (.int .i64 n)).alloc (.cells #[.slice a0 n0 c0, .slice a1 n1 c1, .slice a2 n2 c2, .slice a3 n3 c3, .int .i64 m, .int .i64 n] 30)).alloc (.cells #[.int .i64 q.port, .string q.data, .int .i64 q.badge, .int .i64 q.writ] 52)).six
  have blF := (((below_set6 bl1 (b := w.heap.size + 1 + 1) (by omega) (.slice a0 n0 c0) (.slice a1 n1 c1) (.slice a2 n2 c2) (.slice a3 n3 c3) (.int .i64 m) (.int .i64 n)).alloc (below_set6 bl1 (b := w.heap.size + 1 + 1) (by omega) (.slice a0 n0 c0) (.slice a1 n1 c1) (.slice a2 n2 c2) (.slice a3 n3 c3) (.int .i64 m) (.int .i64 n)).size (.cells #[.slice a0 n0 c0, .slice a1 n1 c1, .slice a2 n2 c2, .slice a3 n3 c3, .int .i64 m, .int .i64 n] 30)).alloc ((below_set6 bl1 (b := w.heap.size + 1 + 1) (by omega) (.slice a0 n0 c0) (.slice a1 n1 c1) (.slice a2 n2 c2) (.slice a3 n3 c3) (.int .i64 m) (.int .i64 n)).alloc (below_set6 bl1 (b := w.heap.size + 1 + 1) (by omega) (.slice a0 n0 c0) (.slice a1 n1 c1) (.slice a2 n2 c2) (.slice a3 n3 c3) (.int .i64 m) (.int .i64 n)).size (.cells #[.slice a0 n0 c0, .slice a1 n1 c1, .slice a2 n2 c2, .slice a3 n3 c3, .int .i64 m, .int .i64 n] 30)).size (.cells #[.int .i64 q.port, .string q.data, .int .i64 q.badge, .int .i64 q.writ] 52))
  refine bodyPost_ret (v := .tuple #[.agg #[.slice a0 n0 c0, .slice a1 n1 c1, .slice a2 n2 c2, .slice a3 n3 c3, .int .i64 m, .int .i64 n], ev]) (by simp [results, Tryz.results19, go_sem, y0, y1, y2, y3, y4, y5]) rfl ?_
  exact ⟨a0, a1, a2, a3, n0, n1, n2, n3, c0, c1, c2, c3, m, n, ev, rfl, hAF, blF⟩
set_option maxHeartbeats 2000000 in
set_option maxRecDepth 100000 in
theorem do_none (aw at_ ah an : Option Addr) (cw ct ch cn : Nat) (r : Rm) (kd sd : ByteArray) (ph ps qh qs aa bb nn kk : Int) (xc : Option Addr) (lc cc : Nat) (w : World) (k0 : (kd.toList == [109, 97, 107, 101]) = false) (k1 : (kd.toList == [103, 105, 118, 101]) = false) (k2 : (kd.toList == [109, 111, 118, 101]) = false) (k3 : (kd.toList == [100, 114, 111, 112]) = false) (k4 : (kd.toList == [114, 101, 118, 111, 107, 101]) = false) (k5 : (kd.toList == [119, 114, 105, 116, 101]) = false) (k6 : (kd.toList == [115, 101, 110, 100]) = false) (k7 : (kd.toList == [116, 97, 107, 101]) = false) :
    Calls Tryz.prog 19 #[.agg #[.slice aw r.ws.length cw, .slice at_ r.ts.length ct, .slice ah r.hs.length ch, .slice an r.ns.length cn, .int .i64 r.nw, .int .i64 r.nt], .agg #[.string kd, .string sd, .int .i64 ph, .int .i64 ps, .int .i64 qh, .int .i64 qs, .int .i64 aa, .int .i64 bb, .int .i64 nn, .int .u64 kk, .slice xc lc cc]] w fun e w' => e = .returned (.tuple #[.agg #[.slice aw r.ws.length cw, .slice at_ r.ts.length ct, .slice ah r.hs.length ch, .slice an r.ns.length cn, .int .i64 r.nw, .int .i64 r.nt], .nilIface]) ∧ Below w.heap.size w w' := by
  obtain ⟨BR0, BA0, BZ0, bl0⟩ := boxes3 w [.slice aw r.ws.length cw, .slice at_ r.ts.length ct, .slice ah r.hs.length ch, .slice an r.ns.length cn, .int .i64 r.nw, .int .i64 r.nt] 30 [.string kd, .string sd, .int .i64 ph, .int .i64 ps, .int .i64 qh, .int .i64 qs, .int .i64 aa, .int .i64 bb, .int .i64 nn, .int .u64 kk, .slice xc lc cc] 37 [.slice none 0 0, .slice none 0 0, .slice none 0 0, .slice none 0 0, .int .i64 0, .int .i64 0] 30
  go_enter Tryz.func19, Tryz.ntmps19
  go_wp2_with fail
  exact bodyPost_ret (v := .tuple #[.agg #[.slice aw r.ws.length cw, .slice at_ r.ts.length ct, .slice ah r.hs.length ch, .slice an r.ns.length cn, .int .i64 r.nw, .int .i64 r.nt], .nilIface]) (by simp [results, Tryz.results19, go_sem]) rfl ⟨rfl, (((Below.refl w.heap.size w).alloc (Nat.le_refl _) _).alloc (by simp) _).alloc (by simp <;> omega) _⟩
end Go.Proofs.YtddgpgldbekamaaGreat
