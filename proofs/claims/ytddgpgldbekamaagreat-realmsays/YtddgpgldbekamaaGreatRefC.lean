/- The document's added, walked. -/
/- The document's Moved, walked (E3). -/
/- The document's Given and Made, walked (E2, E3). -/
/- The document's Made, walked (E2). -/
/- The document's Written, walked (F1). -/
import Derived.Test.YtddgpgldbekamaaGreatRefB
import Derived.Test.YtddgpgldbekamaaGreatCopyOfW
import Derived.Test.YtddgpgldbekamaaGreatAddW
import Derived.Test.YtddgpgldbekamaaGreatEncW
import Derived.Test.YtddgpgldbekamaaGreatMakeW
import Derived.Test.YtddgpgldbekamaaGreatSweepA
import Derived.Test.YtddgpgldbekamaaGreatWriteW
set_option linter.unusedVariables false
set_option linter.unusedSimpArgs false
set_option linter.unnecessarySimpa false
namespace Go.Proofs.YtddgpgldbekamaaGreat
open Go.RowKit

theorem six_fi {w : World} {b : Nat} {a0 a1 a2 a3 a4 a5 : Value} (h : Bx w b [a0, a1, a2, a3, a4, a5]) : w.cell? ⟨b, 0, none⟩ = some a0 ∧ w.frozen? ⟨b, 0, none⟩ = false ∧ w.cell? ⟨b, 1, none⟩ = some a1 ∧ w.frozen? ⟨b, 1, none⟩ = false ∧ w.cell? ⟨b, 2, none⟩ = some a2 ∧ w.frozen? ⟨b, 2, none⟩ = false ∧ w.cell? ⟨b, 3, none⟩ = some a3 ∧ w.frozen? ⟨b, 3, none⟩ = false ∧ w.cell? ⟨b, 4, none⟩ = some a4 ∧ w.frozen? ⟨b, 4, none⟩ = false ∧ w.cell? ⟨b, 5, none⟩ = some a5 ∧ w.frozen? ⟨b, 5, none⟩ = false :=
  ⟨(h.2 0 _ rfl).1, (h.2 0 _ rfl).2, (h.2 1 _ rfl).1, (h.2 1 _ rfl).2, (h.2 2 _ rfl).1, (h.2 2 _ rfl).2, (h.2 3 _ rfl).1, (h.2 3 _ rfl).2, (h.2 4 _ rfl).1, (h.2 4 _ rfl).2, (h.2 5 _ rfl).1, (h.2 5 _ rfl).2⟩
theorem new5' (w : World) {n : Nat} (hn : w.heap.size = n) (t : TypeId) (x y z u v : Value) : ∀ j q, [x, y, z, u, v][j]? = some q → (w.alloc (.cells #[x, y, z, u, v] t)).cell? ((⟨n, 0, none⟩ : Addr).add j) = some q := by
  subst hn
  exact new5 w t x y z u v
set_option maxHeartbeats 8000000 in
set_option maxRecDepth 100000 in
theorem radded_any (aw at_ ah an : Option Addr) (cw ct ch cn : Nat) (r : Rm) (x : Wr) (w : World) (hr : RmAt w aw at_ ah an cw ct ch cn r) (hz : RmSz r) :
    Calls Tryz.prog 96 #[.agg #[.slice aw r.ws.length cw, .slice at_ r.ts.length ct, .slice ah r.hs.length ch, .slice an r.ns.length cn, .int .i64 r.nw, .int .i64 r.nt], .agg #[.int .i64 x.id, .int .i64 x.thing, .int .i64 x.rights, .int .i64 x.badge, .int .i64 x.frm]] w fun e w' => ∃ v0 v1 v2 v3, e = .returned (.agg #[v0, v1, v2, v3, .int .i64 (r.nw + 1), .int .i64 r.nt]) ∧ OwnsR w' w.heap.size v0 v1 v2 v3 ⟨r.ws ++ [x], r.ts, r.hs, r.ns, r.nw + 1, r.nt⟩ ∧ Below w.heap.size w w' := by
  obtain ⟨i0, hi, hi0, hi1, hi2⟩ := info_parts infoWrit
  have nw1 := hz.nw.1
  have nw2 := hz.nw.2
  have mw := hz.w
  obtain ⟨BR0, BX0, BZ0, bl0⟩ := boxes3 w [.slice aw r.ws.length cw, .slice at_ r.ts.length ct, .slice ah r.hs.length ch, .slice an r.ns.length cn, .int .i64 r.nw, .int .i64 r.nt] 30 [.int .i64 x.id, .int .i64 x.thing, .int .i64 x.rights, .int .i64 x.badge, .int .i64 x.frm] 39 [.slice none 0 0, .slice none 0 0, .slice none 0 0, .slice none 0 0, .int .i64 0, .int .i64 0] 30
  have tg0 : RTag (((w.alloc (.cells #[.slice aw r.ws.length cw, .slice at_ r.ts.length ct, .slice ah r.hs.length ch, .slice an r.ns.length cn, .int .i64 r.nw, .int .i64 r.nt] 30)).alloc (.cells #[.int .i64 x.id, .int .i64 x.thing, .int .i64 x.rights, .int .i64 x.badge, .int .i64 x.frm] 39)).alloc (.cells #[.slice none 0 0, .slice none 0 0, .slice none 0 0, .slice none 0 0, .int .i64 0, .int .i64 0] 30)) w.heap.size := ((RTag.new w #[.slice aw r.ws.length cw, .slice at_ r.ts.length ct, .slice ah r.hs.length ch, .slice an r.ns.length cn, .int .i64 r.nw, .int .i64 r.nt]).below ((Below.refl _ _).alloc (Nat.le_refl _) _)).below ((Below.refl _ _).alloc (Nat.le_refl _) _)
  have hcon := fun W h => copyOf_own aw at_ ah an cw ct ch cn r W h hz
  obtain ⟨c0, f0, c1, f1, c2, f2, c3, f3, c4, f4, c5, f5⟩ := six_fi BR0
  have zz := BR0.1
  go_enter Tryz.func96, Tryz.ntmps96
  go_wp2_with fail
  refine (hcon _ (hr.below bl0)).mono ?_
  rintro e w1 ⟨b0, b1, b2, b3, d0, d1, d2, d3, rfl, hO, hb1⟩
  clear hcon c0 f0 c1 f1 c2 f2 c3 f3 c4 f4 c5 f5 zz hr hz
  replace hO := hO.mono (base' := w.heap.size + 1 + 1 + 1) (by simp)
  have BR1 := BR0.below hb1
  have BX1 := BX0.below hb1
  have BZ1 := BZ0.below hb1
  have bl1 := Below_after bl0 hb1
  have hw1 : w.heap.size + 1 + 1 + 1 ≤ w1.heap.size := by have := BZ1.1; omega
  clear BR0 BX0 BZ0 bl0 tg0 hb1
  obtain ⟨V6, e6⟩ : ∃ V, ((((((w1.setCell ⟨w.heap.size, 0, none⟩ (.slice b0 r.ws.length d0)).setCell ⟨w.heap.size, 1, none⟩ (.slice b1 r.ts.length d1)).setCell ⟨w.heap.size, 2, none⟩ (.slice b2 r.hs.length d2)).setCell ⟨w.heap.size, 3, none⟩ (.slice b3 r.ns.length d3)).setCell ⟨w.heap.size, 4, none⟩ (.int .i64 r.nw)).setCell ⟨w.heap.size, 5, none⟩ (.int .i64 r.nt)) = V := ⟨_, rfl⟩
  have BR6 : Bx V6 w.heap.size [.slice b0 r.ws.length d0, .slice b1 r.ts.length d1, .slice b2 r.hs.length d2, .slice b3 r.ns.length d3, .int .i64 r.nw, .int .i64 r.nt] := by rw [← e6]; exact BR1.put6 _ _ _ _ _ _
  have BX6 : Bx V6 (w.heap.size + 1) [.int .i64 x.id, .int .i64 x.thing, .int .i64 x.rights, .int .i64 x.badge, .int .i64 x.frm] := by rw [← e6]; exact BX1.past6 (by omega) _ _ _ _ _ _
  have BZ6 : Bx V6 (w.heap.size + 1 + 1) [.slice none 0 0, .slice none 0 0, .slice none 0 0, .slice none 0 0, .int .i64 0, .int .i64 0] := by rw [← e6]; exact BZ1.past6 (by omega) _ _ _ _ _ _
  have hO6 : OwnsR V6 (w.heap.size + 1 + 1 + 1) (.slice b0 r.ws.length d0) (.slice b1 r.ts.length d1) (.slice b2 r.hs.length d2) (.slice b3 r.ns.length d3) r := by rw [← e6]; exact hO.set6 (by omega) _ _ _ _ _ _
  have bl6 : Below w.heap.size w V6 := by rw [← e6]; exact below_set6 bl1 (Nat.le_refl _) _ _ _ _ _ _
  have h6 : V6.heap.size = w1.heap.size := by rw [← e6]; simp
  obtain ⟨c0, f0, c1, f1, c2, f2, c3, f3, c4, f4, c5, f5⟩ := six_fi BR1
  have z1 := BR1.1
  obtain ⟨g0, h0, g1, h1, g2, h2, g3, h3, g4, h4, g5, h5⟩ := six_fi BR6
  have z6 := BR6.1
  obtain ⟨k0, -, k1, -, k2, -, k3, -, k4, -⟩ := zfi BX6
  have zx := BX6.1
  have hgr := hO6.below ((Below.refl _ _).alloc (Nat.le_refl _) (.cells #[.int .i64 x.id, .int .i64 x.thing, .int .i64 x.rights, .int .i64 x.badge, .int .i64 x.frm] 39))
  go_wp2_with (at_builtin; refine wpList_append_own _ rfl _ _ 25 rfl (w.heap.size + 1 + 1 + 1) 39 i0 (.agg #[.int .i64 0, .int .i64 0, .int .i64 0, .int .i64 0, .int .i64 0]) 5 40 Tryz.underlying25 hi hi0 hi1 hi2 rfl (by decide) _ _ _ rfl hgr.rw_ _ 1 1 [.int .i64 x.id, .int .i64 x.thing, .int .i64 x.rights, .int .i64 x.badge, .int .i64 x.frm] rfl rfl (new5' V6 h6 _ _ _ _ _ _) (one5 _ _ _ _ _) ?c3 ?c4 ?c5 ?_)
  case c3 => unfold maxLen; omega
  case c4 => omega
  case c5 => simp; omega
  intro v' w3 hown3' hgrow _
  have BR3 := (BR6.alloc (.cells #[.int .i64 x.id, .int .i64 x.thing, .int .i64 x.rights, .int .i64 x.badge, .int .i64 x.frm] 39)).grown hgrow (fun e => by have := (hO6.rw_.lt _ e.symm).1; omega)
  have BZ3 := (BZ6.alloc (.cells #[.int .i64 x.id, .int .i64 x.thing, .int .i64 x.rights, .int .i64 x.badge, .int .i64 x.frm] 39)).grown hgrow (fun e => by have := (hO6.rw_.lt _ e.symm).1; omega)
  have bl3 : Below w.heap.size w w3 := (bl6.alloc bl6.size _).grown hgrow (by have := bl6.size; simp; omega) (fun k hk => by have := (hO6.rw_.lt k hk).1; omega)
  have hown3 := row5_snoc (x := x) hown3'
  obtain ⟨b0', d0', hv, -, -⟩ := wrow_at hown3
  obtain ⟨L, hL⟩ : ∃ L, L = (r.ws ++ [x]).length := ⟨_, rfl⟩
  rw [← hL] at hv
  subst hv
  have hO3 : OwnsR w3 (w.heap.size + 1 + 1 + 1) (.slice b0' L d0') (.slice b1 r.ts.length d1) (.slice b2 r.hs.length d2) (.slice b3 r.ns.length d3) ⟨r.ws ++ [x], r.ts, r.hs, r.ns, r.nw + 1, r.nt⟩ := OwnsR.of4 hown3 (Dist.kept hgr.rt hgrow hgr.d01.symm) (Dist.kept hgr.rh hgrow hgr.d02.symm) (Dist.kept hgr.rn hgrow hgr.d03.symm)
  clear hown3' hown3 hgrow hgr hO6 BR6 BX6 BZ6 bl6 h6 e6 c0 f0 c1 f1 c2 f2 c3 f3 c4 f4 c5 f5 z1 g0 h0 g1 h1 g2 h2 g3 h3 g4 h4 g5 h5 z6 k0 k1 k2 k3 k4 zx BR1 BX1 BZ1 bl1 hO hw1 hL
  obtain ⟨V7, e7⟩ : ∃ V, w3.setCell ⟨w.heap.size, 0, none⟩ (.slice b0' L d0') = V := ⟨_, rfl⟩
  have BR7 : Bx V7 w.heap.size [.slice b0' L d0', .slice b1 r.ts.length d1, .slice b2 r.hs.length d2, .slice b3 r.ns.length d3, .int .i64 r.nw, .int .i64 r.nt] := by rw [← e7]; exact BR3.set 0 _
  have BZ7 : Bx V7 (w.heap.size + 1 + 1) [.slice none 0 0, .slice none 0 0, .slice none 0 0, .slice none 0 0, .int .i64 0, .int .i64 0] := by rw [← e7]; exact BZ3.other (by omega) 0 _
  have bl7 : Below w.heap.size w V7 := by rw [← e7]; exact bl3.setCell (p := ⟨w.heap.size, 0, none⟩) (Nat.le_refl _) _
  have hO7 : OwnsR V7 (w.heap.size + 1 + 1 + 1) (.slice b0' L d0') (.slice b1 r.ts.length d1) (.slice b2 r.hs.length d2) (.slice b3 r.ns.length d3) ⟨r.ws ++ [x], r.ts, r.hs, r.ns, r.nw + 1, r.nt⟩ := by rw [← e7]; exact hO3.setLow (by omega) 0 _
  obtain ⟨V8, e8⟩ : ∃ V, V7.setCell ⟨w.heap.size, 4, none⟩ (.int .i64 (r.nw + 1)) = V := ⟨_, rfl⟩
  have BR8 : Bx V8 w.heap.size [.slice b0' L d0', .slice b1 r.ts.length d1, .slice b2 r.hs.length d2, .slice b3 r.ns.length d3, .int .i64 (r.nw + 1), .int .i64 r.nt] := by rw [← e8]; exact BR7.set 4 _
  have BZ8 : Bx V8 (w.heap.size + 1 + 1) [.slice none 0 0, .slice none 0 0, .slice none 0 0, .slice none 0 0, .int .i64 0, .int .i64 0] := by rw [← e8]; exact BZ7.other (by omega) 4 _
  have bl8 : Below w.heap.size w V8 := by rw [← e8]; exact bl7.setCell (p := ⟨w.heap.size, 4, none⟩) (Nat.le_refl _) _
  have hO8 : OwnsR V8 (w.heap.size + 1 + 1 + 1) (.slice b0' L d0') (.slice b1 r.ts.length d1) (.slice b2 r.hs.length d2) (.slice b3 r.ns.length d3) ⟨r.ws ++ [x], r.ts, r.hs, r.ns, r.nw + 1, r.nt⟩ := by rw [← e8]; exact hO7.setLow (by omega) 4 _
  have hO9 := (hO8.set6 (b := w.heap.size + 1 + 1) (by omega) (.slice b0' L d0') (.slice b1 r.ts.length d1) (.slice b2 r.hs.length d2) (.slice b3 r.ns.length d3) (.int .i64 (r.nw + 1)) (.int .i64 r.nt)).mono (base' := w.heap.size) (by omega)
  have bl9 := below_set6 bl8 (b := w.heap.size + 1 + 1) (by omega) (.slice b0' L d0') (.slice b1 r.ts.length d1) (.slice b2 r.hs.length d2) (.slice b3 r.ns.length d3) (.int .i64 (r.nw + 1)) (.int .i64 r.nt)
  have y9 := (BZ8.put6 (.slice b0' L d0') (.slice b1 r.ts.length d1) (.slice b2 r.hs.length d2) (.slice b3 r.ns.length d3) (.int .i64 (r.nw + 1)) (.int .i64 r.nt)).six
  obtain ⟨c0, f0, c1, f1, c2, f2, c3, f3, c4, f4, c5, f5⟩ := six_fi BR3
  have z1 := BR3.1
  have g4 := (BR7.2 4 _ rfl).1
  have h4 := (BR7.2 4 _ rfl).2
  have z7 := BR7.1
  obtain ⟨k0, -, k1, -, k2, -, k3, -, k4, -, k5, -⟩ := six_fi BR8
  obtain ⟨m0, n0, m1, n1, m2, n2, m3, n3, m4, n4, m5, n5⟩ := six_fi BZ8
  have z8 := BR8.1
  have z9 := BZ8.1
  clear BR3 BZ3 bl3 hO3 BR7 BZ7 bl7 hO7 BR8 BZ8 bl8 hO8
  have HO : Hid (OwnsR _ _ _ _ _ _ _ ∧ Below _ _ _) := ⟨hO9, bl9⟩
  clear hO9 bl9
  go_wp2_with fail
  obtain ⟨y0, y1, y2, y3, y4, y5⟩ := y9
  exact bodyPost_ret (v := .agg #[.slice b0' L d0', .slice b1 r.ts.length d1, .slice b2 r.hs.length d2, .slice b3 r.ns.length d3, .int .i64 (r.nw + 1), .int .i64 r.nt]) (by simp [results, Tryz.results96, go_sem, y0, y1, y2, y3, y4, y5]) rfl ⟨_, _, _, _, rfl, HO.out.1, HO.out.2⟩
end Go.Proofs.YtddgpgldbekamaaGreat
set_option linter.unusedSimpArgs false
set_option linter.unnecessarySimpa false
set_option linter.unusedVariables false
namespace Go.Proofs.YtddgpgldbekamaaGreat
open Go.RowKit

theorem freeC_pos (r : Rm) (h s : Int) : 0 ≤ freeC r h s := by
  unfold freeC
  split
  · split <;> omega
  · omega
/-- PutAt, its answer a list of its own -/
theorem putAt_row (a : Option Addr) (c : Nat) (l : List Hd) (h s id : Int) (w : World) (hw : HdsAt w a l) (hm : l.length ≤ 100) (hg : Good l) (H : Nat) (hH : (putL l h s id).length = H) :
    Calls Tryz.prog 74 #[.slice a l.length c, .agg #[.int .i64 h, .int .i64 s], .int .i64 id] w
      fun e w' => ∃ a' c', e = .returned (.slice a' H c') ∧ w'.ownsRow w.heap.size 93 3 (.slice a' H c') (putL l h s id).length ((putL l h s id).flatMap hcells) ∧ Below w.heap.size w w' := by
  subst hH
  rcases hw with rfl | ⟨b, o, rfl, hb, hx⟩
  · refine (putAt_nil a c h s id w).mono ?_
    rintro e w1 ⟨v, rfl, hrow, hbl⟩
    obtain ⟨a', c', rfl, -, -⟩ := hrow_at hrow
    exact ⟨a', c', rfl, ownsRow_mono hrow (by omega), hbl⟩
  · refine (putAt_some b o c l h s id w hx hb hm).mono ?_
    rintro e w1 ⟨v, rfl, hrow, hbl⟩
    rw [pa_putL h s id l (good_rise hg)] at hrow
    obtain ⟨a', c', rfl, -, -⟩ := hrow_at hrow
    exact ⟨a', c', rfl, ownsRow_mono hrow (by omega), hbl⟩
set_option maxHeartbeats 4000000 in
set_option maxRecDepth 100000 in
theorem rmoved_get (aw at_ ah an : Option Addr) (cw ct ch cn : Nat) (r : Rm) (h s t : Int) (w : World) (hr : RmAt w aw at_ ah an cw ct ch cn r) (hz : RmSz r) (hc : getC r h s ≠ 0) (D : Int) (hD : getC r h s = D) :
    Calls Tryz.prog 56 #[.agg #[.slice aw r.ws.length cw, .slice at_ r.ts.length ct, .slice ah r.hs.length ch, .slice an r.ns.length cn, .int .i64 r.nw, .int .i64 r.nt], .agg #[.int .i64 h, .int .i64 s], .int .i64 t] w fun e w' => e = .returned (.tuple #[.agg #[.slice none 0 0, .slice none 0 0, .slice none 0 0, .slice none 0 0, .int .i64 0, .int .i64 0], .int .i64 D]) ∧ Below w.heap.size w w' := by
  obtain ⟨BR0, BP0, BZ0, bl0⟩ := boxes3 w [.slice aw r.ws.length cw, .slice at_ r.ts.length ct, .slice ah r.hs.length ch, .slice an r.ns.length cn, .int .i64 r.nw, .int .i64 r.nt] 30 [.int .i64 h, .int .i64 s] 33 [.slice none 0 0, .slice none 0 0, .slice none 0 0, .slice none 0 0, .int .i64 0, .int .i64 0] 30
  go_enter Tryz.func56, Tryz.ntmps56
  go_wp2_with fail
  refine (rwritAt_any aw at_ ah an cw ct ch cn r h s _ (hr.below bl0) hz).mono ?_
  rintro e w1 ⟨rfl, hb1⟩
  have BR1 := BR0.below hb1
  have BP1 := BP0.below hb1
  have BZ1 := BZ0.below hb1
  have bl1 := Below_after bl0 hb1
  clear BR0 BP0 BZ0 bl0
  have lw1 := BZ1.1
  have hw0 : wAt r h s = zeroW := by unfold wAt; rw [if_neg hc]
  rw [hw0]
  have hd : decide (0 < getC r h s) = true := decide_eq_true (by have := getC_pos r h s; omega)
  clear hc hw0
  rw [hD] at hd ⊢
  clear hD
  obtain ⟨cR0, cR1, cR2, cR3, cR4, cR5⟩ := BR1.c6
  have zR := BR1.1
  obtain ⟨cP0, cP1⟩ := BP1.c2
  have zP := BP1.1
  obtain ⟨cZ0, fZ0, cZ1, fZ1, cZ2, fZ2, cZ3, fZ3, cZ4, fZ4, cZ5, fZ5⟩ := BZ1.cf6
  have zZ := BZ1.1
  go_wp2_with fail
  obtain ⟨y0, y1, y2, y3, y4, y5⟩ := ((BZ1.put6 (.slice none 0 0) (.slice none 0 0) (.slice none 0 0) (.slice none 0 0) (.int .i64 0) (.int .i64 0)).alloc (.cells #[.int .i64 zeroW.id, .int .i64 zeroW.thing, .int .i64 zeroW.rights, .int .i64 zeroW.badge, .int .i64 zeroW.frm] 39)).six
  have blF := ((below_set6 bl1 (b := w.heap.size + 1 + 1) (by omega) (.slice none 0 0) (.slice none 0 0) (.slice none 0 0) (.slice none 0 0) (.int .i64 0) (.int .i64 0)).alloc (below_set6 bl1 (b := w.heap.size + 1 + 1) (by omega) (.slice none 0 0) (.slice none 0 0) (.slice none 0 0) (.slice none 0 0) (.int .i64 0) (.int .i64 0)).size (.cells #[.int .i64 zeroW.id, .int .i64 zeroW.thing, .int .i64 zeroW.rights, .int .i64 zeroW.badge, .int .i64 zeroW.frm] 39))
  refine bodyPost_ret (v := .tuple #[.agg #[.slice none 0 0, .slice none 0 0, .slice none 0 0, .slice none 0 0, .int .i64 0, .int .i64 0], .int .i64 D]) (by simp [results, Tryz.results56, go_sem, y0, y1, y2, y3, y4, y5]) rfl ?_
  exact ⟨rfl, blF⟩
set_option maxHeartbeats 4000000 in
set_option maxRecDepth 100000 in
theorem rmoved_free (aw at_ ah an : Option Addr) (cw ct ch cn : Nat) (r : Rm) (h s t : Int) (w : World) (hr : RmAt w aw at_ ah an cw ct ch cn r) (hz : RmSz r) (x : Wr) (hw0 : wAt r h s = x) (hc : getC r h s = 0) (hf : freeC r h t ≠ 0) (D : Int) (hD : freeC r h t = D) :
    Calls Tryz.prog 56 #[.agg #[.slice aw r.ws.length cw, .slice at_ r.ts.length ct, .slice ah r.hs.length ch, .slice an r.ns.length cn, .int .i64 r.nw, .int .i64 r.nt], .agg #[.int .i64 h, .int .i64 s], .int .i64 t] w fun e w' => e = .returned (.tuple #[.agg #[.slice none 0 0, .slice none 0 0, .slice none 0 0, .slice none 0 0, .int .i64 0, .int .i64 0], .int .i64 D]) ∧ Below w.heap.size w w' := by
  obtain ⟨BR0, BP0, BZ0, bl0⟩ := boxes3 w [.slice aw r.ws.length cw, .slice at_ r.ts.length ct, .slice ah r.hs.length ch, .slice an r.ns.length cn, .int .i64 r.nw, .int .i64 r.nt] 30 [.int .i64 h, .int .i64 s] 33 [.slice none 0 0, .slice none 0 0, .slice none 0 0, .slice none 0 0, .int .i64 0, .int .i64 0] 30
  go_enter Tryz.func56, Tryz.ntmps56
  go_wp2_with fail
  refine (rwritAt_any aw at_ ah an cw ct ch cn r h s _ (hr.below bl0) hz).mono ?_
  rintro e w1 ⟨rfl, hb1⟩
  have BR1 := BR0.below hb1
  have BP1 := BP0.below hb1
  have BZ1 := BZ0.below hb1
  have bl1 := Below_after bl0 hb1
  clear BR0 BP0 BZ0 bl0
  have lw1 := BZ1.1
  rw [hw0, hc]
  clear hw0 hc
  obtain ⟨cR0, cR1, cR2, cR3, cR4, cR5⟩ := BR1.c6
  have zR := BR1.1
  obtain ⟨cP0, cP1⟩ := BP1.c2
  have zP := BP1.1
  obtain ⟨cZ0, cZ1, cZ2, cZ3, cZ4, cZ5⟩ := BZ1.c6
  have zZ := BZ1.1
  go_wp2_with fail
  clear cR0 cR1 cR2 cR3 cR4 cR5 zR cP0 cP1 zP cZ0 cZ1 cZ2 cZ3 cZ4 cZ5 zZ
  have BR2 := BR1.alloc (.cells #[.int .i64 x.id, .int .i64 x.thing, .int .i64 x.rights, .int .i64 x.badge, .int .i64 x.frm] 39)
  have BP2 := BP1.alloc (.cells #[.int .i64 x.id, .int .i64 x.thing, .int .i64 x.rights, .int .i64 x.badge, .int .i64 x.frm] 39)
  have BZ2 := BZ1.alloc (.cells #[.int .i64 x.id, .int .i64 x.thing, .int .i64 x.rights, .int .i64 x.badge, .int .i64 x.frm] 39)
  have bl2 := bl1.alloc bl1.size (.cells #[.int .i64 x.id, .int .i64 x.thing, .int .i64 x.rights, .int .i64 x.badge, .int .i64 x.frm] 39)
  have BX2 := Bx.new w1 [.int .i64 x.id, .int .i64 x.thing, .int .i64 x.rights, .int .i64 x.badge, .int .i64 x.frm] 39
  clear BR1 BP1 BZ1 bl1
  have BR3 := BR2.alloc (.cells #[.int .i64 h, .int .i64 t] 33)
  have BP3 := BP2.alloc (.cells #[.int .i64 h, .int .i64 t] 33)
  have BZ3 := BZ2.alloc (.cells #[.int .i64 h, .int .i64 t] 33)
  have BX3 := BX2.alloc (.cells #[.int .i64 h, .int .i64 t] 33)
  have bl3 := bl2.alloc bl2.size (.cells #[.int .i64 h, .int .i64 t] 33)
  have BQ3 := Bx.new (w1.alloc (.cells #[.int .i64 x.id, .int .i64 x.thing, .int .i64 x.rights, .int .i64 x.badge, .int .i64 x.frm] 39)) [.int .i64 h, .int .i64 t] 33
  rw [show (w1.alloc (.cells #[.int .i64 x.id, .int .i64 x.thing, .int .i64 x.rights, .int .i64 x.badge, .int .i64 x.frm] 39)).heap.size = w1.heap.size + 1 by simp] at BQ3
  clear BR2 BP2 BZ2 BX2 bl2
  generalize hg2 : ((w1.alloc (.cells #[.int .i64 x.id, .int .i64 x.thing, .int .i64 x.rights, .int .i64 x.badge, .int .i64 x.frm] 39)).alloc (.cells #[.int .i64 h, .int .i64 t] 33)) = w2 at BR3 BP3 BZ3 BX3 BQ3 bl3 ⊢
  clear hg2
  have sg2X := BX3.1
  have sg2Q := BQ3.1
  refine (rfreeAt_any aw at_ ah an cw ct ch cn r h t _ (hr.below bl3) hz).mono ?_
  rintro e w3 ⟨rfl, hb3⟩
  have sz3 : w2.heap.size ≤ w3.heap.size := hb3.size
  have BR4 := BR3.below hb3
  have BP4 := BP3.below hb3
  have BZ4 := BZ3.below hb3
  have BX4 := BX3.below hb3
  have BQ4 := BQ3.below hb3
  have bl4 := Below_after bl3 hb3
  clear BR3 BP3 BZ3 BX3 BQ3 bl3
  have lw3 := BZ4.1
  have hd : decide (0 < freeC r h t) = true := decide_eq_true (by have := freeC_pos r h t; omega)
  rw [hD] at hd ⊢
  clear hD hf
  obtain ⟨cR0, cR1, cR2, cR3, cR4, cR5⟩ := BR4.c6
  have zR := BR4.1
  obtain ⟨cP0, cP1⟩ := BP4.c2
  have zP := BP4.1
  obtain ⟨cZ0, fZ0, cZ1, fZ1, cZ2, fZ2, cZ3, fZ3, cZ4, fZ4, cZ5, fZ5⟩ := BZ4.cf6
  have zZ := BZ4.1
  obtain ⟨cX0, cX1, cX2, cX3, cX4⟩ := BX4.c5
  have zX := BX4.1
  obtain ⟨cQ0, cQ1⟩ := BQ4.c2
  have zQ := BQ4.1
  go_wp2_with fail
  obtain ⟨y0, y1, y2, y3, y4, y5⟩ := (BZ4.put6 (.slice none 0 0) (.slice none 0 0) (.slice none 0 0) (.slice none 0 0) (.int .i64 0) (.int .i64 0)).six
  have blF := (below_set6 bl4 (b := w.heap.size + 1 + 1) (by omega) (.slice none 0 0) (.slice none 0 0) (.slice none 0 0) (.slice none 0 0) (.int .i64 0) (.int .i64 0))
  refine bodyPost_ret (v := .tuple #[.agg #[.slice none 0 0, .slice none 0 0, .slice none 0 0, .slice none 0 0, .int .i64 0, .int .i64 0], .int .i64 D]) (by simp [results, Tryz.results56, go_sem, y0, y1, y2, y3, y4, y5]) rfl ?_
  exact ⟨rfl, blF⟩
set_option maxHeartbeats 4000000 in
set_option maxRecDepth 100000 in
theorem rmoved_yes (aw at_ ah an : Option Addr) (cw ct ch cn : Nat) (r : Rm) (h s t : Int) (w : World) (hr : RmAt w aw at_ ah an cw ct ch cn r) (hz : RmSz r) (hg : Good r.hs) (hg2 : Good (putL r.hs h s 0)) (mh2 : (putL r.hs h s 0).length ≤ 100) (x : Wr) (Hx : Hid ((getW r h s) = x)) (hw0 : wAt r h s = x) (hc : getC r h s = 0) (hf : freeC r h t = 0) :
    Calls Tryz.prog 56 #[.agg #[.slice aw r.ws.length cw, .slice at_ r.ts.length ct, .slice ah r.hs.length ch, .slice an r.ns.length cn, .int .i64 r.nw, .int .i64 r.nt], .agg #[.int .i64 h, .int .i64 s], .int .i64 t] w fun e w' => ∃ v0 v1 v2 v3, e = .returned (.tuple #[.agg #[v0, v1, v2, v3, .int .i64 r.nw, .int .i64 r.nt], .int .i64 0]) ∧ OwnsR w' w.heap.size v0 v1 v2 v3 (moveR r h s t) ∧ Below w.heap.size w w' := by
  have mh := hz.h
  obtain ⟨H1, hH⟩ : ∃ H, (putL r.hs h s 0).length = H := ⟨_, rfl⟩
  have HH1 : Hid ((putL r.hs h s 0).length = H1) := hH
  clear hH
  obtain ⟨H2, hH⟩ : ∃ H, (putL (putL r.hs h s 0) h t x.id).length = H := ⟨_, rfl⟩
  have HH2 : Hid ((putL (putL r.hs h s 0) h t x.id).length = H2) := hH
  clear hH
  obtain ⟨BR0, BP0, BZ0, bl0⟩ := boxes3 w [.slice aw r.ws.length cw, .slice at_ r.ts.length ct, .slice ah r.hs.length ch, .slice an r.ns.length cn, .int .i64 r.nw, .int .i64 r.nt] 30 [.int .i64 h, .int .i64 s] 33 [.slice none 0 0, .slice none 0 0, .slice none 0 0, .slice none 0 0, .int .i64 0, .int .i64 0] 30
  go_enter Tryz.func56, Tryz.ntmps56
  go_wp2_with fail
  refine (rwritAt_any aw at_ ah an cw ct ch cn r h s _ (hr.below bl0) hz).mono ?_
  rintro e w1 ⟨rfl, hb1⟩
  have BR1 := BR0.below hb1
  have BP1 := BP0.below hb1
  have BZ1 := BZ0.below hb1
  have bl1 := Below_after bl0 hb1
  clear BR0 BP0 BZ0 bl0
  have lw1 := BZ1.1
  rw [hw0, hc]
  clear hw0 hc
  obtain ⟨cR0, cR1, cR2, cR3, cR4, cR5⟩ := BR1.c6
  have zR := BR1.1
  obtain ⟨cP0, cP1⟩ := BP1.c2
  have zP := BP1.1
  obtain ⟨cZ0, cZ1, cZ2, cZ3, cZ4, cZ5⟩ := BZ1.c6
  have zZ := BZ1.1
  go_wp2_with fail
  clear cR0 cR1 cR2 cR3 cR4 cR5 zR cP0 cP1 zP cZ0 cZ1 cZ2 cZ3 cZ4 cZ5 zZ
  have BR2 := BR1.alloc (.cells #[.int .i64 x.id, .int .i64 x.thing, .int .i64 x.rights, .int .i64 x.badge, .int .i64 x.frm] 39)
  have BP2 := BP1.alloc (.cells #[.int .i64 x.id, .int .i64 x.thing, .int .i64 x.rights, .int .i64 x.badge, .int .i64 x.frm] 39)
  have BZ2 := BZ1.alloc (.cells #[.int .i64 x.id, .int .i64 x.thing, .int .i64 x.rights, .int .i64 x.badge, .int .i64 x.frm] 39)
  have bl2 := bl1.alloc bl1.size (.cells #[.int .i64 x.id, .int .i64 x.thing, .int .i64 x.rights, .int .i64 x.badge, .int .i64 x.frm] 39)
  have BX2 := Bx.new w1 [.int .i64 x.id, .int .i64 x.thing, .int .i64 x.rights, .int .i64 x.badge, .int .i64 x.frm] 39
  clear BR1 BP1 BZ1 bl1
  have BR3 := BR2.alloc (.cells #[.int .i64 h, .int .i64 t] 33)
  have BP3 := BP2.alloc (.cells #[.int .i64 h, .int .i64 t] 33)
  have BZ3 := BZ2.alloc (.cells #[.int .i64 h, .int .i64 t] 33)
  have BX3 := BX2.alloc (.cells #[.int .i64 h, .int .i64 t] 33)
  have bl3 := bl2.alloc bl2.size (.cells #[.int .i64 h, .int .i64 t] 33)
  have BQ3 := Bx.new (w1.alloc (.cells #[.int .i64 x.id, .int .i64 x.thing, .int .i64 x.rights, .int .i64 x.badge, .int .i64 x.frm] 39)) [.int .i64 h, .int .i64 t] 33
  rw [show (w1.alloc (.cells #[.int .i64 x.id, .int .i64 x.thing, .int .i64 x.rights, .int .i64 x.badge, .int .i64 x.frm] 39)).heap.size = w1.heap.size + 1 by simp] at BQ3
  clear BR2 BP2 BZ2 BX2 bl2
  generalize hg2 : ((w1.alloc (.cells #[.int .i64 x.id, .int .i64 x.thing, .int .i64 x.rights, .int .i64 x.badge, .int .i64 x.frm] 39)).alloc (.cells #[.int .i64 h, .int .i64 t] 33)) = w2 at BR3 BP3 BZ3 BX3 BQ3 bl3 ⊢
  clear hg2
  have sg2X := BX3.1
  have sg2Q := BQ3.1
  refine (rfreeAt_any aw at_ ah an cw ct ch cn r h t _ (hr.below bl3) hz).mono ?_
  rintro e w3 ⟨rfl, hb3⟩
  have sz3 : w2.heap.size ≤ w3.heap.size := hb3.size
  have BR4 := BR3.below hb3
  have BP4 := BP3.below hb3
  have BZ4 := BZ3.below hb3
  have BX4 := BX3.below hb3
  have BQ4 := BQ3.below hb3
  have bl4 := Below_after bl3 hb3
  clear BR3 BP3 BZ3 BX3 BQ3 bl3
  have lw3 := BZ4.1
  rw [hf]
  clear hf
  obtain ⟨cR0, cR1, cR2, cR3, cR4, cR5⟩ := BR4.c6
  have zR := BR4.1
  obtain ⟨cP0, cP1⟩ := BP4.c2
  have zP := BP4.1
  obtain ⟨cZ0, cZ1, cZ2, cZ3, cZ4, cZ5⟩ := BZ4.c6
  have zZ := BZ4.1
  obtain ⟨cX0, cX1, cX2, cX3, cX4⟩ := BX4.c5
  have zX := BX4.1
  obtain ⟨cQ0, cQ1⟩ := BQ4.c2
  have zQ := BQ4.1
  go_wp2_with fail
  clear cR0 cR1 cR2 cR3 cR4 cR5 zR cP0 cP1 zP cZ0 cZ1 cZ2 cZ3 cZ4 cZ5 zZ cX0 cX1 cX2 cX3 cX4 zX cQ0 cQ1 zQ
  have hs1 : w.heap.size ≤ w3.heap.size := bl4.size
  have hlow := BZ4.1
  refine (copyOf_own aw at_ ah an cw ct ch cn r _ (hr.below bl4) hz).mono ?_
  rintro e w4 ⟨b0, b1, b2, b3, d0, d1, d2, d3, rfl, hO, hb4⟩
  have sz4 : w3.heap.size ≤ w4.heap.size := hb4.size
  have BR5 := BR4.below hb4
  have BP5 := BP4.below hb4
  have BZ5 := BZ4.below hb4
  have BX5 := BX4.below hb4
  have BQ5 := BQ4.below hb4
  have bl5 := Below_after bl4 hb4
  clear BR4 BP4 BZ4 BX4 BQ4 bl4
  have lw4 := BZ5.1
  have O5 := hO
  clear hO hr hz
  obtain ⟨w5, e5⟩ : ∃ V, ((((((w4.setCell ⟨w.heap.size, 0, none⟩ (.slice b0 r.ws.length d0)).setCell ⟨w.heap.size, 1, none⟩ (.slice b1 r.ts.length d1)).setCell ⟨w.heap.size, 2, none⟩ (.slice b2 r.hs.length d2)).setCell ⟨w.heap.size, 3, none⟩ (.slice b3 r.ns.length d3)).setCell ⟨w.heap.size, 4, none⟩ (.int .i64 r.nw)).setCell ⟨w.heap.size, 5, none⟩ (.int .i64 r.nt)) = V := ⟨_, rfl⟩
  have BR6 : Bx w5 (w.heap.size) [.slice b0 r.ws.length d0, .slice b1 r.ts.length d1, .slice b2 r.hs.length d2, .slice b3 r.ns.length d3, .int .i64 r.nw, .int .i64 r.nt] := by rw [← e5]; exact BR5.put6 _ _ _ _ _ _
  have BP6 := BP5.past6 (b' := w.heap.size) (by omega) (.slice b0 r.ws.length d0) (.slice b1 r.ts.length d1) (.slice b2 r.hs.length d2) (.slice b3 r.ns.length d3) (.int .i64 r.nw) (.int .i64 r.nt)
  rw [e5] at BP6
  have BZ6 := BZ5.past6 (b' := w.heap.size) (by omega) (.slice b0 r.ws.length d0) (.slice b1 r.ts.length d1) (.slice b2 r.hs.length d2) (.slice b3 r.ns.length d3) (.int .i64 r.nw) (.int .i64 r.nt)
  rw [e5] at BZ6
  have BX6 := BX5.past6 (b' := w.heap.size) (by omega) (.slice b0 r.ws.length d0) (.slice b1 r.ts.length d1) (.slice b2 r.hs.length d2) (.slice b3 r.ns.length d3) (.int .i64 r.nw) (.int .i64 r.nt)
  rw [e5] at BX6
  have BQ6 := BQ5.past6 (b' := w.heap.size) (by omega) (.slice b0 r.ws.length d0) (.slice b1 r.ts.length d1) (.slice b2 r.hs.length d2) (.slice b3 r.ns.length d3) (.int .i64 r.nw) (.int .i64 r.nt)
  rw [e5] at BQ6
  have O6 := O5.set6 (b := w.heap.size) (by omega) (.slice b0 r.ws.length d0) (.slice b1 r.ts.length d1) (.slice b2 r.hs.length d2) (.slice b3 r.ns.length d3) (.int .i64 r.nw) (.int .i64 r.nt)
  rw [e5] at O6
  have bl6 := below_set6 bl5 (b := w.heap.size) (by omega) (.slice b0 r.ws.length d0) (.slice b1 r.ts.length d1) (.slice b2 r.hs.length d2) (.slice b3 r.ns.length d3) (.int .i64 r.nw) (.int .i64 r.nt)
  rw [e5] at bl6
  have hsw5 : w5.heap.size = w4.heap.size := by rw [← e5]; simp
  obtain ⟨o0, g0, o1, g1, o2, g2, o3, g3, o4, g4, o5, g5⟩ := BR5.cf6
  have zo := BR5.1
  obtain ⟨cR0, cR1, cR2, cR3, cR4, cR5⟩ := BR6.c6
  have zR := BR6.1
  have HOs : Hid (OwnsR _ _ _ _ _ _ _) := O6
  have HS : Hid (Bx _ _ _ ∧ Bx _ _ _ ∧ Bx _ _ _ ∧ Bx _ _ _ ∧ Below _ _ _) := ⟨BP6, BQ6, BX6, BZ6, bl6⟩
  have HR : Hid (Bx _ _ _) := BR6
  clear BR5 BR6 BP5 BP6 BZ5 BZ6 BX5 BX6 BQ5 BQ6 O5 O6 bl5 bl6
  go_wp2_with fail
  obtain ⟨SP, SQ, SX, BZv, blv⟩ := HS.out
  refine wp_region_held_drew (S := fun w' => Bx w' (w.heap.size + 1) [.int .i64 h, .int .i64 s] ∧ Bx w' (w1.heap.size + 1) [.int .i64 h, .int .i64 t] ∧ Bx w' (w1.heap.size) [.int .i64 x.id, .int .i64 x.thing, .int .i64 x.rights, .int .i64 x.badge, .int .i64 x.frm]) (by kernel_rfl) ?_ (fun hHeld => ?_)
  · exact ⟨SP.below (below_drewN (Below.refl _ _) 1), SQ.below (below_drewN (Below.refl _ _) 1), SX.below (below_drewN (Below.refl _ _) 1)⟩
  refine tkI 0 (.pointer (some ⟨w.heap.size, 2, none⟩)) rfl ?_
  refine tkJ 2 (.agg #[.int .i64 h, .int .i64 s]) rfl (by intro w hSw; have z := (hSw.1.2 0 _ rfl).1; have z' := (hSw.1.2 1 _ rfl).1; clear hSw; go_simp) ?_
  refine tkJ 4 (.agg #[.int .i64 h, .int .i64 t]) rfl (by intro w hSw; have z := (hSw.2.1.2 0 _ rfl).1; have z' := (hSw.2.1.2 1 _ rfl).1; clear hSw; go_simp) ?_
  refine tkI 5 (.pointer (some ⟨w1.heap.size, 0, none⟩)) rfl ?_
  refine tkJ 6 (.int .i64 x.id) rfl (by intro w hSw; have z := (hSw.2.2.2 0 _ rfl).1; clear hSw; go_simp) ?_
  refine rdI 1 rfl (fun K hK => ?_)
  go_wp2_with fail
  refine hK.out _ _ ?_ (fun hHeld => ?_)
  · assumption
  clear hK K
  have bd0 : Below w5.heap.size w5 w5.drew := below_drewN (Below.refl _ _) 1
  have hO0 := HOs.out.below bd0
  refine rdI 3 rfl (fun K hK => ?_)
  go_wp2_with (go_at_call 74; refine (putAt_row b2 d2 r.hs h s 0 _ (HdsAt.ofRow hO0.rh).1 mh hg H1 HH1.out).mono ?_; rintro e wP ⟨b2', d2', rfl, hrow, hbP⟩)
  have SP1 := (SP.below bd0).below hbP
  have SQ1 := (SQ.below bd0).below hbP
  have SX1 := (SX.below bd0).below hbP
  refine hK.out _ _ ?_ (fun hHeld => ?_)
  · exact ⟨SP1, SQ1, SX1⟩
  clear hK K
  have bd1 := Below_after bd0 hbP
  obtain ⟨hatP, hnP, -⟩ := HdsAt.ofRow hrow
  have HNP : Hid (H1 = (putL r.hs h s 0).length) := hnP
  clear hnP
  refine rdI 7 rfl (fun K hK => ?_)
  go_wp2_with (go_at_call 74; (have hcon := putAt_row b2' d2' (putL r.hs h s 0) h t x.id _ hatP mh2 hg2 H2 HH2.out); rw [← HNP.out] at hcon; refine hcon.mono ?_; rintro e wR ⟨b2x, d2x, rfl, hrow2, hbR⟩)
  have SP2 := SP1.below hbR
  have SQ2 := SQ1.below hbR
  have SX2 := SX1.below hbR
  refine hK.out _ _ ?_ (fun hHeld => ?_)
  · exact ⟨SP2, SQ2, SX2⟩
  clear hK K
  have bd2 := Below_after bd1 hbR
  have hb4 := HOs.out.rh
  have hOR := (HOs.out.below bd2).put2 hrow2 (by have := bd1.size; omega)
  have BRR := HR.out.below bd2
  have BZR := BZv.below bd2
  have blR := Below_after blv bd2
  have HOR : Hid (OwnsR _ _ _ _ _ _ _) := hOR
  have HBB : Hid (Bx _ _ _ ∧ Bx _ _ _ ∧ Below _ _ _) := ⟨BRR, BZR, blR⟩
  have cR := (BRR.2 2 _ rfl).1
  have fR := (BRR.2 2 _ rfl).2
  have zR2 := BRR.1
  refine tkI 8 (.pointer (some ⟨w.heap.size, 2, none⟩)) rfl ?_
  clear hOR hb4 BRR BZR blR hO0 hrow hrow2 hatP HR HOs HS BZv blv SP SQ SX SP1 SQ1 SX1 bd0 bd1 bd2 hbP hbR
  refine rdI 9 rfl (fun K hK => ?_)
  go_wp2_with fail
  refine hK.out _ _ ?_ (fun hHeld => ?_)
  · exact ⟨SP2.other (by omega) 2 _, SQ2.other (by omega) 2 _, SX2.other (by omega) 2 _⟩
  clear hK K
  refine wpAnyH_done (by kernel_rfl) ?_ _
  clear o0 g0 o1 g1 o2 g2 o3 g3 o4 g4 o5 g5 zo cR0 cR1 cR2 cR3 cR4 cR5 zR
  obtain ⟨BRR, BZR, blR⟩ := HBB.out
  obtain ⟨V9, e9⟩ : ∃ V, wR.setCell ⟨w.heap.size, 2, none⟩ (.slice b2x H2 d2x) = V := ⟨_, rfl⟩
  rw [e9]
  have BR9 : Bx V9 w.heap.size [.slice b0 r.ws.length d0, .slice b1 r.ts.length d1, .slice b2x H2 d2x, .slice b3 r.ns.length d3, .int .i64 r.nw, .int .i64 r.nt] := by rw [← e9]; exact BRR.set 2 _
  have BZ9 : Bx V9 (w.heap.size + 1 + 1) [.slice none 0 0, .slice none 0 0, .slice none 0 0, .slice none 0 0, .int .i64 0, .int .i64 0] := by rw [← e9]; exact BZR.other (by omega) 2 _
  have bl9 : Below w.heap.size w V9 := by rw [← e9]; exact blR.setCell (p := ⟨w.heap.size, 2, none⟩) (Nat.le_refl _) _
  have hO9 := HOR.out.setLow (b := w.heap.size) (by omega) 2 (.slice b2x H2 d2x)
  rw [e9] at hO9
  have HO9 : Hid (OwnsR _ _ _ _ _ _ _) := hO9
  clear hO9 e9 HOR HBB BRR BZR blR cR fR zR2
  obtain ⟨cR0, cR1, cR2, cR3, cR4, cR5⟩ := BR9.c6
  have zR := BR9.1
  obtain ⟨cZ0, fZ0, cZ1, fZ1, cZ2, fZ2, cZ3, fZ3, cZ4, fZ4, cZ5, fZ5⟩ := BZ9.cf6
  have zZ := BZ9.1
  go_wp2_with fail
  obtain ⟨y0, y1, y2, y3, y4, y5⟩ := (BZ9.put6 (.slice b0 r.ws.length d0) (.slice b1 r.ts.length d1) (.slice b2x H2 d2x) (.slice b3 r.ns.length d3) (.int .i64 r.nw) (.int .i64 r.nt)).six
  have blF := (below_set6 bl9 (b := w.heap.size + 1 + 1) (by omega) (.slice b0 r.ws.length d0) (.slice b1 r.ts.length d1) (.slice b2x H2 d2x) (.slice b3 r.ns.length d3) (.int .i64 r.nw) (.int .i64 r.nt))
  refine bodyPost_ret (v := .tuple #[.agg #[.slice b0 r.ws.length d0, .slice b1 r.ts.length d1, .slice b2x H2 d2x, .slice b3 r.ns.length d3, .int .i64 r.nw, .int .i64 r.nt], .int .i64 0]) (by simp [results, Tryz.results56, go_sem, y0, y1, y2, y3, y4, y5]) rfl ?_
  exact ⟨_, _, _, _, rfl, by unfold moveR; rw [Hx.out]; exact (HO9.out.set6 hlow _ _ _ _ _ _).mono hs1, blF⟩
end Go.Proofs.YtddgpgldbekamaaGreat
set_option linter.unusedSimpArgs false
set_option linter.unnecessarySimpa false
set_option linter.unusedVariables false
namespace Go.Proofs.YtddgpgldbekamaaGreat
open Go.RowKit

/-- what an answer of a realm and an error's number is: a realm where the number is 0 -/
def OutP (w w' : World) (e : Ending) (C : Int) (R : Rm) : Prop :=
  (C ≠ 0 ∧ e = .returned (.tuple #[.agg #[.slice none 0 0, .slice none 0 0, .slice none 0 0, .slice none 0 0, .int .i64 0, .int .i64 0], .int .i64 C]) ∨ C = 0 ∧ ∃ a0 a1 a2 a3 c0 c1 c2 c3, e = .returned (.tuple #[.agg #[.slice a0 R.ws.length c0, .slice a1 R.ts.length c1, .slice a2 R.hs.length c2, .slice a3 R.ns.length c3, .int .i64 R.nw, .int .i64 R.nt], .int .i64 0]) ∧ RmAt w' a0 a1 a2 a3 c0 c1 c2 c3 R ∧ HiA w.heap.size a0 ∧ HiA w.heap.size a1 ∧ HiA w.heap.size a2 ∧ HiA w.heap.size a3) ∧ Below w.heap.size w w'
theorem OutP.ok {w w' : World} {C : Int} {R : Rm} {base : Nat} {v0 v1 v2 v3 : Value} (h0 : C = 0) (ho : OwnsR w' base v0 v1 v2 v3 R) (hb : Below w.heap.size w w') (hl : w.heap.size ≤ base := by omega) : OutP w w' (.returned (.tuple #[.agg #[v0, v1, v2, v3, .int .i64 R.nw, .int .i64 R.nt], .int .i64 0])) C R := by
  obtain ⟨a0, a1, a2, a3, c0, c1, c2, c3, rfl, rfl, rfl, rfl, hr⟩ := ho.at
  exact ⟨.inr ⟨h0, a0, a1, a2, a3, c0, c1, c2, c3, rfl, hr, (hi_of_row ho.rw_).mono hl, (hi_of_row ho.rt).mono hl, (hi_of_row ho.rh).mono hl, (hi_of_row ho.rn).mono hl⟩, hb⟩
theorem OwnsR.at4 {w : World} {base : Nat} {v0 v1 v2 v3 : Value} {r : Rm} (h : OwnsR w base v0 v1 v2 v3 r) {L0 L1 L2 L3 : Nat} (h0 : r.ws.length = L0) (h1 : r.ts.length = L1) (h2 : r.hs.length = L2) (h3 : r.ns.length = L3) : ∃ a0 a1 a2 a3 c0 c1 c2 c3, v0 = .slice a0 L0 c0 ∧ v1 = .slice a1 L1 c1 ∧ v2 = .slice a2 L2 c2 ∧ v3 = .slice a3 L3 c3 ∧ RmAt w a0 a1 a2 a3 c0 c1 c2 c3 r := by
  subst h0 h1 h2 h3
  exact h.at
theorem hasB4 (a : Int) (h0 : 0 ≤ a) (h7 : a ≤ 7) : hasB a 4 = false ↔ a < 4 := by
  have : a = 0 ∨ a = 1 ∨ a = 2 ∨ a = 3 ∨ a = 4 ∨ a = 5 ∨ a = 6 ∨ a = 7 := by omega
  rcases this with rfl | rfl | rfl | rfl | rfl | rfl | rfl | rfl <;> decide
theorem derived_any (x : Wr) (id rights badge : Int) (w : World) (xr0 : 0 ≤ x.rights) (xr7 : x.rights ≤ 7) (h : drvCode x rights badge = 0) (y : Wr) (hy : drvW x id rights badge = y) :
    Calls Tryz.prog 97 #[.agg #[.int .i64 x.id, .int .i64 x.thing, .int .i64 x.rights, .int .i64 x.badge, .int .i64 x.frm], .int .i64 id, .int .i64 rights, .int .i64 badge] w fun e w' => e = .returned (.tuple #[.agg #[.int .i64 y.id, .int .i64 y.thing, .int .i64 y.rights, .int .i64 y.badge, .int .i64 y.frm], .int .i64 0]) ∧ Below w.heap.size w w' := by
  subst hy
  by_cases hb : x.badge = 0
  · have := derived_ok0 x id rights badge w xr0 xr7 h hb
    unfold drvW; rw [if_pos hb]; exact this
  · have := derived_ok1 x id rights badge w xr0 xr7 h hb
    unfold drvW; rw [if_neg hb]; exact this
theorem drvCode_pos (x : Wr) (rights badge : Int) : 0 ≤ drvCode x rights badge := by
  unfold drvCode
  repeat' split
  all_goals omega
set_option maxHeartbeats 4000000 in
set_option maxRecDepth 100000 in
theorem rgiven_any (aw at_ ah an : Option Addr) (cw ct ch cn : Nat) (r : Rm) (h s g t rights badge : Int) (w : World) (hr : RmAt w aw at_ ah an cw ct ch cn r) (hz : RmSz r) (hg : Good r.hs) (x y : Wr) (hx : getW r h s = x) (hxr : 0 ≤ x.rights ∧ x.rights ≤ 7) (hy : drvW x r.nw rights badge = y) (C : Int) (HC : Hid (giveC r h s g t rights badge = C)) :
    Calls Tryz.prog 55 #[.agg #[.slice aw r.ws.length cw, .slice at_ r.ts.length ct, .slice ah r.hs.length ch, .slice an r.ns.length cn, .int .i64 r.nw, .int .i64 r.nt], .agg #[.int .i64 h, .int .i64 s], .agg #[.int .i64 g, .int .i64 t], .int .i64 rights, .int .i64 badge] w fun e w' => OutP w w' e C (giveR r h s g t rights badge) := by
  obtain ⟨H1, hH⟩ : ∃ H, (putL r.hs g t y.id).length = H := ⟨_, rfl⟩
  have HH : Hid ((putL r.hs g t y.id).length = H1) := hH
  clear hH
  obtain ⟨R', hR⟩ : ∃ R', giveR r h s g t rights badge = R' := ⟨_, rfl⟩
  have hR' : (⟨r.ws ++ [y], r.ts, putL r.hs g t y.id, r.ns, r.nw + 1, r.nt⟩ : Rm) = R' := by rw [← hR, ← hy, ← hx]; rfl
  rw [hR]
  clear hR
  have hR := hR'
  clear hR'
  obtain ⟨BR0, BP0, BQ0, BZ0, bl0⟩ := boxes4 w [.slice aw r.ws.length cw, .slice at_ r.ts.length ct, .slice ah r.hs.length ch, .slice an r.ns.length cn, .int .i64 r.nw, .int .i64 r.nt] 30 [.int .i64 h, .int .i64 s] 33 [.int .i64 g, .int .i64 t] 33 [.slice none 0 0, .slice none 0 0, .slice none 0 0, .slice none 0 0, .int .i64 0, .int .i64 0] 30
  go_enter Tryz.func55, Tryz.ntmps55
  go_wp2_with fail
  refine (rwritAt_any aw at_ ah an cw ct ch cn r h s _ (hr.below bl0) hz).mono ?_
  rintro e w1 ⟨rfl, hb1⟩
  have BR1 := BR0.below hb1
  have BP1 := BP0.below hb1
  have BQ1 := BQ0.below hb1
  have BZ1 := BZ0.below hb1
  have bl1 := Below_after bl0 hb1
  clear BR0 BP0 BQ0 BZ0 bl0
  have lw1 := BZ1.1
  by_cases hc : getC r h s = 0
  rotate_left
  · have hw0 : wAt r h s = zeroW := by unfold wAt; rw [if_neg hc]
    have hC : getC r h s = C := by rw [← HC.out]; unfold giveC; rw [if_pos hc]
    have hp := getC_pos r h s
    rw [hw0, hC]
    rw [hC] at hc hp
    have hd : decide (0 < C) = true := decide_eq_true (by omega)
    clear hw0 hC hx HC
    obtain ⟨cR0, cR1, cR2, cR3, cR4, cR5⟩ := BR1.c6
    have zR := BR1.1
    obtain ⟨cP0, cP1⟩ := BP1.c2
    have zP := BP1.1
    obtain ⟨cQ0, cQ1⟩ := BQ1.c2
    have zQ := BQ1.1
    obtain ⟨cZ0, fZ0, cZ1, fZ1, cZ2, fZ2, cZ3, fZ3, cZ4, fZ4, cZ5, fZ5⟩ := BZ1.cf6
    have zZ := BZ1.1
    go_wp2_with fail
    obtain ⟨y0, y1, y2, y3, y4, y5⟩ := ((BZ1.put6 (.slice none 0 0) (.slice none 0 0) (.slice none 0 0) (.slice none 0 0) (.int .i64 0) (.int .i64 0)).alloc (.cells #[.int .i64 zeroW.id, .int .i64 zeroW.thing, .int .i64 zeroW.rights, .int .i64 zeroW.badge, .int .i64 zeroW.frm] 39)).six
    have blF := ((below_set6 bl1 (b := w.heap.size + 1 + 1 + 1) (by omega) (.slice none 0 0) (.slice none 0 0) (.slice none 0 0) (.slice none 0 0) (.int .i64 0) (.int .i64 0)).alloc (below_set6 bl1 (b := w.heap.size + 1 + 1 + 1) (by omega) (.slice none 0 0) (.slice none 0 0) (.slice none 0 0) (.slice none 0 0) (.int .i64 0) (.int .i64 0)).size (.cells #[.int .i64 zeroW.id, .int .i64 zeroW.thing, .int .i64 zeroW.rights, .int .i64 zeroW.badge, .int .i64 zeroW.frm] 39))
    refine bodyPost_ret (v := .tuple #[.agg #[.slice none 0 0, .slice none 0 0, .slice none 0 0, .slice none 0 0, .int .i64 0, .int .i64 0], .int .i64 C]) (by simp [results, Tryz.results55, go_sem, y0, y1, y2, y3, y4, y5]) rfl ?_
    exact ⟨.inl ⟨hc, rfl⟩, blF⟩
  have hw0 : wAt r h s = x := by unfold wAt; rw [if_pos hc]; exact hx
  rw [hw0, hc]
  clear hw0
  obtain ⟨cR0, cR1, cR2, cR3, cR4, cR5⟩ := BR1.c6
  have zR := BR1.1
  obtain ⟨cP0, cP1⟩ := BP1.c2
  have zP := BP1.1
  obtain ⟨cQ0, cQ1⟩ := BQ1.c2
  have zQ := BQ1.1
  obtain ⟨cZ0, cZ1, cZ2, cZ3, cZ4, cZ5⟩ := BZ1.c6
  have zZ := BZ1.1
  go_wp2_with fail
  clear cR0 cR1 cR2 cR3 cR4 cR5 zR cP0 cP1 zP cQ0 cQ1 zQ cZ0 cZ1 cZ2 cZ3 cZ4 cZ5 zZ
  have BR2 := BR1.alloc (.cells #[.int .i64 x.id, .int .i64 x.thing, .int .i64 x.rights, .int .i64 x.badge, .int .i64 x.frm] 39)
  have BP2 := BP1.alloc (.cells #[.int .i64 x.id, .int .i64 x.thing, .int .i64 x.rights, .int .i64 x.badge, .int .i64 x.frm] 39)
  have BQ2 := BQ1.alloc (.cells #[.int .i64 x.id, .int .i64 x.thing, .int .i64 x.rights, .int .i64 x.badge, .int .i64 x.frm] 39)
  have BZ2 := BZ1.alloc (.cells #[.int .i64 x.id, .int .i64 x.thing, .int .i64 x.rights, .int .i64 x.badge, .int .i64 x.frm] 39)
  have bl2 := bl1.alloc bl1.size (.cells #[.int .i64 x.id, .int .i64 x.thing, .int .i64 x.rights, .int .i64 x.badge, .int .i64 x.frm] 39)
  have BX2 := Bx.new w1 [.int .i64 x.id, .int .i64 x.thing, .int .i64 x.rights, .int .i64 x.badge, .int .i64 x.frm] 39
  clear BR1 BP1 BQ1 BZ1 bl1
  generalize hg2 : (w1.alloc (.cells #[.int .i64 x.id, .int .i64 x.thing, .int .i64 x.rights, .int .i64 x.badge, .int .i64 x.frm] 39)) = w2 at BR2 BP2 BQ2 BZ2 BX2 bl2 ⊢
  clear hg2
  have sg2X := BX2.1
  refine (rfreeAt_any aw at_ ah an cw ct ch cn r g t _ (hr.below bl2) hz).mono ?_
  rintro e w3 ⟨rfl, hb3⟩
  have sz3 : w2.heap.size ≤ w3.heap.size := hb3.size
  have BR3 := BR2.below hb3
  have BP3 := BP2.below hb3
  have BQ3 := BQ2.below hb3
  have BZ3 := BZ2.below hb3
  have BX3 := BX2.below hb3
  have bl3 := Below_after bl2 hb3
  clear BR2 BP2 BQ2 BZ2 BX2 bl2
  have lw3 := BZ3.1
  by_cases hf : freeC r g t = 0
  rotate_left
  · have hC : freeC r g t = C := by rw [← HC.out]; unfold giveC; rw [if_neg (fun h => h hc), if_pos hf]
    have hp := freeC_pos r g t
    rw [hC]
    rw [hC] at hf hp
    have hd : decide (0 < C) = true := decide_eq_true (by omega)
    clear hC hx HC hc
    obtain ⟨cR0, cR1, cR2, cR3, cR4, cR5⟩ := BR3.c6
    have zR := BR3.1
    obtain ⟨cP0, cP1⟩ := BP3.c2
    have zP := BP3.1
    obtain ⟨cQ0, cQ1⟩ := BQ3.c2
    have zQ := BQ3.1
    obtain ⟨cZ0, fZ0, cZ1, fZ1, cZ2, fZ2, cZ3, fZ3, cZ4, fZ4, cZ5, fZ5⟩ := BZ3.cf6
    have zZ := BZ3.1
    obtain ⟨cX0, cX1, cX2, cX3, cX4⟩ := BX3.c5
    have zX := BX3.1
    go_wp2_with fail
    obtain ⟨y0, y1, y2, y3, y4, y5⟩ := (BZ3.put6 (.slice none 0 0) (.slice none 0 0) (.slice none 0 0) (.slice none 0 0) (.int .i64 0) (.int .i64 0)).six
    have blF := (below_set6 bl3 (b := w.heap.size + 1 + 1 + 1) (by omega) (.slice none 0 0) (.slice none 0 0) (.slice none 0 0) (.slice none 0 0) (.int .i64 0) (.int .i64 0))
    refine bodyPost_ret (v := .tuple #[.agg #[.slice none 0 0, .slice none 0 0, .slice none 0 0, .slice none 0 0, .int .i64 0, .int .i64 0], .int .i64 C]) (by simp [results, Tryz.results55, go_sem, y0, y1, y2, y3, y4, y5]) rfl ?_
    exact ⟨.inl ⟨hf, rfl⟩, blF⟩
  rw [hf]
  have HC2 : Hid ((if ¬ g = h ∧ hasB x.rights 4 = false then 7 else if 999 < r.nw then 9 else drvCode x rights badge) = C) := (show _ = _ from by have h2 : giveC r h s g t rights badge = _ := (if_neg (fun h' => h' hc)).trans (if_neg (fun h' => h' hf)); rw [← hx, ← h2]; exact HC.out)
  clear hf hc HC
  by_cases hq : ¬ g = h ∧ hasB x.rights 4 = false
  · have hC : C = 7 := by rw [← HC2.out, if_pos hq]
    have d1 : (h != g) = true := by simpa using fun e => hq.1 e.symm
    have d2 : decide (x.rights < 4) = true := decide_eq_true ((hasB4 x.rights hxr.1 hxr.2).1 hq.2)
    subst hC
    clear hq HC2 hx
    obtain ⟨cR0, cR1, cR2, cR3, cR4, cR5⟩ := BR3.c6
    have zR := BR3.1
    obtain ⟨cP0, cP1⟩ := BP3.c2
    have zP := BP3.1
    obtain ⟨cQ0, cQ1⟩ := BQ3.c2
    have zQ := BQ3.1
    obtain ⟨cZ0, fZ0, cZ1, fZ1, cZ2, fZ2, cZ3, fZ3, cZ4, fZ4, cZ5, fZ5⟩ := BZ3.cf6
    have zZ := BZ3.1
    obtain ⟨cX0, cX1, cX2, cX3, cX4⟩ := BX3.c5
    have zX := BX3.1
    go_wp2_with fail
    obtain ⟨y0, y1, y2, y3, y4, y5⟩ := (BZ3.put6 (.slice none 0 0) (.slice none 0 0) (.slice none 0 0) (.slice none 0 0) (.int .i64 0) (.int .i64 0)).six
    have blF := (below_set6 bl3 (b := w.heap.size + 1 + 1 + 1) (by omega) (.slice none 0 0) (.slice none 0 0) (.slice none 0 0) (.slice none 0 0) (.int .i64 0) (.int .i64 0))
    refine bodyPost_ret (v := .tuple #[.agg #[.slice none 0 0, .slice none 0 0, .slice none 0 0, .slice none 0 0, .int .i64 0, .int .i64 0], .int .i64 7]) (by simp [results, Tryz.results55, go_sem, y0, y1, y2, y3, y4, y5]) rfl ?_
    exact ⟨.inl ⟨(by decide), rfl⟩, blF⟩
  rw [if_neg hq] at HC2
  have hk : (h != g) = true ∧ decide (x.rights < 4) = false ∨ (h != g) = false := by
    by_cases e : g = h
    · exact .inr (by simp [e])
    · exact .inl ⟨by simpa using fun e' => e e'.symm, decide_eq_false (fun h' => hq ⟨e, (hasB4 x.rights hxr.1 hxr.2).2 h'⟩)⟩
  by_cases h9 : 999 < r.nw
  · rcases hk with ⟨d1, d2⟩ | d1
    all_goals
      have hC : C = 9 := by rw [← HC2.out, if_pos h9]
      have d3 : decide (999 < r.nw) = true := decide_eq_true h9
      subst hC
      clear HC2 hx hq h9
      obtain ⟨cR0, cR1, cR2, cR3, cR4, cR5⟩ := BR3.c6
      have zR := BR3.1
      obtain ⟨cP0, cP1⟩ := BP3.c2
      have zP := BP3.1
      obtain ⟨cQ0, cQ1⟩ := BQ3.c2
      have zQ := BQ3.1
      obtain ⟨cZ0, fZ0, cZ1, fZ1, cZ2, fZ2, cZ3, fZ3, cZ4, fZ4, cZ5, fZ5⟩ := BZ3.cf6
      have zZ := BZ3.1
      obtain ⟨cX0, cX1, cX2, cX3, cX4⟩ := BX3.c5
      have zX := BX3.1
      go_wp2_with fail
      obtain ⟨y0, y1, y2, y3, y4, y5⟩ := (BZ3.put6 (.slice none 0 0) (.slice none 0 0) (.slice none 0 0) (.slice none 0 0) (.int .i64 0) (.int .i64 0)).six
      have blF := (below_set6 bl3 (b := w.heap.size + 1 + 1 + 1) (by omega) (.slice none 0 0) (.slice none 0 0) (.slice none 0 0) (.slice none 0 0) (.int .i64 0) (.int .i64 0))
      refine bodyPost_ret (v := .tuple #[.agg #[.slice none 0 0, .slice none 0 0, .slice none 0 0, .slice none 0 0, .int .i64 0, .int .i64 0], .int .i64 9]) (by simp [results, Tryz.results55, go_sem, y0, y1, y2, y3, y4, y5]) rfl ?_
      exact ⟨.inl ⟨(by decide), rfl⟩, blF⟩
  rw [if_neg h9] at HC2
  have d3 : decide (999 < r.nw) = false := decide_eq_false h9
  rcases hk with ⟨d1, d2⟩ | d1
  all_goals
    obtain ⟨cR0, cR1, cR2, cR3, cR4, cR5⟩ := BR3.c6
    have zR := BR3.1
    obtain ⟨cP0, cP1⟩ := BP3.c2
    have zP := BP3.1
    obtain ⟨cQ0, cQ1⟩ := BQ3.c2
    have zQ := BQ3.1
    obtain ⟨cZ0, cZ1, cZ2, cZ3, cZ4, cZ5⟩ := BZ3.c6
    have zZ := BZ3.1
    obtain ⟨cX0, cX1, cX2, cX3, cX4⟩ := BX3.c5
    have zX := BX3.1
    go_wp2_with fail
    clear cR0 cR1 cR2 cR3 cR4 cR5 zR cP0 cP1 zP cQ0 cQ1 zQ cZ0 cZ1 cZ2 cZ3 cZ4 cZ5 zZ cX0 cX1 cX2 cX3 cX4 zX
    by_cases hv : drvCode x rights badge = 0
    rotate_left
    · refine (derived_err x r.nw rights badge _ hxr.1 hxr.2 hv).mono ?_
      rintro e w4 ⟨rfl, hb4⟩
      have sz4 : w3.heap.size ≤ w4.heap.size := hb4.size
      have BR4 := BR3.below hb4
      have BP4 := BP3.below hb4
      have BQ4 := BQ3.below hb4
      have BZ4 := BZ3.below hb4
      have BX4 := BX3.below hb4
      have bl4 := Below_after bl3 hb4
      clear BR3 BP3 BQ3 BZ3 BX3 bl3
      have lw4 := BZ4.1
      have hC : drvCode x rights badge = C := HC2.out
      have hp := drvCode_pos x rights badge
      rw [hC]
      rw [hC] at hv hp
      have hd : decide (0 < C) = true := decide_eq_true (by omega)
      clear hC hx HC2 h9 hq
      obtain ⟨cR0, cR1, cR2, cR3, cR4, cR5⟩ := BR4.c6
      have zR := BR4.1
      obtain ⟨cP0, cP1⟩ := BP4.c2
      have zP := BP4.1
      obtain ⟨cQ0, cQ1⟩ := BQ4.c2
      have zQ := BQ4.1
      obtain ⟨cZ0, fZ0, cZ1, fZ1, cZ2, fZ2, cZ3, fZ3, cZ4, fZ4, cZ5, fZ5⟩ := BZ4.cf6
      have zZ := BZ4.1
      obtain ⟨cX0, cX1, cX2, cX3, cX4⟩ := BX4.c5
      have zX := BX4.1
      go_wp2_with fail
      obtain ⟨y0, y1, y2, y3, y4, y5⟩ := ((BZ4.put6 (.slice none 0 0) (.slice none 0 0) (.slice none 0 0) (.slice none 0 0) (.int .i64 0) (.int .i64 0)).alloc (.cells #[.int .i64 0, .int .i64 0, .int .i64 0, .int .i64 0, .int .i64 0] 39)).six
      have blF := ((below_set6 bl4 (b := w.heap.size + 1 + 1 + 1) (by omega) (.slice none 0 0) (.slice none 0 0) (.slice none 0 0) (.slice none 0 0) (.int .i64 0) (.int .i64 0)).alloc (below_set6 bl4 (b := w.heap.size + 1 + 1 + 1) (by omega) (.slice none 0 0) (.slice none 0 0) (.slice none 0 0) (.slice none 0 0) (.int .i64 0) (.int .i64 0)).size (.cells #[.int .i64 0, .int .i64 0, .int .i64 0, .int .i64 0, .int .i64 0] 39))
      refine bodyPost_ret (v := .tuple #[.agg #[.slice none 0 0, .slice none 0 0, .slice none 0 0, .slice none 0 0, .int .i64 0, .int .i64 0], .int .i64 C]) (by simp [results, Tryz.results55, go_sem, y0, y1, y2, y3, y4, y5]) rfl ?_
      exact ⟨.inl ⟨hv, rfl⟩, blF⟩
    refine (derived_any x r.nw rights badge _ hxr.1 hxr.2 hv y hy).mono ?_
    rintro e w4 ⟨rfl, hb4⟩
    have sz4 : w3.heap.size ≤ w4.heap.size := hb4.size
    have BR4 := BR3.below hb4
    have BP4 := BP3.below hb4
    have BQ4 := BQ3.below hb4
    have BZ4 := BZ3.below hb4
    have BX4 := BX3.below hb4
    have bl4 := Below_after bl3 hb4
    clear BR3 BP3 BQ3 BZ3 BX3 bl3
    have lw4 := BZ4.1
    have hC : C = 0 := HC2.out.symm.trans hv
    clear HC2 hv h9
    obtain ⟨cR0, cR1, cR2, cR3, cR4, cR5⟩ := BR4.c6
    have zR := BR4.1
    obtain ⟨cP0, cP1⟩ := BP4.c2
    have zP := BP4.1
    obtain ⟨cQ0, cQ1⟩ := BQ4.c2
    have zQ := BQ4.1
    obtain ⟨cZ0, cZ1, cZ2, cZ3, cZ4, cZ5⟩ := BZ4.c6
    have zZ := BZ4.1
    obtain ⟨cX0, cX1, cX2, cX3, cX4⟩ := BX4.c5
    have zX := BX4.1
    go_wp2_with fail
    clear cR0 cR1 cR2 cR3 cR4 cR5 zR cP0 cP1 zP cQ0 cQ1 zQ cZ0 cZ1 cZ2 cZ3 cZ4 cZ5 zZ cX0 cX1 cX2 cX3 cX4 zX
    have BR5 := BR4.alloc (.cells #[.int .i64 y.id, .int .i64 y.thing, .int .i64 y.rights, .int .i64 y.badge, .int .i64 y.frm] 39)
    have BP5 := BP4.alloc (.cells #[.int .i64 y.id, .int .i64 y.thing, .int .i64 y.rights, .int .i64 y.badge, .int .i64 y.frm] 39)
    have BQ5 := BQ4.alloc (.cells #[.int .i64 y.id, .int .i64 y.thing, .int .i64 y.rights, .int .i64 y.badge, .int .i64 y.frm] 39)
    have BZ5 := BZ4.alloc (.cells #[.int .i64 y.id, .int .i64 y.thing, .int .i64 y.rights, .int .i64 y.badge, .int .i64 y.frm] 39)
    have BX5 := BX4.alloc (.cells #[.int .i64 y.id, .int .i64 y.thing, .int .i64 y.rights, .int .i64 y.badge, .int .i64 y.frm] 39)
    have bl5 := bl4.alloc bl4.size (.cells #[.int .i64 y.id, .int .i64 y.thing, .int .i64 y.rights, .int .i64 y.badge, .int .i64 y.frm] 39)
    have BY5 := Bx.new w4 [.int .i64 y.id, .int .i64 y.thing, .int .i64 y.rights, .int .i64 y.badge, .int .i64 y.frm] 39
    clear BR4 BP4 BQ4 BZ4 BX4 bl4
    generalize hg5 : (w4.alloc (.cells #[.int .i64 y.id, .int .i64 y.thing, .int .i64 y.rights, .int .i64 y.badge, .int .i64 y.frm] 39)) = w5 at BR5 BP5 BQ5 BZ5 BX5 BY5 bl5 ⊢
    clear hg5
    have sg5Y := BY5.1
    have hs1 : w.heap.size ≤ w5.heap.size := bl5.size
    have hlow := BZ5.1
    refine (radded_any aw at_ ah an cw ct ch cn r y _ (hr.below bl5) hz).mono ?_
    rintro e w6 ⟨v0, v1, v2, v3, rfl, hO, hb6⟩
    have sz6 : w5.heap.size ≤ w6.heap.size := hb6.size
    have BR6 := BR5.below hb6
    have BP6 := BP5.below hb6
    have BQ6 := BQ5.below hb6
    have BZ6 := BZ5.below hb6
    have BX6 := BX5.below hb6
    have BY6 := BY5.below hb6
    have bl6 := Below_after bl5 hb6
    clear BR5 BP5 BQ5 BZ5 BX5 BY5 bl5
    have lw6 := BZ6.1
    obtain ⟨L, hL⟩ : ∃ L, (r.ws ++ [y]).length = L := ⟨_, rfl⟩
    obtain ⟨a0, a1, a2, a3, c0, c1, c2, c3, rfl, rfl, rfl, rfl, -⟩ := hO.at4 (L0 := L) (L1 := r.ts.length) (L2 := r.hs.length) (L3 := r.ns.length) hL rfl rfl rfl
    have O6 := hO
    clear hO hL
    obtain ⟨w7, e7⟩ : ∃ V, ((((((w6.setCell ⟨w.heap.size, 0, none⟩ (.slice a0 L c0)).setCell ⟨w.heap.size, 1, none⟩ (.slice a1 r.ts.length c1)).setCell ⟨w.heap.size, 2, none⟩ (.slice a2 r.hs.length c2)).setCell ⟨w.heap.size, 3, none⟩ (.slice a3 r.ns.length c3)).setCell ⟨w.heap.size, 4, none⟩ (.int .i64 (r.nw + 1))).setCell ⟨w.heap.size, 5, none⟩ (.int .i64 r.nt)) = V := ⟨_, rfl⟩
    have BR7 : Bx w7 (w.heap.size) [.slice a0 L c0, .slice a1 r.ts.length c1, .slice a2 r.hs.length c2, .slice a3 r.ns.length c3, .int .i64 (r.nw + 1), .int .i64 r.nt] := by rw [← e7]; exact BR6.put6 _ _ _ _ _ _
    have BP7 := BP6.past6 (b' := w.heap.size) (by omega) (.slice a0 L c0) (.slice a1 r.ts.length c1) (.slice a2 r.hs.length c2) (.slice a3 r.ns.length c3) (.int .i64 (r.nw + 1)) (.int .i64 r.nt)
    rw [e7] at BP7
    have BQ7 := BQ6.past6 (b' := w.heap.size) (by omega) (.slice a0 L c0) (.slice a1 r.ts.length c1) (.slice a2 r.hs.length c2) (.slice a3 r.ns.length c3) (.int .i64 (r.nw + 1)) (.int .i64 r.nt)
    rw [e7] at BQ7
    have BZ7 := BZ6.past6 (b' := w.heap.size) (by omega) (.slice a0 L c0) (.slice a1 r.ts.length c1) (.slice a2 r.hs.length c2) (.slice a3 r.ns.length c3) (.int .i64 (r.nw + 1)) (.int .i64 r.nt)
    rw [e7] at BZ7
    have BX7 := BX6.past6 (b' := w.heap.size) (by omega) (.slice a0 L c0) (.slice a1 r.ts.length c1) (.slice a2 r.hs.length c2) (.slice a3 r.ns.length c3) (.int .i64 (r.nw + 1)) (.int .i64 r.nt)
    rw [e7] at BX7
    have BY7 := BY6.past6 (b' := w.heap.size) (by omega) (.slice a0 L c0) (.slice a1 r.ts.length c1) (.slice a2 r.hs.length c2) (.slice a3 r.ns.length c3) (.int .i64 (r.nw + 1)) (.int .i64 r.nt)
    rw [e7] at BY7
    have O7 := O6.set6 (b := w.heap.size) (by omega) (.slice a0 L c0) (.slice a1 r.ts.length c1) (.slice a2 r.hs.length c2) (.slice a3 r.ns.length c3) (.int .i64 (r.nw + 1)) (.int .i64 r.nt)
    rw [e7] at O7
    have bl7 := below_set6 bl6 (b := w.heap.size) (by omega) (.slice a0 L c0) (.slice a1 r.ts.length c1) (.slice a2 r.hs.length c2) (.slice a3 r.ns.length c3) (.int .i64 (r.nw + 1)) (.int .i64 r.nt)
    rw [e7] at bl7
    have hsw7 : w7.heap.size = w6.heap.size := by rw [← e7]; simp
    have hat : HdsAt w7 a2 r.hs := (HdsAt.ofRow O7.rh).1
    obtain ⟨o0, g0, o1, g1, o2, g2, o3, g3, o4, g4, o5, g5⟩ := BR6.cf6
    have zo := BR6.1
    obtain ⟨cR0, cR1, cR2, cR3, cR4, cR5⟩ := BR7.c6
    have zR := BR7.1
    obtain ⟨cP0, cP1⟩ := BP7.c2
    have zP := BP7.1
    obtain ⟨cQ0, cQ1⟩ := BQ7.c2
    have zQ := BQ7.1
    obtain ⟨cZ0, cZ1, cZ2, cZ3, cZ4, cZ5⟩ := BZ7.c6
    have zZ := BZ7.1
    obtain ⟨cX0, cX1, cX2, cX3, cX4⟩ := BX7.c5
    have zX := BX7.1
    obtain ⟨cY0, cY1, cY2, cY3, cY4⟩ := BY7.c5
    have zY := BY7.1
    have HOs : Hid (OwnsR _ _ _ _ _ _ _) := O7
    have HS : Hid (Bx _ _ _ ∧ Bx _ _ _ ∧ Below _ _ _) := ⟨BR7, BZ7, bl7⟩
    clear BR6 BR7 BP6 BP7 BQ6 BQ7 BZ6 BZ7 BX6 BX7 BY6 BY7 O6 O7 bl6 bl7
    go_wp2_with fail
    refine (putAt_row a2 c2 r.hs g t y.id w7 hat hz.h hg H1 HH.out).mono ?_
    rintro e wP ⟨a2', c2', rfl, hrow, hbP⟩
    clear o0 g0 o1 g1 o2 g2 o3 g3 o4 g4 o5 g5 zo cR0 cR1 cR2 cR3 cR4 cR5 zR cP0 cP1 zP cQ0 cQ1 zQ cZ0 cZ1 cZ2 cZ3 cZ4 cZ5 zZ cX0 cX1 cX2 cX3 cX4 zX cY0 cY1 cY2 cY3 cY4 zY
    clear e7
    obtain ⟨BRv, BZv, blv⟩ := HS.out
    have OP := (HOs.out.below hbP).put2 hrow (by omega)
    have BRP := BRv.below hbP
    have BZP := BZv.below hbP
    have blP := Below_after blv hbP
    clear BRv BZv blv HS HOs hrow hbP hat
    obtain ⟨V9, e9⟩ : ∃ V, wP.setCell ⟨w.heap.size, 2, none⟩ (.slice a2' H1 c2') = V := ⟨_, rfl⟩
    have BR9 : Bx V9 w.heap.size [.slice a0 L c0, .slice a1 r.ts.length c1, .slice a2' H1 c2', .slice a3 r.ns.length c3, .int .i64 (r.nw + 1), .int .i64 r.nt] := by rw [← e9]; exact BRP.set 2 _
    have BZ9 : Bx V9 (w.heap.size + 1 + 1 + 1) [.slice none 0 0, .slice none 0 0, .slice none 0 0, .slice none 0 0, .int .i64 0, .int .i64 0] := by rw [← e9]; exact BZP.other (by omega) 2 _
    have bl9 : Below w.heap.size w V9 := by rw [← e9]; exact blP.setCell (p := ⟨w.heap.size, 2, none⟩) (Nat.le_refl _) _
    have hO9 := OP.setLow (b := w.heap.size) (by omega) 2 (.slice a2' H1 c2')
    rw [e9] at hO9
    have HO9 : Hid (OwnsR _ _ _ _ _ _ _) := hO9
    have cP := (BRP.2 2 _ rfl).1
    have fP := (BRP.2 2 _ rfl).2
    have zP := BRP.1
    clear hO9 OP BZP blP BRP
    obtain ⟨cR0, cR1, cR2, cR3, cR4, cR5⟩ := BR9.c6
    have zR := BR9.1
    obtain ⟨cZ0, fZ0, cZ1, fZ1, cZ2, fZ2, cZ3, fZ3, cZ4, fZ4, cZ5, fZ5⟩ := BZ9.cf6
    have zZ := BZ9.1
    go_wp2_with fail
    obtain ⟨y0, y1, y2, y3, y4, y5⟩ := (BZ9.put6 (.slice a0 L c0) (.slice a1 r.ts.length c1) (.slice a2' H1 c2') (.slice a3 r.ns.length c3) (.int .i64 (r.nw + 1)) (.int .i64 r.nt)).six
    have blF := (below_set6 bl9 (b := w.heap.size + 1 + 1 + 1) (by omega) (.slice a0 L c0) (.slice a1 r.ts.length c1) (.slice a2' H1 c2') (.slice a3 r.ns.length c3) (.int .i64 (r.nw + 1)) (.int .i64 r.nt))
    refine bodyPost_ret (v := .tuple #[.agg #[.slice a0 L c0, .slice a1 r.ts.length c1, .slice a2' H1 c2', .slice a3 r.ns.length c3, .int .i64 (r.nw + 1), .int .i64 r.nt], .int .i64 0]) (by simp [results, Tryz.results55, go_sem, y0, y1, y2, y3, y4, y5]) rfl ?_
    exact by rw [← hR]; exact OutP.ok hC (HO9.out.set6 hlow _ _ _ _ _ _) blF
end Go.Proofs.YtddgpgldbekamaaGreat
set_option linter.unusedSimpArgs false
set_option linter.unnecessarySimpa false
set_option linter.unusedVariables false
namespace Go.Proofs.YtddgpgldbekamaaGreat
open Go.RowKit

theorem new3' (w : World) {n : Nat} (hn : w.heap.size = n) (t : TypeId) (x y z : Value) : ∀ j q, [x, y, z][j]? = some q → (w.alloc (.cells #[x, y, z] t)).cell? ((⟨n, 0, none⟩ : Addr).add j) = some q := by
  subst hn
  exact new3 w t x y z
set_option maxHeartbeats 4000000 in
set_option maxRecDepth 100000 in
theorem rmade_any (aw at_ ah an : Option Addr) (cw ct ch cn : Nat) (r : Rm) (h s kind : Int) (w : World) (hr : RmAt w aw at_ ah an cw ct ch cn r) (hz : RmSz r) (hg : Good r.hs) (ht : r.ts.length ≤ 10) (C : Int) (HC : Hid (makeC r h s kind = C)) :
    Calls Tryz.prog 54 #[.agg #[.slice aw r.ws.length cw, .slice at_ r.ts.length ct, .slice ah r.hs.length ch, .slice an r.ns.length cn, .int .i64 r.nw, .int .i64 r.nt], .agg #[.int .i64 h, .int .i64 s], .int .i64 kind] w fun e w' => OutP w w' e C (makeR r h s kind) := by
  obtain ⟨i0, hi, hi0, hi1, hi2⟩ := info_parts infoThing
  have nw1 := hz.nw.1
  have nw2 := hz.nw.2
  have nt1 := hz.nt.1
  have nt2 := hz.nt.2
  obtain ⟨H1, hH⟩ : ∃ H, (putL r.hs h s r.nw).length = H := ⟨_, rfl⟩
  have HH : Hid ((putL r.hs h s r.nw).length = H1) := hH
  clear hH
  obtain ⟨BR0, BP0, BZ0, bl0⟩ := boxes3 w [.slice aw r.ws.length cw, .slice at_ r.ts.length ct, .slice ah r.hs.length ch, .slice an r.ns.length cn, .int .i64 r.nw, .int .i64 r.nt] 30 [.int .i64 h, .int .i64 s] 33 [.slice none 0 0, .slice none 0 0, .slice none 0 0, .slice none 0 0, .int .i64 0, .int .i64 0] 30
  go_enter Tryz.func54, Tryz.ntmps54
  by_cases hk : kind ≠ 1 ∧ kind ≠ 2
  · have hC : C = 8 := by rw [← HC.out]; exact if_pos hk
    have d1 : (kind != 1) = true := by simpa using hk.1
    have d2 : (kind != 2) = true := by simpa using hk.2
    subst hC
    clear hk HC
    obtain ⟨cR0, cR1, cR2, cR3, cR4, cR5⟩ := BR0.c6
    have zR := BR0.1
    obtain ⟨cP0, cP1⟩ := BP0.c2
    have zP := BP0.1
    obtain ⟨cZ0, fZ0, cZ1, fZ1, cZ2, fZ2, cZ3, fZ3, cZ4, fZ4, cZ5, fZ5⟩ := BZ0.cf6
    have zZ := BZ0.1
    go_wp2_with fail
    clear cR0 cR1 cR2 cR3 cR4 cR5 zR cP0 cP1 zP cZ0 fZ0 cZ1 fZ1 cZ2 fZ2 cZ3 fZ3 cZ4 fZ4 cZ5 fZ5 zZ
    obtain ⟨y0, y1, y2, y3, y4, y5⟩ := BZ0.six
    refine bodyPost_ret (v := .tuple #[.agg #[.slice none 0 0, .slice none 0 0, .slice none 0 0, .slice none 0 0, .int .i64 0, .int .i64 0], .int .i64 8]) (by simp [results, Tryz.results54, go_sem, y0, y1, y2, y3, y4, y5]) rfl ?_
    exact ⟨.inl ⟨by decide, rfl⟩, bl0⟩
  have HC1 : Hid ((if freeC r h s ≠ 0 then freeC r h s else if 10 ≤ (r.ts.length : Int) ∨ 999 < r.nt ∨ 999 < r.nw then 9 else 0) = C) := (show _ = _ from by have h2 : makeC r h s kind = _ := if_neg hk; rw [← h2]; exact HC.out)
  clear HC
  have hk' : (kind != 1) = false ∨ ((kind != 1) = true ∧ (kind != 2) = false) := by
    by_cases e1 : kind = 1
    · exact .inl (by simp [e1])
    · by_cases e2 : kind = 2
      · exact .inr ⟨by simpa using e1, by simp [e2]⟩
      · exact absurd ⟨e1, e2⟩ hk
  clear hk
  rcases hk' with d1 | ⟨d1, d2⟩
  all_goals
    go_wp2_with fail
    refine (rfreeAt_any aw at_ ah an cw ct ch cn r h s _ (hr.below bl0) hz).mono ?_
    rintro e w1 ⟨rfl, hb1⟩
    have BR1 := BR0.below hb1
    have BP1 := BP0.below hb1
    have BZ1 := BZ0.below hb1
    have bl1 := Below_after bl0 hb1
    clear BR0 BP0 BZ0 bl0
    have lw1 := BZ1.1
    by_cases hf : freeC r h s = 0
    rotate_left
    · have hC : freeC r h s = C := by rw [← HC1.out, if_pos hf]
      have hp := freeC_pos r h s
      rw [hC]
      rw [hC] at hf hp
      have hd : decide (0 < C) = true := decide_eq_true (by omega)
      clear hC HC1
      obtain ⟨cR0, cR1, cR2, cR3, cR4, cR5⟩ := BR1.c6
      have zR := BR1.1
      obtain ⟨cP0, cP1⟩ := BP1.c2
      have zP := BP1.1
      obtain ⟨cZ0, fZ0, cZ1, fZ1, cZ2, fZ2, cZ3, fZ3, cZ4, fZ4, cZ5, fZ5⟩ := BZ1.cf6
      have zZ := BZ1.1
      go_wp2_with fail
      obtain ⟨y0, y1, y2, y3, y4, y5⟩ := (BZ1.put6 (.slice none 0 0) (.slice none 0 0) (.slice none 0 0) (.slice none 0 0) (.int .i64 0) (.int .i64 0)).six
      have blF := (below_set6 bl1 (b := w.heap.size + 1 + 1) (by omega) (.slice none 0 0) (.slice none 0 0) (.slice none 0 0) (.slice none 0 0) (.int .i64 0) (.int .i64 0))
      refine bodyPost_ret (v := .tuple #[.agg #[.slice none 0 0, .slice none 0 0, .slice none 0 0, .slice none 0 0, .int .i64 0, .int .i64 0], .int .i64 C]) (by simp [results, Tryz.results54, go_sem, y0, y1, y2, y3, y4, y5]) rfl ?_
      exact ⟨.inl ⟨hf, rfl⟩, blF⟩
    have HC2 : Hid ((if 10 ≤ (r.ts.length : Int) ∨ 999 < r.nt ∨ 999 < r.nw then 9 else 0) = C) := (show _ = _ from (if_neg (fun h' => h' hf)).symm.trans HC1.out)
    rw [hf]
    clear hf HC1
    by_cases h9 : 10 ≤ (r.ts.length : Int) ∨ 999 < r.nt ∨ 999 < r.nw
    · have hC : C = 9 := by rw [← HC2.out, if_pos h9]
      subst hC
      have hd9 : ((r.ts.length : Int) == 10) = true ∨ (((r.ts.length : Int) == 10) = false ∧ decide (999 < r.nt) = true) ∨ (((r.ts.length : Int) == 10) = false ∧ decide (999 < r.nt) = false ∧ decide (999 < r.nw) = true) := by
        by_cases e1 : r.ts.length = 10
        · exact .inl (by simp [e1])
        · have e1' : ((r.ts.length : Int) == 10) = false := by simp; omega
          by_cases e2 : 999 < r.nt
          · exact .inr (.inl ⟨e1', decide_eq_true e2⟩)
          · exact .inr (.inr ⟨e1', decide_eq_false e2, decide_eq_true (by omega)⟩)
      clear HC2 h9
      rcases hd9 with d3 | ⟨d3, d4⟩ | ⟨d3, d4, d5⟩
      all_goals
        obtain ⟨cR0, cR1, cR2, cR3, cR4, cR5⟩ := BR1.c6
        have zR := BR1.1
        obtain ⟨cP0, cP1⟩ := BP1.c2
        have zP := BP1.1
        obtain ⟨cZ0, fZ0, cZ1, fZ1, cZ2, fZ2, cZ3, fZ3, cZ4, fZ4, cZ5, fZ5⟩ := BZ1.cf6
        have zZ := BZ1.1
        go_wp2_with fail
        obtain ⟨y0, y1, y2, y3, y4, y5⟩ := (BZ1.put6 (.slice none 0 0) (.slice none 0 0) (.slice none 0 0) (.slice none 0 0) (.int .i64 0) (.int .i64 0)).six
        have blF := (below_set6 bl1 (b := w.heap.size + 1 + 1) (by omega) (.slice none 0 0) (.slice none 0 0) (.slice none 0 0) (.slice none 0 0) (.int .i64 0) (.int .i64 0))
        refine bodyPost_ret (v := .tuple #[.agg #[.slice none 0 0, .slice none 0 0, .slice none 0 0, .slice none 0 0, .int .i64 0, .int .i64 0], .int .i64 9]) (by simp [results, Tryz.results54, go_sem, y0, y1, y2, y3, y4, y5]) rfl ?_
        exact ⟨.inl ⟨(by decide), rfl⟩, blF⟩
    have hC : C = 0 := by rw [← HC2.out, if_neg h9]
    have d3 : ((r.ts.length : Int) == 10) = false := by simp; omega
    have d4 : decide (999 < r.nt) = false := decide_eq_false (by omega)
    have d5 : decide (999 < r.nw) = false := decide_eq_false (by omega)
    clear HC2 h9
    obtain ⟨cR0, cR1, cR2, cR3, cR4, cR5⟩ := BR1.c6
    have zR := BR1.1
    obtain ⟨cP0, cP1⟩ := BP1.c2
    have zP := BP1.1
    obtain ⟨cZ0, cZ1, cZ2, cZ3, cZ4, cZ5⟩ := BZ1.c6
    have zZ := BZ1.1
    go_wp2_with fail
    clear cR0 cR1 cR2 cR3 cR4 cR5 zR cP0 cP1 zP cZ0 cZ1 cZ2 cZ3 cZ4 cZ5 zZ
    have BR2 := BR1.alloc (.cells #[.int .i64 r.nw, .int .i64 r.nt, .int .i64 7, .int .i64 0, .int .i64 0] 39)
    have BP2 := BP1.alloc (.cells #[.int .i64 r.nw, .int .i64 r.nt, .int .i64 7, .int .i64 0, .int .i64 0] 39)
    have BZ2 := BZ1.alloc (.cells #[.int .i64 r.nw, .int .i64 r.nt, .int .i64 7, .int .i64 0, .int .i64 0] 39)
    have bl2 := bl1.alloc bl1.size (.cells #[.int .i64 r.nw, .int .i64 r.nt, .int .i64 7, .int .i64 0, .int .i64 0] 39)
    have BX2 := Bx.new w1 [.int .i64 r.nw, .int .i64 r.nt, .int .i64 7, .int .i64 0, .int .i64 0] 39
    clear BR1 BP1 BZ1 bl1
    generalize hg2 : (w1.alloc (.cells #[.int .i64 r.nw, .int .i64 r.nt, .int .i64 7, .int .i64 0, .int .i64 0] 39)) = w2 at BR2 BP2 BZ2 BX2 bl2 ⊢
    clear hg2
    have sg2X := BX2.1
    have hs1 : w.heap.size ≤ w2.heap.size := bl2.size
    have hlow := BZ2.1
    refine (radded_any aw at_ ah an cw ct ch cn r ⟨r.nw, r.nt, 7, 0, 0⟩ _ (hr.below bl2) hz).mono ?_
    rintro e w3 ⟨v0, v1, v2, v3, rfl, hO, hb3⟩
    have sz3 : w2.heap.size ≤ w3.heap.size := hb3.size
    have BR3 := BR2.below hb3
    have BP3 := BP2.below hb3
    have BZ3 := BZ2.below hb3
    have BX3 := BX2.below hb3
    have bl3 := Below_after bl2 hb3
    clear BR2 BP2 BZ2 BX2 bl2
    have lw3 := BZ3.1
    obtain ⟨L, hL⟩ : ∃ L, (r.ws ++ [(⟨r.nw, r.nt, 7, 0, 0⟩ : Wr)]).length = L := ⟨_, rfl⟩
    obtain ⟨a0, a1, a2, a3, c0, c1, c2, c3, rfl, rfl, rfl, rfl, -⟩ := hO.at4 (L0 := L) (L1 := r.ts.length) (L2 := r.hs.length) (L3 := r.ns.length) hL rfl rfl rfl
    have O3 := hO
    clear hO hL
    obtain ⟨w4, e4⟩ : ∃ V, ((((((w3.setCell ⟨w.heap.size, 0, none⟩ (.slice a0 L c0)).setCell ⟨w.heap.size, 1, none⟩ (.slice a1 r.ts.length c1)).setCell ⟨w.heap.size, 2, none⟩ (.slice a2 r.hs.length c2)).setCell ⟨w.heap.size, 3, none⟩ (.slice a3 r.ns.length c3)).setCell ⟨w.heap.size, 4, none⟩ (.int .i64 (r.nw + 1))).setCell ⟨w.heap.size, 5, none⟩ (.int .i64 r.nt)) = V := ⟨_, rfl⟩
    have BR4 : Bx w4 (w.heap.size) [.slice a0 L c0, .slice a1 r.ts.length c1, .slice a2 r.hs.length c2, .slice a3 r.ns.length c3, .int .i64 (r.nw + 1), .int .i64 r.nt] := by rw [← e4]; exact BR3.put6 _ _ _ _ _ _
    have BP4 := BP3.past6 (b' := w.heap.size) (by omega) (.slice a0 L c0) (.slice a1 r.ts.length c1) (.slice a2 r.hs.length c2) (.slice a3 r.ns.length c3) (.int .i64 (r.nw + 1)) (.int .i64 r.nt)
    rw [e4] at BP4
    have BZ4 := BZ3.past6 (b' := w.heap.size) (by omega) (.slice a0 L c0) (.slice a1 r.ts.length c1) (.slice a2 r.hs.length c2) (.slice a3 r.ns.length c3) (.int .i64 (r.nw + 1)) (.int .i64 r.nt)
    rw [e4] at BZ4
    have BX4 := BX3.past6 (b' := w.heap.size) (by omega) (.slice a0 L c0) (.slice a1 r.ts.length c1) (.slice a2 r.hs.length c2) (.slice a3 r.ns.length c3) (.int .i64 (r.nw + 1)) (.int .i64 r.nt)
    rw [e4] at BX4
    have O4 := O3.set6 (b := w.heap.size) (by omega) (.slice a0 L c0) (.slice a1 r.ts.length c1) (.slice a2 r.hs.length c2) (.slice a3 r.ns.length c3) (.int .i64 (r.nw + 1)) (.int .i64 r.nt)
    rw [e4] at O4
    have bl4 := below_set6 bl3 (b := w.heap.size) (by omega) (.slice a0 L c0) (.slice a1 r.ts.length c1) (.slice a2 r.hs.length c2) (.slice a3 r.ns.length c3) (.int .i64 (r.nw + 1)) (.int .i64 r.nt)
    rw [e4] at bl4
    have hsw4 : w4.heap.size = w3.heap.size := by rw [← e4]; simp
    have hgr := O4.below ((Below.refl _ _).alloc (Nat.le_refl _) (.cells #[.int .i64 r.nt, .int .i64 kind, .string ByteArray.empty] 73))
    obtain ⟨o0, g0, o1, g1, o2, g2, o3, g3, o4, g4, o5, g5⟩ := BR3.cf6
    have zo := BR3.1
    obtain ⟨cR0, cR1, cR2, cR3, cR4, cR5⟩ := BR4.c6
    have zR := BR4.1
    obtain ⟨cP0, cP1⟩ := BP4.c2
    have zP := BP4.1
    obtain ⟨cZ0, cZ1, cZ2, cZ3, cZ4, cZ5⟩ := BZ4.c6
    have zZ := BZ4.1
    obtain ⟨cX0, cX1, cX2, cX3, cX4⟩ := BX4.c5
    have zX := BX4.1
    go_wp2_with (at_builtin; refine wpList_append_own _ rfl _ _ 26 rfl w2.heap.size 73 i0 (.agg #[.int .i64 0, .int .i64 0, .string ByteArray.empty]) 3 32 Tryz.underlying26 hi hi0 hi1 hi2 rfl (by decide) _ _ _ rfl hgr.rt _ 1 1 [.int .i64 r.nt, .int .i64 kind, .string ByteArray.empty] rfl rfl (new3' w4 hsw4 _ _ _ _) (tcell_one ⟨r.nt, kind, ByteArray.empty⟩) ?c3 ?c4 ?c5 ?_)
    case c3 => have := hz.t; show r.ts.length + 1 ≤ maxLen; unfold maxLen; omega
    case c4 => have := hz.t; show (r.ts.length + 1) * 32 ≤ 140737488355328; omega
    case c5 => simp; omega
    intro v1' w6 hown6' hgrow _
    clear o0 g0 o1 g1 o2 g2 o3 g3 o4 g4 o5 g5 zo cR0 cR1 cR2 cR3 cR4 cR5 zR cP0 cP1 zP cZ0 cZ1 cZ2 cZ3 cZ4 cZ5 zZ cX0 cX1 cX2 cX3 cX4 zX
    clear e4
    have R6 := (BR4.alloc (.cells #[.int .i64 r.nt, .int .i64 kind, .string ByteArray.empty] 73)).grown hgrow (fun e => by have := (hgr.rt.lt _ e.symm).1; omega)
    have P6 := (BP4.alloc (.cells #[.int .i64 r.nt, .int .i64 kind, .string ByteArray.empty] 73)).grown hgrow (fun e => by have := (hgr.rt.lt _ e.symm).1; omega)
    have Z6 := (BZ4.alloc (.cells #[.int .i64 r.nt, .int .i64 kind, .string ByteArray.empty] 73)).grown hgrow (fun e => by have := (hgr.rt.lt _ e.symm).1; omega)
    have X6 := (BX4.alloc (.cells #[.int .i64 r.nt, .int .i64 kind, .string ByteArray.empty] 73)).grown hgrow (fun e => by have := (hgr.rt.lt _ e.symm).1; omega)
    have bl6 : Below w.heap.size w w6 := (bl4.alloc bl4.size _).grown hgrow (by have := bl4.size; simp; omega) (fun k hk => by have := (hgr.rt.lt k hk).1; omega)
    have hO6 := hgr.grow1 (x := ⟨r.nt, kind, ByteArray.empty⟩) hgrow hown6'
    have hs6 : w4.heap.size ≤ w6.heap.size := by have := hgrow.size; simp at this; omega
    obtain ⟨T, hT⟩ : ∃ T, (r.ts ++ [(⟨r.nt, kind, ByteArray.empty⟩ : Th)]).length = T := ⟨_, rfl⟩
    obtain ⟨a1', c1', hv1, -, -⟩ := trow_at hO6.rt
    have hv1' : v1' = .slice a1' T c1' := hv1.trans (by rw [← hT])
    subst hv1'
    clear hv1 hT
    clear BR3 BR4 BP3 BP4 BZ3 BZ4 BX3 BX4 O3 O4 bl3 bl4 hgr hgrow hown6'
    have BR6 := R6
    have BP6 := P6
    have BZ6 := Z6
    have BX6 := X6
    have O6 := hO6
    clear R6 P6 Z6 X6 hO6
    obtain ⟨w7, e7⟩ : ∃ V, (w6.setCell ⟨w.heap.size, 1, none⟩ (.slice a1' T c1')) = V := ⟨_, rfl⟩
    have BR7 : Bx w7 (w.heap.size) [.slice a0 L c0, .slice a1' T c1', .slice a2 r.hs.length c2, .slice a3 r.ns.length c3, .int .i64 (r.nw + 1), .int .i64 r.nt] := by rw [← e7]; exact BR6.set 1 _
    have BP7 := BP6.other (b' := w.heap.size) (by omega) 1 (.slice a1' T c1')
    rw [e7] at BP7
    have BZ7 := BZ6.other (b' := w.heap.size) (by omega) 1 (.slice a1' T c1')
    rw [e7] at BZ7
    have BX7 := BX6.other (b' := w.heap.size) (by omega) 1 (.slice a1' T c1')
    rw [e7] at BX7
    have O7 := O6.setLow (b := w.heap.size) (by omega) 1 (.slice a1' T c1')
    rw [e7] at O7
    have bl7 := bl6.setCell (p := ⟨w.heap.size, 1, none⟩) (by show w.heap.size ≤ w.heap.size; omega) (.slice a1' T c1')
    rw [e7] at bl7
    have hsw7 : w7.heap.size = w6.heap.size := by rw [← e7]; simp
    obtain ⟨w8, e8⟩ : ∃ V, (w7.setCell ⟨w.heap.size, 5, none⟩ (.int .i64 (r.nt + 1))) = V := ⟨_, rfl⟩
    have BR8 : Bx w8 (w.heap.size) [.slice a0 L c0, .slice a1' T c1', .slice a2 r.hs.length c2, .slice a3 r.ns.length c3, .int .i64 (r.nw + 1), .int .i64 (r.nt + 1)] := by rw [← e8]; exact BR7.set 5 _
    have BP8 := BP7.other (b' := w.heap.size) (by omega) 5 (.int .i64 (r.nt + 1))
    rw [e8] at BP8
    have BZ8 := BZ7.other (b' := w.heap.size) (by omega) 5 (.int .i64 (r.nt + 1))
    rw [e8] at BZ8
    have BX8 := BX7.other (b' := w.heap.size) (by omega) 5 (.int .i64 (r.nt + 1))
    rw [e8] at BX8
    have O8 := O7.setLow (b := w.heap.size) (by omega) 5 (.int .i64 (r.nt + 1))
    rw [e8] at O8
    have bl8 := bl7.setCell (p := ⟨w.heap.size, 5, none⟩) (by show w.heap.size ≤ w.heap.size; omega) (.int .i64 (r.nt + 1))
    rw [e8] at bl8
    have hsw8 : w8.heap.size = w7.heap.size := by rw [← e8]; simp
    have hat : HdsAt w8 a2 r.hs := (HdsAt.ofRow O8.rh).1
    have cR1o := (BR6.2 1 _ rfl).1
    have fR1o := (BR6.2 1 _ rfl).2
    have zR6 := BR6.1
    have cR5o := (BR7.2 5 _ rfl).1
    have fR5o := (BR7.2 5 _ rfl).2
    have zR7 := BR7.1
    obtain ⟨cR0, cR1, cR2, cR3, cR4, cR5⟩ := BR8.c6
    have zR := BR8.1
    obtain ⟨cP0, cP1⟩ := BP8.c2
    have zP := BP8.1
    obtain ⟨cX0, cX1, cX2, cX3, cX4⟩ := BX8.c5
    have zX := BX8.1
    have HOs : Hid (OwnsR _ _ _ _ _ _ _) := O8
    have HS : Hid (Bx _ _ _ ∧ Bx _ _ _ ∧ Below _ _ _) := ⟨BR8, BZ8, bl8⟩
    clear BR6 BR7 BR8 BP6 BP7 BP8 BZ6 BZ7 BZ8 BX6 BX7 BX8 O6 O7 O8 bl6 bl7 bl8
    go_wp2_with fail
    refine (putAt_row a2 c2 r.hs h s r.nw w8 hat hz.h hg H1 HH.out).mono ?_
    rintro e wP ⟨a2', c2', rfl, hrow, hbP⟩
    clear cR0 cR1 cR2 cR3 cR4 cR5 zR cP0 cP1 zP cX0 cX1 cX2 cX3 cX4 zX
    clear e7 e8 cR1o fR1o zR6 cR5o fR5o zR7
    obtain ⟨BRv, BZv, blv⟩ := HS.out
    have OP := (HOs.out.below hbP).put2 hrow (by omega)
    have BRP := BRv.below hbP
    have BZP := BZv.below hbP
    have blP := Below_after blv hbP
    clear BRv BZv blv HS HOs hrow hbP hat
    obtain ⟨V9, e9⟩ : ∃ V, wP.setCell ⟨w.heap.size, 2, none⟩ (.slice a2' H1 c2') = V := ⟨_, rfl⟩
    have BR9 : Bx V9 w.heap.size [.slice a0 L c0, .slice a1' T c1', .slice a2' H1 c2', .slice a3 r.ns.length c3, .int .i64 (r.nw + 1), .int .i64 (r.nt + 1)] := by rw [← e9]; exact BRP.set 2 _
    have BZ9 : Bx V9 (w.heap.size + 1 + 1) [.slice none 0 0, .slice none 0 0, .slice none 0 0, .slice none 0 0, .int .i64 0, .int .i64 0] := by rw [← e9]; exact BZP.other (by omega) 2 _
    have bl9 : Below w.heap.size w V9 := by rw [← e9]; exact blP.setCell (p := ⟨w.heap.size, 2, none⟩) (Nat.le_refl _) _
    have hO9 := (OP.setLow (b := w.heap.size) (by omega) 2 (.slice a2' H1 c2')).nums (r.nw + 1) (r.nt + 1)
    rw [e9] at hO9
    have HO9 : Hid (OwnsR _ _ _ _ _ _ _) := hO9
    have cP := (BRP.2 2 _ rfl).1
    have fP := (BRP.2 2 _ rfl).2
    have zP := BRP.1
    clear hO9 OP BZP blP BRP
    obtain ⟨cR0, cR1, cR2, cR3, cR4, cR5⟩ := BR9.c6
    have zR := BR9.1
    obtain ⟨cZ0, fZ0, cZ1, fZ1, cZ2, fZ2, cZ3, fZ3, cZ4, fZ4, cZ5, fZ5⟩ := BZ9.cf6
    have zZ := BZ9.1
    go_wp2_with fail
    obtain ⟨y0, y1, y2, y3, y4, y5⟩ := (BZ9.put6 (.slice a0 L c0) (.slice a1' T c1') (.slice a2' H1 c2') (.slice a3 r.ns.length c3) (.int .i64 (r.nw + 1)) (.int .i64 (r.nt + 1))).six
    have blF := (below_set6 bl9 (b := w.heap.size + 1 + 1) (by omega) (.slice a0 L c0) (.slice a1' T c1') (.slice a2' H1 c2') (.slice a3 r.ns.length c3) (.int .i64 (r.nw + 1)) (.int .i64 (r.nt + 1)))
    refine bodyPost_ret (v := .tuple #[.agg #[.slice a0 L c0, .slice a1' T c1', .slice a2' H1 c2', .slice a3 r.ns.length c3, .int .i64 (r.nw + 1), .int .i64 (r.nt + 1)], .int .i64 0]) (by simp [results, Tryz.results54, go_sem, y0, y1, y2, y3, y4, y5]) rfl ?_
    exact OutP.ok (R := makeR r h s kind) hC (HO9.out.set6 hlow _ _ _ _ _ _) blF
end Go.Proofs.YtddgpgldbekamaaGreat
set_option linter.unusedSimpArgs false
set_option linter.unnecessarySimpa false
set_option linter.unusedVariables false
namespace Go.Proofs.YtddgpgldbekamaaGreat
open Go.RowKit

theorem whoC_pos (r : Rm) (h s kind rights : Int) : 0 ≤ whoC r h s kind rights := by
  unfold whoC
  split
  · exact getC_pos r h s
  · repeat' split
    all_goals omega
set_option maxHeartbeats 4000000 in
set_option maxRecDepth 100000 in
theorem rwritten_any (aw at_ ah an : Option Addr) (cw ct ch cn : Nat) (r : Rm) (h s : Int) (d : ByteArray) (w : World) (hr : RmAt w aw at_ ah an cw ct ch cn r) (hz : RmSz r) (hd2 : d.size ≤ maxLen) (hxr : getC r h s = 0 → 0 ≤ (getW r h s).rights ∧ (getW r h s).rights ≤ 7) (C : Int) (HC : Hid (writeC r h s d = C)) :
    Calls Tryz.prog 59 #[.agg #[.slice aw r.ws.length cw, .slice at_ r.ts.length ct, .slice ah r.hs.length ch, .slice an r.ns.length cn, .int .i64 r.nw, .int .i64 r.nt], .agg #[.int .i64 h, .int .i64 s], .string d] w fun e w' => OutP w w' e C (writeR r h s d) := by
  have ft2 := hr.ft.2
  unfold maxLen at ft2 hd2
  obtain ⟨BR0, BP0, BZ0, bl0⟩ := boxes3 w [.slice aw r.ws.length cw, .slice at_ r.ts.length ct, .slice ah r.hs.length ch, .slice an r.ns.length cn, .int .i64 r.nw, .int .i64 r.nt] 30 [.int .i64 h, .int .i64 s] 33 [.slice none 0 0, .slice none 0 0, .slice none 0 0, .slice none 0 0, .int .i64 0, .int .i64 0] 30
  go_enter Tryz.func59, Tryz.ntmps59
  go_wp2_with fail
  refine (rmay_any aw at_ ah an cw ct ch cn r h s 1 2 _ (hr.below bl0) hz hxr (by decide)).mono ?_
  rintro e w1 ⟨rfl, hb1⟩
  have BR1 := BR0.below hb1
  have BP1 := BP0.below hb1
  have BZ1 := BZ0.below hb1
  have bl1 := Below_after bl0 hb1
  clear BR0 BP0 BZ0 bl0
  have lw1 := BZ1.1
  by_cases hw : whoC r h s 1 2 = 0
  rotate_left
  · have hC : whoC r h s 1 2 = C := by rw [← HC.out]; exact (if_pos hw).symm
    have hp := whoC_pos r h s 1 2
    have e1 : mayW r h s 1 2 = zeroW := if_neg hw
    have e2 : mayI r h s 1 2 = 0 := if_neg hw
    rw [e1, e2, hC]
    rw [hC] at hw hp
    have hd0 : decide (0 < C) = true := decide_eq_true (by omega)
    clear hC HC hxr e1 e2
    obtain ⟨cR0, cR1, cR2, cR3, cR4, cR5⟩ := BR1.c6
    have zR := BR1.1
    obtain ⟨cP0, cP1⟩ := BP1.c2
    have zP := BP1.1
    obtain ⟨cZ0, fZ0, cZ1, fZ1, cZ2, fZ2, cZ3, fZ3, cZ4, fZ4, cZ5, fZ5⟩ := BZ1.cf6
    have zZ := BZ1.1
    go_wp2_with fail
    obtain ⟨y0, y1, y2, y3, y4, y5⟩ := ((BZ1.put6 (.slice none 0 0) (.slice none 0 0) (.slice none 0 0) (.slice none 0 0) (.int .i64 0) (.int .i64 0)).alloc (.cells #[.int .i64 zeroW.id, .int .i64 zeroW.thing, .int .i64 zeroW.rights, .int .i64 zeroW.badge, .int .i64 zeroW.frm] 39)).six
    have blF := ((below_set6 bl1 (b := w.heap.size + 1 + 1) (by omega) (.slice none 0 0) (.slice none 0 0) (.slice none 0 0) (.slice none 0 0) (.int .i64 0) (.int .i64 0)).alloc (below_set6 bl1 (b := w.heap.size + 1 + 1) (by omega) (.slice none 0 0) (.slice none 0 0) (.slice none 0 0) (.slice none 0 0) (.int .i64 0) (.int .i64 0)).size (.cells #[.int .i64 zeroW.id, .int .i64 zeroW.thing, .int .i64 zeroW.rights, .int .i64 zeroW.badge, .int .i64 zeroW.frm] 39))
    refine bodyPost_ret (v := .tuple #[.agg #[.slice none 0 0, .slice none 0 0, .slice none 0 0, .slice none 0 0, .int .i64 0, .int .i64 0], .int .i64 C]) (by simp [results, Tryz.results59, go_sem, y0, y1, y2, y3, y4, y5]) rfl ?_
    exact ⟨.inl ⟨hw, rfl⟩, blF⟩
  have e1 : mayW r h s 1 2 = getW r h s := if_pos hw
  have e2 : mayI r h s 1 2 = thAt r (getW r h s).thing := if_pos hw
  rw [e1, e2, hw]
  obtain ⟨j, tt, hj, hjx, -, -⟩ : ∃ (j : Nat) (t : Th), thAt r (getW r h s).thing = (j : Int) ∧ r.ts[j]? = some t ∧ t.kind = 1 ∧ True := by
    rcases whoC_cases r h s 1 2 with ⟨_, _, ⟨j, t, h1, h2, h3, _⟩, _⟩ | ⟨e, _⟩ | ⟨e, _⟩ | ⟨e, h1⟩
    · exact ⟨j, t, h1, h2, h3, trivial⟩
    · rw [hw] at e; cases e
    · rw [hw] at e; cases e
    · rw [hw] at e; exact absurd e.symm h1
  rw [hj]
  have HC1 : Hid ((if 8 < d.size then 2 else 0) = C) := (show _ = _ from by rw [← HC.out]; exact (if_neg (fun h' => h' hw)).symm)
  clear HC e1 e2 hw hxr
  obtain ⟨x, hX⟩ : ∃ v, getW r h s = v := ⟨_, rfl⟩
  have Hx : Hid (getW r h s = x) := hX
  rw [hX] at hj ⊢
  clear hX
  have HJ : Hid (thAt r x.thing = (j : Int)) := hj
  have HJX : Hid (r.ts[j]? = some tt) := hjx
  have hjl : j < r.ts.length := (List.getElem?_eq_some_iff.1 hjx).1
  clear hj hjx
  by_cases hd : 8 < d.size
  · have hC : C = 2 := by rw [← HC1.out, if_pos hd]
    subst hC
    have hd1 : decide (8 < (d.size : Int)) = true := decide_eq_true (by omega)
    clear HC1 hd
    obtain ⟨cR0, cR1, cR2, cR3, cR4, cR5⟩ := BR1.c6
    have zR := BR1.1
    obtain ⟨cP0, cP1⟩ := BP1.c2
    have zP := BP1.1
    obtain ⟨cZ0, fZ0, cZ1, fZ1, cZ2, fZ2, cZ3, fZ3, cZ4, fZ4, cZ5, fZ5⟩ := BZ1.cf6
    have zZ := BZ1.1
    go_wp2_with fail
    obtain ⟨y0, y1, y2, y3, y4, y5⟩ := ((BZ1.put6 (.slice none 0 0) (.slice none 0 0) (.slice none 0 0) (.slice none 0 0) (.int .i64 0) (.int .i64 0)).alloc (.cells #[.int .i64 x.id, .int .i64 x.thing, .int .i64 x.rights, .int .i64 x.badge, .int .i64 x.frm] 39)).six
    have blF := ((below_set6 bl1 (b := w.heap.size + 1 + 1) (by omega) (.slice none 0 0) (.slice none 0 0) (.slice none 0 0) (.slice none 0 0) (.int .i64 0) (.int .i64 0)).alloc (below_set6 bl1 (b := w.heap.size + 1 + 1) (by omega) (.slice none 0 0) (.slice none 0 0) (.slice none 0 0) (.slice none 0 0) (.int .i64 0) (.int .i64 0)).size (.cells #[.int .i64 x.id, .int .i64 x.thing, .int .i64 x.rights, .int .i64 x.badge, .int .i64 x.frm] 39))
    refine bodyPost_ret (v := .tuple #[.agg #[.slice none 0 0, .slice none 0 0, .slice none 0 0, .slice none 0 0, .int .i64 0, .int .i64 0], .int .i64 2]) (by simp [results, Tryz.results59, go_sem, y0, y1, y2, y3, y4, y5]) rfl ?_
    exact ⟨.inl ⟨(by decide), rfl⟩, blF⟩
  have hC : C = 0 := by rw [← HC1.out, if_neg hd]
  have hd1 : decide (8 < (d.size : Int)) = false := decide_eq_false (by omega)
  clear HC1 hd
  obtain ⟨cR0, cR1, cR2, cR3, cR4, cR5⟩ := BR1.c6
  have zR := BR1.1
  obtain ⟨cP0, cP1⟩ := BP1.c2
  have zP := BP1.1
  obtain ⟨cZ0, cZ1, cZ2, cZ3, cZ4, cZ5⟩ := BZ1.c6
  have zZ := BZ1.1
  go_wp2_with fail
  clear cR0 cR1 cR2 cR3 cR4 cR5 zR cP0 cP1 zP cZ0 cZ1 cZ2 cZ3 cZ4 cZ5 zZ
  have BR2 := BR1.alloc (.cells #[.int .i64 x.id, .int .i64 x.thing, .int .i64 x.rights, .int .i64 x.badge, .int .i64 x.frm] 39)
  have BP2 := BP1.alloc (.cells #[.int .i64 x.id, .int .i64 x.thing, .int .i64 x.rights, .int .i64 x.badge, .int .i64 x.frm] 39)
  have BZ2 := BZ1.alloc (.cells #[.int .i64 x.id, .int .i64 x.thing, .int .i64 x.rights, .int .i64 x.badge, .int .i64 x.frm] 39)
  have bl2 := bl1.alloc bl1.size (.cells #[.int .i64 x.id, .int .i64 x.thing, .int .i64 x.rights, .int .i64 x.badge, .int .i64 x.frm] 39)
  have BX2 := Bx.new w1 [.int .i64 x.id, .int .i64 x.thing, .int .i64 x.rights, .int .i64 x.badge, .int .i64 x.frm] 39
  clear BR1 BP1 BZ1 bl1
  generalize hg2 : (w1.alloc (.cells #[.int .i64 x.id, .int .i64 x.thing, .int .i64 x.rights, .int .i64 x.badge, .int .i64 x.frm] 39)) = w2 at BR2 BP2 BZ2 BX2 bl2 ⊢
  clear hg2
  have sg2X := BX2.1
  have hs1 : w.heap.size ≤ w2.heap.size := bl2.size
  have hlow := BZ2.1
  refine (copyOf_own aw at_ ah an cw ct ch cn r _ (hr.below bl2) hz).mono ?_
  rintro e w3 ⟨b0, b1, b2, b3, d0, d1, d2, d3, rfl, hO, hb3⟩
  have sz3 : w2.heap.size ≤ w3.heap.size := hb3.size
  have BR3 := BR2.below hb3
  have BP3 := BP2.below hb3
  have BZ3 := BZ2.below hb3
  have BX3 := BX2.below hb3
  have bl3 := Below_after bl2 hb3
  clear BR2 BP2 BZ2 BX2 bl2
  have lw3 := BZ3.1
  obtain ⟨gT, cT, eT, hgT, -, hfT, -⟩ := (row_open hO.rt).resolve_left (by rintro ⟨-, e⟩; rw [e] at hjl; simp at hjl)
  obtain ⟨rfl, rfl⟩ : b1 = some ⟨gT, 0, none⟩ ∧ d1 = cT := by simpa using eT
  have O3 := hO
  clear hO eT
  obtain ⟨w4, e4⟩ : ∃ V, ((((((w3.setCell ⟨w.heap.size, 0, none⟩ (.slice b0 r.ws.length d0)).setCell ⟨w.heap.size, 1, none⟩ (.slice (some ⟨gT, 0, none⟩) r.ts.length d1)).setCell ⟨w.heap.size, 2, none⟩ (.slice b2 r.hs.length d2)).setCell ⟨w.heap.size, 3, none⟩ (.slice b3 r.ns.length d3)).setCell ⟨w.heap.size, 4, none⟩ (.int .i64 r.nw)).setCell ⟨w.heap.size, 5, none⟩ (.int .i64 r.nt)) = V := ⟨_, rfl⟩
  have BR4 : Bx w4 (w.heap.size) [.slice b0 r.ws.length d0, .slice (some ⟨gT, 0, none⟩) r.ts.length d1, .slice b2 r.hs.length d2, .slice b3 r.ns.length d3, .int .i64 r.nw, .int .i64 r.nt] := by rw [← e4]; exact BR3.put6 _ _ _ _ _ _
  have BP4 := BP3.past6 (b' := w.heap.size) (by omega) (.slice b0 r.ws.length d0) (.slice (some ⟨gT, 0, none⟩) r.ts.length d1) (.slice b2 r.hs.length d2) (.slice b3 r.ns.length d3) (.int .i64 r.nw) (.int .i64 r.nt)
  rw [e4] at BP4
  have BZ4 := BZ3.past6 (b' := w.heap.size) (by omega) (.slice b0 r.ws.length d0) (.slice (some ⟨gT, 0, none⟩) r.ts.length d1) (.slice b2 r.hs.length d2) (.slice b3 r.ns.length d3) (.int .i64 r.nw) (.int .i64 r.nt)
  rw [e4] at BZ4
  have BX4 := BX3.past6 (b' := w.heap.size) (by omega) (.slice b0 r.ws.length d0) (.slice (some ⟨gT, 0, none⟩) r.ts.length d1) (.slice b2 r.hs.length d2) (.slice b3 r.ns.length d3) (.int .i64 r.nw) (.int .i64 r.nt)
  rw [e4] at BX4
  have O4 := O3.set6 (b := w.heap.size) (by omega) (.slice b0 r.ws.length d0) (.slice (some ⟨gT, 0, none⟩) r.ts.length d1) (.slice b2 r.hs.length d2) (.slice b3 r.ns.length d3) (.int .i64 r.nw) (.int .i64 r.nt)
  rw [e4] at O4
  have bl4 := below_set6 bl3 (b := w.heap.size) (by omega) (.slice b0 r.ws.length d0) (.slice (some ⟨gT, 0, none⟩) r.ts.length d1) (.slice b2 r.hs.length d2) (.slice b3 r.ns.length d3) (.int .i64 r.nw) (.int .i64 r.nt)
  rw [e4] at bl4
  have hsw4 : w4.heap.size = w3.heap.size := by rw [← e4]; simp
  obtain ⟨old, hold⟩ : ∃ u, (r.ts.flatMap tcells)[j * 3 + 2]? = some u := ⟨_, List.getElem?_eq_getElem (by rw [flatlen_t]; omega)⟩
  have cT2 := O4.rt.cellAt (j * 3 + 2) (by omega)
  rw [hold] at cT2
  have fT2 := O4.rt.frozenAt (j * 3 + 2)
  have zT := (O4.rt.lt gT rfl).2
  have hgT' : w2.heap.size ≤ gT := hgT
  clear hold hgT
  have HO9 : Hid (OwnsR _ _ _ _ _ _ _) := O4.setThing d HJ.out HJX.out
  have BR9 := BR4.other (b' := gT) (by omega) (j * 3 + 2) (.string d)
  have BZ9 := BZ4.other (b' := gT) (by omega) (j * 3 + 2) (.string d)
  have bl9 := bl4.setCell (p := ⟨gT, j * 3 + 2, none⟩) (by show w.heap.size ≤ gT; omega) (.string d)
  obtain ⟨o0, g0, o1, g1, o2, g2, o3, g3, o4, g4, o5, g5⟩ := BR3.cf6
  have zo := BR3.1
  obtain ⟨cR0, cR1, cR2, cR3, cR4, cR5⟩ := BR4.c6
  have zR := BR4.1
  obtain ⟨V9, e9⟩ : ∃ V, w4.setCell ⟨gT, j * 3 + 2, none⟩ (.string d) = V := ⟨_, rfl⟩
  rw [e9] at BR9 BZ9 bl9 HO9
  obtain ⟨vR0, vR1, vR2, vR3, vR4, vR5⟩ := BR9.c6
  have vR := BR9.1
  obtain ⟨cZ0, fZ0, cZ1, fZ1, cZ2, fZ2, cZ3, fZ3, cZ4, fZ4, cZ5, fZ5⟩ := BZ9.cf6
  have zZ := BZ9.1
  clear BR3 BR4 BP3 BP4 BZ3 BZ4 BX3 BX4 O3 O4 bl3 bl4
  go_wp2_with fail
  obtain ⟨y0, y1, y2, y3, y4, y5⟩ := (BZ9.put6 (.slice b0 r.ws.length d0) (.slice (some ⟨gT, 0, none⟩) r.ts.length d1) (.slice b2 r.hs.length d2) (.slice b3 r.ns.length d3) (.int .i64 r.nw) (.int .i64 r.nt)).six
  have blF := (below_set6 bl9 (b := w.heap.size + 1 + 1) (by omega) (.slice b0 r.ws.length d0) (.slice (some ⟨gT, 0, none⟩) r.ts.length d1) (.slice b2 r.hs.length d2) (.slice b3 r.ns.length d3) (.int .i64 r.nw) (.int .i64 r.nt))
  refine bodyPost_ret (v := .tuple #[.agg #[.slice b0 r.ws.length d0, .slice (some ⟨gT, 0, none⟩) r.ts.length d1, .slice b2 r.hs.length d2, .slice b3 r.ns.length d3, .int .i64 r.nw, .int .i64 r.nt], .int .i64 0]) (by simp [results, Tryz.results59, go_sem, y0, y1, y2, y3, y4, y5]) rfl ?_
  exact OutP.ok (R := writeR r h s d) hC (by unfold writeR; rw [Hx.out]; exact HO9.out.set6 hlow _ _ _ _ _ _) blF
end Go.Proofs.YtddgpgldbekamaaGreat
