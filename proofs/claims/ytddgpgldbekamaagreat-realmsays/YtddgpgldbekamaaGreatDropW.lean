/- realm.Drop, Revoke (E5), as the landed code has them. -/
import Derived.Test.YtddgpgldbekamaaGreatBox
import Derived.Test.YtddgpgldbekamaaGreatSweepB
import Derived.Test.YtddgpgldbekamaaGreatMakeW
import Derived.Test.YtddgpgldbekamaaGreatBeneathW
set_option linter.unusedSimpArgs false
set_option linter.unnecessarySimpa false
set_option linter.unusedVariables false
namespace Go.Proofs.YtddgpgldbekamaaGreat
open Go.RowKit Go.Shelf


theorem sweep_at (aw at_ ah an : Option Addr) (cw ct ch cn : Nat) (r : Rm) (w : World) (hr : RmAt w aw at_ ah an cw ct ch cn r) (hz : RmSz r) (K0 K1 K2 K3 : Nat) (h0 : (sweepR r).ws.length = K0) (h1 : (sweepR r).ts.length = K1) (h2 : (sweepR r).hs.length = K2) (h3 : (sweepR r).ns.length = K3) :
    Calls Tryz.prog 41 #[.agg #[.slice aw r.ws.length cw, .slice at_ r.ts.length ct, .slice ah r.hs.length ch, .slice an r.ns.length cn, .int .i64 r.nw, .int .i64 r.nt]] w fun e w' => ∃ b0 b1 b2 b3 d0 d1 d2 d3, e = .returned (.agg #[.slice b0 K0 d0, .slice b1 K1 d1, .slice b2 K2 d2, .slice b3 K3 d3, .int .i64 r.nw, .int .i64 r.nt]) ∧ RmAt w' b0 b1 b2 b3 d0 d1 d2 d3 (sweepR r) ∧ ((b0 = aw ∨ HiA w.heap.size b0) ∧ HiA w.heap.size b1 ∧ HiA w.heap.size b2 ∧ HiA w.heap.size b3) ∧ Below w.heap.size w w' := by
  subst h0
  subst h1
  subst h2
  subst h3
  exact sweep_any aw at_ ah an cw ct ch cn r w hr hz
/-- a realm whose lists all lie from a block on, with a cell ahead of it set -/
theorem RmAt.set1 {w : World} {k z : Nat} {aw at_ ah an : Option Addr} {cw ct ch cn : Nat} {r : Rm} (h : RmAt w aw at_ ah an cw ct ch cn r) (h0 : HiA k aw) (h1 : HiA k at_) (h2 : HiA k ah) (h3 : HiA k an) (hz : z + 1 < k) (j : Nat) (u : Value) : RmAt (w.setCell ⟨z, j, none⟩ u) aw at_ ah an cw ct ch cn r :=
  ⟨h.w.setOff (.inr (off_hi h0 hz (m := z) (by omega))) (.inl rfl) j u, h.t.setOff (.inr (off_hi h1 hz (m := z) (by omega))) (.inl rfl) j u, h.h.setOff (.inr (off_hi h2 hz (m := z) (by omega))) (.inl rfl) j u, h.n.setOff (.inr (off_hi h3 hz (m := z) (by omega))) (.inl rfl) j u, h.fw, h.ft, h.fh, h.fn⟩
theorem RmAt.set6 {w : World} {k z : Nat} {aw at_ ah an : Option Addr} {cw ct ch cn : Nat} {r : Rm} (h : RmAt w aw at_ ah an cw ct ch cn r) (h0 : HiA k aw) (h1 : HiA k at_) (h2 : HiA k ah) (h3 : HiA k an) (hz : z + 1 < k) (x0 x1 x2 x3 x4 x5 : Value) :
    RmAt ((((((w.setCell ⟨z, 0, none⟩ x0).setCell ⟨z, 1, none⟩ x1).setCell ⟨z, 2, none⟩ x2).setCell ⟨z, 3, none⟩ x3).setCell ⟨z, 4, none⟩ x4).setCell ⟨z, 5, none⟩ x5) aw at_ ah an cw ct ch cn r :=
  (((((h.set1 h0 h1 h2 h3 hz 0 x0).set1 h0 h1 h2 h3 hz 1 x1).set1 h0 h1 h2 h3 hz 2 x2).set1 h0 h1 h2 h3 hz 3 x3).set1 h0 h1 h2 h3 hz 4 x4).set1 h0 h1 h2 h3 hz 5 x5
set_option maxHeartbeats 2000000 in
set_option maxRecDepth 100000 in
theorem drop_err (aw at_ ah an : Option Addr) (cw ct ch cn : Nat) (r : Rm) (h s : Int) (w : World) (hr : RmAt w aw at_ ah an cw ct ch cn r) (hz : RmSz r) (hc : getC r h s ≠ 0) :
    Calls Tryz.prog 50 #[.agg #[.slice aw r.ws.length cw, .slice at_ r.ts.length ct, .slice ah r.hs.length ch, .slice an r.ns.length cn, .int .i64 r.nw, .int .i64 r.nt], .agg #[.int .i64 h, .int .i64 s]] w fun e w' => e = .returned (.tuple #[.agg #[.slice none 0 0, .slice none 0 0, .slice none 0 0, .slice none 0 0, .int .i64 0, .int .i64 0], .iface 69 (.int .i64 (getC r h s))]) ∧ Below w.heap.size w w' := by
  obtain ⟨BR0, BP0, BZ0, bl0⟩ := boxes3 w [.slice aw r.ws.length cw, .slice at_ r.ts.length ct, .slice ah r.hs.length ch, .slice an r.ns.length cn, .int .i64 r.nw, .int .i64 r.nt] 30 [.int .i64 h, .int .i64 s] 33 [.slice none 0 0, .slice none 0 0, .slice none 0 0, .slice none 0 0, .int .i64 0, .int .i64 0] 30
  go_enter Tryz.func50, Tryz.ntmps50
  go_wp2_with fail
  refine (get_err aw at_ ah an cw ct ch cn r h s _ (hr.below bl0) hz hc).mono ?_
  rintro e w1 ⟨rfl, hb1⟩
  have BR1 := BR0.below hb1
  have BP1 := BP0.below hb1
  have BZ1 := BZ0.below hb1
  have bl1 := Below_after bl0 hb1
  clear BR0 BP0 BZ0 bl0
  have lw1 := BZ1.1
  generalize hD' : getC r h s = D at *
  have HD : Hid (getC r h s = D) := hD'
  clear hD'
  obtain ⟨cR0, cR1, cR2, cR3, cR4, cR5⟩ := BR1.c6
  have zR := BR1.1
  obtain ⟨cP0, cP1⟩ := BP1.c2
  have zP := BP1.1
  obtain ⟨cZ0, fZ0, cZ1, fZ1, cZ2, fZ2, cZ3, fZ3, cZ4, fZ4, cZ5, fZ5⟩ := BZ1.cf6
  have zZ := BZ1.1
  go_wp2_with fail
  obtain ⟨y0, y1, y2, y3, y4, y5⟩ := ((BZ1.put6 (.slice none 0 0) (.slice none 0 0) (.slice none 0 0) (.slice none 0 0) (.int .i64 0) (.int .i64 0)).alloc (.cells #[.int .i64 0, .int .i64 0, .int .i64 0, .int .i64 0, .int .i64 0] 39)).six
  have blF := ((below_set6 bl1 (b := w.heap.size + 1 + 1) (by omega) (.slice none 0 0) (.slice none 0 0) (.slice none 0 0) (.slice none 0 0) (.int .i64 0) (.int .i64 0)).alloc (below_set6 bl1 (b := w.heap.size + 1 + 1) (by omega) (.slice none 0 0) (.slice none 0 0) (.slice none 0 0) (.slice none 0 0) (.int .i64 0) (.int .i64 0)).size (.cells #[.int .i64 0, .int .i64 0, .int .i64 0, .int .i64 0, .int .i64 0] 39))
  refine bodyPost_ret (v := .tuple #[.agg #[.slice none 0 0, .slice none 0 0, .slice none 0 0, .slice none 0 0, .int .i64 0, .int .i64 0], .iface 69 (.int .i64 D)]) (by simp [results, Tryz.results50, go_sem, y0, y1, y2, y3, y4, y5]) rfl ?_
  exact ⟨by rw [HD.out], blF⟩
set_option maxHeartbeats 2000000 in
set_option maxRecDepth 100000 in
theorem drop_ok (aw at_ ah an : Option Addr) (cw ct ch cn : Nat) (r : Rm) (h s : Int) (w : World) (hr : RmAt w aw at_ ah an cw ct ch cn r) (hz : RmSz r) (hc : getC r h s = 0) :
    Calls Tryz.prog 50 #[.agg #[.slice aw r.ws.length cw, .slice at_ r.ts.length ct, .slice ah r.hs.length ch, .slice an r.ns.length cn, .int .i64 r.nw, .int .i64 r.nt], .agg #[.int .i64 h, .int .i64 s]] w fun e w' => ∃ b0 b1 b2 b3 d0 d1 d2 d3, e = .returned (.tuple #[.agg #[.slice b0 (dropR r h s).ws.length d0, .slice b1 (dropR r h s).ts.length d1, .slice b2 (dropR r h s).hs.length d2, .slice b3 (dropR r h s).ns.length d3, .int .i64 r.nw, .int .i64 r.nt], .nilIface]) ∧ RmAt w' b0 b1 b2 b3 d0 d1 d2 d3 (dropR r h s) ∧ (HiA w.heap.size b0 ∧ HiA w.heap.size b1 ∧ HiA w.heap.size b2 ∧ HiA w.heap.size b3) ∧ Below w.heap.size w w' := by
  obtain ⟨BR0, BP0, BZ0, bl0⟩ := boxes3 w [.slice aw r.ws.length cw, .slice at_ r.ts.length ct, .slice ah r.hs.length ch, .slice an r.ns.length cn, .int .i64 r.nw, .int .i64 r.nt] 30 [.int .i64 h, .int .i64 s] 33 [.slice none 0 0, .slice none 0 0, .slice none 0 0, .slice none 0 0, .int .i64 0, .int .i64 0] 30
  go_enter Tryz.func50, Tryz.ntmps50
  go_wp2_with fail
  refine (get_ok aw at_ ah an cw ct ch cn r h s _ (hr.below bl0) hz hc).mono ?_
  rintro e w1 ⟨rfl, hb1⟩
  have BR1 := BR0.below hb1
  have BP1 := BP0.below hb1
  have BZ1 := BZ0.below hb1
  have bl1 := Below_after bl0 hb1
  clear BR0 BP0 BZ0 bl0
  have lw1 := BZ1.1
  generalize hx' : getW r h s = x at *
  have Hx : Hid (getW r h s = x) := hx'
  clear hx'
  obtain ⟨cR0, cR1, cR2, cR3, cR4, cR5⟩ := BR1.c6
  have zR := BR1.1
  obtain ⟨cP0, cP1⟩ := BP1.c2
  have zP := BP1.1
  obtain ⟨cZ0, cZ1, cZ2, cZ3, cZ4, cZ5⟩ := BZ1.c6
  have zZ := BZ1.1
  go_wp2_with fail
  clear cR0 cR1 cR2 cR3 cR4 cR5 zR cP0 cP1 zP cZ0 cZ1 cZ2 cZ3 cZ4 cZ5 zZ
  have BR2 := BR1.alloc (.cells #[.int .i64 x.id, .int .i64 x.thing, .int .i64 x.rights, .int .i64 x.badge, .int .i64 x.frm] 39)
  have BP2 := BP1.alloc (.cells #[.int .i64 x.id, .int .i64 x.thing, .int .i64 x.rights, .int .i64 x.badge, .int .i64 x.frm] 39)
  have BZ2 := BZ1.alloc (.cells #[.int .i64 x.id, .int .i64 x.thing, .int .i64 x.rights, .int .i64 x.badge, .int .i64 x.frm] 39)
  have bl2 := bl1.alloc bl1.size (.cells #[.int .i64 x.id, .int .i64 x.thing, .int .i64 x.rights, .int .i64 x.badge, .int .i64 x.frm] 39)
  have BX2 := Bx.new w1 [.int .i64 x.id, .int .i64 x.thing, .int .i64 x.rights, .int .i64 x.badge, .int .i64 x.frm] 39
  clear BR1 BP1 BZ1 bl1
  generalize hg2 : (w1.alloc (.cells #[.int .i64 x.id, .int .i64 x.thing, .int .i64 x.rights, .int .i64 x.badge, .int .i64 x.frm] 39)) = w2 at BR2 BP2 BZ2 BX2 bl2 ⊢
  clear hg2
  have sg2X := BX2.1
  have hlow := BZ2.1
  have hzl : w.heap.size + 1 + 1 + 1 < w2.heap.size := by omega
  refine (copy_at aw at_ ah an cw ct ch cn r _ (hr.below bl2) hz).mono ?_
  rintro e w3 ⟨b0, b1, b2, b3, d0, d1, d2, d3, rfl, hO, hb3⟩
  have sz3 : w2.heap.size ≤ w3.heap.size := hb3.size
  have BR3 := BR2.below hb3
  have BP3 := BP2.below hb3
  have BZ3 := BZ2.below hb3
  have BX3 := BX2.below hb3
  have bl3 := Below_after bl2 hb3
  clear BR2 BP2 BZ2 BX2 bl2
  have lw3 := BZ3.1
  obtain ⟨cR0, cR1, cR2, cR3, cR4, cR5⟩ := BR3.c6
  have zR := BR3.1
  obtain ⟨cP0, cP1⟩ := BP3.c2
  have zP := BP3.1
  obtain ⟨cZ0, cZ1, cZ2, cZ3, cZ4, cZ5⟩ := BZ3.c6
  have zZ := BZ3.1
  obtain ⟨cX0, cX1, cX2, cX3, cX4⟩ := BX3.c5
  have zX := BX3.1
  have HO : Hid (OwnsR w3 _ _ _ _ _ _) := hO
  clear hO
  go_wp2_with fail
  clear cR0 cR1 cR2 cR3 cR4 cR5 zR cP0 cP1 zP cZ0 cZ1 cZ2 cZ3 cZ4 cZ5 zZ cX0 cX1 cX2 cX3 cX4 zX
  have tag := RTag.new w3 #[.slice b0 r.ws.length d0, .slice b1 r.ts.length d1, .slice b2 r.hs.length d2, .slice b3 r.ns.length d3, .int .i64 r.nw, .int .i64 r.nt]
  have hO3 := HO.out.below ((Below.refl _ _).alloc (Nat.le_refl _) (.cells #[.slice b0 r.ws.length d0, .slice b1 r.ts.length d1, .slice b2 r.hs.length d2, .slice b3 r.ns.length d3, .int .i64 r.nw, .int .i64 r.nt] 30))
  clear HO
  have BR4 := BR3.alloc (.cells #[.slice b0 r.ws.length d0, .slice b1 r.ts.length d1, .slice b2 r.hs.length d2, .slice b3 r.ns.length d3, .int .i64 r.nw, .int .i64 r.nt] 30)
  have BP4 := BP3.alloc (.cells #[.slice b0 r.ws.length d0, .slice b1 r.ts.length d1, .slice b2 r.hs.length d2, .slice b3 r.ns.length d3, .int .i64 r.nw, .int .i64 r.nt] 30)
  have BZ4 := BZ3.alloc (.cells #[.slice b0 r.ws.length d0, .slice b1 r.ts.length d1, .slice b2 r.hs.length d2, .slice b3 r.ns.length d3, .int .i64 r.nw, .int .i64 r.nt] 30)
  have BX4 := BX3.alloc (.cells #[.slice b0 r.ws.length d0, .slice b1 r.ts.length d1, .slice b2 r.hs.length d2, .slice b3 r.ns.length d3, .int .i64 r.nw, .int .i64 r.nt] 30)
  have bl4 := bl3.alloc bl3.size (.cells #[.slice b0 r.ws.length d0, .slice b1 r.ts.length d1, .slice b2 r.hs.length d2, .slice b3 r.ns.length d3, .int .i64 r.nw, .int .i64 r.nt] 30)
  have BO4 := Bx.new w3 [.slice b0 r.ws.length d0, .slice b1 r.ts.length d1, .slice b2 r.hs.length d2, .slice b3 r.ns.length d3, .int .i64 r.nw, .int .i64 r.nt] 30
  clear BR3 BP3 BZ3 BX3 bl3
  generalize hg : (w3.alloc (.cells #[.slice b0 r.ws.length d0, .slice b1 r.ts.length d1, .slice b2 r.hs.length d2, .slice b3 r.ns.length d3, .int .i64 r.nw, .int .i64 r.nt] 30)) = w4 at BR4 BP4 BZ4 BX4 BO4 bl4 tag hO3 ⊢
  clear hg
  have hs3 : w3.heap.size < w4.heap.size := BO4.1
  obtain ⟨M, hM⟩ : ∃ M, (withoutL r.ws x.id).length = M := ⟨_, rfl⟩
  have HM : Hid ((withoutL r.ws x.id).length = M) := hM
  clear hM
  refine (without_any b0 d0 r.ws x.id _ (WrsAt.ofRow hO3.rw_).1 hz.w).mono ?_
  rintro e w5 ⟨v5, rfl, ho5, hb5⟩
  have sz5 : w4.heap.size ≤ w5.heap.size := hb5.size
  have hO4 := hO3.below hb5
  have tag4 := tag.below hb5
  obtain ⟨a5, c5, hv5, -, -⟩ := wrow_at ho5
  rw [HM.out] at hv5
  subst hv5
  have hi5 : HiA w2.heap.size a5 := fun ad had => by have := hi_of_row ho5 ad had; omega
  clear hO3 tag
  have BR5 := BR4.below hb5
  have BP5 := BP4.below hb5
  have BZ5 := BZ4.below hb5
  have BX5 := BX4.below hb5
  have BO5 := BO4.below hb5
  have bl5 := Below_after bl4 hb5
  clear BR4 BP4 BZ4 BX4 BO4 bl4
  have lw5 := BZ5.1
  obtain ⟨cR0, cR1, cR2, cR3, cR4, cR5⟩ := BR5.c6
  have zR := BR5.1
  obtain ⟨cP0, cP1⟩ := BP5.c2
  have zP := BP5.1
  obtain ⟨cZ0, cZ1, cZ2, cZ3, cZ4, cZ5⟩ := BZ5.c6
  have zZ := BZ5.1
  obtain ⟨cX0, cX1, cX2, cX3, cX4⟩ := BX5.c5
  have zX := BX5.1
  obtain ⟨cO0, fO0, cO1, fO1, cO2, fO2, cO3, fO3, cO4, fO4, cO5, fO5⟩ := BO5.cf6
  have zO := BO5.1
  have HO4 : Hid (OwnsR _ _ _ _ _ _ _) := hO4
  have HT4 : Hid (RTag _ _) := tag4
  clear hO4 tag4
  go_wp2_with fail
  clear cR0 cR1 cR2 cR3 cR4 cR5 zR cP0 cP1 zP cZ0 cZ1 cZ2 cZ3 cZ4 cZ5 zZ cX0 cX1 cX2 cX3 cX4 zX cO0 fO0 cO1 fO1 cO2 fO2 cO3 fO3 cO4 fO4 cO5 fO5 zO
  have hO5 := (HO4.out.setTag HT4.out 0 (.slice a5 M c5)).rm
  have ho6 := ownsRow_set_other ho5 (own_ne_tag ho5 HT4.out (by decide)) 0 (.slice a5 M c5)
  clear HO4 HT4 ho5
  have BR6 := BR5.other (b' := w3.heap.size) (by first | omega | (have := BO5.1; have := BR5.1; omega)) 0 (.slice a5 M c5)
  have BP6 := BP5.other (b' := w3.heap.size) (by first | omega | (have := BO5.1; have := BP5.1; omega)) 0 (.slice a5 M c5)
  have BZ6 := BZ5.other (b' := w3.heap.size) (by first | omega | (have := BO5.1; have := BZ5.1; omega)) 0 (.slice a5 M c5)
  have BX6 := BX5.other (b' := w3.heap.size) (by first | omega | (have := BO5.1; have := BX5.1; omega)) 0 (.slice a5 M c5)
  have BO6 := BO5.set 0 (.slice a5 M c5)
  simp only [List.set_cons_zero, List.set_cons_succ] at BO6
  have bl6 := bl5.setCell (p := ⟨w3.heap.size, 0, none⟩) (by show w.heap.size ≤ w3.heap.size; omega) (.slice a5 M c5)
  clear BR5 BP5 BZ5 BX5 BO5 bl5
  generalize hg : (w5.setCell ⟨w3.heap.size, 0, none⟩ (.slice a5 M c5)) = w6 at BR6 BP6 BZ6 BX6 BO6 bl6 hO5 ho6 ⊢
  clear hg
  have gz6 := BO6.1
  obtain ⟨hW5, -, hF5⟩ := WrsAt.ofRow ho6
  clear ho6
  have hz5 : RmSz (⟨withoutL r.ws x.id, r.ts, r.hs, r.ns, r.nw, r.nt⟩ : Rm) := ⟨Nat.le_trans (withoutLen r.ws x.id) hz.w, hz.t, hz.h, hz.n, hz.nw, hz.nt⟩
  obtain ⟨K0, hK0⟩ : ∃ K, (sweepR (⟨withoutL r.ws x.id, r.ts, r.hs, r.ns, r.nw, r.nt⟩ : Rm)).ws.length = K := ⟨_, rfl⟩
  have HK0 : Hid ((sweepR (⟨withoutL r.ws x.id, r.ts, r.hs, r.ns, r.nw, r.nt⟩ : Rm)).ws.length = K0) := hK0
  clear hK0
  obtain ⟨K1, hK1⟩ : ∃ K, (sweepR (⟨withoutL r.ws x.id, r.ts, r.hs, r.ns, r.nw, r.nt⟩ : Rm)).ts.length = K := ⟨_, rfl⟩
  have HK1 : Hid ((sweepR (⟨withoutL r.ws x.id, r.ts, r.hs, r.ns, r.nw, r.nt⟩ : Rm)).ts.length = K1) := hK1
  clear hK1
  obtain ⟨K2, hK2⟩ : ∃ K, (sweepR (⟨withoutL r.ws x.id, r.ts, r.hs, r.ns, r.nw, r.nt⟩ : Rm)).hs.length = K := ⟨_, rfl⟩
  have HK2 : Hid ((sweepR (⟨withoutL r.ws x.id, r.ts, r.hs, r.ns, r.nw, r.nt⟩ : Rm)).hs.length = K2) := hK2
  clear hK2
  obtain ⟨K3, hK3⟩ : ∃ K, (sweepR (⟨withoutL r.ws x.id, r.ts, r.hs, r.ns, r.nw, r.nt⟩ : Rm)).ns.length = K := ⟨_, rfl⟩
  have HK3 : Hid ((sweepR (⟨withoutL r.ws x.id, r.ts, r.hs, r.ns, r.nw, r.nt⟩ : Rm)).ns.length = K3) := hK3
  clear hK3
  have hr5 : RmAt w6 a5 b1 b2 b3 c5 d1 d2 d3 (⟨withoutL r.ws x.id, r.ts, r.hs, r.ns, r.nw, r.nt⟩ : Rm) := ⟨hW5, hO5.t, hO5.h, hO5.n, hF5, hO5.ft, hO5.fh, hO5.fn⟩
  have hcon := sweep_at a5 b1 b2 b3 c5 d1 d2 d3 (⟨withoutL r.ws x.id, r.ts, r.hs, r.ns, r.nw, r.nt⟩ : Rm) w6 hr5 hz5 K0 K1 K2 K3 HK0.out HK1.out HK2.out HK3.out
  dsimp only at hcon
  rw [HM.out] at hcon
  clear hr5 hz5 hW5
  refine (hcon).mono ?_
  rintro e w7 ⟨s0, s1, s2, s3, t0, t1, t2, t3, rfl, hrm, ⟨i0, i1, i2, i3⟩, hb7⟩
  have sz7 : w6.heap.size ≤ w7.heap.size := hb7.size
  clear hcon
  have BR7 := BR6.below hb7
  have BP7 := BP6.below hb7
  have BZ7 := BZ6.below hb7
  have BX7 := BX6.below hb7
  have BO7 := BO6.below hb7
  have bl7 := Below_after bl6 hb7
  clear BR6 BP6 BZ6 BX6 BO6 bl6
  have lw7 := BZ7.1
  have j0 : HiA w2.heap.size s0 := by
    rcases i0 with rfl | h
    · exact hi5
    · exact fun ad had => by have := h ad had; omega
  have j1 : HiA w2.heap.size s1 := fun ad had => by have := i1 ad had; omega
  have j2 : HiA w2.heap.size s2 := fun ad had => by have := i2 ad had; omega
  have j3 : HiA w2.heap.size s3 := fun ad had => by have := i3 ad had; omega
  clear i0 i1 i2 i3
  have HRM : Hid (RmAt _ _ _ _ _ _ _ _ _ _) := hrm
  clear hrm
  obtain ⟨cR0, cR1, cR2, cR3, cR4, cR5⟩ := BR7.c6
  have zR := BR7.1
  obtain ⟨cP0, cP1⟩ := BP7.c2
  have zP := BP7.1
  obtain ⟨cZ0, fZ0, cZ1, fZ1, cZ2, fZ2, cZ3, fZ3, cZ4, fZ4, cZ5, fZ5⟩ := BZ7.cf6
  have zZ := BZ7.1
  obtain ⟨cX0, cX1, cX2, cX3, cX4⟩ := BX7.c5
  have zX := BX7.1
  obtain ⟨cO0, cO1, cO2, cO3, cO4, cO5⟩ := BO7.c6
  have zO := BO7.1
  go_wp2_with fail
  obtain ⟨y0, y1, y2, y3, y4, y5⟩ := (BZ7.put6 (.slice s0 K0 t0) (.slice s1 K1 t1) (.slice s2 K2 t2) (.slice s3 K3 t3) (.int .i64 r.nw) (.int .i64 r.nt)).six
  have blF := (below_set6 bl7 (b := w.heap.size + 1 + 1) (by omega) (.slice s0 K0 t0) (.slice s1 K1 t1) (.slice s2 K2 t2) (.slice s3 K3 t3) (.int .i64 r.nw) (.int .i64 r.nt))
  refine bodyPost_ret (v := .tuple #[.agg #[.slice s0 K0 t0, .slice s1 K1 t1, .slice s2 K2 t2, .slice s3 K3 t3, .int .i64 r.nw, .int .i64 r.nt], .nilIface]) (by simp [results, Tryz.results50, go_sem, y0, y1, y2, y3, y4, y5]) rfl ?_
  exact ⟨s0, s1, s2, s3, t0, t1, t2, t3, by unfold dropR; rw [Hx.out]; rw [HK0.out, HK1.out, HK2.out, HK3.out], by unfold dropR; rw [Hx.out]; exact HRM.out.set6 j0 j1 j2 j3 hzl _ _ _ _ _ _, ⟨fun ad had => by have := j0 ad had; omega, fun ad had => by have := j1 ad had; omega, fun ad had => by have := j2 ad had; omega, fun ad had => by have := j3 ad had; omega⟩, blF⟩
set_option maxHeartbeats 2000000 in
set_option maxRecDepth 100000 in
theorem revoke_err (aw at_ ah an : Option Addr) (cw ct ch cn : Nat) (r : Rm) (h s : Int) (w : World) (hr : RmAt w aw at_ ah an cw ct ch cn r) (hz : RmSz r) (hc : getC r h s ≠ 0) :
    Calls Tryz.prog 51 #[.agg #[.slice aw r.ws.length cw, .slice at_ r.ts.length ct, .slice ah r.hs.length ch, .slice an r.ns.length cn, .int .i64 r.nw, .int .i64 r.nt], .agg #[.int .i64 h, .int .i64 s]] w fun e w' => e = .returned (.tuple #[.agg #[.slice none 0 0, .slice none 0 0, .slice none 0 0, .slice none 0 0, .int .i64 0, .int .i64 0], .iface 69 (.int .i64 (getC r h s))]) ∧ Below w.heap.size w w' := by
  obtain ⟨BR0, BP0, BZ0, bl0⟩ := boxes3 w [.slice aw r.ws.length cw, .slice at_ r.ts.length ct, .slice ah r.hs.length ch, .slice an r.ns.length cn, .int .i64 r.nw, .int .i64 r.nt] 30 [.int .i64 h, .int .i64 s] 33 [.slice none 0 0, .slice none 0 0, .slice none 0 0, .slice none 0 0, .int .i64 0, .int .i64 0] 30
  go_enter Tryz.func51, Tryz.ntmps51
  go_wp2_with fail
  refine (get_err aw at_ ah an cw ct ch cn r h s _ (hr.below bl0) hz hc).mono ?_
  rintro e w1 ⟨rfl, hb1⟩
  have BR1 := BR0.below hb1
  have BP1 := BP0.below hb1
  have BZ1 := BZ0.below hb1
  have bl1 := Below_after bl0 hb1
  clear BR0 BP0 BZ0 bl0
  have lw1 := BZ1.1
  generalize hD' : getC r h s = D at *
  have HD : Hid (getC r h s = D) := hD'
  clear hD'
  obtain ⟨cR0, cR1, cR2, cR3, cR4, cR5⟩ := BR1.c6
  have zR := BR1.1
  obtain ⟨cP0, cP1⟩ := BP1.c2
  have zP := BP1.1
  obtain ⟨cZ0, fZ0, cZ1, fZ1, cZ2, fZ2, cZ3, fZ3, cZ4, fZ4, cZ5, fZ5⟩ := BZ1.cf6
  have zZ := BZ1.1
  go_wp2_with fail
  obtain ⟨y0, y1, y2, y3, y4, y5⟩ := ((BZ1.put6 (.slice none 0 0) (.slice none 0 0) (.slice none 0 0) (.slice none 0 0) (.int .i64 0) (.int .i64 0)).alloc (.cells #[.int .i64 0, .int .i64 0, .int .i64 0, .int .i64 0, .int .i64 0] 39)).six
  have blF := ((below_set6 bl1 (b := w.heap.size + 1 + 1) (by omega) (.slice none 0 0) (.slice none 0 0) (.slice none 0 0) (.slice none 0 0) (.int .i64 0) (.int .i64 0)).alloc (below_set6 bl1 (b := w.heap.size + 1 + 1) (by omega) (.slice none 0 0) (.slice none 0 0) (.slice none 0 0) (.slice none 0 0) (.int .i64 0) (.int .i64 0)).size (.cells #[.int .i64 0, .int .i64 0, .int .i64 0, .int .i64 0, .int .i64 0] 39))
  refine bodyPost_ret (v := .tuple #[.agg #[.slice none 0 0, .slice none 0 0, .slice none 0 0, .slice none 0 0, .int .i64 0, .int .i64 0], .iface 69 (.int .i64 D)]) (by simp [results, Tryz.results51, go_sem, y0, y1, y2, y3, y4, y5]) rfl ?_
  exact ⟨by rw [HD.out], blF⟩
set_option maxHeartbeats 2000000 in
set_option maxRecDepth 100000 in
theorem revoke_ok (aw at_ ah an : Option Addr) (cw ct ch cn : Nat) (r : Rm) (h s : Int) (w : World) (hr : RmAt w aw at_ ah an cw ct ch cn r) (hz : RmSz r) (hc : getC r h s = 0) (hwf : ∀ x ∈ r.ws, (Lit.int .i64 x.id).wf = true ∧ (Lit.int .i64 x.frm).wf = true) :
    Calls Tryz.prog 51 #[.agg #[.slice aw r.ws.length cw, .slice at_ r.ts.length ct, .slice ah r.hs.length ch, .slice an r.ns.length cn, .int .i64 r.nw, .int .i64 r.nt], .agg #[.int .i64 h, .int .i64 s]] w fun e w' => ∃ b0 b1 b2 b3 d0 d1 d2 d3, e = .returned (.tuple #[.agg #[.slice b0 (revokeR r h s).ws.length d0, .slice b1 (revokeR r h s).ts.length d1, .slice b2 (revokeR r h s).hs.length d2, .slice b3 (revokeR r h s).ns.length d3, .int .i64 r.nw, .int .i64 r.nt], .nilIface]) ∧ RmAt w' b0 b1 b2 b3 d0 d1 d2 d3 (revokeR r h s) ∧ (HiA w.heap.size b0 ∧ HiA w.heap.size b1 ∧ HiA w.heap.size b2 ∧ HiA w.heap.size b3) ∧ Below w.heap.size w w' := by
  have hmf : ∀ (fn : Fn) (first cap : Array Value) (w : World), (Instr.makeFunc fn first cap).run Tryz.prog w = .ok (.func fn first cap) w := fun _ _ _ _ => rfl
  have eg : ∀ args w, (callFunc 92 args).run Tryz.prog w = .ok (.enter 92 args) w := enters_of Tryz.func92 (by kernel_rfl) rfl
  obtain ⟨BR0, BP0, BZ0, bl0⟩ := boxes3 w [.slice aw r.ws.length cw, .slice at_ r.ts.length ct, .slice ah r.hs.length ch, .slice an r.ns.length cn, .int .i64 r.nw, .int .i64 r.nt] 30 [.int .i64 h, .int .i64 s] 33 [.slice none 0 0, .slice none 0 0, .slice none 0 0, .slice none 0 0, .int .i64 0, .int .i64 0] 30
  go_enter Tryz.func51, Tryz.ntmps51
  go_wp2_with fail
  refine (get_ok aw at_ ah an cw ct ch cn r h s _ (hr.below bl0) hz hc).mono ?_
  rintro e w1 ⟨rfl, hb1⟩
  have BR1 := BR0.below hb1
  have BP1 := BP0.below hb1
  have BZ1 := BZ0.below hb1
  have bl1 := Below_after bl0 hb1
  clear BR0 BP0 BZ0 bl0
  have lw1 := BZ1.1
  generalize hx' : getW r h s = x at *
  have Hx : Hid (getW r h s = x) := hx'
  clear hx'
  obtain ⟨cR0, cR1, cR2, cR3, cR4, cR5⟩ := BR1.c6
  have zR := BR1.1
  obtain ⟨cP0, cP1⟩ := BP1.c2
  have zP := BP1.1
  obtain ⟨cZ0, cZ1, cZ2, cZ3, cZ4, cZ5⟩ := BZ1.c6
  have zZ := BZ1.1
  go_wp2_with fail
  clear cR0 cR1 cR2 cR3 cR4 cR5 zR cP0 cP1 zP cZ0 cZ1 cZ2 cZ3 cZ4 cZ5 zZ
  have BR2 := BR1.alloc (.cells #[.int .i64 x.id, .int .i64 x.thing, .int .i64 x.rights, .int .i64 x.badge, .int .i64 x.frm] 39)
  have BP2 := BP1.alloc (.cells #[.int .i64 x.id, .int .i64 x.thing, .int .i64 x.rights, .int .i64 x.badge, .int .i64 x.frm] 39)
  have BZ2 := BZ1.alloc (.cells #[.int .i64 x.id, .int .i64 x.thing, .int .i64 x.rights, .int .i64 x.badge, .int .i64 x.frm] 39)
  have bl2 := bl1.alloc bl1.size (.cells #[.int .i64 x.id, .int .i64 x.thing, .int .i64 x.rights, .int .i64 x.badge, .int .i64 x.frm] 39)
  have BX2 := Bx.new w1 [.int .i64 x.id, .int .i64 x.thing, .int .i64 x.rights, .int .i64 x.badge, .int .i64 x.frm] 39
  clear BR1 BP1 BZ1 bl1
  generalize hg2 : (w1.alloc (.cells #[.int .i64 x.id, .int .i64 x.thing, .int .i64 x.rights, .int .i64 x.badge, .int .i64 x.frm] 39)) = w2 at BR2 BP2 BZ2 BX2 bl2 ⊢
  clear hg2
  have sg2X := BX2.1
  refine (beneath_any aw cw r.ws x.id _ (hr.w.below bl2) hz.w hwf).mono ?_
  rintro e w3 ⟨aB, cB, rfl, iB, lB, hb3⟩
  have sz3 : w2.heap.size ≤ w3.heap.size := hb3.size
  have BR3 := BR2.below hb3
  have BP3 := BP2.below hb3
  have BZ3 := BZ2.below hb3
  have BX3 := BX2.below hb3
  have bl3 := Below_after bl2 hb3
  clear BR2 BP2 BZ2 BX2 bl2
  have lw3 := BZ3.1
  have hZ : (beneathL r.ws x.id).length ≤ 1000 := Nat.le_trans (beneathLen r.ws x.id) hz.w
  generalize hB' : beneathL r.ws x.id = Z at *
  have HBn : Hid (beneathL r.ws x.id = Z) := hB'
  clear hB'
  obtain ⟨cR0, cR1, cR2, cR3, cR4, cR5⟩ := BR3.c6
  have zR := BR3.1
  obtain ⟨cP0, cP1⟩ := BP3.c2
  have zP := BP3.1
  obtain ⟨cZ0, cZ1, cZ2, cZ3, cZ4, cZ5⟩ := BZ3.c6
  have zZ := BZ3.1
  obtain ⟨cX0, cX1, cX2, cX3, cX4⟩ := BX3.c5
  have zX := BX3.1
  go_wp2_with fail
  clear cR0 cR1 cR2 cR3 cR4 cR5 zR cP0 cP1 zP cZ0 cZ1 cZ2 cZ3 cZ4 cZ5 zZ cX0 cX1 cX2 cX3 cX4 zX
  have bA : Below w3.heap.size w3 (w3.alloc (.cells #[.slice aB Z.length cB] 119)) := (Below.refl _ _).alloc (Nat.le_refl _) _
  replace iB := iB.below bA lB
  replace lB : ∀ b o, aB = some ⟨b, o, none⟩ → b < (w3.alloc (.cells #[.slice aB Z.length cB] 119)).heap.size := fun b o h => Nat.lt_of_lt_of_le (lB b o h) bA.size
  clear bA
  have BR4 := BR3.alloc (.cells #[.slice aB Z.length cB] 119)
  have BP4 := BP3.alloc (.cells #[.slice aB Z.length cB] 119)
  have BZ4 := BZ3.alloc (.cells #[.slice aB Z.length cB] 119)
  have BX4 := BX3.alloc (.cells #[.slice aB Z.length cB] 119)
  have bl4 := bl3.alloc bl3.size (.cells #[.slice aB Z.length cB] 119)
  have BB4 := Bx.new w3 [.slice aB Z.length cB] 119
  clear BR3 BP3 BZ3 BX3 bl3
  generalize hg : (w3.alloc (.cells #[.slice aB Z.length cB] 119)) = w4 at BR4 BP4 BZ4 BX4 BB4 bl4 iB lB ⊢
  clear hg
  have sgB := BB4.1
  have hlow := BZ4.1
  have hzl : w.heap.size + 1 + 1 + 1 < w4.heap.size := by omega
  refine (copy_at aw at_ ah an cw ct ch cn r _ (hr.below bl4) hz).mono ?_
  rintro e w5 ⟨b0, b1, b2, b3, d0, d1, d2, d3, rfl, hO, hb5⟩
  have sz5 : w4.heap.size ≤ w5.heap.size := hb5.size
  have BR5 := BR4.below hb5
  have BP5 := BP4.below hb5
  have BZ5 := BZ4.below hb5
  have BX5 := BX4.below hb5
  have BB5 := BB4.below hb5
  have bl5 := Below_after bl4 hb5
  clear BR4 BP4 BZ4 BX4 BB4 bl4
  have lw5 := BZ5.1
  replace iB := iB.below hb5 lB
  replace lB : ∀ b o, aB = some ⟨b, o, none⟩ → b < w5.heap.size := fun b o h => Nat.lt_of_lt_of_le (lB b o h) sz5
  obtain ⟨cR0, cR1, cR2, cR3, cR4, cR5⟩ := BR5.c6
  have zR := BR5.1
  obtain ⟨cP0, cP1⟩ := BP5.c2
  have zP := BP5.1
  obtain ⟨cZ0, cZ1, cZ2, cZ3, cZ4, cZ5⟩ := BZ5.c6
  have zZ := BZ5.1
  obtain ⟨cX0, cX1, cX2, cX3, cX4⟩ := BX5.c5
  have zX := BX5.1
  have cB0 := (BB5.2 0 _ rfl).1
  have zB := BB5.1
  have HO : Hid (OwnsR w5 _ _ _ _ _ _) := hO
  clear hO
  go_wp2_with fail
  clear cR0 cR1 cR2 cR3 cR4 cR5 zR cP0 cP1 zP cZ0 cZ1 cZ2 cZ3 cZ4 cZ5 zZ cX0 cX1 cX2 cX3 cX4 zX cB0 zB
  have tag := RTag.new w5 #[.slice b0 r.ws.length d0, .slice b1 r.ts.length d1, .slice b2 r.hs.length d2, .slice b3 r.ns.length d3, .int .i64 r.nw, .int .i64 r.nt]
  have hO3 := HO.out.below ((Below.refl _ _).alloc (Nat.le_refl _) (.cells #[.slice b0 r.ws.length d0, .slice b1 r.ts.length d1, .slice b2 r.hs.length d2, .slice b3 r.ns.length d3, .int .i64 r.nw, .int .i64 r.nt] 30))
  clear HO
  have bA : Below w5.heap.size w5 (w5.alloc (.cells #[.slice b0 r.ws.length d0, .slice b1 r.ts.length d1, .slice b2 r.hs.length d2, .slice b3 r.ns.length d3, .int .i64 r.nw, .int .i64 r.nt] 30)) := (Below.refl _ _).alloc (Nat.le_refl _) _
  replace iB := iB.below bA lB
  replace lB : ∀ b o, aB = some ⟨b, o, none⟩ → b < (w5.alloc (.cells #[.slice b0 r.ws.length d0, .slice b1 r.ts.length d1, .slice b2 r.hs.length d2, .slice b3 r.ns.length d3, .int .i64 r.nw, .int .i64 r.nt] 30)).heap.size := fun b o h => Nat.lt_of_lt_of_le (lB b o h) bA.size
  clear bA
  have BR6 := BR5.alloc (.cells #[.slice b0 r.ws.length d0, .slice b1 r.ts.length d1, .slice b2 r.hs.length d2, .slice b3 r.ns.length d3, .int .i64 r.nw, .int .i64 r.nt] 30)
  have BP6 := BP5.alloc (.cells #[.slice b0 r.ws.length d0, .slice b1 r.ts.length d1, .slice b2 r.hs.length d2, .slice b3 r.ns.length d3, .int .i64 r.nw, .int .i64 r.nt] 30)
  have BZ6 := BZ5.alloc (.cells #[.slice b0 r.ws.length d0, .slice b1 r.ts.length d1, .slice b2 r.hs.length d2, .slice b3 r.ns.length d3, .int .i64 r.nw, .int .i64 r.nt] 30)
  have BX6 := BX5.alloc (.cells #[.slice b0 r.ws.length d0, .slice b1 r.ts.length d1, .slice b2 r.hs.length d2, .slice b3 r.ns.length d3, .int .i64 r.nw, .int .i64 r.nt] 30)
  have BB6 := BB5.alloc (.cells #[.slice b0 r.ws.length d0, .slice b1 r.ts.length d1, .slice b2 r.hs.length d2, .slice b3 r.ns.length d3, .int .i64 r.nw, .int .i64 r.nt] 30)
  have bl6 := bl5.alloc bl5.size (.cells #[.slice b0 r.ws.length d0, .slice b1 r.ts.length d1, .slice b2 r.hs.length d2, .slice b3 r.ns.length d3, .int .i64 r.nw, .int .i64 r.nt] 30)
  have BO6 := Bx.new w5 [.slice b0 r.ws.length d0, .slice b1 r.ts.length d1, .slice b2 r.hs.length d2, .slice b3 r.ns.length d3, .int .i64 r.nw, .int .i64 r.nt] 30
  clear BR5 BP5 BZ5 BX5 BB5 bl5
  generalize hg : (w5.alloc (.cells #[.slice b0 r.ws.length d0, .slice b1 r.ts.length d1, .slice b2 r.hs.length d2, .slice b3 r.ns.length d3, .int .i64 r.nw, .int .i64 r.nt] 30)) = w6 at BR6 BP6 BZ6 BX6 BB6 BO6 bl6 tag hO3 iB lB ⊢
  clear hg
  have hs3 : w5.heap.size < w6.heap.size := BO6.1
  obtain ⟨M, hM⟩ : ∃ M, (r.ws.filter (fun y => !inB Z y.id)).length = M := ⟨_, rfl⟩
  have HM : Hid ((r.ws.filter (fun y => !inB Z y.id)).length = M) := hM
  clear hM
  refine (leave_w b0 d0 r.ws (fun y => inB Z y.id) 92 _ eg _ (revoke1 aB cB Z (w3.heap.size) _ (BB6.2 0 _ rfl).1 BB6.1 iB lB (by omega)) (WrsAt.ofRow hO3.rw_).1 (by have := hz.w; omega)).mono ?_
  rintro e w7 ⟨v5, rfl, ho5, hb7⟩
  have sz7 : w6.heap.size ≤ w7.heap.size := hb7.size
  have hO4 := hO3.below hb7
  have tag4 := tag.below hb7
  obtain ⟨a5, c5, hv5, -, -⟩ := wrow_at ho5
  rw [HM.out] at hv5
  subst hv5
  have hi5 : HiA w4.heap.size a5 := fun ad had => by have := hi_of_row ho5 ad had; omega
  clear hO3 tag iB lB
  have BR7 := BR6.below hb7
  have BP7 := BP6.below hb7
  have BZ7 := BZ6.below hb7
  have BX7 := BX6.below hb7
  have BB7 := BB6.below hb7
  have BO7 := BO6.below hb7
  have bl7 := Below_after bl6 hb7
  clear BR6 BP6 BZ6 BX6 BB6 BO6 bl6
  have lw7 := BZ7.1
  obtain ⟨cR0, cR1, cR2, cR3, cR4, cR5⟩ := BR7.c6
  have zR := BR7.1
  obtain ⟨cP0, cP1⟩ := BP7.c2
  have zP := BP7.1
  obtain ⟨cZ0, cZ1, cZ2, cZ3, cZ4, cZ5⟩ := BZ7.c6
  have zZ := BZ7.1
  obtain ⟨cX0, cX1, cX2, cX3, cX4⟩ := BX7.c5
  have zX := BX7.1
  have cB0 := (BB7.2 0 _ rfl).1
  have zB := BB7.1
  obtain ⟨cO0, fO0, cO1, fO1, cO2, fO2, cO3, fO3, cO4, fO4, cO5, fO5⟩ := BO7.cf6
  have zO := BO7.1
  have HO4 : Hid (OwnsR _ _ _ _ _ _ _) := hO4
  have HT4 : Hid (RTag _ _) := tag4
  clear hO4 tag4
  go_wp2_with fail
  clear cR0 cR1 cR2 cR3 cR4 cR5 zR cP0 cP1 zP cZ0 cZ1 cZ2 cZ3 cZ4 cZ5 zZ cX0 cX1 cX2 cX3 cX4 zX cB0 zB cO0 fO0 cO1 fO1 cO2 fO2 cO3 fO3 cO4 fO4 cO5 fO5 zO
  have hO5 := (HO4.out.setTag HT4.out 0 (.slice a5 M c5)).rm
  have ho6 := ownsRow_set_other ho5 (own_ne_tag ho5 HT4.out (by decide)) 0 (.slice a5 M c5)
  clear HO4 HT4 ho5
  have BR8 := BR7.other (b' := w5.heap.size) (by first | omega | (have := BO7.1; have := BR7.1; omega)) 0 (.slice a5 M c5)
  have BP8 := BP7.other (b' := w5.heap.size) (by first | omega | (have := BO7.1; have := BP7.1; omega)) 0 (.slice a5 M c5)
  have BZ8 := BZ7.other (b' := w5.heap.size) (by first | omega | (have := BO7.1; have := BZ7.1; omega)) 0 (.slice a5 M c5)
  have BX8 := BX7.other (b' := w5.heap.size) (by first | omega | (have := BO7.1; have := BX7.1; omega)) 0 (.slice a5 M c5)
  have BB8 := BB7.other (b' := w5.heap.size) (by first | omega | (have := BO7.1; have := BB7.1; omega)) 0 (.slice a5 M c5)
  have BO8 := BO7.set 0 (.slice a5 M c5)
  simp only [List.set_cons_zero, List.set_cons_succ] at BO8
  have bl8 := bl7.setCell (p := ⟨w5.heap.size, 0, none⟩) (by show w.heap.size ≤ w5.heap.size; omega) (.slice a5 M c5)
  clear BR7 BP7 BZ7 BX7 BB7 BO7 bl7
  generalize hg : (w7.setCell ⟨w5.heap.size, 0, none⟩ (.slice a5 M c5)) = w8 at BR8 BP8 BZ8 BX8 BB8 BO8 bl8 hO5 ho6 ⊢
  clear hg
  have gz8 := BO8.1
  obtain ⟨hW5, -, hF5⟩ := WrsAt.ofRow ho6
  clear ho6
  have hz5 : RmSz (⟨r.ws.filter (fun y => !inB Z y.id), r.ts, r.hs, r.ns, r.nw, r.nt⟩ : Rm) := ⟨Nat.le_trans (List.length_filter_le _ _) hz.w, hz.t, hz.h, hz.n, hz.nw, hz.nt⟩
  obtain ⟨K0, hK0⟩ : ∃ K, (sweepR (⟨r.ws.filter (fun y => !inB Z y.id), r.ts, r.hs, r.ns, r.nw, r.nt⟩ : Rm)).ws.length = K := ⟨_, rfl⟩
  have HK0 : Hid ((sweepR (⟨r.ws.filter (fun y => !inB Z y.id), r.ts, r.hs, r.ns, r.nw, r.nt⟩ : Rm)).ws.length = K0) := hK0
  clear hK0
  obtain ⟨K1, hK1⟩ : ∃ K, (sweepR (⟨r.ws.filter (fun y => !inB Z y.id), r.ts, r.hs, r.ns, r.nw, r.nt⟩ : Rm)).ts.length = K := ⟨_, rfl⟩
  have HK1 : Hid ((sweepR (⟨r.ws.filter (fun y => !inB Z y.id), r.ts, r.hs, r.ns, r.nw, r.nt⟩ : Rm)).ts.length = K1) := hK1
  clear hK1
  obtain ⟨K2, hK2⟩ : ∃ K, (sweepR (⟨r.ws.filter (fun y => !inB Z y.id), r.ts, r.hs, r.ns, r.nw, r.nt⟩ : Rm)).hs.length = K := ⟨_, rfl⟩
  have HK2 : Hid ((sweepR (⟨r.ws.filter (fun y => !inB Z y.id), r.ts, r.hs, r.ns, r.nw, r.nt⟩ : Rm)).hs.length = K2) := hK2
  clear hK2
  obtain ⟨K3, hK3⟩ : ∃ K, (sweepR (⟨r.ws.filter (fun y => !inB Z y.id), r.ts, r.hs, r.ns, r.nw, r.nt⟩ : Rm)).ns.length = K := ⟨_, rfl⟩
  have HK3 : Hid ((sweepR (⟨r.ws.filter (fun y => !inB Z y.id), r.ts, r.hs, r.ns, r.nw, r.nt⟩ : Rm)).ns.length = K3) := hK3
  clear hK3
  have hr5 : RmAt w8 a5 b1 b2 b3 c5 d1 d2 d3 (⟨r.ws.filter (fun y => !inB Z y.id), r.ts, r.hs, r.ns, r.nw, r.nt⟩ : Rm) := ⟨hW5, hO5.t, hO5.h, hO5.n, hF5, hO5.ft, hO5.fh, hO5.fn⟩
  have hcon := sweep_at a5 b1 b2 b3 c5 d1 d2 d3 (⟨r.ws.filter (fun y => !inB Z y.id), r.ts, r.hs, r.ns, r.nw, r.nt⟩ : Rm) w8 hr5 hz5 K0 K1 K2 K3 HK0.out HK1.out HK2.out HK3.out
  dsimp only at hcon
  rw [HM.out] at hcon
  clear hr5 hz5 hW5
  refine (hcon).mono ?_
  rintro e w9 ⟨s0, s1, s2, s3, t0, t1, t2, t3, rfl, hrm, ⟨i0, i1, i2, i3⟩, hb9⟩
  have sz9 : w8.heap.size ≤ w9.heap.size := hb9.size
  clear hcon
  have BR9 := BR8.below hb9
  have BP9 := BP8.below hb9
  have BZ9 := BZ8.below hb9
  have BX9 := BX8.below hb9
  have BB9 := BB8.below hb9
  have BO9 := BO8.below hb9
  have bl9 := Below_after bl8 hb9
  clear BR8 BP8 BZ8 BX8 BB8 BO8 bl8
  have lw9 := BZ9.1
  have j0 : HiA w4.heap.size s0 := by
    rcases i0 with rfl | h
    · exact hi5
    · exact fun ad had => by have := h ad had; omega
  have j1 : HiA w4.heap.size s1 := fun ad had => by have := i1 ad had; omega
  have j2 : HiA w4.heap.size s2 := fun ad had => by have := i2 ad had; omega
  have j3 : HiA w4.heap.size s3 := fun ad had => by have := i3 ad had; omega
  clear i0 i1 i2 i3
  have HRM : Hid (RmAt _ _ _ _ _ _ _ _ _ _) := hrm
  clear hrm
  obtain ⟨cR0, cR1, cR2, cR3, cR4, cR5⟩ := BR9.c6
  have zR := BR9.1
  obtain ⟨cP0, cP1⟩ := BP9.c2
  have zP := BP9.1
  obtain ⟨cZ0, fZ0, cZ1, fZ1, cZ2, fZ2, cZ3, fZ3, cZ4, fZ4, cZ5, fZ5⟩ := BZ9.cf6
  have zZ := BZ9.1
  obtain ⟨cX0, cX1, cX2, cX3, cX4⟩ := BX9.c5
  have zX := BX9.1
  have cB0 := (BB9.2 0 _ rfl).1
  have zB := BB9.1
  obtain ⟨cO0, cO1, cO2, cO3, cO4, cO5⟩ := BO9.c6
  have zO := BO9.1
  go_wp2_with fail
  obtain ⟨y0, y1, y2, y3, y4, y5⟩ := (BZ9.put6 (.slice s0 K0 t0) (.slice s1 K1 t1) (.slice s2 K2 t2) (.slice s3 K3 t3) (.int .i64 r.nw) (.int .i64 r.nt)).six
  have blF := (below_set6 bl9 (b := w.heap.size + 1 + 1) (by omega) (.slice s0 K0 t0) (.slice s1 K1 t1) (.slice s2 K2 t2) (.slice s3 K3 t3) (.int .i64 r.nw) (.int .i64 r.nt))
  refine bodyPost_ret (v := .tuple #[.agg #[.slice s0 K0 t0, .slice s1 K1 t1, .slice s2 K2 t2, .slice s3 K3 t3, .int .i64 r.nw, .int .i64 r.nt], .nilIface]) (by simp [results, Tryz.results51, go_sem, y0, y1, y2, y3, y4, y5]) rfl ?_
  exact ⟨s0, s1, s2, s3, t0, t1, t2, t3, by unfold revokeR; rw [Hx.out, HBn.out]; rw [HK0.out, HK1.out, HK2.out, HK3.out], by unfold revokeR; rw [Hx.out, HBn.out]; exact HRM.out.set6 j0 j1 j2 j3 hzl _ _ _ _ _ _, ⟨fun ad had => by have := j0 ad had; omega, fun ad had => by have := j1 ad had; omega, fun ad had => by have := j2 ad had; omega, fun ad had => by have := j3 ad had; omega⟩, blF⟩
end Go.Proofs.YtddgpgldbekamaaGreat
