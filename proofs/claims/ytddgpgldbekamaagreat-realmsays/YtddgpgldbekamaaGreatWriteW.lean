/- realm.Write, Read (E7), as the landed code has them. -/
import Derived.Test.YtddgpgldbekamaaGreatAllPure
import Derived.Test.YtddgpgldbekamaaGreatBox
import Derived.Test.YtddgpgldbekamaaGreatMakeW
set_option linter.unusedSimpArgs false
set_option linter.unnecessarySimpa false
set_option linter.unusedVariables false
namespace Go.Proofs.YtddgpgldbekamaaGreat
open Go.RowKit


@[reducible] def SWv (o x : Nat) (v0 v1 v2 v3 v4 v5 e1 : Value) (w : World) : Prop :=
  w.cell? ⟨o, 0, none⟩ = some v0 ∧ w.cell? ⟨o, 1, none⟩ = some v1 ∧ w.cell? ⟨o, 2, none⟩ = some v2 ∧ w.cell? ⟨o, 3, none⟩ = some v3 ∧ w.cell? ⟨o, 4, none⟩ = some v4 ∧ w.cell? ⟨o, 5, none⟩ = some v5 ∧ w.cell? ⟨x, 1, none⟩ = some e1 ∧ o < w.heap.size ∧ x < w.heap.size
theorem SWv_below {o x : Nat} {v0 v1 v2 v3 v4 v5 e1 : Value} {v w : World} (hb : Below v.heap.size v w) (h : SWv o x v0 v1 v2 v3 v4 v5 e1 v) : SWv o x v0 v1 v2 v3 v4 v5 e1 w := by
  obtain ⟨h0, h1, h2, h3, h4, h5, h6, h7, h8⟩ := h
  have g := (bcell hb).1
  have := hb.size
  exact ⟨by rw [g _ _ h7]; exact h0, by rw [g _ _ h7]; exact h1, by rw [g _ _ h7]; exact h2, by rw [g _ _ h7]; exact h3, by rw [g _ _ h7]; exact h4, by rw [g _ _ h7]; exact h5, by rw [g _ _ h8]; exact h6, by omega, by omega⟩
theorem SWv_set {o x g j : Nat} {v0 v1 v2 v3 v4 v5 e1 u : Value} {w : World} (h : SWv o x v0 v1 v2 v3 v4 v5 e1 w) (h1 : ¬ o = g) (h2 : ¬ x = g) : SWv o x v0 v1 v2 v3 v4 v5 e1 (w.setCell ⟨g, j, none⟩ u) := by
  obtain ⟨g0, g1, g2, g3, g4, g5, g6, g7, g8⟩ := h
  have key : ∀ b k, ¬ b = g → (w.setCell ⟨g, j, none⟩ u).cell? ⟨b, k, none⟩ = w.cell? ⟨b, k, none⟩ := fun b k hb => World.cell?_setCell_other _ _ _ _ (by simpa using fun e => absurd e.symm hb)
  exact ⟨by rw [key _ _ h1]; exact g0, by rw [key _ _ h1]; exact g1, by rw [key _ _ h1]; exact g2, by rw [key _ _ h1]; exact g3, by rw [key _ _ h1]; exact g4, by rw [key _ _ h1]; exact g5, by rw [key _ _ h2]; exact g6, by simpa using g7, by simpa using g8⟩
theorem flat_setD (x : Th) (d : ByteArray) : ∀ (l : List Th) (j : Nat), l[j]? = some x → (l.set j ⟨x.id, x.kind, d⟩).flatMap tcells = (l.flatMap tcells).set (j * 3 + 2) (.string d)
  | [], j, h => by simp at h
  | y :: r, 0, h => by
    have : y = x := by simpa using h
    subst this
    simp [tcells]
  | y :: r, j + 1, h => by
    have ih := flat_setD x d r j (by simpa using h)
    simp only [List.set_cons_succ, List.flatMap_cons, ih]
    rw [List.set_append_right _ _ (by simp only [tcells, List.length_cons, List.length_nil]; omega)]
    congr 2
    simp only [tcells, List.length_cons, List.length_nil]; omega
theorem setD_at (t : Int) (d : ByteArray) : ∀ (l : List Th) (n j : Nat) (x : Th), idxFrom (thIs t) l n = ((n + j : Nat) : Int) → l[j]? = some x → setD t d l = l.set j ⟨x.id, x.kind, d⟩
  | [], n, j, x, _, h => by simp at h
  | y :: r, n, j, x, h, hx => by
    unfold idxFrom at h
    unfold setD
    by_cases hy : thIs t y = true
    · rw [if_pos hy] at h
      have hj : j = 0 := by omega
      subst hj
      have : y = x := by simpa using hx
      subst this
      have : y.id = t := by simpa [thIs] using hy
      rw [if_pos this]; rfl
    · rw [if_neg hy] at h
      have hne : ¬ y.id = t := by simpa [thIs] using hy
      rw [if_neg hne]
      cases j with
      | zero =>
        exfalso
        rcases idxFrom_cases (thIs t) r (n + 1) with ⟨e, _⟩ | ⟨k, _, e, _⟩ <;> rw [e] at h <;> omega
      | succ j =>
        rw [setD_at t d r (n + 1) j x (by rw [h]; congr 1; omega) (by simpa using hx)]; rfl
theorem OwnsR.setThing {w : World} {base : Nat} {v0 v2 v3 : Value} {g n cap : Nat} {r : Rm} {j : Nat} {x : Th} {t : Int} (d : ByteArray) (h : OwnsR w base v0 (.slice (some ⟨g, 0, none⟩) n cap) v2 v3 r) (hj : thAt r t = (j : Int)) (hx : r.ts[j]? = some x) :
    OwnsR (w.setCell ⟨g, j * 3 + 2, none⟩ (.string d)) base v0 (.slice (some ⟨g, 0, none⟩) n cap) v2 v3 ⟨r.ws, setD t d r.ts, r.hs, r.ns, r.nw, r.nt⟩ := by
  have hn := (ThsAt.ofRow h.rt).2.1
  subst hn
  have e := setD_at t d r.ts 0 j x (by have := hj; unfold thAt idx at this; rw [this]; simp) hx
  have hs := h.rt.stored (j * 3 + 2) (.string d)
  have hl : (setD t d r.ts).length = r.ts.length := by rw [e, List.length_set]
  refine OwnsR.of4 (Dist.kept h.rw_ (v' := .slice (some ⟨g, 0, none⟩) r.ts.length cap) hs.2 h.d01) ?_ (Dist.kept h.rh (v' := .slice (some ⟨g, 0, none⟩) r.ts.length cap) hs.2 h.d12.symm) (Dist.kept h.rn (v' := .slice (some ⟨g, 0, none⟩) r.ts.length cap) hs.2 h.d13.symm)
  have := hs.1
  rw [← flat_setD x d r.ts j hx, ← e, ← hl] at this
  rw [← hl]
  exact this
set_option maxHeartbeats 2000000 in
set_option maxRecDepth 100000 in
theorem write_who (aw at_ ah an : Option Addr) (cw ct ch cn : Nat) (r : Rm) (h s : Int) (d : ByteArray) (w : World) (hr : RmAt w aw at_ ah an cw ct ch cn r) (hz : RmSz r) (hc : whoC r h s 1 2 ≠ 0) :
    Calls Tryz.prog 52 #[.agg #[.slice aw r.ws.length cw, .slice at_ r.ts.length ct, .slice ah r.hs.length ch, .slice an r.ns.length cn, .int .i64 r.nw, .int .i64 r.nt], .agg #[.int .i64 h, .int .i64 s], .string d] w fun e w' => e = .returned (.tuple #[.agg #[.slice none 0 0, .slice none 0 0, .slice none 0 0, .slice none 0 0, .int .i64 0, .int .i64 0], .iface 69 (.int .i64 (whoC r h s 1 2))]) ∧ Below w.heap.size w w' := by
  obtain ⟨BR0, BP0, BZ0, bl0⟩ := boxes3 w [.slice aw r.ws.length cw, .slice at_ r.ts.length ct, .slice ah r.hs.length ch, .slice an r.ns.length cn, .int .i64 r.nw, .int .i64 r.nt] 30 [.int .i64 h, .int .i64 s] 33 [.slice none 0 0, .slice none 0 0, .slice none 0 0, .slice none 0 0, .int .i64 0, .int .i64 0] 30
  go_enter Tryz.func52, Tryz.ntmps52
  go_wp2_with fail
  refine (who_err aw at_ ah an cw ct ch cn r h s 1 2 _ (hr.below bl0) hz hc).mono ?_
  rintro e w1 ⟨rfl, hb1⟩
  have BR1 := BR0.below hb1
  have BP1 := BP0.below hb1
  have BZ1 := BZ0.below hb1
  have bl1 := Below_after bl0 hb1
  clear BR0 BP0 BZ0 bl0
  generalize hD' : whoC r h s 1 2 = D at *
  have HD : Hid (whoC r h s 1 2 = D) := hD'
  clear hD'
  obtain ⟨cR0, cR1, cR2, cR3, cR4, cR5⟩ := BR1.c6
  have zR := BR1.1
  obtain ⟨cP0, cP1⟩ := BP1.c2
  have zP := BP1.1
  obtain ⟨cZ0, fZ0, cZ1, fZ1, cZ2, fZ2, cZ3, fZ3, cZ4, fZ4, cZ5, fZ5⟩ := BZ1.cf6
  have zZ := BZ1.1
  go_wp2_with fail
  obtain ⟨y0, y1, y2, y3, y4, y5⟩ := ((BZ1.put6 (.slice none 0 0) (.slice none 0 0) (.slice none 0 0) (.slice none 0 0) (.int .i64 0) (.int .i64 0)).alloc (.cells #[.int .i64 0, .int .i64 0, .int .i64 0, .int .i64 0, .int .i64 0] 39)).six
  have blF := ((below_set6 bl1 (b := w.heap.size + 1 + 1) (by omega) (.slice none 0 0) (.slice none 0 0) (.slice none 0 0) (.slice none 0 0) (.int .i64 0) (.int .i64 0)).alloc (below_set6 bl1 (b := w.heap.size + 1 + 1) (by omega) (.slice none 0 0) (.slice none 0 0) (.slice none 0 0) (.slice none 0 0) (.int .i64 0) (.int .i64 0)).size (.cells #[.int .i64 0, .int .i64 0, .int .i64 0, .int .i64 0, .int .i64 0] 39))
  refine bodyPost_ret (v := .tuple #[.agg #[.slice none 0 0, .slice none 0 0, .slice none 0 0, .slice none 0 0, .int .i64 0, .int .i64 0], .iface 69 (.int .i64 D)]) (by simp [results, Tryz.results52, go_sem, y0, y1, y2, y3, y4, y5]) rfl ?_
  exact ⟨by rw [HD.out], blF⟩
set_option maxHeartbeats 2000000 in
set_option maxRecDepth 100000 in
theorem write_many (aw at_ ah an : Option Addr) (cw ct ch cn : Nat) (r : Rm) (h s : Int) (d : ByteArray) (w : World) (hr : RmAt w aw at_ ah an cw ct ch cn r) (hz : RmSz r) (hc : whoC r h s 1 2 = 0) (hd : 8 < d.size) (hd2 : d.size ≤ maxLen) :
    Calls Tryz.prog 52 #[.agg #[.slice aw r.ws.length cw, .slice at_ r.ts.length ct, .slice ah r.hs.length ch, .slice an r.ns.length cn, .int .i64 r.nw, .int .i64 r.nt], .agg #[.int .i64 h, .int .i64 s], .string d] w fun e w' => e = .returned (.tuple #[.agg #[.slice none 0 0, .slice none 0 0, .slice none 0 0, .slice none 0 0, .int .i64 0, .int .i64 0], .iface 69 (.int .i64 2)]) ∧ Below w.heap.size w w' := by
  unfold maxLen at hd2
  obtain ⟨BR0, BP0, BZ0, bl0⟩ := boxes3 w [.slice aw r.ws.length cw, .slice at_ r.ts.length ct, .slice ah r.hs.length ch, .slice an r.ns.length cn, .int .i64 r.nw, .int .i64 r.nt] 30 [.int .i64 h, .int .i64 s] 33 [.slice none 0 0, .slice none 0 0, .slice none 0 0, .slice none 0 0, .int .i64 0, .int .i64 0] 30
  go_enter Tryz.func52, Tryz.ntmps52
  go_wp2_with fail
  refine (who_ok aw at_ ah an cw ct ch cn r h s 1 2 _ (hr.below bl0) hz hc).mono ?_
  rintro e w1 ⟨rfl, hb1⟩
  have BR1 := BR0.below hb1
  have BP1 := BP0.below hb1
  have BZ1 := BZ0.below hb1
  have bl1 := Below_after bl0 hb1
  clear BR0 BP0 BZ0 bl0
  generalize hx' : getW r h s = x at *
  have Hx : Hid (getW r h s = x) := hx'
  clear hx'
  obtain ⟨cR0, cR1, cR2, cR3, cR4, cR5⟩ := BR1.c6
  have zR := BR1.1
  obtain ⟨cP0, cP1⟩ := BP1.c2
  have zP := BP1.1
  obtain ⟨cZ0, fZ0, cZ1, fZ1, cZ2, fZ2, cZ3, fZ3, cZ4, fZ4, cZ5, fZ5⟩ := BZ1.cf6
  have zZ := BZ1.1
  go_wp2_with fail
  obtain ⟨y0, y1, y2, y3, y4, y5⟩ := ((BZ1.put6 (.slice none 0 0) (.slice none 0 0) (.slice none 0 0) (.slice none 0 0) (.int .i64 0) (.int .i64 0)).alloc (.cells #[.int .i64 x.id, .int .i64 x.thing, .int .i64 x.rights, .int .i64 x.badge, .int .i64 x.frm] 39)).six
  have blF := ((below_set6 bl1 (b := w.heap.size + 1 + 1) (by omega) (.slice none 0 0) (.slice none 0 0) (.slice none 0 0) (.slice none 0 0) (.int .i64 0) (.int .i64 0)).alloc (below_set6 bl1 (b := w.heap.size + 1 + 1) (by omega) (.slice none 0 0) (.slice none 0 0) (.slice none 0 0) (.slice none 0 0) (.int .i64 0) (.int .i64 0)).size (.cells #[.int .i64 x.id, .int .i64 x.thing, .int .i64 x.rights, .int .i64 x.badge, .int .i64 x.frm] 39))
  refine bodyPost_ret (v := .tuple #[.agg #[.slice none 0 0, .slice none 0 0, .slice none 0 0, .slice none 0 0, .int .i64 0, .int .i64 0], .iface 69 (.int .i64 2)]) (by simp [results, Tryz.results52, go_sem, y0, y1, y2, y3, y4, y5]) rfl ?_
  exact ⟨rfl, blF⟩
set_option maxHeartbeats 2000000 in
set_option maxRecDepth 100000 in
theorem write_yes (aw at_ ah an : Option Addr) (cw ct ch cn : Nat) (r : Rm) (h s : Int) (d : ByteArray) (w : World) (hr : RmAt w aw at_ ah an cw ct ch cn r) (hz : RmSz r) (hc : whoC r h s 1 2 = 0) (hd : d.size ≤ 8) :
    Calls Tryz.prog 52 #[.agg #[.slice aw r.ws.length cw, .slice at_ r.ts.length ct, .slice ah r.hs.length ch, .slice an r.ns.length cn, .int .i64 r.nw, .int .i64 r.nt], .agg #[.int .i64 h, .int .i64 s], .string d] w fun e w' => ∃ v0 v1 v2 v3, e = .returned (.tuple #[.agg #[v0, v1, v2, v3, .int .i64 r.nw, .int .i64 r.nt], .nilIface]) ∧ OwnsR w' w.heap.size v0 v1 v2 v3 (writeR r h s d) ∧ Below w.heap.size w w' := by
  obtain ⟨j, tt, hj, hjx⟩ : ∃ (j : Nat) (tt : Th), thAt r (getW r h s).thing = (j : Int) ∧ r.ts[j]? = some tt := by
    rcases whoC_cases r h s 1 2 with ⟨_, _, ⟨j, t, h1, h2, _⟩, _⟩ | ⟨e, _⟩ | ⟨e, _⟩ | ⟨e, hn⟩
    · exact ⟨j, t, h1, h2⟩
    · rw [e] at hc; cases hc
    · rw [e] at hc; cases hc
    · rw [e] at hc; exact absurd hc hn
  have hjl : j < r.ts.length := (List.getElem?_eq_some_iff.1 hjx).1
  have HJ : Hid (thAt r (getW r h s).thing = (j : Int)) := hj
  have HJX : Hid (r.ts[j]? = some tt) := hjx
  have mt := hz.t
  clear hj hjx
  obtain ⟨BR0, BP0, BZ0, bl0⟩ := boxes3 w [.slice aw r.ws.length cw, .slice at_ r.ts.length ct, .slice ah r.hs.length ch, .slice an r.ns.length cn, .int .i64 r.nw, .int .i64 r.nt] 30 [.int .i64 h, .int .i64 s] 33 [.slice none 0 0, .slice none 0 0, .slice none 0 0, .slice none 0 0, .int .i64 0, .int .i64 0] 30
  go_enter Tryz.func52, Tryz.ntmps52
  go_wp2_with fail
  refine (who_ok aw at_ ah an cw ct ch cn r h s 1 2 _ (hr.below bl0) hz hc).mono ?_
  rintro e w1 ⟨rfl, hb1⟩
  have BR1 := BR0.below hb1
  have BP1 := BP0.below hb1
  have BZ1 := BZ0.below hb1
  have bl1 := Below_after bl0 hb1
  clear BR0 BP0 BZ0 bl0
  generalize hx' : getW r h s = x at *
  have Hx : Hid (getW r h s = x) := hx'
  clear hx'
  obtain ⟨cR0, cR1, cR2, cR3, cR4, cR5⟩ := BR1.c6
  have zR := BR1.1
  obtain ⟨cP0, cP1⟩ := BP1.c2
  have zP := BP1.1
  obtain ⟨cZ0, cZ1, cZ2, cZ3, cZ4, cZ5⟩ := BZ1.c6
  have zZ := BZ1.1
  go_wp2_with fail
  clear cR0 cR1 cR2 cR3 cR4 cR5 zR cP0 cP1 zP cZ0 cZ1 cZ2 cZ3 cZ4 cZ5 zZ
  have BR2 := BR1.alloc (.cells #[.int .i64 x.id, .int .i64 x.thing, .int .i64 x.rights, .int .i64 x.badge, .int .i64 x.frm] 39)
  have BP2 := BP1.alloc (.cells #[.int .i64 x.id, .int .i64 x.thing, .int .i64 x.rights, .int .i64 x.badge, .int .i64 x.frm] 39)
  have BZ2 := BZ1.alloc (.cells #[.int .i64 x.id, .int .i64 x.thing, .int .i64 x.rights, .int .i64 x.badge, .int .i64 x.frm] 39)
  have bl2 := bl1.alloc bl1.size (.cells #[.int .i64 x.id, .int .i64 x.thing, .int .i64 x.rights, .int .i64 x.badge, .int .i64 x.frm] 39)
  have BX2 := Bx.new w1 [.int .i64 x.id, .int .i64 x.thing, .int .i64 x.rights, .int .i64 x.badge, .int .i64 x.frm] 39
  clear BR1 BP1 BZ1 bl1
  generalize hg2 : (w1.alloc (.cells #[.int .i64 x.id, .int .i64 x.thing, .int .i64 x.rights, .int .i64 x.badge, .int .i64 x.frm] 39)) = w2 at BR2 BP2 BZ2 BX2 bl2 ⊢
  clear hg2
  have sg2X := BX2.1
  have hlow := BZ2.1
  have hs1 : w.heap.size ≤ w2.heap.size := bl2.size
  refine (copy_at aw at_ ah an cw ct ch cn r _ (hr.below bl2) hz).mono ?_
  rintro e w3 ⟨b0, b1, b2, b3, d0, d1, d2, d3, rfl, hO, hb3⟩
  have sz3 : w2.heap.size ≤ w3.heap.size := hb3.size
  obtain ⟨gT, cT, eT, hgT, -, hfT, -⟩ := (row_open hO.rt).resolve_left (by rintro ⟨-, e⟩; rw [e] at hjl; simp at hjl)
  simp only [Value.slice.injEq] at eT
  obtain ⟨rfl, -, rfl⟩ := eT
  obtain ⟨hfT1, hfT2⟩ := hfT
  unfold maxLen at hfT2
  have BR3 := BR2.below hb3
  have BP3 := BP2.below hb3
  have BZ3 := BZ2.below hb3
  have BX3 := BX2.below hb3
  have bl3 := Below_after bl2 hb3
  clear BR2 BP2 BZ2 BX2 bl2
  obtain ⟨cR0, cR1, cR2, cR3, cR4, cR5⟩ := BR3.c6
  have zR := BR3.1
  obtain ⟨cP0, cP1⟩ := BP3.c2
  have zP := BP3.1
  obtain ⟨cZ0, cZ1, cZ2, cZ3, cZ4, cZ5⟩ := BZ3.c6
  have zZ := BZ3.1
  obtain ⟨cX0, cX1, cX2, cX3, cX4⟩ := BX3.c5
  have zX := BX3.1
  have HO : Hid (OwnsR w3 _ _ _ _ _ _) := hO
  clear hO
  go_wp2_with fail
  clear cR0 cR1 cR2 cR3 cR4 cR5 zR cP0 cP1 zP cZ0 cZ1 cZ2 cZ3 cZ4 cZ5 zZ cX0 cX1 cX2 cX3 cX4 zX
  have tag := RTag.new w3 #[.slice b0 r.ws.length d0, .slice (some ⟨gT, 0, none⟩) r.ts.length d1, .slice b2 r.hs.length d2, .slice b3 r.ns.length d3, .int .i64 r.nw, .int .i64 r.nt]
  have hO3 := HO.out.below ((Below.refl _ _).alloc (Nat.le_refl _) (.cells #[.slice b0 r.ws.length d0, .slice (some ⟨gT, 0, none⟩) r.ts.length d1, .slice b2 r.hs.length d2, .slice b3 r.ns.length d3, .int .i64 r.nw, .int .i64 r.nt] 30))
  clear HO
  have BR4 := BR3.alloc (.cells #[.slice b0 r.ws.length d0, .slice (some ⟨gT, 0, none⟩) r.ts.length d1, .slice b2 r.hs.length d2, .slice b3 r.ns.length d3, .int .i64 r.nw, .int .i64 r.nt] 30)
  have BP4 := BP3.alloc (.cells #[.slice b0 r.ws.length d0, .slice (some ⟨gT, 0, none⟩) r.ts.length d1, .slice b2 r.hs.length d2, .slice b3 r.ns.length d3, .int .i64 r.nw, .int .i64 r.nt] 30)
  have BZ4 := BZ3.alloc (.cells #[.slice b0 r.ws.length d0, .slice (some ⟨gT, 0, none⟩) r.ts.length d1, .slice b2 r.hs.length d2, .slice b3 r.ns.length d3, .int .i64 r.nw, .int .i64 r.nt] 30)
  have BX4 := BX3.alloc (.cells #[.slice b0 r.ws.length d0, .slice (some ⟨gT, 0, none⟩) r.ts.length d1, .slice b2 r.hs.length d2, .slice b3 r.ns.length d3, .int .i64 r.nw, .int .i64 r.nt] 30)
  have bl4 := bl3.alloc bl3.size (.cells #[.slice b0 r.ws.length d0, .slice (some ⟨gT, 0, none⟩) r.ts.length d1, .slice b2 r.hs.length d2, .slice b3 r.ns.length d3, .int .i64 r.nw, .int .i64 r.nt] 30)
  have BO4 := Bx.new w3 [.slice b0 r.ws.length d0, .slice (some ⟨gT, 0, none⟩) r.ts.length d1, .slice b2 r.hs.length d2, .slice b3 r.ns.length d3, .int .i64 r.nw, .int .i64 r.nt] 30
  clear BR3 BP3 BZ3 BX3 bl3
  generalize hg : (w3.alloc (.cells #[.slice b0 r.ws.length d0, .slice (some ⟨gT, 0, none⟩) r.ts.length d1, .slice b2 r.hs.length d2, .slice b3 r.ns.length d3, .int .i64 r.nw, .int .i64 r.nt] 30)) = w4 at BR4 BP4 BZ4 BX4 BO4 bl4 tag hO3 ⊢
  clear hg
  have hs3 : w3.heap.size < w4.heap.size := BO4.1
  have srp : SWv (w3.heap.size) (w1.heap.size) (.slice b0 r.ws.length d0) (.slice (some ⟨gT, 0, none⟩) r.ts.length d1) (.slice b2 r.hs.length d2) (.slice b3 r.ns.length d3) (.int .i64 r.nw) (.int .i64 r.nt) (.int .i64 x.thing) w4.drew := ⟨(BO4.2 0 _ rfl).1, (BO4.2 1 _ rfl).1, (BO4.2 2 _ rfl).1, (BO4.2 3 _ rfl).1, (BO4.2 4 _ rfl).1, (BO4.2 5 _ rfl).1, (BX4.2 1 _ rfl).1, BO4.1, BX4.1⟩
  refine wp_region_held_drew (S := SWv (w3.heap.size) (w1.heap.size) (.slice b0 r.ws.length d0) (.slice (some ⟨gT, 0, none⟩) r.ts.length d1) (.slice b2 r.hs.length d2) (.slice b3 r.ns.length d3) (.int .i64 r.nw) (.int .i64 r.nt) (.int .i64 x.thing)) (by kernel_rfl) ?_ (fun hHeld => ?_)
  · exact srp
  refine tkI 0 (.pointer (some ⟨w3.heap.size, 1, none⟩)) rfl ?_
  refine tkI 1 (.slice (some ⟨gT, 0, none⟩) r.ts.length d1) rfl ?_
  refine tkI 2 (.agg #[.slice b0 r.ws.length d0, .slice (some ⟨gT, 0, none⟩) r.ts.length d1, .slice b2 r.hs.length d2, .slice b3 r.ns.length d3, .int .i64 r.nw, .int .i64 r.nt]) rfl ?_
  refine tkI 3 (.pointer (some ⟨w1.heap.size, 1, none⟩)) rfl ?_
  refine tkI 4 (.int .i64 x.thing) rfl ?_
  refine tkI 6 (.string d) rfl ?_
  refine rdI 5 rfl (fun K hK => ?_)
  go_wp2_with (go_at_call 30; refine (rfind_any b0 (some ⟨gT, 0, none⟩) b2 b3 d0 d1 d2 d3 r x.thing _ (hO3.rm.below ((Below.refl _ _).drew)) hz).mono ?_; rintro e wR ⟨rfl, hbR⟩)
  refine hK.out _ _ ?_ (fun hHeld => ?_)
  · exact SWv_below hbR (by assumption)
  clear hK K
  (try simp only [Act.put, List.setIfInBounds_toArray, List.set_cons_zero, List.set_cons_succ])
  have bdR : Below w4.heap.size w4 wR := Below_after ((Below.refl _ _).drew) hbR
  have BOR := BO4.below bdR
  have BZR := BZ4.below bdR
  have BXR := BX4.below bdR
  have blR := Below_after bl4 bdR
  have tagR := tag.below bdR
  have hOR := hO3.below bdR
  have hneO := own_ne_tag hOR.rt tagR (by decide)
  have hneO' : ¬ w3.heap.size = gT := fun e => hneO (by rw [e]; rfl)
  have hsT : w2.heap.size ≤ gT := hgT
  obtain ⟨old, hold⟩ : ∃ u, (r.ts.flatMap tcells)[j * 3 + 2]? = some u := ⟨_, List.getElem?_eq_getElem (by rw [flatlen_t]; omega)⟩
  have cT2 := hOR.rt.cellAt (j * 3 + 2) (by omega)
  rw [hold] at cT2
  have fT2 := hOR.rt.frozenAt (j * 3 + 2)
  have zT := (hOR.rt.lt gT rfl).2
  have hO8 := hOR.setThing d HJ.out HJX.out
  have HO8 : Hid (OwnsR _ _ _ _ _ _ _) := hO8
  clear hO8 hneO hold
  have BZF := BZR.other (b' := gT) (by omega) (j * 3 + 2) (.string d)
  have BOF := BOR.other (b' := gT) hneO' (j * 3 + 2) (.string d)
  have blF0 := blR.setCell (p := ⟨gT, j * 3 + 2, none⟩) (by show w.heap.size ≤ gT; omega) (.string d)
  rw [HJ.out]
  clear hO3 tag hbR bdR hOR tagR BOR BZR BXR blR BR4 BP4 BZ4 BX4 BO4 bl4
  refine rdI 7 rfl (fun K hK => ?_)
  go_wp2_with fail
  refine hK.out _ _ ?_ (fun hHeld => ?_)
  · assumption
  clear hK K
  (try simp only [Act.put, List.setIfInBounds_toArray, List.set_cons_zero, List.set_cons_succ])
  refine rdI 8 rfl (fun K hK => ?_)
  go_wp2_with fail
  refine hK.out _ _ ?_ (fun hHeld => ?_)
  · assumption
  clear hK K
  (try simp only [Act.put, List.setIfInBounds_toArray, List.set_cons_zero, List.set_cons_succ])
  have HS : Hid (SWv (w3.heap.size) (w1.heap.size) (.slice b0 r.ws.length d0) (.slice (some ⟨gT, 0, none⟩) r.ts.length d1) (.slice b2 r.hs.length d2) (.slice b3 r.ns.length d3) (.int .i64 r.nw) (.int .i64 r.nt) (.int .i64 x.thing) wR) := (by assumption)
  refine rdI 9 rfl (fun K hK => ?_)
  go_wp2_with fail
  refine hK.out _ _ ?_ (fun hHeld => ?_)
  · exact SWv_set HS.out hneO' (by omega)
  clear hK K
  (try simp only [Act.put, List.setIfInBounds_toArray, List.set_cons_zero, List.set_cons_succ])
  refine wpAnyH_done (by kernel_rfl) ?_ _
  generalize hg : wR.setCell ⟨gT, j * 3 + 2, none⟩ (.string d) = wF at BOF BZF blF0 HO8 ⊢
  clear hg cT2 fT2 zT HS
  have BO30 := BOF
  have BZ30 := BZF
  have bl30 := blF0
  clear BOF BZF blF0
  obtain ⟨cO0, cO1, cO2, cO3, cO4, cO5⟩ := BO30.c6
  have zO := BO30.1
  obtain ⟨cZ0, fZ0, cZ1, fZ1, cZ2, fZ2, cZ3, fZ3, cZ4, fZ4, cZ5, fZ5⟩ := BZ30.cf6
  have zZ := BZ30.1
  go_wp2_with fail
  obtain ⟨y0, y1, y2, y3, y4, y5⟩ := (BZ30.put6 (.slice b0 r.ws.length d0) (.slice (some ⟨gT, 0, none⟩) r.ts.length d1) (.slice b2 r.hs.length d2) (.slice b3 r.ns.length d3) (.int .i64 r.nw) (.int .i64 r.nt)).six
  have blF := (below_set6 bl30 (b := w.heap.size + 1 + 1) (by omega) (.slice b0 r.ws.length d0) (.slice (some ⟨gT, 0, none⟩) r.ts.length d1) (.slice b2 r.hs.length d2) (.slice b3 r.ns.length d3) (.int .i64 r.nw) (.int .i64 r.nt))
  refine bodyPost_ret (v := .tuple #[.agg #[.slice b0 r.ws.length d0, .slice (some ⟨gT, 0, none⟩) r.ts.length d1, .slice b2 r.hs.length d2, .slice b3 r.ns.length d3, .int .i64 r.nw, .int .i64 r.nt], .nilIface]) (by simp [results, Tryz.results52, go_sem, y0, y1, y2, y3, y4, y5]) rfl ?_
  exact ⟨_, _, _, _, rfl, by unfold writeR; rw [Hx.out]; exact (HO8.out.set6 hlow _ _ _ _ _ _).mono hs1, blF⟩
end Go.Proofs.YtddgpgldbekamaaGreat
