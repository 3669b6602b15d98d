/- The document's CopyOf: the same data, in memory of its own. -/
import Derived.Test.YtddgpgldbekamaaGreatBox
import Derived.Test.YtddgpgldbekamaaGreatTakeW
import Derived.Test.YtddgpgldbekamaaGreatMakeW
set_option linter.unusedSimpArgs false
set_option linter.unnecessarySimpa false
set_option linter.unusedVariables false
namespace Go.Proofs.YtddgpgldbekamaaGreat
open Go.RowKit


theorem wpList_append_eq {P : Program} {ops : Array Oper} {rest : List Oper} {o : Oper} {a : Act} {w w' : World} {Q : Exit → Act → World → Prop} (hgd : o.guard = none) (s x : Operand) (t : TypeId) (ho : o.op = .call { callee := .builtin .append, args := #[s, x], argTypes := #[t, t] }) (vs vx v' : Value) (hs : a.eval s = vs) (hx : a.eval x = vx)
    (hr : (Builtin.append_ #[t, t] o.type #[vs, vx]).run P w = .ok v' w') (h : ∀ q y, Hid (q = v' ∧ y = w') → wpList P ops Q rest (a.put o.dst q) y) : wpList P ops Q (o :: rest) a w :=
  wpList_plain hgd fun _ hK => wp_append_eq s x t ho vs vx v' hs hx hr (hK _ _ (h _ _ ⟨rfl, rfl⟩))
theorem nilapp_w (a : Option Addr) (c : Nat) (l : List Wr) (w : World) (hw : WrsAt w a l) (hm : l.length ≤ 1000) :
    ∃ v' w', (Builtin.append_ #[25, 25] 25 #[.slice none 0 0, .slice a l.length c]).run Tryz.prog w = .ok v' w' ∧ w'.ownsRow w.heap.size 39 5 v' l.length (l.flatMap wcells) ∧ Below w.heap.size w w' := by
  obtain ⟨i0, hi, hi0, hi1, hi2⟩ := info_parts infoWrit
  cases a with
  | none =>
    have hl : l = [] := by rcases hw with h | ⟨b, o, ha, _⟩; exact h; cases ha
    subst hl
    refine ⟨.slice none 0 0, w, ?_, World.ownsRow_nil _ _ _ _, Below.refl _ _⟩
    simp [Builtin.append_, run_underlying Tryz.underlying25, sizeOf, typeInfo, hi, Builtin.lenOf, Builtin.firstCells]
  | some ad =>
    have hcl : ∀ j u, (l.flatMap wcells)[j]? = some u → w.cell? (ad.add j) = some u := by
      rcases hw with rfl | ⟨b, o, ha, hb, hc⟩
      · intro j u hu; simp at hu
      · intro j u hu
        cases ha
        rw [Addr.add_lit]
        exact wr_flat hc j u hu
    obtain ⟨v', w', h1, h2, h3, -⟩ := run_append_own (P := Tryz.prog) w w.heap.size 25 25 39 i0 (.agg #[.int .i64 0, .int .i64 0, .int .i64 0, .int .i64 0, .int .i64 0]) 5 40 Tryz.underlying25 hi hi0 hi1 hi2 rfl (by decide) (.slice none 0 0) 0 [] (World.ownsRow_nil _ _ _ _) ad l.length c (l.flatMap wcells) (flatlen_w l) hcl (wcells_one l) (by unfold maxLen; omega) (by omega) (Nat.le_refl _)
    refine ⟨v', w', h1, by simpa using h2, (Below.refl _ w).grown h3 (Nat.le_refl _) (by intro k hk; simp [Value.ownBlock] at hk)⟩
theorem nilapp_t (a : Option Addr) (c : Nat) (l : List Th) (w : World) (hw : ThsAt w a l) (hm : l.length ≤ 1000) :
    ∃ v' w', (Builtin.append_ #[26, 26] 26 #[.slice none 0 0, .slice a l.length c]).run Tryz.prog w = .ok v' w' ∧ w'.ownsRow w.heap.size 73 3 v' l.length (l.flatMap tcells) ∧ Below w.heap.size w w' := by
  obtain ⟨i0, hi, hi0, hi1, hi2⟩ := info_parts infoThing
  cases a with
  | none =>
    have hl : l = [] := by rcases hw with h | ⟨b, o, ha, _⟩; exact h; cases ha
    subst hl
    refine ⟨.slice none 0 0, w, ?_, World.ownsRow_nil _ _ _ _, Below.refl _ _⟩
    simp [Builtin.append_, run_underlying Tryz.underlying26, sizeOf, typeInfo, hi, Builtin.lenOf, Builtin.firstCells]
  | some ad =>
    have hcl : ∀ j u, (l.flatMap tcells)[j]? = some u → w.cell? (ad.add j) = some u := by
      rcases hw with rfl | ⟨b, o, ha, hb, hc⟩
      · intro j u hu; simp at hu
      · intro j u hu
        cases ha
        rw [Addr.add_lit]
        exact th_flat hc j u hu
    obtain ⟨v', w', h1, h2, h3, -⟩ := run_append_own (P := Tryz.prog) w w.heap.size 26 26 73 i0 (.agg #[.int .i64 0, .int .i64 0, .string ByteArray.empty]) 3 32 Tryz.underlying26 hi hi0 hi1 hi2 rfl (by decide) (.slice none 0 0) 0 [] (World.ownsRow_nil _ _ _ _) ad l.length c (l.flatMap tcells) (flatlen_t l) hcl (tcells_one l) (by unfold maxLen; omega) (by omega) (Nat.le_refl _)
    refine ⟨v', w', h1, by simpa using h2, (Below.refl _ w).grown h3 (Nat.le_refl _) (by intro k hk; simp [Value.ownBlock] at hk)⟩
theorem nilapp_h (a : Option Addr) (c : Nat) (l : List Hd) (w : World) (hw : HdsAt w a l) (hm : l.length ≤ 1000) :
    ∃ v' w', (Builtin.append_ #[27, 27] 27 #[.slice none 0 0, .slice a l.length c]).run Tryz.prog w = .ok v' w' ∧ w'.ownsRow w.heap.size 93 3 v' l.length (l.flatMap hcells) ∧ Below w.heap.size w w' := by
  obtain ⟨i0, hi, hi0, hi1, hi2⟩ := info_parts infoHeld
  cases a with
  | none =>
    have hl : l = [] := by rcases hw with h | ⟨b, o, ha, _⟩; exact h; cases ha
    subst hl
    refine ⟨.slice none 0 0, w, ?_, World.ownsRow_nil _ _ _ _, Below.refl _ _⟩
    simp [Builtin.append_, run_underlying Tryz.underlying27, sizeOf, typeInfo, hi, Builtin.lenOf, Builtin.firstCells]
  | some ad =>
    have hcl : ∀ j u, (l.flatMap hcells)[j]? = some u → w.cell? (ad.add j) = some u := by
      rcases hw with rfl | ⟨b, o, ha, hb, hc⟩
      · intro j u hu; simp at hu
      · intro j u hu
        cases ha
        rw [Addr.add_lit]
        exact hd_flat hc j u hu
    obtain ⟨v', w', h1, h2, h3, -⟩ := run_append_own (P := Tryz.prog) w w.heap.size 27 27 93 i0 (.agg #[.int .i64 0, .int .i64 0, .int .i64 0]) 3 24 Tryz.underlying27 hi hi0 hi1 hi2 rfl (by decide) (.slice none 0 0) 0 [] (World.ownsRow_nil _ _ _ _) ad l.length c (l.flatMap hcells) (flatlen_h l) hcl (hcells_one l) (by unfold maxLen; omega) (by omega) (Nat.le_refl _)
    refine ⟨v', w', h1, by simpa using h2, (Below.refl _ w).grown h3 (Nat.le_refl _) (by intro k hk; simp [Value.ownBlock] at hk)⟩
theorem nilapp_n (a : Option Addr) (c : Nat) (l : List Nt) (w : World) (hw : NtsAt w a l) (hm : l.length ≤ 1000) :
    ∃ v' w', (Builtin.append_ #[28, 28] 28 #[.slice none 0 0, .slice a l.length c]).run Tryz.prog w = .ok v' w' ∧ w'.ownsRow w.heap.size 52 4 v' l.length (l.flatMap ncells) ∧ Below w.heap.size w w' := by
  obtain ⟨i0, hi, hi0, hi1, hi2⟩ := info_parts infoNote
  cases a with
  | none =>
    have hl : l = [] := by rcases hw with h | ⟨b, o, ha, _⟩; exact h; cases ha
    subst hl
    refine ⟨.slice none 0 0, w, ?_, World.ownsRow_nil _ _ _ _, Below.refl _ _⟩
    simp [Builtin.append_, run_underlying Tryz.underlying28, sizeOf, typeInfo, hi, Builtin.lenOf, Builtin.firstCells]
  | some ad =>
    have hcl : ∀ j u, (l.flatMap ncells)[j]? = some u → w.cell? (ad.add j) = some u := by
      rcases hw with rfl | ⟨b, o, ha, hb, hc⟩
      · intro j u hu; simp at hu
      · intro j u hu
        cases ha
        rw [Addr.add_lit]
        exact nt_flat hc j u hu
    obtain ⟨v', w', h1, h2, h3, -⟩ := run_append_own (P := Tryz.prog) w w.heap.size 28 28 52 i0 (.agg #[.int .i64 0, .string ByteArray.empty, .int .i64 0, .int .i64 0]) 4 40 Tryz.underlying28 hi hi0 hi1 hi2 rfl (by decide) (.slice none 0 0) 0 [] (World.ownsRow_nil _ _ _ _) ad l.length c (l.flatMap ncells) (flatlen_n l) hcl (ncells_one l) (by unfold maxLen; omega) (by omega) (Nat.le_refl _)
    refine ⟨v', w', h1, by simpa using h2, (Below.refl _ w).grown h3 (Nat.le_refl _) (by intro k hk; simp [Value.ownBlock] at hk)⟩
set_option maxHeartbeats 2000000 in
set_option maxRecDepth 100000 in
theorem copyOf_own (aw at_ ah an : Option Addr) (cw ct ch cn : Nat) (r : Rm) (w : World) (hr : RmAt w aw at_ ah an cw ct ch cn r) (hz : RmSz r) :
    Calls Tryz.prog 72 #[.agg #[.slice aw r.ws.length cw, .slice at_ r.ts.length ct, .slice ah r.hs.length ch, .slice an r.ns.length cn, .int .i64 r.nw, .int .i64 r.nt]] w fun e w' => ∃ b0 b1 b2 b3 d0 d1 d2 d3, e = .returned (.agg #[.slice b0 r.ws.length d0, .slice b1 r.ts.length d1, .slice b2 r.hs.length d2, .slice b3 r.ns.length d3, .int .i64 r.nw, .int .i64 r.nt]) ∧ OwnsR w' w.heap.size (.slice b0 r.ws.length d0) (.slice b1 r.ts.length d1) (.slice b2 r.hs.length d2) (.slice b3 r.ns.length d3) r ∧ Below w.heap.size w w' := by
  obtain ⟨BR0, BZ0, bl0⟩ := boxes2 w [.slice aw r.ws.length cw, .slice at_ r.ts.length ct, .slice ah r.hs.length ch, .slice an r.ns.length cn, .int .i64 r.nw, .int .i64 r.nt] 30 [.slice none 0 0, .slice none 0 0, .slice none 0 0, .slice none 0 0, .int .i64 0, .int .i64 0] 30
  go_enter Tryz.func72, Tryz.ntmps72
  obtain ⟨v0, x0, hrun0, ho0, hb10⟩ := nilapp_w aw cw r.ws ((w.alloc (.cells #[.slice aw r.ws.length cw, .slice at_ r.ts.length ct, .slice ah r.hs.length ch, .slice an r.ns.length cn, .int .i64 r.nw, .int .i64 r.nt] 30)).alloc (.cells #[.slice none 0 0, .slice none 0 0, .slice none 0 0, .slice none 0 0, .int .i64 0, .int .i64 0] 30)) (hr.w.below bl0) hz.w
  obtain ⟨b0, d0, rfl, -, -⟩ := wrow_at ho0
  go_wp2_with (at_builtin; refine wpList_append_eq rfl _ _ 25 rfl _ _ _ rfl rfl hrun0 ?_)
  intro q y hq
  obtain ⟨hq1, hq2⟩ := hq.out
  rw [hq1, hq2]
  clear hq hq1 hq2 q y
  have BR1 := BR0.below hb10
  have BZ1 := BZ0.below hb10
  have bl1 := Below_after bl0 hb10
  have hd0 := ho0
  clear ho0 hrun0 hb10 bl0 BR0 BZ0
  have lx0 := BZ1.1
  obtain ⟨cR0, fR0, cR1, fR1, cR2, fR2, cR3, fR3, cR4, fR4, cR5, fR5⟩ := BR1.cf6
  have zR := BR1.1
  obtain ⟨cZ0, cZ1, cZ2, cZ3, cZ4, cZ5⟩ := BZ1.c6
  have zZ := BZ1.1
  replace hd0 := ownsRow_setCell_below hd0 (a := ⟨w.heap.size, 0, none⟩) (by show w.heap.size < _; first | (simp; done) | (simp; omega)) (.slice b0 r.ws.length d0)
  have BR2 := BR1.set 0 (.slice b0 r.ws.length d0)
  simp only [List.set_cons_zero, List.set_cons_succ] at BR2
  have BZ2 := BZ1.other (b' := w.heap.size) (by first | omega | (have := BR1.1; have := BZ1.1; omega)) 0 (.slice b0 r.ws.length d0)
  have bl2 := bl1.setCell (p := ⟨w.heap.size, 0, none⟩) (by show w.heap.size ≤ w.heap.size; omega) (.slice b0 r.ws.length d0)
  clear BR1 BZ1 bl1
  obtain ⟨v1, x1, hrun1, ho1, hb11⟩ := nilapp_t at_ ct r.ts (x0.setCell ⟨w.heap.size, 0, none⟩ (.slice b0 r.ws.length d0)) (hr.t.below bl2) hz.t
  obtain ⟨b1, d1, rfl, -, -⟩ := trow_at ho1
  go_wp2_with (at_builtin; refine wpList_append_eq rfl _ _ 26 rfl _ _ _ rfl rfl hrun1 ?_)
  intro q y hq
  obtain ⟨hq1, hq2⟩ := hq.out
  rw [hq1, hq2]
  clear hq hq1 hq2 q y
  have BR3 := BR2.below hb11
  have BZ3 := BZ2.below hb11
  have bl3 := Below_after bl2 hb11
  replace hd0 := ownsRow_after hd0 hb11
  have hd1 := ho1
  clear ho1 hrun1 hb11 bl2 BR2 BZ2
  have lx1 := BZ3.1
  obtain ⟨cR0, fR0, cR1, fR1, cR2, fR2, cR3, fR3, cR4, fR4, cR5, fR5⟩ := BR3.cf6
  have zR := BR3.1
  obtain ⟨cZ0, cZ1, cZ2, cZ3, cZ4, cZ5⟩ := BZ3.c6
  have zZ := BZ3.1
  replace hd0 := ownsRow_setCell_below hd0 (a := ⟨w.heap.size, 1, none⟩) (by show w.heap.size < _; first | (simp; done) | (simp; omega)) (.slice b1 r.ts.length d1)
  replace hd1 := ownsRow_setCell_below hd1 (a := ⟨w.heap.size, 1, none⟩) (by show w.heap.size < _; first | (simp; done) | (simp; omega)) (.slice b1 r.ts.length d1)
  have BR4 := BR3.set 1 (.slice b1 r.ts.length d1)
  simp only [List.set_cons_zero, List.set_cons_succ] at BR4
  have BZ4 := BZ3.other (b' := w.heap.size) (by first | omega | (have := BR3.1; have := BZ3.1; omega)) 1 (.slice b1 r.ts.length d1)
  have bl4 := bl3.setCell (p := ⟨w.heap.size, 1, none⟩) (by show w.heap.size ≤ w.heap.size; omega) (.slice b1 r.ts.length d1)
  clear BR3 BZ3 bl3
  obtain ⟨v2, x2, hrun2, ho2, hb12⟩ := nilapp_h ah ch r.hs (x1.setCell ⟨w.heap.size, 1, none⟩ (.slice b1 r.ts.length d1)) (hr.h.below bl4) (by have := hz.h; omega)
  obtain ⟨b2, d2, rfl, -, -⟩ := hrow_at ho2
  go_wp2_with (at_builtin; refine wpList_append_eq rfl _ _ 27 rfl _ _ _ rfl rfl hrun2 ?_)
  intro q y hq
  obtain ⟨hq1, hq2⟩ := hq.out
  rw [hq1, hq2]
  clear hq hq1 hq2 q y
  have BR5 := BR4.below hb12
  have BZ5 := BZ4.below hb12
  have bl5 := Below_after bl4 hb12
  replace hd0 := ownsRow_after hd0 hb12
  replace hd1 := ownsRow_after hd1 hb12
  have hd2 := ho2
  clear ho2 hrun2 hb12 bl4 BR4 BZ4
  have lx2 := BZ5.1
  obtain ⟨cR0, fR0, cR1, fR1, cR2, fR2, cR3, fR3, cR4, fR4, cR5, fR5⟩ := BR5.cf6
  have zR := BR5.1
  obtain ⟨cZ0, cZ1, cZ2, cZ3, cZ4, cZ5⟩ := BZ5.c6
  have zZ := BZ5.1
  replace hd0 := ownsRow_setCell_below hd0 (a := ⟨w.heap.size, 2, none⟩) (by show w.heap.size < _; first | (simp; done) | (simp; omega)) (.slice b2 r.hs.length d2)
  replace hd1 := ownsRow_setCell_below hd1 (a := ⟨w.heap.size, 2, none⟩) (by show w.heap.size < _; first | (simp; done) | (simp; omega)) (.slice b2 r.hs.length d2)
  replace hd2 := ownsRow_setCell_below hd2 (a := ⟨w.heap.size, 2, none⟩) (by show w.heap.size < _; first | (simp; done) | (simp; omega)) (.slice b2 r.hs.length d2)
  have BR6 := BR5.set 2 (.slice b2 r.hs.length d2)
  simp only [List.set_cons_zero, List.set_cons_succ] at BR6
  have BZ6 := BZ5.other (b' := w.heap.size) (by first | omega | (have := BR5.1; have := BZ5.1; omega)) 2 (.slice b2 r.hs.length d2)
  have bl6 := bl5.setCell (p := ⟨w.heap.size, 2, none⟩) (by show w.heap.size ≤ w.heap.size; omega) (.slice b2 r.hs.length d2)
  clear BR5 BZ5 bl5
  obtain ⟨v3, x3, hrun3, ho3, hb13⟩ := nilapp_n an cn r.ns (x2.setCell ⟨w.heap.size, 2, none⟩ (.slice b2 r.hs.length d2)) (hr.n.below bl6) hz.n
  obtain ⟨b3, d3, rfl, -, -⟩ := nrow_at ho3
  go_wp2_with (at_builtin; refine wpList_append_eq rfl _ _ 28 rfl _ _ _ rfl rfl hrun3 ?_)
  intro q y hq
  obtain ⟨hq1, hq2⟩ := hq.out
  rw [hq1, hq2]
  clear hq hq1 hq2 q y
  have BR7 := BR6.below hb13
  have BZ7 := BZ6.below hb13
  have bl7 := Below_after bl6 hb13
  replace hd0 := ownsRow_after hd0 hb13
  replace hd1 := ownsRow_after hd1 hb13
  replace hd2 := ownsRow_after hd2 hb13
  have hd3 := ho3
  clear ho3 hrun3 hb13 bl6 BR6 BZ6
  have lx3 := BZ7.1
  obtain ⟨cR0, fR0, cR1, fR1, cR2, fR2, cR3, fR3, cR4, fR4, cR5, fR5⟩ := BR7.cf6
  have zR := BR7.1
  obtain ⟨cZ0, fZ0, cZ1, fZ1, cZ2, fZ2, cZ3, fZ3, cZ4, fZ4, cZ5, fZ5⟩ := BZ7.cf6
  have zZ := BZ7.1
  go_wp2_with fail
  replace hd0 := ownsRow_setCell_below hd0 (a := ⟨w.heap.size, 3, none⟩) (by show w.heap.size < _; first | (simp; done) | (simp; omega)) (.slice b3 r.ns.length d3)
  replace hd1 := ownsRow_setCell_below hd1 (a := ⟨w.heap.size, 3, none⟩) (by show w.heap.size < _; first | (simp; done) | (simp; omega)) (.slice b3 r.ns.length d3)
  replace hd2 := ownsRow_setCell_below hd2 (a := ⟨w.heap.size, 3, none⟩) (by show w.heap.size < _; first | (simp; done) | (simp; omega)) (.slice b3 r.ns.length d3)
  replace hd3 := ownsRow_setCell_below hd3 (a := ⟨w.heap.size, 3, none⟩) (by show w.heap.size < _; first | (simp; done) | (simp; omega)) (.slice b3 r.ns.length d3)
  have BR8 := BR7.set 3 (.slice b3 r.ns.length d3)
  simp only [List.set_cons_zero, List.set_cons_succ] at BR8
  have BZ8 := BZ7.other (b' := w.heap.size) (by first | omega | (have := BR7.1; have := BZ7.1; omega)) 3 (.slice b3 r.ns.length d3)
  have bl8 := bl7.setCell (p := ⟨w.heap.size, 3, none⟩) (by show w.heap.size ≤ w.heap.size; omega) (.slice b3 r.ns.length d3)
  clear BR7 BZ7 bl7
  have hat := (OwnsR.of4 (r := r) (ownsRow_mono (base' := w.heap.size + 2) hd0 (by first | (simp; done) | (simp; omega))) (ownsRow_mono hd1 (by first | (simp; done) | (simp; omega))) (ownsRow_mono hd2 (by first | (simp; done) | (simp; omega))) (ownsRow_mono hd3 (by first | (simp; done) | (simp; omega)))).set6 (b := w.heap.size + 1) (by omega) (.slice b0 r.ws.length d0) (.slice b1 r.ts.length d1) (.slice b2 r.hs.length d2) (.slice b3 r.ns.length d3) (.int .i64 r.nw) (.int .i64 r.nt)
  obtain ⟨y0, y1, y2, y3, y4, y5⟩ := (BZ8.put6 (.slice b0 r.ws.length d0) (.slice b1 r.ts.length d1) (.slice b2 r.hs.length d2) (.slice b3 r.ns.length d3) (.int .i64 r.nw) (.int .i64 r.nt)).six
  have blF := (below_set6 bl8 (b := w.heap.size + 1) (by omega) (.slice b0 r.ws.length d0) (.slice b1 r.ts.length d1) (.slice b2 r.hs.length d2) (.slice b3 r.ns.length d3) (.int .i64 r.nw) (.int .i64 r.nt))
  refine bodyPost_ret (v := .agg #[.slice b0 r.ws.length d0, .slice b1 r.ts.length d1, .slice b2 r.hs.length d2, .slice b3 r.ns.length d3, .int .i64 r.nw, .int .i64 r.nt]) (by simp [results, Tryz.results72, go_sem, y0, y1, y2, y3, y4, y5]) rfl ?_
  exact ⟨b0, b1, b2, b3, d0, d1, d2, d3, rfl, hat.mono (by omega), blF⟩
theorem copyOf_any (aw at_ ah an : Option Addr) (cw ct ch cn : Nat) (r : Rm) (w : World) (hr : RmAt w aw at_ ah an cw ct ch cn r) (hz : RmSz r) :
    Calls Tryz.prog 72 #[.agg #[.slice aw r.ws.length cw, .slice at_ r.ts.length ct, .slice ah r.hs.length ch, .slice an r.ns.length cn, .int .i64 r.nw, .int .i64 r.nt]] w fun e w' => ∃ b0 b1 b2 b3 d0 d1 d2 d3, e = .returned (.agg #[.slice b0 r.ws.length d0, .slice b1 r.ts.length d1, .slice b2 r.hs.length d2, .slice b3 r.ns.length d3, .int .i64 r.nw, .int .i64 r.nt]) ∧ RmAt w' b0 b1 b2 b3 d0 d1 d2 d3 r ∧ Below w.heap.size w w' := by
  refine (copyOf_own aw at_ ah an cw ct ch cn r w hr hz).mono ?_
  rintro e w' ⟨b0, b1, b2, b3, d0, d1, d2, d3, h1, h2, h3⟩
  exact ⟨b0, b1, b2, b3, d0, d1, d2, d3, h1, OwnsR.rm h2, h3⟩
end Go.Proofs.YtddgpgldbekamaaGreat
