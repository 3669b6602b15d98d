/- realm.waiting, add, derive, enclose (E2, E3, E8), as the landed code has them. -/
import Derived.Test.YtddgpgldbekamaaGreatBox
import Derived.Test.YtddgpgldbekamaaGreatWhoW
set_option linter.unusedSimpArgs false
set_option linter.unusedVariables false
namespace Go.Proofs.YtddgpgldbekamaaGreat
open Go.RowKit


theorem Dist.of_type {w : World} {base base' : Nat} {e e' : TypeId} {size size' : Nat} {v v' : Value} {n n' : Nat} {xs xs' : List Value} (h : w.ownsRow base e size v n xs) (h' : w.ownsRow base' e' size' v' n' xs') (hne : e ≠ e') : Dist v v' := by
  intro k h1 h2
  rcases h.2 with ⟨hv, _⟩ | ⟨g, cap, cur, hv, _, hg, _⟩
  · rw [hv] at h1; cases h1
  · rcases h'.2 with ⟨hv', _⟩ | ⟨g', cap', cur', hv', _, hg', _⟩
    · rw [hv'] at h2; cases h2
    · rw [hv] at h1
      rw [hv'] at h2
      simp only [Value.ownBlock, Option.some.injEq] at h1 h2
      subst h1
      subst h2
      rw [hg] at hg'
      cases hg'
      exact hne rfl
theorem OwnsR.of4 {w : World} {base : Nat} {v0 v1 v2 v3 : Value} {r : Rm} (h0 : w.ownsRow base 39 5 v0 r.ws.length (r.ws.flatMap wcells)) (h1 : w.ownsRow base 73 3 v1 r.ts.length (r.ts.flatMap tcells))
    (h2 : w.ownsRow base 93 3 v2 r.hs.length (r.hs.flatMap hcells)) (h3 : w.ownsRow base 52 4 v3 r.ns.length (r.ns.flatMap ncells)) : OwnsR w base v0 v1 v2 v3 r :=
  ⟨h0, h1, h2, h3, Dist.of_type h0 h1 (by decide), Dist.of_type h0 h2 (by decide), Dist.of_type h0 h3 (by decide), Dist.of_type h1 h2 (by decide), Dist.of_type h1 h3 (by decide), Dist.of_type h2 h3 (by decide)⟩
/-- a block is a realm's box -/
def RTag (w : World) (b : Nat) : Prop := ∃ cur, w.heap[b]? = some (.cells cur 30 (0, 0))
theorem RTag.new (w : World) (cur : Array Value) : RTag (w.alloc (.cells cur 30)) w.heap.size := ⟨cur, heap_alloc_new w _⟩
theorem RTag.lt {w : World} {b : Nat} (h : RTag w b) : b < w.heap.size := by
  obtain ⟨cur, h⟩ := h
  exact (Array.getElem?_eq_some_iff.1 h).1
theorem RTag.below {w w1 : World} {b : Nat} (h : RTag w b) (hb : Below w.heap.size w w1) : RTag w1 b := by
  have hl := h.lt
  obtain ⟨cur, h⟩ := h
  exact ⟨cur, by rw [hb.block b hl]; exact h⟩
theorem RTag.grown {w w1 : World} {b : Nat} {row : Option Nat} (h : RTag w b) (hg : w.grownBy w1 row) (hne : some b ≠ row) : RTag w1 b := by
  have hl := h.lt
  obtain ⟨cur, h⟩ := h
  exact ⟨cur, by rw [hg.block b hl hne]; exact h⟩
theorem RTag.set {w : World} {b : Nat} (h : RTag w b) (j : Nat) (u : Value) : RTag (w.setCell ⟨b, j, none⟩ u) b := by
  obtain ⟨cur, h⟩ := h
  exact ⟨_, heap_setCell_same w b j cur _ u h⟩
theorem own_ne_tag {w : World} {base : Nat} {e : TypeId} {size : Nat} {v : Value} {n : Nat} {xs : List Value} (h : w.ownsRow base e size v n xs) {b : Nat} (ht : RTag w b) (hne : e ≠ 30) : v.ownBlock ≠ some b := by
  obtain ⟨cur, ht⟩ := ht
  intro h1
  rcases h.2 with ⟨hv, _⟩ | ⟨g, cap, cur', hv, _, hg, _⟩
  · rw [hv] at h1; cases h1
  · rw [hv] at h1
    simp only [Value.ownBlock, Option.some.injEq] at h1
    subst h1
    rw [hg] at ht
    cases ht
    exact hne rfl
theorem OwnsR.setTag {w : World} {base : Nat} {v0 v1 v2 v3 : Value} {r : Rm} (h : OwnsR w base v0 v1 v2 v3 r) {b : Nat} (ht : RTag w b) (j : Nat) (u : Value) : OwnsR (w.setCell ⟨b, j, none⟩ u) base v0 v1 v2 v3 r :=
  ⟨ownsRow_set_other h.rw_ (own_ne_tag h.rw_ ht (by decide)) j u, ownsRow_set_other h.rt (own_ne_tag h.rt ht (by decide)) j u, ownsRow_set_other h.rh (own_ne_tag h.rh ht (by decide)) j u, ownsRow_set_other h.rn (own_ne_tag h.rn ht (by decide)) j u, h.d01, h.d02, h.d03, h.d12, h.d13, h.d23⟩
/-! ### waiting -/
theorem waits_any (t : Int) (b0 : Nat) (w : World) (hc : w.cell? ⟨b0, 0, none⟩ = some (.int .i64 t)) (hlt : b0 < w.heap.size) : Predn w 110 #[.pointer (some ⟨b0, 0, none⟩)] (fun n => n.port != t) := by
  intro x W hb
  have q : W.cell? ⟨b0, 0, none⟩ = some (.int .i64 t) := by rw [(bcell hb).1 _ _ hlt]; exact hc
  have hlt' : b0 < W.heap.size := Nat.lt_of_lt_of_le hlt hb.size
  show Calls Tryz.prog 110 #[.agg #[.int .i64 x.port, .string x.data, .int .i64 x.badge, .int .i64 x.writ], .pointer (some ⟨b0, 0, none⟩)] W _
  go_enter Tryz.func110, Tryz.ntmps110
  go_wp2
  go_ret
  exact ⟨rfl, (Below.refl _ _).alloc (Nat.le_refl _) _⟩
theorem waitL_eq (r : Rm) (t : Int) : r.ns.filter (fun n => !(n.port != t)) = waitL r t := by
  unfold waitL
  congr 1
  funext n
  simp [atPort, bne]
theorem waiting_any (aw at_ ah an : Option Addr) (cw ct ch cn : Nat) (r : Rm) (t : Int) (w : World) (hr : RmAt w aw at_ ah an cw ct ch cn r) (hz : RmSz r) :
    Calls Tryz.prog 93 #[.agg #[.slice aw r.ws.length cw, .slice at_ r.ts.length ct, .slice ah r.hs.length ch, .slice an r.ns.length cn, .int .i64 r.nw, .int .i64 r.nt], .int .i64 t] w fun e w' => e = .returned (.int .i64 ((waitL r t).length : Int)) ∧ Below w.heap.size w w' := by
  have hmf : ∀ (fn : Fn) (first cap : Array Value) (w : World), (Instr.makeFunc fn first cap).run Tryz.prog w = .ok (.func fn first cap) w := fun _ _ _ _ => rfl
  have eg : ∀ args w, (callFunc 110 args).run Tryz.prog w = .ok (.enter 110 args) w := enters_of Tryz.func110 (by kernel_rfl) rfl
  have hn := hr.n
  have mn := hz.n
  clear hr hz
  obtain ⟨BR0, BT0, bl0⟩ := boxes2 w [.slice aw r.ws.length cw, .slice at_ r.ts.length ct, .slice ah r.hs.length ch, .slice an r.ns.length cn, .int .i64 r.nw, .int .i64 r.nt] 30 [.int .i64 t] 3
  go_enter Tryz.func93, Tryz.ntmps93
  go_wp2_with fail
  refine (leave_n an cn r.ns (fun n => n.port != t) 110 _ eg _ (waits_any t (w.heap.size + 1) _ (BT0.2 0 _ rfl).1 BT0.1) (hn.below bl0) (by omega)).mono ?_
  rintro e w1 ⟨v, rfl, ho, hb1⟩
  rw [waitL_eq] at ho
  obtain ⟨a1, c1, rfl, -, -⟩ := nrow_at ho
  generalize hm : (waitL r t).length = m at *
  have HM : Hid ((waitL r t).length = m) := hm
  clear hm
  go_wp2_with fail
  go_ret
  exact ⟨by rw [HM.out]; rfl, Below_after bl0 hb1⟩
/-! ### add -/
set_option maxHeartbeats 2000000 in
set_option maxRecDepth 100000 in
theorem add_any (aw at_ ah an : Option Addr) (cw ct ch cn : Nat) (r : Rm) (x : Wr) (w : World) (hr : RmAt w aw at_ ah an cw ct ch cn r) (hz : RmSz r) :
    Calls Tryz.prog 62 #[.agg #[.slice aw r.ws.length cw, .slice at_ r.ts.length ct, .slice ah r.hs.length ch, .slice an r.ns.length cn, .int .i64 r.nw, .int .i64 r.nt], .agg #[.int .i64 x.id, .int .i64 x.thing, .int .i64 x.rights, .int .i64 x.badge, .int .i64 x.frm]] w fun e w' => ∃ v0 v1 v2 v3, e = .returned (.agg #[v0, v1, v2, v3, .int .i64 (r.nw + 1), .int .i64 r.nt]) ∧ OwnsR w' w.heap.size v0 v1 v2 v3 ⟨r.ws ++ [x], r.ts, r.hs, r.ns, r.nw + 1, r.nt⟩ ∧ Below w.heap.size w w' := by
  obtain ⟨i0, hi, hi0, hi1, hi2⟩ := info_parts infoWrit
  have mw := hz.w
  have nw1 := hz.nw.1
  have nw2 := hz.nw.2
  obtain ⟨BR0, BX0, BZ0, bl0⟩ := boxes3 w [.slice aw r.ws.length cw, .slice at_ r.ts.length ct, .slice ah r.hs.length ch, .slice an r.ns.length cn, .int .i64 r.nw, .int .i64 r.nt] 30 [.int .i64 x.id, .int .i64 x.thing, .int .i64 x.rights, .int .i64 x.badge, .int .i64 x.frm] 39 [.slice none 0 0, .slice none 0 0, .slice none 0 0, .slice none 0 0, .int .i64 0, .int .i64 0] 30
  go_enter Tryz.func62, Tryz.ntmps62
  go_wp2_with fail
  refine (copy_any aw at_ ah an cw ct ch cn r _ (hr.below bl0) hz).mono ?_
  rintro e w1 ⟨v0, v1, v2, v3, rfl, hO0, hb1⟩
  replace hO0 := hO0.mono (base' := w.heap.size + 1 + 1 + 1) (by simp)
  obtain ⟨b0, b1, b2, b3, d0, d1, d2, d3, rfl, rfl, rfl, rfl, -⟩ := hO0.at
  have hO1 := hO0
  clear hO0
  have BR1 := BR0.below hb1
  have BX1 := BX0.below hb1
  have BZ1 := BZ0.below hb1
  have bl1 := Below_after bl0 hb1
  clear BR0 BX0 BZ0 bl0
  obtain ⟨cR0, cR1, cR2, cR3, cR4, cR5⟩ := BR1.c6
  have zR := BR1.1
  obtain ⟨cX0, cX1, cX2, cX3, cX4⟩ := BX1.c5
  have zX := BX1.1
  obtain ⟨cZ0, cZ1, cZ2, cZ3, cZ4, cZ5⟩ := BZ1.c6
  have zZ := BZ1.1
  have hgr := hO1.below (((Below.refl _ _).alloc (Nat.le_refl _) (.cells #[.slice b0 r.ws.length d0, .slice b1 r.ts.length d1, .slice b2 r.hs.length d2, .slice b3 r.ns.length d3, .int .i64 r.nw, .int .i64 r.nt] 30)).alloc (by simp) (.cells #[.int .i64 x.id, .int .i64 x.thing, .int .i64 x.rights, .int .i64 x.badge, .int .i64 x.frm] 39))
  go_wp2_with (at_builtin; refine wpList_append_own _ rfl _ _ 25 rfl (w.heap.size + 1 + 1 + 1) 39 i0 (.agg #[.int .i64 0, .int .i64 0, .int .i64 0, .int .i64 0, .int .i64 0]) 5 40 Tryz.underlying25 hi hi0 hi1 hi2 rfl (by decide) _ _ _ rfl hgr.rw_ _ 1 1 [.int .i64 x.id, .int .i64 x.thing, .int .i64 x.rights, .int .i64 x.badge, .int .i64 x.frm] rfl rfl (new5b _ _ _ _ _ _ _ _) (one5 _ _ _ _ _) ?c3 ?c4 ?c5 ?_)
  case c3 => unfold maxLen; omega
  case c4 => omega
  case c5 => have := BZ1.1; simp; omega
  intro v' w2 hown2' hgrow _
  have BO2 := ((Bx.new w1 [.slice b0 r.ws.length d0, .slice b1 r.ts.length d1, .slice b2 r.hs.length d2, .slice b3 r.ns.length d3, .int .i64 r.nw, .int .i64 r.nt] 30).alloc (.cells #[.int .i64 x.id, .int .i64 x.thing, .int .i64 x.rights, .int .i64 x.badge, .int .i64 x.frm] 39)).grown hgrow (by intro e; have := (hO1.rw_.lt _ e.symm).2; omega)
  have tag2 := ((RTag.new w1 #[.slice b0 r.ws.length d0, .slice b1 r.ts.length d1, .slice b2 r.hs.length d2, .slice b3 r.ns.length d3, .int .i64 r.nw, .int .i64 r.nt]).below ((Below.refl _ _).alloc (Nat.le_refl _) (.cells #[.int .i64 x.id, .int .i64 x.thing, .int .i64 x.rights, .int .i64 x.badge, .int .i64 x.frm] 39))).grown hgrow (by intro e; have := (hO1.rw_.lt _ e.symm).2; omega)
  have BZ2 := ((BZ1.alloc (.cells #[.slice b0 r.ws.length d0, .slice b1 r.ts.length d1, .slice b2 r.hs.length d2, .slice b3 r.ns.length d3, .int .i64 r.nw, .int .i64 r.nt] 30)).alloc (.cells #[.int .i64 x.id, .int .i64 x.thing, .int .i64 x.rights, .int .i64 x.badge, .int .i64 x.frm] 39)).grown hgrow (ownBlock_ne hgr.rw_ (by omega)).symm
  have bl2 := ((bl1.alloc bl1.size (.cells #[.slice b0 r.ws.length d0, .slice b1 r.ts.length d1, .slice b2 r.hs.length d2, .slice b3 r.ns.length d3, .int .i64 r.nw, .int .i64 r.nt] 30)).alloc (by have := bl1.size; simp; omega) (.cells #[.int .i64 x.id, .int .i64 x.thing, .int .i64 x.rights, .int .i64 x.badge, .int .i64 x.frm] 39)).grown hgrow (by have := bl1.size; simp; omega) (fun k hk => by have := (hgr.rw_.lt k hk).1; omega)
  have hown2 := row5_snoc (x := x) hown2'
  have rt2 := Dist.kept hgr.rt hgrow hgr.d01.symm
  have rh2 := Dist.kept hgr.rh hgrow hgr.d02.symm
  have rn2 := Dist.kept hgr.rn hgrow hgr.d03.symm
  have hlt1 : w.heap.size + 1 + 1 + 1 ≤ w1.heap.size := by have := BZ1.1; omega
  obtain ⟨b0', d0', hv, -, -⟩ := wrow_at hown2
  obtain ⟨L, hL⟩ : ∃ L, L = (r.ws ++ [x]).length := ⟨_, rfl⟩
  rw [← hL] at hv
  subst hv
  have hO2 : OwnsR w2 (w.heap.size + 1 + 1 + 1) (.slice b0' L d0') (.slice b1 r.ts.length d1) (.slice b2 r.hs.length d2) (.slice b3 r.ns.length d3) ⟨r.ws ++ [x], r.ts, r.hs, r.ns, r.nw + 1, r.nt⟩ := OwnsR.of4 hown2 rt2 rh2 rn2
  have hz0 : w1.heap.size < w2.heap.size := BO2.1
  have hzz : w.heap.size + 1 + 1 < w2.heap.size := BZ2.1
  clear hown2' hown2 hgrow rt2 rh2 rn2 hgr hO1 BR1 BX1 BZ1 bl1 hL hb1
  clear cR0 cR1 cR2 cR3 cR4 cR5 zR cX0 cX1 cX2 cX3 cX4 zX cZ0 cZ1 cZ2 cZ3 cZ4 cZ5 zZ
  have HO2 : Hid (OwnsR w2 (w.heap.size + 1 + 1 + 1) (.slice b0' L d0') (.slice b1 r.ts.length d1) (.slice b2 r.hs.length d2) (.slice b3 r.ns.length d3) ⟨r.ws ++ [x], r.ts, r.hs, r.ns, r.nw + 1, r.nt⟩) := hO2
  clear hO2
  obtain ⟨cO0, fO0, cO1, fO1, cO2, fO2, cO3, fO3, cO4, fO4, cO5, fO5⟩ := BO2.cf6
  have zO := BO2.1
  obtain ⟨cZ0, fZ0, cZ1, fZ1, cZ2, fZ2, cZ3, fZ3, cZ4, fZ4, cZ5, fZ5⟩ := BZ2.cf6
  have zZ := BZ2.1
  go_wp2_with fail
  have BO3 := BO2.set 0 (.slice b0' L d0')
  simp only [List.set_cons_zero, List.set_cons_succ] at BO3
  have BZ3 := BZ2.other (b' := w1.heap.size) (by first | omega | (have := BO2.1; have := BZ2.1; omega)) 0 (.slice b0' L d0')
  have bl3 := bl2.setCell (p := ⟨w1.heap.size, 0, none⟩) (by show w.heap.size ≤ w1.heap.size; omega) (.slice b0' L d0')
  clear BO2 BZ2 bl2
  have BO4 := BO3.set 4 (.int .i64 (r.nw + 1))
  simp only [List.set_cons_zero, List.set_cons_succ] at BO4
  have BZ4 := BZ3.other (b' := w1.heap.size) (by first | omega | (have := BO3.1; have := BZ3.1; omega)) 4 (.int .i64 (r.nw + 1))
  have bl4 := bl3.setCell (p := ⟨w1.heap.size, 4, none⟩) (by show w.heap.size ≤ w1.heap.size; omega) (.int .i64 (r.nw + 1))
  clear BO3 BZ3 bl3
  obtain ⟨y0, y1, y2, y3, y4, y5⟩ := (BZ4.put6 (.slice b0' L d0') (.slice b1 r.ts.length d1) (.slice b2 r.hs.length d2) (.slice b3 r.ns.length d3) (.int .i64 (r.nw + 1)) (.int .i64 r.nt)).six
  have hO4 := (HO2.out.setTag tag2 0 (.slice b0' L d0')).setTag (tag2.set 0 _) 4 (.int .i64 (r.nw + 1))
  exact bodyPost_ret (v := .agg #[.slice b0' L d0', .slice b1 r.ts.length d1, .slice b2 r.hs.length d2, .slice b3 r.ns.length d3, .int .i64 (r.nw + 1), .int .i64 r.nt]) (by simp [results, Tryz.results62, go_sem, y0, y1, y2, y3, y4, y5]) rfl ⟨_, _, _, _, rfl, (hO4.set6 (by omega) _ _ _ _ _ _).mono (by omega), below_set6 bl4 (by omega) _ _ _ _ _ _⟩
end Go.Proofs.YtddgpgldbekamaaGreat
