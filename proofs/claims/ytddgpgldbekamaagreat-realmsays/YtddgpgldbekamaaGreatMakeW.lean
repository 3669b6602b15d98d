/- realm.Make, Give, Move (E2, E3), as the landed code has them. -/
import Derived.Test.YtddgpgldbekamaaGreatBox
import Derived.Test.YtddgpgldbekamaaGreatEncW
set_option linter.unusedSimpArgs false
set_option linter.unusedVariables false
namespace Go.Proofs.YtddgpgldbekamaaGreat
open Go.RowKit


theorem new3s (w : World) (p : Addr) (u : Value) (t : TypeId) (x y z : Value) : ∀ j q, [x, y, z][j]? = some q → ((w.setCell p u).alloc (.cells #[x, y, z] t)).cell? ((⟨w.heap.size, 0, none⟩ : Addr).add j) = some q := by
  intro j q hj
  have := new3 (w.setCell p u) t x y z j q hj
  rwa [show (w.setCell p u).heap.size = w.heap.size by simp] at this
theorem tcell_one (x : Th) : ∀ u ∈ [Value.int .i64 x.id, .int .i64 x.kind, .string x.data], u.oneCell' = true := by
  intro u hu
  simp at hu
  rcases hu with rfl | rfl | rfl <;> rfl
theorem OwnsR.grow1 {w w' : World} {base : Nat} {v0 v1 v2 v3 v1' : Value} {r : Rm} {x : Th} (h : OwnsR w base v0 v1 v2 v3 r) (hg : w.grownBy w' v1.ownBlock) (ho : w'.ownsRow base 73 3 v1' (r.ts.length + 1) (r.ts.flatMap tcells ++ [.int .i64 x.id, .int .i64 x.kind, .string x.data])) :
    OwnsR w' base v0 v1' v2 v3 ⟨r.ws, r.ts ++ [x], r.hs, r.ns, r.nw, r.nt⟩ :=
  OwnsR.of4 (Dist.kept h.rw_ hg h.d01) (by simpa [tcells] using ho) (Dist.kept h.rh hg h.d12.symm) (Dist.kept h.rn hg h.d13.symm)
theorem OwnsR.put2 {w : World} {base base' : Nat} {v0 v1 v2 v3 v2' : Value} {r : Rm} {l : List Hd} (h : OwnsR w base v0 v1 v2 v3 r) (ho : w.ownsRow base' 93 3 v2' l.length (l.flatMap hcells)) (hle : base ≤ base') :
    OwnsR w base v0 v1 v2' v3 ⟨r.ws, r.ts, l, r.ns, r.nw, r.nt⟩ := OwnsR.of4 h.rw_ h.rt (ownsRow_mono ho hle) h.rn
theorem OwnsR.nums {w : World} {base : Nat} {v0 v1 v2 v3 : Value} {r : Rm} (h : OwnsR w base v0 v1 v2 v3 r) (m n : Int) : OwnsR w base v0 v1 v2 v3 ⟨r.ws, r.ts, r.hs, r.ns, m, n⟩ := OwnsR.of4 h.rw_ h.rt h.rh h.rn
set_option maxHeartbeats 2000000 in
set_option maxRecDepth 100000 in
theorem make_kind (aw at_ ah an : Option Addr) (cw ct ch cn : Nat) (r : Rm) (h s kind : Int) (w : World) (hr : RmAt w aw at_ ah an cw ct ch cn r) (hz : RmSz r) (h1 : ¬ kind = 1) (h2 : ¬ kind = 2) :
    Calls Tryz.prog 21 #[.agg #[.slice aw r.ws.length cw, .slice at_ r.ts.length ct, .slice ah r.hs.length ch, .slice an r.ns.length cn, .int .i64 r.nw, .int .i64 r.nt], .agg #[.int .i64 h, .int .i64 s], .int .i64 kind] w fun e w' => e = .returned (.tuple #[.agg #[.slice none 0 0, .slice none 0 0, .slice none 0 0, .slice none 0 0, .int .i64 0, .int .i64 0], .iface 69 (.int .i64 8)]) ∧ Below w.heap.size w w' := by
  have d1 : (kind != 1) = true := by simpa using h1
  have d2 : (kind != 2) = true := by simpa using h2
  obtain ⟨BR0, BP0, BZ0, bl0⟩ := boxes3 w [.slice aw r.ws.length cw, .slice at_ r.ts.length ct, .slice ah r.hs.length ch, .slice an r.ns.length cn, .int .i64 r.nw, .int .i64 r.nt] 30 [.int .i64 h, .int .i64 s] 33 [.slice none 0 0, .slice none 0 0, .slice none 0 0, .slice none 0 0, .int .i64 0, .int .i64 0] 30
  go_enter Tryz.func21, Tryz.ntmps21
  go_wp2_with fail
  exact bodyPost_ret (v := .tuple #[.agg #[.slice none 0 0, .slice none 0 0, .slice none 0 0, .slice none 0 0, .int .i64 0, .int .i64 0], .iface 69 (.int .i64 8)]) (by simp [results, Tryz.results21, go_sem]) rfl ⟨rfl, bl0⟩
set_option maxHeartbeats 2000000 in
set_option maxRecDepth 100000 in
theorem make_place (aw at_ ah an : Option Addr) (cw ct ch cn : Nat) (r : Rm) (h s kind : Int) (w : World) (hr : RmAt w aw at_ ah an cw ct ch cn r) (hz : RmSz r) (hk : kind = 1 ∨ kind = 2) (hf : freeC r h s ≠ 0) :
    Calls Tryz.prog 21 #[.agg #[.slice aw r.ws.length cw, .slice at_ r.ts.length ct, .slice ah r.hs.length ch, .slice an r.ns.length cn, .int .i64 r.nw, .int .i64 r.nt], .agg #[.int .i64 h, .int .i64 s], .int .i64 kind] w fun e w' => e = .returned (.tuple #[.agg #[.slice none 0 0, .slice none 0 0, .slice none 0 0, .slice none 0 0, .int .i64 0, .int .i64 0], .iface 69 (.int .i64 (freeC r h s))]) ∧ Below w.heap.size w w' := by
  rcases hk with rfl | rfl
  · have BR0 := Bx.new w [.slice aw r.ws.length cw, .slice at_ r.ts.length ct, .slice ah r.hs.length ch, .slice an r.ns.length cn, .int .i64 r.nw, .int .i64 r.nt] 30
    replace BR0 := BR0.alloc (.cells #[.int .i64 h, .int .i64 s] 33)
    replace BR0 := BR0.alloc (.cells #[.slice none 0 0, .slice none 0 0, .slice none 0 0, .slice none 0 0, .int .i64 0, .int .i64 0] 30)
    have BP0 := Bx.new (w.alloc (.cells #[.slice aw r.ws.length cw, .slice at_ r.ts.length ct, .slice ah r.hs.length ch, .slice an r.ns.length cn, .int .i64 r.nw, .int .i64 r.nt] 30)) [.int .i64 h, .int .i64 s] 33
    rw [sz_alloc] at BP0
    replace BP0 := BP0.alloc (.cells #[.slice none 0 0, .slice none 0 0, .slice none 0 0, .slice none 0 0, .int .i64 0, .int .i64 0] 30)
    have BZ0 := Bx.new ((w.alloc (.cells #[.slice aw r.ws.length cw, .slice at_ r.ts.length ct, .slice ah r.hs.length ch, .slice an r.ns.length cn, .int .i64 r.nw, .int .i64 r.nt] 30)).alloc (.cells #[.int .i64 h, .int .i64 s] 33)) [.slice none 0 0, .slice none 0 0, .slice none 0 0, .slice none 0 0, .int .i64 0, .int .i64 0] 30
    rw [sz_alloc, sz_alloc] at BZ0
    have bl0 := (((Below.refl w.heap.size w).alloc (by first | exact Nat.le_refl _ | (simp <;> omega)) (.cells #[.slice aw r.ws.length cw, .slice at_ r.ts.length ct, .slice ah r.hs.length ch, .slice an r.ns.length cn, .int .i64 r.nw, .int .i64 r.nt] 30)).alloc (by first | exact Nat.le_refl _ | (simp <;> omega)) (.cells #[.int .i64 h, .int .i64 s] 33)).alloc (by first | exact Nat.le_refl _ | (simp <;> omega)) (.cells #[.slice none 0 0, .slice none 0 0, .slice none 0 0, .slice none 0 0, .int .i64 0, .int .i64 0] 30)
    go_enter Tryz.func21, Tryz.ntmps21
    go_wp2_with fail
    refine (rfree_err aw at_ ah an cw ct ch cn r h s _ (hr.below bl0) hz hf).mono ?_
    rintro e w1 ⟨rfl, hb1⟩
    have BR1 := BR0.below hb1
    have BP1 := BP0.below hb1
    have BZ1 := BZ0.below hb1
    have bl1 := Below_after bl0 hb1
    clear BR0 BP0 BZ0 bl0
    generalize hD' : freeC r h s = D at *
    have HD : Hid (freeC r h s = D) := hD'
    clear hD'
    obtain ⟨cR0, cR1, cR2, cR3, cR4, cR5⟩ := BR1.c6
    have zR := BR1.1
    obtain ⟨cP0, cP1⟩ := BP1.c2
    have zP := BP1.1
    obtain ⟨cZ0, fZ0, cZ1, fZ1, cZ2, fZ2, cZ3, fZ3, cZ4, fZ4, cZ5, fZ5⟩ := BZ1.cf6
    have zZ := BZ1.1
    go_wp2_with fail
    obtain ⟨y0, y1, y2, y3, y4, y5⟩ := (BZ1.put6 (.slice none 0 0) (.slice none 0 0) (.slice none 0 0) (.slice none 0 0) (.int .i64 0) (.int .i64 0)).six
    have blF := (below_set6 bl1 (b := w.heap.size + 1 + 1) (by omega) (.slice none 0 0) (.slice none 0 0) (.slice none 0 0) (.slice none 0 0) (.int .i64 0) (.int .i64 0))
    refine bodyPost_ret (v := .tuple #[.agg #[.slice none 0 0, .slice none 0 0, .slice none 0 0, .slice none 0 0, .int .i64 0, .int .i64 0], .iface 69 (.int .i64 D)]) (by simp [results, Tryz.results21, go_sem, y0, y1, y2, y3, y4, y5]) rfl ?_
    exact ⟨by rw [HD.out], blF⟩
  · have BR0 := Bx.new w [.slice aw r.ws.length cw, .slice at_ r.ts.length ct, .slice ah r.hs.length ch, .slice an r.ns.length cn, .int .i64 r.nw, .int .i64 r.nt] 30
    replace BR0 := BR0.alloc (.cells #[.int .i64 h, .int .i64 s] 33)
    replace BR0 := BR0.alloc (.cells #[.slice none 0 0, .slice none 0 0, .slice none 0 0, .slice none 0 0, .int .i64 0, .int .i64 0] 30)
    have BP0 := Bx.new (w.alloc (.cells #[.slice aw r.ws.length cw, .slice at_ r.ts.length ct, .slice ah r.hs.length ch, .slice an r.ns.length cn, .int .i64 r.nw, .int .i64 r.nt] 30)) [.int .i64 h, .int .i64 s] 33
    rw [sz_alloc] at BP0
    replace BP0 := BP0.alloc (.cells #[.slice none 0 0, .slice none 0 0, .slice none 0 0, .slice none 0 0, .int .i64 0, .int .i64 0] 30)
    have BZ0 := Bx.new ((w.alloc (.cells #[.slice aw r.ws.length cw, .slice at_ r.ts.length ct, .slice ah r.hs.length ch, .slice an r.ns.length cn, .int .i64 r.nw, .int .i64 r.nt] 30)).alloc (.cells #[.int .i64 h, .int .i64 s] 33)) [.slice none 0 0, .slice none 0 0, .slice none 0 0, .slice none 0 0, .int .i64 0, .int .i64 0] 30
    rw [sz_alloc, sz_alloc] at BZ0
    have bl0 := (((Below.refl w.heap.size w).alloc (by first | exact Nat.le_refl _ | (simp <;> omega)) (.cells #[.slice aw r.ws.length cw, .slice at_ r.ts.length ct, .slice ah r.hs.length ch, .slice an r.ns.length cn, .int .i64 r.nw, .int .i64 r.nt] 30)).alloc (by first | exact Nat.le_refl _ | (simp <;> omega)) (.cells #[.int .i64 h, .int .i64 s] 33)).alloc (by first | exact Nat.le_refl _ | (simp <;> omega)) (.cells #[.slice none 0 0, .slice none 0 0, .slice none 0 0, .slice none 0 0, .int .i64 0, .int .i64 0] 30)
    go_enter Tryz.func21, Tryz.ntmps21
    go_wp2_with fail
    refine (rfree_err aw at_ ah an cw ct ch cn r h s _ (hr.below bl0) hz hf).mono ?_
    rintro e w1 ⟨rfl, hb1⟩
    have BR1 := BR0.below hb1
    have BP1 := BP0.below hb1
    have BZ1 := BZ0.below hb1
    have bl1 := Below_after bl0 hb1
    clear BR0 BP0 BZ0 bl0
    generalize hD' : freeC r h s = D at *
    have HD : Hid (freeC r h s = D) := hD'
    clear hD'
    obtain ⟨cR0, cR1, cR2, cR3, cR4, cR5⟩ := BR1.c6
    have zR := BR1.1
    obtain ⟨cP0, cP1⟩ := BP1.c2
    have zP := BP1.1
    obtain ⟨cZ0, fZ0, cZ1, fZ1, cZ2, fZ2, cZ3, fZ3, cZ4, fZ4, cZ5, fZ5⟩ := BZ1.cf6
    have zZ := BZ1.1
    go_wp2_with fail
    obtain ⟨y0, y1, y2, y3, y4, y5⟩ := (BZ1.put6 (.slice none 0 0) (.slice none 0 0) (.slice none 0 0) (.slice none 0 0) (.int .i64 0) (.int .i64 0)).six
    have blF := (below_set6 bl1 (b := w.heap.size + 1 + 1) (by omega) (.slice none 0 0) (.slice none 0 0) (.slice none 0 0) (.slice none 0 0) (.int .i64 0) (.int .i64 0))
    refine bodyPost_ret (v := .tuple #[.agg #[.slice none 0 0, .slice none 0 0, .slice none 0 0, .slice none 0 0, .int .i64 0, .int .i64 0], .iface 69 (.int .i64 D)]) (by simp [results, Tryz.results21, go_sem, y0, y1, y2, y3, y4, y5]) rfl ?_
    exact ⟨by rw [HD.out], blF⟩
set_option maxHeartbeats 2000000 in
set_option maxRecDepth 100000 in
theorem make_fulla (aw at_ ah an : Option Addr) (cw ct ch cn : Nat) (r : Rm) (h s kind : Int) (w : World) (hr : RmAt w aw at_ ah an cw ct ch cn r) (hz : RmSz r) (hk : kind = 1 ∨ kind = 2) (hf : freeC r h s = 0) (hx : 10 ≤ (r.ts.length : Int)) :
    Calls Tryz.prog 21 #[.agg #[.slice aw r.ws.length cw, .slice at_ r.ts.length ct, .slice ah r.hs.length ch, .slice an r.ns.length cn, .int .i64 r.nw, .int .i64 r.nt], .agg #[.int .i64 h, .int .i64 s], .int .i64 kind] w fun e w' => e = .returned (.tuple #[.agg #[.slice none 0 0, .slice none 0 0, .slice none 0 0, .slice none 0 0, .int .i64 0, .int .i64 0], .iface 69 (.int .i64 9)]) ∧ Below w.heap.size w w' := by
  have mt := hz.t
  have g1 : decide (10 ≤ (r.ts.length : Int)) = true := decide_eq_true hx
  clear hx
  rcases hk with rfl | rfl
  · have BR0 := Bx.new w [.slice aw r.ws.length cw, .slice at_ r.ts.length ct, .slice ah r.hs.length ch, .slice an r.ns.length cn, .int .i64 r.nw, .int .i64 r.nt] 30
    replace BR0 := BR0.alloc (.cells #[.int .i64 h, .int .i64 s] 33)
    replace BR0 := BR0.alloc (.cells #[.slice none 0 0, .slice none 0 0, .slice none 0 0, .slice none 0 0, .int .i64 0, .int .i64 0] 30)
    have BP0 := Bx.new (w.alloc (.cells #[.slice aw r.ws.length cw, .slice at_ r.ts.length ct, .slice ah r.hs.length ch, .slice an r.ns.length cn, .int .i64 r.nw, .int .i64 r.nt] 30)) [.int .i64 h, .int .i64 s] 33
    rw [sz_alloc] at BP0
    replace BP0 := BP0.alloc (.cells #[.slice none 0 0, .slice none 0 0, .slice none 0 0, .slice none 0 0, .int .i64 0, .int .i64 0] 30)
    have BZ0 := Bx.new ((w.alloc (.cells #[.slice aw r.ws.length cw, .slice at_ r.ts.length ct, .slice ah r.hs.length ch, .slice an r.ns.length cn, .int .i64 r.nw, .int .i64 r.nt] 30)).alloc (.cells #[.int .i64 h, .int .i64 s] 33)) [.slice none 0 0, .slice none 0 0, .slice none 0 0, .slice none 0 0, .int .i64 0, .int .i64 0] 30
    rw [sz_alloc, sz_alloc] at BZ0
    have bl0 := (((Below.refl w.heap.size w).alloc (by first | exact Nat.le_refl _ | (simp <;> omega)) (.cells #[.slice aw r.ws.length cw, .slice at_ r.ts.length ct, .slice ah r.hs.length ch, .slice an r.ns.length cn, .int .i64 r.nw, .int .i64 r.nt] 30)).alloc (by first | exact Nat.le_refl _ | (simp <;> omega)) (.cells #[.int .i64 h, .int .i64 s] 33)).alloc (by first | exact Nat.le_refl _ | (simp <;> omega)) (.cells #[.slice none 0 0, .slice none 0 0, .slice none 0 0, .slice none 0 0, .int .i64 0, .int .i64 0] 30)
    go_enter Tryz.func21, Tryz.ntmps21
    go_wp2_with fail
    refine (rfree_ok aw at_ ah an cw ct ch cn r h s _ (hr.below bl0) hz hf).mono ?_
    rintro e w1 ⟨rfl, hb1⟩
    have BR1 := BR0.below hb1
    have BP1 := BP0.below hb1
    have BZ1 := BZ0.below hb1
    have bl1 := Below_after bl0 hb1
    clear BR0 BP0 BZ0 bl0
    obtain ⟨cR0, cR1, cR2, cR3, cR4, cR5⟩ := BR1.c6
    have zR := BR1.1
    obtain ⟨cP0, cP1⟩ := BP1.c2
    have zP := BP1.1
    obtain ⟨cZ0, fZ0, cZ1, fZ1, cZ2, fZ2, cZ3, fZ3, cZ4, fZ4, cZ5, fZ5⟩ := BZ1.cf6
    have zZ := BZ1.1
    go_wp2_with fail
    obtain ⟨y0, y1, y2, y3, y4, y5⟩ := (BZ1.put6 (.slice none 0 0) (.slice none 0 0) (.slice none 0 0) (.slice none 0 0) (.int .i64 0) (.int .i64 0)).six
    have blF := (below_set6 bl1 (b := w.heap.size + 1 + 1) (by omega) (.slice none 0 0) (.slice none 0 0) (.slice none 0 0) (.slice none 0 0) (.int .i64 0) (.int .i64 0))
    refine bodyPost_ret (v := .tuple #[.agg #[.slice none 0 0, .slice none 0 0, .slice none 0 0, .slice none 0 0, .int .i64 0, .int .i64 0], .iface 69 (.int .i64 9)]) (by simp [results, Tryz.results21, go_sem, y0, y1, y2, y3, y4, y5]) rfl ?_
    exact ⟨rfl, blF⟩
  · have BR0 := Bx.new w [.slice aw r.ws.length cw, .slice at_ r.ts.length ct, .slice ah r.hs.length ch, .slice an r.ns.length cn, .int .i64 r.nw, .int .i64 r.nt] 30
    replace BR0 := BR0.alloc (.cells #[.int .i64 h, .int .i64 s] 33)
    replace BR0 := BR0.alloc (.cells #[.slice none 0 0, .slice none 0 0, .slice none 0 0, .slice none 0 0, .int .i64 0, .int .i64 0] 30)
    have BP0 := Bx.new (w.alloc (.cells #[.slice aw r.ws.length cw, .slice at_ r.ts.length ct, .slice ah r.hs.length ch, .slice an r.ns.length cn, .int .i64 r.nw, .int .i64 r.nt] 30)) [.int .i64 h, .int .i64 s] 33
    rw [sz_alloc] at BP0
    replace BP0 := BP0.alloc (.cells #[.slice none 0 0, .slice none 0 0, .slice none 0 0, .slice none 0 0, .int .i64 0, .int .i64 0] 30)
    have BZ0 := Bx.new ((w.alloc (.cells #[.slice aw r.ws.length cw, .slice at_ r.ts.length ct, .slice ah r.hs.length ch, .slice an r.ns.length cn, .int .i64 r.nw, .int .i64 r.nt] 30)).alloc (.cells #[.int .i64 h, .int .i64 s] 33)) [.slice none 0 0, .slice none 0 0, .slice none 0 0, .slice none 0 0, .int .i64 0, .int .i64 0] 30
    rw [sz_alloc, sz_alloc] at BZ0
    have bl0 := (((Below.refl w.heap.size w).alloc (by first | exact Nat.le_refl _ | (simp <;> omega)) (.cells #[.slice aw r.ws.length cw, .slice at_ r.ts.length ct, .slice ah r.hs.length ch, .slice an r.ns.length cn, .int .i64 r.nw, .int .i64 r.nt] 30)).alloc (by first | exact Nat.le_refl _ | (simp <;> omega)) (.cells #[.int .i64 h, .int .i64 s] 33)).alloc (by first | exact Nat.le_refl _ | (simp <;> omega)) (.cells #[.slice none 0 0, .slice none 0 0, .slice none 0 0, .slice none 0 0, .int .i64 0, .int .i64 0] 30)
    go_enter Tryz.func21, Tryz.ntmps21
    go_wp2_with fail
    refine (rfree_ok aw at_ ah an cw ct ch cn r h s _ (hr.below bl0) hz hf).mono ?_
    rintro e w1 ⟨rfl, hb1⟩
    have BR1 := BR0.below hb1
    have BP1 := BP0.below hb1
    have BZ1 := BZ0.below hb1
    have bl1 := Below_after bl0 hb1
    clear BR0 BP0 BZ0 bl0
    obtain ⟨cR0, cR1, cR2, cR3, cR4, cR5⟩ := BR1.c6
    have zR := BR1.1
    obtain ⟨cP0, cP1⟩ := BP1.c2
    have zP := BP1.1
    obtain ⟨cZ0, fZ0, cZ1, fZ1, cZ2, fZ2, cZ3, fZ3, cZ4, fZ4, cZ5, fZ5⟩ := BZ1.cf6
    have zZ := BZ1.1
    go_wp2_with fail
    obtain ⟨y0, y1, y2, y3, y4, y5⟩ := (BZ1.put6 (.slice none 0 0) (.slice none 0 0) (.slice none 0 0) (.slice none 0 0) (.int .i64 0) (.int .i64 0)).six
    have blF := (below_set6 bl1 (b := w.heap.size + 1 + 1) (by omega) (.slice none 0 0) (.slice none 0 0) (.slice none 0 0) (.slice none 0 0) (.int .i64 0) (.int .i64 0))
    refine bodyPost_ret (v := .tuple #[.agg #[.slice none 0 0, .slice none 0 0, .slice none 0 0, .slice none 0 0, .int .i64 0, .int .i64 0], .iface 69 (.int .i64 9)]) (by simp [results, Tryz.results21, go_sem, y0, y1, y2, y3, y4, y5]) rfl ?_
    exact ⟨rfl, blF⟩
set_option maxHeartbeats 2000000 in
set_option maxRecDepth 100000 in
theorem make_fullb (aw at_ ah an : Option Addr) (cw ct ch cn : Nat) (r : Rm) (h s kind : Int) (w : World) (hr : RmAt w aw at_ ah an cw ct ch cn r) (hz : RmSz r) (hk : kind = 1 ∨ kind = 2) (hf : freeC r h s = 0) (hx : ¬ 10 ≤ (r.ts.length : Int) ∧ 999 < r.nt) :
    Calls Tryz.prog 21 #[.agg #[.slice aw r.ws.length cw, .slice at_ r.ts.length ct, .slice ah r.hs.length ch, .slice an r.ns.length cn, .int .i64 r.nw, .int .i64 r.nt], .agg #[.int .i64 h, .int .i64 s], .int .i64 kind] w fun e w' => e = .returned (.tuple #[.agg #[.slice none 0 0, .slice none 0 0, .slice none 0 0, .slice none 0 0, .int .i64 0, .int .i64 0], .iface 69 (.int .i64 9)]) ∧ Below w.heap.size w w' := by
  have mt := hz.t
  have g1 : decide (10 ≤ (r.ts.length : Int)) = false := decide_eq_false hx.1
  have g2 : decide (999 < r.nt) = true := decide_eq_true hx.2
  clear hx
  rcases hk with rfl | rfl
  · have BR0 := Bx.new w [.slice aw r.ws.length cw, .slice at_ r.ts.length ct, .slice ah r.hs.length ch, .slice an r.ns.length cn, .int .i64 r.nw, .int .i64 r.nt] 30
    replace BR0 := BR0.alloc (.cells #[.int .i64 h, .int .i64 s] 33)
    replace BR0 := BR0.alloc (.cells #[.slice none 0 0, .slice none 0 0, .slice none 0 0, .slice none 0 0, .int .i64 0, .int .i64 0] 30)
    have BP0 := Bx.new (w.alloc (.cells #[.slice aw r.ws.length cw, .slice at_ r.ts.length ct, .slice ah r.hs.length ch, .slice an r.ns.length cn, .int .i64 r.nw, .int .i64 r.nt] 30)) [.int .i64 h, .int .i64 s] 33
    rw [sz_alloc] at BP0
    replace BP0 := BP0.alloc (.cells #[.slice none 0 0, .slice none 0 0, .slice none 0 0, .slice none 0 0, .int .i64 0, .int .i64 0] 30)
    have BZ0 := Bx.new ((w.alloc (.cells #[.slice aw r.ws.length cw, .slice at_ r.ts.length ct, .slice ah r.hs.length ch, .slice an r.ns.length cn, .int .i64 r.nw, .int .i64 r.nt] 30)).alloc (.cells #[.int .i64 h, .int .i64 s] 33)) [.slice none 0 0, .slice none 0 0, .slice none 0 0, .slice none 0 0, .int .i64 0, .int .i64 0] 30
    rw [sz_alloc, sz_alloc] at BZ0
    have bl0 := (((Below.refl w.heap.size w).alloc (by first | exact Nat.le_refl _ | (simp <;> omega)) (.cells #[.slice aw r.ws.length cw, .slice at_ r.ts.length ct, .slice ah r.hs.length ch, .slice an r.ns.length cn, .int .i64 r.nw, .int .i64 r.nt] 30)).alloc (by first | exact Nat.le_refl _ | (simp <;> omega)) (.cells #[.int .i64 h, .int .i64 s] 33)).alloc (by first | exact Nat.le_refl _ | (simp <;> omega)) (.cells #[.slice none 0 0, .slice none 0 0, .slice none 0 0, .slice none 0 0, .int .i64 0, .int .i64 0] 30)
    go_enter Tryz.func21, Tryz.ntmps21
    go_wp2_with fail
    refine (rfree_ok aw at_ ah an cw ct ch cn r h s _ (hr.below bl0) hz hf).mono ?_
    rintro e w1 ⟨rfl, hb1⟩
    have BR1 := BR0.below hb1
    have BP1 := BP0.below hb1
    have BZ1 := BZ0.below hb1
    have bl1 := Below_after bl0 hb1
    clear BR0 BP0 BZ0 bl0
    obtain ⟨cR0, cR1, cR2, cR3, cR4, cR5⟩ := BR1.c6
    have zR := BR1.1
    obtain ⟨cP0, cP1⟩ := BP1.c2
    have zP := BP1.1
    obtain ⟨cZ0, fZ0, cZ1, fZ1, cZ2, fZ2, cZ3, fZ3, cZ4, fZ4, cZ5, fZ5⟩ := BZ1.cf6
    have zZ := BZ1.1
    go_wp2_with fail
    obtain ⟨y0, y1, y2, y3, y4, y5⟩ := (BZ1.put6 (.slice none 0 0) (.slice none 0 0) (.slice none 0 0) (.slice none 0 0) (.int .i64 0) (.int .i64 0)).six
    have blF := (below_set6 bl1 (b := w.heap.size + 1 + 1) (by omega) (.slice none 0 0) (.slice none 0 0) (.slice none 0 0) (.slice none 0 0) (.int .i64 0) (.int .i64 0))
    refine bodyPost_ret (v := .tuple #[.agg #[.slice none 0 0, .slice none 0 0, .slice none 0 0, .slice none 0 0, .int .i64 0, .int .i64 0], .iface 69 (.int .i64 9)]) (by simp [results, Tryz.results21, go_sem, y0, y1, y2, y3, y4, y5]) rfl ?_
    exact ⟨rfl, blF⟩
  · have BR0 := Bx.new w [.slice aw r.ws.length cw, .slice at_ r.ts.length ct, .slice ah r.hs.length ch, .slice an r.ns.length cn, .int .i64 r.nw, .int .i64 r.nt] 30
    replace BR0 := BR0.alloc (.cells #[.int .i64 h, .int .i64 s] 33)
    replace BR0 := BR0.alloc (.cells #[.slice none 0 0, .slice none 0 0, .slice none 0 0, .slice none 0 0, .int .i64 0, .int .i64 0] 30)
    have BP0 := Bx.new (w.alloc (.cells #[.slice aw r.ws.length cw, .slice at_ r.ts.length ct, .slice ah r.hs.length ch, .slice an r.ns.length cn, .int .i64 r.nw, .int .i64 r.nt] 30)) [.int .i64 h, .int .i64 s] 33
    rw [sz_alloc] at BP0
    replace BP0 := BP0.alloc (.cells #[.slice none 0 0, .slice none 0 0, .slice none 0 0, .slice none 0 0, .int .i64 0, .int .i64 0] 30)
    have BZ0 := Bx.new ((w.alloc (.cells #[.slice aw r.ws.length cw, .slice at_ r.ts.length ct, .slice ah r.hs.length ch, .slice an r.ns.length cn, .int .i64 r.nw, .int .i64 r.nt] 30)).alloc (.cells #[.int .i64 h, .int .i64 s] 33)) [.slice none 0 0, .slice none 0 0, .slice none 0 0, .slice none 0 0, .int .i64 0, .int .i64 0] 30
    rw [sz_alloc, sz_alloc] at BZ0
    have bl0 := (((Below.refl w.heap.size w).alloc (by first | exact Nat.le_refl _ | (simp <;> omega)) (.cells #[.slice aw r.ws.length cw, .slice at_ r.ts.length ct, .slice ah r.hs.length ch, .slice an r.ns.length cn, .int .i64 r.nw, .int .i64 r.nt] 30)).alloc (by first | exact Nat.le_refl _ | (simp <;> omega)) (.cells #[.int .i64 h, .int .i64 s] 33)).alloc (by first | exact Nat.le_refl _ | (simp <;> omega)) (.cells #[.slice none 0 0, .slice none 0 0, .slice none 0 0, .slice none 0 0, .int .i64 0, .int .i64 0] 30)
    go_enter Tryz.func21, Tryz.ntmps21
    go_wp2_with fail
    refine (rfree_ok aw at_ ah an cw ct ch cn r h s _ (hr.below bl0) hz hf).mono ?_
    rintro e w1 ⟨rfl, hb1⟩
    have BR1 := BR0.below hb1
    have BP1 := BP0.below hb1
    have BZ1 := BZ0.below hb1
    have bl1 := Below_after bl0 hb1
    clear BR0 BP0 BZ0 bl0
    obtain ⟨cR0, cR1, cR2, cR3, cR4, cR5⟩ := BR1.c6
    have zR := BR1.1
    obtain ⟨cP0, cP1⟩ := BP1.c2
    have zP := BP1.1
    obtain ⟨cZ0, fZ0, cZ1, fZ1, cZ2, fZ2, cZ3, fZ3, cZ4, fZ4, cZ5, fZ5⟩ := BZ1.cf6
    have zZ := BZ1.1
    go_wp2_with fail
    obtain ⟨y0, y1, y2, y3, y4, y5⟩ := (BZ1.put6 (.slice none 0 0) (.slice none 0 0) (.slice none 0 0) (.slice none 0 0) (.int .i64 0) (.int .i64 0)).six
    have blF := (below_set6 bl1 (b := w.heap.size + 1 + 1) (by omega) (.slice none 0 0) (.slice none 0 0) (.slice none 0 0) (.slice none 0 0) (.int .i64 0) (.int .i64 0))
    refine bodyPost_ret (v := .tuple #[.agg #[.slice none 0 0, .slice none 0 0, .slice none 0 0, .slice none 0 0, .int .i64 0, .int .i64 0], .iface 69 (.int .i64 9)]) (by simp [results, Tryz.results21, go_sem, y0, y1, y2, y3, y4, y5]) rfl ?_
    exact ⟨rfl, blF⟩
set_option maxHeartbeats 2000000 in
set_option maxRecDepth 100000 in
theorem make_fullc (aw at_ ah an : Option Addr) (cw ct ch cn : Nat) (r : Rm) (h s kind : Int) (w : World) (hr : RmAt w aw at_ ah an cw ct ch cn r) (hz : RmSz r) (hk : kind = 1 ∨ kind = 2) (hf : freeC r h s = 0) (hx : ¬ 10 ≤ (r.ts.length : Int) ∧ ¬ 999 < r.nt ∧ 999 < r.nw) :
    Calls Tryz.prog 21 #[.agg #[.slice aw r.ws.length cw, .slice at_ r.ts.length ct, .slice ah r.hs.length ch, .slice an r.ns.length cn, .int .i64 r.nw, .int .i64 r.nt], .agg #[.int .i64 h, .int .i64 s], .int .i64 kind] w fun e w' => e = .returned (.tuple #[.agg #[.slice none 0 0, .slice none 0 0, .slice none 0 0, .slice none 0 0, .int .i64 0, .int .i64 0], .iface 69 (.int .i64 9)]) ∧ Below w.heap.size w w' := by
  have mt := hz.t
  have g1 : decide (10 ≤ (r.ts.length : Int)) = false := decide_eq_false hx.1
  have g2 : decide (999 < r.nt) = false := decide_eq_false hx.2.1
  have g3 : decide (999 < r.nw) = true := decide_eq_true hx.2.2
  clear hx
  rcases hk with rfl | rfl
  · have BR0 := Bx.new w [.slice aw r.ws.length cw, .slice at_ r.ts.length ct, .slice ah r.hs.length ch, .slice an r.ns.length cn, .int .i64 r.nw, .int .i64 r.nt] 30
    replace BR0 := BR0.alloc (.cells #[.int .i64 h, .int .i64 s] 33)
    replace BR0 := BR0.alloc (.cells #[.slice none 0 0, .slice none 0 0, .slice none 0 0, .slice none 0 0, .int .i64 0, .int .i64 0] 30)
    have BP0 := Bx.new (w.alloc (.cells #[.slice aw r.ws.length cw, .slice at_ r.ts.length ct, .slice ah r.hs.length ch, .slice an r.ns.length cn, .int .i64 r.nw, .int .i64 r.nt] 30)) [.int .i64 h, .int .i64 s] 33
    rw [sz_alloc] at BP0
    replace BP0 := BP0.alloc (.cells #[.slice none 0 0, .slice none 0 0, .slice none 0 0, .slice none 0 0, .int .i64 0, .int .i64 0] 30)
    have BZ0 := Bx.new ((w.alloc (.cells #[.slice aw r.ws.length cw, .slice at_ r.ts.length ct, .slice ah r.hs.length ch, .slice an r.ns.length cn, .int .i64 r.nw, .int .i64 r.nt] 30)).alloc (.cells #[.int .i64 h, .int .i64 s] 33)) [.slice none 0 0, .slice none 0 0, .slice none 0 0, .slice none 0 0, .int .i64 0, .int .i64 0] 30
    rw [sz_alloc, sz_alloc] at BZ0
    have bl0 := (((Below.refl w.heap.size w).alloc (by first | exact Nat.le_refl _ | (simp <;> omega)) (.cells #[.slice aw r.ws.length cw, .slice at_ r.ts.length ct, .slice ah r.hs.length ch, .slice an r.ns.length cn, .int .i64 r.nw, .int .i64 r.nt] 30)).alloc (by first | exact Nat.le_refl _ | (simp <;> omega)) (.cells #[.int .i64 h, .int .i64 s] 33)).alloc (by first | exact Nat.le_refl _ | (simp <;> omega)) (.cells #[.slice none 0 0, .slice none 0 0, .slice none 0 0, .slice none 0 0, .int .i64 0, .int .i64 0] 30)
    go_enter Tryz.func21, Tryz.ntmps21
    go_wp2_with fail
    refine (rfree_ok aw at_ ah an cw ct ch cn r h s _ (hr.below bl0) hz hf).mono ?_
    rintro e w1 ⟨rfl, hb1⟩
    have BR1 := BR0.below hb1
    have BP1 := BP0.below hb1
    have BZ1 := BZ0.below hb1
    have bl1 := Below_after bl0 hb1
    clear BR0 BP0 BZ0 bl0
    obtain ⟨cR0, cR1, cR2, cR3, cR4, cR5⟩ := BR1.c6
    have zR := BR1.1
    obtain ⟨cP0, cP1⟩ := BP1.c2
    have zP := BP1.1
    obtain ⟨cZ0, fZ0, cZ1, fZ1, cZ2, fZ2, cZ3, fZ3, cZ4, fZ4, cZ5, fZ5⟩ := BZ1.cf6
    have zZ := BZ1.1
    go_wp2_with fail
    obtain ⟨y0, y1, y2, y3, y4, y5⟩ := (BZ1.put6 (.slice none 0 0) (.slice none 0 0) (.slice none 0 0) (.slice none 0 0) (.int .i64 0) (.int .i64 0)).six
    have blF := (below_set6 bl1 (b := w.heap.size + 1 + 1) (by omega) (.slice none 0 0) (.slice none 0 0) (.slice none 0 0) (.slice none 0 0) (.int .i64 0) (.int .i64 0))
    refine bodyPost_ret (v := .tuple #[.agg #[.slice none 0 0, .slice none 0 0, .slice none 0 0, .slice none 0 0, .int .i64 0, .int .i64 0], .iface 69 (.int .i64 9)]) (by simp [results, Tryz.results21, go_sem, y0, y1, y2, y3, y4, y5]) rfl ?_
    exact ⟨rfl, blF⟩
  · have BR0 := Bx.new w [.slice aw r.ws.length cw, .slice at_ r.ts.length ct, .slice ah r.hs.length ch, .slice an r.ns.length cn, .int .i64 r.nw, .int .i64 r.nt] 30
    replace BR0 := BR0.alloc (.cells #[.int .i64 h, .int .i64 s] 33)
    replace BR0 := BR0.alloc (.cells #[.slice none 0 0, .slice none 0 0, .slice none 0 0, .slice none 0 0, .int .i64 0, .int .i64 0] 30)
    have BP0 := Bx.new (w.alloc (.cells #[.slice aw r.ws.length cw, .slice at_ r.ts.length ct, .slice ah r.hs.length ch, .slice an r.ns.length cn, .int .i64 r.nw, .int .i64 r.nt] 30)) [.int .i64 h, .int .i64 s] 33
    rw [sz_alloc] at BP0
    replace BP0 := BP0.alloc (.cells #[.slice none 0 0, .slice none 0 0, .slice none 0 0, .slice none 0 0, .int .i64 0, .int .i64 0] 30)
    have BZ0 := Bx.new ((w.alloc (.cells #[.slice aw r.ws.length cw, .slice at_ r.ts.length ct, .slice ah r.hs.length ch, .slice an r.ns.length cn, .int .i64 r.nw, .int .i64 r.nt] 30)).alloc (.cells #[.int .i64 h, .int .i64 s] 33)) [.slice none 0 0, .slice none 0 0, .slice none 0 0, .slice none 0 0, .int .i64 0, .int .i64 0] 30
    rw [sz_alloc, sz_alloc] at BZ0
    have bl0 := (((Below.refl w.heap.size w).alloc (by first | exact Nat.le_refl _ | (simp <;> omega)) (.cells #[.slice aw r.ws.length cw, .slice at_ r.ts.length ct, .slice ah r.hs.length ch, .slice an r.ns.length cn, .int .i64 r.nw, .int .i64 r.nt] 30)).alloc (by first | exact Nat.le_refl _ | (simp <;> omega)) (.cells #[.int .i64 h, .int .i64 s] 33)).alloc (by first | exact Nat.le_refl _ | (simp <;> omega)) (.cells #[.slice none 0 0, .slice none 0 0, .slice none 0 0, .slice none 0 0, .int .i64 0, .int .i64 0] 30)
    go_enter Tryz.func21, Tryz.ntmps21
    go_wp2_with fail
    refine (rfree_ok aw at_ ah an cw ct ch cn r h s _ (hr.below bl0) hz hf).mono ?_
    rintro e w1 ⟨rfl, hb1⟩
    have BR1 := BR0.below hb1
    have BP1 := BP0.below hb1
    have BZ1 := BZ0.below hb1
    have bl1 := Below_after bl0 hb1
    clear BR0 BP0 BZ0 bl0
    obtain ⟨cR0, cR1, cR2, cR3, cR4, cR5⟩ := BR1.c6
    have zR := BR1.1
    obtain ⟨cP0, cP1⟩ := BP1.c2
    have zP := BP1.1
    obtain ⟨cZ0, fZ0, cZ1, fZ1, cZ2, fZ2, cZ3, fZ3, cZ4, fZ4, cZ5, fZ5⟩ := BZ1.cf6
    have zZ := BZ1.1
    go_wp2_with fail
    obtain ⟨y0, y1, y2, y3, y4, y5⟩ := (BZ1.put6 (.slice none 0 0) (.slice none 0 0) (.slice none 0 0) (.slice none 0 0) (.int .i64 0) (.int .i64 0)).six
    have blF := (below_set6 bl1 (b := w.heap.size + 1 + 1) (by omega) (.slice none 0 0) (.slice none 0 0) (.slice none 0 0) (.slice none 0 0) (.int .i64 0) (.int .i64 0))
    refine bodyPost_ret (v := .tuple #[.agg #[.slice none 0 0, .slice none 0 0, .slice none 0 0, .slice none 0 0, .int .i64 0, .int .i64 0], .iface 69 (.int .i64 9)]) (by simp [results, Tryz.results21, go_sem, y0, y1, y2, y3, y4, y5]) rfl ?_
    exact ⟨rfl, blF⟩
set_option maxHeartbeats 2000000 in
set_option maxRecDepth 100000 in
theorem make_yes (aw at_ ah an : Option Addr) (cw ct ch cn : Nat) (r : Rm) (h s kind : Int) (w : World) (hr : RmAt w aw at_ ah an cw ct ch cn r) (hz : RmSz r) (hk : kind = 1 ∨ kind = 2) (hf : freeC r h s = 0) (hx : ¬ (10 ≤ (r.ts.length : Int) ∨ 999 < r.nt ∨ 999 < r.nw)) :
    Calls Tryz.prog 21 #[.agg #[.slice aw r.ws.length cw, .slice at_ r.ts.length ct, .slice ah r.hs.length ch, .slice an r.ns.length cn, .int .i64 r.nw, .int .i64 r.nt], .agg #[.int .i64 h, .int .i64 s], .int .i64 kind] w fun e w' => ∃ v0 v1 v2 v3, e = .returned (.tuple #[.agg #[v0, v1, v2, v3, .int .i64 (r.nw + 1), .int .i64 (r.nt + 1)], .nilIface]) ∧ OwnsR w' w.heap.size v0 v1 v2 v3 (makeR r h s kind) ∧ Below w.heap.size w w' := by
  obtain ⟨i0, hi, hi0, hi1, hi2⟩ := info_parts infoThing
  have mh := hz.h
  have hnt := hz.nt
  have g1 : decide (10 ≤ (r.ts.length : Int)) = false := decide_eq_false (by omega)
  have g2 : decide (999 < r.nt) = false := decide_eq_false (by omega)
  have g3 : decide (999 < r.nw) = false := decide_eq_false (by omega)
  have hxx : r.ts.length < 10 ∧ r.nt ≤ 999 ∧ r.nw ≤ 999 := by omega
  obtain ⟨hx1, hx2, hx3⟩ := hxx
  clear hx
  rcases hk with rfl | rfl
  · have BR0 := Bx.new w [.slice aw r.ws.length cw, .slice at_ r.ts.length ct, .slice ah r.hs.length ch, .slice an r.ns.length cn, .int .i64 r.nw, .int .i64 r.nt] 30
    replace BR0 := BR0.alloc (.cells #[.int .i64 h, .int .i64 s] 33)
    replace BR0 := BR0.alloc (.cells #[.slice none 0 0, .slice none 0 0, .slice none 0 0, .slice none 0 0, .int .i64 0, .int .i64 0] 30)
    have BP0 := Bx.new (w.alloc (.cells #[.slice aw r.ws.length cw, .slice at_ r.ts.length ct, .slice ah r.hs.length ch, .slice an r.ns.length cn, .int .i64 r.nw, .int .i64 r.nt] 30)) [.int .i64 h, .int .i64 s] 33
    rw [sz_alloc] at BP0
    replace BP0 := BP0.alloc (.cells #[.slice none 0 0, .slice none 0 0, .slice none 0 0, .slice none 0 0, .int .i64 0, .int .i64 0] 30)
    have BZ0 := Bx.new ((w.alloc (.cells #[.slice aw r.ws.length cw, .slice at_ r.ts.length ct, .slice ah r.hs.length ch, .slice an r.ns.length cn, .int .i64 r.nw, .int .i64 r.nt] 30)).alloc (.cells #[.int .i64 h, .int .i64 s] 33)) [.slice none 0 0, .slice none 0 0, .slice none 0 0, .slice none 0 0, .int .i64 0, .int .i64 0] 30
    rw [sz_alloc, sz_alloc] at BZ0
    have bl0 := (((Below.refl w.heap.size w).alloc (by first | exact Nat.le_refl _ | (simp <;> omega)) (.cells #[.slice aw r.ws.length cw, .slice at_ r.ts.length ct, .slice ah r.hs.length ch, .slice an r.ns.length cn, .int .i64 r.nw, .int .i64 r.nt] 30)).alloc (by first | exact Nat.le_refl _ | (simp <;> omega)) (.cells #[.int .i64 h, .int .i64 s] 33)).alloc (by first | exact Nat.le_refl _ | (simp <;> omega)) (.cells #[.slice none 0 0, .slice none 0 0, .slice none 0 0, .slice none 0 0, .int .i64 0, .int .i64 0] 30)
    go_enter Tryz.func21, Tryz.ntmps21
    go_wp2_with fail
    refine (rfree_ok aw at_ ah an cw ct ch cn r h s _ (hr.below bl0) hz hf).mono ?_
    rintro e w1 ⟨rfl, hb1⟩
    have BR1 := BR0.below hb1
    have BP1 := BP0.below hb1
    have BZ1 := BZ0.below hb1
    have bl1 := Below_after bl0 hb1
    clear BR0 BP0 BZ0 bl0
    obtain ⟨cR0, cR1, cR2, cR3, cR4, cR5⟩ := BR1.c6
    have zR := BR1.1
    obtain ⟨cP0, cP1⟩ := BP1.c2
    have zP := BP1.1
    obtain ⟨cZ0, cZ1, cZ2, cZ3, cZ4, cZ5⟩ := BZ1.c6
    have zZ := BZ1.1
    go_wp2_with fail
    clear cR0 cR1 cR2 cR3 cR4 cR5 zR cP0 cP1 zP cZ0 cZ1 cZ2 cZ3 cZ4 cZ5 zZ
    obtain ⟨L, hL⟩ : ∃ L, (r.ws ++ [(⟨r.nw, r.nt, 7, 0, 0⟩ : Wr)]).length = L := ⟨_, rfl⟩
    have HL : Hid ((r.ws ++ [(⟨r.nw, r.nt, 7, 0, 0⟩ : Wr)]).length = L) := hL
    clear hL
    obtain ⟨H, hH⟩ : ∃ H, (putL r.hs h s r.nw).length = H := ⟨_, rfl⟩
    have HH : Hid ((putL r.hs h s r.nw).length = H) := hH
    clear hH
    have hlow := BZ1.1
    have hs1 : w.heap.size ≤ w1.heap.size := bl1.size
    refine (add_at aw at_ ah an cw ct ch cn r (⟨r.nw, r.nt, 7, 0, 0⟩ : Wr) _ (hr.below bl1) hz L HL.out).mono ?_
    rintro e w2 ⟨b0, b1, b2, b3, d0, d1, d2, d3, rfl, hO, hb2⟩
    have sz2 : w1.heap.size ≤ w2.heap.size := hb2.size
    have BR2 := BR1.below hb2
    have BP2 := BP1.below hb2
    have BZ2 := BZ1.below hb2
    have bl2 := Below_after bl1 hb2
    clear BR1 BP1 BZ1 bl1
    obtain ⟨cR0, cR1, cR2, cR3, cR4, cR5⟩ := BR2.c6
    have zR := BR2.1
    obtain ⟨cP0, cP1⟩ := BP2.c2
    have zP := BP2.1
    obtain ⟨cZ0, cZ1, cZ2, cZ3, cZ4, cZ5⟩ := BZ2.c6
    have zZ := BZ2.1
    have HO : Hid (OwnsR w2 _ _ _ _ _ _) := hO
    clear hO
    go_wp2_with fail
    clear cR0 cR1 cR2 cR3 cR4 cR5 zR cP0 cP1 zP cZ0 cZ1 cZ2 cZ3 cZ4 cZ5 zZ
    have tag := RTag.new w2 #[.slice b0 L d0, .slice b1 r.ts.length d1, .slice b2 r.hs.length d2, .slice b3 r.ns.length d3, .int .i64 (r.nw + 1), .int .i64 r.nt]
    have hO3 := HO.out.below ((Below.refl _ _).alloc (Nat.le_refl _) (.cells #[.slice b0 L d0, .slice b1 r.ts.length d1, .slice b2 r.hs.length d2, .slice b3 r.ns.length d3, .int .i64 (r.nw + 1), .int .i64 r.nt] 30))
    clear HO
    have BR3 := BR2.alloc (.cells #[.slice b0 L d0, .slice b1 r.ts.length d1, .slice b2 r.hs.length d2, .slice b3 r.ns.length d3, .int .i64 (r.nw + 1), .int .i64 r.nt] 30)
    have BP3 := BP2.alloc (.cells #[.slice b0 L d0, .slice b1 r.ts.length d1, .slice b2 r.hs.length d2, .slice b3 r.ns.length d3, .int .i64 (r.nw + 1), .int .i64 r.nt] 30)
    have BZ3 := BZ2.alloc (.cells #[.slice b0 L d0, .slice b1 r.ts.length d1, .slice b2 r.hs.length d2, .slice b3 r.ns.length d3, .int .i64 (r.nw + 1), .int .i64 r.nt] 30)
    have bl3 := bl2.alloc bl2.size (.cells #[.slice b0 L d0, .slice b1 r.ts.length d1, .slice b2 r.hs.length d2, .slice b3 r.ns.length d3, .int .i64 (r.nw + 1), .int .i64 r.nt] 30)
    have BO3 := Bx.new w2 [.slice b0 L d0, .slice b1 r.ts.length d1, .slice b2 r.hs.length d2, .slice b3 r.ns.length d3, .int .i64 (r.nw + 1), .int .i64 r.nt] 30
    clear BR2 BP2 BZ2 bl2
    generalize hg : (w2.alloc (.cells #[.slice b0 L d0, .slice b1 r.ts.length d1, .slice b2 r.hs.length d2, .slice b3 r.ns.length d3, .int .i64 (r.nw + 1), .int .i64 r.nt] 30)) = w3 at BR3 BP3 BZ3 BO3 bl3 tag hO3 ⊢
    clear hg
    have hs3 : w2.heap.size < w3.heap.size := BO3.1
    refine (put_row b2 d2 r.hs h s r.nw _ (HdsAt.ofRow hO3.rh).1 mh H HH.out).mono ?_
    rintro e w4 ⟨b2', d2', rfl, hrow, hb4⟩
    have sz4 : w3.heap.size ≤ w4.heap.size := hb4.size
    have hO4 := (hO3.below hb4).put2 hrow (by omega)
    have tag4 := tag.below hb4
    clear hO3 tag hrow
    have BR4 := BR3.below hb4
    have BP4 := BP3.below hb4
    have BZ4 := BZ3.below hb4
    have BO4 := BO3.below hb4
    have bl4 := Below_after bl3 hb4
    clear BR3 BP3 BZ3 BO3 bl3
    have hs4 : w2.heap.size < w4.heap.size := BO4.1
    obtain ⟨cR0, cR1, cR2, cR3, cR4, cR5⟩ := BR4.c6
    have zR := BR4.1
    obtain ⟨cP0, cP1⟩ := BP4.c2
    have zP := BP4.1
    obtain ⟨cZ0, fZ0, cZ1, fZ1, cZ2, fZ2, cZ3, fZ3, cZ4, fZ4, cZ5, fZ5⟩ := BZ4.cf6
    have zZ := BZ4.1
    obtain ⟨cO0, fO0, cO1, fO1, cO2, fO2, cO3, fO3, cO4, fO4, cO5, fO5⟩ := BO4.cf6
    have zO := BO4.1
    have hO5 := (hO4.setTag tag4 2 (.slice b2' H d2')).below ((Below.refl _ _).alloc (Nat.le_refl _) (.cells #[.int .i64 r.nt, .int .i64 1, .string ByteArray.empty] 73))
    have tag5 := (tag4.set 2 (.slice b2' H d2')).below ((Below.refl _ _).alloc (Nat.le_refl _) (.cells #[.int .i64 r.nt, .int .i64 1, .string ByteArray.empty] 73))
    have HO5 : Hid (OwnsR _ _ _ _ _ _ _) := hO5
    have HT5 : Hid (RTag _ _) := tag5
    clear hO5 tag5 hO4 tag4
    go_wp2_with (at_builtin; refine wpList_append_own _ rfl _ _ 26 rfl w1.heap.size 73 i0 (.agg #[.int .i64 0, .int .i64 0, .string ByteArray.empty]) 3 32 Tryz.underlying26 hi hi0 hi1 hi2 rfl (by decide) _ _ _ rfl HO5.out.rt _ 1 1 [.int .i64 r.nt, .int .i64 1, .string ByteArray.empty] rfl rfl (new3s _ _ _ _ _ _ _) (tcell_one ⟨r.nt, 1, ByteArray.empty⟩) ?c3 ?c4 ?c5 ?_)
    case c3 => have := hz.t; simp only [addR]; unfold maxLen; omega
    case c4 => have := hz.t; simp only [addR]; omega
    case c5 => simp; omega
    intro v1' w6 hown6' hgrow _
    clear cR0 cR1 cR2 cR3 cR4 cR5 zR cP0 cP1 zP cZ0 fZ0 cZ1 fZ1 cZ2 fZ2 cZ3 fZ3 cZ4 fZ4 cZ5 fZ5 zZ cO0 fO0 cO1 fO1 cO2 fO2 cO3 fO3 cO4 fO4 cO5 fO5 zO
    have BR5 := BR4.other (b' := w2.heap.size) (by first | omega | (have := BO4.1; have := BR4.1; omega)) 2 (.slice b2' H d2')
    have BP5 := BP4.other (b' := w2.heap.size) (by first | omega | (have := BO4.1; have := BP4.1; omega)) 2 (.slice b2' H d2')
    have BZ5 := BZ4.other (b' := w2.heap.size) (by first | omega | (have := BO4.1; have := BZ4.1; omega)) 2 (.slice b2' H d2')
    have BO5 := BO4.set 2 (.slice b2' H d2')
    simp only [List.set_cons_zero, List.set_cons_succ] at BO5
    have bl5 := bl4.setCell (p := ⟨w2.heap.size, 2, none⟩) (by show w.heap.size ≤ w2.heap.size; omega) (.slice b2' H d2')
    clear BR4 BP4 BZ4 BO4 bl4
    have BR6 := BR5.alloc (.cells #[.int .i64 r.nt, .int .i64 1, .string ByteArray.empty] 73)
    have BP6 := BP5.alloc (.cells #[.int .i64 r.nt, .int .i64 1, .string ByteArray.empty] 73)
    have BZ6 := BZ5.alloc (.cells #[.int .i64 r.nt, .int .i64 1, .string ByteArray.empty] 73)
    have BO6 := BO5.alloc (.cells #[.int .i64 r.nt, .int .i64 1, .string ByteArray.empty] 73)
    have bl6 := bl5.alloc bl5.size (.cells #[.int .i64 r.nt, .int .i64 1, .string ByteArray.empty] 73)
    have BS6 := Bx.new (w4.setCell ⟨w2.heap.size, 2, none⟩ (.slice b2' H d2')) [.int .i64 r.nt, .int .i64 1, .string ByteArray.empty] 73
    clear BR5 BP5 BZ5 BO5 bl5
    have hne := own_ne_tag HO5.out.rt HT5.out (by decide)
    have hneZ := ownBlock_ne HO5.out.rt hlow
    have BO20 := BO6.grown hgrow hne.symm
    have BZ20 := BZ6.grown hgrow hneZ.symm
    have tag6 := HT5.out.grown hgrow hne.symm
    have bl20 := bl6.grown hgrow bl6.size (fun k hk => by have := (HO5.out.rt.lt k hk).1; omega)
    have hO6 := HO5.out.grow1 (x := ⟨r.nt, 1, ByteArray.empty⟩) hgrow hown6'
    clear hgrow hown6' HO5 HT5 hne hneZ BO6 BZ6 BR6 BP6 BS6 bl6
    obtain ⟨b1', d1', hv, -, -⟩ := trow_at hO6.rt
    obtain ⟨T, hT⟩ : ∃ T, T = (r.ts ++ [(⟨r.nt, 1, ByteArray.empty⟩ : Th)]).length := ⟨_, rfl⟩
    have hv' : v1' = .slice b1' T d1' := by rw [hv, hT]; rfl
    subst hv'
    clear hv hT
    have HO6 : Hid (OwnsR _ _ _ _ _ _ _) := hO6
    have HT6 : Hid (RTag _ _) := tag6
    clear hO6 tag6
    obtain ⟨cO0, fO0, cO1, fO1, cO2, fO2, cO3, fO3, cO4, fO4, cO5, fO5⟩ := BO20.cf6
    have zO := BO20.1
    obtain ⟨cZ0, fZ0, cZ1, fZ1, cZ2, fZ2, cZ3, fZ3, cZ4, fZ4, cZ5, fZ5⟩ := BZ20.cf6
    have zZ := BZ20.1
    go_wp2_with fail
    clear cO0 fO0 cO1 fO1 cO2 fO2 cO3 fO3 cO4 fO4 cO5 fO5 zO cZ0 fZ0 cZ1 fZ1 cZ2 fZ2 cZ3 fZ3 cZ4 fZ4 cZ5 fZ5 zZ
    have BO21 := BO20.set 1 (.slice b1' T d1')
    simp only [List.set_cons_zero, List.set_cons_succ] at BO21
    have BZ21 := BZ20.other (b' := w2.heap.size) (by first | omega | (have := BO20.1; have := BZ20.1; omega)) 1 (.slice b1' T d1')
    have bl21 := bl20.setCell (p := ⟨w2.heap.size, 1, none⟩) (by show w.heap.size ≤ w2.heap.size; omega) (.slice b1' T d1')
    clear BO20 BZ20 bl20
    have BO22 := BO21.set 5 (.int .i64 (r.nt + 1))
    simp only [List.set_cons_zero, List.set_cons_succ] at BO22
    have BZ22 := BZ21.other (b' := w2.heap.size) (by first | omega | (have := BO21.1; have := BZ21.1; omega)) 5 (.int .i64 (r.nt + 1))
    have bl22 := bl21.setCell (p := ⟨w2.heap.size, 5, none⟩) (by show w.heap.size ≤ w2.heap.size; omega) (.int .i64 (r.nt + 1))
    clear BO21 BZ21 bl21
    have hO8 := ((HO6.out.setTag HT6.out 1 (.slice b1' T d1')).setTag (HT6.out.set 1 _) 5 (.int .i64 (r.nt + 1))).nums (r.nw + 1) (r.nt + 1)
    obtain ⟨y0, y1, y2, y3, y4, y5⟩ := (BZ22.put6 (.slice b0 L d0) (.slice b1' T d1') (.slice b2' H d2') (.slice b3 r.ns.length d3) (.int .i64 (r.nw + 1)) (.int .i64 (r.nt + 1))).six
    have blF := (below_set6 bl22 (b := w.heap.size + 1 + 1) (by omega) (.slice b0 L d0) (.slice b1' T d1') (.slice b2' H d2') (.slice b3 r.ns.length d3) (.int .i64 (r.nw + 1)) (.int .i64 (r.nt + 1)))
    refine bodyPost_ret (v := .tuple #[.agg #[.slice b0 L d0, .slice b1' T d1', .slice b2' H d2', .slice b3 r.ns.length d3, .int .i64 (r.nw + 1), .int .i64 (r.nt + 1)], .nilIface]) (by simp [results, Tryz.results21, go_sem, y0, y1, y2, y3, y4, y5]) rfl ?_
    exact ⟨_, _, _, _, rfl, (hO8.set6 hlow _ _ _ _ _ _).mono hs1, blF⟩
  · have BR0 := Bx.new w [.slice aw r.ws.length cw, .slice at_ r.ts.length ct, .slice ah r.hs.length ch, .slice an r.ns.length cn, .int .i64 r.nw, .int .i64 r.nt] 30
    replace BR0 := BR0.alloc (.cells #[.int .i64 h, .int .i64 s] 33)
    replace BR0 := BR0.alloc (.cells #[.slice none 0 0, .slice none 0 0, .slice none 0 0, .slice none 0 0, .int .i64 0, .int .i64 0] 30)
    have BP0 := Bx.new (w.alloc (.cells #[.slice aw r.ws.length cw, .slice at_ r.ts.length ct, .slice ah r.hs.length ch, .slice an r.ns.length cn, .int .i64 r.nw, .int .i64 r.nt] 30)) [.int .i64 h, .int .i64 s] 33
    rw [sz_alloc] at BP0
    replace BP0 := BP0.alloc (.cells #[.slice none 0 0, .slice none 0 0, .slice none 0 0, .slice none 0 0, .int .i64 0, .int .i64 0] 30)
    have BZ0 := Bx.new ((w.alloc (.cells #[.slice aw r.ws.length cw, .slice at_ r.ts.length ct, .slice ah r.hs.length ch, .slice an r.ns.length cn, .int .i64 r.nw, .int .i64 r.nt] 30)).alloc (.cells #[.int .i64 h, .int .i64 s] 33)) [.slice none 0 0, .slice none 0 0, .slice none 0 0, .slice none 0 0, .int .i64 0, .int .i64 0] 30
    rw [sz_alloc, sz_alloc] at BZ0
    have bl0 := (((Below.refl w.heap.size w).alloc (by first | exact Nat.le_refl _ | (simp <;> omega)) (.cells #[.slice aw r.ws.length cw, .slice at_ r.ts.length ct, .slice ah r.hs.length ch, .slice an r.ns.length cn, .int .i64 r.nw, .int .i64 r.nt] 30)).alloc (by first | exact Nat.le_refl _ | (simp <;> omega)) (.cells #[.int .i64 h, .int .i64 s] 33)).alloc (by first | exact Nat.le_refl _ | (simp <;> omega)) (.cells #[.slice none 0 0, .slice none 0 0, .slice none 0 0, .slice none 0 0, .int .i64 0, .int .i64 0] 30)
    go_enter Tryz.func21, Tryz.ntmps21
    go_wp2_with fail
    refine (rfree_ok aw at_ ah an cw ct ch cn r h s _ (hr.below bl0) hz hf).mono ?_
    rintro e w1 ⟨rfl, hb1⟩
    have BR1 := BR0.below hb1
    have BP1 := BP0.below hb1
    have BZ1 := BZ0.below hb1
    have bl1 := Below_after bl0 hb1
    clear BR0 BP0 BZ0 bl0
    obtain ⟨cR0, cR1, cR2, cR3, cR4, cR5⟩ := BR1.c6
    have zR := BR1.1
    obtain ⟨cP0, cP1⟩ := BP1.c2
    have zP := BP1.1
    obtain ⟨cZ0, cZ1, cZ2, cZ3, cZ4, cZ5⟩ := BZ1.c6
    have zZ := BZ1.1
    go_wp2_with fail
    clear cR0 cR1 cR2 cR3 cR4 cR5 zR cP0 cP1 zP cZ0 cZ1 cZ2 cZ3 cZ4 cZ5 zZ
    obtain ⟨L, hL⟩ : ∃ L, (r.ws ++ [(⟨r.nw, r.nt, 7, 0, 0⟩ : Wr)]).length = L := ⟨_, rfl⟩
    have HL : Hid ((r.ws ++ [(⟨r.nw, r.nt, 7, 0, 0⟩ : Wr)]).length = L) := hL
    clear hL
    obtain ⟨H, hH⟩ : ∃ H, (putL r.hs h s r.nw).length = H := ⟨_, rfl⟩
    have HH : Hid ((putL r.hs h s r.nw).length = H) := hH
    clear hH
    have hlow := BZ1.1
    have hs1 : w.heap.size ≤ w1.heap.size := bl1.size
    refine (add_at aw at_ ah an cw ct ch cn r (⟨r.nw, r.nt, 7, 0, 0⟩ : Wr) _ (hr.below bl1) hz L HL.out).mono ?_
    rintro e w2 ⟨b0, b1, b2, b3, d0, d1, d2, d3, rfl, hO, hb2⟩
    have sz2 : w1.heap.size ≤ w2.heap.size := hb2.size
    have BR2 := BR1.below hb2
    have BP2 := BP1.below hb2
    have BZ2 := BZ1.below hb2
    have bl2 := Below_after bl1 hb2
    clear BR1 BP1 BZ1 bl1
    obtain ⟨cR0, cR1, cR2, cR3, cR4, cR5⟩ := BR2.c6
    have zR := BR2.1
    obtain ⟨cP0, cP1⟩ := BP2.c2
    have zP := BP2.1
    obtain ⟨cZ0, cZ1, cZ2, cZ3, cZ4, cZ5⟩ := BZ2.c6
    have zZ := BZ2.1
    have HO : Hid (OwnsR w2 _ _ _ _ _ _) := hO
    clear hO
    go_wp2_with fail
    clear cR0 cR1 cR2 cR3 cR4 cR5 zR cP0 cP1 zP cZ0 cZ1 cZ2 cZ3 cZ4 cZ5 zZ
    have tag := RTag.new w2 #[.slice b0 L d0, .slice b1 r.ts.length d1, .slice b2 r.hs.length d2, .slice b3 r.ns.length d3, .int .i64 (r.nw + 1), .int .i64 r.nt]
    have hO3 := HO.out.below ((Below.refl _ _).alloc (Nat.le_refl _) (.cells #[.slice b0 L d0, .slice b1 r.ts.length d1, .slice b2 r.hs.length d2, .slice b3 r.ns.length d3, .int .i64 (r.nw + 1), .int .i64 r.nt] 30))
    clear HO
    have BR3 := BR2.alloc (.cells #[.slice b0 L d0, .slice b1 r.ts.length d1, .slice b2 r.hs.length d2, .slice b3 r.ns.length d3, .int .i64 (r.nw + 1), .int .i64 r.nt] 30)
    have BP3 := BP2.alloc (.cells #[.slice b0 L d0, .slice b1 r.ts.length d1, .slice b2 r.hs.length d2, .slice b3 r.ns.length d3, .int .i64 (r.nw + 1), .int .i64 r.nt] 30)
    have BZ3 := BZ2.alloc (.cells #[.slice b0 L d0, .slice b1 r.ts.length d1, .slice b2 r.hs.length d2, .slice b3 r.ns.length d3, .int .i64 (r.nw + 1), .int .i64 r.nt] 30)
    have bl3 := bl2.alloc bl2.size (.cells #[.slice b0 L d0, .slice b1 r.ts.length d1, .slice b2 r.hs.length d2, .slice b3 r.ns.length d3, .int .i64 (r.nw + 1), .int .i64 r.nt] 30)
    have BO3 := Bx.new w2 [.slice b0 L d0, .slice b1 r.ts.length d1, .slice b2 r.hs.length d2, .slice b3 r.ns.length d3, .int .i64 (r.nw + 1), .int .i64 r.nt] 30
    clear BR2 BP2 BZ2 bl2
    generalize hg : (w2.alloc (.cells #[.slice b0 L d0, .slice b1 r.ts.length d1, .slice b2 r.hs.length d2, .slice b3 r.ns.length d3, .int .i64 (r.nw + 1), .int .i64 r.nt] 30)) = w3 at BR3 BP3 BZ3 BO3 bl3 tag hO3 ⊢
    clear hg
    have hs3 : w2.heap.size < w3.heap.size := BO3.1
    refine (put_row b2 d2 r.hs h s r.nw _ (HdsAt.ofRow hO3.rh).1 mh H HH.out).mono ?_
    rintro e w4 ⟨b2', d2', rfl, hrow, hb4⟩
    have sz4 : w3.heap.size ≤ w4.heap.size := hb4.size
    have hO4 := (hO3.below hb4).put2 hrow (by omega)
    have tag4 := tag.below hb4
    clear hO3 tag hrow
    have BR4 := BR3.below hb4
    have BP4 := BP3.below hb4
    have BZ4 := BZ3.below hb4
    have BO4 := BO3.below hb4
    have bl4 := Below_after bl3 hb4
    clear BR3 BP3 BZ3 BO3 bl3
    have hs4 : w2.heap.size < w4.heap.size := BO4.1
    obtain ⟨cR0, cR1, cR2, cR3, cR4, cR5⟩ := BR4.c6
    have zR := BR4.1
    obtain ⟨cP0, cP1⟩ := BP4.c2
    have zP := BP4.1
    obtain ⟨cZ0, fZ0, cZ1, fZ1, cZ2, fZ2, cZ3, fZ3, cZ4, fZ4, cZ5, fZ5⟩ := BZ4.cf6
    have zZ := BZ4.1
    obtain ⟨cO0, fO0, cO1, fO1, cO2, fO2, cO3, fO3, cO4, fO4, cO5, fO5⟩ := BO4.cf6
    have zO := BO4.1
    have hO5 := (hO4.setTag tag4 2 (.slice b2' H d2')).below ((Below.refl _ _).alloc (Nat.le_refl _) (.cells #[.int .i64 r.nt, .int .i64 2, .string ByteArray.empty] 73))
    have tag5 := (tag4.set 2 (.slice b2' H d2')).below ((Below.refl _ _).alloc (Nat.le_refl _) (.cells #[.int .i64 r.nt, .int .i64 2, .string ByteArray.empty] 73))
    have HO5 : Hid (OwnsR _ _ _ _ _ _ _) := hO5
    have HT5 : Hid (RTag _ _) := tag5
    clear hO5 tag5 hO4 tag4
    go_wp2_with (at_builtin; refine wpList_append_own _ rfl _ _ 26 rfl w1.heap.size 73 i0 (.agg #[.int .i64 0, .int .i64 0, .string ByteArray.empty]) 3 32 Tryz.underlying26 hi hi0 hi1 hi2 rfl (by decide) _ _ _ rfl HO5.out.rt _ 1 1 [.int .i64 r.nt, .int .i64 2, .string ByteArray.empty] rfl rfl (new3s _ _ _ _ _ _ _) (tcell_one ⟨r.nt, 2, ByteArray.empty⟩) ?c3 ?c4 ?c5 ?_)
    case c3 => have := hz.t; simp only [addR]; unfold maxLen; omega
    case c4 => have := hz.t; simp only [addR]; omega
    case c5 => simp; omega
    intro v1' w6 hown6' hgrow _
    clear cR0 cR1 cR2 cR3 cR4 cR5 zR cP0 cP1 zP cZ0 fZ0 cZ1 fZ1 cZ2 fZ2 cZ3 fZ3 cZ4 fZ4 cZ5 fZ5 zZ cO0 fO0 cO1 fO1 cO2 fO2 cO3 fO3 cO4 fO4 cO5 fO5 zO
    have BR5 := BR4.other (b' := w2.heap.size) (by first | omega | (have := BO4.1; have := BR4.1; omega)) 2 (.slice b2' H d2')
    have BP5 := BP4.other (b' := w2.heap.size) (by first | omega | (have := BO4.1; have := BP4.1; omega)) 2 (.slice b2' H d2')
    have BZ5 := BZ4.other (b' := w2.heap.size) (by first | omega | (have := BO4.1; have := BZ4.1; omega)) 2 (.slice b2' H d2')
    have BO5 := BO4.set 2 (.slice b2' H d2')
    simp only [List.set_cons_zero, List.set_cons_succ] at BO5
    have bl5 := bl4.setCell (p := ⟨w2.heap.size, 2, none⟩) (by show w.heap.size ≤ w2.heap.size; omega) (.slice b2' H d2')
    clear BR4 BP4 BZ4 BO4 bl4
    have BR6 := BR5.alloc (.cells #[.int .i64 r.nt, .int .i64 2, .string ByteArray.empty] 73)
    have BP6 := BP5.alloc (.cells #[.int .i64 r.nt, .int .i64 2, .string ByteArray.empty] 73)
    have BZ6 := BZ5.alloc (.cells #[.int .i64 r.nt, .int .i64 2, .string ByteArray.empty] 73)
    have BO6 := BO5.alloc (.cells #[.int .i64 r.nt, .int .i64 2, .string ByteArray.empty] 73)
    have bl6 := bl5.alloc bl5.size (.cells #[.int .i64 r.nt, .int .i64 2, .string ByteArray.empty] 73)
    have BS6 := Bx.new (w4.setCell ⟨w2.heap.size, 2, none⟩ (.slice b2' H d2')) [.int .i64 r.nt, .int .i64 2, .string ByteArray.empty] 73
    clear BR5 BP5 BZ5 BO5 bl5
    have hne := own_ne_tag HO5.out.rt HT5.out (by decide)
    have hneZ := ownBlock_ne HO5.out.rt hlow
    have BO20 := BO6.grown hgrow hne.symm
    have BZ20 := BZ6.grown hgrow hneZ.symm
    have tag6 := HT5.out.grown hgrow hne.symm
    have bl20 := bl6.grown hgrow bl6.size (fun k hk => by have := (HO5.out.rt.lt k hk).1; omega)
    have hO6 := HO5.out.grow1 (x := ⟨r.nt, 2, ByteArray.empty⟩) hgrow hown6'
    clear hgrow hown6' HO5 HT5 hne hneZ BO6 BZ6 BR6 BP6 BS6 bl6
    obtain ⟨b1', d1', hv, -, -⟩ := trow_at hO6.rt
    obtain ⟨T, hT⟩ : ∃ T, T = (r.ts ++ [(⟨r.nt, 2, ByteArray.empty⟩ : Th)]).length := ⟨_, rfl⟩
    have hv' : v1' = .slice b1' T d1' := by rw [hv, hT]; rfl
    subst hv'
    clear hv hT
    have HO6 : Hid (OwnsR _ _ _ _ _ _ _) := hO6
    have HT6 : Hid (RTag _ _) := tag6
    clear hO6 tag6
    obtain ⟨cO0, fO0, cO1, fO1, cO2, fO2, cO3, fO3, cO4, fO4, cO5, fO5⟩ := BO20.cf6
    have zO := BO20.1
    obtain ⟨cZ0, fZ0, cZ1, fZ1, cZ2, fZ2, cZ3, fZ3, cZ4, fZ4, cZ5, fZ5⟩ := BZ20.cf6
    have zZ := BZ20.1
    go_wp2_with fail
    clear cO0 fO0 cO1 fO1 cO2 fO2 cO3 fO3 cO4 fO4 cO5 fO5 zO cZ0 fZ0 cZ1 fZ1 cZ2 fZ2 cZ3 fZ3 cZ4 fZ4 cZ5 fZ5 zZ
    have BO21 := BO20.set 1 (.slice b1' T d1')
    simp only [List.set_cons_zero, List.set_cons_succ] at BO21
    have BZ21 := BZ20.other (b' := w2.heap.size) (by first | omega | (have := BO20.1; have := BZ20.1; omega)) 1 (.slice b1' T d1')
    have bl21 := bl20.setCell (p := ⟨w2.heap.size, 1, none⟩) (by show w.heap.size ≤ w2.heap.size; omega) (.slice b1' T d1')
    clear BO20 BZ20 bl20
    have BO22 := BO21.set 5 (.int .i64 (r.nt + 1))
    simp only [List.set_cons_zero, List.set_cons_succ] at BO22
    have BZ22 := BZ21.other (b' := w2.heap.size) (by first | omega | (have := BO21.1; have := BZ21.1; omega)) 5 (.int .i64 (r.nt + 1))
    have bl22 := bl21.setCell (p := ⟨w2.heap.size, 5, none⟩) (by show w.heap.size ≤ w2.heap.size; omega) (.int .i64 (r.nt + 1))
    clear BO21 BZ21 bl21
    have hO8 := ((HO6.out.setTag HT6.out 1 (.slice b1' T d1')).setTag (HT6.out.set 1 _) 5 (.int .i64 (r.nt + 1))).nums (r.nw + 1) (r.nt + 1)
    obtain ⟨y0, y1, y2, y3, y4, y5⟩ := (BZ22.put6 (.slice b0 L d0) (.slice b1' T d1') (.slice b2' H d2') (.slice b3 r.ns.length d3) (.int .i64 (r.nw + 1)) (.int .i64 (r.nt + 1))).six
    have blF := (below_set6 bl22 (b := w.heap.size + 1 + 1) (by omega) (.slice b0 L d0) (.slice b1' T d1') (.slice b2' H d2') (.slice b3 r.ns.length d3) (.int .i64 (r.nw + 1)) (.int .i64 (r.nt + 1)))
    refine bodyPost_ret (v := .tuple #[.agg #[.slice b0 L d0, .slice b1' T d1', .slice b2' H d2', .slice b3 r.ns.length d3, .int .i64 (r.nw + 1), .int .i64 (r.nt + 1)], .nilIface]) (by simp [results, Tryz.results21, go_sem, y0, y1, y2, y3, y4, y5]) rfl ?_
    exact ⟨_, _, _, _, rfl, (hO8.set6 hlow _ _ _ _ _ _).mono hs1, blF⟩
end Go.Proofs.YtddgpgldbekamaaGreat
