/- The document's WritAt, freeAt and has, walked (E1, E2). -/
/- The document's may, walked (F1 to F3). -/
import Derived.Test.YtddgpgldbekamaaGreatRefA
import Derived.Test.YtddgpgldbekamaaGreatRfS
import Derived.Test.YtddgpgldbekamaaGreatPlaceFaultW
import Derived.Test.YtddgpgldbekamaaGreatGetW
import Derived.Test.YtddgpgldbekamaaGreatWhoW
set_option linter.unusedVariables false
set_option linter.unusedSimpArgs false
set_option linter.unnecessarySimpa false
namespace Go.Proofs.YtddgpgldbekamaaGreat
open Go.RowKit

/-- the writ of a place, or none's -/
def wAt (r : Rm) (h s : Int) : Wr := if getC r h s = 0 then getW r h s else zeroW
theorem zfi {w : World} {b : Nat} {a0 a1 a2 a3 a4 : Value} (h : Bx w b [a0, a1, a2, a3, a4]) : w.cell? ⟨b, 0, none⟩ = some a0 ∧ w.frozen? ⟨b, 0, none⟩ = false ∧ w.cell? ⟨b, 1, none⟩ = some a1 ∧ w.frozen? ⟨b, 1, none⟩ = false ∧ w.cell? ⟨b, 2, none⟩ = some a2 ∧ w.frozen? ⟨b, 2, none⟩ = false ∧ w.cell? ⟨b, 3, none⟩ = some a3 ∧ w.frozen? ⟨b, 3, none⟩ = false ∧ w.cell? ⟨b, 4, none⟩ = some a4 ∧ w.frozen? ⟨b, 4, none⟩ = false :=
  ⟨(h.2 0 _ rfl).1, (h.2 0 _ rfl).2, (h.2 1 _ rfl).1, (h.2 1 _ rfl).2, (h.2 2 _ rfl).1, (h.2 2 _ rfl).2, (h.2 3 _ rfl).1, (h.2 3 _ rfl).2, (h.2 4 _ rfl).1, (h.2 4 _ rfl).2⟩
set_option maxHeartbeats 4000000 in
set_option maxRecDepth 100000 in
theorem rwritAt_bad (aw at_ ah an : Option Addr) (cw ct ch cn : Nat) (r : Rm) (h s : Int) (w : World) (hp : ¬ plOk h s) :
    Calls Tryz.prog 9 #[.agg #[.slice aw r.ws.length cw, .slice at_ r.ts.length ct, .slice ah r.hs.length ch, .slice an r.ns.length cn, .int .i64 r.nw, .int .i64 r.nt], .agg #[.int .i64 h, .int .i64 s]] w fun e w' => e = .returned (.tuple #[.agg #[.int .i64 0, .int .i64 0, .int .i64 0, .int .i64 0, .int .i64 0], .int .i64 1]) ∧ Below w.heap.size w w' := by
  have B0 := Bx.new w [.slice aw r.ws.length cw, .slice at_ r.ts.length ct, .slice ah r.hs.length ch, .slice an r.ns.length cn, .int .i64 r.nw, .int .i64 r.nt] 30
  replace B0 := (B0.alloc (.cells #[.int .i64 h, .int .i64 s] 33)).alloc (.cells #[.int .i64 0, .int .i64 0, .int .i64 0, .int .i64 0, .int .i64 0] 39)
  have B1 := Bx.new (w.alloc (.cells #[.slice aw r.ws.length cw, .slice at_ r.ts.length ct, .slice ah r.hs.length ch, .slice an r.ns.length cn, .int .i64 r.nw, .int .i64 r.nt] 30)) [.int .i64 h, .int .i64 s] 33
  rw [sz_alloc] at B1
  replace B1 := B1.alloc (.cells #[.int .i64 0, .int .i64 0, .int .i64 0, .int .i64 0, .int .i64 0] 39)
  have B2 := Bx.new ((w.alloc (.cells #[.slice aw r.ws.length cw, .slice at_ r.ts.length ct, .slice ah r.hs.length ch, .slice an r.ns.length cn, .int .i64 r.nw, .int .i64 r.nt] 30)).alloc (.cells #[.int .i64 h, .int .i64 s] 33)) [.int .i64 0, .int .i64 0, .int .i64 0, .int .i64 0, .int .i64 0] 39
  rw [sz_alloc, sz_alloc] at B2
  have bl : Below w.heap.size w (((w.alloc (.cells #[.slice aw r.ws.length cw, .slice at_ r.ts.length ct, .slice ah r.hs.length ch, .slice an r.ns.length cn, .int .i64 r.nw, .int .i64 r.nt] 30)).alloc (.cells #[.int .i64 h, .int .i64 s] 33)).alloc (.cells #[.int .i64 0, .int .i64 0, .int .i64 0, .int .i64 0, .int .i64 0] 39)) := (((Below.refl w.heap.size w).alloc (Nat.le_refl _) _).alloc (by simp) _).alloc (by simp; omega) _
  have hcon := fun W => placeFault_any h s W 1 (.inr ⟨hp, rfl⟩)
  clear hp
  obtain ⟨p0, -⟩ := B1.2 0 _ rfl
  obtain ⟨p1, -⟩ := B1.2 1 _ rfl
  have pz := B1.1
  go_enter Tryz.func9, Tryz.ntmps9
  go_wp2_with fail
  refine (hcon _).mono ?_
  rintro e w1 ⟨rfl, hb1⟩
  have BW := B2.below hb1
  have bw := Below_after bl hb1
  obtain ⟨c0, f0, c1, f1, c2, f2, c3, f3, c4, f4⟩ := zfi BW
  have zz := BW.1
  clear hcon p0 p1 pz
  go_wp2_with fail
  obtain ⟨y0, y1, y2, y3, y4⟩ := (BW.put5 (.int .i64 0) (.int .i64 0) (.int .i64 0) (.int .i64 0) (.int .i64 0)).five
  refine bodyPost_ret (v := .tuple #[.agg #[.int .i64 0, .int .i64 0, .int .i64 0, .int .i64 0, .int .i64 0], .int .i64 1]) (by simp [results, Tryz.results9, go_sem, y0, y1, y2, y3, y4]) rfl ⟨rfl, below_set5 bw (by omega) _ _ _ _ _⟩
set_option maxHeartbeats 4000000 in
set_option maxRecDepth 100000 in
theorem rwritAt_none (aw at_ ah an : Option Addr) (cw ct ch cn : Nat) (r : Rm) (h s : Int) (w : World) (hr : RmAt w aw at_ ah an cw ct ch cn r) (hz : RmSz r) (hp : plOk h s) (hf : find r.ws (atP r.hs h s) < 0) :
    Calls Tryz.prog 9 #[.agg #[.slice aw r.ws.length cw, .slice at_ r.ts.length ct, .slice ah r.hs.length ch, .slice an r.ns.length cn, .int .i64 r.nw, .int .i64 r.nt], .agg #[.int .i64 h, .int .i64 s]] w fun e w' => e = .returned (.tuple #[.agg #[.int .i64 0, .int .i64 0, .int .i64 0, .int .i64 0, .int .i64 0], .int .i64 5]) ∧ Below w.heap.size w w' := by
  have B0 := Bx.new w [.slice aw r.ws.length cw, .slice at_ r.ts.length ct, .slice ah r.hs.length ch, .slice an r.ns.length cn, .int .i64 r.nw, .int .i64 r.nt] 30
  replace B0 := (B0.alloc (.cells #[.int .i64 h, .int .i64 s] 33)).alloc (.cells #[.int .i64 0, .int .i64 0, .int .i64 0, .int .i64 0, .int .i64 0] 39)
  have B1 := Bx.new (w.alloc (.cells #[.slice aw r.ws.length cw, .slice at_ r.ts.length ct, .slice ah r.hs.length ch, .slice an r.ns.length cn, .int .i64 r.nw, .int .i64 r.nt] 30)) [.int .i64 h, .int .i64 s] 33
  rw [sz_alloc] at B1
  replace B1 := B1.alloc (.cells #[.int .i64 0, .int .i64 0, .int .i64 0, .int .i64 0, .int .i64 0] 39)
  have B2 := Bx.new ((w.alloc (.cells #[.slice aw r.ws.length cw, .slice at_ r.ts.length ct, .slice ah r.hs.length ch, .slice an r.ns.length cn, .int .i64 r.nw, .int .i64 r.nt] 30)).alloc (.cells #[.int .i64 h, .int .i64 s] 33)) [.int .i64 0, .int .i64 0, .int .i64 0, .int .i64 0, .int .i64 0] 39
  rw [sz_alloc, sz_alloc] at B2
  have bl : Below w.heap.size w (((w.alloc (.cells #[.slice aw r.ws.length cw, .slice at_ r.ts.length ct, .slice ah r.hs.length ch, .slice an r.ns.length cn, .int .i64 r.nw, .int .i64 r.nt] 30)).alloc (.cells #[.int .i64 h, .int .i64 s] 33)).alloc (.cells #[.int .i64 0, .int .i64 0, .int .i64 0, .int .i64 0, .int .i64 0] 39)) := (((Below.refl w.heap.size w).alloc (Nat.le_refl _) _).alloc (by simp) _).alloc (by simp; omega) _
  have hcon := fun W => placeFault_any h s W 0 (.inl ⟨hp, rfl⟩)
  have hW := hr.w
  have hH := hr.h
  have mw := hz.w
  have mh := hz.h
  clear hp hr hz
  obtain ⟨p0, -⟩ := B1.2 0 _ rfl
  obtain ⟨p1, -⟩ := B1.2 1 _ rfl
  have pz := B1.1
  go_enter Tryz.func9, Tryz.ntmps9
  go_wp2_with fail
  refine (hcon _).mono ?_
  rintro e w1 ⟨rfl, hb1⟩
  have BR := B0.below hb1
  have BP := B1.below hb1
  have BW := B2.below hb1
  have bw := Below_after bl hb1
  clear hcon p0 p1 pz hb1 B0 B1 B2 bl
  have hat := hH.below bw
  have hwt := hW.below bw
  have S0 : (fun w' : World => Bx w' w.heap.size [.slice aw r.ws.length cw, .slice at_ r.ts.length ct, .slice ah r.hs.length ch, .slice an r.ns.length cn, .int .i64 r.nw, .int .i64 r.nt] ∧ Bx w' (w.heap.size + 1) [.int .i64 h, .int .i64 s]) w1.drew := ⟨BR.below (below_drewN (Below.refl _ _) 1), BP.below (below_drewN (Below.refl _ _) 1)⟩
  go_wp2_with fail
  refine wp_region_held_drew (S := fun w' => Bx w' w.heap.size [.slice aw r.ws.length cw, .slice at_ r.ts.length ct, .slice ah r.hs.length ch, .slice an r.ns.length cn, .int .i64 r.nw, .int .i64 r.nt] ∧ Bx w' (w.heap.size + 1) [.int .i64 h, .int .i64 s]) (by kernel_rfl) ?_ (fun hHeld => ?_)
  · exact S0
  refine tkI 0 (.pointer (some ⟨w.heap.size, 0, none⟩)) rfl ?_
  refine tkJ 1 (.slice aw r.ws.length cw) rfl (by intro w hSw; have z := (hSw.1.2 0 _ rfl).1; clear hSw; go_simp) ?_
  refine tkI 2 (.pointer (some ⟨w.heap.size, 2, none⟩)) rfl ?_
  refine tkJ 3 (.slice ah r.hs.length ch) rfl (by intro w hSw; have z := (hSw.1.2 2 _ rfl).1; clear hSw; go_simp) ?_
  refine tkJ 4 (.agg #[.int .i64 h, .int .i64 s]) rfl (by intro w hSw; have z := (hSw.2.2 0 _ rfl).1; have z' := (hSw.2.2 1 _ rfl).1; clear hSw; go_simp) ?_
  refine rdI 5 rfl (fun K hK => ?_)
  go_wp2_with (go_at_call 28; refine Calls.mono (atPlace_any ah ch r.hs h s w1.drew (hat.below (below_drewN (Below.refl _ _) 1)) mh) ?_; rintro e w2 ⟨rfl, hb2⟩)
  have BR2 := S0.1.below hb2
  have BP2 := S0.2.below hb2
  refine hK.out _ _ ?_ (fun hHeld => ?_)
  · exact ⟨BR2, BP2⟩
  clear hK K
  have hwt2 := (hwt.below (below_drewN (Below.refl _ _) 1 : Below w1.heap.size w1 w1.drew)).below hb2
  refine rdI 6 rfl (fun K hK => ?_)
  go_wp2_with (go_at_call 27; refine Calls.mono (findWrit_any aw cw r.ws (atP r.hs h s) w2 hwt2 (by omega)) ?_; rintro e w3 ⟨rfl, hq⟩; obtain rfl := hq.symm)
  refine hK.out _ _ ?_ (fun hHeld => ?_)
  · exact ⟨BR2, BP2⟩
  clear hK K
  refine tkI 7 (.int .i64 (find r.ws (atP r.hs h s))) rfl ?_
  refine wpAnyH_done (by kernel_rfl) ?_ _
  have BW2 := (BW.below (below_drewN (Below.refl _ _) 1 : Below w1.heap.size w1 w1.drew)).below hb2
  have bw2 := Below_after bw.drew hb2
  have dl : decide (find r.ws (atP r.hs h s) < 0) = true := decide_eq_true hf
  clear BR2 BP2 hwt2 S0 hb2 BW bw BR BP hf
  generalize find r.ws (atP r.hs h s) = fd at *
  obtain ⟨c0, f0, c1, f1, c2, f2, c3, f3, c4, f4⟩ := zfi BW2
  have zz := BW2.1
  go_wp2_with fail
  obtain ⟨y0, y1, y2, y3, y4⟩ := (BW2.put5 (.int .i64 0) (.int .i64 0) (.int .i64 0) (.int .i64 0) (.int .i64 0)).five
  refine bodyPost_ret (v := .tuple #[.agg #[.int .i64 0, .int .i64 0, .int .i64 0, .int .i64 0, .int .i64 0], .int .i64 5]) (by simp [results, Tryz.results9, go_sem, y0, y1, y2, y3, y4]) rfl ⟨rfl, below_set5 bw2 (by omega) _ _ _ _ _⟩
set_option maxHeartbeats 4000000 in
set_option maxRecDepth 100000 in
theorem rwritAt_some (aw at_ ah an : Option Addr) (cw ct ch cn : Nat) (r : Rm) (h s : Int) (w : World) (j : Nat) (x : Wr) (hr : RmAt w aw at_ ah an cw ct ch cn r) (hz : RmSz r) (hp : plOk h s) (hf : find r.ws (atP r.hs h s) = (j : Int)) (hx : r.ws[j]? = some x) :
    Calls Tryz.prog 9 #[.agg #[.slice aw r.ws.length cw, .slice at_ r.ts.length ct, .slice ah r.hs.length ch, .slice an r.ns.length cn, .int .i64 r.nw, .int .i64 r.nt], .agg #[.int .i64 h, .int .i64 s]] w fun e w' => e = .returned (.tuple #[.agg #[.int .i64 x.id, .int .i64 x.thing, .int .i64 x.rights, .int .i64 x.badge, .int .i64 x.frm], .int .i64 0]) ∧ Below w.heap.size w w' := by
  have B0 := Bx.new w [.slice aw r.ws.length cw, .slice at_ r.ts.length ct, .slice ah r.hs.length ch, .slice an r.ns.length cn, .int .i64 r.nw, .int .i64 r.nt] 30
  replace B0 := (B0.alloc (.cells #[.int .i64 h, .int .i64 s] 33)).alloc (.cells #[.int .i64 0, .int .i64 0, .int .i64 0, .int .i64 0, .int .i64 0] 39)
  have B1 := Bx.new (w.alloc (.cells #[.slice aw r.ws.length cw, .slice at_ r.ts.length ct, .slice ah r.hs.length ch, .slice an r.ns.length cn, .int .i64 r.nw, .int .i64 r.nt] 30)) [.int .i64 h, .int .i64 s] 33
  rw [sz_alloc] at B1
  replace B1 := B1.alloc (.cells #[.int .i64 0, .int .i64 0, .int .i64 0, .int .i64 0, .int .i64 0] 39)
  have B2 := Bx.new ((w.alloc (.cells #[.slice aw r.ws.length cw, .slice at_ r.ts.length ct, .slice ah r.hs.length ch, .slice an r.ns.length cn, .int .i64 r.nw, .int .i64 r.nt] 30)).alloc (.cells #[.int .i64 h, .int .i64 s] 33)) [.int .i64 0, .int .i64 0, .int .i64 0, .int .i64 0, .int .i64 0] 39
  rw [sz_alloc, sz_alloc] at B2
  have bl : Below w.heap.size w (((w.alloc (.cells #[.slice aw r.ws.length cw, .slice at_ r.ts.length ct, .slice ah r.hs.length ch, .slice an r.ns.length cn, .int .i64 r.nw, .int .i64 r.nt] 30)).alloc (.cells #[.int .i64 h, .int .i64 s] 33)).alloc (.cells #[.int .i64 0, .int .i64 0, .int .i64 0, .int .i64 0, .int .i64 0] 39)) := (((Below.refl w.heap.size w).alloc (Nat.le_refl _) _).alloc (by simp) _).alloc (by simp; omega) _
  have hcon := fun W => placeFault_any h s W 0 (.inl ⟨hp, rfl⟩)
  have hW := hr.w
  have hH := hr.h
  have mw := hz.w
  have mh := hz.h
  clear hp hr hz
  obtain ⟨p0, -⟩ := B1.2 0 _ rfl
  obtain ⟨p1, -⟩ := B1.2 1 _ rfl
  have pz := B1.1
  go_enter Tryz.func9, Tryz.ntmps9
  go_wp2_with fail
  refine (hcon _).mono ?_
  rintro e w1 ⟨rfl, hb1⟩
  have BR := B0.below hb1
  have BP := B1.below hb1
  have BW := B2.below hb1
  have bw := Below_after bl hb1
  clear hcon p0 p1 pz hb1 B0 B1 B2 bl
  have hat := hH.below bw
  have hwt := hW.below bw
  have S0 : (fun w' : World => Bx w' w.heap.size [.slice aw r.ws.length cw, .slice at_ r.ts.length ct, .slice ah r.hs.length ch, .slice an r.ns.length cn, .int .i64 r.nw, .int .i64 r.nt] ∧ Bx w' (w.heap.size + 1) [.int .i64 h, .int .i64 s]) w1.drew := ⟨BR.below (below_drewN (Below.refl _ _) 1), BP.below (below_drewN (Below.refl _ _) 1)⟩
  go_wp2_with fail
  refine wp_region_held_drew (S := fun w' => Bx w' w.heap.size [.slice aw r.ws.length cw, .slice at_ r.ts.length ct, .slice ah r.hs.length ch, .slice an r.ns.length cn, .int .i64 r.nw, .int .i64 r.nt] ∧ Bx w' (w.heap.size + 1) [.int .i64 h, .int .i64 s]) (by kernel_rfl) ?_ (fun hHeld => ?_)
  · exact S0
  refine tkI 0 (.pointer (some ⟨w.heap.size, 0, none⟩)) rfl ?_
  refine tkJ 1 (.slice aw r.ws.length cw) rfl (by intro w hSw; have z := (hSw.1.2 0 _ rfl).1; clear hSw; go_simp) ?_
  refine tkI 2 (.pointer (some ⟨w.heap.size, 2, none⟩)) rfl ?_
  refine tkJ 3 (.slice ah r.hs.length ch) rfl (by intro w hSw; have z := (hSw.1.2 2 _ rfl).1; clear hSw; go_simp) ?_
  refine tkJ 4 (.agg #[.int .i64 h, .int .i64 s]) rfl (by intro w hSw; have z := (hSw.2.2 0 _ rfl).1; have z' := (hSw.2.2 1 _ rfl).1; clear hSw; go_simp) ?_
  refine rdI 5 rfl (fun K hK => ?_)
  go_wp2_with (go_at_call 28; refine Calls.mono (atPlace_any ah ch r.hs h s w1.drew (hat.below (below_drewN (Below.refl _ _) 1)) mh) ?_; rintro e w2 ⟨rfl, hb2⟩)
  have BR2 := S0.1.below hb2
  have BP2 := S0.2.below hb2
  refine hK.out _ _ ?_ (fun hHeld => ?_)
  · exact ⟨BR2, BP2⟩
  clear hK K
  have hwt2 := (hwt.below (below_drewN (Below.refl _ _) 1 : Below w1.heap.size w1 w1.drew)).below hb2
  refine rdI 6 rfl (fun K hK => ?_)
  go_wp2_with (go_at_call 27; refine Calls.mono (findWrit_any aw cw r.ws (atP r.hs h s) w2 hwt2 (by omega)) ?_; rintro e w3 ⟨rfl, hq⟩; obtain rfl := hq.symm)
  refine hK.out _ _ ?_ (fun hHeld => ?_)
  · exact ⟨BR2, BP2⟩
  clear hK K
  refine tkI 7 (.int .i64 (find r.ws (atP r.hs h s))) rfl ?_
  refine wpAnyH_done (by kernel_rfl) ?_ _
  rw [hf]
  have BW2 := (BW.below (below_drewN (Below.refl _ _) 1 : Below w1.heap.size w1 w1.drew)).below hb2
  have bw2 := Below_after bw.drew hb2
  have hjl : j < r.ws.length := (List.getElem?_eq_some_iff.1 hx).1
  obtain ⟨b, o, rfl, hb, hxs⟩ := hwt2.resolve_left (fun e => by rw [e] at hjl; simp at hjl)
  obtain ⟨q1, q2, q3, q4, q5⟩ := hxs j x hx
  clear hxs hx BP2 S0 hb2 BW bw BR BP hf hwt hW
  obtain ⟨c0, f0, c1, f1, c2, f2, c3, f3, c4, f4⟩ := zfi BW2
  have zz := BW2.1
  have d0 := (BR2.2 0 _ rfl).1
  have dz := BR2.1
  go_wp2_with fail
  obtain ⟨y0, y1, y2, y3, y4⟩ := (BW2.put5 (.int .i64 x.id) (.int .i64 x.thing) (.int .i64 x.rights) (.int .i64 x.badge) (.int .i64 x.frm)).five
  refine bodyPost_ret (v := .tuple #[.agg #[.int .i64 x.id, .int .i64 x.thing, .int .i64 x.rights, .int .i64 x.badge, .int .i64 x.frm], .int .i64 0]) (by simp [results, Tryz.results9, go_sem, y0, y1, y2, y3, y4]) rfl ⟨rfl, below_set5 bw2 (by omega) _ _ _ _ _⟩
theorem rwritAt_any (aw at_ ah an : Option Addr) (cw ct ch cn : Nat) (r : Rm) (h s : Int) (w : World) (hr : RmAt w aw at_ ah an cw ct ch cn r) (hz : RmSz r) :
    Calls Tryz.prog 9 #[.agg #[.slice aw r.ws.length cw, .slice at_ r.ts.length ct, .slice ah r.hs.length ch, .slice an r.ns.length cn, .int .i64 r.nw, .int .i64 r.nt], .agg #[.int .i64 h, .int .i64 s]] w fun e w' => e = .returned (.tuple #[.agg #[.int .i64 (wAt r h s).id, .int .i64 (wAt r h s).thing, .int .i64 (wAt r h s).rights, .int .i64 (wAt r h s).badge, .int .i64 (wAt r h s).frm], .int .i64 (getC r h s)]) ∧ Below w.heap.size w w' := by
  by_cases hp : plOk h s
  · by_cases hf : find r.ws (atP r.hs h s) < 0
    · have hc : getC r h s = 5 := by unfold getC; rw [if_pos hp, if_pos hf]
      have hw : wAt r h s = zeroW := by unfold wAt; rw [hc, if_neg (by decide)]
      rw [hc, hw]
      exact rwritAt_none aw at_ ah an cw ct ch cn r h s w hr hz hp hf
    · have hb := find_bd r.ws (atP r.hs h s)
      obtain ⟨j, hj⟩ : ∃ j : Nat, find r.ws (atP r.hs h s) = (j : Int) := ⟨(find r.ws (atP r.hs h s)).toNat, by omega⟩
      obtain ⟨x, hx, -⟩ := find_get hj
      have hc : getC r h s = 0 := by unfold getC; rw [if_pos hp, if_neg hf]
      have hw : wAt r h s = x := by unfold wAt getW; rw [hc, if_pos rfl, hj, Int.toNat_natCast, hx]
      rw [hc, hw]
      exact rwritAt_some aw at_ ah an cw ct ch cn r h s w j x hr hz hp hj hx
  · have hc : getC r h s = 1 := by unfold getC; rw [if_neg hp]
    have hw : wAt r h s = zeroW := by unfold wAt; rw [hc, if_neg (by decide)]
    rw [hc, hw]
    exact rwritAt_bad aw at_ ah an cw ct ch cn r h s w hp
set_option maxHeartbeats 4000000 in
set_option maxRecDepth 100000 in
theorem rfreeAt_any (aw at_ ah an : Option Addr) (cw ct ch cn : Nat) (r : Rm) (h s : Int) (w : World) (hr : RmAt w aw at_ ah an cw ct ch cn r) (hz : RmSz r) :
    Calls Tryz.prog 95 #[.agg #[.slice aw r.ws.length cw, .slice at_ r.ts.length ct, .slice ah r.hs.length ch, .slice an r.ns.length cn, .int .i64 r.nw, .int .i64 r.nt], .agg #[.int .i64 h, .int .i64 s]] w fun e w' => e = .returned (.int .i64 (freeC r h s)) ∧ Below w.heap.size w w' := by
  have B0 := Bx.new w [.slice aw r.ws.length cw, .slice at_ r.ts.length ct, .slice ah r.hs.length ch, .slice an r.ns.length cn, .int .i64 r.nw, .int .i64 r.nt] 30
  replace B0 := B0.alloc (.cells #[.int .i64 h, .int .i64 s] 33)
  have B1 := Bx.new (w.alloc (.cells #[.slice aw r.ws.length cw, .slice at_ r.ts.length ct, .slice ah r.hs.length ch, .slice an r.ns.length cn, .int .i64 r.nw, .int .i64 r.nt] 30)) [.int .i64 h, .int .i64 s] 33
  rw [sz_alloc] at B1
  have bl : Below w.heap.size w ((w.alloc (.cells #[.slice aw r.ws.length cw, .slice at_ r.ts.length ct, .slice ah r.hs.length ch, .slice an r.ns.length cn, .int .i64 r.nw, .int .i64 r.nt] 30)).alloc (.cells #[.int .i64 h, .int .i64 s] 33)) := ((Below.refl w.heap.size w).alloc (Nat.le_refl _) _).alloc (by simp) _
  obtain ⟨p0, -⟩ := B1.2 0 _ rfl
  obtain ⟨p1, -⟩ := B1.2 1 _ rfl
  have pz := B1.1
  have hH := hr.h
  have mh := hz.h
  clear hr hz
  by_cases hp : plOk h s
  · have hcon := fun W => placeFault_any h s W 0 (.inl ⟨hp, rfl⟩)
    have HC : Hid (freeC r h s = if atP r.hs h s = 0 then 0 else 6) := (show freeC r h s = _ from by unfold freeC; rw [if_pos hp])
    clear hp
    go_enter Tryz.func95, Tryz.ntmps95
    go_wp2_with fail
    refine (hcon _).mono ?_
    rintro e w1 ⟨rfl, hb1⟩
    have BR := B0.below hb1
    have BP := B1.below hb1
    have bw := Below_after bl hb1
    clear hcon p0 p1 pz hb1 B0 B1 bl
    have hcon := atPlace_any ah ch r.hs h s w1 (hH.below bw) mh
    obtain ⟨p0, -⟩ := BP.2 0 _ rfl
    obtain ⟨p1, -⟩ := BP.2 1 _ rfl
    have pz := BP.1
    obtain ⟨q2, -⟩ := BR.2 2 _ rfl
    have qz := BR.1
    go_wp2_with fail
    refine hcon.mono ?_
    rintro e w2 ⟨rfl, hb2⟩
    have bw2 := Below_after bw hb2
    clear hcon p0 p1 pz q2 qz hb2 hH
    by_cases h0 : atP r.hs h s = 0
    · have dd : (atP r.hs h s != 0) = false := by rw [h0]; rfl
      have HC2 : Hid (freeC r h s = 0) := HC.out.trans (if_pos h0)
      clear h0 HC
      generalize atP r.hs h s = q at *
      go_wp2_with fail
      go_ret
      exact ⟨by rw [HC2.out]; rfl, bw2⟩
    · have dd : (atP r.hs h s != 0) = true := by simpa using h0
      have HC2 : Hid (freeC r h s = 6) := HC.out.trans (if_neg h0)
      clear h0 HC
      generalize atP r.hs h s = q at *
      go_wp2_with fail
      go_ret
      exact ⟨by rw [HC2.out]; rfl, bw2⟩
  · have hcon := fun W => placeFault_any h s W 1 (.inr ⟨hp, rfl⟩)
    have HC2 : Hid (freeC r h s = 1) := (show freeC r h s = 1 from by unfold freeC; rw [if_neg hp])
    clear hp hH
    go_enter Tryz.func95, Tryz.ntmps95
    go_wp2_with fail
    refine (hcon _).mono ?_
    rintro e w1 ⟨rfl, hb1⟩
    have bw := Below_after bl hb1
    clear hcon p0 p1 pz
    go_wp2_with fail
    go_ret
    exact ⟨by rw [HC2.out]; rfl, bw⟩
set_option maxHeartbeats 4000000 in
set_option maxRecDepth 100000 in
theorem rhasN_some (b o c : Nat) (zs : List Int) (n : Int) (w : World) (hA : ∀ j, j < zs.length → w.cell? ⟨b, o + j, none⟩ = some (.int .i64 (zs.getD j 0))) (hm : zs.length ≤ 1000000) :
    Calls Tryz.prog 88 #[.slice (some ⟨b, o, none⟩) zs.length c, .int .i64 n] w fun e w' => e = .returned (.bool (inB zs n)) ∧ w' = w := by
  go_enter Tryz.func88, Tryz.ntmps88
  go_wp2_with fail
  go_loop [5] (fun i => ∃ k : Nat, k ≤ zs.length ∧ i = .int .i64 k ∧ Hid (inB (zs.drop k) n = inB zs n)) (fun i => zs.length - (intOf i).toNat)
  case atStart => exact ⟨0, Nat.zero_le _, rfl, (show Hid _ from rfl)⟩
  case round =>
    obtain ⟨k, hk, rfl, hn⟩ := hrel
    by_cases hlt : k < zs.length
    · have q := hA k hlt
      have hd : zs.drop k = zs.getD k 0 :: zs.drop (k + 1) := by rw [List.drop_eq_getElem_cons hlt, List.getD_eq_getElem?_getD, List.getElem?_eq_getElem hlt]; rfl
      have HD : Hid (zs.drop k = zs.getD k 0 :: zs.drop (k + 1)) := hd
      have dlt : decide ((k : Int) < (zs.length : Int)) = true := decide_eq_true (by omega)
      clear hA hd
      by_cases he : zs.getD k 0 = n
      · have de : (zs.getD k 0 == n) = true := by simpa using he
        have HI : Hid (inB zs n = true) := (show inB zs n = true from by rw [← hn.out, HD.out, he]; unfold inB; simp)
        clear he hn
        generalize zs.getD k 0 = z at *
        go_wp2_with fail
        go_ret
        exact ⟨by rw [HI.out]; rfl, rfl⟩
      · have de : (zs.getD k 0 == n) = false := by simpa using he
        have HN : Hid (inB (zs.drop (k + 1)) n = inB zs n) := (show inB (zs.drop (k + 1)) n = inB zs n from by rw [← hn.out, HD.out]; unfold inB; rw [List.contains_cons, beq_eq_false_iff_ne.2 (Ne.symm he), Bool.false_or])
        clear he hn
        generalize zs.getD k 0 = z at *
        go_wp2_with fail
        exact ⟨⟨k + 1, by omega, by go_num, HN⟩, by simp [intOf]; omega⟩
    · have HI : Hid (inB zs n = false) := (show inB zs n = false from by rw [← hn.out, List.drop_of_length_le (by omega)]; rfl)
      have dlt : decide ((k : Int) < (zs.length : Int)) = false := decide_eq_false (by omega)
      clear hA hn
      go_wp2_with fail
      go_ret
      exact ⟨by rw [HI.out]; rfl, rfl⟩
theorem rhasN_any (a : Option Addr) (c : Nat) (zs : List Int) (n : Int) (w : World) (hA : IntsAt w a zs) (hm : zs.length ≤ 1000000) :
    Calls Tryz.prog 88 #[.slice a zs.length c, .int .i64 n] w fun e w' => e = .returned (.bool (inB zs n)) ∧ w' = w := by
  rcases hA with rfl | ⟨b, o, rfl, hA⟩
  · go_enter Tryz.func88, Tryz.ntmps88
    go_wp2_with fail
    refine wp_loop_rounds 1 ?_
    rw [rounds_succ]
    go_wp2_with fail
    go_ret
    exact ⟨rfl, rfl⟩
  · exact rhasN_some b o c zs n w hA hm
end Go.Proofs.YtddgpgldbekamaaGreat
set_option linter.unusedSimpArgs false
set_option linter.unnecessarySimpa false
set_option linter.unusedVariables false
namespace Go.Proofs.YtddgpgldbekamaaGreat
open Go.RowKit

theorem getC_pos (r : Rm) (h s : Int) : 0 ≤ getC r h s := by
  unfold getC
  split
  · split <;> omega
  · omega
theorem who_none {r : Rm} {h s kind rights : Int} (hc : getC r h s = 0) (hi : thAt r (getW r h s).thing = -1) : whoC r h s kind rights = 8 := by
  rcases whoC_cases r h s kind rights with ⟨_, _, ⟨j, t, h1, _⟩, _⟩ | ⟨_, _, ⟨j, t, h1, _⟩, _⟩ | ⟨e, _⟩ | ⟨_, h1⟩
  · rw [hi] at h1; omega
  · rw [hi] at h1; omega
  · exact e
  · exact absurd hc h1
theorem who_at {r : Rm} {h s kind rights : Int} {k : Nat} {y : Th} (hc : getC r h s = 0) (hi : thAt r (getW r h s).thing = (k : Int)) (hy : r.ts[k]? = some y) : whoC r h s kind rights = if y.kind = kind then (if hasB (getW r h s).rights rights = true then 0 else 7) else 8 := by
  have same : ∀ (j : Nat) (t : Th), thAt r (getW r h s).thing = (j : Int) → r.ts[j]? = some t → t = y := by
    intro j t h1 h2
    rw [hi] at h1
    have : k = j := by omega
    rw [← this, hy] at h2
    exact (Option.some.inj h2).symm
  rcases whoC_cases r h s kind rights with ⟨e, _, ⟨j, t, h1, h2, h3, _⟩, hq⟩ | ⟨e, _, ⟨j, t, h1, h2, h3⟩, hq⟩ | ⟨e, _, h1 | ⟨j, t, h1, h2, h3⟩⟩ | ⟨_, h1⟩
  · rw [← same j t h1 h2, if_pos h3, if_pos hq]; exact e
  · rw [← same j t h1 h2, if_pos h3, if_neg (by simp [hq])]; exact e
  · rw [hi] at h1; omega
  · rw [← same j t h1 h2, if_neg h3]; exact e
  · exact absurd hc h1
/-- the writ and the thing's index that may answers -/
def mayW (r : Rm) (h s kind rights : Int) : Wr := if whoC r h s kind rights = 0 then getW r h s else zeroW
def mayI (r : Rm) (h s kind rights : Int) : Int := if whoC r h s kind rights = 0 then thAt r (getW r h s).thing else 0
set_option maxHeartbeats 4000000 in
set_option maxRecDepth 100000 in
theorem rmay_bad (aw at_ ah an : Option Addr) (cw ct ch cn : Nat) (r : Rm) (h s kind rights : Int) (w : World) (hr : RmAt w aw at_ ah an cw ct ch cn r) (hz : RmSz r) (hc : getC r h s ≠ 0) :
    Calls Tryz.prog 31 #[.agg #[.slice aw r.ws.length cw, .slice at_ r.ts.length ct, .slice ah r.hs.length ch, .slice an r.ns.length cn, .int .i64 r.nw, .int .i64 r.nt], .agg #[.int .i64 h, .int .i64 s], .int .i64 kind, .int .i64 rights] w fun e w' => e = .returned (.tuple #[.agg #[.int .i64 0, .int .i64 0, .int .i64 0, .int .i64 0, .int .i64 0], .int .i64 0, .int .i64 (getC r h s)]) ∧ Below w.heap.size w w' := by
  obtain ⟨BR0, BP0, BZ0, bl0⟩ := boxes3 w [.slice aw r.ws.length cw, .slice at_ r.ts.length ct, .slice ah r.hs.length ch, .slice an r.ns.length cn, .int .i64 r.nw, .int .i64 r.nt] 30 [.int .i64 h, .int .i64 s] 33 [.int .i64 0, .int .i64 0, .int .i64 0, .int .i64 0, .int .i64 0] 39
  go_enter Tryz.func31, Tryz.ntmps31
  go_wp2_with fail
  refine (rwritAt_any aw at_ ah an cw ct ch cn r h s _ (hr.below bl0) hz).mono ?_
  rintro e w1 ⟨rfl, hb1⟩
  have BR1 := BR0.below hb1
  have BP1 := BP0.below hb1
  have BZ1 := BZ0.below hb1
  have bl1 := Below_after bl0 hb1
  clear BR0 BP0 BZ0 bl0
  have lw1 := BZ1.1
  have hw0 : wAt r h s = zeroW := by unfold wAt; rw [if_neg hc]
  rw [hw0]
  have hd : decide (0 < getC r h s) = true := decide_eq_true (by have := getC_pos r h s; omega)
  generalize hD' : getC r h s = D at *
  have HD : Hid (getC r h s = D) := hD'
  clear hD' hc hw0
  obtain ⟨cR0, cR1, cR2, cR3, cR4, cR5⟩ := BR1.c6
  have zR := BR1.1
  obtain ⟨cP0, cP1⟩ := BP1.c2
  have zP := BP1.1
  obtain ⟨cZ0, fZ0, cZ1, fZ1, cZ2, fZ2, cZ3, fZ3, cZ4, fZ4⟩ := zfi BZ1
  have zZ := BZ1.1
  go_wp2_with fail
  obtain ⟨y0, y1, y2, y3, y4⟩ := ((BZ1.put5 (.int .i64 0) (.int .i64 0) (.int .i64 0) (.int .i64 0) (.int .i64 0)).alloc (.cells #[.int .i64 zeroW.id, .int .i64 zeroW.thing, .int .i64 zeroW.rights, .int .i64 zeroW.badge, .int .i64 zeroW.frm] 39)).five
  have blF := ((below_set5 bl1 (b := w.heap.size + 1 + 1) (by omega) (.int .i64 0) (.int .i64 0) (.int .i64 0) (.int .i64 0) (.int .i64 0)).alloc (below_set5 bl1 (b := w.heap.size + 1 + 1) (by omega) (.int .i64 0) (.int .i64 0) (.int .i64 0) (.int .i64 0) (.int .i64 0)).size (.cells #[.int .i64 zeroW.id, .int .i64 zeroW.thing, .int .i64 zeroW.rights, .int .i64 zeroW.badge, .int .i64 zeroW.frm] 39))
  refine bodyPost_ret (v := .tuple #[.agg #[.int .i64 0, .int .i64 0, .int .i64 0, .int .i64 0, .int .i64 0], .int .i64 0, .int .i64 D]) (by simp [results, Tryz.results31, go_sem, y0, y1, y2, y3, y4]) rfl ?_
  exact ⟨by rw [HD.out], blF⟩
set_option maxHeartbeats 4000000 in
set_option maxRecDepth 100000 in
theorem rmay_core (aw at_ ah an : Option Addr) (cw ct ch cn : Nat) (r : Rm) (h s kind rights : Int) (w : World) (hr : RmAt w aw at_ ah an cw ct ch cn r) (hz : RmSz r) (x mw : Wr) (mi wc : Int) (hc : getC r h s = 0) (hw0 : wAt r h s = x) (hx : 0 ≤ x.rights ∧ x.rights ≤ 7) (hg : 0 ≤ rights ∧ rights ≤ 7)
    (HQ : Hid (∀ k : Nat, (thAt r x.thing = -1 → wc = 8) ∧ ∀ y, thAt r x.thing = (k : Int) → r.ts[k]? = some y → wc = if y.kind = kind then (if hasB x.rights rights = true then 0 else 7) else 8))
    (HE : Hid ((wc = 0 → mw = x ∧ mi = thAt r x.thing) ∧ (wc ≠ 0 → mw = zeroW ∧ mi = 0))) :
    Calls Tryz.prog 31 #[.agg #[.slice aw r.ws.length cw, .slice at_ r.ts.length ct, .slice ah r.hs.length ch, .slice an r.ns.length cn, .int .i64 r.nw, .int .i64 r.nt], .agg #[.int .i64 h, .int .i64 s], .int .i64 kind, .int .i64 rights] w fun e w' => e = .returned (.tuple #[.agg #[.int .i64 mw.id, .int .i64 mw.thing, .int .i64 mw.rights, .int .i64 mw.badge, .int .i64 mw.frm], .int .i64 mi, .int .i64 wc]) ∧ Below w.heap.size w w' := by
  obtain ⟨BR0, BP0, BZ0, bl0⟩ := boxes3 w [.slice aw r.ws.length cw, .slice at_ r.ts.length ct, .slice ah r.hs.length ch, .slice an r.ns.length cn, .int .i64 r.nw, .int .i64 r.nt] 30 [.int .i64 h, .int .i64 s] 33 [.int .i64 0, .int .i64 0, .int .i64 0, .int .i64 0, .int .i64 0] 39
  have mt := hz.t
  go_enter Tryz.func31, Tryz.ntmps31
  go_wp2_with fail
  refine (rwritAt_any aw at_ ah an cw ct ch cn r h s _ (hr.below bl0) hz).mono ?_
  rintro e w1 ⟨rfl, hb1⟩
  have BR1 := BR0.below hb1
  have BP1 := BP0.below hb1
  have BZ1 := BZ0.below hb1
  have bl1 := Below_after bl0 hb1
  clear BR0 BP0 BZ0 bl0
  have lw1 := BZ1.1
  rw [hw0, hc]
  clear hw0 hc
  obtain ⟨cR0, cR1, cR2, cR3, cR4, cR5⟩ := BR1.c6
  have zR := BR1.1
  obtain ⟨cP0, cP1⟩ := BP1.c2
  have zP := BP1.1
  obtain ⟨cZ0, cZ1, cZ2, cZ3, cZ4⟩ := BZ1.c5
  have zZ := BZ1.1
  go_wp2_with fail
  clear cR0 cR1 cR2 cR3 cR4 cR5 zR cP0 cP1 zP cZ0 cZ1 cZ2 cZ3 cZ4 zZ
  have BR2 := BR1.alloc (.cells #[.int .i64 x.id, .int .i64 x.thing, .int .i64 x.rights, .int .i64 x.badge, .int .i64 x.frm] 39)
  have BP2 := BP1.alloc (.cells #[.int .i64 x.id, .int .i64 x.thing, .int .i64 x.rights, .int .i64 x.badge, .int .i64 x.frm] 39)
  have BZ2 := BZ1.alloc (.cells #[.int .i64 x.id, .int .i64 x.thing, .int .i64 x.rights, .int .i64 x.badge, .int .i64 x.frm] 39)
  have bl2 := bl1.alloc bl1.size (.cells #[.int .i64 x.id, .int .i64 x.thing, .int .i64 x.rights, .int .i64 x.badge, .int .i64 x.frm] 39)
  have BX2 := Bx.new w1 [.int .i64 x.id, .int .i64 x.thing, .int .i64 x.rights, .int .i64 x.badge, .int .i64 x.frm] 39
  clear BR1 BP1 BZ1 bl1
  generalize hg2 : (w1.alloc (.cells #[.int .i64 x.id, .int .i64 x.thing, .int .i64 x.rights, .int .i64 x.badge, .int .i64 x.frm] 39)) = w2 at BR2 BP2 BZ2 BX2 bl2 ⊢
  clear hg2
  have sg2X := BX2.1
  have hth : ThsAt w2 at_ r.ts := (hr.below bl2).t
  have ft := hr.ft
  clear hr hz
  have cR1 := (BR2.2 1 _ rfl).1
  have zR := BR2.1
  go_loopw [13] (fun i wr => ∃ k : Nat, k ≤ r.ts.length ∧ i = .int .i64 k ∧ Hid (idxFrom (thIs x.thing) (r.ts.drop k) k = thAt r x.thing) ∧ Below w2.heap.size w2 wr) (fun i _ => r.ts.length - (intOf i).toNat)
  case atStart => exact ⟨0, Nat.zero_le _, rfl, (show Hid _ from rfl), Below.refl _ _⟩
  case round =>
    obtain ⟨k, hk, rfl, hn, hbl⟩ := hrel
    have BR := BR2.below hbl
    have BZ := BZ2.below hbl
    have BX := BX2.below hbl
    have bl := Below_after bl2 hbl
    clear cR1 zR
    by_cases hlt : k < r.ts.length
    · obtain ⟨b, o, ha, hb, hty⟩ := (hth.below hbl).resolve_left (fun e => by rw [e] at hlt; simp at hlt)
      subst ha
      obtain ⟨y, hy⟩ : ∃ y, r.ts[k]? = some y := ⟨_, List.getElem?_eq_getElem hlt⟩
      obtain ⟨q0, q1, q2⟩ := hty k y hy
      have ft1 := ft.1
      have ft2 := ft.2
      unfold maxLen at ft2
      have dlt : decide ((k : Int) < (r.ts.length : Int)) = true := decide_eq_true (by omega)
      by_cases he : y.id = x.thing
      · have HI : Hid (thAt r x.thing = (k : Int)) := (show thAt r x.thing = (k : Int) from idx_yes (p := thIs x.thing) hy (by unfold thIs; simp [he]) hn.out)
        have HW := (HQ.out k).2 y HI.out hy
        have de : (y.id != x.thing) = false := by rw [he]; simp
        clear he hth hty HQ hn
        by_cases hk2 : y.kind = kind
        · have dk : (y.kind != kind) = false := by simp [hk2]
          rw [if_pos hk2] at HW
          clear hk2
          cases hq : hasB x.rights rights with
          | true =>
            rw [hq, if_pos rfl] at HW
            obtain ⟨e1, e2⟩ := HE.out.1 HW
            rw [HI.out] at e2
            subst mw
            subst e2
            subst HW
            have hcon := fun W => rhas_any x.rights rights hx.1 hx.2 hg.1 hg.2 W
            rw [hq] at hcon
            clear hq HE HI hy
            obtain ⟨cR0, cR1, cR2, cR3, cR4, cR5⟩ := BR.c6
            have zR := BR.1
            obtain ⟨cX0, cX1, cX2, cX3, cX4⟩ := BX.c5
            have zX := BX.1
            obtain ⟨cZ0, fZ0, cZ1, fZ1, cZ2, fZ2, cZ3, fZ3, cZ4, fZ4⟩ := zfi BZ
            have zZ := BZ.1
            go_wp2_with fail
            go_quiet (fail)
            go_wp2_with fail
            refine (hcon _).mono ?_
            rintro e w9 ⟨rfl, hw9⟩
            rw [hw9]
            clear hw9 hcon
            go_wp2_with fail
            obtain ⟨y0, y1, y2, y3, y4⟩ := ((BZ.below (below_drewN (Below.refl _ _) nq)).put5 (.int .i64 x.id) (.int .i64 x.thing) (.int .i64 x.rights) (.int .i64 x.badge) (.int .i64 x.frm)).five
            refine bodyPost_ret (v := .tuple #[.agg #[.int .i64 x.id, .int .i64 x.thing, .int .i64 x.rights, .int .i64 x.badge, .int .i64 x.frm], .int .i64 (k : Int), .int .i64 0]) (by simp [results, Tryz.results31, go_sem, y0, y1, y2, y3, y4]) rfl ⟨rfl, below_set5 (below_drewN bl nq) (by omega) _ _ _ _ _⟩
          | false =>
            rw [hq, if_neg (by decide)] at HW
            obtain ⟨e1, e2⟩ := HE.out.2 (by omega)
            subst mw
            subst e2
            subst HW
            have hcon := fun W => rhas_any x.rights rights hx.1 hx.2 hg.1 hg.2 W
            rw [hq] at hcon
            clear hq HE HI hy
            obtain ⟨cR0, cR1, cR2, cR3, cR4, cR5⟩ := BR.c6
            have zR := BR.1
            obtain ⟨cX0, cX1, cX2, cX3, cX4⟩ := BX.c5
            have zX := BX.1
            obtain ⟨cZ0, fZ0, cZ1, fZ1, cZ2, fZ2, cZ3, fZ3, cZ4, fZ4⟩ := zfi BZ
            have zZ := BZ.1
            go_wp2_with fail
            go_quiet (fail)
            go_wp2_with fail
            refine (hcon _).mono ?_
            rintro e w9 ⟨rfl, hw9⟩
            rw [hw9]
            clear hw9 hcon
            go_wp2_with fail
            obtain ⟨y0, y1, y2, y3, y4⟩ := ((BZ.below (below_drewN (Below.refl _ _) nq)).put5 (.int .i64 0) (.int .i64 0) (.int .i64 0) (.int .i64 0) (.int .i64 0)).five
            refine bodyPost_ret (v := .tuple #[.agg #[.int .i64 0, .int .i64 0, .int .i64 0, .int .i64 0, .int .i64 0], .int .i64 0, .int .i64 7]) (by simp [results, Tryz.results31, go_sem, y0, y1, y2, y3, y4]) rfl ⟨rfl, below_set5 (below_drewN bl nq) (by omega) _ _ _ _ _⟩
        · have dk : (y.kind != kind) = true := by simp [hk2]
          rw [if_neg hk2] at HW
          obtain ⟨e1, e2⟩ := HE.out.2 (by omega)
          subst mw
          subst e2
          subst HW
          clear hk2 HE HI hy
          obtain ⟨cR0, cR1, cR2, cR3, cR4, cR5⟩ := BR.c6
          have zR := BR.1
          obtain ⟨cX0, cX1, cX2, cX3, cX4⟩ := BX.c5
          have zX := BX.1
          obtain ⟨cZ0, fZ0, cZ1, fZ1, cZ2, fZ2, cZ3, fZ3, cZ4, fZ4⟩ := zfi BZ
          have zZ := BZ.1
          go_wp2_with fail
          go_quiet (fail)
          go_wp2_with fail
          obtain ⟨y0, y1, y2, y3, y4⟩ := ((BZ.below (below_drewN (Below.refl _ _) nq)).put5 (.int .i64 0) (.int .i64 0) (.int .i64 0) (.int .i64 0) (.int .i64 0)).five
          refine bodyPost_ret (v := .tuple #[.agg #[.int .i64 0, .int .i64 0, .int .i64 0, .int .i64 0, .int .i64 0], .int .i64 0, .int .i64 8]) (by simp [results, Tryz.results31, go_sem, y0, y1, y2, y3, y4]) rfl ⟨rfl, below_set5 (below_drewN bl nq) (by omega) _ _ _ _ _⟩
      · have de : (y.id != x.thing) = true := by simp [he]
        have HN : Hid (idxFrom (thIs x.thing) (r.ts.drop (k + 1)) (k + 1) = thAt r x.thing) := (show idxFrom (thIs x.thing) (r.ts.drop (k + 1)) (k + 1) = thAt r x.thing from idx_no (p := thIs x.thing) hy (by unfold thIs; simp [he]) hn.out)
        clear he hth hty HQ hn HE hy
        obtain ⟨cR0, cR1, cR2, cR3, cR4, cR5⟩ := BR.c6
        have zR := BR.1
        obtain ⟨cX0, cX1, cX2, cX3, cX4⟩ := BX.c5
        have zX := BX.1
        go_wp2_with fail
        go_quiet (fail)
        go_wp2_with fail
        go_roundw
        case rel => exact ⟨k + 1, by omega, by go_num, HN, below_drewN hbl _⟩
        case measure => simp [intOf]; omega
    · have HI := (HQ.out 0).1 (idx_end (p := thIs x.thing) hlt hn.out)
      have dlt : decide ((k : Int) < (r.ts.length : Int)) = false := decide_eq_false (by omega)
      obtain ⟨e1, e2⟩ := HE.out.2 (by omega)
      subst mw
      subst e2
      subst HI
      clear HE HQ hn hth
      obtain ⟨cR0, cR1, cR2, cR3, cR4, cR5⟩ := BR.c6
      have zR := BR.1
      obtain ⟨cX0, cX1, cX2, cX3, cX4⟩ := BX.c5
      have zX := BX.1
      obtain ⟨cZ0, fZ0, cZ1, fZ1, cZ2, fZ2, cZ3, fZ3, cZ4, fZ4⟩ := zfi BZ
      have zZ := BZ.1
      go_wp2_with fail
      obtain ⟨y0, y1, y2, y3, y4⟩ := (BZ.put5 (.int .i64 0) (.int .i64 0) (.int .i64 0) (.int .i64 0) (.int .i64 0)).five
      refine bodyPost_ret (v := .tuple #[.agg #[.int .i64 0, .int .i64 0, .int .i64 0, .int .i64 0, .int .i64 0], .int .i64 0, .int .i64 8]) (by simp [results, Tryz.results31, go_sem, y0, y1, y2, y3, y4]) rfl ⟨rfl, below_set5 bl (by omega) _ _ _ _ _⟩
theorem rmay_any (aw at_ ah an : Option Addr) (cw ct ch cn : Nat) (r : Rm) (h s kind rights : Int) (w : World) (hr : RmAt w aw at_ ah an cw ct ch cn r) (hz : RmSz r) (hx : getC r h s = 0 → 0 ≤ (getW r h s).rights ∧ (getW r h s).rights ≤ 7) (hg : 0 ≤ rights ∧ rights ≤ 7) :
    Calls Tryz.prog 31 #[.agg #[.slice aw r.ws.length cw, .slice at_ r.ts.length ct, .slice ah r.hs.length ch, .slice an r.ns.length cn, .int .i64 r.nw, .int .i64 r.nt], .agg #[.int .i64 h, .int .i64 s], .int .i64 kind, .int .i64 rights] w fun e w' => e = .returned (.tuple #[.agg #[.int .i64 (mayW r h s kind rights).id, .int .i64 (mayW r h s kind rights).thing, .int .i64 (mayW r h s kind rights).rights, .int .i64 (mayW r h s kind rights).badge, .int .i64 (mayW r h s kind rights).frm], .int .i64 (mayI r h s kind rights), .int .i64 (whoC r h s kind rights)]) ∧ Below w.heap.size w w' := by
  by_cases hc : getC r h s = 0
  · exact rmay_core aw at_ ah an cw ct ch cn r h s kind rights w hr hz (getW r h s) _ _ _ hc (if_pos hc) (hx hc) hg (show _ from fun k => ⟨who_none hc, fun y => who_at hc⟩) (show _ from ⟨fun e => ⟨if_pos e, if_pos e⟩, fun e => ⟨if_neg e, if_neg e⟩⟩)
  · have e : whoC r h s kind rights = getC r h s := if_pos hc
    have e1 : mayW r h s kind rights = zeroW := if_neg (by rw [e]; exact hc)
    have e2 : mayI r h s kind rights = 0 := if_neg (by rw [e]; exact hc)
    rw [e, e1, e2]
    exact rmay_bad aw at_ ah an cw ct ch cn r h s kind rights w hr hz hc
end Go.Proofs.YtddgpgldbekamaaGreat
