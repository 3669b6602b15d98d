/- realm.Get (E1), as the landed code has it. -/
import Derived.Test.YtddgpgldbekamaaGreatAllPure
import Derived.Test.YtddgpgldbekamaaGreatCloneW
import Derived.Test.YtddgpgldbekamaaGreatFindW
import Derived.Test.YtddgpgldbekamaaGreatShelfW
import Derived.Deep.RegionHeld3
import Derived.Deep.QuietTactic
import Derived.BigQuiet
import Derived.WalkSmall
set_option linter.unusedSimpArgs false
set_option linter.unusedVariables false
namespace Go.Proofs.YtddgpgldbekamaaGreat
open Go.RowKit


theorem get_bad (aw at_ ah an : Option Addr) (cw ct ch cn : Nat) (r : Rm) (h s : Int) (w : World) (hp : ¬ plOk h s) :
    Calls Tryz.prog 8 #[.agg #[.slice aw r.ws.length cw, .slice at_ r.ts.length ct, .slice ah r.hs.length ch, .slice an r.ns.length cn, .int .i64 r.nw, .int .i64 r.nt], .agg #[.int .i64 h, .int .i64 s]] w fun e w' => e = .returned (.tuple #[.agg #[.int .i64 0, .int .i64 0, .int .i64 0, .int .i64 0, .int .i64 0], .iface 69 (.int .i64 1)]) ∧ Below w.heap.size w w' := by
  have bz0 := Bx.new ((w.alloc (.cells #[.slice aw r.ws.length cw, .slice at_ r.ts.length ct, .slice ah r.hs.length ch, .slice an r.ns.length cn, .int .i64 r.nw, .int .i64 r.nt] 30)).alloc (.cells #[.int .i64 h, .int .i64 s] 33)) [.int .i64 0, .int .i64 0, .int .i64 0, .int .i64 0, .int .i64 0] 39
  rw [sz_alloc, sz_alloc] at bz0
  have bp0 := (Bx.new (w.alloc (.cells #[.slice aw r.ws.length cw, .slice at_ r.ts.length ct, .slice ah r.hs.length ch, .slice an r.ns.length cn, .int .i64 r.nw, .int .i64 r.nt] 30)) [.int .i64 h, .int .i64 s] 33).alloc (.cells #[.int .i64 0, .int .i64 0, .int .i64 0, .int .i64 0, .int .i64 0] 39)
  rw [sz_alloc] at bp0
  have br0 := ((Bx.new w [.slice aw r.ws.length cw, .slice at_ r.ts.length ct, .slice ah r.hs.length ch, .slice an r.ns.length cn, .int .i64 r.nw, .int .i64 r.nt] 30).alloc (.cells #[.int .i64 h, .int .i64 s] 33)).alloc (.cells #[.int .i64 0, .int .i64 0, .int .i64 0, .int .i64 0, .int .i64 0] 39)
  have bl0 : Below w.heap.size w (((w.alloc (.cells #[.slice aw r.ws.length cw, .slice at_ r.ts.length ct, .slice ah r.hs.length ch, .slice an r.ns.length cn, .int .i64 r.nw, .int .i64 r.nt] 30)).alloc (.cells #[.int .i64 h, .int .i64 s] 33)).alloc (.cells #[.int .i64 0, .int .i64 0, .int .i64 0, .int .i64 0, .int .i64 0] 39)) := (((Below.refl w.heap.size w).alloc (Nat.le_refl _) _).alloc (by simp) _).alloc (by simp <;> omega) _
  go_enter Tryz.func8, Tryz.ntmps8
  go_wp2_with fail
  refine (scheck_bad h s _ hp).mono ?_
  rintro e w1 ⟨rfl, hb1⟩
  have bz := bz0.below hb1
  have bl1 := Below_after bl0 hb1
  obtain ⟨z0, z1, z2, z3, z4⟩ := bz.five
  obtain ⟨g0, g1, g2, g3, g4⟩ := bz.fiveF
  go_wp2_with fail
  obtain ⟨y0, y1, y2, y3, y4⟩ := (bz.put5 (.int .i64 0) (.int .i64 0) (.int .i64 0) (.int .i64 0) (.int .i64 0)).five
  exact bodyPost_ret (v := .tuple #[.agg #[.int .i64 0, .int .i64 0, .int .i64 0, .int .i64 0, .int .i64 0], .iface 69 (.int .i64 1)]) (by simp [results, Tryz.results8, go_sem, y0, y1, y2, y3, y4]) rfl ⟨rfl, below_set5 bl1 (by omega) _ _ _ _ _⟩

set_option maxHeartbeats 1000000 in
theorem get_none (aw at_ ah an : Option Addr) (cw ct ch cn : Nat) (r : Rm) (h s : Int) (w : World) (hr : RmAt w aw at_ ah an cw ct ch cn r) (hz : RmSz r) (hp : plOk h s) (hf : find r.ws (atP r.hs h s) < 0) :
    Calls Tryz.prog 8 #[.agg #[.slice aw r.ws.length cw, .slice at_ r.ts.length ct, .slice ah r.hs.length ch, .slice an r.ns.length cn, .int .i64 r.nw, .int .i64 r.nt], .agg #[.int .i64 h, .int .i64 s]] w fun e w' => e = .returned (.tuple #[.agg #[.int .i64 0, .int .i64 0, .int .i64 0, .int .i64 0, .int .i64 0], .iface 69 (.int .i64 5)]) ∧ Below w.heap.size w w' := by
  obtain ⟨hw, -, hh, -, -, -, -, -⟩ := hr
  obtain ⟨mw, -, mh, -, -, -⟩ := hz
  have bz0 := Bx.new ((w.alloc (.cells #[.slice aw r.ws.length cw, .slice at_ r.ts.length ct, .slice ah r.hs.length ch, .slice an r.ns.length cn, .int .i64 r.nw, .int .i64 r.nt] 30)).alloc (.cells #[.int .i64 h, .int .i64 s] 33)) [.int .i64 0, .int .i64 0, .int .i64 0, .int .i64 0, .int .i64 0] 39
  rw [sz_alloc, sz_alloc] at bz0
  have bp0 := (Bx.new (w.alloc (.cells #[.slice aw r.ws.length cw, .slice at_ r.ts.length ct, .slice ah r.hs.length ch, .slice an r.ns.length cn, .int .i64 r.nw, .int .i64 r.nt] 30)) [.int .i64 h, .int .i64 s] 33).alloc (.cells #[.int .i64 0, .int .i64 0, .int .i64 0, .int .i64 0, .int .i64 0] 39)
  rw [sz_alloc] at bp0
  have br0 := ((Bx.new w [.slice aw r.ws.length cw, .slice at_ r.ts.length ct, .slice ah r.hs.length ch, .slice an r.ns.length cn, .int .i64 r.nw, .int .i64 r.nt] 30).alloc (.cells #[.int .i64 h, .int .i64 s] 33)).alloc (.cells #[.int .i64 0, .int .i64 0, .int .i64 0, .int .i64 0, .int .i64 0] 39)
  have bl0 : Below w.heap.size w (((w.alloc (.cells #[.slice aw r.ws.length cw, .slice at_ r.ts.length ct, .slice ah r.hs.length ch, .slice an r.ns.length cn, .int .i64 r.nw, .int .i64 r.nt] 30)).alloc (.cells #[.int .i64 h, .int .i64 s] 33)).alloc (.cells #[.int .i64 0, .int .i64 0, .int .i64 0, .int .i64 0, .int .i64 0] 39)) := (((Below.refl w.heap.size w).alloc (Nat.le_refl _) _).alloc (by simp) _).alloc (by simp <;> omega) _
  go_enter Tryz.func8, Tryz.ntmps8
  go_wp2_with fail
  refine (scheck_ok h s _ hp).mono ?_
  rintro e w1 ⟨rfl, hb1⟩
  have bz1 := bz0.below hb1
  have br1 := br0.below hb1
  have bp1 := bp0.below hb1
  have bl1 := Below_after bl0 hb1
  clear bz0 br0 bp0 bl0 hb1
  go_wp2_with fail
  have srp : SRP w.heap.size (.slice aw r.ws.length cw) (.slice ah r.hs.length ch) (.int .i64 h) (.int .i64 s) w1.drew := ⟨(br1.2 0 _ rfl).1, (br1.2 2 _ rfl).1, (bp1.2 0 _ rfl).1, (bp1.2 1 _ rfl).1, bp1.1⟩
  have HBR : Hid (Bx w1 w.heap.size [.slice aw r.ws.length cw, .slice at_ r.ts.length ct, .slice ah r.hs.length ch, .slice an r.ns.length cn, .int .i64 r.nw, .int .i64 r.nt]) := br1
  clear br1 bp1
  refine wp_region_held_drew (S := SRP w.heap.size (.slice aw r.ws.length cw) (.slice ah r.hs.length ch) (.int .i64 h) (.int .i64 s)) (by kernel_rfl) ?_ (fun hHeld => ?_)
  · exact srp
  refine tkI 0 (.pointer (some ⟨w.heap.size, 0, none⟩)) rfl ?_
  refine tkI 1 (.slice aw r.ws.length cw) rfl ?_
  refine tkI 2 (.pointer (some ⟨w.heap.size, 2, none⟩)) rfl ?_
  refine tkI 3 (.slice ah r.hs.length ch) rfl ?_
  refine tkI 4 (.agg #[.int .i64 h, .int .i64 s]) rfl ?_
  refine rdI 5 rfl (fun K hK => ?_)
  go_wp2_with (go_at_call 25; refine (at_any ah ch r.hs h s _ (hh.below bl1.drew) (by unfold maxLen; omega)).mono ?_; rintro e w2 ⟨rfl, hb2⟩)
  refine hK.out _ _ ?_ (fun hHeld => ?_)
  · exact SRP_below hb2 (by assumption)
  clear hK K
  (try simp only [Act.put, List.setIfInBounds_toArray, List.set_cons_zero, List.set_cons_succ])
  have bl2 : Below w.heap.size w w2 := Below_after bl1.drew hb2
  have bd2 : Below w1.heap.size w1 w2 := Below_after ((Below.refl _ _).drew) hb2
  refine rdI 6 rfl (fun K hK => ?_)
  go_wp2_with (go_at_call 24; refine (find_any aw cw r.ws (atP r.hs h s) _ (hw.below bl2) (by omega)).mono ?_; rintro e w3 ⟨rfl, hb3⟩)
  refine hK.out _ _ ?_ (fun hHeld => ?_)
  · exact SRP_below hb3 (by assumption)
  clear hK K
  (try simp only [Act.put, List.setIfInBounds_toArray, List.set_cons_zero, List.set_cons_succ])
  have bl3 : Below w.heap.size w w3 := Below_after bl2 hb3
  have bd3 : Below w1.heap.size w1 w3 := Below_after bd2 hb3
  refine rdI 7 rfl (fun K hK => ?_)
  go_wp2_with fail
  refine hK.out _ _ ?_ (fun hHeld => ?_)
  · assumption
  clear hK K
  (try simp only [Act.put, List.setIfInBounds_toArray, List.set_cons_zero, List.set_cons_succ])
  refine wpAnyH_done (by kernel_rfl) ?_ _
  have br3 := HBR.out.below bd3
  have bz3 := bz1.below bd3
  clear hb2 hb3 bl1 bl2 bd2 HBR
  obtain ⟨z0, z1, z2, z3, z4⟩ := bz3.five
  obtain ⟨g0, g1, g2, g3, g4⟩ := bz3.fiveF
  go_wp2_with fail
  obtain ⟨y0, y1, y2, y3, y4⟩ := (bz3.put5 (.int .i64 0) (.int .i64 0) (.int .i64 0) (.int .i64 0) (.int .i64 0)).five
  exact bodyPost_ret (v := .tuple #[.agg #[.int .i64 0, .int .i64 0, .int .i64 0, .int .i64 0, .int .i64 0], .iface 69 (.int .i64 5)]) (by simp [results, Tryz.results8, go_sem, y0, y1, y2, y3, y4]) rfl ⟨rfl, below_set5 bl3 (by omega) _ _ _ _ _⟩

set_option maxHeartbeats 1000000 in
theorem get_some (aw at_ ah an : Option Addr) (cw ct ch cn : Nat) (r : Rm) (h s : Int) (w : World) (hr : RmAt w aw at_ ah an cw ct ch cn r) (hz : RmSz r) (hp : plOk h s) (j : Nat) (x : Wr) (hf : find r.ws (atP r.hs h s) = (j : Int)) (hx : r.ws[j]? = some x) :
    Calls Tryz.prog 8 #[.agg #[.slice aw r.ws.length cw, .slice at_ r.ts.length ct, .slice ah r.hs.length ch, .slice an r.ns.length cn, .int .i64 r.nw, .int .i64 r.nt], .agg #[.int .i64 h, .int .i64 s]] w fun e w' => e = .returned (.tuple #[.agg #[.int .i64 x.id, .int .i64 x.thing, .int .i64 x.rights, .int .i64 x.badge, .int .i64 x.frm], .nilIface]) ∧ Below w.heap.size w w' := by
  obtain ⟨hw, -, hh, -, ⟨fw1, fw2⟩, -, -, -⟩ := hr
  obtain ⟨mw, -, mh, -, -, -⟩ := hz
  unfold maxLen at fw2
  have hjl : j < r.ws.length := (List.getElem?_eq_some_iff.1 hx).1
  obtain ⟨b, o, rfl, hb, hc⟩ := hw.resolve_left (by intro e; rw [e] at hjl; simp at hjl)
  have hw : WrsAt w (some ⟨b, o, none⟩) r.ws := .inr ⟨b, o, rfl, hb, hc⟩
  have HC : Hid (∀ j x, r.ws[j]? = some x → WrAt w b (o + j * 5) x) := hc
  have HX : Hid (r.ws[j]? = some x) := hx
  have HF : Hid (find r.ws (atP r.hs h s) = (j : Int)) := hf
  clear hc hx hf
  have bz0 := Bx.new ((w.alloc (.cells #[.slice (some ⟨b, o, none⟩) r.ws.length cw, .slice at_ r.ts.length ct, .slice ah r.hs.length ch, .slice an r.ns.length cn, .int .i64 r.nw, .int .i64 r.nt] 30)).alloc (.cells #[.int .i64 h, .int .i64 s] 33)) [.int .i64 0, .int .i64 0, .int .i64 0, .int .i64 0, .int .i64 0] 39
  rw [sz_alloc, sz_alloc] at bz0
  have bp0 := (Bx.new (w.alloc (.cells #[.slice (some ⟨b, o, none⟩) r.ws.length cw, .slice at_ r.ts.length ct, .slice ah r.hs.length ch, .slice an r.ns.length cn, .int .i64 r.nw, .int .i64 r.nt] 30)) [.int .i64 h, .int .i64 s] 33).alloc (.cells #[.int .i64 0, .int .i64 0, .int .i64 0, .int .i64 0, .int .i64 0] 39)
  rw [sz_alloc] at bp0
  have br0 := ((Bx.new w [.slice (some ⟨b, o, none⟩) r.ws.length cw, .slice at_ r.ts.length ct, .slice ah r.hs.length ch, .slice an r.ns.length cn, .int .i64 r.nw, .int .i64 r.nt] 30).alloc (.cells #[.int .i64 h, .int .i64 s] 33)).alloc (.cells #[.int .i64 0, .int .i64 0, .int .i64 0, .int .i64 0, .int .i64 0] 39)
  have bl0 : Below w.heap.size w (((w.alloc (.cells #[.slice (some ⟨b, o, none⟩) r.ws.length cw, .slice at_ r.ts.length ct, .slice ah r.hs.length ch, .slice an r.ns.length cn, .int .i64 r.nw, .int .i64 r.nt] 30)).alloc (.cells #[.int .i64 h, .int .i64 s] 33)).alloc (.cells #[.int .i64 0, .int .i64 0, .int .i64 0, .int .i64 0, .int .i64 0] 39)) := (((Below.refl w.heap.size w).alloc (Nat.le_refl _) _).alloc (by simp) _).alloc (by simp <;> omega) _
  go_enter Tryz.func8, Tryz.ntmps8
  go_wp2_with fail
  refine (scheck_ok h s _ hp).mono ?_
  rintro e w1 ⟨rfl, hb1⟩
  have bz1 := bz0.below hb1
  have br1 := br0.below hb1
  have bp1 := bp0.below hb1
  have bl1 := Below_after bl0 hb1
  clear bz0 br0 bp0 bl0 hb1
  go_wp2_with fail
  have srp : SRP w.heap.size (.slice (some ⟨b, o, none⟩) r.ws.length cw) (.slice ah r.hs.length ch) (.int .i64 h) (.int .i64 s) w1.drew := ⟨(br1.2 0 _ rfl).1, (br1.2 2 _ rfl).1, (bp1.2 0 _ rfl).1, (bp1.2 1 _ rfl).1, bp1.1⟩
  have HBR : Hid (Bx w1 w.heap.size [.slice (some ⟨b, o, none⟩) r.ws.length cw, .slice at_ r.ts.length ct, .slice ah r.hs.length ch, .slice an r.ns.length cn, .int .i64 r.nw, .int .i64 r.nt]) := br1
  clear br1 bp1
  refine wp_region_held_drew (S := SRP w.heap.size (.slice (some ⟨b, o, none⟩) r.ws.length cw) (.slice ah r.hs.length ch) (.int .i64 h) (.int .i64 s)) (by kernel_rfl) ?_ (fun hHeld => ?_)
  · exact srp
  refine tkI 0 (.pointer (some ⟨w.heap.size, 0, none⟩)) rfl ?_
  refine tkI 1 (.slice (some ⟨b, o, none⟩) r.ws.length cw) rfl ?_
  refine tkI 2 (.pointer (some ⟨w.heap.size, 2, none⟩)) rfl ?_
  refine tkI 3 (.slice ah r.hs.length ch) rfl ?_
  refine tkI 4 (.agg #[.int .i64 h, .int .i64 s]) rfl ?_
  refine rdI 5 rfl (fun K hK => ?_)
  go_wp2_with (go_at_call 25; refine (at_any ah ch r.hs h s _ (hh.below bl1.drew) (by unfold maxLen; omega)).mono ?_; rintro e w2 ⟨rfl, hb2⟩)
  refine hK.out _ _ ?_ (fun hHeld => ?_)
  · exact SRP_below hb2 (by assumption)
  clear hK K
  (try simp only [Act.put, List.setIfInBounds_toArray, List.set_cons_zero, List.set_cons_succ])
  have bl2 : Below w.heap.size w w2 := Below_after bl1.drew hb2
  have bd2 : Below w1.heap.size w1 w2 := Below_after ((Below.refl _ _).drew) hb2
  refine rdI 6 rfl (fun K hK => ?_)
  go_wp2_with (go_at_call 24; refine (find_any (some ⟨b, o, none⟩) cw r.ws (atP r.hs h s) _ (hw.below bl2) (by omega)).mono ?_; rintro e w3 ⟨rfl, hb3⟩)
  refine hK.out _ _ ?_ (fun hHeld => ?_)
  · exact SRP_below hb3 (by assumption)
  clear hK K
  (try simp only [Act.put, List.setIfInBounds_toArray, List.set_cons_zero, List.set_cons_succ])
  have bl3 : Below w.heap.size w w3 := Below_after bl2 hb3
  have bd3 : Below w1.heap.size w1 w3 := Below_after bd2 hb3
  refine rdI 7 rfl (fun K hK => ?_)
  go_wp2_with fail
  refine hK.out _ _ ?_ (fun hHeld => ?_)
  · assumption
  clear hK K
  (try simp only [Act.put, List.setIfInBounds_toArray, List.set_cons_zero, List.set_cons_succ])
  refine wpAnyH_done (by kernel_rfl) ?_ _
  have br3 := HBR.out.below bd3
  have bz3 := bz1.below bd3
  clear hb2 hb3 bl1 bl2 bd2 HBR
  rw [HF.out]
  obtain ⟨q0, q1, q2, q3, q4⟩ := (HC.out j x HX.out).below bl3 hb
  obtain ⟨c0, -, -, -, -, -⟩ := br3.six
  have hbz : b < w3.heap.size := Nat.lt_of_lt_of_le hb bl3.size
  obtain ⟨z0, z1, z2, z3, z4⟩ := bz3.five
  obtain ⟨g0, g1, g2, g3, g4⟩ := bz3.fiveF
  go_wp2_with fail
  obtain ⟨y0, y1, y2, y3, y4⟩ := (bz3.put5 (.int .i64 x.id) (.int .i64 x.thing) (.int .i64 x.rights) (.int .i64 x.badge) (.int .i64 x.frm)).five
  exact bodyPost_ret (v := .tuple #[.agg #[.int .i64 x.id, .int .i64 x.thing, .int .i64 x.rights, .int .i64 x.badge, .int .i64 x.frm], .nilIface]) (by simp [results, Tryz.results8, go_sem, y0, y1, y2, y3, y4]) rfl ⟨rfl, below_set5 bl3 (by omega) _ _ _ _ _⟩

theorem getC_cases (r : Rm) (h s : Int) : (getC r h s = 0 ∧ plOk h s ∧ ∃ j : Nat, find r.ws (atP r.hs h s) = (j : Int) ∧ r.ws[j]? = some (getW r h s)) ∨ (getC r h s = 5 ∧ plOk h s ∧ find r.ws (atP r.hs h s) < 0) ∨ (getC r h s = 1 ∧ ¬ plOk h s) := by
  unfold getC
  by_cases hp : plOk h s
  · rw [if_pos hp]
    by_cases hf : find r.ws (atP r.hs h s) < 0
    · rw [if_pos hf]; exact .inr (.inl ⟨rfl, hp, hf⟩)
    · rw [if_neg hf]
      refine .inl ⟨rfl, hp, (find r.ws (atP r.hs h s)).toNat, by omega, ?_⟩
      obtain ⟨y, hy, _⟩ := find_get (l := r.ws) (id := atP r.hs h s) (j := (find r.ws (atP r.hs h s)).toNat) (by omega)
      unfold getW
      rw [hy]
  · rw [if_neg hp]; exact .inr (.inr ⟨rfl, hp⟩)
theorem get_ok (aw at_ ah an : Option Addr) (cw ct ch cn : Nat) (r : Rm) (h s : Int) (w : World) (hr : RmAt w aw at_ ah an cw ct ch cn r) (hz : RmSz r) (hc : getC r h s = 0) :
    Calls Tryz.prog 8 #[.agg #[.slice aw r.ws.length cw, .slice at_ r.ts.length ct, .slice ah r.hs.length ch, .slice an r.ns.length cn, .int .i64 r.nw, .int .i64 r.nt], .agg #[.int .i64 h, .int .i64 s]] w fun e w' => e = .returned (.tuple #[.agg #[.int .i64 (getW r h s).id, .int .i64 (getW r h s).thing, .int .i64 (getW r h s).rights, .int .i64 (getW r h s).badge, .int .i64 (getW r h s).frm], .nilIface]) ∧ Below w.heap.size w w' := by
  rcases getC_cases r h s with ⟨_, hp, j, hf, hx⟩ | ⟨e, _⟩ | ⟨e, _⟩
  · exact get_some aw at_ ah an cw ct ch cn r h s w hr hz hp j _ hf hx
  · rw [e] at hc; cases hc
  · rw [e] at hc; cases hc
theorem get_err (aw at_ ah an : Option Addr) (cw ct ch cn : Nat) (r : Rm) (h s : Int) (w : World) (hr : RmAt w aw at_ ah an cw ct ch cn r) (hz : RmSz r) (hc : getC r h s ≠ 0) :
    Calls Tryz.prog 8 #[.agg #[.slice aw r.ws.length cw, .slice at_ r.ts.length ct, .slice ah r.hs.length ch, .slice an r.ns.length cn, .int .i64 r.nw, .int .i64 r.nt], .agg #[.int .i64 h, .int .i64 s]] w fun e w' => e = .returned (.tuple #[.agg #[.int .i64 0, .int .i64 0, .int .i64 0, .int .i64 0, .int .i64 0], .iface 69 (.int .i64 (getC r h s))]) ∧ Below w.heap.size w w' := by
  rcases getC_cases r h s with ⟨e, _⟩ | ⟨e, hp, hf⟩ | ⟨e, hp⟩
  · exact absurd e hc
  · rw [e]; exact get_none aw at_ ah an cw ct ch cn r h s w hr hz hp hf
  · rw [e]; exact get_bad aw at_ ah an cw ct ch cn r h s w hp
end Go.Proofs.YtddgpgldbekamaaGreat
