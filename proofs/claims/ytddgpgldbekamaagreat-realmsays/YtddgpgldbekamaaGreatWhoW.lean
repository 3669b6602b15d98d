/- realm.free, find, who (E2, E7), as the landed code has them. -/
import Derived.Test.YtddgpgldbekamaaGreatGetW
import Derived.Test.YtddgpgldbekamaaGreatLeaveW
import Derived.Test.YtddgpgldbekamaaGreatWritW
set_option linter.unusedSimpArgs false
set_option linter.unusedVariables false
namespace Go.Proofs.YtddgpgldbekamaaGreat
open Go.RowKit Go.Shelf


/-! ### free -/
theorem freeC_cases (r : Rm) (h s : Int) : (freeC r h s = 0 ∧ plOk h s ∧ atP r.hs h s = 0) ∨ (freeC r h s = 6 ∧ plOk h s ∧ ¬ atP r.hs h s = 0) ∨ (freeC r h s = 1 ∧ ¬ plOk h s) := by
  unfold freeC
  by_cases hp : plOk h s
  · rw [if_pos hp]
    by_cases hf : atP r.hs h s = 0
    · rw [if_pos hf]; exact .inl ⟨rfl, hp, hf⟩
    · rw [if_neg hf]; exact .inr (.inl ⟨rfl, hp, hf⟩)
  · rw [if_neg hp]; exact .inr (.inr ⟨rfl, hp⟩)
theorem rfree_bad (aw at_ ah an : Option Addr) (cw ct ch cn : Nat) (r : Rm) (h s : Int) (w : World) (hp : ¬ plOk h s) :
    Calls Tryz.prog 61 #[.agg #[.slice aw r.ws.length cw, .slice at_ r.ts.length ct, .slice ah r.hs.length ch, .slice an r.ns.length cn, .int .i64 r.nw, .int .i64 r.nt], .agg #[.int .i64 h, .int .i64 s]] w fun e w' => e = .returned (.iface 69 (.int .i64 1)) ∧ Below w.heap.size w w' := by
  have bl0 : Below w.heap.size w ((w.alloc (.cells #[.slice aw r.ws.length cw, .slice at_ r.ts.length ct, .slice ah r.hs.length ch, .slice an r.ns.length cn, .int .i64 r.nw, .int .i64 r.nt] 30)).alloc (.cells #[.int .i64 h, .int .i64 s] 33)) := ((Below.refl w.heap.size w).alloc (Nat.le_refl _) _).alloc (by simp) _
  go_enter Tryz.func61, Tryz.ntmps61
  go_wp2_with fail
  refine (scheck_bad h s _ hp).mono ?_
  rintro e w1 ⟨rfl, hb1⟩
  have bl1 := Below_after bl0 hb1
  go_wp2_with fail
  go_ret
  exact ⟨rfl, bl1⟩
theorem rfree_taken (aw at_ ah an : Option Addr) (cw ct ch cn : Nat) (r : Rm) (h s : Int) (w : World) (hr : RmAt w aw at_ ah an cw ct ch cn r) (hz : RmSz r) (hp : plOk h s) (hf : ¬ atP r.hs h s = 0) :
    Calls Tryz.prog 61 #[.agg #[.slice aw r.ws.length cw, .slice at_ r.ts.length ct, .slice ah r.hs.length ch, .slice an r.ns.length cn, .int .i64 r.nw, .int .i64 r.nt], .agg #[.int .i64 h, .int .i64 s]] w fun e w' => e = .returned (.iface 69 (.int .i64 6)) ∧ Below w.heap.size w w' := by
  have d0 : (atP r.hs h s != 0) = true := by simpa using hf
  have bl0 : Below w.heap.size w ((w.alloc (.cells #[.slice aw r.ws.length cw, .slice at_ r.ts.length ct, .slice ah r.hs.length ch, .slice an r.ns.length cn, .int .i64 r.nw, .int .i64 r.nt] 30)).alloc (.cells #[.int .i64 h, .int .i64 s] 33)) := ((Below.refl w.heap.size w).alloc (Nat.le_refl _) _).alloc (by simp) _
  have br0 := (Bx.new w [.slice aw r.ws.length cw, .slice at_ r.ts.length ct, .slice ah r.hs.length ch, .slice an r.ns.length cn, .int .i64 r.nw, .int .i64 r.nt] 30).alloc (.cells #[.int .i64 h, .int .i64 s] 33)
  have bp0 := Bx.new (w.alloc (.cells #[.slice aw r.ws.length cw, .slice at_ r.ts.length ct, .slice ah r.hs.length ch, .slice an r.ns.length cn, .int .i64 r.nw, .int .i64 r.nt] 30)) [.int .i64 h, .int .i64 s] 33
  rw [sz_alloc] at bp0
  have hh := hr.h
  have mh := hz.h
  clear hf hr hz
  go_enter Tryz.func61, Tryz.ntmps61
  go_wp2_with fail
  refine (scheck_ok h s _ hp).mono ?_
  rintro e w1 ⟨rfl, hb1⟩
  have bl1 := Below_after bl0 hb1
  obtain ⟨c0, c1, c2, c3, c4, c5⟩ := (br0.below hb1).six
  obtain ⟨p0, p1⟩ := (bp0.below hb1).two
  have hz1 := (bp0.below hb1).1
  go_wp2_with fail
  refine (at_any ah ch r.hs h s _ (hh.below bl1) (by unfold maxLen; omega)).mono ?_
  rintro e w2 ⟨rfl, hb2⟩
  have bl2 := Below_after bl1 hb2
  generalize atP r.hs h s = A at *
  go_wp2_with fail
  go_ret
  exact ⟨rfl, bl2⟩
theorem rfree_yes (aw at_ ah an : Option Addr) (cw ct ch cn : Nat) (r : Rm) (h s : Int) (w : World) (hr : RmAt w aw at_ ah an cw ct ch cn r) (hz : RmSz r) (hp : plOk h s) (hf : atP r.hs h s = 0) :
    Calls Tryz.prog 61 #[.agg #[.slice aw r.ws.length cw, .slice at_ r.ts.length ct, .slice ah r.hs.length ch, .slice an r.ns.length cn, .int .i64 r.nw, .int .i64 r.nt], .agg #[.int .i64 h, .int .i64 s]] w fun e w' => e = .returned (.nilIface) ∧ Below w.heap.size w w' := by
  have d0 : (atP r.hs h s != 0) = false := by simpa using hf
  have bl0 : Below w.heap.size w ((w.alloc (.cells #[.slice aw r.ws.length cw, .slice at_ r.ts.length ct, .slice ah r.hs.length ch, .slice an r.ns.length cn, .int .i64 r.nw, .int .i64 r.nt] 30)).alloc (.cells #[.int .i64 h, .int .i64 s] 33)) := ((Below.refl w.heap.size w).alloc (Nat.le_refl _) _).alloc (by simp) _
  have br0 := (Bx.new w [.slice aw r.ws.length cw, .slice at_ r.ts.length ct, .slice ah r.hs.length ch, .slice an r.ns.length cn, .int .i64 r.nw, .int .i64 r.nt] 30).alloc (.cells #[.int .i64 h, .int .i64 s] 33)
  have bp0 := Bx.new (w.alloc (.cells #[.slice aw r.ws.length cw, .slice at_ r.ts.length ct, .slice ah r.hs.length ch, .slice an r.ns.length cn, .int .i64 r.nw, .int .i64 r.nt] 30)) [.int .i64 h, .int .i64 s] 33
  rw [sz_alloc] at bp0
  have hh := hr.h
  have mh := hz.h
  clear hf hr hz
  go_enter Tryz.func61, Tryz.ntmps61
  go_wp2_with fail
  refine (scheck_ok h s _ hp).mono ?_
  rintro e w1 ⟨rfl, hb1⟩
  have bl1 := Below_after bl0 hb1
  obtain ⟨c0, c1, c2, c3, c4, c5⟩ := (br0.below hb1).six
  obtain ⟨p0, p1⟩ := (bp0.below hb1).two
  have hz1 := (bp0.below hb1).1
  go_wp2_with fail
  refine (at_any ah ch r.hs h s _ (hh.below bl1) (by unfold maxLen; omega)).mono ?_
  rintro e w2 ⟨rfl, hb2⟩
  have bl2 := Below_after bl1 hb2
  generalize atP r.hs h s = A at *
  go_wp2_with fail
  go_ret
  exact ⟨rfl, bl2⟩
theorem rfree_ok (aw at_ ah an : Option Addr) (cw ct ch cn : Nat) (r : Rm) (h s : Int) (w : World) (hr : RmAt w aw at_ ah an cw ct ch cn r) (hz : RmSz r) (hc : freeC r h s = 0) :
    Calls Tryz.prog 61 #[.agg #[.slice aw r.ws.length cw, .slice at_ r.ts.length ct, .slice ah r.hs.length ch, .slice an r.ns.length cn, .int .i64 r.nw, .int .i64 r.nt], .agg #[.int .i64 h, .int .i64 s]] w fun e w' => e = .returned .nilIface ∧ Below w.heap.size w w' := by
  rcases freeC_cases r h s with ⟨_, hp, hf⟩ | ⟨e, _⟩ | ⟨e, _⟩
  · exact rfree_yes aw at_ ah an cw ct ch cn r h s w hr hz hp hf
  · rw [e] at hc; cases hc
  · rw [e] at hc; cases hc
theorem rfree_err (aw at_ ah an : Option Addr) (cw ct ch cn : Nat) (r : Rm) (h s : Int) (w : World) (hr : RmAt w aw at_ ah an cw ct ch cn r) (hz : RmSz r) (hc : freeC r h s ≠ 0) :
    Calls Tryz.prog 61 #[.agg #[.slice aw r.ws.length cw, .slice at_ r.ts.length ct, .slice ah r.hs.length ch, .slice an r.ns.length cn, .int .i64 r.nw, .int .i64 r.nt], .agg #[.int .i64 h, .int .i64 s]] w fun e w' => e = .returned (.iface 69 (.int .i64 (freeC r h s))) ∧ Below w.heap.size w w' := by
  rcases freeC_cases r h s with ⟨e, _⟩ | ⟨e, hp, hf⟩ | ⟨e, hp⟩
  · exact absurd e hc
  · rw [e]; exact rfree_taken aw at_ ah an cw ct ch cn r h s w hr hz hp hf
  · rw [e]; exact rfree_bad aw at_ ah an cw ct ch cn r h s w hp
/-! ### find -/
theorem thIs_any (t : Int) (b0 : Nat) (w : World) (hc : w.cell? ⟨b0, 0, none⟩ = some (.int .i64 t)) (hlt : b0 < w.heap.size) : Predt w 69 #[.pointer (some ⟨b0, 0, none⟩)] (thIs t) := by
  intro x W hb
  have q : W.cell? ⟨b0, 0, none⟩ = some (.int .i64 t) := by rw [(bcell hb).1 _ _ hlt]; exact hc
  have hlt' : b0 < W.heap.size := Nat.lt_of_lt_of_le hlt hb.size
  show Calls Tryz.prog 69 #[.agg #[.int .i64 x.id, .int .i64 x.kind, .string x.data], .pointer (some ⟨b0, 0, none⟩)] W _
  go_enter Tryz.func69, Tryz.ntmps69
  go_wp2
  go_ret
  exact ⟨rfl, (Below.refl _ _).alloc (Nat.le_refl _) _⟩
theorem rfind_any (aw at_ ah an : Option Addr) (cw ct ch cn : Nat) (r : Rm) (t : Int) (w : World) (hr : RmAt w aw at_ ah an cw ct ch cn r) (hz : RmSz r) :
    Calls Tryz.prog 30 #[.agg #[.slice aw r.ws.length cw, .slice at_ r.ts.length ct, .slice ah r.hs.length ch, .slice an r.ns.length cn, .int .i64 r.nw, .int .i64 r.nt], .int .i64 t] w fun e w' => e = .returned (.int .i64 (thAt r t)) ∧ Below w.heap.size w w' := by
  have hmf : ∀ (fn : Fn) (first cap : Array Value) (w : World), (Instr.makeFunc fn first cap).run Tryz.prog w = .ok (.func fn first cap) w := fun _ _ _ _ => rfl
  have eg : ∀ args w, (callFunc 69 args).run Tryz.prog w = .ok (.enter 69 args) w := enters_of Tryz.func69 (by kernel_rfl) rfl
  have bl0 : Below w.heap.size w ((w.alloc (.cells #[.slice aw r.ws.length cw, .slice at_ r.ts.length ct, .slice ah r.hs.length ch, .slice an r.ns.length cn, .int .i64 r.nw, .int .i64 r.nt] 30)).alloc (.cells #[.int .i64 t] 3)) := ((Below.refl w.heap.size w).alloc (Nat.le_refl _) _).alloc (by simp) _
  have bp0 := Bx.new (w.alloc (.cells #[.slice aw r.ws.length cw, .slice at_ r.ts.length ct, .slice ah r.hs.length ch, .slice an r.ns.length cn, .int .i64 r.nw, .int .i64 r.nt] 30)) [.int .i64 t] 3
  rw [sz_alloc] at bp0
  have ht := hr.t
  have mt := hz.t
  clear hr hz
  go_enter Tryz.func30, Tryz.ntmps30
  go_wp2_with fail
  refine (idx_anyt at_ ct r.ts (thIs t) 69 _ eg _ _ (thIs_any t (w.heap.size + 1) _ (bp0.2 0 _ rfl).1 bp0.1) (Below.refl _ _) (ht.below bl0) (by omega)).mono ?_
  rintro e w1 ⟨rfl, hb1⟩
  go_wp2_with fail
  go_ret
  exact ⟨rfl, Below_after bl0 hb1⟩
/-! ### who -/
theorem whoC_cases (r : Rm) (h s kind rights : Int) : (whoC r h s kind rights = 0 ∧ getC r h s = 0 ∧ (∃ (j : Nat) (t : Th), thAt r (getW r h s).thing = (j : Int) ∧ r.ts[j]? = some t ∧ t.kind = kind ∧ r.ts.find? (thIs (getW r h s).thing) = some t) ∧ hasB (getW r h s).rights rights = true) ∨
    (whoC r h s kind rights = 7 ∧ getC r h s = 0 ∧ (∃ (j : Nat) (t : Th), thAt r (getW r h s).thing = (j : Int) ∧ r.ts[j]? = some t ∧ t.kind = kind) ∧ hasB (getW r h s).rights rights = false) ∨
    (whoC r h s kind rights = 8 ∧ getC r h s = 0 ∧ (thAt r (getW r h s).thing = -1 ∨ ∃ (j : Nat) (t : Th), thAt r (getW r h s).thing = (j : Int) ∧ r.ts[j]? = some t ∧ ¬ t.kind = kind)) ∨
    (whoC r h s kind rights = getC r h s ∧ ¬ getC r h s = 0) := by
  unfold whoC
  by_cases h1 : getC r h s = 0
  · rw [if_neg (by simp [h1])]
    rcases idx_cases (thIs (getW r h s).thing) r.ts with ⟨e, hn⟩ | ⟨j, t, e, hj, ht, hn⟩
    · have hk : kindIs r (getW r h s).thing kind = false := by unfold kindIs; rw [hn]
      rw [if_pos hk]; exact .inr (.inr (.inl ⟨rfl, h1, .inl e⟩))
    · by_cases hk : t.kind = kind
      · have hk' : kindIs r (getW r h s).thing kind = true := by unfold kindIs; rw [hn]; simpa using hk
        rw [if_neg (by simp [hk'])]
        cases hq : hasB (getW r h s).rights rights with
        | true => rw [if_neg (by simp)]; exact .inl ⟨rfl, h1, ⟨j, t, e, hj, hk, hn⟩, rfl⟩
        | false => rw [if_pos rfl]; exact .inr (.inl ⟨rfl, h1, ⟨j, t, e, hj, hk⟩, rfl⟩)
      · have hk' : kindIs r (getW r h s).thing kind = false := by unfold kindIs; rw [hn]; simpa using hk
        rw [if_pos hk']; exact .inr (.inr (.inl ⟨rfl, h1, .inr ⟨j, t, e, hj, hk⟩⟩))
  · rw [if_pos h1]; exact .inr (.inr (.inr ⟨rfl, h1⟩))
set_option maxHeartbeats 1000000 in
theorem who_get (aw at_ ah an : Option Addr) (cw ct ch cn : Nat) (r : Rm) (h s kind rights : Int) (w : World) (hr : RmAt w aw at_ ah an cw ct ch cn r) (hz : RmSz r) (hg : getC r h s ≠ 0) :
    Calls Tryz.prog 29 #[.agg #[.slice aw r.ws.length cw, .slice at_ r.ts.length ct, .slice ah r.hs.length ch, .slice an r.ns.length cn, .int .i64 r.nw, .int .i64 r.nt], .agg #[.int .i64 h, .int .i64 s], .int .i64 kind, .int .i64 rights] w fun e w' => e = .returned (.tuple #[.agg #[.int .i64 0, .int .i64 0, .int .i64 0, .int .i64 0, .int .i64 0], .iface 69 (.int .i64 (getC r h s))]) ∧ Below w.heap.size w w' := by
  have bz0 := Bx.new ((w.alloc (.cells #[.slice aw r.ws.length cw, .slice at_ r.ts.length ct, .slice ah r.hs.length ch, .slice an r.ns.length cn, .int .i64 r.nw, .int .i64 r.nt] 30)).alloc (.cells #[.int .i64 h, .int .i64 s] 33)) [.int .i64 0, .int .i64 0, .int .i64 0, .int .i64 0, .int .i64 0] 39
  rw [sz_alloc, sz_alloc] at bz0
  have br0 := ((Bx.new w [.slice aw r.ws.length cw, .slice at_ r.ts.length ct, .slice ah r.hs.length ch, .slice an r.ns.length cn, .int .i64 r.nw, .int .i64 r.nt] 30).alloc (.cells #[.int .i64 h, .int .i64 s] 33)).alloc (.cells #[.int .i64 0, .int .i64 0, .int .i64 0, .int .i64 0, .int .i64 0] 39)
  have bl0 : Below w.heap.size w (((w.alloc (.cells #[.slice aw r.ws.length cw, .slice at_ r.ts.length ct, .slice ah r.hs.length ch, .slice an r.ns.length cn, .int .i64 r.nw, .int .i64 r.nt] 30)).alloc (.cells #[.int .i64 h, .int .i64 s] 33)).alloc (.cells #[.int .i64 0, .int .i64 0, .int .i64 0, .int .i64 0, .int .i64 0] 39)) := (((Below.refl w.heap.size w).alloc (Nat.le_refl _) _).alloc (by simp) _).alloc (by simp <;> omega) _
  go_enter Tryz.func29, Tryz.ntmps29
  go_wp2_with fail
  refine (get_err aw at_ ah an cw ct ch cn r h s _ (hr.below bl0) hz hg).mono ?_
  rintro e w1 ⟨rfl, hb1⟩
  have bz1 := (bz0.below hb1).alloc (.cells #[.int .i64 0, .int .i64 0, .int .i64 0, .int .i64 0, .int .i64 0] 39)
  have bl1 := (Below_after bl0 hb1).alloc (Below_after bl0 hb1).size (.cells #[.int .i64 0, .int .i64 0, .int .i64 0, .int .i64 0, .int .i64 0] 39)
  obtain ⟨z0, z1, z2, z3, z4⟩ := bz1.five
  obtain ⟨g0, g1, g2, g3, g4⟩ := bz1.fiveF
  go_wp2_with fail
  obtain ⟨y0, y1, y2, y3, y4⟩ := (bz1.put5 (.int .i64 0) (.int .i64 0) (.int .i64 0) (.int .i64 0) (.int .i64 0)).five
  exact bodyPost_ret (v := .tuple #[.agg #[.int .i64 0, .int .i64 0, .int .i64 0, .int .i64 0, .int .i64 0], .iface 69 (.int .i64 (getC r h s))]) (by simp [results, Tryz.results29, go_sem, y0, y1, y2, y3, y4]) rfl ⟨rfl, below_set5 bl1 (by omega) _ _ _ _ _⟩

set_option maxHeartbeats 1000000 in
set_option maxRecDepth 100000 in
theorem who_lost (aw at_ ah an : Option Addr) (cw ct ch cn : Nat) (r : Rm) (h s kind rights : Int) (w : World) (hr : RmAt w aw at_ ah an cw ct ch cn r) (hz : RmSz r) (hg : getC r h s = 0) (ht : thAt r (getW r h s).thing = -1) :
    Calls Tryz.prog 29 #[.agg #[.slice aw r.ws.length cw, .slice at_ r.ts.length ct, .slice ah r.hs.length ch, .slice an r.ns.length cn, .int .i64 r.nw, .int .i64 r.nt], .agg #[.int .i64 h, .int .i64 s], .int .i64 kind, .int .i64 rights] w fun e w' => e = .returned (.tuple #[.agg #[.int .i64 0, .int .i64 0, .int .i64 0, .int .i64 0, .int .i64 0], .iface 69 (.int .i64 8)]) ∧ Below w.heap.size w w' := by
  have bz0 := Bx.new ((w.alloc (.cells #[.slice aw r.ws.length cw, .slice at_ r.ts.length ct, .slice ah r.hs.length ch, .slice an r.ns.length cn, .int .i64 r.nw, .int .i64 r.nt] 30)).alloc (.cells #[.int .i64 h, .int .i64 s] 33)) [.int .i64 0, .int .i64 0, .int .i64 0, .int .i64 0, .int .i64 0] 39
  rw [sz_alloc, sz_alloc] at bz0
  have br0 := ((Bx.new w [.slice aw r.ws.length cw, .slice at_ r.ts.length ct, .slice ah r.hs.length ch, .slice an r.ns.length cn, .int .i64 r.nw, .int .i64 r.nt] 30).alloc (.cells #[.int .i64 h, .int .i64 s] 33)).alloc (.cells #[.int .i64 0, .int .i64 0, .int .i64 0, .int .i64 0, .int .i64 0] 39)
  have bl0 : Below w.heap.size w (((w.alloc (.cells #[.slice aw r.ws.length cw, .slice at_ r.ts.length ct, .slice ah r.hs.length ch, .slice an r.ns.length cn, .int .i64 r.nw, .int .i64 r.nt] 30)).alloc (.cells #[.int .i64 h, .int .i64 s] 33)).alloc (.cells #[.int .i64 0, .int .i64 0, .int .i64 0, .int .i64 0, .int .i64 0] 39)) := (((Below.refl w.heap.size w).alloc (Nat.le_refl _) _).alloc (by simp) _).alloc (by simp <;> omega) _
  go_enter Tryz.func29, Tryz.ntmps29
  go_wp2_with fail
  refine (get_ok aw at_ ah an cw ct ch cn r h s _ (hr.below bl0) hz hg).mono ?_
  rintro e w1 ⟨rfl, hb1⟩
  have bz1 := (bz0.below hb1).alloc (.cells #[.int .i64 (getW r h s).id, .int .i64 (getW r h s).thing, .int .i64 (getW r h s).rights, .int .i64 (getW r h s).badge, .int .i64 (getW r h s).frm] 39)
  have br1 := (br0.below hb1).alloc (.cells #[.int .i64 (getW r h s).id, .int .i64 (getW r h s).thing, .int .i64 (getW r h s).rights, .int .i64 (getW r h s).badge, .int .i64 (getW r h s).frm] 39)
  have bx1 := Bx.new w1 [.int .i64 (getW r h s).id, .int .i64 (getW r h s).thing, .int .i64 (getW r h s).rights, .int .i64 (getW r h s).badge, .int .i64 (getW r h s).frm] 39
  have bl1 := (Below_after bl0 hb1).alloc (Below_after bl0 hb1).size (.cells #[.int .i64 (getW r h s).id, .int .i64 (getW r h s).thing, .int .i64 (getW r h s).rights, .int .i64 (getW r h s).badge, .int .i64 (getW r h s).frm] 39)
  have hs1 := (bz0.below hb1).1
  have hs0 : w.heap.size < w1.heap.size := by omega
  have hs01 : w.heap.size + 1 < w1.heap.size := by omega
  obtain ⟨r0, r1, r2, r3, r4, r5⟩ := (br0.below hb1).six
  generalize hX : getW r h s = x at *
  have HX : Hid (getW r h s = x) := hX
  clear hX
  clear bz0 br0 bl0 hb1
  go_wp2_with fail
  clear r0 r1 r2 r3 r4 r5
  refine (rfind_any aw at_ ah an cw ct ch cn r x.thing _ (hr.below bl1) hz).mono ?_
  rintro e w2 ⟨rfl, hb2⟩
  have bz2 := bz1.below hb2
  have br2 := br1.below hb2
  have bx2 := bx1.below hb2
  have bl2 := Below_after bl1 hb2
  obtain ⟨x0, x1, x2, x3, x4⟩ := bx2.five
  obtain ⟨r0, r1, r2, r3, r4, r5⟩ := br2.six
  have hz2 := bx2.1
  have hz20 : w.heap.size < w2.heap.size := by omega
  have hz21 : w.heap.size + 1 < w2.heap.size := by omega
  have hz22 : w.heap.size + 1 + 1 < w2.heap.size := by omega
  clear bz1 br1 bx1 bl1 hb2
  rw [ht]
  obtain ⟨z0, z1, z2, z3, z4⟩ := bz2.five
  obtain ⟨g0, g1, g2, g3, g4⟩ := bz2.fiveF
  go_wp2_with fail
  obtain ⟨y0, y1, y2, y3, y4⟩ := (bz2.put5 (.int .i64 0) (.int .i64 0) (.int .i64 0) (.int .i64 0) (.int .i64 0)).five
  exact bodyPost_ret (v := .tuple #[.agg #[.int .i64 0, .int .i64 0, .int .i64 0, .int .i64 0, .int .i64 0], .iface 69 (.int .i64 8)]) (by simp [results, Tryz.results29, go_sem, y0, y1, y2, y3, y4]) rfl ⟨rfl, below_set5 bl2 (by omega) _ _ _ _ _⟩

set_option maxHeartbeats 1000000 in
set_option maxRecDepth 100000 in
theorem who_kind (aw at_ ah an : Option Addr) (cw ct ch cn : Nat) (r : Rm) (h s kind rights : Int) (w : World) (hr : RmAt w aw at_ ah an cw ct ch cn r) (hz : RmSz r) (hg : getC r h s = 0) (j : Nat) (t : Th) (ht : thAt r (getW r h s).thing = (j : Int)) (hj : r.ts[j]? = some t) (hk : ¬ t.kind = kind) :
    Calls Tryz.prog 29 #[.agg #[.slice aw r.ws.length cw, .slice at_ r.ts.length ct, .slice ah r.hs.length ch, .slice an r.ns.length cn, .int .i64 r.nw, .int .i64 r.nt], .agg #[.int .i64 h, .int .i64 s], .int .i64 kind, .int .i64 rights] w fun e w' => e = .returned (.tuple #[.agg #[.int .i64 0, .int .i64 0, .int .i64 0, .int .i64 0, .int .i64 0], .iface 69 (.int .i64 8)]) ∧ Below w.heap.size w w' := by
  have hjl : j < r.ts.length := (List.getElem?_eq_some_iff.1 hj).1
  obtain ⟨b, o, ha, hb, hc⟩ := hr.t.resolve_left (by intro e; rw [e] at hjl; simp at hjl)
  subst ha
  have q := hc j t hj
  have Q : Hid (ThAt w b (o + j * 3) t) := q
  have dk : (t.kind != kind) = true := by simpa using hk
  have ft := hr.ft.1
  have ft2 := hr.ft.2
  unfold maxLen at ft2
  have mt := hz.t
  clear q hc hj hk
  have bz0 := Bx.new ((w.alloc (.cells #[.slice aw r.ws.length cw, .slice (some ⟨b, o, none⟩) r.ts.length ct, .slice ah r.hs.length ch, .slice an r.ns.length cn, .int .i64 r.nw, .int .i64 r.nt] 30)).alloc (.cells #[.int .i64 h, .int .i64 s] 33)) [.int .i64 0, .int .i64 0, .int .i64 0, .int .i64 0, .int .i64 0] 39
  rw [sz_alloc, sz_alloc] at bz0
  have br0 := ((Bx.new w [.slice aw r.ws.length cw, .slice (some ⟨b, o, none⟩) r.ts.length ct, .slice ah r.hs.length ch, .slice an r.ns.length cn, .int .i64 r.nw, .int .i64 r.nt] 30).alloc (.cells #[.int .i64 h, .int .i64 s] 33)).alloc (.cells #[.int .i64 0, .int .i64 0, .int .i64 0, .int .i64 0, .int .i64 0] 39)
  have bl0 : Below w.heap.size w (((w.alloc (.cells #[.slice aw r.ws.length cw, .slice (some ⟨b, o, none⟩) r.ts.length ct, .slice ah r.hs.length ch, .slice an r.ns.length cn, .int .i64 r.nw, .int .i64 r.nt] 30)).alloc (.cells #[.int .i64 h, .int .i64 s] 33)).alloc (.cells #[.int .i64 0, .int .i64 0, .int .i64 0, .int .i64 0, .int .i64 0] 39)) := (((Below.refl w.heap.size w).alloc (Nat.le_refl _) _).alloc (by simp) _).alloc (by simp <;> omega) _
  go_enter Tryz.func29, Tryz.ntmps29
  go_wp2_with fail
  refine (get_ok aw (some ⟨b, o, none⟩) ah an cw ct ch cn r h s _ (hr.below bl0) hz hg).mono ?_
  rintro e w1 ⟨rfl, hb1⟩
  have bz1 := (bz0.below hb1).alloc (.cells #[.int .i64 (getW r h s).id, .int .i64 (getW r h s).thing, .int .i64 (getW r h s).rights, .int .i64 (getW r h s).badge, .int .i64 (getW r h s).frm] 39)
  have br1 := (br0.below hb1).alloc (.cells #[.int .i64 (getW r h s).id, .int .i64 (getW r h s).thing, .int .i64 (getW r h s).rights, .int .i64 (getW r h s).badge, .int .i64 (getW r h s).frm] 39)
  have bx1 := Bx.new w1 [.int .i64 (getW r h s).id, .int .i64 (getW r h s).thing, .int .i64 (getW r h s).rights, .int .i64 (getW r h s).badge, .int .i64 (getW r h s).frm] 39
  have bl1 := (Below_after bl0 hb1).alloc (Below_after bl0 hb1).size (.cells #[.int .i64 (getW r h s).id, .int .i64 (getW r h s).thing, .int .i64 (getW r h s).rights, .int .i64 (getW r h s).badge, .int .i64 (getW r h s).frm] 39)
  have hs1 := (bz0.below hb1).1
  have hs0 : w.heap.size < w1.heap.size := by omega
  have hs01 : w.heap.size + 1 < w1.heap.size := by omega
  obtain ⟨r0, r1, r2, r3, r4, r5⟩ := (br0.below hb1).six
  generalize hX : getW r h s = x at *
  have HX : Hid (getW r h s = x) := hX
  clear hX
  clear bz0 br0 bl0 hb1
  go_wp2_with fail
  clear r0 r1 r2 r3 r4 r5
  refine (rfind_any aw (some ⟨b, o, none⟩) ah an cw ct ch cn r x.thing _ (hr.below bl1) hz).mono ?_
  rintro e w2 ⟨rfl, hb2⟩
  have bz2 := bz1.below hb2
  have br2 := br1.below hb2
  have bx2 := bx1.below hb2
  have bl2 := Below_after bl1 hb2
  obtain ⟨x0, x1, x2, x3, x4⟩ := bx2.five
  obtain ⟨r0, r1, r2, r3, r4, r5⟩ := br2.six
  have hz2 := bx2.1
  have hz20 : w.heap.size < w2.heap.size := by omega
  have hz21 : w.heap.size + 1 < w2.heap.size := by omega
  have hz22 : w.heap.size + 1 + 1 < w2.heap.size := by omega
  clear bz1 br1 bx1 bl1 hb2
  obtain ⟨t0, t1, t2⟩ := Q.out.below bl2 hb
  have hb2 : b < w2.heap.size := Nat.lt_of_lt_of_le hb bl2.size
  rw [ht]
  obtain ⟨z0, z1, z2, z3, z4⟩ := bz2.five
  obtain ⟨g0, g1, g2, g3, g4⟩ := bz2.fiveF
  go_wp2_with fail
  obtain ⟨y0, y1, y2, y3, y4⟩ := (bz2.put5 (.int .i64 0) (.int .i64 0) (.int .i64 0) (.int .i64 0) (.int .i64 0)).five
  exact bodyPost_ret (v := .tuple #[.agg #[.int .i64 0, .int .i64 0, .int .i64 0, .int .i64 0, .int .i64 0], .iface 69 (.int .i64 8)]) (by simp [results, Tryz.results29, go_sem, y0, y1, y2, y3, y4]) rfl ⟨rfl, below_set5 bl2 (by omega) _ _ _ _ _⟩

set_option maxHeartbeats 1000000 in
set_option maxRecDepth 100000 in
theorem who_right (aw at_ ah an : Option Addr) (cw ct ch cn : Nat) (r : Rm) (h s kind rights : Int) (w : World) (hr : RmAt w aw at_ ah an cw ct ch cn r) (hz : RmSz r) (hg : getC r h s = 0) (j : Nat) (t : Th) (ht : thAt r (getW r h s).thing = (j : Int)) (hj : r.ts[j]? = some t) (hk : t.kind = kind) (hq : hasB (getW r h s).rights rights = false) :
    Calls Tryz.prog 29 #[.agg #[.slice aw r.ws.length cw, .slice at_ r.ts.length ct, .slice ah r.hs.length ch, .slice an r.ns.length cn, .int .i64 r.nw, .int .i64 r.nt], .agg #[.int .i64 h, .int .i64 s], .int .i64 kind, .int .i64 rights] w fun e w' => e = .returned (.tuple #[.agg #[.int .i64 0, .int .i64 0, .int .i64 0, .int .i64 0, .int .i64 0], .iface 69 (.int .i64 7)]) ∧ Below w.heap.size w w' := by
  have hjl : j < r.ts.length := (List.getElem?_eq_some_iff.1 hj).1
  obtain ⟨b, o, ha, hb, hc⟩ := hr.t.resolve_left (by intro e; rw [e] at hjl; simp at hjl)
  subst ha
  have q := hc j t hj
  have Q : Hid (ThAt w b (o + j * 3) t) := q
  have dk : (t.kind != kind) = false := by simpa using hk
  have ft := hr.ft.1
  have ft2 := hr.ft.2
  unfold maxLen at ft2
  have mt := hz.t
  clear q hc hj hk
  have bz0 := Bx.new ((w.alloc (.cells #[.slice aw r.ws.length cw, .slice (some ⟨b, o, none⟩) r.ts.length ct, .slice ah r.hs.length ch, .slice an r.ns.length cn, .int .i64 r.nw, .int .i64 r.nt] 30)).alloc (.cells #[.int .i64 h, .int .i64 s] 33)) [.int .i64 0, .int .i64 0, .int .i64 0, .int .i64 0, .int .i64 0] 39
  rw [sz_alloc, sz_alloc] at bz0
  have br0 := ((Bx.new w [.slice aw r.ws.length cw, .slice (some ⟨b, o, none⟩) r.ts.length ct, .slice ah r.hs.length ch, .slice an r.ns.length cn, .int .i64 r.nw, .int .i64 r.nt] 30).alloc (.cells #[.int .i64 h, .int .i64 s] 33)).alloc (.cells #[.int .i64 0, .int .i64 0, .int .i64 0, .int .i64 0, .int .i64 0] 39)
  have bl0 : Below w.heap.size w (((w.alloc (.cells #[.slice aw r.ws.length cw, .slice (some ⟨b, o, none⟩) r.ts.length ct, .slice ah r.hs.length ch, .slice an r.ns.length cn, .int .i64 r.nw, .int .i64 r.nt] 30)).alloc (.cells #[.int .i64 h, .int .i64 s] 33)).alloc (.cells #[.int .i64 0, .int .i64 0, .int .i64 0, .int .i64 0, .int .i64 0] 39)) := (((Below.refl w.heap.size w).alloc (Nat.le_refl _) _).alloc (by simp) _).alloc (by simp <;> omega) _
  go_enter Tryz.func29, Tryz.ntmps29
  go_wp2_with fail
  refine (get_ok aw (some ⟨b, o, none⟩) ah an cw ct ch cn r h s _ (hr.below bl0) hz hg).mono ?_
  rintro e w1 ⟨rfl, hb1⟩
  have bz1 := (bz0.below hb1).alloc (.cells #[.int .i64 (getW r h s).id, .int .i64 (getW r h s).thing, .int .i64 (getW r h s).rights, .int .i64 (getW r h s).badge, .int .i64 (getW r h s).frm] 39)
  have br1 := (br0.below hb1).alloc (.cells #[.int .i64 (getW r h s).id, .int .i64 (getW r h s).thing, .int .i64 (getW r h s).rights, .int .i64 (getW r h s).badge, .int .i64 (getW r h s).frm] 39)
  have bx1 := Bx.new w1 [.int .i64 (getW r h s).id, .int .i64 (getW r h s).thing, .int .i64 (getW r h s).rights, .int .i64 (getW r h s).badge, .int .i64 (getW r h s).frm] 39
  have bl1 := (Below_after bl0 hb1).alloc (Below_after bl0 hb1).size (.cells #[.int .i64 (getW r h s).id, .int .i64 (getW r h s).thing, .int .i64 (getW r h s).rights, .int .i64 (getW r h s).badge, .int .i64 (getW r h s).frm] 39)
  have hs1 := (bz0.below hb1).1
  have hs0 : w.heap.size < w1.heap.size := by omega
  have hs01 : w.heap.size + 1 < w1.heap.size := by omega
  obtain ⟨r0, r1, r2, r3, r4, r5⟩ := (br0.below hb1).six
  generalize hX : getW r h s = x at *
  have HX : Hid (getW r h s = x) := hX
  clear hX
  clear bz0 br0 bl0 hb1
  go_wp2_with fail
  clear r0 r1 r2 r3 r4 r5
  refine (rfind_any aw (some ⟨b, o, none⟩) ah an cw ct ch cn r x.thing _ (hr.below bl1) hz).mono ?_
  rintro e w2 ⟨rfl, hb2⟩
  have bz2 := bz1.below hb2
  have br2 := br1.below hb2
  have bx2 := bx1.below hb2
  have bl2 := Below_after bl1 hb2
  obtain ⟨x0, x1, x2, x3, x4⟩ := bx2.five
  obtain ⟨r0, r1, r2, r3, r4, r5⟩ := br2.six
  have hz2 := bx2.1
  have hz20 : w.heap.size < w2.heap.size := by omega
  have hz21 : w.heap.size + 1 < w2.heap.size := by omega
  have hz22 : w.heap.size + 1 + 1 < w2.heap.size := by omega
  clear bz1 br1 bx1 bl1 hb2
  obtain ⟨t0, t1, t2⟩ := Q.out.below bl2 hb
  have hb2 : b < w2.heap.size := Nat.lt_of_lt_of_le hb bl2.size
  rw [ht]
  go_wp2_with fail
  refine (has_any x.rights rights _).mono ?_
  rintro e w3 ⟨rfl, rfl⟩
  rw [hq]
  obtain ⟨z0, z1, z2, z3, z4⟩ := bz2.five
  obtain ⟨g0, g1, g2, g3, g4⟩ := bz2.fiveF
  go_wp2_with fail
  obtain ⟨y0, y1, y2, y3, y4⟩ := (bz2.put5 (.int .i64 0) (.int .i64 0) (.int .i64 0) (.int .i64 0) (.int .i64 0)).five
  exact bodyPost_ret (v := .tuple #[.agg #[.int .i64 0, .int .i64 0, .int .i64 0, .int .i64 0, .int .i64 0], .iface 69 (.int .i64 7)]) (by simp [results, Tryz.results29, go_sem, y0, y1, y2, y3, y4]) rfl ⟨by first | rfl | rw [HX.out], below_set5 bl2 (by omega) _ _ _ _ _⟩

set_option maxHeartbeats 1000000 in
set_option maxRecDepth 100000 in
theorem who_yes (aw at_ ah an : Option Addr) (cw ct ch cn : Nat) (r : Rm) (h s kind rights : Int) (w : World) (hr : RmAt w aw at_ ah an cw ct ch cn r) (hz : RmSz r) (hg : getC r h s = 0) (j : Nat) (t : Th) (ht : thAt r (getW r h s).thing = (j : Int)) (hj : r.ts[j]? = some t) (hk : t.kind = kind) (hq : hasB (getW r h s).rights rights = true) :
    Calls Tryz.prog 29 #[.agg #[.slice aw r.ws.length cw, .slice at_ r.ts.length ct, .slice ah r.hs.length ch, .slice an r.ns.length cn, .int .i64 r.nw, .int .i64 r.nt], .agg #[.int .i64 h, .int .i64 s], .int .i64 kind, .int .i64 rights] w fun e w' => e = .returned (.tuple #[.agg #[.int .i64 (getW r h s).id, .int .i64 (getW r h s).thing, .int .i64 (getW r h s).rights, .int .i64 (getW r h s).badge, .int .i64 (getW r h s).frm], .nilIface]) ∧ Below w.heap.size w w' := by
  have hjl : j < r.ts.length := (List.getElem?_eq_some_iff.1 hj).1
  obtain ⟨b, o, ha, hb, hc⟩ := hr.t.resolve_left (by intro e; rw [e] at hjl; simp at hjl)
  subst ha
  have q := hc j t hj
  have Q : Hid (ThAt w b (o + j * 3) t) := q
  have dk : (t.kind != kind) = false := by simpa using hk
  have ft := hr.ft.1
  have ft2 := hr.ft.2
  unfold maxLen at ft2
  have mt := hz.t
  clear q hc hj hk
  have bz0 := Bx.new ((w.alloc (.cells #[.slice aw r.ws.length cw, .slice (some ⟨b, o, none⟩) r.ts.length ct, .slice ah r.hs.length ch, .slice an r.ns.length cn, .int .i64 r.nw, .int .i64 r.nt] 30)).alloc (.cells #[.int .i64 h, .int .i64 s] 33)) [.int .i64 0, .int .i64 0, .int .i64 0, .int .i64 0, .int .i64 0] 39
  rw [sz_alloc, sz_alloc] at bz0
  have br0 := ((Bx.new w [.slice aw r.ws.length cw, .slice (some ⟨b, o, none⟩) r.ts.length ct, .slice ah r.hs.length ch, .slice an r.ns.length cn, .int .i64 r.nw, .int .i64 r.nt] 30).alloc (.cells #[.int .i64 h, .int .i64 s] 33)).alloc (.cells #[.int .i64 0, .int .i64 0, .int .i64 0, .int .i64 0, .int .i64 0] 39)
  have bl0 : Below w.heap.size w (((w.alloc (.cells #[.slice aw r.ws.length cw, .slice (some ⟨b, o, none⟩) r.ts.length ct, .slice ah r.hs.length ch, .slice an r.ns.length cn, .int .i64 r.nw, .int .i64 r.nt] 30)).alloc (.cells #[.int .i64 h, .int .i64 s] 33)).alloc (.cells #[.int .i64 0, .int .i64 0, .int .i64 0, .int .i64 0, .int .i64 0] 39)) := (((Below.refl w.heap.size w).alloc (Nat.le_refl _) _).alloc (by simp) _).alloc (by simp <;> omega) _
  go_enter Tryz.func29, Tryz.ntmps29
  go_wp2_with fail
  refine (get_ok aw (some ⟨b, o, none⟩) ah an cw ct ch cn r h s _ (hr.below bl0) hz hg).mono ?_
  rintro e w1 ⟨rfl, hb1⟩
  have bz1 := (bz0.below hb1).alloc (.cells #[.int .i64 (getW r h s).id, .int .i64 (getW r h s).thing, .int .i64 (getW r h s).rights, .int .i64 (getW r h s).badge, .int .i64 (getW r h s).frm] 39)
  have br1 := (br0.below hb1).alloc (.cells #[.int .i64 (getW r h s).id, .int .i64 (getW r h s).thing, .int .i64 (getW r h s).rights, .int .i64 (getW r h s).badge, .int .i64 (getW r h s).frm] 39)
  have bx1 := Bx.new w1 [.int .i64 (getW r h s).id, .int .i64 (getW r h s).thing, .int .i64 (getW r h s).rights, .int .i64 (getW r h s).badge, .int .i64 (getW r h s).frm] 39
  have bl1 := (Below_after bl0 hb1).alloc (Below_after bl0 hb1).size (.cells #[.int .i64 (getW r h s).id, .int .i64 (getW r h s).thing, .int .i64 (getW r h s).rights, .int .i64 (getW r h s).badge, .int .i64 (getW r h s).frm] 39)
  have hs1 := (bz0.below hb1).1
  have hs0 : w.heap.size < w1.heap.size := by omega
  have hs01 : w.heap.size + 1 < w1.heap.size := by omega
  obtain ⟨r0, r1, r2, r3, r4, r5⟩ := (br0.below hb1).six
  generalize hX : getW r h s = x at *
  have HX : Hid (getW r h s = x) := hX
  clear hX
  clear bz0 br0 bl0 hb1
  go_wp2_with fail
  clear r0 r1 r2 r3 r4 r5
  refine (rfind_any aw (some ⟨b, o, none⟩) ah an cw ct ch cn r x.thing _ (hr.below bl1) hz).mono ?_
  rintro e w2 ⟨rfl, hb2⟩
  have bz2 := bz1.below hb2
  have br2 := br1.below hb2
  have bx2 := bx1.below hb2
  have bl2 := Below_after bl1 hb2
  obtain ⟨x0, x1, x2, x3, x4⟩ := bx2.five
  obtain ⟨r0, r1, r2, r3, r4, r5⟩ := br2.six
  have hz2 := bx2.1
  have hz20 : w.heap.size < w2.heap.size := by omega
  have hz21 : w.heap.size + 1 < w2.heap.size := by omega
  have hz22 : w.heap.size + 1 + 1 < w2.heap.size := by omega
  clear bz1 br1 bx1 bl1 hb2
  obtain ⟨t0, t1, t2⟩ := Q.out.below bl2 hb
  have hb2 : b < w2.heap.size := Nat.lt_of_lt_of_le hb bl2.size
  rw [ht]
  go_wp2_with fail
  refine (has_any x.rights rights _).mono ?_
  rintro e w3 ⟨rfl, rfl⟩
  rw [hq]
  obtain ⟨z0, z1, z2, z3, z4⟩ := bz2.five
  obtain ⟨g0, g1, g2, g3, g4⟩ := bz2.fiveF
  go_wp2_with fail
  obtain ⟨y0, y1, y2, y3, y4⟩ := (bz2.put5 (.int .i64 x.id) (.int .i64 x.thing) (.int .i64 x.rights) (.int .i64 x.badge) (.int .i64 x.frm)).five
  exact bodyPost_ret (v := .tuple #[.agg #[.int .i64 x.id, .int .i64 x.thing, .int .i64 x.rights, .int .i64 x.badge, .int .i64 x.frm], .nilIface]) (by simp [results, Tryz.results29, go_sem, y0, y1, y2, y3, y4]) rfl ⟨by first | rfl | rw [HX.out], below_set5 bl2 (by omega) _ _ _ _ _⟩

theorem who_ok (aw at_ ah an : Option Addr) (cw ct ch cn : Nat) (r : Rm) (h s kind rights : Int) (w : World) (hr : RmAt w aw at_ ah an cw ct ch cn r) (hz : RmSz r) (hc : whoC r h s kind rights = 0) :
    Calls Tryz.prog 29 #[.agg #[.slice aw r.ws.length cw, .slice at_ r.ts.length ct, .slice ah r.hs.length ch, .slice an r.ns.length cn, .int .i64 r.nw, .int .i64 r.nt], .agg #[.int .i64 h, .int .i64 s], .int .i64 kind, .int .i64 rights] w fun e w' => e = .returned (.tuple #[.agg #[.int .i64 (getW r h s).id, .int .i64 (getW r h s).thing, .int .i64 (getW r h s).rights, .int .i64 (getW r h s).badge, .int .i64 (getW r h s).frm], .nilIface]) ∧ Below w.heap.size w w' := by
  rcases whoC_cases r h s kind rights with ⟨_, hg, ⟨j, t, h1, h2, h3, _⟩, hq⟩ | ⟨e, _⟩ | ⟨e, _⟩ | ⟨e, hn⟩
  · exact who_yes aw at_ ah an cw ct ch cn r h s kind rights w hr hz hg j t h1 h2 h3 hq
  · rw [e] at hc; cases hc
  · rw [e] at hc; cases hc
  · rw [e] at hc; exact absurd hc hn
theorem who_err (aw at_ ah an : Option Addr) (cw ct ch cn : Nat) (r : Rm) (h s kind rights : Int) (w : World) (hr : RmAt w aw at_ ah an cw ct ch cn r) (hz : RmSz r) (hc : whoC r h s kind rights ≠ 0) :
    Calls Tryz.prog 29 #[.agg #[.slice aw r.ws.length cw, .slice at_ r.ts.length ct, .slice ah r.hs.length ch, .slice an r.ns.length cn, .int .i64 r.nw, .int .i64 r.nt], .agg #[.int .i64 h, .int .i64 s], .int .i64 kind, .int .i64 rights] w fun e w' => e = .returned (.tuple #[.agg #[.int .i64 0, .int .i64 0, .int .i64 0, .int .i64 0, .int .i64 0], .iface 69 (.int .i64 (whoC r h s kind rights))]) ∧ Below w.heap.size w w' := by
  rcases whoC_cases r h s kind rights with ⟨e, _⟩ | ⟨e, hg, ⟨j, t, h1, h2, h3⟩, hq⟩ | ⟨e, hg, h1 | ⟨j, t, h1, h2, h3⟩⟩ | ⟨e, hn⟩
  · exact absurd e hc
  · rw [e]; exact who_right aw at_ ah an cw ct ch cn r h s kind rights w hr hz hg j t h1 h2 h3 hq
  · rw [e]; exact who_lost aw at_ ah an cw ct ch cn r h s kind rights w hr hz hg h1
  · rw [e]; exact who_kind aw at_ ah an cw ct ch cn r h s kind rights w hr hz hg j t h1 h2 h3
  · rw [e]; exact who_get aw at_ ah an cw ct ch cn r h s kind rights w hr hz hn
end Go.Proofs.YtddgpgldbekamaaGreat
