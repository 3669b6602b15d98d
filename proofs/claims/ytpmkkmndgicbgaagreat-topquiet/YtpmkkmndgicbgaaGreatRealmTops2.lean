/- What the statements on a realm ask, on plain data: dropped, revoked, quiet, nobody gets more, each at one place. -/
import Derived.Test.YtpmkkmndgicbgaaGreatRealmTops
set_option linter.unusedVariables false
set_option linter.unnecessarySimpa false
namespace Go.Proofs.YtpmkkmndgicbgaaGreat
open Go.RowKit

/-! ### What is held stays, behind a sweep -/
theorem cnt_two {α : Type} (p : α → Bool) : ∀ {l : List α} {i j : Nat} {x y : α}, i < j → l[i]? = some x → l[j]? = some y → p x = true → p y = true → 2 ≤ l.countP p
  | [], i, j, x, y, _, h, _, _, _ => by simp at h
  | z :: l, 0, j + 1, x, y, _, h1, h2, p1, p2 => by
    have : z = x := by simpa using h1
    subst this
    have h3 : 0 < l.countP p := List.countP_pos_iff.2 ⟨y, List.mem_of_getElem? (by simpa using h2), p2⟩
    rw [List.countP_cons, if_pos p1]
    omega
  | z :: l, i + 1, j + 1, x, y, hlt, h1, h2, p1, p2 => by
    have := cnt_two p (l := l) (i := i) (j := j) (x := x) (y := y) (by omega) (by simpa using h1) (by simpa using h2) p1 p2
    rw [List.countP_cons]
    omega
theorem held_one {r : Rm} (one : ∀ x ∈ r.ws, cnt r.hs r.ns x.id = 1) {x : Wr} (hx : x ∈ r.ws) {a b : Hd} (ha : a ∈ r.hs) (hb : b ∈ r.hs) (ea : a.writ = x.id) (eb : b.writ = x.id) : a = b := by
  obtain ⟨i, hi⟩ := List.mem_iff_getElem?.1 ha
  obtain ⟨j, hj⟩ := List.mem_iff_getElem?.1 hb
  have h1 := one x hx
  unfold cnt at h1
  rcases Nat.lt_trichotomy i j with hlt | heq | hgt
  · have := cnt_two (fun y : Hd => y.writ == x.id) hlt hi hj (by simpa using ea) (by simpa using eb); omega
  · subst heq; rw [hi] at hj; exact Option.some.inj hj
  · have := cnt_two (fun y : Hd => y.writ == x.id) hgt hj hi (by simpa using eb) (by simpa using ea); omega
theorem held_note {r : Rm} (one : ∀ x ∈ r.ws, cnt r.hs r.ns x.id = 1) {x : Wr} (hx : x ∈ r.ws) {a : Hd} (ha : a ∈ r.hs) (ea : a.writ = x.id) : ∀ n ∈ r.ns, n.writ ≠ x.id := by
  intro n hn e
  have h1 := one x hx
  unfold cnt at h1
  have h2 : 0 < r.hs.countP (fun y => y.writ == x.id) := List.countP_pos_iff.2 ⟨a, ha, by simpa using ea⟩
  have h3 : 0 < r.ns.countP (fun y => y.writ == x.id) := List.countP_pos_iff.2 ⟨n, hn, by simpa using e⟩
  omega
theorem at_filterP {l : List Hd} (hg : Good l) (q : Hd → Bool) (h s : Int) : atP (l.filter q) h s = if q ⟨h, s, atP l h s⟩ = true then atP l h s else 0 := by
  have hg' := good_filter hg q
  by_cases h0 : atP l h s = 0
  · rw [h0]
    have : atP (l.filter q) h s = 0 := by
      by_cases h1 : atP (l.filter q) h s = 0
      · exact h1
      · have := (List.mem_filter.1 (at_mem h1)).1
        have := at_of_mem hg this
        dsimp only at this
        rw [h0] at this; exact this.symm
    rw [this]; split <;> rfl
  · split
    · rename_i hq
      exact at_of_mem hg' (x := ⟨h, s, atP l h s⟩) (List.mem_filter.2 ⟨at_mem h0, hq⟩)
    · rename_i hq
      by_cases h1 : atP (l.filter q) h s = 0
      · exact h1
      · obtain ⟨h2, h3⟩ := List.mem_filter.1 (at_mem h1)
        have := at_of_mem hg h2
        dsimp only at this
        rw [this] at hq
        exact absurd h3 hq
/-- the values that writs were made of come from those ahead -/
def FrmIn (ws ws' : List Wr) : Prop := ∀ z ∈ ws', ∃ x ∈ ws, z.frm = x.frm
theorem frm_without {l : List Wr} (id : Int) : FrmIn l (withoutL l id) := by
  intro z hz
  unfold withoutL at hz
  obtain ⟨x, hx, hne, rfl⟩ := wo_mem.1 hz
  unfold woG
  split
  · rename_i he
    show ∃ y ∈ l, woFrom l id = y.frm
    unfold woFrom
    split
    · exact ⟨x, hx, he.symm⟩
    · split
      · exact ⟨x, hx, he.symm⟩
      · rename_i y hy
        exact ⟨y, List.mem_of_getElem? hy, rfl⟩
  · exact ⟨x, hx, rfl⟩
theorem FrmIn.trans {a b c : List Wr} (h : FrmIn a b) (h' : FrmIn b c) : FrmIn a c := by
  intro z hz
  obtain ⟨y, hy, e⟩ := h' z hz
  obtain ⟨x, hx, e'⟩ := h y hy
  exact ⟨x, hx, e.trans e'⟩
theorem frm_woAll (ns : List Nt) : ∀ ws : List Wr, FrmIn ws (woAll ws ns) := by
  induction ns with
  | nil => intro ws z hz; exact ⟨z, hz, rfl⟩
  | cons n r ih => intro ws; exact (frm_without n.writ).trans (ih (withoutL ws n.writ))
theorem frm_sweep : ∀ (f : Nat) (ws : List Wr) (ns : List Nt), FrmIn ws (sweepN f ws ns).1
  | 0, ws, ns => fun z hz => ⟨z, hz, rfl⟩
  | f + 1, ws, ns => by
    unfold sweepN
    split
    · exact fun z hz => ⟨z, hz, rfl⟩
    · exact (frm_woAll _ ws).trans (frm_sweep f _ _)
/-- the same writ, but of what it was made -/
def Like (z x : Wr) : Prop := z.id = x.id ∧ z.thing = x.thing ∧ z.rights = x.rights ∧ z.badge = x.badge
theorem sweep_sw {r : Rm} (h : Pre r) : SwN r.hs r.ws r.ns (sweepR r).ws (sweepN (r.ns.length + 1) r.ws r.ns).2 := (sweepN_sw r.hs (r.ns.length + 1) r.ws r.ns h.gw h.one (by omega)).1
theorem sweep_held {r : Rm} (h : Pre r) {x : Wr} (hx : x ∈ r.ws) {a : Hd} (ha : a ∈ r.hs) (ea : a.writ = x.id) :
    getC (sweepR r) a.holder a.slot = 0 ∧ Like (getW (sweepR r) a.holder a.slot) x ∧ getW (sweepR r) a.holder a.slot ∈ (sweepR r).ws ∧ atP (sweepR r).hs a.holder a.slot = x.id := by
  have hW := sweep_whole h
  obtain ⟨z, hz, e⟩ := (sweep_sw h).keep x hx (held_note h.one hx ha ea)
  have h1 := at_of_mem h.gh ha
  have hat : atP (sweepR r).hs a.holder a.slot = x.id := by
    show atP (r.hs.filter (fun h => decide (0 ≤ find (sweepR r).ws h.writ))) a.holder a.slot = x.id
    rw [at_filterP h.gh, h1, ea, if_pos (decide_eq_true (find_pos_iff.2 ⟨z, hz, e.1⟩))]
  obtain ⟨g1, g2⟩ := getC_of hW.gw.2.1 (good_mem h.gh ha).1 hz (e.1.trans hat.symm)
  rw [g2]
  exact ⟨g1, e, hz, hat⟩
theorem drop_pre {r : Rm} (h : Whole r) (a b : Int) : Pre ⟨withoutL r.ws (getW r a b).id, r.ts, r.hs, r.ns, r.nw, r.nt⟩ := by
  refine ⟨wo_good h.gw _, h.gh, h.nw, h.nt, ?_, h.lt, ?_, h.tp, ?_, h.tl, h.tk, h.np, h.nl⟩
  · intro z hz
    obtain ⟨x, hx, _, e, _⟩ := wo_mem' hz
    rw [e]; exact h.lw x hx
  · intro z hz
    obtain ⟨x, hx, _, e, _⟩ := wo_mem' hz
    rw [e]; exact h.one x hx
  · intro z hz
    obtain ⟨x, hx, _, _, e, _⟩ := wo_mem' hz
    rw [e]; exact h.wof x hx
theorem revoke_pre {r : Rm} (h : Whole r) (a b : Int) : Pre ⟨r.ws.filter (fun x => !inB (beneathL r.ws (getW r a b).id) x.id), r.ts, r.hs, r.ns, r.nw, r.nt⟩ :=
  ⟨good_beneath h.gw _, h.gh, h.nw, h.nt, fun x hx => h.lw x (List.mem_filter.1 hx).1, h.lt, fun x hx => h.one x (List.mem_filter.1 hx).1, h.tp, fun x hx => h.wof x (List.mem_filter.1 hx).1, h.tl, h.tk, h.np, h.nl⟩
/-- dropped (E5) -/
theorem top_drop {r : Rm} {h s : Int} (hW : Whole r) (hc : getC r h s = 0) : find (dropR r h s).ws (getW r h s).id < 0 ∧ atP (dropR r h s).hs h s = 0 ∧
    ∀ a ∈ r.hs, ¬ (a.holder = h ∧ a.slot = s) → getC r a.holder a.slot = 0 ∧ getC (dropR r h s) a.holder a.slot = 0 ∧ Like (getW r a.holder a.slot) (getW (dropR r h s) a.holder a.slot) := by
  have hP := drop_pre hW h s
  have hno : ¬ idIn (dropR r h s).ws (getW r h s).id := by
    rintro ⟨z, hz, e⟩
    obtain ⟨y, hy, e1, _⟩ := (sweep_sw hP).sub z hz
    obtain ⟨x, hx, hne, e2, _⟩ := wo_mem' hy
    exact hne (by rw [← e2, ← e1, e])
  refine ⟨find_neg_iff.2 hno, ?_, ?_⟩
  · show atP (r.hs.filter (fun y => decide (0 ≤ find (dropR r h s).ws y.writ))) h s = 0
    rw [at_filterP hW.gh, if_neg]
    intro hh
    have := find_pos_iff.1 (of_decide_eq_true hh)
    rw [getW_id hc] at hno
    exact hno this
  · intro a ha hne
    obtain ⟨x, hx, ex⟩ := hW.hin a ha
    have hat := at_of_mem hW.gh ha
    obtain ⟨g1, g2⟩ := getC_of hW.gw.2.1 (good_mem hW.gh ha).1 hx (ex.trans hat.symm)
    have hid : x.id ≠ (getW r h s).id := by
      intro e
      have hw := whole_get hW hc
      have h1 := at_mem hw
      have := held_one hW.one hx ha h1 ex.symm (by show atP r.hs h s = x.id; rw [e, getW_id hc])
      subst this
      exact hne ⟨rfl, rfl⟩
    obtain ⟨y, hy, e1, e2, e3, e4⟩ := wo_keep (id := (getW r h s).id) hx hid
    obtain ⟨k1, k2, _, _⟩ := sweep_held hP hy ha (ex.symm.trans e1.symm)
    refine ⟨g1, k1, ?_⟩
    rw [g2]
    exact ⟨(k2.1.trans e1).symm, (k2.2.1.trans e2).symm, (k2.2.2.1.trans e3).symm, (k2.2.2.2.trans e4).symm⟩
theorem bn_nil {l : List Wr} {a : Int} (h : ∀ z ∈ l, ¬ z.frm = a) : beneathL l a = [] := by
  unfold beneathL
  induction l with
  | nil => rfl
  | cons x l ih =>
    rw [List.foldl_cons]
    have : bnStep a [] x = [] := by
      unfold bnStep
      rw [if_neg]
      rintro ⟨_, h1 | h1⟩
      · exact h x List.mem_cons_self h1
      · simp at h1
    rw [this]
    exact ih (fun z hz => h z (List.mem_cons_of_mem _ hz))
theorem inB_iff {l : List Int} {a : Int} : inB l a = true ↔ a ∈ l := by simp [inB]
/-- revoked (E5) -/
theorem top_revoke {r : Rm} {h s : Int} (hW : Whole r) (hc : getC r h s = 0) : beneathL (revokeR r h s).ws (getW r h s).id = [] ∧
    (∀ g ∈ beneathL r.ws (getW r h s).id, ¬ idIn (revokeR r h s).ws g ∧ (∀ a ∈ (revokeR r h s).hs, a.writ ≠ g) ∧ ∀ n ∈ (revokeR r h s).ns, n.writ ≠ g) ∧
    (∀ a ∈ r.hs, inB (beneathL r.ws (getW r h s).id) a.writ = false → atP (revokeR r h s).hs a.holder a.slot = a.writ) := by
  have hP := revoke_pre hW h s
  have hR := whole_revoke hW h s
  have hw1 := (hW.gw.1 _ (getW_mem hc)).1
  refine ⟨bn_nil ?_, ?_, ?_⟩
  · intro z hz e
    obtain ⟨y, hy, e1⟩ := frm_sweep (r.ns.length + 1) _ r.ns z hz
    obtain ⟨hy1, hy2⟩ := List.mem_filter.1 hy
    have hf : y.frm = (getW r h s).id := e1.symm.trans e
    have := (bn_iff hW.gw (getW r h s).id hy1).2 ⟨by omega, .inl hf⟩
    rw [inB_iff.2 this] at hy2
    simp at hy2
  · intro g hg
    have hno : ¬ idIn (revokeR r h s).ws g := by
      rintro ⟨z, hz, e⟩
      obtain ⟨y, hy, e1, _⟩ := (sweep_sw hP).sub z hz
      obtain ⟨hy1, hy2⟩ := List.mem_filter.1 hy
      rw [← e1, e, inB_iff.2 hg] at hy2
      simp at hy2
    refine ⟨hno, ?_, ?_⟩
    · intro a ha e
      have := hR.hin a ha
      rw [e] at this
      exact hno this
    · intro n hn e
      rcases hR.nin n hn with e' | e'
      · rcases bn_from _ _ _ _ hg with h1 | ⟨x, hx, ex⟩
        · cases h1
        · have := (hW.gw.1 x hx).1
          omega
      · rw [e] at e'
        exact hno e'
  · intro a ha hn
    obtain ⟨x, hx, ex⟩ := hW.hin a ha
    have hx' : x ∈ r.ws.filter (fun x => !inB (beneathL r.ws (getW r h s).id) x.id) := List.mem_filter.2 ⟨hx, by rw [ex, hn]; rfl⟩
    have := (sweep_held hP hx' ha ex.symm).2.2.2
    rw [ex] at this
    exact this
theorem not_self {l : List Wr} (hg : GoodW l) {x : Wr} (hx : x ∈ l) : ¬ x.id ∈ beneathL l x.id := by
  intro h
  have h1 := (abv_beneath hg x.id (above_abv hg hx) hx).1 h
  have := abv_lt hg (above_abv hg hx) hx _ h1
  omega
/-- who made it takes it back (E5) -/
theorem top_owner {r : Rm} {h s : Int} (hW : Whole r) (hc : getC r h s = 0) : idIn (revokeR r h s).ws (getW r h s).id ∧
    ∀ v ∈ (revokeR r h s).ws, (aboveL (revokeR r h s).ws v.id = [] → v.frm = 0) ∧ ¬ (getW r h s).id ∈ aboveL (revokeR r h s).ws v.id := by
  have hP := revoke_pre hW h s
  have hR := whole_revoke hW h s
  obtain ⟨t1, _, _⟩ := top_revoke hW hc
  have hm := getW_mem hc
  refine ⟨?_, ?_⟩
  · have hx' : getW r h s ∈ r.ws.filter (fun x => !inB (beneathL r.ws (getW r h s).id) x.id) := List.mem_filter.2 ⟨hm, by
      cases hh : inB (beneathL r.ws (getW r h s).id) (getW r h s).id with
      | false => rfl
      | true => exact absurd (inB_iff.1 hh) (not_self hW.gw hm)⟩
    obtain ⟨k1, k2, k3, _⟩ := sweep_held hP hx' (at_mem (whole_get hW hc)) (getW_id hc).symm
    exact ⟨_, k3, k2.1⟩
  · intro v hv
    have ha := above_abv hR.gw hv
    refine ⟨?_, ?_⟩
    · intro e
      rw [e] at ha
      cases ha
      assumption
    · intro hin
      have := (abv_beneath hR.gw (getW r h s).id ha hv).2 hin
      rw [t1] at this
      cases this
/-- nobody gets more: each has no right that one above it hasn't (C3) -/
theorem abv_cf {l : List Wr} (hg : GoodW l) {x : Wr} {L : List Int} (h : Abv l x L) : x ∈ l → ∀ a ∈ L, ∃ y ∈ l, y.id = a ∧ cfOf x y = 0 := by
  induction h with
  | nil => intro _ a ha; cases ha
  | cons hf hy he _ ih =>
    rename_i x y L _
    intro hx a ha
    have hc : cfOf x y = 0 := by
      rcases hg.2.2 x hx with e | ⟨z, hz, e1, e2⟩
      · exact absurd e hf
      · rw [uniqW hg.2.1 hy hz (he.trans e1.symm)]; exact e2
    rcases List.mem_cons.1 ha with rfl | ha
    · exact ⟨y, hy, he, hc⟩
    · obtain ⟨z, hz, e1, e2⟩ := ih hy a ha
      exact ⟨z, hz, e1, cfOf_trans (hg.1 y hy) (hg.1 z hz) hc e2⟩
theorem top_nomore {l : List Wr} (hg : GoodW l) {x : Wr} (hx : x ∈ l) {a : Int} (ha : a ∈ aboveL l x.id) : ∃ (j : Nat) (y : Wr), find l a = (j : Int) ∧ l[j]? = some y ∧ hasB y.rights x.rights = true ∧ y.thing = x.thing ∧ (y.badge = 0 ∨ y.badge = x.badge) := by
  obtain ⟨y, hy, e1, e2⟩ := abv_cf hg (above_abv hg hx) hx a ha
  obtain ⟨j, hj⟩ := find_mem hy e1
  obtain ⟨z, hz, e3⟩ := find_get hj
  have : z = y := uniqW hg.2.1 (List.mem_of_getElem? hz) hy (e3.trans e1.symm)
  subst this
  obtain ⟨⟨_, _, _, _, h5⟩, h6, h7⟩ := cfOf_zero e2
  exact ⟨j, z, hj, hz, h5, h6, h7⟩
/-- things are just those of writs (C4, E4) -/
theorem th_mem999 {r : Rm} (hW : Whole r) (t : Int) : t ∈ thUp r.ws 999 ↔ ∃ x ∈ r.ws, x.thing = t := by
  rw [thUp_mem]
  constructor
  · rintro ⟨_, _, h⟩; exact h
  · rintro ⟨x, hx, e⟩
    have := hW.gw.1 x hx
    exact ⟨by rw [← e]; exact this.2.2.1, by rw [← e]; have h2 := this.2.2.2.1; omega, x, hx, e⟩
theorem things_of_good {l : List Wr} (hg : GoodW l) : thingsL l = thUp l 999 := things_eq (fun x hx => ⟨(hg.1 x hx).2.2.1, (hg.1 x hx).2.2.2.1⟩)
theorem top_things {r : Rm} (hW : Whole r) : r.ts.map (·.id) = thingsL r.ws := by
  rw [things_of_good hW.gw]
  refine pair_ext (ids_pair.1 hW.tp) (thUp_pair _ _) (fun t => ?_)
  rw [th_mem999 hW, List.mem_map]
  constructor
  · rintro ⟨x, hx, rfl⟩; exact hW.tof x hx
  · rintro ⟨y, hy, rfl⟩
    obtain ⟨x, hx, e⟩ := hW.wof y hy
    exact ⟨x, hx, e⟩
/-! ### Quiet (E6) -/
theorem len_bij : ∀ {a : List Int} {b : List Int}, a.Nodup → (∀ x ∈ a, b.count x = 1) → (∀ y ∈ b, y ∈ a) → b.length = a.length
  | [], b, _, _, h => by
    cases b with
    | nil => rfl
    | cons y b => exact absurd (h y List.mem_cons_self) (by simp)
  | x :: a, b, hn, h1, h2 => by
    have hx := h1 x List.mem_cons_self
    have hm : x ∈ b := List.count_pos_iff.1 (by omega)
    have hl := List.length_erase_of_mem hm
    have hpos : 0 < b.length := List.length_pos_of_mem hm
    rw [List.nodup_cons] at hn
    have ih := len_bij (a := a) (b := b.erase x) hn.2 (fun y hy => by
      have hne : y ≠ x := fun e => hn.1 (e ▸ hy)
      rw [List.count_erase_of_ne hne]
      exact h1 y (List.mem_cons_of_mem _ hy)) (fun y hy => by
      have hy' := List.mem_of_mem_erase hy
      rcases List.mem_cons.1 (h2 y hy') with e | e
      · subst e
        have h3 : (b.erase y).count y = 0 := by rw [List.count_erase_self]; omega
        exact absurd (List.count_pos_iff.2 hy) (by omega)
      · exact e)
    rw [List.length_cons]
    omega
theorem top_quiet {r : Rm} (hW : Whole r) : (quietR r).ns = [] ∧ (quietR r).hs = r.hs ∧ (quietR r).hs.length = (quietR r).ws.length ∧ quietR (quietR r) = quietR r := by
  have hQ := whole_quiet hW
  have hns : (quietR r).ns = [] := rfl
  have hws : (quietR r).ws = woAll r.ws r.ns := rfl
  refine ⟨hns, ?_, ?_, ?_⟩
  · show r.hs.filter (fun y => decide (0 ≤ find (woAll r.ws r.ns) y.writ)) = r.hs
    rw [List.filter_eq_self]
    intro a ha
    obtain ⟨x, hx, e⟩ := hW.hin a ha
    obtain ⟨z, hz, e1, _⟩ := woAll_keep r.ns hx (held_note hW.one hx ha e.symm)
    exact decide_eq_true (find_pos_iff.2 ⟨z, hz, e1.trans e⟩)
  · have h1 : ((quietR r).ws.map (·.id)).Nodup := by
      have := hQ.gw.2.1
      rw [List.Nodup, List.pairwise_map]
      exact this.imp (fun h => by omega)
    have := len_bij (b := (quietR r).hs.map (·.writ)) h1 (fun y hy => by
      obtain ⟨x, hx, rfl⟩ := List.mem_map.1 hy
      have h2 := hQ.one x hx
      unfold cnt at h2
      rw [hns, List.countP_nil, Nat.add_zero] at h2
      rw [List.count, List.countP_map]
      exact h2) (fun y hy => by
      obtain ⟨a, ha, rfl⟩ := List.mem_map.1 hy
      obtain ⟨x, hx, e⟩ := hQ.hin a ha
      exact List.mem_map.2 ⟨x, hx, e⟩)
    simpa using this
  · have : quietR (quietR r) = sweepR (quietR r) := by
      unfold quietR
      congr 1
    rw [this, sweep_id hQ]
end Go.Proofs.YtpmkkmndgicbgaaGreat
