/- What the statements on a realm ask, on plain data: moved, given, written, made, dropped, revoked, quiet. -/
import Derived.Test.YtpmkkmndgicbgaaGreatRealmActs
set_option linter.unusedVariables false
set_option linter.unnecessarySimpa false
namespace Go.Proofs.YtpmkkmndgicbgaaGreat
open Go.RowKit

theorem Rm.ext6 {x y : Rm} (h1 : x.ws = y.ws) (h2 : x.ts = y.ts) (h3 : x.hs = y.hs) (h4 : x.ns = y.ns) (h5 : x.nw = y.nw) (h6 : x.nt = y.nt) : x = y := by cases x; cases y; simp_all
theorem freeC_of {r : Rm} {h s : Int} (hp : plOk h s) (h0 : atP r.hs h s = 0) : freeC r h s = 0 := by unfold freeC; rw [if_pos hp, if_pos h0]
/-- moved (E3): it is the same writ at the other place, none at the first, and moved back all is as it was -/
theorem top_move {r : Rm} {h s t : Int} (hW : Whole r) (hc : moveC r h s t = 0) : getC r h s = 0 ∧ getC (moveR r h s t) h t = 0 ∧ getW (moveR r h s t) h t = getW r h s ∧ getC (moveR r h s t) h s = 5 ∧ moveC (moveR r h s t) h t s = 0 ∧ moveR (moveR r h s t) h t s = r := by
  obtain ⟨hg, hf⟩ := move_facts hc
  obtain ⟨hp2, h0⟩ := freeC_pl hf
  have hp1 := getC_pl hg
  have hne := whole_get hW hg
  have hid := getW_id hg
  have hts : ¬ (h = h ∧ t = s) := fun e => by rw [e.2] at h0; exact hne h0
  have hst : ¬ (h = h ∧ s = t) := fun e => hts ⟨rfl, e.2.symm⟩
  have at1 : atP (moveR r h s t).hs h t = (getW r h s).id := at_put_same _ _ _ _
  have at2 : atP (moveR r h s t).hs h s = 0 := by
    show atP (putL (putL r.hs h s 0) h t _) h s = 0
    rw [at_put_other _ _ _ _ _ _ hst, at_put_same]
  obtain ⟨g1, g2⟩ := getC_of (r := moveR r h s t) (x := getW r h s) hW.gw.2.1 hp2 (getW_mem (r := r) hg) at1.symm
  have g3 : getC (moveR r h s t) h s = 5 := getC_no hp1 (by
    rw [at2]
    rintro ⟨x, hx, e⟩
    have := (hW.gw.1 x hx).1
    omega)
  have mc : moveC (moveR r h s t) h t s = 0 := by
    unfold moveC
    rw [if_neg (by simp [g1])]
    exact freeC_of hp1 at2
  refine ⟨hg, g1, g2, g3, mc, Rm.ext6 rfl rfl ?_ rfl rfl rfl⟩
  show putL (putL (moveR r h s t).hs h t 0) h s (getW (moveR r h s t) h t).id = r.hs
  rw [g2]
  refine good_ext (good_put (good_put (whole_move hW hc).gh hp2) hp1) hW.gh (fun g u => ?_)
  by_cases e1 : g = h ∧ u = s
  · rw [e1.1, e1.2, at_put_same, hid]
  · rw [at_put_other _ _ _ _ _ _ e1]
    by_cases e2 : g = h ∧ u = t
    · rw [e2.1, e2.2, at_put_same, h0]
    · rw [at_put_other _ _ _ _ _ _ e2]
      show atP (putL (putL r.hs h s 0) h t _) g u = _
      rw [at_put_other _ _ _ _ _ _ e2, at_put_other _ _ _ _ _ _ e1]
theorem hasB_self8 : ∀ a : Fin 8, hasB (a.val : Int) (a.val : Int) = true := by decide
/-- given (E3) -/
theorem top_grant {r : Rm} {h s g t rights badge : Int} (hW : Whole r) (hc : giveC r h s g t rights badge = 0) : getC r h s = 0 ∧ getC (giveR r h s g t rights badge) g t = 0 ∧ getW (giveR r h s g t rights badge) g t = drvW (getW r h s) r.nw rights badge ∧
    hasB (getW r h s).rights rights = true ∧ (h = g ∨ hasB (getW r h s).rights 4 = true) ∧ inB (beneathL (giveR r h s g t rights badge).ws (getW r h s).id) r.nw = true := by
  obtain ⟨hg, hf, hgr, hn, hd⟩ := give_facts hc
  obtain ⟨hp, h0⟩ := freeC_pl hf
  have hnw := hW.nw
  have hW' := whole_give hW hc
  have hm : drvW (getW r h s) r.nw rights badge ∈ (giveR r h s g t rights badge).ws := List.mem_append_right _ (List.mem_singleton.2 rfl)
  have at1 : atP (giveR r h s g t rights badge).hs g t = r.nw := at_put_same _ _ _ _
  obtain ⟨g1, g2⟩ := getC_of (r := giveR r h s g t rights badge) hW'.gw.2.1 hp hm at1.symm
  refine ⟨hg, g1, g2, (drvCode_zero hd).2.2.2.2, hgr.imp Eq.symm id, ?_⟩
  have hfr : ¬ (drvW (getW r h s) r.nw rights badge).frm = 0 := by
    have := (hW.gw.1 _ (getW_mem hg)).1
    show ¬ (getW r h s).id = 0
    omega
  have := (bn_iff hW'.gw (getW r h s).id hm).2 ⟨hfr, .inl rfl⟩
  have e : (drvW (getW r h s) r.nw rights badge).id = r.nw := rfl
  rw [e] at this
  simpa [inB] using this
/-! ### A cell -/
theorem setD_find {t : Int} {d : ByteArray} {u : Int} : ∀ l : List Th, (setD t d l).find? (thIs u) = (l.find? (thIs u)).map (fun x => if u = t then ⟨x.id, x.kind, d⟩ else x)
  | [] => rfl
  | x :: l => by
    have ih := setD_find (t := t) (d := d) (u := u) l
    unfold setD
    split
    · rename_i e
      by_cases hx : x.id = u
      · have h1 : thIs u x = true := by simp [thIs, hx]
        have h2 : thIs u (⟨x.id, x.kind, d⟩ : Th) = true := by simp [thIs, hx]
        rw [List.find?_cons_of_pos h2, List.find?_cons_of_pos h1]
        simp [hx.symm.trans e]
      · have h1 : ¬ thIs u x = true := by simp [thIs, hx]
        have h2 : ¬ thIs u (⟨x.id, x.kind, d⟩ : Th) = true := by simp [thIs, hx]
        have hut : ¬ u = t := fun e' => hx (e.trans e'.symm)
        rw [List.find?_cons_of_neg h2, List.find?_cons_of_neg h1]
        simp [hut]
    · rename_i e
      by_cases hx : x.id = u
      · have h1 : thIs u x = true := by simp [thIs, hx]
        have hut : ¬ u = t := fun e' => e (hx.trans e')
        rw [List.find?_cons_of_pos h1, List.find?_cons_of_pos h1]
        simp [hut]
      · have h1 : ¬ thIs u x = true := by simp [thIs, hx]
        rw [List.find?_cons_of_neg h1, List.find?_cons_of_neg h1]
        exact ih
theorem writeR_get (r : Rm) (h s : Int) (d : ByteArray) (g t : Int) : getC (writeR r h s d) g t = getC r g t ∧ getW (writeR r h s d) g t = getW r g t := ⟨rfl, rfl⟩
theorem writeR_who (r : Rm) (h s : Int) (d : ByteArray) (g t kind rights : Int) : whoC (writeR r h s d) g t kind rights = whoC r g t kind rights := by
  have hk : kindIs (writeR r h s d) (getW r g t).thing kind = kindIs r (getW r g t).thing kind := by
    unfold kindIs
    show (match (setD (getW r h s).thing d r.ts).find? (thIs (getW r g t).thing) with | some x => x.kind == kind | none => false) = _
    rw [setD_find]
    cases r.ts.find? (thIs (getW r g t).thing) with
    | none => rfl
    | some x => simp only [Option.map_some]; split <;> rfl
  unfold whoC
  rw [(writeR_get r h s d g t).1, (writeR_get r h s d g t).2, hk]
theorem writeR_read {r : Rm} {h s : Int} {d : ByteArray} {g t : Int} (hc : whoC r g t 1 1 = 0) : readD (writeR r h s d) g t = if (getW r h s).thing = (getW r g t).thing then d else readD r g t := by
  obtain ⟨_, ⟨x, hx, e1, e2, e3⟩, _⟩ := who_facts hc
  unfold readD
  show (match (setD (getW r h s).thing d r.ts).find? (thIs (getW r g t).thing) with | some x => x.data | none => ByteArray.empty) = _
  rw [setD_find, e3]
  simp only [Option.map_some]
  by_cases e : (getW r h s).thing = (getW r g t).thing
  · rw [if_pos e, if_pos e.symm]
  · rw [if_neg e, if_neg (fun e' => e e'.symm)]
/-! ### Made, and dropped -/
theorem find_app_old {l : List Wr} {x : Wr} {id : Int} (h : ¬ x.id = id) : idIn (l ++ [x]) id ↔ idIn l id := by
  constructor
  · rintro ⟨y, hy, e⟩
    rcases List.mem_append.1 hy with hy | hy
    · exact ⟨y, hy, e⟩
    · rw [List.mem_singleton.1 hy] at e; exact absurd e h
  · exact idIn_app
theorem wo_new {l : List Wr} {x : Wr} (hf : ∀ y ∈ l, y.id ≠ x.id ∧ y.frm ≠ x.id) : withoutL (l ++ [x]) x.id = l := by
  unfold withoutL
  generalize woFrom (l ++ [x]) x.id = f
  rw [List.flatMap_append]
  have h1 : [x].flatMap (woStep x.id f) = [] := by simp [woStep]
  rw [h1, List.append_nil]
  induction l with
  | nil => rfl
  | cons y l ih =>
    obtain ⟨e1, e2⟩ := hf y List.mem_cons_self
    rw [List.flatMap_cons, ih (fun z hz => hf z (List.mem_cons_of_mem _ hz))]
    unfold woStep
    rw [if_neg e1, if_neg e2]
    rfl
theorem make_facts {r : Rm} {h s kind : Int} (hc : makeC r h s kind = 0) : (kind = 1 ∨ kind = 2) ∧ plOk h s ∧ atP r.hs h s = 0 ∧ r.ts.length < 10 ∧ r.nt ≤ 999 ∧ r.nw ≤ 999 := by
  unfold makeC at hc
  split at hc
  · cases hc
  · rename_i hk
    split at hc
    · rename_i hne; exact absurd hc hne
    · rename_i hf
      split at hc
      · cases hc
      · rename_i hx
        obtain ⟨hp, h0⟩ := freeC_pl (r := r) (h := h) (s := s) (by simpa using hf)
        exact ⟨by omega, hp, h0, by omega, by omega, by omega⟩
theorem top_made {r : Rm} {h s kind : Int} (hW : Whole r) (hc : makeC r h s kind = 0) : getC (makeR r h s kind) h s = 0 ∧ getW (makeR r h s kind) h s = ⟨r.nw, r.nt, 7, 0, 0⟩ ∧ (∀ x ∈ r.ws, ¬ x.thing = r.nt) ∧
    dropR (makeR r h s kind) h s = ⟨r.ws, r.ts, r.hs, r.ns, r.nw + 1, r.nt + 1⟩ := by
  obtain ⟨hk, hp, h0, hl, hnt, hnw⟩ := make_facts hc
  have hW' := whole_make hW hc
  have hm : (⟨r.nw, r.nt, 7, 0, 0⟩ : Wr) ∈ (makeR r h s kind).ws := List.mem_append_right _ (List.mem_singleton.2 rfl)
  obtain ⟨g1, g2⟩ := getC_of (r := makeR r h s kind) hW'.gw.2.1 hp hm (at_put_same _ _ _ _).symm
  have hth := things_of hW
  refine ⟨g1, g2, fun x hx e => by have := hth x hx; omega, ?_⟩
  unfold dropR
  rw [g2]
  have hwo : withoutL (makeR r h s kind).ws r.nw = r.ws := wo_new (l := r.ws) (x := ⟨r.nw, r.nt, 7, 0, 0⟩) (fun y hy => by
    have h1 := hW.lw y hy
    have h2 := hW.gw.1 y hy
    obtain ⟨-, -, -, -, -, -, -, h3, -, -⟩ := h2
    exact ⟨by show y.id ≠ r.nw; omega, by show y.frm ≠ r.nw; omega⟩)
  show sweepR ⟨withoutL (makeR r h s kind).ws r.nw, r.ts ++ [⟨r.nt, kind, ByteArray.empty⟩], putL r.hs h s r.nw, r.ns, r.nw + 1, r.nt + 1⟩ = _
  rw [hwo]
  unfold sweepR
  dsimp only
  rw [sweepN_none (whole_lost hW)]
  have e1 : (r.ts ++ [(⟨r.nt, kind, ByteArray.empty⟩ : Th)]).filter (fun t => hasT r.ws t.id) = r.ts := by
    rw [List.filter_append]
    have h1 : r.ts.filter (fun t => hasT r.ws t.id) = r.ts := by
      rw [List.filter_eq_self]; intro x hx; exact hasT_iff.2 (hW.tof x hx)
    have h2 : hasT r.ws r.nt = false := by
      cases hh : hasT r.ws r.nt with
      | false => rfl
      | true =>
        obtain ⟨x, hx, e⟩ := hasT_iff.1 hh
        have := hth x hx
        omega
    rw [h1]
    simp [h2]
  have e2 : (putL r.hs h s r.nw).filter (fun h => decide (0 ≤ find r.ws h.writ)) = r.hs := by
    refine rise_ext ((good_rise (good_put hW.gh hp)).filter _) (good_rise hW.gh) (fun x => ?_)
    rw [List.mem_filter, put_mem]
    constructor
    · rintro ⟨⟨h1, _⟩ | ⟨_, h1⟩, h2⟩
      · exact h1
      · subst h1
        obtain ⟨y, hy, e⟩ := find_pos_iff.1 (of_decide_eq_true h2)
        have := hW.lw y hy
        have e' : y.id = r.nw := e
        omega
    · intro hx
      exact ⟨.inl ⟨hx, at_none hW.gh h0 x hx⟩, decide_eq_true (find_pos_iff.2 (hW.hin x hx))⟩
  have e3 : r.ns.map (forgetN r.ws) = r.ns := by
    conv => rhs; rw [← List.map_id r.ns]
    exact List.map_congr_left (fun n hn => forget_id (hW.nin n hn))
  dsimp only
  rw [e1, e2, e3]
end Go.Proofs.YtpmkkmndgicbgaaGreat
