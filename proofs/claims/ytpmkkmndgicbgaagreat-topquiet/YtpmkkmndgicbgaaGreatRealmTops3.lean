/- What the statements on a realm ask, on plain data: notes are taken in order; who is not given anything gets nothing. -/
import Derived.Test.YtpmkkmndgicbgaaGreatRealmTops2
set_option linter.unusedVariables false
set_option linter.unnecessarySimpa false
namespace Go.Proofs.YtpmkkmndgicbgaaGreat
open Go.RowKit

/-! ### Notes (E8, E9) -/
theorem idxFrom_filter {α : Type} {p : α → Bool} : ∀ {l : List α} {k : Nat} {n : α} {L : List α}, l.filter p = n :: L → ∃ j : Nat, idxFrom p l k = ((k + j : Nat) : Int) ∧ l.find? p = some n ∧ (l.eraseIdx j).filter p = L
  | [], k, n, L, h => by simp at h
  | x :: l, k, n, L, h => by
    cases hp : p x with
    | true =>
      rw [List.filter_cons_of_pos hp] at h
      injection h with h1 h2
      subst h1
      exact ⟨0, by simp [idxFrom, hp], by rw [List.find?_cons_of_pos hp], by simpa using h2⟩
    | false =>
      rw [List.filter_cons_of_neg (by simp [hp])] at h
      obtain ⟨j, h1, h2, h3⟩ := idxFrom_filter (k := k + 1) h
      refine ⟨j + 1, by simp [idxFrom, hp, h1]; omega, by rw [List.find?_cons_of_neg (by simp [hp])]; exact h2, ?_⟩
      rw [List.eraseIdx_cons_succ, List.filter_cons_of_neg (by simp [hp])]
      exact h3
theorem idx_filter {α : Type} {p : α → Bool} {l : List α} {n : α} {L : List α} (h : l.filter p = n :: L) : ∃ j : Nat, idx p l = (j : Int) ∧ l.find? p = some n ∧ (l.eraseIdx j).filter p = L := by
  obtain ⟨j, h1, h2, h3⟩ := idxFrom_filter (k := 0) h
  exact ⟨j, by unfold idx; rw [h1]; simp, h2, h3⟩
/-- the realm while notes are taken -/
structure NInv (v : Wr) (g t : Int) (ws : List Wr) (ts : List Th) (L : List Nt) (x : Rm) : Prop where
  W : Whole x
  ws : x.ws = ws
  ts : x.ts = ts
  get : getC x g t = 0
  getw : getW x g t = v
  wait : waitL x v.thing = L
  kind : kindIs x v.thing 2 = true
theorem take_code {v : Wr} {g t : Int} {ws : List Wr} {ts : List Th} {n : Nt} {L : List Nt} {x : Rm} (h : NInv v g t ws ts (n :: L) x) :
    noteAt x g t = n ∧ (hasB v.rights 1 = false ∧ takeC x g t = 7 ∨ hasB v.rights 1 = true ∧ n.writ ≠ 0 ∧ freeP x.hs g < 0 ∧ takeC x g t = 9 ∨ hasB v.rights 1 = true ∧ takeC x g t = 0) := by
  obtain ⟨j, h1, h2, h3⟩ := idx_filter h.wait
  have hn : noteAt x g t = n := by unfold noteAt; rw [h.getw, h2]
  refine ⟨hn, ?_⟩
  have hw : whoC x g t 2 1 = if hasB v.rights 1 = false then 7 else 0 := by
    unfold whoC
    rw [if_neg (by simp [h.get]), h.getw, if_neg (by simp [h.kind])]
  unfold takeC
  rw [hw, hn, h.getw, h2]
  cases hb : hasB v.rights 1 with
  | false => exact .inl ⟨rfl, by simp⟩
  | true =>
    right
    by_cases e : ¬ n.writ = 0 ∧ freeP x.hs g < 0
    · exact .inl ⟨rfl, e.1, e.2, by simp [e]⟩
    · refine .inr ⟨rfl, ?_⟩
      rw [if_neg (by simp), if_neg (by simp), if_neg e]
theorem getC_keep {x : Rm} (hW : Whole x) {g t a b id : Int} (hc : getC x g t = 0) (h0 : atP x.hs a b = 0) (hs : List Hd) (hh : hs = x.hs ∨ hs = putL x.hs a b id) (ns : List Nt) :
    getC ⟨x.ws, x.ts, hs, ns, x.nw, x.nt⟩ g t = 0 ∧ getW ⟨x.ws, x.ts, hs, ns, x.nw, x.nt⟩ g t = getW x g t := by
  have hne := whole_get hW hc
  have hat : atP hs g t = atP x.hs g t := by
    rcases hh with rfl | rfl
    · rfl
    · exact at_put_other _ _ _ _ _ _ (fun e => by rw [e.1, e.2] at hne; exact hne h0)
  exact getC_of (r := ⟨x.ws, x.ts, hs, ns, x.nw, x.nt⟩) hW.gw.2.1 (getC_pl hc) (getW_mem hc) ((getW_id hc).trans hat.symm)
theorem take_next {v : Wr} {g t : Int} {ws : List Wr} {ts : List Th} {n : Nt} {L : List Nt} {x : Rm} (h : NInv v g t ws ts (n :: L) x) (hc : takeC x g t = 0) :
    NInv v g t ws ts L (takeR x g t) ∧ (n.writ = 0 → takeSlot x g t = -1) ∧ (n.writ ≠ 0 → 0 ≤ takeSlot x g t ∧ takeSlot x g t ≤ 5 ∧ getC (takeR x g t) g (takeSlot x g t) = 0 ∧ (getW (takeR x g t) g (takeSlot x g t)).id = n.writ) := by
  obtain ⟨j, h1, h2, h3⟩ := idx_filter h.wait
  have hn : noteAt x g t = n := (take_code h).1
  obtain ⟨hw, _, hwr⟩ := take_facts hc
  have hT := whole_take h.W hc
  have hp := getC_pl h.get
  rw [hn] at hwr
  have hK : NInv v g t ws ts L (takeR x g t) := by
    have hg : getC (takeR x g t) g t = 0 ∧ getW (takeR x g t) g t = getW x g t := by
      unfold takeR
      rw [hn]
      rcases hwr with e | ⟨e, hf⟩
      · rw [if_pos e]
        have h0 : ∃ a b, atP x.hs a b = 0 := ⟨5, 0, by
          by_cases h5 : atP x.hs 5 0 = 0
          · exact h5
          · have := (good_mem h.W.gh (at_mem h5)).1.2.1
            have h54 : (5 : Int) ≤ 4 := this
            omega⟩
        obtain ⟨a, b, h0⟩ := h0
        exact getC_keep (id := 0) h.W h.get h0 x.hs (.inl rfl) _
      · rw [if_neg e]
        rcases free_spec x.hs g with ⟨f1, _⟩ | ⟨m, f1, f2, f3, _⟩
        · omega
        · rw [f1]
          exact getC_keep h.W h.get f3 _ (.inr rfl) _
    refine ⟨hT, h.ws, h.ts, hg.1, hg.2.trans h.getw, ?_, h.kind⟩
    show (x.ns.eraseIdx (idx (atPort (getW x g t).thing) x.ns).toNat).filter (atPort v.thing) = L
    rw [h.getw, h1, Int.toNat_natCast]
    exact h3
  refine ⟨hK, ?_, ?_⟩
  · intro e; unfold takeSlot; rw [hn, if_pos e]
  · intro e
    rcases hwr with e' | ⟨_, hf⟩
    · exact absurd e' e
    rcases free_spec x.hs g with ⟨f1, _⟩ | ⟨m, f1, f2, f3, _⟩
    · omega
    have hs : takeSlot x g t = (m : Int) := by unfold takeSlot; rw [hn, if_neg e, f1]
    rw [hs]
    have hat : atP (takeR x g t).hs g (m : Int) = n.writ := by
      show atP (if (noteAt x g t).writ = 0 then x.hs else putL x.hs g (freeP x.hs g) (noteAt x g t).writ) g (m : Int) = n.writ
      rw [hn, if_neg e, f1, at_put_same]
    have hmem : n ∈ x.ns := List.mem_of_find?_eq_some h2
    obtain ⟨y, hy, ey⟩ := (h.W.nin n hmem).resolve_left e
    obtain ⟨g1, g2⟩ := getC_of (r := takeR x g t) (x := y) hT.gw.2.1 ⟨hp.1, hp.2.1, by omega, by omega⟩ hy (ey.trans hat.symm)
    exact ⟨by omega, by omega, g1, by rw [g2]; exact ey⟩
/-- behind a send, who has a writ of that port begins to take -/
theorem send_begin {r : Rm} {h s : Int} {d : ByteArray} {t rights : Int} (hW : Whole r) (hc : sendC r h s d t rights = 0) {g u : Int} (hg : getC (sendR r h s d t rights) g u = 0) (hth : (getW (sendR r h s d t rights) g u).thing = (getW r h s).thing) :
    NInv (getW (sendR r h s d t rights) g u) g u (sendR r h s d t rights).ws r.ts (waitL r (getW r h s).thing ++ [⟨(getW r h s).thing, d, (getW r h s).badge, if t < 0 then 0 else r.nw⟩]) (sendR r h s d t rights) := by
  obtain ⟨hw, _, _, _⟩ := send_facts hc
  obtain ⟨_, ⟨c, hcm, hci, hck, hcf⟩, _⟩ := who_facts hw
  have hts : (sendR r h s d t rights).ts = r.ts := by unfold sendR; split <;> rfl
  have hns : (sendR r h s d t rights).ns = r.ns ++ [⟨(getW r h s).thing, d, (getW r h s).badge, if t < 0 then 0 else r.nw⟩] := by
    unfold sendR
    split
    · rfl
    · rfl
  refine ⟨whole_send hW hc, rfl, hts, hg, rfl, ?_, ?_⟩
  · unfold waitL
    rw [hns, hth, List.filter_append]
    congr 1
    simp [atPort]
  · unfold kindIs
    rw [hts, hth, hcf]
    simp [hck]
theorem send_tail {r : Rm} {h s : Int} {d : ByteArray} {t rights : Int} (hW : Whole r) (hc : sendC r h s d t rights = 0) (ht : 0 ≤ t) {z : Wr} (hz : z ∈ (sendR r h s d t rights).ws) (hid : z.id = r.nw) :
    getC r h t = 0 ∧ z.thing = (getW r h t).thing ∧ hasB (getW r h t).rights z.rights = true ∧ z.frm = (getW r h t).id := by
  obtain ⟨_, _, _, h1 | ⟨_, _, hgt, hn, hd⟩⟩ := send_facts hc
  · omega
  · have hws : (sendR r h s d t rights).ws = r.ws ++ [drvW (getW r h t) r.nw rights 0] := by unfold sendR; rw [if_neg (by omega)]
    rw [hws] at hz
    rcases List.mem_append.1 hz with hz | hz
    · have := hW.lw z hz; omega
    · rw [List.mem_singleton.1 hz]
      exact ⟨hgt, rfl, (drvCode_zero hd).2.2.2.2, rfl⟩
/-! ### Who is not given anything gets nothing -/
theorem at_sweep {r : Rm} (hg : Good r.hs) (g t : Int) : atP (sweepR r).hs g t = atP r.hs g t ∨ atP (sweepR r).hs g t = 0 := by
  have := at_filterP hg (fun h => decide (0 ≤ find (sweepN (r.ns.length + 1) r.ws r.ns).1 h.writ)) g t
  show atP (r.hs.filter _) g t = _ ∨ atP (r.hs.filter _) g t = 0
  rw [this]
  split
  · exact .inl rfl
  · exact .inr rfl
theorem at_drop {r : Rm} (hW : Whole r) (h s g t : Int) : atP (dropR r h s).hs g t = atP r.hs g t ∨ atP (dropR r h s).hs g t = 0 := at_sweep (r := ⟨withoutL r.ws (getW r h s).id, r.ts, r.hs, r.ns, r.nw, r.nt⟩) hW.gh g t
theorem at_revoke {r : Rm} (hW : Whole r) (h s g t : Int) : atP (revokeR r h s).hs g t = atP r.hs g t ∨ atP (revokeR r h s).hs g t = 0 := at_sweep (r := ⟨r.ws.filter (fun x => !inB (beneathL r.ws (getW r h s).id) x.id), r.ts, r.hs, r.ns, r.nw, r.nt⟩) hW.gh g t
theorem at_make {r : Rm} {h s kind : Int} (hc : makeC r h s kind = 0) (g t : Int) : atP (makeR r h s kind).hs g t = atP r.hs g t ∨ (g = h ∧ t = s ∧ atP r.hs g t = 0) := by
  by_cases e : g = h ∧ t = s
  · exact .inr ⟨e.1, e.2, by rw [e.1, e.2]; exact (make_facts hc).2.2.1⟩
  · exact .inl (at_put_other _ _ _ _ _ _ e)
theorem at_give {r : Rm} {h s a b rights badge : Int} (hc : giveC r h s a b rights badge = 0) (g t : Int) : atP (giveR r h s a b rights badge).hs g t = atP r.hs g t ∨ (g = a ∧ t = b ∧ atP r.hs g t = 0) := by
  by_cases e : g = a ∧ t = b
  · exact .inr ⟨e.1, e.2, by rw [e.1, e.2]; exact (freeC_pl (give_facts hc).2.1).2⟩
  · exact .inl (at_put_other _ _ _ _ _ _ e)
theorem at_move {r : Rm} {h s b : Int} (hc : moveC r h s b = 0) (g t : Int) : atP (moveR r h s b).hs g t = atP r.hs g t ∨ (g = h ∧ t = b ∧ atP r.hs g t = 0) ∨ (g = h ∧ t = s ∧ atP (moveR r h s b).hs g t = 0) := by
  by_cases e : g = h ∧ t = b
  · exact .inr (.inl ⟨e.1, e.2, by rw [e.1, e.2]; exact (freeC_pl (move_facts hc).2).2⟩)
  · have h1 : atP (moveR r h s b).hs g t = atP (putL r.hs h s 0) g t := at_put_other _ _ _ _ _ _ e
    by_cases e2 : g = h ∧ t = s
    · refine .inr (.inr ⟨e2.1, e2.2, ?_⟩)
      rw [h1, e2.1, e2.2, at_put_same]
    · exact .inl (by rw [h1]; exact at_put_other _ _ _ _ _ _ e2)
theorem at_take {r : Rm} {h s : Int} (hc : takeC r h s = 0) (g t : Int) : atP (takeR r h s).hs g t = atP r.hs g t ∨ (g = h ∧ atP r.hs g t = 0) := by
  obtain ⟨_, _, hwr⟩ := take_facts hc
  unfold takeR
  dsimp only
  rcases hwr with e | ⟨e, hf⟩
  · rw [if_pos e]; exact .inl rfl
  · rw [if_neg e]
    rcases free_spec r.hs h with ⟨f1, _⟩ | ⟨m, f1, f2, f3, _⟩
    · omega
    · rw [f1]
      by_cases e2 : g = h ∧ t = (m : Int)
      · exact .inr ⟨e2.1, by rw [e2.1, e2.2]; exact f3⟩
      · exact .inl (at_put_other _ _ _ _ _ _ e2)
theorem at_send (r : Rm) (h s : Int) (d : ByteArray) (b rights g t : Int) : atP (sendR r h s d b rights).hs g t = atP r.hs g t := by
  unfold sendR
  split <;> rfl
end Go.Proofs.YtpmkkmndgicbgaaGreat
