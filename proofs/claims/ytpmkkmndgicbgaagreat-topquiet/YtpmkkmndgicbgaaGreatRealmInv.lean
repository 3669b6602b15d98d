/- What stays true of a realm whatever is done, as far as the walks need it: sizes, places, numbers; plain data alone. -/
import Derived.Test.YtpmkkmndgicbgaaGreatBox
set_option linter.unusedVariables false
set_option linter.unnecessarySimpa false
namespace Go.Proofs.YtpmkkmndgicbgaaGreat
open Go.RowKit

/-- numbers of writs are such -/
def NumOk (l : List Wr) : Prop := ∀ x ∈ l, 0 ≤ x.id ∧ x.id ≤ 999 ∧ 0 ≤ x.frm ∧ x.frm ≤ 999
/-- a realm behind at most k acts -/
structure InvK (k : Nat) (r : Rm) : Prop where
  w : r.ws.length ≤ k
  t : r.ts.length ≤ k
  n : r.ns.length ≤ k
  h : Good r.hs
  nw : 0 ≤ r.nw ∧ r.nw ≤ 1 + k
  nt : 0 ≤ r.nt ∧ r.nt ≤ 1 + k
  num : NumOk r.ws
theorem InvK.mono {k k' : Nat} {r : Rm} (h : InvK k r) (hle : k ≤ k') : InvK k' r :=
  ⟨by have := h.w; omega, by have := h.t; omega, by have := h.n; omega, h.h, by have := h.nw; omega, by have := h.nt; omega, h.num⟩
theorem InvK.sz {k : Nat} {r : Rm} (h : InvK k r) (hk : k ≤ 100) : RmSz r :=
  ⟨by have := h.w; omega, by have := h.t; omega, by have := good_len h.h; omega, by have := h.n; omega, by have := h.nw; omega, by have := h.nt; omega⟩
theorem InvK.put {k : Nat} {r : Rm} (hi : InvK k r) (h s : Int) : (putL r.hs h s 0).length ≤ 100 := by
  have := putL_len r.hs h s 0
  have := good_len hi.h
  omega
theorem InvK.wf {k : Nat} {r : Rm} (h : InvK k r) : ∀ x ∈ r.ws, (Lit.int .i64 x.id).wf = true ∧ (Lit.int .i64 x.frm).wf = true := by
  intro x hx
  obtain ⟨h1, h2, h3, h4⟩ := h.num x hx
  exact ⟨WalkArith.wf_i64 (by omega), WalkArith.wf_i64 (by omega)⟩
theorem inv_new : InvK 0 ⟨[], [], [], [], 1, 1⟩ :=
  ⟨by simp, by simp, by simp, fun k x hx => by simp at hx, by simp, by simp, fun x hx => by simp at hx⟩
theorem good_filter {l : List Hd} (hg : Good l) (p : Hd → Bool) : Good (l.filter p) := by
  refine good_of_rise (fun x hx => ?_) ((good_rise hg).filter p)
  obtain ⟨k, hk⟩ := List.mem_iff_getElem?.1 (List.mem_filter.1 hx).1
  exact ⟨(hg k x hk).1, (hg k x hk).2.1⟩
theorem num_snoc {l : List Wr} {x : Wr} (h : NumOk l) (hx : 0 ≤ x.id ∧ x.id ≤ 999 ∧ 0 ≤ x.frm ∧ x.frm ≤ 999) : NumOk (l ++ [x]) := by
  intro y hy
  rcases List.mem_append.1 hy with hy | hy
  · exact h y hy
  · rw [List.mem_singleton.1 hy]; exact hx
theorem num_filter {l : List Wr} (h : NumOk l) (p : Wr → Bool) : NumOk (l.filter p) := fun x hx => h x (List.mem_filter.1 hx).1
theorem num_without {l : List Wr} (h : NumOk l) (id : Int) : NumOk (withoutL l id) := by
  intro z hz
  unfold withoutL at hz
  obtain ⟨x, hx, hne, rfl⟩ := wo_mem.1 hz
  have hb := h x hx
  unfold woG
  split
  · rename_i he
    refine ⟨hb.1, hb.2.1, ?_⟩
    show 0 ≤ woFrom l id ∧ woFrom l id ≤ 999
    unfold woFrom
    split
    · rw [← he]; exact ⟨hb.2.2.1, hb.2.2.2⟩
    · split
      · rw [← he]; exact ⟨hb.2.2.1, hb.2.2.2⟩
      · rename_i y hy
        have := h y (List.mem_of_getElem? hy)
        exact ⟨this.2.2.1, this.2.2.2⟩
  · exact hb
theorem num_woAll (ns : List Nt) : ∀ {l : List Wr}, NumOk l → NumOk (woAll l ns) := by
  induction ns with
  | nil => intro l h; exact h
  | cons n r ih => intro l h; exact ih (num_without h n.writ)
theorem len_woAll (ns : List Nt) : ∀ ws : List Wr, (woAll ws ns).length ≤ ws.length := by
  induction ns with
  | nil => intro ws; exact Nat.le_refl _
  | cons n r ih =>
    intro ws
    have := ih (withoutL ws n.writ)
    have h2 := withoutLen ws n.writ
    show (woAll (withoutL ws n.writ) r).length ≤ _
    omega
theorem sweepN_facts : ∀ (f : Nat) (ws : List Wr) (ns : List Nt), NumOk ws → NumOk (sweepN f ws ns).1 ∧ (sweepN f ws ns).1.length ≤ ws.length ∧ (sweepN f ws ns).2.length ≤ ns.length
  | 0, ws, ns, h => ⟨h, Nat.le_refl _, Nat.le_refl _⟩
  | f + 1, ws, ns, h => by
    unfold sweepN
    split
    · exact ⟨h, Nat.le_refl _, Nat.le_refl _⟩
    · obtain ⟨h1, h2, h3⟩ := sweepN_facts f (woAll ws (lostL ws ns)) (leftL ws ns) (num_woAll _ h)
      have := len_woAll (lostL ws ns) ws
      have h4 : (leftL ws ns).length ≤ ns.length := List.length_filter_le _ _
      exact ⟨h1, by omega, by omega⟩
theorem inv_sweep {k : Nat} {r : Rm} (h : InvK k r) : InvK k (sweepR r) := by
  obtain ⟨h1, h2, h3⟩ := sweepN_facts (r.ns.length + 1) r.ws r.ns h.num
  have hw := h.w
  have hn := h.n
  have ht := h.t
  have ht2 : (r.ts.filter (fun t => hasT (sweepN (r.ns.length + 1) r.ws r.ns).1 t.id)).length ≤ r.ts.length := List.length_filter_le _ _
  exact ⟨by show (sweepN (r.ns.length + 1) r.ws r.ns).1.length ≤ k; omega, by show (r.ts.filter _).length ≤ k; omega, by show ((sweepN (r.ns.length + 1) r.ws r.ns).2.map _).length ≤ k; rw [List.length_map]; omega, good_filter h.h _, h.nw, h.nt, h1⟩
theorem getC_pl {r : Rm} {h s : Int} (hc : getC r h s = 0) : plOk h s := by
  unfold getC at hc
  by_cases hp : plOk h s
  · exact hp
  · rw [if_neg hp] at hc; cases hc
theorem freeC_pl {r : Rm} {h s : Int} (hc : freeC r h s = 0) : plOk h s ∧ atP r.hs h s = 0 := by
  unfold freeC at hc
  by_cases hp : plOk h s
  · rw [if_pos hp] at hc
    by_cases ha : atP r.hs h s = 0
    · exact ⟨hp, ha⟩
    · rw [if_neg ha] at hc; cases hc
  · rw [if_neg hp] at hc; cases hc
theorem getW_mem {r : Rm} {h s : Int} (hc : getC r h s = 0) : getW r h s ∈ r.ws := by
  unfold getC at hc
  rw [if_pos (by by_cases hp : plOk h s; exact hp; rw [if_neg hp] at hc; cases hc)] at hc
  by_cases hf : find r.ws (atP r.hs h s) < 0
  · rw [if_pos hf] at hc; cases hc
  · obtain ⟨y, hy, _⟩ := find_get (l := r.ws) (id := atP r.hs h s) (j := (find r.ws (atP r.hs h s)).toNat) (by omega)
    unfold getW
    rw [hy]
    exact List.mem_of_getElem? hy
theorem inv_make {k : Nat} {r : Rm} {h s kind : Int} (hi : InvK k r) (hc : makeC r h s kind = 0) : InvK (k + 1) (makeR r h s kind) := by
  unfold makeC at hc
  split at hc
  · cases hc
  · split at hc
    · rename_i hne; exact absurd hc hne
    · rename_i hf
      split at hc
      · cases hc
      · rename_i hx
        have hp := (freeC_pl (r := r) (h := h) (s := s) (by simpa using hf)).1
        have h1 := hi.nw
        have h2 := hi.nt
        exact ⟨by show (r.ws ++ [_]).length ≤ _; have := hi.w; simp; omega, by show (r.ts ++ [_]).length ≤ _; have := hi.t; simp; omega, by show r.ns.length ≤ _; have := hi.n; omega, good_put hi.h hp, by show 0 ≤ r.nw + 1 ∧ r.nw + 1 ≤ _; omega, by show 0 ≤ r.nt + 1 ∧ r.nt + 1 ≤ _; omega, num_snoc hi.num ⟨by show 0 ≤ r.nw; omega, by show r.nw ≤ 999; omega, by show (0 : Int) ≤ 0; omega, by show (0 : Int) ≤ 999; omega⟩⟩
theorem inv_give {k : Nat} {r : Rm} {h s g t rights badge : Int} (hi : InvK k r) (hc : giveC r h s g t rights badge = 0) : InvK (k + 1) (giveR r h s g t rights badge) := by
  unfold giveC at hc
  split at hc
  · rename_i hne; exact absurd hc hne
  · rename_i hg
    split at hc
    · rename_i hne; exact absurd hc hne
    · rename_i hf
      split at hc
      · cases hc
      · split at hc
        · cases hc
        · rename_i hx
          have hp := (freeC_pl (r := r) (h := g) (s := t) (by simpa using hf)).1
          have hm := hi.num _ (getW_mem (r := r) (h := h) (s := s) (by simpa using hg))
          have h1 := hi.nw
          have h2 := hi.nt
          exact ⟨by show (r.ws ++ [_]).length ≤ _; have := hi.w; simp; omega, by show r.ts.length ≤ _; have := hi.t; omega, by show r.ns.length ≤ _; have := hi.n; omega, good_put hi.h hp, by show 0 ≤ r.nw + 1 ∧ r.nw + 1 ≤ _; omega, by show 0 ≤ r.nt ∧ r.nt ≤ _; omega, num_snoc hi.num ⟨by show 0 ≤ r.nw; omega, by show r.nw ≤ 999; omega, hm.1, hm.2.1⟩⟩
theorem inv_move {k : Nat} {r : Rm} {h s t : Int} (hi : InvK k r) (hc : moveC r h s t = 0) : InvK (k + 1) (moveR r h s t) := by
  unfold moveC at hc
  split at hc
  · rename_i hne; exact absurd hc hne
  · rename_i hg
    have hp1 := getC_pl (r := r) (h := h) (s := s) (by simpa using hg)
    have hp2 := (freeC_pl hc).1
    exact ⟨by show r.ws.length ≤ _; have := hi.w; omega, by show r.ts.length ≤ _; have := hi.t; omega, by show r.ns.length ≤ _; have := hi.n; omega, good_put (good_put hi.h hp1) hp2, by show 0 ≤ r.nw ∧ r.nw ≤ _; have := hi.nw; omega, by show 0 ≤ r.nt ∧ r.nt ≤ _; have := hi.nt; omega, hi.num⟩
theorem inv_drop {k : Nat} {r : Rm} (hi : InvK k r) (h s : Int) : InvK (k + 1) (dropR r h s) := by
  unfold dropR
  refine inv_sweep ⟨by show (withoutL r.ws _).length ≤ _; have := withoutLen r.ws (getW r h s).id; have := hi.w; omega, by show r.ts.length ≤ _; have := hi.t; omega, by show r.ns.length ≤ _; have := hi.n; omega, hi.h, by show 0 ≤ r.nw ∧ r.nw ≤ _; have := hi.nw; omega, by show 0 ≤ r.nt ∧ r.nt ≤ _; have := hi.nt; omega, num_without hi.num _⟩
theorem inv_revoke {k : Nat} {r : Rm} (hi : InvK k r) (h s : Int) : InvK (k + 1) (revokeR r h s) := by
  unfold revokeR
  refine inv_sweep ⟨?_, by show r.ts.length ≤ _; have := hi.t; omega, by show r.ns.length ≤ _; have := hi.n; omega, hi.h, by show 0 ≤ r.nw ∧ r.nw ≤ _; have := hi.nw; omega, by show 0 ≤ r.nt ∧ r.nt ≤ _; have := hi.nt; omega, num_filter hi.num _⟩
  have h1 : (r.ws.filter (fun x => !inB (beneathL r.ws (getW r h s).id) x.id)).length ≤ r.ws.length := List.length_filter_le _ _
  have := hi.w
  show (r.ws.filter _).length ≤ _
  omega
theorem setD_len (t : Int) (d : ByteArray) : ∀ l : List Th, (setD t d l).length = l.length
  | [] => rfl
  | x :: r => by unfold setD; split <;> simp [setD_len t d r]
theorem inv_write {k : Nat} {r : Rm} (hi : InvK k r) (h s : Int) (d : ByteArray) : InvK (k + 1) (writeR r h s d) :=
  ⟨by show r.ws.length ≤ _; have := hi.w; omega, by show (setD _ _ r.ts).length ≤ _; rw [setD_len]; have := hi.t; omega, by show r.ns.length ≤ _; have := hi.n; omega, hi.h, by show 0 ≤ r.nw ∧ r.nw ≤ _; have := hi.nw; omega, by show 0 ≤ r.nt ∧ r.nt ≤ _; have := hi.nt; omega, hi.num⟩
theorem inv_send {k : Nat} {r : Rm} {h s : Int} {d : ByteArray} {t rights : Int} (hi : InvK k r) (hc : sendC r h s d t rights = 0) : InvK (k + 1) (sendR r h s d t rights) := by
  unfold sendC at hc
  unfold sendR
  have h1 := hi.nw
  have h2 := hi.nt
  split at hc
  · rename_i hne; exact absurd hc hne
  · split at hc
    · cases hc
    · split at hc
      · cases hc
      · by_cases ht : t < 0
        · rw [if_pos ht]
          exact ⟨by show r.ws.length ≤ _; have := hi.w; omega, by show r.ts.length ≤ _; have := hi.t; omega, by show (r.ns ++ [_]).length ≤ _; have := hi.n; simp; omega, hi.h, by show 0 ≤ r.nw ∧ r.nw ≤ _; omega, by show 0 ≤ r.nt ∧ r.nt ≤ _; omega, hi.num⟩
        · rw [if_neg ht] at hc ⊢
          split at hc
          · cases hc
          · split at hc
            · rename_i hne; exact absurd hc hne
            · rename_i hg
              split at hc
              · cases hc
              · rename_i hx
                have hm := hi.num _ (getW_mem (r := r) (h := h) (s := t) (by simpa using hg))
                exact ⟨by show (r.ws ++ [_]).length ≤ _; have := hi.w; simp; omega, by show r.ts.length ≤ _; have := hi.t; omega, by show (r.ns ++ [_]).length ≤ _; have := hi.n; simp; omega, hi.h, by show 0 ≤ r.nw + 1 ∧ r.nw + 1 ≤ _; omega, by show 0 ≤ r.nt ∧ r.nt ≤ _; omega, num_snoc hi.num ⟨by show 0 ≤ r.nw; omega, by show r.nw ≤ 999; omega, hm.1, hm.2.1⟩⟩
theorem whoC_get {r : Rm} {h s kind rights : Int} (hc : whoC r h s kind rights = 0) : getC r h s = 0 := by
  unfold whoC at hc
  split at hc
  · rename_i hne; exact absurd hc hne
  · rename_i hg; simpa using hg
theorem inv_take {k : Nat} {r : Rm} {h s : Int} (hi : InvK k r) (hc : takeC r h s = 0) : InvK (k + 1) (takeR r h s) := by
  unfold takeC at hc
  split at hc
  · rename_i hne; exact absurd hc hne
  · rename_i hw
    split at hc
    · cases hc
    · split at hc
      · cases hc
      · rename_i hx
        have hp := getC_pl (whoC_get (r := r) (h := h) (s := s) (kind := 2) (rights := 1) (by simpa using hw))
        have hg : Good (if (noteAt r h s).writ = 0 then r.hs else putL r.hs h (freeP r.hs h) (noteAt r h s).writ) := by
          split
          · exact hi.h
          · rename_i hwr
            rcases free_spec r.hs h with ⟨h1, _⟩ | ⟨m, h1, h2, _⟩
            · exact absurd ⟨hwr, by omega⟩ hx
            · refine good_put hi.h ?_
              rw [h1]
              exact ⟨hp.1, hp.2.1, by omega, by omega⟩
        exact ⟨by show r.ws.length ≤ _; have := hi.w; omega, by show r.ts.length ≤ _; have := hi.t; omega, by show (r.ns.eraseIdx _).length ≤ _; have := hi.n; have := List.length_eraseIdx_le r.ns (idx (atPort (getW r h s).thing) r.ns).toNat; omega, hg, by show 0 ≤ r.nw ∧ r.nw ≤ _; have := hi.nw; omega, by show 0 ≤ r.nt ∧ r.nt ≤ _; have := hi.nt; omega, hi.num⟩
end Go.Proofs.YtpmkkmndgicbgaaGreat
