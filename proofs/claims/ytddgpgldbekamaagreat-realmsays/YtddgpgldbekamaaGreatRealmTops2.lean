/- What stays true of a realm whatever is done, as far as the walks need it: sizes, places, numbers; plain data alone. -/
/- What is true of a realm whatever was done: its writs are right, each is at one place, things are just those of writs, notes wait at ports; plain data alone. -/
/- Whatever is done to a realm that is whole, it is whole: each act of chapter 5 on plain data. -/
/- What the statements on a realm ask, on plain data: moved, given, written, made, dropped, revoked, quiet. -/
/- What the statements on a realm ask, on plain data: dropped, revoked, quiet, nobody gets more, each at one place. -/
/- What the statements on a realm ask, on plain data: notes are taken in order; who is not given anything gets nothing. -/
import Derived.Test.YtddgpgldbekamaaGreatBox
set_option linter.unusedVariables false
set_option linter.unnecessarySimpa false
namespace Go.Proofs.YtddgpgldbekamaaGreat
open Go.RowKit

/-- numbers of writs are such -/
def NumOk (l : List Wr) : Prop := ∀ x ∈ l, 0 ≤ x.id ∧ x.id ≤ 999 ∧ 0 ≤ x.frm ∧ x.frm ≤ 999
/-- a realm behind at most k acts -/
structure InvK (k : Nat) (r : Rm) : Prop where
  w : r.ws.length ≤ k
  t : r.ts.length ≤ k
  n : r.ns.length ≤ k
  h : Good r.hs
  nw : 0 ≤ r.nw ∧ r.nw ≤ 1 + k
  nt : 0 ≤ r.nt ∧ r.nt ≤ 1 + k
  num : NumOk r.ws
theorem InvK.mono {k k' : Nat} {r : Rm} (h : InvK k r) (hle : k ≤ k') : InvK k' r :=
  ⟨by have := h.w; omega, by have := h.t; omega, by have := h.n; omega, h.h, by have := h.nw; omega, by have := h.nt; omega, h.num⟩
theorem InvK.sz {k : Nat} {r : Rm} (h : InvK k r) (hk : k ≤ 100) : RmSz r :=
  ⟨by have := h.w; omega, by have := h.t; omega, by have := good_len h.h; omega, by have := h.n; omega, by have := h.nw; omega, by have := h.nt; omega⟩
theorem InvK.put {k : Nat} {r : Rm} (hi : InvK k r) (h s : Int) : (putL r.hs h s 0).length ≤ 100 := by
  have := putL_len r.hs h s 0
  have := good_len hi.h
  omega
theorem InvK.wf {k : Nat} {r : Rm} (h : InvK k r) : ∀ x ∈ r.ws, (Lit.int .i64 x.id).wf = true ∧ (Lit.int .i64 x.frm).wf = true := by
  intro x hx
  obtain ⟨h1, h2, h3, h4⟩ := h.num x hx
  exact ⟨WalkArith.wf_i64 (by omega), WalkArith.wf_i64 (by omega)⟩
theorem inv_new : InvK 0 ⟨[], [], [], [], 1, 1⟩ :=
  ⟨by simp, by simp, by simp, fun k x hx => by simp at hx, by simp, by simp, fun x hx => by simp at hx⟩
theorem good_filter {l : List Hd} (hg : Good l) (p : Hd → Bool) : Good (l.filter p) := by
  refine good_of_rise (fun x hx => ?_) ((good_rise hg).filter p)
  obtain ⟨k, hk⟩ := List.mem_iff_getElem?.1 (List.mem_filter.1 hx).1
  exact ⟨(hg k x hk).1, (hg k x hk).2.1⟩
theorem num_snoc {l : List Wr} {x : Wr} (h : NumOk l) (hx : 0 ≤ x.id ∧ x.id ≤ 999 ∧ 0 ≤ x.frm ∧ x.frm ≤ 999) : NumOk (l ++ [x]) := by
  intro y hy
  rcases List.mem_append.1 hy with hy | hy
  · exact h y hy
  · rw [List.mem_singleton.1 hy]; exact hx
theorem num_filter {l : List Wr} (h : NumOk l) (p : Wr → Bool) : NumOk (l.filter p) := fun x hx => h x (List.mem_filter.1 hx).1
theorem num_without {l : List Wr} (h : NumOk l) (id : Int) : NumOk (withoutL l id) := by
  intro z hz
  unfold withoutL at hz
  obtain ⟨x, hx, hne, rfl⟩ := wo_mem.1 hz
  have hb := h x hx
  unfold woG
  split
  · rename_i he
    refine ⟨hb.1, hb.2.1, ?_⟩
    show 0 ≤ woFrom l id ∧ woFrom l id ≤ 999
    unfold woFrom
    split
    · rw [← he]; exact ⟨hb.2.2.1, hb.2.2.2⟩
    · split
      · rw [← he]; exact ⟨hb.2.2.1, hb.2.2.2⟩
      · rename_i y hy
        have := h y (List.mem_of_getElem? hy)
        exact ⟨this.2.2.1, this.2.2.2⟩
  · exact hb
theorem num_woAll (ns : List Nt) : ∀ {l : List Wr}, NumOk l → NumOk (woAll l ns) := by
  induction ns with
  | nil => intro l h; exact h
  | cons n r ih => intro l h; exact ih (num_without h n.writ)
theorem len_woAll (ns : List Nt) : ∀ ws : List Wr, (woAll ws ns).length ≤ ws.length := by
  induction ns with
  | nil => intro ws; exact Nat.le_refl _
  | cons n r ih =>
    intro ws
    have := ih (withoutL ws n.writ)
    have h2 := withoutLen ws n.writ
    show (woAll (withoutL ws n.writ) r).length ≤ _
    omega
theorem sweepN_facts : ∀ (f : Nat) (ws : List Wr) (ns : List Nt), NumOk ws → NumOk (sweepN f ws ns).1 ∧ (sweepN f ws ns).1.length ≤ ws.length ∧ (sweepN f ws ns).2.length ≤ ns.length
  | 0, ws, ns, h => ⟨h, Nat.le_refl _, Nat.le_refl _⟩
  | f + 1, ws, ns, h => by
    unfold sweepN
    split
    · exact ⟨h, Nat.le_refl _, Nat.le_refl _⟩
    · obtain ⟨h1, h2, h3⟩ := sweepN_facts f (woAll ws (lostL ws ns)) (leftL ws ns) (num_woAll _ h)
      have := len_woAll (lostL ws ns) ws
      have h4 : (leftL ws ns).length ≤ ns.length := List.length_filter_le _ _
      exact ⟨h1, by omega, by omega⟩
theorem inv_sweep {k : Nat} {r : Rm} (h : InvK k r) : InvK k (sweepR r) := by
  obtain ⟨h1, h2, h3⟩ := sweepN_facts (r.ns.length + 1) r.ws r.ns h.num
  have hw := h.w
  have hn := h.n
  have ht := h.t
  have ht2 : (r.ts.filter (fun t => hasT (sweepN (r.ns.length + 1) r.ws r.ns).1 t.id)).length ≤ r.ts.length := List.length_filter_le _ _
  exact ⟨by show (sweepN (r.ns.length + 1) r.ws r.ns).1.length ≤ k; omega, by show (r.ts.filter _).length ≤ k; omega, by show ((sweepN (r.ns.length + 1) r.ws r.ns).2.map _).length ≤ k; rw [List.length_map]; omega, good_filter h.h _, h.nw, h.nt, h1⟩
theorem getC_pl {r : Rm} {h s : Int} (hc : getC r h s = 0) : plOk h s := by
  unfold getC at hc
  by_cases hp : plOk h s
  · exact hp
  · rw [if_neg hp] at hc; cases hc
theorem freeC_pl {r : Rm} {h s : Int} (hc : freeC r h s = 0) : plOk h s ∧ atP r.hs h s = 0 := by
  unfold freeC at hc
  by_cases hp : plOk h s
  · rw [if_pos hp] at hc
    by_cases ha : atP r.hs h s = 0
    · exact ⟨hp, ha⟩
    · rw [if_neg ha] at hc; cases hc
  · rw [if_neg hp] at hc; cases hc
theorem getW_mem {r : Rm} {h s : Int} (hc : getC r h s = 0) : getW r h s ∈ r.ws := by
  unfold getC at hc
  rw [if_pos (by by_cases hp : plOk h s; exact hp; rw [if_neg hp] at hc; cases hc)] at hc
  by_cases hf : find r.ws (atP r.hs h s) < 0
  · rw [if_pos hf] at hc; cases hc
  · obtain ⟨y, hy, _⟩ := find_get (l := r.ws) (id := atP r.hs h s) (j := (find r.ws (atP r.hs h s)).toNat) (by omega)
    unfold getW
    rw [hy]
    exact List.mem_of_getElem? hy
theorem inv_make {k : Nat} {r : Rm} {h s kind : Int} (hi : InvK k r) (hc : makeC r h s kind = 0) : InvK (k + 1) (makeR r h s kind) := by
  unfold makeC at hc
  split at hc
  · cases hc
  · split at hc
    · rename_i hne; exact absurd hc hne
    · rename_i hf
      split at hc
      · cases hc
      · rename_i hx
        have hp := (freeC_pl (r := r) (h := h) (s := s) (by simpa using hf)).1
        have h1 := hi.nw
        have h2 := hi.nt
        exact ⟨by show (r.ws ++ [_]).length ≤ _; have := hi.w; simp; omega, by show (r.ts ++ [_]).length ≤ _; have := hi.t; simp; omega, by show r.ns.length ≤ _; have := hi.n; omega, good_put hi.h hp, by show 0 ≤ r.nw + 1 ∧ r.nw + 1 ≤ _; omega, by show 0 ≤ r.nt + 1 ∧ r.nt + 1 ≤ _; omega, num_snoc hi.num ⟨by show 0 ≤ r.nw; omega, by show r.nw ≤ 999; omega, by show (0 : Int) ≤ 0; omega, by show (0 : Int) ≤ 999; omega⟩⟩
theorem inv_give {k : Nat} {r : Rm} {h s g t rights badge : Int} (hi : InvK k r) (hc : giveC r h s g t rights badge = 0) : InvK (k + 1) (giveR r h s g t rights badge) := by
  unfold giveC at hc
  split at hc
  · rename_i hne; exact absurd hc hne
  · rename_i hg
    split at hc
    · rename_i hne; exact absurd hc hne
    · rename_i hf
      split at hc
      · cases hc
      · split at hc
        · cases hc
        · rename_i hx
          have hp := (freeC_pl (r := r) (h := g) (s := t) (by simpa using hf)).1
          have hm := hi.num _ (getW_mem (r := r) (h := h) (s := s) (by simpa using hg))
          have h1 := hi.nw
          have h2 := hi.nt
          exact ⟨by show (r.ws ++ [_]).length ≤ _; have := hi.w; simp; omega, by show r.ts.length ≤ _; have := hi.t; omega, by show r.ns.length ≤ _; have := hi.n; omega, good_put hi.h hp, by show 0 ≤ r.nw + 1 ∧ r.nw + 1 ≤ _; omega, by show 0 ≤ r.nt ∧ r.nt ≤ _; omega, num_snoc hi.num ⟨by show 0 ≤ r.nw; omega, by show r.nw ≤ 999; omega, hm.1, hm.2.1⟩⟩
theorem inv_move {k : Nat} {r : Rm} {h s t : Int} (hi : InvK k r) (hc : moveC r h s t = 0) : InvK (k + 1) (moveR r h s t) := by
  unfold moveC at hc
  split at hc
  · rename_i hne; exact absurd hc hne
  · rename_i hg
    have hp1 := getC_pl (r := r) (h := h) (s := s) (by simpa using hg)
    have hp2 := (freeC_pl hc).1
    exact ⟨by show r.ws.length ≤ _; have := hi.w; omega, by show r.ts.length ≤ _; have := hi.t; omega, by show r.ns.length ≤ _; have := hi.n; omega, good_put (good_put hi.h hp1) hp2, by show 0 ≤ r.nw ∧ r.nw ≤ _; have := hi.nw; omega, by show 0 ≤ r.nt ∧ r.nt ≤ _; have := hi.nt; omega, hi.num⟩
theorem inv_drop {k : Nat} {r : Rm} (hi : InvK k r) (h s : Int) : InvK (k + 1) (dropR r h s) := by
  unfold dropR
  refine inv_sweep ⟨by show (withoutL r.ws _).length ≤ _; have := withoutLen r.ws (getW r h s).id; have := hi.w; omega, by show r.ts.length ≤ _; have := hi.t; omega, by show r.ns.length ≤ _; have := hi.n; omega, hi.h, by show 0 ≤ r.nw ∧ r.nw ≤ _; have := hi.nw; omega, by show 0 ≤ r.nt ∧ r.nt ≤ _; have := hi.nt; omega, num_without hi.num _⟩
theorem inv_revoke {k : Nat} {r : Rm} (hi : InvK k r) (h s : Int) : InvK (k + 1) (revokeR r h s) := by
  unfold revokeR
  refine inv_sweep ⟨?_, by show r.ts.length ≤ _; have := hi.t; omega, by show r.ns.length ≤ _; have := hi.n; omega, hi.h, by show 0 ≤ r.nw ∧ r.nw ≤ _; have := hi.nw; omega, by show 0 ≤ r.nt ∧ r.nt ≤ _; have := hi.nt; omega, num_filter hi.num _⟩
  have h1 : (r.ws.filter (fun x => !inB (beneathL r.ws (getW r h s).id) x.id)).length ≤ r.ws.length := List.length_filter_le _ _
  have := hi.w
  show (r.ws.filter _).length ≤ _
  omega
theorem setD_len (t : Int) (d : ByteArray) : ∀ l : List Th, (setD t d l).length = l.length
  | [] => rfl
  | x :: r => by unfold setD; split <;> simp [setD_len t d r]
theorem inv_write {k : Nat} {r : Rm} (hi : InvK k r) (h s : Int) (d : ByteArray) : InvK (k + 1) (writeR r h s d) :=
  ⟨by show r.ws.length ≤ _; have := hi.w; omega, by show (setD _ _ r.ts).length ≤ _; rw [setD_len]; have := hi.t; omega, by show r.ns.length ≤ _; have := hi.n; omega, hi.h, by show 0 ≤ r.nw ∧ r.nw ≤ _; have := hi.nw; omega, by show 0 ≤ r.nt ∧ r.nt ≤ _; have := hi.nt; omega, hi.num⟩
theorem inv_send {k : Nat} {r : Rm} {h s : Int} {d : ByteArray} {t rights : Int} (hi : InvK k r) (hc : sendC r h s d t rights = 0) : InvK (k + 1) (sendR r h s d t rights) := by
  unfold sendC at hc
  unfold sendR
  have h1 := hi.nw
  have h2 := hi.nt
  split at hc
  · rename_i hne; exact absurd hc hne
  · split at hc
    · cases hc
    · split at hc
      · cases hc
      · by_cases ht : t < 0
        · rw [if_pos ht]
          exact ⟨by show r.ws.length ≤ _; have := hi.w; omega, by show r.ts.length ≤ _; have := hi.t; omega, by show (r.ns ++ [_]).length ≤ _; have := hi.n; simp; omega, hi.h, by show 0 ≤ r.nw ∧ r.nw ≤ _; omega, by show 0 ≤ r.nt ∧ r.nt ≤ _; omega, hi.num⟩
        · rw [if_neg ht] at hc ⊢
          split at hc
          · cases hc
          · split at hc
            · rename_i hne; exact absurd hc hne
            · rename_i hg
              split at hc
              · cases hc
              · rename_i hx
                have hm := hi.num _ (getW_mem (r := r) (h := h) (s := t) (by simpa using hg))
                exact ⟨by show (r.ws ++ [_]).length ≤ _; have := hi.w; simp; omega, by show r.ts.length ≤ _; have := hi.t; omega, by show (r.ns ++ [_]).length ≤ _; have := hi.n; simp; omega, hi.h, by show 0 ≤ r.nw + 1 ∧ r.nw + 1 ≤ _; omega, by show 0 ≤ r.nt ∧ r.nt ≤ _; omega, num_snoc hi.num ⟨by show 0 ≤ r.nw; omega, by show r.nw ≤ 999; omega, hm.1, hm.2.1⟩⟩
theorem whoC_get {r : Rm} {h s kind rights : Int} (hc : whoC r h s kind rights = 0) : getC r h s = 0 := by
  unfold whoC at hc
  split at hc
  · rename_i hne; exact absurd hc hne
  · rename_i hg; simpa using hg
theorem inv_take {k : Nat} {r : Rm} {h s : Int} (hi : InvK k r) (hc : takeC r h s = 0) : InvK (k + 1) (takeR r h s) := by
  unfold takeC at hc
  split at hc
  · rename_i hne; exact absurd hc hne
  · rename_i hw
    split at hc
    · cases hc
    · split at hc
      · cases hc
      · rename_i hx
        have hp := getC_pl (whoC_get (r := r) (h := h) (s := s) (kind := 2) (rights := 1) (by simpa using hw))
        have hg : Good (if (noteAt r h s).writ = 0 then r.hs else putL r.hs h (freeP r.hs h) (noteAt r h s).writ) := by
          split
          · exact hi.h
          · rename_i hwr
            rcases free_spec r.hs h with ⟨h1, _⟩ | ⟨m, h1, h2, _⟩
            · exact absurd ⟨hwr, by omega⟩ hx
            · refine good_put hi.h ?_
              rw [h1]
              exact ⟨hp.1, hp.2.1, by omega, by omega⟩
        exact ⟨by show r.ws.length ≤ _; have := hi.w; omega, by show r.ts.length ≤ _; have := hi.t; omega, by show (r.ns.eraseIdx _).length ≤ _; have := hi.n; have := List.length_eraseIdx_le r.ns (idx (atPort (getW r h s).thing) r.ns).toNat; omega, hg, by show 0 ≤ r.nw ∧ r.nw ≤ _; have := hi.nw; omega, by show 0 ≤ r.nt ∧ r.nt ≤ _; have := hi.nt; omega, hi.num⟩
end Go.Proofs.YtddgpgldbekamaaGreat
set_option linter.unusedVariables false
set_option linter.unnecessarySimpa false
namespace Go.Proofs.YtddgpgldbekamaaGreat
open Go.RowKit

/-! ### Places -/
theorem good_mem {l : List Hd} (hg : Good l) {x : Hd} (hx : x ∈ l) : plOk x.holder x.slot ∧ x.writ ≠ 0 := by
  obtain ⟨k, hk⟩ := List.mem_iff_getElem?.1 hx
  exact ⟨(hg k x hk).1, (hg k x hk).2.1⟩
theorem isAt_iff {h s : Int} {x : Hd} : isAt h s x = true ↔ x.holder = h ∧ x.slot = s := by simp [isAt]
theorem befB_irr (a b : Int) : befB a b a b = false := by unfold befB; simp
theorem rise_one {l : List Hd} (hr : Rise l) {x y : Hd} (hx : x ∈ l) (hy : y ∈ l) (h1 : x.holder = y.holder) (h2 : x.slot = y.slot) : x = y := by
  obtain ⟨i, hi, rfl⟩ := List.getElem_of_mem hx
  obtain ⟨j, hj, rfl⟩ := List.getElem_of_mem hy
  have hp := List.pairwise_iff_getElem.1 hr
  rcases Nat.lt_trichotomy i j with hlt | heq | hgt
  · have := hp i j hi hj hlt; rw [h1, h2, befB_irr] at this; cases this
  · subst heq; rfl
  · have := hp j i hj hi hgt; rw [h1, h2, befB_irr] at this; cases this
theorem at_mem {l : List Hd} {h s : Int} (h0 : atP l h s ≠ 0) : ⟨h, s, atP l h s⟩ ∈ l := by
  unfold atP at h0 ⊢
  cases hf : l.find? (isAt h s) with
  | none => rw [hf] at h0; exact absurd rfl h0
  | some x =>
    have h1 := isAt_iff.1 (List.find?_some hf)
    have h2 := List.mem_of_find?_eq_some hf
    have : x = ⟨h, s, x.writ⟩ := Hd.ext3 h1.1 h1.2 rfl
    rw [this] at h2
    exact h2
theorem at_of_mem {l : List Hd} (hg : Good l) {x : Hd} (hx : x ∈ l) : atP l x.holder x.slot = x.writ := by
  unfold atP
  cases hf : l.find? (isAt x.holder x.slot) with
  | none => exact absurd (isAt_iff.2 ⟨rfl, rfl⟩) (by simpa using (List.find?_eq_none.1 hf) x hx)
  | some y =>
    have h1 := isAt_iff.1 (List.find?_some hf)
    rw [rise_one (good_rise hg) (List.mem_of_find?_eq_some hf) hx h1.1 h1.2]
theorem rise_ext : ∀ {a b : List Hd}, Rise a → Rise b → (∀ x, x ∈ a ↔ x ∈ b) → a = b
  | [], [], _, _, _ => rfl
  | [], y :: b, _, _, h => absurd ((h y).2 List.mem_cons_self) (by simp)
  | x :: a, [], _, _, h => absurd ((h x).1 List.mem_cons_self) (by simp)
  | x :: a, y :: b, ha, hb, h => by
    have pa := List.pairwise_cons.1 ha
    have pb := List.pairwise_cons.1 hb
    have hxy : x = y := by
      rcases List.mem_cons.1 ((h x).1 List.mem_cons_self) with e | e
      · exact e
      · rcases List.mem_cons.1 ((h y).2 List.mem_cons_self) with e' | e'
        · exact e'.symm
        · have h1 := pb.1 x e
          have h2 := pa.1 y e'
          have := befB_trans h1 h2
          rw [befB_irr] at this; cases this
    subst hxy
    have : a = b := by
      refine rise_ext pa.2 pb.2 (fun z => ⟨fun hz => ?_, fun hz => ?_⟩)
      · rcases List.mem_cons.1 ((h z).1 (List.mem_cons_of_mem _ hz)) with e | e
        · subst e; have := pa.1 _ hz; rw [befB_irr] at this; cases this
        · exact e
      · rcases List.mem_cons.1 ((h z).2 (List.mem_cons_of_mem _ hz)) with e | e
        · subst e; have := pb.1 _ hz; rw [befB_irr] at this; cases this
        · exact e
    rw [this]
theorem at_none {l : List Hd} (hg : Good l) {h s : Int} (h0 : atP l h s = 0) : ∀ x ∈ l, isAt h s x = false := by
  intro x hx
  cases hi : isAt h s x with
  | false => rfl
  | true =>
    obtain ⟨h1, h2⟩ := isAt_iff.1 hi
    have := at_of_mem hg hx
    rw [h1, h2, h0] at this
    exact absurd this.symm (good_mem hg hx).2
theorem put_mem {l : List Hd} {h s id : Int} {x : Hd} : x ∈ putL l h s id ↔ (x ∈ l ∧ isAt h s x = false) ∨ (id ≠ 0 ∧ x = ⟨h, s, id⟩) := by
  unfold putL putM
  simp only [List.mem_append, List.mem_filter]
  constructor
  · rintro ((h1 | h1) | h1)
    · exact .inl ⟨h1.1, (low_not h1.2).1⟩
    · split at h1
      · cases h1
      · exact .inr ⟨‹_›, by simpa using h1⟩
    · exact .inl ⟨h1.1, high_not h1.2⟩
  · rintro (⟨h1, h2⟩ | ⟨h1, h2⟩)
    · cases hl : lowP h s x with
      | true => exact .inl (.inl ⟨h1, rfl⟩)
      | false =>
        rcases low_or hl with ⟨h3, _⟩ | ⟨_, h3⟩
        · rw [h2] at h3; cases h3
        · exact .inr ⟨h1, h3⟩
    · rw [if_neg h1]; exact .inl (.inr (by simp [h2]))
/-- how often -/
theorem cnt_parts (p : Hd → Bool) (h s : Int) : ∀ l : List Hd, (l.filter (lowP h s)).countP p + (l.filter (highP h s)).countP p + (l.filter (isAt h s)).countP p = l.countP p
  | [] => rfl
  | x :: l => by
    have ih := cnt_parts p h s l
    cases hl : lowP h s x with
    | true =>
      obtain ⟨h1, h2⟩ := low_not hl
      rw [List.filter_cons_of_pos hl, List.filter_cons_of_neg (by simp [h2]), List.filter_cons_of_neg (by simp [h1]), List.countP_cons, List.countP_cons]
      omega
    | false =>
      rw [List.filter_cons_of_neg (by simp [hl])]
      rcases low_or hl with ⟨h1, h2⟩ | ⟨h1, h2⟩
      · rw [List.filter_cons_of_pos h1, List.filter_cons_of_neg (by simp [h2]), List.countP_cons, List.countP_cons]
        omega
      · rw [List.filter_cons_of_pos h2, List.filter_cons_of_neg (by simp [h1]), List.countP_cons, List.countP_cons]
        omega
theorem cnt_put (p : Hd → Bool) (l : List Hd) (h s id : Int) : (putL l h s id).countP p + (l.filter (isAt h s)).countP p = l.countP p + (if id = 0 then [] else [(⟨h, s, id⟩ : Hd)]).countP p := by
  have := cnt_parts p h s l
  unfold putL putM
  rw [List.countP_append, List.countP_append]
  omega
theorem at_filter {l : List Hd} (hg : Good l) (h s : Int) : l.filter (isAt h s) = if atP l h s = 0 then [] else [⟨h, s, atP l h s⟩] := by
  split
  · rename_i h0
    rw [List.filter_eq_nil_iff]
    intro x hx
    simp [at_none hg h0 x hx]
  · rename_i h0
    refine rise_ext ((good_rise hg).filter _) (by simp [Rise]) (fun x => ?_)
    simp only [List.mem_filter, List.mem_singleton, isAt_iff]
    constructor
    · rintro ⟨h1, h2, h3⟩
      exact Hd.ext3 h2 h3 (by rw [← at_of_mem hg h1, h2, h3])
    · rintro rfl
      exact ⟨at_mem h0, rfl, rfl⟩
/-- how often a writ is held, and is in notes -/
def cnt (hs : List Hd) (ns : List Nt) (id : Int) : Nat := hs.countP (fun x => x.writ == id) + ns.countP (fun n => n.writ == id)
theorem cnt_put_new {l : List Hd} (hg : Good l) {h s id : Int} (h0 : atP l h s = 0) (hid : id ≠ 0) (j : Int) : (putL l h s id).countP (fun x => x.writ == j) = l.countP (fun x => x.writ == j) + if id = j then 1 else 0 := by
  have := cnt_put (fun x => x.writ == j) l h s id
  rw [at_filter hg, if_pos h0, if_neg hid] at this
  simp only [List.countP_nil, List.countP_cons, Nat.zero_add, Nat.add_zero, beq_iff_eq] at this
  exact this
theorem cnt_put_zero {l : List Hd} (hg : Good l) {h s : Int} (h0 : atP l h s ≠ 0) (j : Int) : (putL l h s 0).countP (fun x => x.writ == j) + (if atP l h s = j then 1 else 0) = l.countP (fun x => x.writ == j) := by
  have := cnt_put (fun x => x.writ == j) l h s 0
  rw [at_filter hg, if_neg h0, if_pos rfl] at this
  simp only [List.countP_nil, List.countP_cons, Nat.zero_add, Nat.add_zero, beq_iff_eq] at this
  exact this
theorem cnt_zero_of {l : List Hd} {j : Int} (h : ∀ x ∈ l, x.writ ≠ j) : l.countP (fun x => x.writ == j) = 0 := by
  rw [List.countP_eq_zero]
  intro x hx
  simpa using h x hx

/-! ### A realm that is whole -/
def idIn (ws : List Wr) (id : Int) : Prop := ∃ x ∈ ws, x.id = id
structure Whole (r : Rm) : Prop where
  gw : GoodW r.ws
  gh : Good r.hs
  nw : 1 ≤ r.nw ∧ r.nw ≤ 1000
  nt : 1 ≤ r.nt ∧ r.nt ≤ 1000
  lw : ∀ x ∈ r.ws, x.id < r.nw
  lt : ∀ x ∈ r.ts, x.id < r.nt
  one : ∀ x ∈ r.ws, cnt r.hs r.ns x.id = 1
  hin : ∀ h ∈ r.hs, idIn r.ws h.writ
  nin : ∀ n ∈ r.ns, n.writ = 0 ∨ idIn r.ws n.writ
  tp : r.ts.Pairwise (fun x y => x.id < y.id)
  tof : ∀ x ∈ r.ts, ∃ y ∈ r.ws, y.thing = x.id
  wof : ∀ y ∈ r.ws, ∃ x ∈ r.ts, x.id = y.thing
  tl : r.ts.length ≤ 10
  tk : ∀ x ∈ r.ts, x.kind = 1 ∧ x.data.size ≤ 8 ∨ x.kind = 2 ∧ x.data = ByteArray.empty
  np : ∀ n ∈ r.ns, ∃ x ∈ r.ts, x.id = n.port ∧ x.kind = 2
  nl : ∀ t, r.ns.countP (atPort t) ≤ 3
/-- what is true ahead of a sweep -/
structure Pre (r : Rm) : Prop where
  gw : GoodW r.ws
  gh : Good r.hs
  nw : 1 ≤ r.nw ∧ r.nw ≤ 1000
  nt : 1 ≤ r.nt ∧ r.nt ≤ 1000
  lw : ∀ x ∈ r.ws, x.id < r.nw
  lt : ∀ x ∈ r.ts, x.id < r.nt
  one : ∀ x ∈ r.ws, cnt r.hs r.ns x.id = 1
  tp : r.ts.Pairwise (fun x y => x.id < y.id)
  wof : ∀ y ∈ r.ws, ∃ x ∈ r.ts, x.id = y.thing
  tl : r.ts.length ≤ 10
  tk : ∀ x ∈ r.ts, x.kind = 1 ∧ x.data.size ≤ 8 ∨ x.kind = 2 ∧ x.data = ByteArray.empty
  np : ∀ n ∈ r.ns, ∃ x ∈ r.ts, x.id = n.port ∧ x.kind = 2
  nl : ∀ t, r.ns.countP (atPort t) ≤ 3
theorem Whole.pre {r : Rm} (h : Whole r) : Pre r := ⟨h.gw, h.gh, h.nw, h.nt, h.lw, h.lt, h.one, h.tp, h.wof, h.tl, h.tk, h.np, h.nl⟩
theorem find_neg_iff {l : List Wr} {id : Int} : find l id < 0 ↔ ¬ idIn l id := by
  constructor
  · rintro h ⟨x, hx, e⟩
    obtain ⟨j, hj⟩ := find_mem hx e
    omega
  · intro h
    rw [find_none (fun y hy e => h ⟨y, hy, e⟩)]; omega
theorem find_pos_iff {l : List Wr} {id : Int} : 0 ≤ find l id ↔ idIn l id := by
  constructor
  · intro h
    by_cases hh : idIn l id
    · exact hh
    · have := find_neg_iff.2 hh; omega
  · intro h
    by_cases hh : find l id < 0
    · exact absurd h (find_neg_iff.1 hh)
    · omega
theorem hasT_iff {ws : List Wr} {t : Int} : hasT ws t = true ↔ ∃ x ∈ ws, x.thing = t := by
  unfold hasT
  rw [List.any_eq_true]
  constructor
  · rintro ⟨x, hx, e⟩; exact ⟨x, hx, by simpa using e⟩
  · rintro ⟨x, hx, e⟩; exact ⟨x, hx, by simpa using e⟩
theorem whole_new : Whole ⟨[], [], [], [], 1, 1⟩ :=
  ⟨⟨fun x hx => by simp at hx, List.Pairwise.nil, fun x hx => by simp at hx⟩, fun k x hx => by simp at hx, by simp, by simp, fun x hx => by simp at hx, fun x hx => by simp at hx, fun x hx => by simp at hx,
    fun x hx => by simp at hx, fun x hx => by simp at hx, List.Pairwise.nil, fun x hx => by simp at hx, fun x hx => by simp at hx, by simp, fun x hx => by simp at hx, fun x hx => by simp at hx, fun t => by simp⟩

/-! ### Without a writ -/
theorem wo_mem' {l : List Wr} {id : Int} {z : Wr} (hz : z ∈ withoutL l id) : ∃ x ∈ l, x.id ≠ id ∧ z.id = x.id ∧ z.thing = x.thing ∧ z.rights = x.rights ∧ z.badge = x.badge := by
  obtain ⟨x, hx, hne, rfl⟩ := wo_mem.1 hz
  refine ⟨x, hx, hne, woG_id _ _ _, ?_⟩
  unfold woG
  split <;> exact ⟨rfl, rfl, rfl⟩
theorem wo_keep {l : List Wr} {id : Int} {x : Wr} (hx : x ∈ l) (hne : x.id ≠ id) : ∃ z ∈ withoutL l id, z.id = x.id ∧ z.thing = x.thing ∧ z.rights = x.rights ∧ z.badge = x.badge := by
  refine ⟨woG id (woFrom l id) x, wo_mem.2 ⟨x, hx, hne, rfl⟩, woG_id _ _ _, ?_⟩
  unfold woG
  split <;> exact ⟨rfl, rfl, rfl⟩
theorem woAll_good (ns : List Nt) : ∀ {ws : List Wr}, GoodW ws → GoodW (woAll ws ns) := by
  induction ns with
  | nil => intro ws h; exact h
  | cons n r ih => intro ws h; exact ih (wo_good h n.writ)
theorem woAll_mem (ns : List Nt) : ∀ {ws : List Wr} {z : Wr}, z ∈ woAll ws ns → ∃ x ∈ ws, (∀ n ∈ ns, n.writ ≠ x.id) ∧ z.id = x.id ∧ z.thing = x.thing ∧ z.rights = x.rights ∧ z.badge = x.badge := by
  induction ns with
  | nil => intro ws z hz; exact ⟨z, hz, (fun n hn => nomatch hn), rfl, rfl, rfl, rfl⟩
  | cons n r ih =>
    intro ws z hz
    obtain ⟨x, hx, hno, e1, e2, e3, e4⟩ := ih (ws := withoutL ws n.writ) hz
    obtain ⟨y, hy, hne, f1, f2, f3, f4⟩ := wo_mem' hx
    refine ⟨y, hy, ?_, e1.trans f1, e2.trans f2, e3.trans f3, e4.trans f4⟩
    intro m hm
    rcases List.mem_cons.1 hm with rfl | hm
    · exact fun e => hne e.symm
    · rw [← f1]; exact hno m hm
theorem woAll_keep (ns : List Nt) : ∀ {ws : List Wr} {x : Wr}, x ∈ ws → (∀ n ∈ ns, n.writ ≠ x.id) → ∃ z ∈ woAll ws ns, z.id = x.id ∧ z.thing = x.thing ∧ z.rights = x.rights ∧ z.badge = x.badge := by
  induction ns with
  | nil => intro ws x hx _; exact ⟨x, hx, rfl, rfl, rfl, rfl⟩
  | cons n r ih =>
    intro ws x hx hno
    obtain ⟨y, hy, f1, f2, f3, f4⟩ := wo_keep (id := n.writ) hx (fun e => hno n List.mem_cons_self e.symm)
    obtain ⟨z, hz, e1, e2, e3, e4⟩ := ih (ws := withoutL ws n.writ) hy (fun m hm => by rw [f1]; exact hno m (List.mem_cons_of_mem _ hm))
    exact ⟨z, hz, e1.trans f1, e2.trans f2, e3.trans f3, e4.trans f4⟩

/-! ### Swept -/
theorem mem_lost {ws : List Wr} {ns : List Nt} {n : Nt} : n ∈ lostL ws ns ↔ n ∈ ns ∧ hasT ws n.port = false := by simp [lostL]
theorem mem_left {ws : List Wr} {ns : List Nt} {n : Nt} : n ∈ leftL ws ns ↔ n ∈ ns ∧ hasT ws n.port = true := by simp [leftL]
theorem left_lost_len (ws : List Wr) : ∀ ns : List Nt, (leftL ws ns).length + (lostL ws ns).length = ns.length
  | [] => rfl
  | n :: ns => by
    have ih := left_lost_len ws ns
    unfold leftL lostL at *
    cases h : hasT ws n.port <;> simp [h] <;> omega
theorem left_lost_cnt (ws : List Wr) (p : Nt → Bool) : ∀ ns : List Nt, (leftL ws ns).countP p + (lostL ws ns).countP p = ns.countP p
  | [] => rfl
  | n :: ns => by
    have ih := left_lost_cnt ws p ns
    unfold leftL lostL at *
    cases h : hasT ws n.port <;> simp [h, List.countP_cons] <;> omega
/-- what a sweep keeps to: the writs that are left are some of those, each at one place; no note is lost any more -/
structure SwN (hs : List Hd) (ws : List Wr) (ns : List Nt) (ws' : List Wr) (ns' : List Nt) : Prop where
  gw : GoodW ws'
  one : ∀ x ∈ ws', cnt hs ns' x.id = 1
  sub : ∀ z ∈ ws', ∃ x ∈ ws, z.id = x.id ∧ z.thing = x.thing ∧ z.rights = x.rights ∧ z.badge = x.badge
  nsub : ∀ n ∈ ns', n ∈ ns
  ncnt : ∀ p : Nt → Bool, ns'.countP p ≤ ns.countP p
  keep : ∀ x ∈ ws, (∀ n ∈ ns, n.writ ≠ x.id) → ∃ z ∈ ws', z.id = x.id ∧ z.thing = x.thing ∧ z.rights = x.rights ∧ z.badge = x.badge
theorem swN_refl {hs : List Hd} {ws : List Wr} {ns : List Nt} (gw : GoodW ws) (one : ∀ x ∈ ws, cnt hs ns x.id = 1) : SwN hs ws ns ws ns :=
  ⟨gw, one, fun z hz => ⟨z, hz, rfl, rfl, rfl, rfl⟩, fun n hn => hn, fun p => Nat.le_refl _, fun x hx _ => ⟨x, hx, rfl, rfl, rfl, rfl⟩⟩
theorem swN_step {hs : List Hd} {ws : List Wr} {ns : List Nt} (gw : GoodW ws) (one : ∀ x ∈ ws, cnt hs ns x.id = 1) : SwN hs ws ns (woAll ws (lostL ws ns)) (leftL ws ns) := by
  refine ⟨woAll_good _ gw, ?_, ?_, fun n hn => (mem_left.1 hn).1, fun p => by have := left_lost_cnt ws p ns; omega, ?_⟩
  · intro z hz
    obtain ⟨x, hx, hno, e1, _⟩ := woAll_mem _ hz
    have h1 := one x hx
    have h2 := left_lost_cnt ws (fun n => n.writ == x.id) ns
    have h3 : (lostL ws ns).countP (fun n => n.writ == x.id) = 0 := by
      rw [List.countP_eq_zero]; intro n hn; simpa using hno n hn
    rw [e1]
    unfold cnt at h1 ⊢
    omega
  · intro z hz
    obtain ⟨x, hx, _, e⟩ := woAll_mem _ hz
    exact ⟨x, hx, e⟩
  · intro x hx hno
    exact woAll_keep _ hx (fun n hn => hno n (mem_lost.1 hn).1)
theorem SwN.trans {hs : List Hd} {ws ws1 ws2 : List Wr} {ns ns1 ns2 : List Nt} (h : SwN hs ws ns ws1 ns1) (h' : SwN hs ws1 ns1 ws2 ns2) : SwN hs ws ns ws2 ns2 := by
  refine ⟨h'.gw, h'.one, ?_, fun n hn => h.nsub n (h'.nsub n hn), fun p => Nat.le_trans (h'.ncnt p) (h.ncnt p), ?_⟩
  · intro z hz
    obtain ⟨y, hy, e1, e2, e3, e4⟩ := h'.sub z hz
    obtain ⟨x, hx, f1, f2, f3, f4⟩ := h.sub y hy
    exact ⟨x, hx, e1.trans f1, e2.trans f2, e3.trans f3, e4.trans f4⟩
  · intro x hx hno
    obtain ⟨y, hy, e1, e2, e3, e4⟩ := h.keep x hx hno
    obtain ⟨z, hz, f1, f2, f3, f4⟩ := h'.keep y hy (fun n hn => by rw [e1]; exact hno n (h.nsub n hn))
    exact ⟨z, hz, f1.trans e1, f2.trans e2, f3.trans e3, f4.trans e4⟩
theorem sweepN_sw (hs : List Hd) : ∀ (f : Nat) (ws : List Wr) (ns : List Nt), GoodW ws → (∀ x ∈ ws, cnt hs ns x.id = 1) → ns.length < f → SwN hs ws ns (sweepN f ws ns).1 (sweepN f ws ns).2 ∧ lostL (sweepN f ws ns).1 (sweepN f ws ns).2 = []
  | 0, _, _, _, _, h => by omega
  | f + 1, ws, ns, gw, one, h => by
    unfold sweepN
    split
    · rename_i he
      exact ⟨swN_refl gw one, he⟩
    · rename_i hne
      have st := swN_step (ns := ns) gw one
      have hl := left_lost_len ws ns
      have hp : 0 < (lostL ws ns).length := by
        cases hh : lostL ws ns with
        | nil => exact absurd hh hne
        | cons => simp
      obtain ⟨h1, h2⟩ := sweepN_sw hs f _ _ st.gw st.one (by omega)
      exact ⟨st.trans h1, h2⟩
theorem pair_filter_len {α : Type} (l : List α) (p : α → Bool) : (l.filter p).length ≤ l.length := List.length_filter_le _ _
theorem forget_port (ws : List Wr) (n : Nt) : (forgetN ws n).port = n.port := by unfold forgetN; split <;> rfl
theorem forget_writ (ws : List Wr) (n : Nt) : (forgetN ws n).writ = if find ws n.writ < 0 then 0 else n.writ := by unfold forgetN; split <;> rfl
/-- swept, a realm is whole -/
theorem sweep_whole {r : Rm} (h : Pre r) : Whole (sweepR r) := by
  obtain ⟨sw, hl⟩ := sweepN_sw r.hs (r.ns.length + 1) r.ws r.ns h.gw h.one (by omega)
  unfold sweepR
  generalize (sweepN (r.ns.length + 1) r.ws r.ns).1 = ws at sw hl ⊢
  generalize (sweepN (r.ns.length + 1) r.ws r.ns).2 = ns at sw hl ⊢
  have hleft : ∀ n ∈ ns, ∃ x ∈ ws, x.thing = n.port := by
    intro n hn
    cases hh : hasT ws n.port with
    | true => exact hasT_iff.1 hh
    | false =>
      have : n ∈ lostL ws ns := mem_lost.2 ⟨hn, hh⟩
      rw [hl] at this; cases this
  refine ⟨sw.gw, good_filter h.gh _, h.nw, h.nt, ?_, ?_, ?_, ?_, ?_, h.tp.filter _, ?_, ?_, ?_, ?_, ?_, ?_⟩
  · intro x hx
    obtain ⟨y, hy, e, _⟩ := sw.sub x hx
    rw [e]; exact h.lw y hy
  · intro x hx; exact h.lt x (List.mem_filter.1 hx).1
  · intro x hx
    have h1 := sw.one x hx
    have hok := sw.gw.1 x hx
    show cnt _ _ _ = 1
    unfold cnt at h1 ⊢
    have e1 : (r.hs.filter (fun h => decide (0 ≤ find ws h.writ))).countP (fun y => y.writ == x.id) = r.hs.countP (fun y => y.writ == x.id) := by
      rw [List.countP_filter]
      congr 1
      funext y
      by_cases e : y.writ = x.id
      · have : 0 ≤ find ws y.writ := find_pos_iff.2 ⟨x, hx, e.symm⟩
        simp [e]; rw [← e]; exact this
      · simp [e]
    have e2 : (ns.map (forgetN ws)).countP (fun n => n.writ == x.id) = ns.countP (fun n => n.writ == x.id) := by
      rw [List.countP_map]
      congr 1
      funext n
      show ((forgetN ws n).writ == x.id) = (n.writ == x.id)
      rw [forget_writ]
      have hid : ¬ (0 : Int) = x.id := by have := hok.1; omega
      by_cases e : find ws n.writ < 0
      · rw [if_pos e]
        have : ¬ n.writ = x.id := fun e' => (find_neg_iff.1 e) ⟨x, hx, e'.symm⟩
        rw [beq_eq_false_iff_ne.2 hid, beq_eq_false_iff_ne.2 this]
      · rw [if_neg e]
    rw [e1, e2]; exact h1
  · intro x hx
    have := (List.mem_filter.1 hx).2
    exact find_pos_iff.1 (by simpa using this)
  · intro n hn
    obtain ⟨m, hm, rfl⟩ := List.mem_map.1 hn
    rw [forget_writ]
    by_cases e : find ws m.writ < 0
    · rw [if_pos e]; exact .inl rfl
    · rw [if_neg e]; exact .inr ((find_pos_iff (l := ws)).1 (by omega))
  · intro x hx
    exact hasT_iff.1 (List.mem_filter.1 hx).2
  · intro y hy
    obtain ⟨z, hz, e1, e2, _⟩ := sw.sub y hy
    obtain ⟨x, hx, e⟩ := h.wof z hz
    exact ⟨x, List.mem_filter.2 ⟨hx, hasT_iff.2 ⟨y, hy, by rw [e2, e]⟩⟩, by rw [e, e2]⟩
  · have := pair_filter_len r.ts (fun t => hasT ws t.id); have := h.tl; show (r.ts.filter _).length ≤ 10; omega
  · intro x hx; exact h.tk x (List.mem_filter.1 hx).1
  · intro n hn
    obtain ⟨m, hm, rfl⟩ := List.mem_map.1 hn
    obtain ⟨x, hx, e1, e2⟩ := h.np m (sw.nsub m hm)
    refine ⟨x, List.mem_filter.2 ⟨hx, ?_⟩, by rw [forget_port, e1], e2⟩
    rw [e1]; exact hasT_iff.2 (hleft m hm)
  · intro t
    show (ns.map (forgetN ws)).countP (atPort t) ≤ 3
    rw [List.countP_map]
    have e : (atPort t ∘ forgetN ws) = atPort t := by funext n; simp [atPort, forget_port]
    rw [e]
    exact Nat.le_trans (sw.ncnt _) (h.nl t)
end Go.Proofs.YtddgpgldbekamaaGreat
set_option linter.unusedVariables false
set_option linter.unnecessarySimpa false
namespace Go.Proofs.YtddgpgldbekamaaGreat
open Go.RowKit

theorem goodw_snoc {l : List Wr} {x : Wr} (hg : GoodW l) (hok : wrOk x) (hlt : ∀ y ∈ l, y.id < x.id) (hf : x.frm = 0 ∨ ∃ y ∈ l, y.id = x.frm ∧ cfOf x y = 0) : GoodW (l ++ [x]) := by
  refine ⟨?_, ?_, ?_⟩
  · intro y hy
    rcases List.mem_append.1 hy with hy | hy
    · exact hg.1 y hy
    · rw [List.mem_singleton.1 hy]; exact hok
  · rw [List.pairwise_append]
    exact ⟨hg.2.1, by simp, fun y hy z hz => by rw [List.mem_singleton.1 hz]; exact hlt y hy⟩
  · intro y hy
    rcases List.mem_append.1 hy with hy | hy
    · rcases hg.2.2 y hy with h | ⟨z, hz, h⟩
      · exact .inl h
      · exact .inr ⟨z, List.mem_append_left _ hz, h⟩
    · rw [List.mem_singleton.1 hy]
      rcases hf with h | ⟨z, hz, h⟩
      · exact .inl h
      · exact .inr ⟨z, List.mem_append_left _ hz, h⟩
theorem getW_id {r : Rm} {h s : Int} (hc : getC r h s = 0) : (getW r h s).id = atP r.hs h s := by
  have hp := getC_pl hc
  unfold getC at hc
  rw [if_pos hp] at hc
  by_cases hf : find r.ws (atP r.hs h s) < 0
  · rw [if_pos hf] at hc; cases hc
  · obtain ⟨y, hy, he⟩ := find_get (l := r.ws) (id := atP r.hs h s) (j := (find r.ws (atP r.hs h s)).toNat) (by omega)
    unfold getW
    rw [hy]
    exact he
theorem drv_ok {x : Wr} {nw rights badge : Int} (hx : wrOk x) (hn : x.id < nw) (hn2 : nw ≤ 999) (hd : drvCode x rights badge = 0) : wrOk (drvW x nw rights badge) ∧ cfOf (drvW x nw rights badge) x = 0 := by
  obtain ⟨h1, h2, h3, h4, h5⟩ := drvCode_zero hd
  obtain ⟨a1, a2, a3, a4, a5, a6, a7, a8, a9, a10⟩ := hx
  have hb : 0 ≤ (if x.badge = 0 then badge else x.badge) ∧ (if x.badge = 0 then badge else x.badge) ≤ 99 := by split <;> omega
  refine ⟨⟨by show 1 ≤ nw; omega, hn2, a3, a4, hb.1, hb.2, by show 0 ≤ x.id; omega, hn, h1, h2⟩, cfOf_of ⟨h1, h2, hb.1, hb.2, h5⟩ rfl ?_⟩
  show x.badge = 0 ∨ x.badge = if x.badge = 0 then badge else x.badge
  by_cases e : x.badge = 0
  · exact .inl e
  · rw [if_neg e]; exact .inr rfl
theorem whole_get {r : Rm} (h : Whole r) {a b : Int} (hc : getC r a b = 0) : atP r.hs a b ≠ 0 := by
  have := (h.gw.1 _ (getW_mem hc)).1
  rw [getW_id hc] at this
  omega
theorem lt_of_hin {r : Rm} (h : Whole r) : ∀ x ∈ r.hs, x.writ ≠ r.nw := by
  intro x hx e
  obtain ⟨y, hy, e'⟩ := h.hin x hx
  have := h.lw y hy
  omega
theorem lt_of_nin {r : Rm} (h : Whole r) : ∀ n ∈ r.ns, n.writ ≠ r.nw := by
  intro n hn e
  have := h.nw
  rcases h.nin n hn with e' | ⟨y, hy, e'⟩
  · omega
  · have := h.lw y hy
    omega
theorem ncnt_zero_of {l : List Nt} {j : Int} (h : ∀ n ∈ l, n.writ ≠ j) : l.countP (fun n => n.writ == j) = 0 := by
  rw [List.countP_eq_zero]
  intro x hx
  simpa using h x hx
theorem idIn_app {l : List Wr} {x : Wr} {id : Int} (h : idIn l id) : idIn (l ++ [x]) id := by
  obtain ⟨y, hy, e⟩ := h
  exact ⟨y, List.mem_append_left _ hy, e⟩
/-- a new writ, put at a free place -/
theorem one_put {r : Rm} (h : Whole r) {x : Wr} {a b : Int} (hx : x.id = r.nw) (h0 : atP r.hs a b = 0) : ∀ y ∈ r.ws ++ [x], cnt (putL r.hs a b r.nw) r.ns y.id = 1 := by
  intro y hy
  unfold cnt
  have hnw := h.nw
  rw [cnt_put_new h.gh h0 (by omega)]
  rcases List.mem_append.1 hy with hy | hy
  · have h1 := h.one y hy
    have h2 := h.lw y hy
    unfold cnt at h1
    rw [if_neg (by omega)]
    omega
  · rw [List.mem_singleton.1 hy, hx, if_pos rfl, cnt_zero_of (lt_of_hin h), ncnt_zero_of (lt_of_nin h)]
theorem hin_put {r : Rm} (h : Whole r) {x : Wr} {a b : Int} (hx : x.id = r.nw) : ∀ y ∈ putL r.hs a b r.nw, idIn (r.ws ++ [x]) y.writ := by
  intro y hy
  rcases put_mem.1 hy with ⟨h1, _⟩ | ⟨_, rfl⟩
  · exact idIn_app (h.hin y h1)
  · exact ⟨x, by simp, hx⟩
theorem whole_make {r : Rm} {a b kind : Int} (h : Whole r) (hc : makeC r a b kind = 0) : Whole (makeR r a b kind) := by
  unfold makeC at hc
  split at hc
  · cases hc
  · rename_i hk
    split at hc
    · rename_i hne; exact absurd hc hne
    · rename_i hf
      split at hc
      · cases hc
      · rename_i hx
        obtain ⟨hp, h0⟩ := freeC_pl (r := r) (h := a) (s := b) (by simpa using hf)
        have h1 := h.nw
        have h2 := h.nt
        have hkk : kind = 1 ∨ kind = 2 := by omega
        refine ⟨goodw_snoc h.gw ⟨by show 1 ≤ r.nw; omega, by show r.nw ≤ 999; omega, by show 1 ≤ r.nt; omega, by show r.nt ≤ 999; omega, by show (0:Int) ≤ 0; omega, by show (0:Int) ≤ 99; omega, by show (0:Int) ≤ 0; omega, by show 0 < r.nw; omega, by show (0:Int) ≤ 7; omega, by show (7:Int) ≤ 7; omega⟩ h.lw (.inl rfl),
          good_put h.gh hp, by show 1 ≤ r.nw + 1 ∧ r.nw + 1 ≤ 1000; omega, by show 1 ≤ r.nt + 1 ∧ r.nt + 1 ≤ 1000; omega, ?_, ?_, one_put h rfl h0, hin_put h rfl, ?_, ?_, ?_, ?_, ?_, ?_, ?_, h.nl⟩
        · intro x hx
          show x.id < r.nw + 1
          rcases List.mem_append.1 hx with hx | hx
          · have := h.lw x hx; omega
          · rw [List.mem_singleton.1 hx]; show r.nw < r.nw + 1; omega
        · intro x hx
          show x.id < r.nt + 1
          rcases List.mem_append.1 hx with hx | hx
          · have := h.lt x hx; omega
          · rw [List.mem_singleton.1 hx]; show r.nt < r.nt + 1; omega
        · intro n hn
          rcases h.nin n hn with e | e
          · exact .inl e
          · exact .inr (idIn_app e)
        · show (r.ts ++ [_]).Pairwise _
          rw [List.pairwise_append]
          exact ⟨h.tp, by simp, fun x hx y hy => by rw [List.mem_singleton.1 hy]; exact h.lt x hx⟩
        · intro x hx
          rcases List.mem_append.1 hx with hx | hx
          · obtain ⟨y, hy, e⟩ := h.tof x hx
            exact ⟨y, List.mem_append_left _ hy, e⟩
          · rw [List.mem_singleton.1 hx]
            exact ⟨_, List.mem_append_right _ (List.mem_singleton.2 rfl), rfl⟩
        · intro y hy
          rcases List.mem_append.1 hy with hy | hy
          · obtain ⟨x, hx, e⟩ := h.wof y hy
            exact ⟨x, List.mem_append_left _ hx, e⟩
          · rw [List.mem_singleton.1 hy]
            exact ⟨_, List.mem_append_right _ (List.mem_singleton.2 rfl), rfl⟩
        · show (r.ts ++ [_]).length ≤ 10
          simp; omega
        · intro x hx
          rcases List.mem_append.1 hx with hx | hx
          · exact h.tk x hx
          · rw [List.mem_singleton.1 hx]
            rcases hkk with e | e
            · exact .inl ⟨e, by show (ByteArray.empty).size ≤ 8; simp⟩
            · exact .inr ⟨e, rfl⟩
        · intro n hn
          obtain ⟨x, hx, e⟩ := h.np n hn
          exact ⟨x, List.mem_append_left _ hx, e⟩
/-- a writ that is made of one that is there -/
theorem whole_drv {r : Rm} (h : Whole r) {x : Wr} {rights badge : Int} (hx : x ∈ r.ws) (hn : ¬ 999 < r.nw) (hd : drvCode x rights badge = 0) : GoodW (r.ws ++ [drvW x r.nw rights badge]) ∧
    (∀ y ∈ r.ws ++ [drvW x r.nw rights badge], y.id < r.nw + 1) ∧ (∀ t ∈ r.ts, ∃ y ∈ r.ws ++ [drvW x r.nw rights badge], y.thing = t.id) ∧ (∀ y ∈ r.ws ++ [drvW x r.nw rights badge], ∃ t ∈ r.ts, t.id = y.thing) := by
  obtain ⟨h1, h2⟩ := drv_ok (h.gw.1 x hx) (h.lw x hx) (by omega) hd
  refine ⟨goodw_snoc h.gw h1 h.lw (.inr ⟨x, hx, rfl, h2⟩), ?_, ?_, ?_⟩
  · intro y hy
    rcases List.mem_append.1 hy with hy | hy
    · have := h.lw y hy; omega
    · rw [List.mem_singleton.1 hy]; show r.nw < r.nw + 1; omega
  · intro t ht
    obtain ⟨y, hy, e⟩ := h.tof t ht
    exact ⟨y, List.mem_append_left _ hy, e⟩
  · intro y hy
    rcases List.mem_append.1 hy with hy | hy
    · exact h.wof y hy
    · rw [List.mem_singleton.1 hy]; exact h.wof x hx
theorem give_facts {r : Rm} {a b g t rights badge : Int} (hc : giveC r a b g t rights badge = 0) : getC r a b = 0 ∧ freeC r g t = 0 ∧ (g = a ∨ hasB (getW r a b).rights 4 = true) ∧ ¬ 999 < r.nw ∧ drvCode (getW r a b) rights badge = 0 := by
  unfold giveC at hc
  split at hc
  · rename_i hne; exact absurd hc hne
  · rename_i hg
    split at hc
    · rename_i hne; exact absurd hc hne
    · rename_i hf
      split at hc
      · cases hc
      · rename_i hr
        split at hc
        · cases hc
        · rename_i hx
          refine ⟨by simpa using hg, by simpa using hf, ?_, hx, hc⟩
          by_cases e : g = a
          · exact .inl e
          · right
            cases hh : hasB (getW r a b).rights 4 with
            | true => rfl
            | false => exact absurd ⟨e, hh⟩ hr
theorem whole_give {r : Rm} {a b g t rights badge : Int} (h : Whole r) (hc : giveC r a b g t rights badge = 0) : Whole (giveR r a b g t rights badge) := by
  obtain ⟨hg, hf, _, hn, hd⟩ := give_facts hc
  obtain ⟨hp, h0⟩ := freeC_pl hf
  obtain ⟨w1, w2, w3, w4⟩ := whole_drv h (getW_mem hg) hn hd
  have h1 := h.nw
  refine ⟨w1, good_put h.gh hp, by show 1 ≤ r.nw + 1 ∧ r.nw + 1 ≤ 1000; omega, h.nt, w2, h.lt, one_put h rfl h0, hin_put h rfl, ?_, h.tp, w3, w4, h.tl, h.tk, h.np, h.nl⟩
  intro n hn
  rcases h.nin n hn with e | e
  · exact .inl e
  · exact .inr (idIn_app e)
theorem move_facts {r : Rm} {a b t : Int} (hc : moveC r a b t = 0) : getC r a b = 0 ∧ freeC r a t = 0 := by
  unfold moveC at hc
  split at hc
  · rename_i hne; exact absurd hc hne
  · rename_i hg
    exact ⟨by simpa using hg, hc⟩
theorem whole_move {r : Rm} {a b t : Int} (h : Whole r) (hc : moveC r a b t = 0) : Whole (moveR r a b t) := by
  obtain ⟨hg, hf⟩ := move_facts hc
  obtain ⟨hp2, h0⟩ := freeC_pl hf
  have hp1 := getC_pl hg
  have hne := whole_get h hg
  have hid := getW_id hg
  have hts : ¬ (a = a ∧ t = b) := fun e => by rw [e.2] at h0; exact hne h0
  have h0' : atP (putL r.hs a b 0) a t = 0 := by rw [at_put_other _ _ _ _ _ _ hts]; exact h0
  refine ⟨h.gw, good_put (good_put h.gh hp1) hp2, h.nw, h.nt, h.lw, h.lt, ?_, ?_, h.nin, h.tp, h.tof, h.wof, h.tl, h.tk, h.np, h.nl⟩
  · intro y hy
    have h1 := h.one y hy
    show cnt (putL (putL r.hs a b 0) a t (getW r a b).id) r.ns y.id = 1
    unfold cnt at h1 ⊢
    rw [cnt_put_new (good_put h.gh hp1) h0' (by rw [hid]; exact hne), hid]
    have := cnt_put_zero h.gh hne y.id
    omega
  · intro x hx
    rcases put_mem.1 hx with ⟨h1, _⟩ | ⟨_, rfl⟩
    · rcases put_mem.1 h1 with ⟨h2, _⟩ | ⟨e, _⟩
      · exact h.hin x h2
      · exact absurd rfl e
    · exact ⟨getW r a b, getW_mem (r := r) hg, rfl⟩
theorem whole_drop {r : Rm} (h : Whole r) (a b : Int) : Whole (dropR r a b) := by
  unfold dropR
  refine sweep_whole ⟨wo_good h.gw _, h.gh, h.nw, h.nt, ?_, h.lt, ?_, h.tp, ?_, h.tl, h.tk, h.np, h.nl⟩
  · intro z hz
    obtain ⟨x, hx, _, e, _⟩ := wo_mem' hz
    rw [e]; exact h.lw x hx
  · intro z hz
    obtain ⟨x, hx, _, e, _⟩ := wo_mem' hz
    rw [e]; exact h.one x hx
  · intro z hz
    obtain ⟨x, hx, _, _, e, _⟩ := wo_mem' hz
    rw [e]; exact h.wof x hx
theorem good_beneath {l : List Wr} (hg : GoodW l) (a : Int) : GoodW (l.filter (fun x => !inB (beneathL l a) x.id)) := by
  refine ⟨fun x hx => hg.1 x (List.mem_filter.1 hx).1, hg.2.1.filter _, ?_⟩
  intro x hx
  obtain ⟨h1, h2⟩ := List.mem_filter.1 hx
  rcases hg.2.2 x h1 with e | ⟨y, hy, e1, e2⟩
  · exact .inl e
  · by_cases hf : x.frm = 0
    · exact .inl hf
    refine .inr ⟨y, List.mem_filter.2 ⟨hy, ?_⟩, e1, e2⟩
    have hn : ¬ x.id ∈ beneathL l a := by
      intro hm
      simp [inB, hm] at h2
    have : ¬ y.id ∈ beneathL l a := fun hm => hn ((bn_iff hg a h1).2 ⟨hf, .inr (by rw [← e1]; exact hm)⟩)
    simp [inB, this]
theorem whole_revoke {r : Rm} (h : Whole r) (a b : Int) : Whole (revokeR r a b) := by
  unfold revokeR
  exact sweep_whole ⟨good_beneath h.gw _, h.gh, h.nw, h.nt, fun x hx => h.lw x (List.mem_filter.1 hx).1, h.lt, fun x hx => h.one x (List.mem_filter.1 hx).1, h.tp, fun x hx => h.wof x (List.mem_filter.1 hx).1, h.tl, h.tk, h.np, h.nl⟩
theorem whole_quiet {r : Rm} (h : Whole r) : Whole (quietR r) := by
  unfold quietR
  refine sweep_whole ⟨woAll_good _ h.gw, h.gh, h.nw, h.nt, ?_, h.lt, ?_, h.tp, ?_, h.tl, h.tk, (fun n hn => nomatch hn), fun t => by simp⟩
  · intro z hz
    obtain ⟨x, hx, _, e, _⟩ := woAll_mem _ hz
    rw [e]; exact h.lw x hx
  · intro z hz
    obtain ⟨x, hx, hno, e, _⟩ := woAll_mem _ hz
    have h1 := h.one x hx
    rw [e]
    show cnt r.hs [] x.id = 1
    unfold cnt at h1 ⊢
    rw [ncnt_zero_of hno] at h1
    simpa using h1
  · intro z hz
    obtain ⟨x, hx, _, _, e, _⟩ := woAll_mem _ hz
    rw [e]; exact h.wof x hx
/-! ### A cell's data -/
theorem setD_mem {t : Int} {d : ByteArray} : ∀ {l : List Th} {x : Th}, x ∈ setD t d l → ∃ y ∈ l, x.id = y.id ∧ x.kind = y.kind ∧ (x = y ∨ y.id = t ∧ x.data = d)
  | [], x, h => by cases h
  | y :: l, x, h => by
    unfold setD at h
    split at h
    · rename_i e
      rcases List.mem_cons.1 h with rfl | h
      · exact ⟨y, List.mem_cons_self, rfl, rfl, .inr ⟨e, rfl⟩⟩
      · exact ⟨x, List.mem_cons_of_mem _ h, rfl, rfl, .inl rfl⟩
    · rcases List.mem_cons.1 h with rfl | h
      · exact ⟨x, List.mem_cons_self, rfl, rfl, .inl rfl⟩
      · obtain ⟨z, hz, e⟩ := setD_mem h
        exact ⟨z, List.mem_cons_of_mem _ hz, e⟩
theorem setD_keep {t : Int} {d : ByteArray} : ∀ {l : List Th} {y : Th}, y ∈ l → ∃ x ∈ setD t d l, x.id = y.id ∧ x.kind = y.kind
  | [], y, h => by cases h
  | z :: l, y, h => by
    unfold setD
    split
    · rcases List.mem_cons.1 h with rfl | h
      · exact ⟨_, List.mem_cons_self, rfl, rfl⟩
      · exact ⟨y, List.mem_cons_of_mem _ h, rfl, rfl⟩
    · rcases List.mem_cons.1 h with rfl | h
      · exact ⟨_, List.mem_cons_self, rfl, rfl⟩
      · obtain ⟨x, hx, e⟩ := setD_keep h
        exact ⟨x, List.mem_cons_of_mem _ hx, e⟩
theorem setD_ids (t : Int) (d : ByteArray) : ∀ l : List Th, (setD t d l).map (·.id) = l.map (·.id)
  | [] => rfl
  | x :: l => by
    unfold setD
    split
    · rfl
    · simp [setD_ids t d l]
theorem ids_pair {l : List Th} : l.Pairwise (fun x y => x.id < y.id) ↔ (l.map (·.id)).Pairwise (· < ·) := by rw [List.pairwise_map]
theorem who_facts {r : Rm} {a b kind rights : Int} (hc : whoC r a b kind rights = 0) : getC r a b = 0 ∧ (∃ x ∈ r.ts, x.id = (getW r a b).thing ∧ x.kind = kind ∧ r.ts.find? (thIs (getW r a b).thing) = some x) ∧ hasB (getW r a b).rights rights = true := by
  unfold whoC at hc
  split at hc
  · rename_i hne; exact absurd hc hne
  · rename_i hg
    split at hc
    · cases hc
    · rename_i hk
      split at hc
      · cases hc
      · rename_i hr
        refine ⟨by simpa using hg, ?_, by simpa using hr⟩
        unfold kindIs at hk
        cases hf : r.ts.find? (thIs (getW r a b).thing) with
        | none => rw [hf] at hk; simp at hk
        | some x =>
          rw [hf] at hk
          have h1 := List.find?_some hf
          exact ⟨x, List.mem_of_find?_eq_some hf, by simpa [thIs] using h1, by simpa using hk, rfl⟩
theorem th_uniq {l : List Th} (h : l.Pairwise (fun x y => x.id < y.id)) {x y : Th} (hx : x ∈ l) (hy : y ∈ l) (e : x.id = y.id) : x = y := by
  obtain ⟨i, hi, rfl⟩ := List.getElem_of_mem hx
  obtain ⟨j, hj, rfl⟩ := List.getElem_of_mem hy
  rw [List.pairwise_iff_getElem] at h
  rcases Nat.lt_trichotomy i j with hlt | heq | hgt
  · have := h i j hi hj hlt; omega
  · subst heq; rfl
  · have := h j i hj hi hgt; omega
theorem write_facts {r : Rm} {a b : Int} {d : ByteArray} (hc : writeC r a b d = 0) : whoC r a b 1 2 = 0 ∧ d.size ≤ 8 := by
  unfold writeC at hc
  split at hc
  · rename_i hne; exact absurd hc hne
  · rename_i hg
    split at hc
    · cases hc
    · exact ⟨by simpa using hg, by omega⟩
theorem whole_write {r : Rm} {a b : Int} {d : ByteArray} (h : Whole r) (hc : writeC r a b d = 0) : Whole (writeR r a b d) := by
  obtain ⟨hw, hd⟩ := write_facts hc
  obtain ⟨hg, ⟨c, hcm, hci, hck, _⟩, _⟩ := who_facts hw
  refine ⟨h.gw, h.gh, h.nw, h.nt, h.lw, ?_, h.one, h.hin, h.nin, ?_, ?_, ?_, ?_, ?_, ?_, h.nl⟩
  · intro x hx
    obtain ⟨y, hy, e, _⟩ := setD_mem hx
    rw [e]; exact h.lt y hy
  · show (setD _ _ _).Pairwise _
    rw [ids_pair, setD_ids, ← ids_pair]; exact h.tp
  · intro x hx
    obtain ⟨y, hy, e, _⟩ := setD_mem hx
    rw [e]; exact h.tof y hy
  · intro y hy
    obtain ⟨x, hx, e⟩ := h.wof y hy
    obtain ⟨z, hz, e1, _⟩ := setD_keep (t := (getW r a b).thing) (d := d) hx
    exact ⟨z, hz, e1.trans e⟩
  · show (setD _ _ _).length ≤ 10
    rw [setD_len]; exact h.tl
  · intro x hx
    obtain ⟨y, hy, e1, e2, e3⟩ := setD_mem hx
    rcases e3 with rfl | ⟨e3, e4⟩
    · exact h.tk x hy
    · have : y = c := th_uniq h.tp hy hcm (e3.trans hci.symm)
      subst this
      exact .inl ⟨e2.trans hck, by rw [e4]; exact hd⟩
  · intro n hn
    obtain ⟨x, hx, e1, e2⟩ := h.np n hn
    obtain ⟨z, hz, f1, f2⟩ := setD_keep (t := (getW r a b).thing) (d := d) hx
    exact ⟨z, hz, f1.trans e1, f2.trans e2⟩
/-! ### Notes -/
theorem send_facts {r : Rm} {a b : Int} {d : ByteArray} {t rights : Int} (hc : sendC r a b d t rights = 0) : whoC r a b 2 2 = 0 ∧ d.size ≤ 8 ∧ (waitL r (getW r a b).thing).length < 3 ∧
    (t < 0 ∨ 0 ≤ t ∧ hasB (getW r a b).rights 4 = true ∧ getC r a t = 0 ∧ ¬ 999 < r.nw ∧ drvCode (getW r a t) rights 0 = 0) := by
  unfold sendC at hc
  split at hc
  · rename_i hne; exact absurd hc hne
  · rename_i hg
    split at hc
    · cases hc
    · rename_i hd
      split at hc
      · cases hc
      · rename_i hl
        refine ⟨by simpa using hg, by omega, by omega, ?_⟩
        split at hc
        · exact .inl ‹_›
        · rename_i ht
          split at hc
          · cases hc
          · rename_i hr
            split at hc
            · rename_i hne; exact absurd hc hne
            · rename_i hgt
              split at hc
              · cases hc
              · rename_i hx
                exact .inr ⟨by omega, by simpa using hr, by simpa using hgt, hx, hc⟩
theorem wait_len (r : Rm) (t : Int) : (waitL r t).length = r.ns.countP (atPort t) := by unfold waitL; rw [List.countP_eq_length_filter]
theorem nl_snoc {r : Rm} (h : Whole r) {m : Nt} (hl : (waitL r m.port).length < 3) : ∀ t, (r.ns ++ [m]).countP (atPort t) ≤ 3 := by
  intro t
  rw [wait_len] at hl
  have := h.nl t
  rw [List.countP_append, List.countP_cons, List.countP_nil]
  cases hh : atPort t m with
  | false => simp; exact this
  | true =>
    have : m.port = t := by simpa [atPort] using hh
    subst this
    simp; omega
theorem whole_send {r : Rm} {a b : Int} {d : ByteArray} {t rights : Int} (h : Whole r) (hc : sendC r a b d t rights = 0) : Whole (sendR r a b d t rights) := by
  obtain ⟨hw, hd, hl, ht⟩ := send_facts hc
  obtain ⟨hg, ⟨c, hcm, hci, hck, _⟩, _⟩ := who_facts hw
  have hnw := h.nw
  unfold sendR
  rcases ht with ht | ⟨ht, _, hgt, hn, hdv⟩
  · rw [if_pos ht]
    refine ⟨h.gw, h.gh, h.nw, h.nt, h.lw, h.lt, ?_, h.hin, ?_, h.tp, h.tof, h.wof, h.tl, h.tk, ?_, nl_snoc h hl⟩
    · intro x hx
      have h1 := h.one x hx
      have h2 := (h.gw.1 x hx).1
      show cnt r.hs (r.ns ++ [_]) x.id = 1
      unfold cnt at h1 ⊢
      rw [List.countP_append, List.countP_cons, List.countP_nil]
      have : ¬ ((0 : Int) == x.id) = true := by simp; omega
      rw [if_neg this]
      omega
    · intro n hn
      rcases List.mem_append.1 hn with hn | hn
      · exact h.nin n hn
      · rw [List.mem_singleton.1 hn]; exact .inl rfl
    · intro n hn
      rcases List.mem_append.1 hn with hn | hn
      · exact h.np n hn
      · rw [List.mem_singleton.1 hn]; exact ⟨c, hcm, hci, hck⟩
  · rw [if_neg (by omega)]
    obtain ⟨w1, w2, w3, w4⟩ := whole_drv h (getW_mem hgt) hn hdv
    refine ⟨w1, h.gh, by show 1 ≤ r.nw + 1 ∧ r.nw + 1 ≤ 1000; omega, h.nt, w2, h.lt, ?_, fun x hx => idIn_app (h.hin x hx), ?_, h.tp, w3, w4, h.tl, h.tk, ?_, nl_snoc h hl⟩
    · intro x hx
      show cnt r.hs (r.ns ++ [_]) x.id = 1
      unfold cnt
      rw [List.countP_append, List.countP_cons, List.countP_nil]
      rcases List.mem_append.1 hx with hx | hx
      · have h1 := h.one x hx
        have h2 := h.lw x hx
        unfold cnt at h1
        have : ¬ (r.nw == x.id) = true := by simp; omega
        rw [if_neg this]
        omega
      · rw [List.mem_singleton.1 hx]
        show r.hs.countP (fun y => y.writ == r.nw) + (r.ns.countP (fun n => n.writ == r.nw) + (0 + if (r.nw == r.nw) = true then 1 else 0)) = 1
        rw [cnt_zero_of (lt_of_hin h), ncnt_zero_of (lt_of_nin h)]
        simp
    · intro n hn
      rcases List.mem_append.1 hn with hn | hn
      · rcases h.nin n hn with e | e
        · exact .inl e
        · exact .inr (idIn_app e)
      · rw [List.mem_singleton.1 hn]; exact .inr ⟨_, List.mem_append_right _ (List.mem_singleton.2 rfl), rfl⟩
    · intro n hn
      rcases List.mem_append.1 hn with hn | hn
      · exact h.np n hn
      · rw [List.mem_singleton.1 hn]; exact ⟨c, hcm, hci, hck⟩
theorem take_facts {r : Rm} {a b : Int} (hc : takeC r a b = 0) : whoC r a b 2 1 = 0 ∧ (∃ (j : Nat), idx (atPort (getW r a b).thing) r.ns = (j : Int) ∧ r.ns[j]? = some (noteAt r a b) ∧ (noteAt r a b).port = (getW r a b).thing) ∧ ((noteAt r a b).writ = 0 ∨ (noteAt r a b).writ ≠ 0 ∧ 0 ≤ freeP r.hs a) := by
  unfold takeC at hc
  split at hc
  · rename_i hne; exact absurd hc hne
  · rename_i hg
    split at hc
    · cases hc
    · rename_i hn
      split at hc
      · cases hc
      · rename_i hx
        refine ⟨by simpa using hg, ?_, ?_⟩
        · rcases idx_cases (atPort (getW r a b).thing) r.ns with ⟨_, h2⟩ | ⟨j, x, h1, h2, h3, h4⟩
          · rw [h2] at hn; simp at hn
          · have : noteAt r a b = x := by unfold noteAt; rw [h4]
            exact ⟨j, h1, by rw [this]; exact h2, by rw [this]; simpa [atPort] using h3⟩
        · by_cases e : (noteAt r a b).writ = 0
          · exact .inl e
          · refine .inr ⟨e, ?_⟩
            by_cases hlt : freeP r.hs a < 0
            · exact absurd ⟨e, hlt⟩ hx
            · omega
theorem erase_cnt {α : Type} (p : α → Bool) : ∀ {l : List α} {j : Nat} {x : α}, l[j]? = some x → (l.eraseIdx j).countP p + (if p x = true then 1 else 0) = l.countP p
  | [], j, x, h => by simp at h
  | y :: l, 0, x, h => by
    have : y = x := by simpa using h
    subst this
    simp [List.countP_cons]
  | y :: l, j + 1, x, h => by
    have ih := erase_cnt p (l := l) (j := j) (x := x) (by simpa using h)
    rw [List.eraseIdx_cons_succ, List.countP_cons, List.countP_cons]
    omega
theorem whole_take {r : Rm} {a b : Int} (h : Whole r) (hc : takeC r a b = 0) : Whole (takeR r a b) := by
  obtain ⟨hw, ⟨j, hj, hjn, hjp⟩, hwr⟩ := take_facts hc
  have hg := whoC_get hw
  have hp := getC_pl hg
  have hmem : noteAt r a b ∈ r.ns := List.mem_of_getElem? hjn
  have hsub : ∀ n ∈ r.ns.eraseIdx j, n ∈ r.ns := fun n hn => List.mem_of_mem_eraseIdx hn
  unfold takeR
  rw [hj, Int.toNat_natCast]
  have common : ∀ t, (r.ns.eraseIdx j).countP (atPort t) ≤ 3 := by
    intro t
    have := erase_cnt (atPort t) hjn
    have := h.nl t
    omega
  rcases hwr with e | ⟨e, hfr⟩
  · rw [if_pos e]
    refine ⟨h.gw, h.gh, h.nw, h.nt, h.lw, h.lt, ?_, h.hin, fun n hn => h.nin n (hsub n hn), h.tp, h.tof, h.wof, h.tl, h.tk, fun n hn => h.np n (hsub n hn), common⟩
    intro x hx
    have h1 := h.one x hx
    have h2 := (h.gw.1 x hx).1
    have h3 := erase_cnt (fun n : Nt => n.writ == x.id) hjn
    show cnt r.hs (r.ns.eraseIdx j) x.id = 1
    unfold cnt at h1 ⊢
    rw [e, if_neg (by simp; omega)] at h3
    omega
  · rw [if_neg e]
    rcases free_spec r.hs a with ⟨h1, _⟩ | ⟨m, h1, h2, h3, _⟩
    · omega
    rw [h1]
    have hpm : plOk a (m : Int) := ⟨hp.1, hp.2.1, by omega, by omega⟩
    refine ⟨h.gw, good_put h.gh hpm, h.nw, h.nt, h.lw, h.lt, ?_, ?_, fun n hn => h.nin n (hsub n hn), h.tp, h.tof, h.wof, h.tl, h.tk, fun n hn => h.np n (hsub n hn), common⟩
    · intro x hx
      have h4 := h.one x hx
      have h5 := erase_cnt (fun n : Nt => n.writ == x.id) hjn
      show cnt (putL r.hs a m (noteAt r a b).writ) (r.ns.eraseIdx j) x.id = 1
      unfold cnt at h4 ⊢
      rw [cnt_put_new h.gh h3 e]
      simp only [beq_iff_eq] at h5
      omega
    · intro x hx
      rcases put_mem.1 hx with ⟨h4, _⟩ | ⟨_, rfl⟩
      · exact h.hin x h4
      · rcases h.nin _ hmem with h5 | h5
        · exact absurd h5 e
        · exact h5
/-! ### What is whole needs no sweep -/
theorem sweepN_none {f : Nat} {ws : List Wr} {ns : List Nt} (h : lostL ws ns = []) : sweepN (f + 1) ws ns = (ws, ns) := by
  unfold sweepN
  rw [if_pos h]
theorem whole_lost {r : Rm} (h : Whole r) : lostL r.ws r.ns = [] := by
  rw [List.eq_nil_iff_forall_not_mem]
  intro n hn
  obtain ⟨h1, h2⟩ := mem_lost.1 hn
  obtain ⟨x, hx, e, _⟩ := h.np n h1
  obtain ⟨y, hy, e'⟩ := h.tof x hx
  rw [hasT_iff.2 ⟨y, hy, e'.trans e⟩] at h2
  cases h2
theorem forget_id {ws : List Wr} {n : Nt} (h : n.writ = 0 ∨ idIn ws n.writ) : forgetN ws n = n := by
  unfold forgetN
  split
  · rename_i hf
    rcases h with h | h
    · exact Nt.ext4 rfl rfl rfl h.symm
    · exact absurd h (find_neg_iff.1 hf)
  · rfl
theorem sweep_id {r : Rm} (h : Whole r) : sweepR r = r := by
  unfold sweepR
  rw [sweepN_none (whole_lost h)]
  have h1 : r.ts.filter (fun t => hasT r.ws t.id) = r.ts := by
    rw [List.filter_eq_self]; intro x hx; exact hasT_iff.2 (h.tof x hx)
  have h2 : r.hs.filter (fun h => decide (0 ≤ find r.ws h.writ)) = r.hs := by
    rw [List.filter_eq_self]; intro x hx; exact decide_eq_true (find_pos_iff.2 (h.hin x hx))
  have h3 : r.ns.map (forgetN r.ws) = r.ns := by
    conv => rhs; rw [← List.map_id r.ns]
    exact List.map_congr_left (fun n hn => forget_id (h.nin n hn))
  dsimp only
  rw [h1, h2, h3]
end Go.Proofs.YtddgpgldbekamaaGreat
set_option linter.unusedVariables false
set_option linter.unnecessarySimpa false
namespace Go.Proofs.YtddgpgldbekamaaGreat
open Go.RowKit

/-! ### A cell -/
/-! ### Made, and dropped -/
end Go.Proofs.YtddgpgldbekamaaGreat
set_option linter.unusedVariables false
set_option linter.unnecessarySimpa false
namespace Go.Proofs.YtddgpgldbekamaaGreat
open Go.RowKit

/-! ### What is held stays, behind a sweep -/
theorem held_note {r : Rm} (one : ∀ x ∈ r.ws, cnt r.hs r.ns x.id = 1) {x : Wr} (hx : x ∈ r.ws) {a : Hd} (ha : a ∈ r.hs) (ea : a.writ = x.id) : ∀ n ∈ r.ns, n.writ ≠ x.id := by
  intro n hn e
  have h1 := one x hx
  unfold cnt at h1
  have h2 : 0 < r.hs.countP (fun y => y.writ == x.id) := List.countP_pos_iff.2 ⟨a, ha, by simpa using ea⟩
  have h3 : 0 < r.ns.countP (fun y => y.writ == x.id) := List.countP_pos_iff.2 ⟨n, hn, by simpa using e⟩
  omega
/-- the values that writs were made of come from those ahead -/
def FrmIn (ws ws' : List Wr) : Prop := ∀ z ∈ ws', ∃ x ∈ ws, z.frm = x.frm
theorem FrmIn.trans {a b c : List Wr} (h : FrmIn a b) (h' : FrmIn b c) : FrmIn a c := by
  intro z hz
  obtain ⟨y, hy, e⟩ := h' z hz
  obtain ⟨x, hx, e'⟩ := h y hy
  exact ⟨x, hx, e.trans e'⟩
/-- things are just those of writs (C4, E4) -/
theorem th_mem999 {r : Rm} (hW : Whole r) (t : Int) : t ∈ thUp r.ws 999 ↔ ∃ x ∈ r.ws, x.thing = t := by
  rw [thUp_mem]
  constructor
  · rintro ⟨_, _, h⟩; exact h
  · rintro ⟨x, hx, e⟩
    have := hW.gw.1 x hx
    exact ⟨by rw [← e]; exact this.2.2.1, by rw [← e]; have h2 := this.2.2.2.1; omega, x, hx, e⟩
theorem things_of_good {l : List Wr} (hg : GoodW l) : thingsL l = thUp l 999 := things_eq (fun x hx => ⟨(hg.1 x hx).2.2.1, (hg.1 x hx).2.2.2.1⟩)
theorem top_things {r : Rm} (hW : Whole r) : r.ts.map (·.id) = thingsL r.ws := by
  rw [things_of_good hW.gw]
  refine pair_ext (ids_pair.1 hW.tp) (thUp_pair _ _) (fun t => ?_)
  rw [th_mem999 hW, List.mem_map]
  constructor
  · rintro ⟨x, hx, rfl⟩; exact hW.tof x hx
  · rintro ⟨y, hy, rfl⟩
    obtain ⟨x, hx, e⟩ := hW.wof y hy
    exact ⟨x, hx, e⟩
/-! ### Quiet (E6) -/
theorem len_bij : ∀ {a : List Int} {b : List Int}, a.Nodup → (∀ x ∈ a, b.count x = 1) → (∀ y ∈ b, y ∈ a) → b.length = a.length
  | [], b, _, _, h => by
    cases b with
    | nil => rfl
    | cons y b => exact absurd (h y List.mem_cons_self) (by simp)
  | x :: a, b, hn, h1, h2 => by
    have hx := h1 x List.mem_cons_self
    have hm : x ∈ b := List.count_pos_iff.1 (by omega)
    have hl := List.length_erase_of_mem hm
    have hpos : 0 < b.length := List.length_pos_of_mem hm
    rw [List.nodup_cons] at hn
    have ih := len_bij (a := a) (b := b.erase x) hn.2 (fun y hy => by
      have hne : y ≠ x := fun e => hn.1 (e ▸ hy)
      rw [List.count_erase_of_ne hne]
      exact h1 y (List.mem_cons_of_mem _ hy)) (fun y hy => by
      have hy' := List.mem_of_mem_erase hy
      rcases List.mem_cons.1 (h2 y hy') with e | e
      · subst e
        have h3 : (b.erase y).count y = 0 := by rw [List.count_erase_self]; omega
        exact absurd (List.count_pos_iff.2 hy) (by omega)
      · exact e)
    rw [List.length_cons]
    omega
theorem top_quiet {r : Rm} (hW : Whole r) : (quietR r).ns = [] ∧ (quietR r).hs = r.hs ∧ (quietR r).hs.length = (quietR r).ws.length ∧ quietR (quietR r) = quietR r := by
  have hQ := whole_quiet hW
  have hns : (quietR r).ns = [] := rfl
  have hws : (quietR r).ws = woAll r.ws r.ns := rfl
  refine ⟨hns, ?_, ?_, ?_⟩
  · show r.hs.filter (fun y => decide (0 ≤ find (woAll r.ws r.ns) y.writ)) = r.hs
    rw [List.filter_eq_self]
    intro a ha
    obtain ⟨x, hx, e⟩ := hW.hin a ha
    obtain ⟨z, hz, e1, _⟩ := woAll_keep r.ns hx (held_note hW.one hx ha e.symm)
    exact decide_eq_true (find_pos_iff.2 ⟨z, hz, e1.trans e⟩)
  · have h1 : ((quietR r).ws.map (·.id)).Nodup := by
      have := hQ.gw.2.1
      rw [List.Nodup, List.pairwise_map]
      exact this.imp (fun h => by omega)
    have := len_bij (b := (quietR r).hs.map (·.writ)) h1 (fun y hy => by
      obtain ⟨x, hx, rfl⟩ := List.mem_map.1 hy
      have h2 := hQ.one x hx
      unfold cnt at h2
      rw [hns, List.countP_nil, Nat.add_zero] at h2
      rw [List.count, List.countP_map]
      exact h2) (fun y hy => by
      obtain ⟨a, ha, rfl⟩ := List.mem_map.1 hy
      obtain ⟨x, hx, e⟩ := hQ.hin a ha
      exact List.mem_map.2 ⟨x, hx, e⟩)
    simpa using this
  · have : quietR (quietR r) = sweepR (quietR r) := by
      unfold quietR
      congr 1
    rw [this, sweep_id hQ]
end Go.Proofs.YtddgpgldbekamaaGreat
set_option linter.unusedVariables false
set_option linter.unnecessarySimpa false
namespace Go.Proofs.YtddgpgldbekamaaGreat
open Go.RowKit

/-! ### Notes (E8, E9) -/
/-! ### Who is not given anything gets nothing -/
end Go.Proofs.YtddgpgldbekamaaGreat
