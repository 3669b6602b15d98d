/- Whatever is done to a realm that is whole, it is whole: each act of chapter 5 on plain data. -/
import Derived.Test.YtpmkkmndgicbgaaGreatRealmLaw
set_option linter.unusedVariables false
set_option linter.unnecessarySimpa false
namespace Go.Proofs.YtpmkkmndgicbgaaGreat
open Go.RowKit

theorem goodw_snoc {l : List Wr} {x : Wr} (hg : GoodW l) (hok : wrOk x) (hlt : ∀ y ∈ l, y.id < x.id) (hf : x.frm = 0 ∨ ∃ y ∈ l, y.id = x.frm ∧ cfOf x y = 0) : GoodW (l ++ [x]) := by
  refine ⟨?_, ?_, ?_⟩
  · intro y hy
    rcases List.mem_append.1 hy with hy | hy
    · exact hg.1 y hy
    · rw [List.mem_singleton.1 hy]; exact hok
  · rw [List.pairwise_append]
    exact ⟨hg.2.1, by simp, fun y hy z hz => by rw [List.mem_singleton.1 hz]; exact hlt y hy⟩
  · intro y hy
    rcases List.mem_append.1 hy with hy | hy
    · rcases hg.2.2 y hy with h | ⟨z, hz, h⟩
      · exact .inl h
      · exact .inr ⟨z, List.mem_append_left _ hz, h⟩
    · rw [List.mem_singleton.1 hy]
      rcases hf with h | ⟨z, hz, h⟩
      · exact .inl h
      · exact .inr ⟨z, List.mem_append_left _ hz, h⟩
theorem getW_id {r : Rm} {h s : Int} (hc : getC r h s = 0) : (getW r h s).id = atP r.hs h s := by
  have hp := getC_pl hc
  unfold getC at hc
  rw [if_pos hp] at hc
  by_cases hf : find r.ws (atP r.hs h s) < 0
  · rw [if_pos hf] at hc; cases hc
  · obtain ⟨y, hy, he⟩ := find_get (l := r.ws) (id := atP r.hs h s) (j := (find r.ws (atP r.hs h s)).toNat) (by omega)
    unfold getW
    rw [hy]
    exact he
theorem getC_of {r : Rm} (hg : r.ws.Pairwise (fun x y => x.id < y.id)) {h s : Int} (hp : plOk h s) {x : Wr} (hx : x ∈ r.ws) (he : x.id = atP r.hs h s) : getC r h s = 0 ∧ getW r h s = x := by
  have hc : getC r h s = 0 := by
    unfold getC
    rw [if_pos hp, if_neg (by have := find_pos_iff.2 ⟨x, hx, he⟩; omega)]
  exact ⟨hc, uniqW hg (getW_mem hc) hx ((getW_id hc).trans he.symm)⟩
theorem getC_no {r : Rm} {h s : Int} (hp : plOk h s) (he : ¬ idIn r.ws (atP r.hs h s)) : getC r h s = 5 := by
  unfold getC
  rw [if_pos hp, if_pos (find_neg_iff.2 he)]
theorem getC_bad {r : Rm} {h s : Int} (hp : ¬ plOk h s) : getC r h s = 1 := by unfold getC; rw [if_neg hp]
theorem drv_ok {x : Wr} {nw rights badge : Int} (hx : wrOk x) (hn : x.id < nw) (hn2 : nw ≤ 999) (hd : drvCode x rights badge = 0) : wrOk (drvW x nw rights badge) ∧ cfOf (drvW x nw rights badge) x = 0 := by
  obtain ⟨h1, h2, h3, h4, h5⟩ := drvCode_zero hd
  obtain ⟨a1, a2, a3, a4, a5, a6, a7, a8, a9, a10⟩ := hx
  have hb : 0 ≤ (if x.badge = 0 then badge else x.badge) ∧ (if x.badge = 0 then badge else x.badge) ≤ 99 := by split <;> omega
  refine ⟨⟨by show 1 ≤ nw; omega, hn2, a3, a4, hb.1, hb.2, by show 0 ≤ x.id; omega, hn, h1, h2⟩, cfOf_of ⟨h1, h2, hb.1, hb.2, h5⟩ rfl ?_⟩
  show x.badge = 0 ∨ x.badge = if x.badge = 0 then badge else x.badge
  by_cases e : x.badge = 0
  · exact .inl e
  · rw [if_neg e]; exact .inr rfl
theorem whole_get {r : Rm} (h : Whole r) {a b : Int} (hc : getC r a b = 0) : atP r.hs a b ≠ 0 := by
  have := (h.gw.1 _ (getW_mem hc)).1
  rw [getW_id hc] at this
  omega
theorem lt_of_hin {r : Rm} (h : Whole r) : ∀ x ∈ r.hs, x.writ ≠ r.nw := by
  intro x hx e
  obtain ⟨y, hy, e'⟩ := h.hin x hx
  have := h.lw y hy
  omega
theorem lt_of_nin {r : Rm} (h : Whole r) : ∀ n ∈ r.ns, n.writ ≠ r.nw := by
  intro n hn e
  have := h.nw
  rcases h.nin n hn with e' | ⟨y, hy, e'⟩
  · omega
  · have := h.lw y hy
    omega
theorem ncnt_zero_of {l : List Nt} {j : Int} (h : ∀ n ∈ l, n.writ ≠ j) : l.countP (fun n => n.writ == j) = 0 := by
  rw [List.countP_eq_zero]
  intro x hx
  simpa using h x hx
theorem idIn_app {l : List Wr} {x : Wr} {id : Int} (h : idIn l id) : idIn (l ++ [x]) id := by
  obtain ⟨y, hy, e⟩ := h
  exact ⟨y, List.mem_append_left _ hy, e⟩
theorem things_of {r : Rm} (h : Whole r) : ∀ x ∈ r.ws, x.thing < r.nt := by
  intro x hx
  obtain ⟨t, ht, e⟩ := h.wof x hx
  rw [← e]; exact h.lt t ht
/-- a new writ, put at a free place -/
theorem one_put {r : Rm} (h : Whole r) {x : Wr} {a b : Int} (hx : x.id = r.nw) (h0 : atP r.hs a b = 0) : ∀ y ∈ r.ws ++ [x], cnt (putL r.hs a b r.nw) r.ns y.id = 1 := by
  intro y hy
  unfold cnt
  have hnw := h.nw
  rw [cnt_put_new h.gh h0 (by omega)]
  rcases List.mem_append.1 hy with hy | hy
  · have h1 := h.one y hy
    have h2 := h.lw y hy
    unfold cnt at h1
    rw [if_neg (by omega)]
    omega
  · rw [List.mem_singleton.1 hy, hx, if_pos rfl, cnt_zero_of (lt_of_hin h), ncnt_zero_of (lt_of_nin h)]
theorem hin_put {r : Rm} (h : Whole r) {x : Wr} {a b : Int} (hx : x.id = r.nw) : ∀ y ∈ putL r.hs a b r.nw, idIn (r.ws ++ [x]) y.writ := by
  intro y hy
  rcases put_mem.1 hy with ⟨h1, _⟩ | ⟨_, rfl⟩
  · exact idIn_app (h.hin y h1)
  · exact ⟨x, by simp, hx⟩
theorem whole_make {r : Rm} {a b kind : Int} (h : Whole r) (hc : makeC r a b kind = 0) : Whole (makeR r a b kind) := by
  unfold makeC at hc
  split at hc
  · cases hc
  · rename_i hk
    split at hc
    · rename_i hne; exact absurd hc hne
    · rename_i hf
      split at hc
      · cases hc
      · rename_i hx
        obtain ⟨hp, h0⟩ := freeC_pl (r := r) (h := a) (s := b) (by simpa using hf)
        have h1 := h.nw
        have h2 := h.nt
        have hkk : kind = 1 ∨ kind = 2 := by omega
        refine ⟨goodw_snoc h.gw ⟨by show 1 ≤ r.nw; omega, by show r.nw ≤ 999; omega, by show 1 ≤ r.nt; omega, by show r.nt ≤ 999; omega, by show (0:Int) ≤ 0; omega, by show (0:Int) ≤ 99; omega, by show (0:Int) ≤ 0; omega, by show 0 < r.nw; omega, by show (0:Int) ≤ 7; omega, by show (7:Int) ≤ 7; omega⟩ h.lw (.inl rfl),
          good_put h.gh hp, by show 1 ≤ r.nw + 1 ∧ r.nw + 1 ≤ 1000; omega, by show 1 ≤ r.nt + 1 ∧ r.nt + 1 ≤ 1000; omega, ?_, ?_, one_put h rfl h0, hin_put h rfl, ?_, ?_, ?_, ?_, ?_, ?_, ?_, h.nl⟩
        · intro x hx
          show x.id < r.nw + 1
          rcases List.mem_append.1 hx with hx | hx
          · have := h.lw x hx; omega
          · rw [List.mem_singleton.1 hx]; show r.nw < r.nw + 1; omega
        · intro x hx
          show x.id < r.nt + 1
          rcases List.mem_append.1 hx with hx | hx
          · have := h.lt x hx; omega
          · rw [List.mem_singleton.1 hx]; show r.nt < r.nt + 1; omega
        · intro n hn
          rcases h.nin n hn with e | e
          · exact .inl e
          · exact .inr (idIn_app e)
        · show (r.ts ++ [_]).Pairwise _
          rw [List.pairwise_append]
          exact ⟨h.tp, by simp, fun x hx y hy => by rw [List.mem_singleton.1 hy]; exact h.lt x hx⟩
        · intro x hx
          rcases List.mem_append.1 hx with hx | hx
          · obtain ⟨y, hy, e⟩ := h.tof x hx
            exact ⟨y, List.mem_append_left _ hy, e⟩
          · rw [List.mem_singleton.1 hx]
            exact ⟨_, List.mem_append_right _ (List.mem_singleton.2 rfl), rfl⟩
        · intro y hy
          rcases List.mem_append.1 hy with hy | hy
          · obtain ⟨x, hx, e⟩ := h.wof y hy
            exact ⟨x, List.mem_append_left _ hx, e⟩
          · rw [List.mem_singleton.1 hy]
            exact ⟨_, List.mem_append_right _ (List.mem_singleton.2 rfl), rfl⟩
        · show (r.ts ++ [_]).length ≤ 10
          simp; omega
        · intro x hx
          rcases List.mem_append.1 hx with hx | hx
          · exact h.tk x hx
          · rw [List.mem_singleton.1 hx]
            rcases hkk with e | e
            · exact .inl ⟨e, by show (ByteArray.empty).size ≤ 8; simp⟩
            · exact .inr ⟨e, rfl⟩
        · intro n hn
          obtain ⟨x, hx, e⟩ := h.np n hn
          exact ⟨x, List.mem_append_left _ hx, e⟩
/-- a writ that is made of one that is there -/
theorem whole_drv {r : Rm} (h : Whole r) {x : Wr} {rights badge : Int} (hx : x ∈ r.ws) (hn : ¬ 999 < r.nw) (hd : drvCode x rights badge = 0) : GoodW (r.ws ++ [drvW x r.nw rights badge]) ∧
    (∀ y ∈ r.ws ++ [drvW x r.nw rights badge], y.id < r.nw + 1) ∧ (∀ t ∈ r.ts, ∃ y ∈ r.ws ++ [drvW x r.nw rights badge], y.thing = t.id) ∧ (∀ y ∈ r.ws ++ [drvW x r.nw rights badge], ∃ t ∈ r.ts, t.id = y.thing) := by
  obtain ⟨h1, h2⟩ := drv_ok (h.gw.1 x hx) (h.lw x hx) (by omega) hd
  refine ⟨goodw_snoc h.gw h1 h.lw (.inr ⟨x, hx, rfl, h2⟩), ?_, ?_, ?_⟩
  · intro y hy
    rcases List.mem_append.1 hy with hy | hy
    · have := h.lw y hy; omega
    · rw [List.mem_singleton.1 hy]; show r.nw < r.nw + 1; omega
  · intro t ht
    obtain ⟨y, hy, e⟩ := h.tof t ht
    exact ⟨y, List.mem_append_left _ hy, e⟩
  · intro y hy
    rcases List.mem_append.1 hy with hy | hy
    · exact h.wof y hy
    · rw [List.mem_singleton.1 hy]; exact h.wof x hx
theorem give_facts {r : Rm} {a b g t rights badge : Int} (hc : giveC r a b g t rights badge = 0) : getC r a b = 0 ∧ freeC r g t = 0 ∧ (g = a ∨ hasB (getW r a b).rights 4 = true) ∧ ¬ 999 < r.nw ∧ drvCode (getW r a b) rights badge = 0 := by
  unfold giveC at hc
  split at hc
  · rename_i hne; exact absurd hc hne
  · rename_i hg
    split at hc
    · rename_i hne; exact absurd hc hne
    · rename_i hf
      split at hc
      · cases hc
      · rename_i hr
        split at hc
        · cases hc
        · rename_i hx
          refine ⟨by simpa using hg, by simpa using hf, ?_, hx, hc⟩
          by_cases e : g = a
          · exact .inl e
          · right
            cases hh : hasB (getW r a b).rights 4 with
            | true => rfl
            | false => exact absurd ⟨e, hh⟩ hr
theorem whole_give {r : Rm} {a b g t rights badge : Int} (h : Whole r) (hc : giveC r a b g t rights badge = 0) : Whole (giveR r a b g t rights badge) := by
  obtain ⟨hg, hf, _, hn, hd⟩ := give_facts hc
  obtain ⟨hp, h0⟩ := freeC_pl hf
  obtain ⟨w1, w2, w3, w4⟩ := whole_drv h (getW_mem hg) hn hd
  have h1 := h.nw
  refine ⟨w1, good_put h.gh hp, by show 1 ≤ r.nw + 1 ∧ r.nw + 1 ≤ 1000; omega, h.nt, w2, h.lt, one_put h rfl h0, hin_put h rfl, ?_, h.tp, w3, w4, h.tl, h.tk, h.np, h.nl⟩
  intro n hn
  rcases h.nin n hn with e | e
  · exact .inl e
  · exact .inr (idIn_app e)
theorem move_facts {r : Rm} {a b t : Int} (hc : moveC r a b t = 0) : getC r a b = 0 ∧ freeC r a t = 0 := by
  unfold moveC at hc
  split at hc
  · rename_i hne; exact absurd hc hne
  · rename_i hg
    exact ⟨by simpa using hg, hc⟩
theorem whole_move {r : Rm} {a b t : Int} (h : Whole r) (hc : moveC r a b t = 0) : Whole (moveR r a b t) := by
  obtain ⟨hg, hf⟩ := move_facts hc
  obtain ⟨hp2, h0⟩ := freeC_pl hf
  have hp1 := getC_pl hg
  have hne := whole_get h hg
  have hid := getW_id hg
  have hts : ¬ (a = a ∧ t = b) := fun e => by rw [e.2] at h0; exact hne h0
  have h0' : atP (putL r.hs a b 0) a t = 0 := by rw [at_put_other _ _ _ _ _ _ hts]; exact h0
  refine ⟨h.gw, good_put (good_put h.gh hp1) hp2, h.nw, h.nt, h.lw, h.lt, ?_, ?_, h.nin, h.tp, h.tof, h.wof, h.tl, h.tk, h.np, h.nl⟩
  · intro y hy
    have h1 := h.one y hy
    show cnt (putL (putL r.hs a b 0) a t (getW r a b).id) r.ns y.id = 1
    unfold cnt at h1 ⊢
    rw [cnt_put_new (good_put h.gh hp1) h0' (by rw [hid]; exact hne), hid]
    have := cnt_put_zero h.gh hne y.id
    omega
  · intro x hx
    rcases put_mem.1 hx with ⟨h1, _⟩ | ⟨_, rfl⟩
    · rcases put_mem.1 h1 with ⟨h2, _⟩ | ⟨e, _⟩
      · exact h.hin x h2
      · exact absurd rfl e
    · exact ⟨getW r a b, getW_mem (r := r) hg, rfl⟩
theorem whole_drop {r : Rm} (h : Whole r) (a b : Int) : Whole (dropR r a b) := by
  unfold dropR
  refine sweep_whole ⟨wo_good h.gw _, h.gh, h.nw, h.nt, ?_, h.lt, ?_, h.tp, ?_, h.tl, h.tk, h.np, h.nl⟩
  · intro z hz
    obtain ⟨x, hx, _, e, _⟩ := wo_mem' hz
    rw [e]; exact h.lw x hx
  · intro z hz
    obtain ⟨x, hx, _, e, _⟩ := wo_mem' hz
    rw [e]; exact h.one x hx
  · intro z hz
    obtain ⟨x, hx, _, _, e, _⟩ := wo_mem' hz
    rw [e]; exact h.wof x hx
theorem good_beneath {l : List Wr} (hg : GoodW l) (a : Int) : GoodW (l.filter (fun x => !inB (beneathL l a) x.id)) := by
  refine ⟨fun x hx => hg.1 x (List.mem_filter.1 hx).1, hg.2.1.filter _, ?_⟩
  intro x hx
  obtain ⟨h1, h2⟩ := List.mem_filter.1 hx
  rcases hg.2.2 x h1 with e | ⟨y, hy, e1, e2⟩
  · exact .inl e
  · by_cases hf : x.frm = 0
    · exact .inl hf
    refine .inr ⟨y, List.mem_filter.2 ⟨hy, ?_⟩, e1, e2⟩
    have hn : ¬ x.id ∈ beneathL l a := by
      intro hm
      simp [inB, hm] at h2
    have : ¬ y.id ∈ beneathL l a := fun hm => hn ((bn_iff hg a h1).2 ⟨hf, .inr (by rw [← e1]; exact hm)⟩)
    simp [inB, this]
theorem whole_revoke {r : Rm} (h : Whole r) (a b : Int) : Whole (revokeR r a b) := by
  unfold revokeR
  exact sweep_whole ⟨good_beneath h.gw _, h.gh, h.nw, h.nt, fun x hx => h.lw x (List.mem_filter.1 hx).1, h.lt, fun x hx => h.one x (List.mem_filter.1 hx).1, h.tp, fun x hx => h.wof x (List.mem_filter.1 hx).1, h.tl, h.tk, h.np, h.nl⟩
theorem whole_quiet {r : Rm} (h : Whole r) : Whole (quietR r) := by
  unfold quietR
  refine sweep_whole ⟨woAll_good _ h.gw, h.gh, h.nw, h.nt, ?_, h.lt, ?_, h.tp, ?_, h.tl, h.tk, (fun n hn => nomatch hn), fun t => by simp⟩
  · intro z hz
    obtain ⟨x, hx, _, e, _⟩ := woAll_mem _ hz
    rw [e]; exact h.lw x hx
  · intro z hz
    obtain ⟨x, hx, hno, e, _⟩ := woAll_mem _ hz
    have h1 := h.one x hx
    rw [e]
    show cnt r.hs [] x.id = 1
    unfold cnt at h1 ⊢
    rw [ncnt_zero_of hno] at h1
    simpa using h1
  · intro z hz
    obtain ⟨x, hx, _, _, e, _⟩ := woAll_mem _ hz
    rw [e]; exact h.wof x hx
/-! ### A cell's data -/
theorem setD_mem {t : Int} {d : ByteArray} : ∀ {l : List Th} {x : Th}, x ∈ setD t d l → ∃ y ∈ l, x.id = y.id ∧ x.kind = y.kind ∧ (x = y ∨ y.id = t ∧ x.data = d)
  | [], x, h => by cases h
  | y :: l, x, h => by
    unfold setD at h
    split at h
    · rename_i e
      rcases List.mem_cons.1 h with rfl | h
      · exact ⟨y, List.mem_cons_self, rfl, rfl, .inr ⟨e, rfl⟩⟩
      · exact ⟨x, List.mem_cons_of_mem _ h, rfl, rfl, .inl rfl⟩
    · rcases List.mem_cons.1 h with rfl | h
      · exact ⟨x, List.mem_cons_self, rfl, rfl, .inl rfl⟩
      · obtain ⟨z, hz, e⟩ := setD_mem h
        exact ⟨z, List.mem_cons_of_mem _ hz, e⟩
theorem setD_keep {t : Int} {d : ByteArray} : ∀ {l : List Th} {y : Th}, y ∈ l → ∃ x ∈ setD t d l, x.id = y.id ∧ x.kind = y.kind
  | [], y, h => by cases h
  | z :: l, y, h => by
    unfold setD
    split
    · rcases List.mem_cons.1 h with rfl | h
      · exact ⟨_, List.mem_cons_self, rfl, rfl⟩
      · exact ⟨y, List.mem_cons_of_mem _ h, rfl, rfl⟩
    · rcases List.mem_cons.1 h with rfl | h
      · exact ⟨_, List.mem_cons_self, rfl, rfl⟩
      · obtain ⟨x, hx, e⟩ := setD_keep h
        exact ⟨x, List.mem_cons_of_mem _ hx, e⟩
theorem setD_ids (t : Int) (d : ByteArray) : ∀ l : List Th, (setD t d l).map (·.id) = l.map (·.id)
  | [] => rfl
  | x :: l => by
    unfold setD
    split
    · rfl
    · simp [setD_ids t d l]
theorem ids_pair {l : List Th} : l.Pairwise (fun x y => x.id < y.id) ↔ (l.map (·.id)).Pairwise (· < ·) := by rw [List.pairwise_map]
theorem who_facts {r : Rm} {a b kind rights : Int} (hc : whoC r a b kind rights = 0) : getC r a b = 0 ∧ (∃ x ∈ r.ts, x.id = (getW r a b).thing ∧ x.kind = kind ∧ r.ts.find? (thIs (getW r a b).thing) = some x) ∧ hasB (getW r a b).rights rights = true := by
  unfold whoC at hc
  split at hc
  · rename_i hne; exact absurd hc hne
  · rename_i hg
    split at hc
    · cases hc
    · rename_i hk
      split at hc
      · cases hc
      · rename_i hr
        refine ⟨by simpa using hg, ?_, by simpa using hr⟩
        unfold kindIs at hk
        cases hf : r.ts.find? (thIs (getW r a b).thing) with
        | none => rw [hf] at hk; simp at hk
        | some x =>
          rw [hf] at hk
          have h1 := List.find?_some hf
          exact ⟨x, List.mem_of_find?_eq_some hf, by simpa [thIs] using h1, by simpa using hk, rfl⟩
theorem th_uniq {l : List Th} (h : l.Pairwise (fun x y => x.id < y.id)) {x y : Th} (hx : x ∈ l) (hy : y ∈ l) (e : x.id = y.id) : x = y := by
  obtain ⟨i, hi, rfl⟩ := List.getElem_of_mem hx
  obtain ⟨j, hj, rfl⟩ := List.getElem_of_mem hy
  rw [List.pairwise_iff_getElem] at h
  rcases Nat.lt_trichotomy i j with hlt | heq | hgt
  · have := h i j hi hj hlt; omega
  · subst heq; rfl
  · have := h j i hj hi hgt; omega
theorem write_facts {r : Rm} {a b : Int} {d : ByteArray} (hc : writeC r a b d = 0) : whoC r a b 1 2 = 0 ∧ d.size ≤ 8 := by
  unfold writeC at hc
  split at hc
  · rename_i hne; exact absurd hc hne
  · rename_i hg
    split at hc
    · cases hc
    · exact ⟨by simpa using hg, by omega⟩
theorem whole_write {r : Rm} {a b : Int} {d : ByteArray} (h : Whole r) (hc : writeC r a b d = 0) : Whole (writeR r a b d) := by
  obtain ⟨hw, hd⟩ := write_facts hc
  obtain ⟨hg, ⟨c, hcm, hci, hck, _⟩, _⟩ := who_facts hw
  refine ⟨h.gw, h.gh, h.nw, h.nt, h.lw, ?_, h.one, h.hin, h.nin, ?_, ?_, ?_, ?_, ?_, ?_, h.nl⟩
  · intro x hx
    obtain ⟨y, hy, e, _⟩ := setD_mem hx
    rw [e]; exact h.lt y hy
  · show (setD _ _ _).Pairwise _
    rw [ids_pair, setD_ids, ← ids_pair]; exact h.tp
  · intro x hx
    obtain ⟨y, hy, e, _⟩ := setD_mem hx
    rw [e]; exact h.tof y hy
  · intro y hy
    obtain ⟨x, hx, e⟩ := h.wof y hy
    obtain ⟨z, hz, e1, _⟩ := setD_keep (t := (getW r a b).thing) (d := d) hx
    exact ⟨z, hz, e1.trans e⟩
  · show (setD _ _ _).length ≤ 10
    rw [setD_len]; exact h.tl
  · intro x hx
    obtain ⟨y, hy, e1, e2, e3⟩ := setD_mem hx
    rcases e3 with rfl | ⟨e3, e4⟩
    · exact h.tk x hy
    · have : y = c := th_uniq h.tp hy hcm (e3.trans hci.symm)
      subst this
      exact .inl ⟨e2.trans hck, by rw [e4]; exact hd⟩
  · intro n hn
    obtain ⟨x, hx, e1, e2⟩ := h.np n hn
    obtain ⟨z, hz, f1, f2⟩ := setD_keep (t := (getW r a b).thing) (d := d) hx
    exact ⟨z, hz, f1.trans e1, f2.trans e2⟩
/-! ### Notes -/
theorem send_facts {r : Rm} {a b : Int} {d : ByteArray} {t rights : Int} (hc : sendC r a b d t rights = 0) : whoC r a b 2 2 = 0 ∧ d.size ≤ 8 ∧ (waitL r (getW r a b).thing).length < 3 ∧
    (t < 0 ∨ 0 ≤ t ∧ hasB (getW r a b).rights 4 = true ∧ getC r a t = 0 ∧ ¬ 999 < r.nw ∧ drvCode (getW r a t) rights 0 = 0) := by
  unfold sendC at hc
  split at hc
  · rename_i hne; exact absurd hc hne
  · rename_i hg
    split at hc
    · cases hc
    · rename_i hd
      split at hc
      · cases hc
      · rename_i hl
        refine ⟨by simpa using hg, by omega, by omega, ?_⟩
        split at hc
        · exact .inl ‹_›
        · rename_i ht
          split at hc
          · cases hc
          · rename_i hr
            split at hc
            · rename_i hne; exact absurd hc hne
            · rename_i hgt
              split at hc
              · cases hc
              · rename_i hx
                exact .inr ⟨by omega, by simpa using hr, by simpa using hgt, hx, hc⟩
theorem wait_len (r : Rm) (t : Int) : (waitL r t).length = r.ns.countP (atPort t) := by unfold waitL; rw [List.countP_eq_length_filter]
theorem nl_snoc {r : Rm} (h : Whole r) {m : Nt} (hl : (waitL r m.port).length < 3) : ∀ t, (r.ns ++ [m]).countP (atPort t) ≤ 3 := by
  intro t
  rw [wait_len] at hl
  have := h.nl t
  rw [List.countP_append, List.countP_cons, List.countP_nil]
  cases hh : atPort t m with
  | false => simp; exact this
  | true =>
    have : m.port = t := by simpa [atPort] using hh
    subst this
    simp; omega
theorem whole_send {r : Rm} {a b : Int} {d : ByteArray} {t rights : Int} (h : Whole r) (hc : sendC r a b d t rights = 0) : Whole (sendR r a b d t rights) := by
  obtain ⟨hw, hd, hl, ht⟩ := send_facts hc
  obtain ⟨hg, ⟨c, hcm, hci, hck, _⟩, _⟩ := who_facts hw
  have hnw := h.nw
  unfold sendR
  rcases ht with ht | ⟨ht, _, hgt, hn, hdv⟩
  · rw [if_pos ht]
    refine ⟨h.gw, h.gh, h.nw, h.nt, h.lw, h.lt, ?_, h.hin, ?_, h.tp, h.tof, h.wof, h.tl, h.tk, ?_, nl_snoc h hl⟩
    · intro x hx
      have h1 := h.one x hx
      have h2 := (h.gw.1 x hx).1
      show cnt r.hs (r.ns ++ [_]) x.id = 1
      unfold cnt at h1 ⊢
      rw [List.countP_append, List.countP_cons, List.countP_nil]
      have : ¬ ((0 : Int) == x.id) = true := by simp; omega
      rw [if_neg this]
      omega
    · intro n hn
      rcases List.mem_append.1 hn with hn | hn
      · exact h.nin n hn
      · rw [List.mem_singleton.1 hn]; exact .inl rfl
    · intro n hn
      rcases List.mem_append.1 hn with hn | hn
      · exact h.np n hn
      · rw [List.mem_singleton.1 hn]; exact ⟨c, hcm, hci, hck⟩
  · rw [if_neg (by omega)]
    obtain ⟨w1, w2, w3, w4⟩ := whole_drv h (getW_mem hgt) hn hdv
    refine ⟨w1, h.gh, by show 1 ≤ r.nw + 1 ∧ r.nw + 1 ≤ 1000; omega, h.nt, w2, h.lt, ?_, fun x hx => idIn_app (h.hin x hx), ?_, h.tp, w3, w4, h.tl, h.tk, ?_, nl_snoc h hl⟩
    · intro x hx
      show cnt r.hs (r.ns ++ [_]) x.id = 1
      unfold cnt
      rw [List.countP_append, List.countP_cons, List.countP_nil]
      rcases List.mem_append.1 hx with hx | hx
      · have h1 := h.one x hx
        have h2 := h.lw x hx
        unfold cnt at h1
        have : ¬ (r.nw == x.id) = true := by simp; omega
        rw [if_neg this]
        omega
      · rw [List.mem_singleton.1 hx]
        show r.hs.countP (fun y => y.writ == r.nw) + (r.ns.countP (fun n => n.writ == r.nw) + (0 + if (r.nw == r.nw) = true then 1 else 0)) = 1
        rw [cnt_zero_of (lt_of_hin h), ncnt_zero_of (lt_of_nin h)]
        simp
    · intro n hn
      rcases List.mem_append.1 hn with hn | hn
      · rcases h.nin n hn with e | e
        · exact .inl e
        · exact .inr (idIn_app e)
      · rw [List.mem_singleton.1 hn]; exact .inr ⟨_, List.mem_append_right _ (List.mem_singleton.2 rfl), rfl⟩
    · intro n hn
      rcases List.mem_append.1 hn with hn | hn
      · exact h.np n hn
      · rw [List.mem_singleton.1 hn]; exact ⟨c, hcm, hci, hck⟩
theorem take_facts {r : Rm} {a b : Int} (hc : takeC r a b = 0) : whoC r a b 2 1 = 0 ∧ (∃ (j : Nat), idx (atPort (getW r a b).thing) r.ns = (j : Int) ∧ r.ns[j]? = some (noteAt r a b) ∧ (noteAt r a b).port = (getW r a b).thing) ∧ ((noteAt r a b).writ = 0 ∨ (noteAt r a b).writ ≠ 0 ∧ 0 ≤ freeP r.hs a) := by
  unfold takeC at hc
  split at hc
  · rename_i hne; exact absurd hc hne
  · rename_i hg
    split at hc
    · cases hc
    · rename_i hn
      split at hc
      · cases hc
      · rename_i hx
        refine ⟨by simpa using hg, ?_, ?_⟩
        · rcases idx_cases (atPort (getW r a b).thing) r.ns with ⟨_, h2⟩ | ⟨j, x, h1, h2, h3, h4⟩
          · rw [h2] at hn; simp at hn
          · have : noteAt r a b = x := by unfold noteAt; rw [h4]
            exact ⟨j, h1, by rw [this]; exact h2, by rw [this]; simpa [atPort] using h3⟩
        · by_cases e : (noteAt r a b).writ = 0
          · exact .inl e
          · refine .inr ⟨e, ?_⟩
            by_cases hlt : freeP r.hs a < 0
            · exact absurd ⟨e, hlt⟩ hx
            · omega
theorem erase_cnt {α : Type} (p : α → Bool) : ∀ {l : List α} {j : Nat} {x : α}, l[j]? = some x → (l.eraseIdx j).countP p + (if p x = true then 1 else 0) = l.countP p
  | [], j, x, h => by simp at h
  | y :: l, 0, x, h => by
    have : y = x := by simpa using h
    subst this
    simp [List.countP_cons]
  | y :: l, j + 1, x, h => by
    have ih := erase_cnt p (l := l) (j := j) (x := x) (by simpa using h)
    rw [List.eraseIdx_cons_succ, List.countP_cons, List.countP_cons]
    omega
theorem whole_take {r : Rm} {a b : Int} (h : Whole r) (hc : takeC r a b = 0) : Whole (takeR r a b) := by
  obtain ⟨hw, ⟨j, hj, hjn, hjp⟩, hwr⟩ := take_facts hc
  have hg := whoC_get hw
  have hp := getC_pl hg
  have hmem : noteAt r a b ∈ r.ns := List.mem_of_getElem? hjn
  have hsub : ∀ n ∈ r.ns.eraseIdx j, n ∈ r.ns := fun n hn => List.mem_of_mem_eraseIdx hn
  unfold takeR
  rw [hj, Int.toNat_natCast]
  have common : ∀ t, (r.ns.eraseIdx j).countP (atPort t) ≤ 3 := by
    intro t
    have := erase_cnt (atPort t) hjn
    have := h.nl t
    omega
  rcases hwr with e | ⟨e, hfr⟩
  · rw [if_pos e]
    refine ⟨h.gw, h.gh, h.nw, h.nt, h.lw, h.lt, ?_, h.hin, fun n hn => h.nin n (hsub n hn), h.tp, h.tof, h.wof, h.tl, h.tk, fun n hn => h.np n (hsub n hn), common⟩
    intro x hx
    have h1 := h.one x hx
    have h2 := (h.gw.1 x hx).1
    have h3 := erase_cnt (fun n : Nt => n.writ == x.id) hjn
    show cnt r.hs (r.ns.eraseIdx j) x.id = 1
    unfold cnt at h1 ⊢
    rw [e, if_neg (by simp; omega)] at h3
    omega
  · rw [if_neg e]
    rcases free_spec r.hs a with ⟨h1, _⟩ | ⟨m, h1, h2, h3, _⟩
    · omega
    rw [h1]
    have hpm : plOk a (m : Int) := ⟨hp.1, hp.2.1, by omega, by omega⟩
    refine ⟨h.gw, good_put h.gh hpm, h.nw, h.nt, h.lw, h.lt, ?_, ?_, fun n hn => h.nin n (hsub n hn), h.tp, h.tof, h.wof, h.tl, h.tk, fun n hn => h.np n (hsub n hn), common⟩
    · intro x hx
      have h4 := h.one x hx
      have h5 := erase_cnt (fun n : Nt => n.writ == x.id) hjn
      show cnt (putL r.hs a m (noteAt r a b).writ) (r.ns.eraseIdx j) x.id = 1
      unfold cnt at h4 ⊢
      rw [cnt_put_new h.gh h3 e]
      simp only [beq_iff_eq] at h5
      omega
    · intro x hx
      rcases put_mem.1 hx with ⟨h4, _⟩ | ⟨_, rfl⟩
      · exact h.hin x h4
      · rcases h.nin _ hmem with h5 | h5
        · exact absurd h5 e
        · exact h5
/-! ### What is whole needs no sweep -/
theorem sweepN_none {f : Nat} {ws : List Wr} {ns : List Nt} (h : lostL ws ns = []) : sweepN (f + 1) ws ns = (ws, ns) := by
  unfold sweepN
  rw [if_pos h]
theorem whole_lost {r : Rm} (h : Whole r) : lostL r.ws r.ns = [] := by
  rw [List.eq_nil_iff_forall_not_mem]
  intro n hn
  obtain ⟨h1, h2⟩ := mem_lost.1 hn
  obtain ⟨x, hx, e, _⟩ := h.np n h1
  obtain ⟨y, hy, e'⟩ := h.tof x hx
  rw [hasT_iff.2 ⟨y, hy, e'.trans e⟩] at h2
  cases h2
theorem forget_id {ws : List Wr} {n : Nt} (h : n.writ = 0 ∨ idIn ws n.writ) : forgetN ws n = n := by
  unfold forgetN
  split
  · rename_i hf
    rcases h with h | h
    · exact Nt.ext4 rfl rfl rfl h.symm
    · exact absurd h (find_neg_iff.1 hf)
  · rfl
theorem sweep_id {r : Rm} (h : Whole r) : sweepR r = r := by
  unfold sweepR
  rw [sweepN_none (whole_lost h)]
  have h1 : r.ts.filter (fun t => hasT r.ws t.id) = r.ts := by
    rw [List.filter_eq_self]; intro x hx; exact hasT_iff.2 (h.tof x hx)
  have h2 : r.hs.filter (fun h => decide (0 ≤ find r.ws h.writ)) = r.hs := by
    rw [List.filter_eq_self]; intro x hx; exact decide_eq_true (find_pos_iff.2 (h.hin x hx))
  have h3 : r.ns.map (forgetN r.ws) = r.ns := by
    conv => rhs; rw [← List.map_id r.ns]
    exact List.map_congr_left (fun n hn => forget_id (h.nin n hn))
  dsimp only
  rw [h1, h2, h3]
end Go.Proofs.YtpmkkmndgicbgaaGreat
