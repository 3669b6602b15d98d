/- What an addition to a log leaves on a disk, and what a fall in it leaves: plain data, nothing of the program. -/
import Derived.Test.YtikkakdeapbioaaDoorLogLaw
set_option linter.unusedVariables false
set_option linter.unusedSimpArgs false
namespace Go.Proofs.YtikkakdeapbioaaDoor
open Go.RowKit

def wrsL : Nat → List ByteArray → List (Nat × List UInt8)
  | _, [] => []
  | a, s :: r => (a, padS s) :: wrsL (a + 1) r
def setL (now : List (List UInt8)) : Nat → List ByteArray → List (List UInt8)
  | _, [] => now
  | a, s :: r => setL (now.set a (padS s)) (a + 1) r
theorem setL_len : ∀ (ss : List ByteArray) (now : List (List UInt8)) (a : Nat), (setL now a ss).length = now.length
  | [], now, a => rfl
  | s :: r, now, a => by unfold setL; rw [setL_len r, List.length_set]
theorem setL_get : ∀ (ss : List ByteArray) (now : List (List UInt8)) (a j : Nat), a + ss.length ≤ now.length → (setL now a ss)[j]? = if a ≤ j ∧ j < a + ss.length then (ss[j - a]?).map padS else now[j]?
  | [], now, a, j, _ => by unfold setL; rw [if_neg (by simp only [List.length_nil]; omega)]
  | s :: r, now, a, j, h => by
    unfold setL
    simp only [List.length_cons] at h ⊢
    rw [setL_get r _ (a + 1) j (by simp; omega)]
    by_cases h1 : a + 1 ≤ j ∧ j < a + 1 + r.length
    · rw [if_pos h1, if_pos (by omega), show j - a = (j - (a + 1)) + 1 by omega, List.getElem?_cons_succ]
    · rw [if_neg h1]
      by_cases h2 : j = a
      · subst h2
        rw [if_pos (by omega), List.getElem?_set_self (by omega), Nat.sub_self]
        rfl
      · rw [if_neg (by omega), List.getElem?_set_ne (by omega)]
theorem mem_wrsL : ∀ (ss : List ByteArray) (a : Nat) (x : Nat × List UInt8), x ∈ wrsL a ss → ∃ i s, ss[i]? = some s ∧ x = (a + i, padS s)
  | [], a, x, h => by simp [wrsL] at h
  | s :: r, a, x, h => by
    unfold wrsL at h
    rcases List.mem_cons.1 h with rfl | h
    · exact ⟨0, s, rfl, rfl⟩
    · obtain ⟨i, t, h1, rfl⟩ := mem_wrsL r (a + 1) x h
      exact ⟨i + 1, t, by simpa using h1, by rw [show a + 1 + i = a + (i + 1) by omega]⟩
theorem land_sub (keep : Nat) : ∀ (wr : List (Nat × List UInt8)) (k : List (List UInt8)) (i j : Nat) (x : List UInt8), (landW keep k wr i)[j]? = some x → k[j]? = some x ∨ (j, x) ∈ wr
  | [], k, i, j, x, h => .inl h
  | y :: r, k, i, j, x, h => by
    unfold landW at h
    rcases land_sub keep r _ _ j x h with h1 | h1
    · split at h1
      · by_cases hj : y.1 = j
        · by_cases hlt : j < k.length
          · rw [hj, List.getElem?_set_self hlt] at h1
            simp at h1
            right
            rw [← h1, ← hj]
            exact List.mem_cons_self
          · rw [List.getElem?_eq_none (by simp; omega)] at h1
            cases h1
        · rw [List.getElem?_set_ne hj] at h1
          exact .inl h1
      · exact .inl h1
    · exact .inr (List.mem_cons_of_mem _ h1)
theorem step_left {d : Dk} (h : stepDn d = false) : (stepR d).down = false ∧ (d.left < 0 → (stepR d).left = d.left) := by
  unfold stepR
  rw [h]
  refine ⟨rfl, fun hl => ?_⟩
  simp
  omega
theorem step_down {d : Dk} (h : stepDn d = true) : (stepR d).down = true := by unfold stepR; rw [h]; rfl
theorem stepDn_left {d : Dk} (hd : d.down = false) (h : stepDn d = true) : d.left = 0 := by
  unfold stepDn at h
  simpa [hd] using h
theorem lwrs_spec : ∀ (ss : List ByteArray) (d : Dk) (a : Nat), d.down = false → a + ss.length ≤ d.now.length → (∀ s ∈ ss, s.size ≤ 48) →
    ∃ m, m ≤ ss.length ∧ (lwrs d a ss).1.kept = d.kept ∧ (lwrs d a ss).1.now = setL d.now a (ss.take m) ∧ (lwrs d a ss).1.wr = d.wr ++ wrsL a (ss.take m) ∧
      (((lwrs d a ss).2 = 0 ∧ m = ss.length ∧ (lwrs d a ss).1.down = false ∧ (d.left < 0 → (lwrs d a ss).1.left = d.left)) ∨ ((lwrs d a ss).2 = 10 ∧ (lwrs d a ss).1.down = true ∧ 0 ≤ d.left))
  | [], d, a, hd, _, _ => ⟨0, Nat.le_refl _, rfl, rfl, by simp [lwrs, wrsL], .inl ⟨rfl, rfl, hd, fun _ => rfl⟩⟩
  | s :: r, d, a, hd, hl, hs => by
    simp only [List.length_cons] at hl
    have hb : hasB2 d (a : Int) = true ∧ s.size ≤ 48 := ⟨(hasB2_iff d a).2 ⟨by omega, by omega⟩, hs s List.mem_cons_self⟩
    cases hst : stepDn d
    · have e1 : wrC d (a : Int) s = 0 := by unfold wrC; rw [if_pos hb, hst]; rfl
      have e2 : wrR d (a : Int) s = wroteR (stepR d) a (padS s) := by unfold wrR; rw [if_pos hb, hst]; rfl
      have e : lwrs d a (s :: r) = lwrs (wroteR (stepR d) a (padS s)) (a + 1) r := by
        conv => lhs; unfold lwrs
        rw [if_pos e1, e2]
      rw [e]
      have hn := step_now d
      have hw := step_left hst
      obtain ⟨m, h1, h2, h3, h4, h5⟩ := lwrs_spec r (wroteR (stepR d) a (padS s)) (a + 1) hw.1 (by simp only [wroteR, List.length_set]; rw [hn.1]; omega) (fun x hx => hs x (List.mem_cons_of_mem _ hx))
      refine ⟨m + 1, by simp; omega, by rw [h2]; exact hn.2.1, ?_, ?_, ?_⟩
      · rw [h3, List.take_succ_cons]
        simp only [wroteR]
        rw [hn.1]
        rfl
      · rw [h4, List.take_succ_cons]
        simp only [wroteR]
        rw [hn.2.2]
        simp [wrsL]
      · rcases h5 with ⟨k1, k2, k3, k4⟩ | ⟨k1, k2, k3⟩
        · refine .inl ⟨k1, by simp; omega, k3, fun hl => ?_⟩
          have h6 := hw.2 hl
          rw [k4 (by show (stepR d).left < 0; omega)]
          exact h6
        · refine .inr ⟨k1, k2, ?_⟩
          by_cases hneg : d.left < 0
          · have h6 := hw.2 hneg
            have : (0 : Int) ≤ (stepR d).left := k3
            omega
          · omega
    · have e1 : wrC d (a : Int) s = 10 := by unfold wrC; rw [if_pos hb, hst]; rfl
      have e2 : wrR d (a : Int) s = stepR d := by unfold wrR; rw [if_pos hb, hst]; rfl
      have e : lwrs d a (s :: r) = (stepR d, 10) := by
        conv => lhs; unfold lwrs
        rw [if_neg (by rw [e1]; decide), e1, e2]
      rw [e]
      have hn := step_now d
      exact ⟨0, Nat.zero_le _, hn.2.1, hn.1, by simp [wrsL, hn.2.2], .inr ⟨rfl, step_down hst, by have := stepDn_left hd hst; omega⟩⟩
/-- sectors are written for good, or the disk fell on the way -/
theorem lgW_spec (ss : List ByteArray) (d : Dk) (a : Nat) (hd : d.down = false) (hl : a + ss.length ≤ d.now.length) (hs : ∀ s ∈ ss, s.size ≤ 48) :
    ((lgW d a ss).2 = 0 ∧ (lgW d a ss).1.now = setL d.now a ss ∧ (lgW d a ss).1.kept = setL d.now a ss ∧ (lgW d a ss).1.wr = [] ∧ (lgW d a ss).1.down = false ∧ (d.left < 0 → (lgW d a ss).1.left = d.left)) ∨
    ((lgW d a ss).2 = 10 ∧ (lgW d a ss).1.kept = d.kept ∧ (lgW d a ss).1.down = true ∧ 0 ≤ d.left ∧ (lgW d a ss).1.now.length = d.now.length ∧ ∃ m, (lgW d a ss).1.wr = d.wr ++ wrsL a (ss.take m)) := by
  obtain ⟨m, h1, h2, h3, h4, h5⟩ := lwrs_spec ss d a hd hl hs
  rcases h5 with ⟨k1, k2, k3, k4⟩ | ⟨k1, k2, k3⟩
  · have e : lgW d a ss = (flR (lwrs d a ss).1, flC (lwrs d a ss).1) := by unfold lgW; rw [if_pos k1]
    rw [e]
    subst k2
    rw [List.take_length] at h3 h4
    cases hst : stepDn (lwrs d a ss).1
    · left
      have f1 : flR (lwrs d a ss).1 = ⟨(lwrs d a ss).1.now, (lwrs d a ss).1.now, [], (stepR (lwrs d a ss).1).left, false⟩ := by unfold flR; rw [hst]; rfl
      have f2 : flC (lwrs d a ss).1 = 0 := by unfold flC; rw [hst]; rfl
      rw [f1, f2]
      refine ⟨rfl, h3, h3, rfl, rfl, fun hl => ?_⟩
      have := (step_left hst).2 (by rw [k4 hl]; exact hl)
      exact this.trans (k4 hl)
    · right
      have f1 : flR (lwrs d a ss).1 = stepR (lwrs d a ss).1 := by unfold flR; rw [hst]; rfl
      have f2 : flC (lwrs d a ss).1 = 10 := by unfold flC; rw [hst]; rfl
      have hn := step_now (lwrs d a ss).1
      rw [f1, f2]
      refine ⟨rfl, hn.2.1.trans h2, step_down hst, ?_, ?_, ss.length, ?_⟩
      · have := stepDn_left k3 hst
        by_cases hneg : d.left < 0
        · have := k4 hneg; omega
        · omega
      · dsimp only; rw [hn.1, h3, setL_len]
      · dsimp only; rw [hn.2.2, h4, List.take_length]
  · right
    have e : lgW d a ss = lwrs d a ss := by unfold lgW; rw [if_neg (by rw [k1]; decide)]
    rw [e]
    exact ⟨k1, h2, k2, k3, by rw [h3, setL_len], m, h4⟩
/-- all is kept -/
structure QD (d : Dk) : Prop where
  kept : d.kept = d.now
  wr : d.wr = []
  down : d.down = false
theorem sec_get {k : List (List UInt8)} {frm many j : Nat} (h : frm + many ≤ k.length) : ((k.drop frm).take many)[j]? = if j < many then k[frm + j]? else none := by
  rw [List.getElem?_take]
  split
  · rw [List.getElem?_drop]
  · rfl
theorem sec_len {k : List (List UInt8)} {frm many : Nat} (h : frm + many ≤ k.length) : ((k.drop frm).take many).length = many := by simp; omega
theorem take_same {l l' : List (List UInt8)} {u : Nat} (h : ∀ j, j < u → l'[j]? = l[j]?) : l'.take u = l.take u := by
  apply List.ext_getElem?
  intro j
  rw [List.getElem?_take, List.getElem?_take]
  split
  · exact h j (by assumption)
  · rfl
theorem pad_nought : padS (⟨#[]⟩ : ByteArray) = zsec := rfl
theorem rest_deed (first u : Nat) (l : List Ch) : restL first u [] l = (deedL (first + u) l).map padL := by
  unfold restL deedL
  simp
theorem padS_deed (n : Nat) (l : List Ch) : (deedS n l).map padS = (deedL n l).map padL := by
  unfold deedS
  rw [List.map_map]
  apply List.map_congr_left
  intro x _
  exact padS_str x
/-- the two writes of an addition -/
structure AddPre (d : Dk) (lg : Lg) (l : List Ch) (deeds : List (List Ch)) : Prop where
  q : QD d
  fit : lg.frm + lg.many ≤ d.now.length
  used : lg.used ≤ lg.many
  inv : LogInv lg.first (secsOf d lg) deeds lg.used
theorem add_cases (d : Dk) (lg : Lg) (l : List Ch) : (addR d lg l).2.2 = 2 ∧ addR d lg l = (d, lg, 2) ∨ (addR d lg l).2.2 = 9 ∧ addR d lg l = (d, lg, 9) ∨ chksC l ≠ 0 ∧ addR d lg l = (d, lg, chksC l) ∨
    (l.length ≤ 62 ∧ l.length + 1 ≤ lg.many - lg.used ∧ chksC l = 0 ∧ addR d lg l = (let x := lgW d (lg.frm + lg.used) (List.replicate (addN lg l) ⟨#[]⟩)
    if x.2 ≠ 0 then (x.1, lg, x.2)
    else
      let y := lgW x.1 (lg.frm + lg.used) (deedS (lg.first + lg.used) l)
      if y.2 ≠ 0 then (y.1, lg, y.2) else (y.1, ⟨lg.frm, lg.many, lg.first, lg.used + (l.length + 1)⟩, 0))) := by
  by_cases h1 : 62 < l.length
  · have e : addR d lg l = (d, lg, 2) := by unfold addR; rw [if_pos h1]
    exact .inl ⟨by rw [e], e⟩
  · by_cases h2 : lg.many - lg.used < l.length + 1
    · have e : addR d lg l = (d, lg, 9) := by unfold addR; rw [if_neg h1, if_pos h2]
      exact .inr (.inl ⟨by rw [e], e⟩)
    · by_cases h3 : chksC l = 0
      · exact .inr (.inr (.inr ⟨by omega, by omega, h3, by unfold addR; rw [if_neg h1, if_neg h2, if_neg (by rw [h3]; decide)]⟩))
      · exact .inr (.inr (.inl ⟨h3, by unfold addR; rw [if_neg h1, if_neg h2, if_pos h3]⟩))
theorem chks_range : ∀ (l : List Ch), chksC l = 0 ∨ chksC l = 2 ∨ chksC l = 3
  | [] => .inl rfl
  | c :: r => by
    unfold chksC
    split
    · exact chks_range r
    · unfold chkC
      split
      · exact .inr (.inr rfl)
      · split
        · exact .inr (.inl rfl)
        · exact .inl rfl
/-- what an addition leaves -/
theorem add_spec {d : Dk} {lg : Lg} {l : List Ch} {deeds : List (List Ch)} (h : AddPre d lg l deeds) :
    ((addR d lg l).2.2 = 0 ∧ AddPre (addR d lg l).1 (addR d lg l).2.1 l (deeds ++ [l]) ∧ (addR d lg l).2.1 = ⟨lg.frm, lg.many, lg.first, lg.used + (l.length + 1)⟩ ∧ (addR d lg l).1.now.length = d.now.length ∧ (d.left < 0 → (addR d lg l).1.left = d.left) ∧ l.length ≤ 62 ∧ l.length + 1 ≤ lg.many - lg.used ∧ chksC l = 0) ∨
    ((addR d lg l).2.2 = 10 ∧ 0 ≤ d.left ∧ (addR d lg l).1.down = true ∧ (addR d lg l).1.now.length = d.now.length ∧ ∀ keep : Nat, LogInv lg.first (((landW keep (addR d lg l).1.kept (addR d lg l).1.wr 0).drop lg.frm).take lg.many) deeds lg.used ∨ LogInv lg.first (((landW keep (addR d lg l).1.kept (addR d lg l).1.wr 0).drop lg.frm).take lg.many) (deeds ++ [l]) (lg.used + (l.length + 1))) ∨
    ((addR d lg l).2.2 ≠ 0 ∧ (addR d lg l).2.2 ≠ 10 ∧ (addR d lg l).1 = d ∧ (addR d lg l).2.1 = lg ∧ (62 < l.length ∨ lg.many - lg.used < l.length + 1 ∨ chksC l ≠ 0)) := by
  have hq := h.q
  by_cases h62 : 62 < l.length
  · have e : addR d lg l = (d, lg, 2) := by unfold addR; rw [if_pos h62]
    right; right
    rw [e]
    exact ⟨(by decide : (2 : Int) ≠ 0), (by decide : (2 : Int) ≠ 10), rfl, rfl, .inl h62⟩
  by_cases hro : lg.many - lg.used < l.length + 1
  · have e : addR d lg l = (d, lg, 9) := by unfold addR; rw [if_neg h62, if_pos hro]
    right; right
    rw [e]
    exact ⟨(by decide : (9 : Int) ≠ 0), (by decide : (9 : Int) ≠ 10), rfl, rfl, .inr (.inl hro)⟩
  by_cases hck : chksC l = 0
  rotate_left
  · have e : addR d lg l = (d, lg, chksC l) := by unfold addR; rw [if_neg h62, if_neg hro, if_pos hck]
    right; right
    rw [e]
    refine ⟨hck, ?_, rfl, rfl, .inr (.inr hck)⟩
    dsimp only
    rcases chks_range l with h1 | h1 | h1
    · exact absurd h1 hck
    · rw [h1]; decide
    · rw [h1]; decide
  have hu := h.used
  have hf := h.fit
  have hAN : addN lg l ≤ lg.many - lg.used ∧ l.length + 1 ≤ addN lg l ∧ (addN lg l = l.length + 1 → lg.used + (l.length + 1) = lg.many) := by unfold addN; omega
  have e : addR d lg l = (let x := lgW d (lg.frm + lg.used) (List.replicate (addN lg l) ⟨#[]⟩)
    if x.2 ≠ 0 then (x.1, lg, x.2)
    else
      let y := lgW x.1 (lg.frm + lg.used) (deedS (lg.first + lg.used) l)
      if y.2 ≠ 0 then (y.1, lg, y.2) else (y.1, ⟨lg.frm, lg.many, lg.first, lg.used + (l.length + 1)⟩, 0)) := by unfold addR; rw [if_neg h62, if_neg hro, if_neg (by rw [hck]; decide)]
  generalize addN lg l = AN at hAN e
  have hns : ∀ s ∈ List.replicate AN (⟨#[]⟩ : ByteArray), s.size ≤ 48 := fun s hs => by rw [(List.mem_replicate.1 hs).2]; exact Nat.zero_le _
  have hnl : (List.replicate AN (⟨#[]⟩ : ByteArray)).length = AN := List.length_replicate
  have hdl : (deedS (lg.first + lg.used) l).length = l.length + 1 := by unfold deedS; rw [List.length_map, deedL_len]
  have hds : ∀ s ∈ deedS (lg.first + lg.used) l, s.size ≤ 48 := fun s hs => by
    unfold deedS at hs
    obtain ⟨x, hx, rfl⟩ := List.mem_map.1 hs
    rw [str_size]; exact deedL_small hck x hx
  have hbase := h.inv
  have hlen0 := sec_len hf
  rcases lgW_spec (List.replicate AN ⟨#[]⟩) d (lg.frm + lg.used) hq.down (by omega) hns with ⟨x0, x1, x2, x3, x4, x5⟩ | ⟨x0, x1, x2, x3, x4, m, x5⟩
  · generalize lgW d (lg.frm + lg.used) (List.replicate AN ⟨#[]⟩) = X at *
    dsimp only at e
    rw [if_neg (by rw [x0]; decide)] at e
    have xl : X.1.now.length = d.now.length := by rw [x1, setL_len]
    -- the log with noughts
    have hget : ∀ j, (setL d.now (lg.frm + lg.used) (List.replicate AN ⟨#[]⟩))[j]? = if lg.frm + lg.used ≤ j ∧ j < lg.frm + lg.used + AN then some zsec else d.now[j]? := fun j => by
      rw [setL_get _ _ _ _ (by omega), hnl]
      split
      · rename_i hh
        rw [List.getElem?_replicate, if_pos (by omega)]
        simp [pad_nought]
      · rfl
    have hinv1 : LogInv lg.first ((X.1.now.drop lg.frm).take lg.many) deeds lg.used := by
      refine hbase.zeros (by rw [sec_len (by omega)]; exact hlen0.symm) (take_same fun j hj => ?_) (fun j s hj hs => ?_)
      · show _ = ((d.now.drop lg.frm).take lg.many)[j]?
        rw [sec_get (by omega), sec_get hf, x1, hget, if_neg (by omega : ¬ (lg.frm + lg.used ≤ lg.frm + j ∧ lg.frm + j < lg.frm + lg.used + AN))]
      · rw [sec_get (by omega)] at hs
        show ((d.now.drop lg.frm).take lg.many)[j]? = some s ∨ _
        rw [sec_get hf]
        split at hs
        · rename_i hjm
          rw [if_pos hjm]
          rw [x1, hget] at hs
          split at hs
          · right; simpa using hs.symm
          · left; exact hs
        · cases hs
    have hl1 : ((X.1.now.drop lg.frm).take lg.many).length = lg.many := sec_len (by omega)
    have hdeed : ∀ k' : List (List UInt8), k'.length = d.now.length → (∀ j s, k'[j]? = some s → X.1.now[j]? = some s ∨ ∃ i t, (deedS (lg.first + lg.used) l)[i]? = some t ∧ j = lg.frm + lg.used + i ∧ s = padS t) →
        LogInv lg.first ((k'.drop lg.frm).take lg.many) deeds lg.used ∨ LogInv lg.first ((k'.drop lg.frm).take lg.many) (deeds ++ [l]) (lg.used + (l.length + 1)) := fun k' hk' hsub => by
      have hlk : k'.length = X.1.now.length := by omega
      have hold : ∀ j, ¬ (lg.frm + lg.used ≤ j ∧ j < lg.frm + lg.used + (l.length + 1)) → k'[j]? = X.1.now[j]? := fun j hj => by
        by_cases hjl : j < k'.length
        · obtain ⟨s, hs⟩ : ∃ s, k'[j]? = some s := ⟨k'[j], List.getElem?_eq_getElem hjl⟩
          rcases hsub j s hs with h1 | ⟨i, t, h1, h2, h3⟩
          · rw [hs, h1]
          · have := (List.getElem?_eq_some_iff.1 h1).1
            omega
        · rw [List.getElem?_eq_none (by omega), List.getElem?_eq_none (by omega)]
      refine hinv1.deed (c := l) (by rw [sec_len (by omega), hl1]) hck (by omega) (take_same fun j hj => ?_) (fun j s hj hs => ?_) (fun s hs => ?_)
      · rw [sec_get (by omega), sec_get (by omega), hold _ (by omega)]
      · rw [sec_get (by omega), if_pos (by omega)] at hs
        rcases hsub _ s hs with h1 | ⟨i, t, h1, h2, h3⟩
        · right
          rw [x1, hget, if_pos (by omega)] at h1
          simpa using h1.symm
        · left
          have hij : i = j := by omega
          subst hij
          rw [rest_deed, ← padS_deed, List.getElem?_map, h1, h3]
          rfl
      · rw [sec_get (by omega)] at hs
        split at hs
        · rename_i hjm
          rw [hold _ (by omega), x1, hget, if_pos (by omega)] at hs
          simpa using hs.symm
        · cases hs
    rcases lgW_spec (deedS (lg.first + lg.used) l) X.1 (lg.frm + lg.used) x4 (by omega) hds with ⟨y0, y1, y2, y3, y4, y5⟩ | ⟨y0, y1, y2, y3, y4, m, y5⟩
    · generalize lgW X.1 (lg.frm + lg.used) (deedS (lg.first + lg.used) l) = Y at *
      rw [if_neg (by rw [y0]; decide)] at e
      left
      rw [e]
      have yl : Y.1.now.length = d.now.length := by rw [y1, setL_len, xl]
      refine ⟨rfl, ⟨⟨by rw [y2, y1], y3, y4⟩, by dsimp only; omega, by dsimp only; omega, ?_⟩, rfl, yl, fun hl => by rw [y5 (by rw [x5 hl]; exact hl), x5 hl], by omega, by omega, hck⟩
      -- all of the deed is there
      show LogInv lg.first ((Y.1.now.drop lg.frm).take lg.many) (deeds ++ [l]) (lg.used + (l.length + 1))
      rcases hdeed Y.1.now yl (fun j s hs => by
        rw [y1, setL_get _ _ _ _ (by omega), hdl] at hs
        split at hs
        · rename_i hh
          right
          simp only [Option.map_eq_some_iff] at hs
          obtain ⟨t, ht, rfl⟩ := hs
          exact ⟨_, t, ht, by omega, rfl⟩
        · exact .inl hs) with h1 | h1
      · -- it cannot be missing
        exfalso
        have hall : ((Y.1.now.drop lg.frm).take lg.many).drop lg.used = restL lg.first lg.used [] l ++ ((Y.1.now.drop lg.frm).take lg.many).drop (lg.used + (l.length + 1)) := by
          apply List.ext_getElem?
          intro j
          rw [List.getElem?_drop, sec_get (by omega)]
          have rl : (restL lg.first lg.used [] l).length = l.length + 1 := restL_len _ _ _ _
          by_cases hj : j < l.length + 1
          · rw [List.getElem?_append_left (by omega), if_pos (by omega), y1, setL_get _ _ _ _ (by omega), hdl, if_pos (by omega), rest_deed, ← padS_deed, List.getElem?_map, show lg.frm + (lg.used + j) - (lg.frm + lg.used) = j by omega]
          · rw [List.getElem?_append_right (by omega), rl, List.getElem?_drop, sec_get (by omega), show lg.used + (l.length + 1) + (j - (l.length + 1)) = lg.used + j by omega]
        have hn := h1.nc
        unfold NC at hn
        rw [hall, rd_app lg.first _ _ _ _ _ (all_deed lg.first deeds lg.used l [] lg.used hck)] at hn
        have hmono := used_mono lg.first (((Y.1.now.drop lg.frm).take lg.many).drop (lg.used + (l.length + 1))) (lg.used + (restL lg.first lg.used [] l).length) ⟨deeds ++ [[] ++ l], [], lg.used + (l.length + 1)⟩ (by rw [restL_len]; exact Nat.le_refl _)
        rw [hn.1] at hmono
        dsimp only at hmono
        omega
      · exact h1
    · generalize lgW X.1 (lg.frm + lg.used) (deedS (lg.first + lg.used) l) = Y at *
      rw [if_pos (by rw [y0]; decide)] at e
      right; left
      rw [e]
      have yl : Y.1.now.length = d.now.length := by rw [y4, xl]
      refine ⟨y0, ?_, y2, yl, fun keep => hdeed _ (by rw [land_len, y1, x2, setL_len]) (fun j s hs => ?_)⟩
      · by_cases hneg : d.left < 0
        · have := x5 hneg; omega
        · omega
      · dsimp only at hs
        rw [y1, y5, x3, List.nil_append] at hs
        rcases land_sub keep _ _ _ _ _ hs with h1 | h1
        · left; rw [x2, ← x1] at h1; exact h1
        · right
          obtain ⟨i, t, k1, k2⟩ := mem_wrsL _ _ _ h1
          simp only [Prod.mk.injEq] at k2
          rw [List.getElem?_take] at k1
          split at k1
          · exact ⟨i, t, k1, k2.1, k2.2⟩
          · cases k1
  · generalize lgW d (lg.frm + lg.used) (List.replicate AN ⟨#[]⟩) = X at *
    dsimp only at e
    rw [if_pos (by rw [x0]; decide)] at e
    right; left
    rw [e]
    refine ⟨x0, x3, x2, x4, fun keep => .inl ?_⟩
    dsimp only
    rw [x1, x5, hq.wr, List.nil_append, hq.kept]
    have hll : (landW keep d.now (wrsL (lg.frm + lg.used) ((List.replicate AN (⟨#[]⟩ : ByteArray)).take m)) 0).length = d.now.length := land_len _ _ _ _
    have hsub : ∀ j s, (landW keep d.now (wrsL (lg.frm + lg.used) ((List.replicate AN (⟨#[]⟩ : ByteArray)).take m)) 0)[j]? = some s → d.now[j]? = some s ∨ (s = zsec ∧ lg.frm + lg.used ≤ j) := fun j s hs => by
      rcases land_sub keep _ _ _ _ _ hs with h1 | h1
      · exact .inl h1
      · obtain ⟨i, t, k1, k2⟩ := mem_wrsL _ _ _ h1
        simp only [Prod.mk.injEq] at k2
        rw [List.getElem?_take] at k1
        split at k1
        · rw [List.getElem?_replicate] at k1
          split at k1
          · simp at k1
            exact .inr ⟨by rw [k2.2, ← k1, pad_nought], by omega⟩
          · cases k1
        · cases k1
    generalize landW keep d.now (wrsL (lg.frm + lg.used) ((List.replicate AN (⟨#[]⟩ : ByteArray)).take m)) 0 = k' at *
    refine hbase.zeros (by rw [sec_len (by omega)]; exact hlen0.symm) (take_same fun j hj => ?_) (fun j s hj hs => ?_)
    · show _ = ((d.now.drop lg.frm).take lg.many)[j]?
      rw [sec_get (by omega), sec_get hf, if_pos (by omega), if_pos (by omega)]
      obtain ⟨s, hs⟩ : ∃ s, k'[lg.frm + j]? = some s := ⟨k'[lg.frm + j]'(by omega), List.getElem?_eq_getElem (by omega)⟩
      rcases hsub _ s hs with h1 | ⟨-, h1⟩
      · rw [hs, h1]
      · omega
    · show ((d.now.drop lg.frm).take lg.many)[j]? = some s ∨ _
      rw [sec_get (by omega)] at hs
      rw [sec_get hf]
      split at hs
      · rename_i hjm
        rw [if_pos hjm]
        rcases hsub _ s hs with h1 | ⟨h1, -⟩
        · exact .inl h1
        · exact .inr h1
      · cases hs
end Go.Proofs.YtikkakdeapbioaaDoor
