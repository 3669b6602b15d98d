/- A log's deeds, behind an addition and behind a fall: plain data, nothing of the program. -/
import Derived.Test.YtikkakdeapbioaaDoorLogP
set_option linter.unusedVariables false
set_option linter.unusedSimpArgs false
namespace Go.Proofs.YtikkakdeapbioaaDoor
open Go.RowKit

def rdAll (first : Nat) : List (List UInt8) → Nat → Lst → Option Lst
  | [], _, st => some st
  | s :: r, i, st => (lstep first i st s).bind (rdAll first r (i + 1))
theorem rd_app (first : Nat) (b : List (List UInt8)) : ∀ (a : List (List UInt8)) (i : Nat) (st st' : Lst), rdAll first a i st = some st' → rdLog first (a ++ b) i st = rdLog first b (i + a.length) st'
  | [], i, st, st', h => by simp [rdAll] at h; subst h; simp
  | s :: r, i, st, st', h => by
    unfold rdAll at h
    cases hs : lstep first i st s with
    | none => simp [hs] at h
    | some x =>
      simp [hs] at h
      rw [List.cons_append]
      rw [rd_some rfl hs, rd_app first b r (i + 1) x st' h, List.length_cons, show i + 1 + r.length = i + (r.length + 1) by omega]
theorem rdAll_app (first : Nat) (b : List (List UInt8)) : ∀ (a : List (List UInt8)) (i : Nat) (st st' : Lst), rdAll first a i st = some st' → rdAll first (a ++ b) i st = rdAll first b (i + a.length) st'
  | [], i, st, st', h => by simp [rdAll] at h; subst h; simp
  | s :: r, i, st, st', h => by
    unfold rdAll at h
    cases hs : lstep first i st s with
    | none => simp [hs] at h
    | some x =>
      simp [hs] at h
      have e : rdAll first (s :: (r ++ b)) i st = rdAll first (r ++ b) (i + 1) x := by
        conv => lhs; unfold rdAll
        rw [hs]; rfl
      rw [List.cons_append, e, rdAll_app first b r (i + 1) x st' h, List.length_cons, show i + 1 + r.length = i + (r.length + 1) by omega]
theorem lstep_form {first i : Nat} {st st' : Lst} {s : List UInt8} (h : lstep first i st s = some st') : (∃ c, st' = ⟨st.deeds, st.opn ++ [c], st.used⟩) ∨ st' = ⟨st.deeds ++ [st.opn], [], i + 1⟩ := by
  unfold lstep at h
  split at h
  · cases h
  · split at h
    · split at h
      · cases h
      · rename_i c _; simp at h; exact .inl ⟨c, h.symm⟩
    · split at h
      · simp at h; exact .inr h.symm
      · cases h
theorem used_mono (first : Nat) : ∀ (l : List (List UInt8)) (i : Nat) (st : Lst), st.used ≤ i → st.used ≤ (rdLog first l i st).used
  | [], i, st, h => Nat.le_refl _
  | s :: r, i, st, h => by
    cases hs : lstep first i st s with
    | none => rw [rd_none rfl hs]; exact Nat.le_refl _
    | some x =>
      rw [rd_some rfl hs]
      rcases lstep_form hs with ⟨c, rfl⟩ | rfl
      · exact used_mono first r (i + 1) ⟨st.deeds, st.opn ++ [c], st.used⟩ (Nat.le_succ_of_le h)
      · have := used_mono first r (i + 1) ⟨st.deeds ++ [st.opn], [], i + 1⟩ (Nat.le_refl _)
        dsimp only at this
        omega
/-- nothing more is closed -/
def NC (first : Nat) (l : List (List UInt8)) (i : Nat) (st : Lst) : Prop := (rdLog first l i st).used = st.used ∧ (rdLog first l i st).deeds = st.deeds
theorem rd_parts (first : Nat) : ∀ (l : List (List UInt8)) (i : Nat) (st : Lst), NC first l i st ∨ ∃ m, m ≤ l.length ∧ (rdLog first l i st).used = i + m ∧ rdAll first (l.take m) i st = some ⟨(rdLog first l i st).deeds, [], i + m⟩ ∧ NC first (l.drop m) (i + m) ⟨(rdLog first l i st).deeds, [], i + m⟩
  | [], i, st => .inl ⟨rfl, rfl⟩
  | s :: r, i, st => by
    cases hs : lstep first i st s with
    | none => exact .inl ⟨by rw [rd_none rfl hs], by rw [rd_none rfl hs]⟩
    | some x =>
      rw [rd_some rfl hs]
      rcases lstep_form hs with ⟨c, hx⟩ | hx
      · rcases rd_parts first r (i + 1) x with h | ⟨m, h1, h2, h3, h4⟩
        · left
          unfold NC
          rw [rd_some rfl hs, h.1, h.2, hx]
          exact ⟨rfl, rfl⟩
        · right
          refine ⟨m + 1, by simp; omega, by omega, ?_, ?_⟩
          · rw [List.take_succ_cons]
            unfold rdAll
            rw [hs]
            simp only [Option.bind_some]
            rw [h3, show i + 1 + m = i + (m + 1) by omega]
          · rw [List.drop_succ_cons, show i + (m + 1) = i + 1 + m by omega]
            exact h4
      · right
        rcases rd_parts first r (i + 1) x with h | ⟨m, h1, h2, h3, h4⟩
        · refine ⟨1, by simp, by rw [h.1, hx], ?_, ?_⟩
          · rw [List.take_succ_cons, List.take_zero]
            unfold rdAll
            rw [hs]
            simp only [Option.bind_some]
            unfold rdAll
            rw [h.2, hx]
          · rw [List.drop_succ_cons, List.drop_zero]
            have e : (⟨(rdLog first r (i + 1) x).deeds, [], i + 1⟩ : Lst) = x := by rw [h.2, hx]
            rw [e]
            exact h
        · refine ⟨m + 1, by simp; omega, by omega, ?_, ?_⟩
          · rw [List.take_succ_cons]
            unfold rdAll
            rw [hs]
            simp only [Option.bind_some]
            rw [h3, show i + 1 + m = i + (m + 1) by omega]
          · rw [List.drop_succ_cons, show i + (m + 1) = i + 1 + m by omega]
            exact h4
/-- the deeds of sectors, and where they end -/
structure LogInv (first : Nat) (l : List (List UInt8)) (deeds : List (List Ch)) (u : Nat) : Prop where
  le : u ≤ l.length
  all : rdAll first (l.take u) 0 ⟨[], [], 0⟩ = some ⟨deeds, [], u⟩
  nc : NC first (l.drop u) u ⟨deeds, [], u⟩
theorem LogInv.of (first : Nat) (l : List (List UInt8)) : LogInv first l (lgOf first l).deeds (lgOf first l).used := by
  rcases rd_parts first l 0 ⟨[], [], 0⟩ with h | ⟨m, h1, h2, h3, h4⟩
  · have e1 : (lgOf first l).used = 0 := h.1
    have e2 : (lgOf first l).deeds = [] := h.2
    rw [e1, e2]
    exact ⟨Nat.zero_le _, rfl, h⟩
  · rw [Nat.zero_add] at h2 h3 h4
    have e1 : (lgOf first l).used = m := h2
    rw [e1]
    exact ⟨h1, h3, h4⟩
theorem LogInv.read {first : Nat} {l : List (List UInt8)} {deeds : List (List Ch)} {u : Nat} (h : LogInv first l deeds u) : (lgOf first l).deeds = deeds ∧ (lgOf first l).used = u := by
  have e := rd_app first (l.drop u) (l.take u) 0 _ _ h.all
  rw [List.take_append_drop, Nat.zero_add, List.length_take, Nat.min_eq_left h.le] at e
  unfold lgOf
  rw [e]
  exact ⟨h.nc.2, h.nc.1⟩
theorem NC.zero (first : Nat) (r : List (List UInt8)) (i : Nat) (st : Lst) : NC first (zsec :: r) i st := by
  have hs : lstep first i st zsec = none := by unfold lstep; rw [secP_zero]
  unfold NC
  rw [rd_none rfl hs]
  exact ⟨rfl, rfl⟩
theorem NC.nil (first i : Nat) (st : Lst) : NC first [] i st := ⟨rfl, rfl⟩
/-- what stood there, or noughts -/
theorem NC.sub (first : Nat) : ∀ (r r' : List (List UInt8)) (i : Nat) (st : Lst), r'.length = r.length → (∀ (j : Nat) (s : List UInt8), r'[j]? = some s → r[j]? = some s ∨ s = zsec) → st.used ≤ i → NC first r i st → NC first r' i st
  | [], r', i, st, hl, _, _, h => by
    have : r' = [] := List.length_eq_zero_iff.1 (by simpa using hl)
    rw [this]; exact h
  | s :: r, [], i, st, hl, _, _, h => by simp at hl
  | s :: r, s' :: r', i, st, hl, hp, hu, h => by
    rcases hp 0 s' rfl with h0 | h0
    · have e : s = s' := by simpa using h0
      subst e
      cases hs : lstep first i st s with
      | none => unfold NC; rw [rd_none rfl hs]; exact ⟨rfl, rfl⟩
      | some x =>
        unfold NC at h ⊢
        rw [rd_some rfl hs] at h ⊢
        rcases lstep_form hs with ⟨c, rfl⟩ | rfl
        · exact NC.sub first r r' (i + 1) ⟨st.deeds, st.opn ++ [c], st.used⟩ (by simpa using hl) (fun j s hj => by simpa using hp (j + 1) s (by simpa using hj)) (by dsimp only; omega) h
        · have := used_mono first r (i + 1) ⟨st.deeds ++ [st.opn], [], i + 1⟩ (Nat.le_refl _)
          rw [h.1] at this
          dsimp only at this
          omega
    · rw [h0]; exact NC.zero first r' i st
/-- the sectors that are left of a deed -/
def restL (first i : Nat) (opn c : List Ch) : List (List UInt8) := (dChs (first + i) c ++ [secL 99 (first + i + c.length) (leL (opn.length + c.length) 4)]).map padL
theorem restL_cons (first i : Nat) (opn c : List Ch) (x : Ch) : restL first i opn (x :: c) = padL (secL 111 (first + i) (chL x)) :: restL first (i + 1) (opn ++ [x]) c := by
  unfold restL
  simp only [dChs, List.cons_append, List.map_cons, List.length_cons, List.length_append, List.length_nil]
  rw [show first + i + (c.length + 1) = first + (i + 1) + c.length by omega, show opn.length + (c.length + 1) = opn.length + (0 + 1) + c.length by omega, show first + i + 1 = first + (i + 1) by omega]
theorem restL_len (first i : Nat) (opn c : List Ch) : (restL first i opn c).length = c.length + 1 := by simp [restL, dChs_len]
theorem step_o (first i : Nat) (st : Lst) {x : Ch} (h : chkC x = 0) : lstep first i st (padL (secL 111 (first + i) (chL x))) = some ⟨st.deeds, st.opn ++ [x], st.used⟩ := by
  unfold lstep
  rw [secP_secL (.inl rfl) _ (by have := chL_len h; omega)]
  dsimp only
  rw [if_pos rfl, chP_chL h]
theorem step_c (first i : Nat) (st : Lst) : lstep first i st (padL (secL 99 (first + i) (leL st.opn.length 4))) = some ⟨st.deeds ++ [st.opn], [], i + 1⟩ := by
  unfold lstep
  rw [secP_secL (.inr rfl) _ (by rw [leL_len]; decide)]
  dsimp only
  rw [if_neg (by decide), if_pos rfl]
theorem all_deed (first : Nat) (deeds : List (List Ch)) (used : Nat) : ∀ (c opn : List Ch) (i : Nat), chksC c = 0 → rdAll first (restL first i opn c) i ⟨deeds, opn, used⟩ = some ⟨deeds ++ [opn ++ c], [], i + (c.length + 1)⟩
  | [], opn, i, _ => by
    have e : restL first i opn [] = [padL (secL 99 (first + i) (leL opn.length 4))] := by simp [restL, dChs]
    rw [e]
    unfold rdAll
    rw [step_c first i ⟨deeds, opn, used⟩]
    simp [rdAll]
  | x :: c, opn, i, h => by
    unfold chksC at h
    split at h
    · rename_i hx
      rw [restL_cons]
      unfold rdAll
      rw [step_o first i ⟨deeds, opn, used⟩ hx]
      simp only [Option.bind_some]
      rw [all_deed first deeds used c (opn ++ [x]) (i + 1) h]
      simp
      omega
    · rename_i hx; exact absurd h hx
/-- a part of a deed among noughts -/
theorem part_deed (first : Nat) (deeds : List (List Ch)) (used : Nat) : ∀ (c opn : List Ch) (i : Nat) (r : List (List UInt8)), chksC c = 0 → c.length + 1 ≤ r.length → (∀ (j : Nat) (s : List UInt8), j < c.length + 1 → r[j]? = some s → (restL first i opn c)[j]? = some s ∨ s = zsec) → r.take (c.length + 1) = restL first i opn c ∨ NC first r i ⟨deeds, opn, used⟩
  | c, opn, i, [], _, hl, _ => by simp at hl
  | [], opn, i, s :: r, _, hl, hp => by
    have e : restL first i opn [] = [padL (secL 99 (first + i) (leL opn.length 4))] := by simp [restL, dChs]
    rcases hp 0 s (by simp) rfl with h0 | h0
    · left
      rw [e] at h0 ⊢
      simp at h0
      simp [h0]
    · right; rw [h0]; exact NC.zero _ _ _ _
  | x :: c, opn, i, s :: r, h, hl, hp => by
    unfold chksC at h
    split at h
    · rename_i hx
      rw [restL_cons] at hp ⊢
      rcases hp 0 s (by simp) rfl with h0 | h0
      · have e : s = padL (secL 111 (first + i) (chL x)) := by simpa using h0.symm
        subst e
        rcases part_deed first deeds used c (opn ++ [x]) (i + 1) r h (by simpa using hl) (fun j s hj hs => by simpa using hp (j + 1) s (by simp; omega) (by simpa using hs)) with h1 | h1
        · left; rw [List.length_cons, List.take_succ_cons, h1]
        · right
          unfold NC at h1 ⊢
          rw [rd_some rfl (step_o first i ⟨deeds, opn, used⟩ hx)]
          exact h1
      · right; rw [h0]; exact NC.zero _ _ _ _
    · rename_i hx; exact absurd h hx
/-- what stands behind the deeds is as it was, or noughts -/
theorem LogInv.zeros {first : Nat} {l l' : List (List UInt8)} {deeds : List (List Ch)} {u : Nat} (h : LogInv first l deeds u) (hl : l'.length = l.length) (ht : l'.take u = l.take u) (hp : ∀ j s, u ≤ j → l'[j]? = some s → l[j]? = some s ∨ s = zsec) : LogInv first l' deeds u := by
  refine ⟨by rw [hl]; exact h.le, by rw [ht]; exact h.all, ?_⟩
  refine NC.sub first (l.drop u) (l'.drop u) u _ (by simp [hl]) (fun j s hj => ?_) (Nat.le_refl _) h.nc
  rw [List.getElem?_drop] at hj ⊢
  exact hp (u + j) s (by omega) hj
/-- a deed's sectors among noughts: it is there as a whole, or not at all -/
theorem LogInv.deed {first : Nat} {l l' : List (List UInt8)} {deeds : List (List Ch)} {u : Nat} {c : List Ch} (h : LogInv first l deeds u) (hl : l'.length = l.length) (hc : chksC c = 0) (hr : u + (c.length + 1) ≤ l.length) (ht : l'.take u = l.take u)
    (hp : ∀ j s, j < c.length + 1 → l'[u + j]? = some s → (restL first u [] c)[j]? = some s ∨ s = zsec) (he : ∀ s, l'[u + (c.length + 1)]? = some s → s = zsec) :
    LogInv first l' deeds u ∨ LogInv first l' (deeds ++ [c]) (u + (c.length + 1)) := by
  rcases part_deed first deeds u c [] u (l'.drop u) hc (by simp; omega) (fun j s hj hs => by rw [List.getElem?_drop] at hs; exact hp j s hj hs) with h1 | h1
  · right
    have e : l'.take (u + (c.length + 1)) = l'.take u ++ restL first u [] c := by rw [← h1, List.take_add]
    refine ⟨by omega, ?_, ?_⟩
    · rw [e, ht, rdAll_app first _ _ _ _ _ h.all, List.length_take, Nat.min_eq_left h.le, Nat.zero_add, all_deed first deeds u c [] u hc]
      simp
    · cases hd : l'.drop (u + (c.length + 1)) with
      | nil => exact NC.nil _ _ _
      | cons s r =>
        have : l'[u + (c.length + 1)]? = some s := by
          have := congrArg (fun x => x[0]?) hd
          rw [List.getElem?_drop] at this
          simpa using this
        rw [he s this]
        exact NC.zero _ _ _ _
  · left
    exact ⟨by rw [hl]; exact h.le, by rw [ht]; exact h.all, h1⟩
end Go.Proofs.YtikkakdeapbioaaDoor
