/- Plain facts on places: what is put at a place is there, nothing else is moved, and all stays good. Nothing of the program. -/
import Derived.Test.YtnjncemjghmpoabPut
import Derived.Test.YtnjncemjghmpoabGood
namespace Go.Proofs.Ytnjncemjghmpoab
open Go.RowKit
/-- places rise -/
def Rise (l : List Hd) : Prop := l.Pairwise (fun x y => befB x.holder x.slot y.holder y.slot = true)
theorem low_or {h s : Int} {x : Hd} (h1 : lowP h s x = false) : isAt h s x = true ∧ highP h s x = false ∨ isAt h s x = false ∧ highP h s x = true := by
  unfold lowP befB at h1
  unfold isAt highP befB
  by_cases e : x.holder = h
  · simp only [e, if_true, decide_eq_false_iff_not] at h1
    by_cases e2 : x.slot = s
    · left; simp [e, e2]
    · right; simp [e, e2]; omega
  · rw [if_neg e, decide_eq_false_iff_not] at h1
    right
    refine ⟨by simp [e], ?_⟩
    rw [if_neg (fun e' => e e'.symm)]; exact decide_eq_true (by omega)
theorem low_not {h s : Int} {x : Hd} (h1 : lowP h s x = true) : isAt h s x = false ∧ highP h s x = false := by
  unfold lowP befB at h1
  unfold isAt highP befB
  by_cases e : x.holder = h
  · simp only [e, if_true, decide_eq_true_eq] at h1
    simp [e]; omega
  · rw [if_neg e, decide_eq_true_eq] at h1
    refine ⟨by simp [e], ?_⟩
    rw [if_neg (fun e' => e e'.symm)]; exact decide_eq_false (by omega)
theorem low_later {h s : Int} {x y : Hd} (h1 : lowP h s x = false) (h2 : befB x.holder x.slot y.holder y.slot = true) : lowP h s y = false := by
  unfold lowP befB at *
  by_cases e1 : x.holder = h <;> by_cases e2 : y.holder = h <;> by_cases e3 : x.holder = y.holder <;> simp_all <;> omega
theorem rise_nonlow {h s : Int} {x : Hd} {r : List Hd} (hr : Rise (x :: r)) (hx : lowP h s x = false) : ∀ y ∈ x :: r, lowP h s y = false := by
  intro y hy
  rcases List.mem_cons.1 hy with rfl | hy
  · exact hx
  · exact low_later hx ((List.pairwise_cons.1 hr).1 y hy)
theorem nonlow_filters {h s : Int} {l : List Hd} (hl : ∀ y ∈ l, lowP h s y = false) : l.filter (lowP h s) = [] ∧ l.filter (fun x => !isAt h s x) = l.filter (highP h s) := by
  constructor
  · rw [List.filter_eq_nil_iff]; intro y hy; simp [hl y hy]
  · apply List.filter_congr
    intro y hy
    rcases low_or (hl y hy) with ⟨h1, h2⟩ | ⟨h1, h2⟩ <;> simp [h1, h2]
theorem good_rise {l : List Hd} (hg : Good l) : Rise l := by
  have step : ∀ k x y, l[k]? = some x → l[k + 1]? = some y → befB x.holder x.slot y.holder y.slot = true := fun k x y hx hy => (hg (k + 1) y hy).2.2 k x rfl hx
  have tr : ∀ {x y z : Hd}, befB x.holder x.slot y.holder y.slot = true → befB y.holder y.slot z.holder z.slot = true → befB x.holder x.slot z.holder z.slot = true := by
    intro x y z h1 h2
    unfold befB at *
    by_cases e1 : x.holder = y.holder <;> by_cases e2 : y.holder = z.holder <;> by_cases e3 : x.holder = z.holder <;> simp_all <;> omega
  clear hg
  induction l with
  | nil => exact List.Pairwise.nil
  | cons x r ih =>
    have hr := ih (fun k y z hy hz => step (k + 1) y z (by simpa using hy) (by simpa using hz))
    refine List.pairwise_cons.2 ⟨?_, hr⟩
    cases r with
    | nil => intro y hy; cases hy
    | cons y r' =>
      have h0 := step 0 x y rfl rfl
      intro z hz
      rcases List.mem_cons.1 hz with rfl | hz
      · exact h0
      · exact tr h0 ((List.pairwise_cons.1 hr).1 z hz)


def PlAt (w : World) (b : Nat) (h s : Int) : Prop := w.cell? ⟨b, 0, none⟩ = some (.int .i64 h) ∧ w.cell? ⟨b, 1, none⟩ = some (.int .i64 s)
theorem PlAt.below {W w1 : World} (hb : Below W.heap.size W w1) {b : Nat} {h s : Int} (hlt : b < W.heap.size) (hp : PlAt W b h s) : PlAt w1 b h s := by
  obtain ⟨h1, h2⟩ := hp
  have g := (bcell hb).1
  exact ⟨by rw [g _ _ hlt]; exact h1, by rw [g _ _ hlt]; exact h2⟩
theorem PlAt_new (w : World) (t : TypeId) (h s : Int) : PlAt (w.alloc (.cells #[.int .i64 h, .int .i64 s] t)) w.heap.size h s := by
  refine ⟨?_, ?_⟩ <;> (rw [World.cell?_alloc_new]; rfl)
/-- a place's rank -/
theorem good_rank {l : List Hd} (hg : Good l) : ∀ (k : Nat) (x : Hd), l[k]? = some x → (k : Int) ≤ (x.holder - 1) * 6 + x.slot
  | 0, x, hx => by
    obtain ⟨⟨h1, h2, h3, h4⟩, _⟩ := hg 0 x hx
    simp; omega
  | k + 1, x, hx => by
    have hlt : k < l.length := by have := (List.getElem?_eq_some_iff.1 hx).1; omega
    have hy : l[k]? = some l[k] := List.getElem?_eq_getElem hlt
    have ih := good_rank hg k _ hy
    obtain ⟨⟨h1, h2, h3, h4⟩, _, hb⟩ := hg (k + 1) x hx
    obtain ⟨⟨g1, g2, g3, g4⟩, _⟩ := hg k _ hy
    have := hb k _ rfl hy
    unfold befB at this
    by_cases e : l[k].holder = x.holder
    · rw [if_pos e, decide_eq_true_eq] at this
      rw [e] at ih; push_cast; omega
    · rw [if_neg e, decide_eq_true_eq] at this
      push_cast; omega
theorem good_len {l : List Hd} (hg : Good l) : l.length ≤ 24 := by
  refine Nat.le_of_not_lt fun hn => ?_
  have hy : l[24]? = some l[24] := List.getElem?_eq_getElem (by omega)
  have := good_rank hg 24 _ hy
  obtain ⟨⟨g1, g2, g3, g4⟩, _⟩ := hg 24 _ hy
  omega
theorem putL_len (l : List Hd) (h s id : Int) : (putL l h s id).length ≤ 2 * l.length + 1 := by
  have h1 := putM_len l h s id
  have h2 := List.length_filter_le (highP h s) l
  unfold putL
  rw [List.length_append]; omega

theorem idxFrom_first {α : Type} {p : α → Bool} : ∀ (l : List α) (n j : Nat), idxFrom p l n = ((n + j : Nat) : Int) → ∀ k y, k < j → l[k]? = some y → p y = false
  | [], n, j, h, k, y, hk, hy => by simp at hy
  | x :: r, n, j, h, k, y, hk, hy => by
    unfold idxFrom at h
    by_cases hx : p x = true
    · rw [if_pos hx] at h; omega
    · rw [if_neg hx] at h
      cases k with
      | zero => have : x = y := by simpa using hy
                subst this; simpa using hx
      | succ k =>
        cases j with
        | zero => omega
        | succ j => exact idxFrom_first r (n + 1) j (by rw [h]; congr 1; omega) k y (by omega) (by simpa using hy)
theorem idx_first {α : Type} {p : α → Bool} {l : List α} {j : Nat} (h : idx p l = (j : Int)) : ∀ k y, k < j → l[k]? = some y → p y = false :=
  idxFrom_first l 0 j (by rw [show idxFrom p l 0 = idx p l from rfl, h]; simp)
theorem idx_none {α : Type} {p : α → Bool} {l : List α} (h : idx p l = -1) : ∀ (k : Nat) (y : α), l[k]? = some y → p y = false := by
  intro k y hy
  rcases idx_cases p l with ⟨_, h2⟩ | ⟨j, x, h1, _⟩
  · have := List.find?_eq_none.1 h2 y (List.mem_of_getElem? hy); simpa using this
  · rw [h1] at h; omega


theorem high_not {h s : Int} {x : Hd} (h1 : highP h s x = true) : isAt h s x = false := by
  unfold highP befB at h1
  unfold isAt
  by_cases e : h = x.holder
  · rw [if_pos e, decide_eq_true_eq] at h1
    simp; intro _; omega
  · simp; intro e'; exact absurd e'.symm e
theorem find_filter_all {α : Type} {p f : α → Bool} (l : List α) (h : ∀ x, p x = true → f x = true) : (l.filter f).find? p = l.find? p := by
  rw [List.find?_filter]
  congr 1
  funext x
  cases hp : p x with
  | true => simp [h x hp]
  | false => simp
theorem find_filter_none {α : Type} {p f : α → Bool} (l : List α) (h : ∀ x, p x = true → f x = false) : (l.filter f).find? p = none := by
  rw [List.find?_filter, List.find?_eq_none]
  intro x _
  cases hp : p x with
  | true => simp [h x hp]
  | false => simp
theorem at_put_same (l : List Hd) (h s id : Int) : atP (putL l h s id) h s = id := by
  have e1 : (l.filter (lowP h s)).find? (isAt h s) = none := find_filter_none l (fun x hx => by
    cases hl : lowP h s x with
    | false => rfl
    | true => rw [(low_not hl).1] at hx; cases hx)
  have e2 : (l.filter (highP h s)).find? (isAt h s) = none := find_filter_none l (fun x hx => by
    cases hl : highP h s x with
    | false => rfl
    | true => rw [high_not hl] at hx; cases hx)
  unfold atP putL putM
  by_cases hid : id = 0
  · rw [if_pos hid]
    simp [List.find?_append, e1, e2, hid]
  · rw [if_neg hid]
    have : isAt h s ⟨h, s, id⟩ = true := by simp [isAt]
    simp [List.find?_append, e1, this]
theorem at_put_other (l : List Hd) (h s id g t : Int) (hne : ¬ (g = h ∧ t = s)) : atP (putL l h s id) g t = atP l g t := by
  have em : isAt g t ⟨h, s, id⟩ = false := by simp [isAt]; intro e; subst e; intro e; exact hne ⟨rfl, e.symm⟩
  have emid : (if id = 0 then ([] : List Hd) else [⟨h, s, id⟩]).find? (isAt g t) = none := by
    split <;> simp [em]
  cases hq : befB g t h s with
  | true =>
    have e1 : (l.filter (lowP h s)).find? (isAt g t) = l.find? (isAt g t) := find_filter_all l (fun x hx => by
      have : x.holder = g ∧ x.slot = t := by simpa [isAt] using hx
      unfold lowP; rw [this.1, this.2]; exact hq)
    have e2 : (l.filter (highP h s)).find? (isAt g t) = none := find_filter_none l (fun x hx => by
      have : x.holder = g ∧ x.slot = t := by simpa [isAt] using hx
      unfold highP; rw [this.1, this.2]
      unfold befB at hq ⊢
      by_cases e : g = h
      · rw [if_pos e, decide_eq_true_eq] at hq; rw [if_pos e.symm]; exact decide_eq_false (by omega)
      · rw [if_neg e, decide_eq_true_eq] at hq; rw [if_neg (fun e' => e e'.symm)]; exact decide_eq_false (by omega))
    unfold atP putL putM
    simp [List.find?_append, e1, e2, emid]
  | false =>
    have e1 : (l.filter (lowP h s)).find? (isAt g t) = none := find_filter_none l (fun x hx => by
      have : x.holder = g ∧ x.slot = t := by simpa [isAt] using hx
      unfold lowP; rw [this.1, this.2]; exact hq)
    have e2 : (l.filter (highP h s)).find? (isAt g t) = l.find? (isAt g t) := find_filter_all l (fun x hx => by
      have : x.holder = g ∧ x.slot = t := by simpa [isAt] using hx
      unfold highP; rw [this.1, this.2]
      unfold befB at hq ⊢
      by_cases e : g = h
      · rw [if_pos e, decide_eq_false_iff_not] at hq; rw [if_pos e.symm]; exact decide_eq_true (by
          have : ¬ t = s := fun e' => hne ⟨e, e'⟩
          omega)
      · rw [if_neg e, decide_eq_false_iff_not] at hq; rw [if_neg (fun e' => e e'.symm)]; exact decide_eq_true (by omega))
    unfold atP putL putM
    simp [List.find?_append, e1, e2, emid]
theorem befB_trans {x y z : Hd} (h1 : befB x.holder x.slot y.holder y.slot = true) (h2 : befB y.holder y.slot z.holder z.slot = true) : befB x.holder x.slot z.holder z.slot = true := by
  unfold befB at *
  by_cases e1 : x.holder = y.holder <;> by_cases e2 : y.holder = z.holder <;> by_cases e3 : x.holder = z.holder <;> simp_all <;> omega
theorem good_of_rise {l : List Hd} (h : ∀ x ∈ l, plOk x.holder x.slot ∧ x.writ ≠ 0) (hr : Rise l) : Good l := by
  intro k x hx
  have hm := h x (List.mem_of_getElem? hx)
  refine ⟨hm.1, hm.2, ?_⟩
  intro j y hj hy
  subst hj
  obtain ⟨hj1, hy1⟩ := List.getElem?_eq_some_iff.1 hy
  obtain ⟨hj2, hx1⟩ := List.getElem?_eq_some_iff.1 hx
  have := List.pairwise_iff_getElem.1 hr j (j + 1) hj1 hj2 (by omega)
  rw [hy1, hx1] at this; exact this
theorem good_put {l : List Hd} (hg : Good l) {h s id : Int} (hp : plOk h s) : Good (putL l h s id) := by
  have hr := good_rise hg
  have hmem : ∀ x ∈ l, plOk x.holder x.slot ∧ x.writ ≠ 0 := by
    intro x hx
    obtain ⟨k, hk⟩ := List.getElem?_of_mem hx
    exact ⟨(hg k x hk).1, (hg k x hk).2.1⟩
  refine good_of_rise ?_ ?_
  · intro x hx
    unfold putL putM at hx
    simp only [List.mem_append, List.mem_filter] at hx
    rcases hx with (hx | hx) | hx
    · exact hmem x hx.1
    · by_cases hid : id = 0
      · rw [if_pos hid] at hx; cases hx
      · rw [if_neg hid] at hx
        have : x = ⟨h, s, id⟩ := by simpa using hx
        subst this; exact ⟨hp, hid⟩
    · exact hmem x hx.1
  · unfold Rise putL putM
    rw [List.pairwise_append, List.pairwise_append]
    refine ⟨⟨hr.filter _, ?_, ?_⟩, hr.filter _, ?_⟩
    · split <;> simp
    · intro x hx y hy
      have hl : lowP h s x = true := (List.mem_filter.1 hx).2
      split at hy
      · cases hy
      · have : y = ⟨h, s, id⟩ := by simpa using hy
        subst this; exact hl
    · intro x hx y hy
      have hh : highP h s y = true := (List.mem_filter.1 hy).2
      rcases List.mem_append.1 hx with hx | hx
      · have hl : lowP h s x = true := (List.mem_filter.1 hx).2
        exact befB_trans (y := ⟨h, s, id⟩) hl hh
      · split at hx
        · cases hx
        · have : x = ⟨h, s, id⟩ := by simpa using hx
          subst this; exact hh
theorem freeFrom_spec (l : List Hd) (h : Int) : ∀ (n k : Nat), (freeFrom l h n k = -1 ∧ ∀ j : Nat, k ≤ j → j < k + n → atP l h j ≠ 0) ∨ ∃ m : Nat, freeFrom l h n k = (m : Int) ∧ k ≤ m ∧ m < k + n ∧ atP l h m = 0 ∧ ∀ j : Nat, k ≤ j → j < m → atP l h j ≠ 0
  | 0, k => .inl ⟨rfl, fun j h1 h2 => by omega⟩
  | n + 1, k => by
    by_cases he : atP l h k = 0
    · exact .inr ⟨k, by simp [freeFrom, he], by omega, by omega, he, fun j h1 h2 => by omega⟩
    · rcases freeFrom_spec l h n (k + 1) with ⟨h1, h2⟩ | ⟨m, h1, h2, h3, h4, h5⟩
      · refine .inl ⟨by simp [freeFrom, he, h1], fun j hj1 hj2 => ?_⟩
        by_cases e : j = k
        · subst e; exact he
        · exact h2 j (by omega) (by omega)
      · refine .inr ⟨m, by simp [freeFrom, he, h1], by omega, by omega, h4, fun j hj1 hj2 => ?_⟩
        by_cases e : j = k
        · subst e; exact he
        · exact h5 j (by omega) hj2
theorem free_spec (l : List Hd) (h : Int) : (freeP l h = -1 ∧ ∀ s : Int, 0 ≤ s → s ≤ 5 → atP l h s ≠ 0) ∨ ∃ m : Nat, freeP l h = (m : Int) ∧ m ≤ 5 ∧ atP l h m = 0 ∧ ∀ s : Int, 0 ≤ s → s < m → atP l h s ≠ 0 := by
  rcases freeFrom_spec l h 6 0 with ⟨h1, h2⟩ | ⟨m, h1, h2, h3, h4, h5⟩
  · refine .inl ⟨h1, fun s h0 h6 => ?_⟩
    have := h2 s.toNat (by omega) (by omega)
    rwa [show ((s.toNat : Nat) : Int) = s by omega] at this
  · refine .inr ⟨m, h1, by omega, h4, fun s h0 hm => ?_⟩
    have := h5 s.toNat (by omega) (by omega)
    rwa [show ((s.toNat : Nat) : Int) = s by omega] at this
end Go.Proofs.Ytnjncemjghmpoab
