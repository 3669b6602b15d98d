/- Lists of writs that are right (C3), what is above and beneath in them (C1), and what is left without one (C2): pure theory. -/
import Derived.Test.YtnjncemjghmpoaaWithout
import Derived.Test.YtnjncemjghmpoaaBeneath
set_option linter.unusedVariables false
namespace Go.Proofs.Ytnjncemjghmpoaa
open Go.RowKit

theorem othB_no {b g : Int} (h : b = 0 ∨ b = g) : othB b g = false := by
  unfold othB
  rw [decide_eq_false_iff_not]
  rintro ⟨h1, h2, h3⟩
  rcases h with h | h
  · exact h2 h
  · exact h3 h.symm
theorem drvCode_zero {x : Wr} {r g : Int} (h : drvCode x r g = 0) : 0 ≤ r ∧ r ≤ 7 ∧ 0 ≤ g ∧ g ≤ 99 ∧ hasB x.rights r = true := by
  unfold drvCode at h
  by_cases h1 : r < 0 ∨ 7 < r ∨ g < 0 ∨ 99 < g
  · rw [if_pos h1] at h; cases h
  · rw [if_neg h1] at h
    by_cases h2 : hasB x.rights r = false ∨ othB x.badge g = true
    · rw [if_pos h2] at h; cases h
    · refine ⟨by omega, by omega, by omega, by omega, ?_⟩
      cases hh : hasB x.rights r with
      | true => rfl
      | false => exact absurd (Or.inl hh) h2
theorem drvCode_of {x : Wr} {r g : Int} (h1 : 0 ≤ r) (h2 : r ≤ 7) (h3 : 0 ≤ g) (h4 : g ≤ 99) (h5 : hasB x.rights r = true) (h6 : othB x.badge g = false) : drvCode x r g = 0 := by
  unfold drvCode
  rw [if_neg (by omega), if_neg (by simp [h5, h6])]
theorem cfOf_zero {x y : Wr} (h : cfOf x y = 0) : (0 ≤ x.rights ∧ x.rights ≤ 7 ∧ 0 ≤ x.badge ∧ x.badge ≤ 99 ∧ hasB y.rights x.rights = true) ∧ y.thing = x.thing ∧ (y.badge = 0 ∨ y.badge = x.badge) := by
  unfold cfOf at h
  by_cases h1 : drvCode y x.rights x.badge = 0
  · rw [if_neg (by simp [h1])] at h
    by_cases h2 : y.thing = x.thing ∧ (y.badge = 0 ∨ y.badge = x.badge)
    · exact ⟨drvCode_zero h1, h2⟩
    · rw [if_neg h2] at h; cases h
  · rw [if_pos h1] at h; exact absurd h h1
theorem cfOf_of {x y : Wr} (h1 : 0 ≤ x.rights ∧ x.rights ≤ 7 ∧ 0 ≤ x.badge ∧ x.badge ≤ 99 ∧ hasB y.rights x.rights = true) (h2 : y.thing = x.thing) (h3 : y.badge = 0 ∨ y.badge = x.badge) : cfOf x y = 0 := by
  obtain ⟨a, b, c, d, e⟩ := h1
  unfold cfOf
  rw [if_neg (by simp [drvCode_of a b c d e (othB_no h3)]), if_pos ⟨h2, h3⟩]
theorem hasB_trans8 : ∀ a b c : Fin 8, hasB (a.val : Int) (b.val : Int) = true → hasB (b.val : Int) (c.val : Int) = true → hasB (a.val : Int) (c.val : Int) = true := by decide
theorem hasB_trans {a b c : Int} (ha : 0 ≤ a ∧ a ≤ 7) (hb : 0 ≤ b ∧ b ≤ 7) (hc : 0 ≤ c ∧ c ≤ 7) (h1 : hasB a b = true) (h2 : hasB b c = true) : hasB a c = true := by
  have := hasB_trans8 ⟨a.toNat, by omega⟩ ⟨b.toNat, by omega⟩ ⟨c.toNat, by omega⟩
  simp only [Int.toNat_of_nonneg ha.1, Int.toNat_of_nonneg hb.1, Int.toNat_of_nonneg hc.1] at this
  exact this h1 h2
theorem cfOf_trans {x p q : Wr} (hp : wrOk p) (hq : wrOk q) (h1 : cfOf x p = 0) (h2 : cfOf p q = 0) : cfOf x q = 0 := by
  obtain ⟨⟨a1, a2, a3, a4, a5⟩, a6, a7⟩ := cfOf_zero h1
  obtain ⟨⟨b1, b2, b3, b4, b5⟩, b6, b7⟩ := cfOf_zero h2
  obtain ⟨-, -, -, -, -, -, -, -, q9, q10⟩ := hq
  refine cfOf_of ⟨a1, a2, a3, a4, hasB_trans ⟨q9, q10⟩ ⟨b1, b2⟩ ⟨a1, a2⟩ b5 a5⟩ (b6.trans a6) ?_
  rcases b7 with h | h
  · exact .inl h
  · rcases a7 with h' | h'
    · exact .inl (h.trans h')
    · exact .inr (h.trans h')

/-- writs that are right (C3) -/
def GoodW (l : List Wr) : Prop := (∀ x ∈ l, wrOk x) ∧ l.Pairwise (fun x y => x.id < y.id) ∧ ∀ x ∈ l, x.frm = 0 ∨ ∃ y ∈ l, y.id = x.frm ∧ cfOf x y = 0
theorem uniqW {l : List Wr} (h : l.Pairwise (fun x y => x.id < y.id)) {x y : Wr} (hx : x ∈ l) (hy : y ∈ l) (e : x.id = y.id) : x = y := by
  obtain ⟨i, hi, rfl⟩ := List.getElem_of_mem hx
  obtain ⟨j, hj, rfl⟩ := List.getElem_of_mem hy
  rw [List.pairwise_iff_getElem] at h
  rcases Nat.lt_trichotomy i j with hlt | heq | hgt
  · have := h i j hi hj hlt; omega
  · subst heq; rfl
  · have := h j i hj hi hgt; omega
theorem findFrom_mem (id : Int) : ∀ (l : List Wr) (k : Nat) (y : Wr), y ∈ l → y.id = id → 0 ≤ findFrom id l k
  | [], k, y, h, _ => by cases h
  | x :: r, k, y, h, e => by
    unfold findFrom
    split
    · omega
    · rename_i hne
      rcases List.mem_cons.1 h with rfl | h
      · exact absurd e hne
      · exact findFrom_mem id r (k + 1) y h e
theorem find_mem {l : List Wr} {id : Int} {y : Wr} (h : y ∈ l) (e : y.id = id) : ∃ j : Nat, find l id = (j : Int) :=
  ⟨(find l id).toNat, by have := findFrom_mem id l 0 y h e; unfold find; omega⟩
theorem find_none {l : List Wr} {id : Int} (h : ∀ y ∈ l, ¬ y.id = id) : find l id = -1 := by
  have hb := find_bd l id
  by_cases hn : find l id < 0
  · omega
  · obtain ⟨y, hy, e⟩ := find_get (j := (find l id).toNat) (by omega : find l id = _)
    exact absurd e (h y (List.mem_of_getElem? hy))
theorem chkFrom_zero (l : List Wr) : ∀ (n k : Nat), chkFrom l n k = 0 → ∀ j x, k ≤ j → j < k + n → l[j]? = some x → ckCode l j x = 0
  | 0, k, _, j, x, h1, h2, _ => by omega
  | n + 1, k, h, j, x, h1, h2, hx => by
    unfold chkFrom at h
    cases hk : l[k]? with
    | none =>
      have : l.length ≤ k := List.getElem?_eq_none_iff.1 hk
      have : j < l.length := (List.getElem?_eq_some_iff.1 hx).1
      omega
    | some y =>
      rw [hk] at h
      by_cases h0 : ckCode l k y = 0
      · by_cases e : j = k
        · subst e; rw [hk] at hx; cases hx; exact h0
        · exact chkFrom_zero l n (k + 1) (by simpa [h0] using h) j x (by omega) (by omega) hx
      · simp [h0] at h
theorem chkFrom_of (l : List Wr) (h : ∀ j x, l[j]? = some x → ckCode l j x = 0) : ∀ (n k : Nat), chkFrom l n k = 0
  | 0, _ => rfl
  | n + 1, k => by
    unfold chkFrom
    cases hk : l[k]? with
    | none => rfl
    | some y => simp [h k y hk, chkFrom_of l h n (k + 1)]
theorem ckCode_zero {l : List Wr} {k : Nat} {x : Wr} (h : ckCode l k x = 0) : wrOk x ∧ shapeBad l k x = false ∧ cfCode (l.take k) x = 0 := by
  unfold ckCode at h
  by_cases h1 : wrOk x
  · rw [if_neg (by simpa using h1)] at h
    cases h2 : shapeBad l k x with
    | true => rw [h2, if_pos rfl] at h; cases h
    | false => rw [h2, if_neg (by simp)] at h; exact ⟨h1, rfl, h⟩
  · rw [if_pos h1] at h; cases h
theorem good_of_chk {l : List Wr} (h : chk l = 0) : GoodW l := by
  have H : ∀ k x, l[k]? = some x → wrOk x ∧ shapeBad l k x = false ∧ cfCode (l.take k) x = 0 := fun k x hx =>
    ckCode_zero (chkFrom_zero l l.length 0 h k x (Nat.zero_le _) (by have := (List.getElem?_eq_some_iff.1 hx).1; omega) hx)
  refine ⟨fun x hx => ?_, ?_, fun x hx => ?_⟩
  · obtain ⟨k, hk⟩ := List.mem_iff_getElem?.1 hx
    exact (H k x hk).1
  · rw [List.pairwise_iff_getElem]
    intro i j hi hj hij
    induction j with
    | zero => omega
    | succ j ih =>
      have hj' : j < l.length := by omega
      have h1 : l[j]? = some l[j] := List.getElem?_eq_getElem hj'
      have h2 : l[j + 1]? = some l[j + 1] := List.getElem?_eq_getElem hj
      have h3 := (H (j + 1) _ h2).2.1
      rw [shapeBad_succ h1] at h3
      have h4 : ¬ l[j + 1].id ≤ l[j].id := of_decide_eq_false h3
      by_cases e : i = j
      · subst e; omega
      · have := ih hj' (by omega); omega
  · obtain ⟨k, hk⟩ := List.mem_iff_getElem?.1 hx
    have h3 := (H k x hk).2.2
    by_cases hf : x.frm = 0
    · exact .inl hf
    · refine .inr ?_
      have hb := find_bd (l.take k) x.frm
      by_cases hn : find (l.take k) x.frm < 0
      · unfold cfCode at h3; rw [if_neg hf, if_pos hn] at h3; cases h3
      · obtain ⟨j, hj⟩ : ∃ j : Nat, find (l.take k) x.frm = (j : Int) := ⟨_, (Int.toNat_of_nonneg (by omega)).symm⟩
        obtain ⟨y, hy, he⟩ := find_get hj
        rw [cfCode_at hf hj hy] at h3
        exact ⟨y, List.mem_of_mem_take (List.mem_of_getElem? hy), he, h3⟩
theorem take_of_lt {l : List Wr} (hp : l.Pairwise (fun x y => x.id < y.id)) {k : Nat} {x y : Wr} (hx : l[k]? = some x) (hy : y ∈ l) (hlt : y.id < x.id) : y ∈ l.take k := by
  obtain ⟨i, hi⟩ := List.mem_iff_getElem?.1 hy
  obtain ⟨hi1, hi2⟩ := List.getElem?_eq_some_iff.1 hi
  obtain ⟨hk1, hk2⟩ := List.getElem?_eq_some_iff.1 hx
  rw [List.pairwise_iff_getElem] at hp
  rcases Nat.lt_trichotomy i k with h | h | h
  · rw [List.mem_iff_getElem?]
    exact ⟨i, by rw [List.getElem?_take, if_pos h]; exact hi⟩
  · subst h; rw [hi] at hx; cases hx; omega
  · have := hp k i hk1 hi1 h; rw [hk2, hi2] at this; omega
theorem find_take {l : List Wr} (hg : GoodW l) {k : Nat} {x : Wr} (hx : l[k]? = some x) (hf : ¬ x.frm = 0) : ∃ (j : Nat) (y : Wr), find (l.take k) x.frm = (j : Int) ∧ j < k ∧ l[j]? = some y ∧ y.id = x.frm ∧ cfOf x y = 0 := by
  have hxl : x ∈ l := List.mem_of_getElem? hx
  obtain ⟨y, hy, he, hc⟩ := (hg.2.2 x hxl).resolve_left hf
  have hlt : x.frm < x.id := (hg.1 x hxl).2.2.2.2.2.2.2.1
  have ht := take_of_lt hg.2.1 hx hy (by omega)
  obtain ⟨j, hj⟩ := find_mem ht he
  obtain ⟨z, hz, hze⟩ := find_get hj
  have hjk : j < k := by have := (List.getElem?_eq_some_iff.1 hz).1; rw [List.length_take] at this; omega
  have hz' : l[j]? = some z := by rw [List.getElem?_take, if_pos hjk] at hz; exact hz
  have : z = y := uniqW hg.2.1 (List.mem_of_getElem? hz') hy (by rw [hze, he])
  subst this
  exact ⟨j, z, hj, hjk, hz', hze, hc⟩
theorem chk_of_good {l : List Wr} (hg : GoodW l) : chk l = 0 := by
  refine chkFrom_of l (fun k x hx => ?_) _ _
  have hxl : x ∈ l := List.mem_of_getElem? hx
  refine ckCode_cf hx (hg.1 x hxl) ?_ ?_
  · cases k with
    | zero => rfl
    | succ j =>
      have hk := (List.getElem?_eq_some_iff.1 hx)
      have hj : j < l.length := by have := hk.1; omega
      rw [shapeBad_succ (List.getElem?_eq_getElem hj)]
      have := (List.pairwise_iff_getElem.1 hg.2.1) j (j + 1) hj hk.1 (by omega)
      rw [hk.2] at this
      exact decide_eq_false (by omega)
  · by_cases hf : x.frm = 0
    · unfold cfCode; rw [if_pos hf]
    · obtain ⟨j, y, h1, h2, h3, h4, h5⟩ := find_take hg hx hf
      rw [cfCode_at hf h1 (by rw [List.getElem?_take, if_pos h2]; exact h3)]
      exact h5

/-- what is above a writ, without places -/
inductive Abv (l : List Wr) : Wr → List Int → Prop
  | nil {x : Wr} : x.frm = 0 → Abv l x []
  | cons {x y : Wr} {L : List Int} : ¬ x.frm = 0 → y ∈ l → y.id = x.frm → Abv l y L → Abv l x (x.frm :: L)
theorem abv_abv {l : List Wr} (hg : GoodW l) : ∀ (k n : Nat) (x : Wr), l[k]? = some x → k < n → Abv l x (abv l n (k : Int)) := by
  intro k
  induction k using Nat.strongRecOn with
  | _ k ih =>
    intro n x hx hn
    by_cases hf : x.frm = 0
    · rw [abv_zero hx hf]; exact .nil hf
    · obtain ⟨n', rfl⟩ : ∃ n', n = n' + 1 := ⟨n - 1, by omega⟩
      obtain ⟨j, y, h1, h2, h3, h4, _⟩ := find_take hg hx hf
      rw [abv_step hx hf, h1]
      exact .cons hf (List.mem_of_getElem? h3) h4 (ih j h2 n' y h3 (by omega))
theorem above_abv {l : List Wr} (hg : GoodW l) {x : Wr} (hx : x ∈ l) : Abv l x (aboveL l x.id) := by
  obtain ⟨j, hj⟩ := find_mem hx rfl
  obtain ⟨y, hy, he⟩ := find_get hj
  have : y = x := uniqW hg.2.1 (List.mem_of_getElem? hy) hx he
  subst this
  unfold aboveL
  rw [hj]
  exact abv_abv hg j _ y hy (List.getElem?_eq_some_iff.1 hy).1
theorem abv_uniq {l : List Wr} (hp : l.Pairwise (fun x y => x.id < y.id)) {x : Wr} {L M : List Int} (h : Abv l x L) (h' : Abv l x M) : L = M := by
  induction h generalizing M with
  | nil hf =>
    cases h' with
    | nil => rfl
    | cons hf' => exact absurd hf hf'
  | cons hf hy he _ ih =>
    cases h' with
    | nil hf' => exact absurd hf' hf
    | cons _ hz hze ha =>
      have := uniqW hp hz hy (hze.trans he.symm)
      subst this
      rw [ih ha]
theorem abv_lt {l : List Wr} (hg : GoodW l) {x : Wr} {L : List Int} (h : Abv l x L) (hx : x ∈ l) : ∀ a ∈ L, a < x.id := by
  induction h with
  | nil => intro a ha; cases ha
  | cons hf hy he _ ih =>
    rename_i x y L _
    intro a ha
    have hlt : x.frm < x.id := (hg.1 x hx).2.2.2.2.2.2.2.1
    rcases List.mem_cons.1 ha with rfl | ha
    · exact hlt
    · have := ih hy a ha; omega
theorem abv_mem {l : List Wr} {x : Wr} {L : List Int} (h : Abv l x L) : ∀ a ∈ L, ∃ y ∈ l, y.id = a := by
  induction h with
  | nil => intro a ha; cases ha
  | cons hf hy he _ ih =>
    rename_i x y L _
    intro a ha
    rcases List.mem_cons.1 ha with rfl | ha
    · exact ⟨y, hy, he⟩
    · exact ih a ha

/-! ### Beneath -/
theorem bn_sub (a : Int) : ∀ (l : List Wr) (B : List Int) (e : Int), e ∈ B → e ∈ l.foldl (bnStep a) B
  | [], B, e, h => h
  | x :: r, B, e, h => by
    refine bn_sub a r _ e ?_
    unfold bnStep
    split
    · exact List.mem_append_left _ h
    · exact h
theorem bn_from (a : Int) : ∀ (l : List Wr) (B : List Int) (e : Int), e ∈ l.foldl (bnStep a) B → e ∈ B ∨ ∃ x ∈ l, x.id = e
  | [], B, e, h => .inl h
  | x :: r, B, e, h => by
    rcases bn_from a r _ e h with h | ⟨y, hy, he⟩
    · unfold bnStep at h
      split at h
      · rcases List.mem_append.1 h with h | h
        · exact .inl h
        · exact .inr ⟨x, List.mem_cons_self, (List.mem_singleton.1 h).symm⟩
      · exact .inl h
    · exact .inr ⟨y, List.mem_cons_of_mem _ hy, he⟩
theorem bn_iff {l : List Wr} (hg : GoodW l) (a : Int) {x : Wr} (hx : x ∈ l) : x.id ∈ beneathL l a ↔ ¬ x.frm = 0 ∧ (x.frm = a ∨ x.frm ∈ beneathL l a) := by
  obtain ⟨l1, l2, rfl⟩ := List.append_of_mem hx
  have hp := hg.2.1
  rw [List.pairwise_append] at hp
  obtain ⟨_, hp2, hp3⟩ := hp
  have hlt : x.frm < x.id := (hg.1 x hx).2.2.2.2.2.2.2.1
  have h1 : ∀ y ∈ l1, y.id < x.id := fun y hy => hp3 y hy x List.mem_cons_self
  have h2 : ∀ y ∈ l2, x.id < y.id := fun y hy => (List.pairwise_cons.1 hp2).1 y hy
  have hB : beneathL (l1 ++ x :: l2) a = l2.foldl (bnStep a) (bnStep a (l1.foldl (bnStep a) []) x) := by unfold beneathL; rw [List.foldl_append]; rfl
  generalize hB1 : l1.foldl (bnStep a) [] = B1 at hB
  have hB1m : ∀ e ∈ B1, e < x.id := by
    intro e he
    rw [← hB1] at he
    rcases bn_from a l1 [] e he with h | ⟨y, hy, rfl⟩
    · cases h
    · exact h1 y hy
  have key : ∀ e, e < x.id → (e ∈ beneathL (l1 ++ x :: l2) a ↔ e ∈ B1) := by
    intro e he
    rw [hB]
    constructor
    · intro h
      rcases bn_from a l2 _ e h with h | ⟨y, hy, rfl⟩
      · unfold bnStep at h
        split at h
        · rcases List.mem_append.1 h with h | h
          · exact h
          · have := List.mem_singleton.1 h; omega
        · exact h
      · have := h2 y hy; omega
    · intro h
      refine bn_sub a l2 _ e ?_
      unfold bnStep
      split
      · exact List.mem_append_left _ h
      · exact h
  have self : x.id ∈ beneathL (l1 ++ x :: l2) a ↔ bnIs a B1 x := by
    rw [hB]
    constructor
    · intro h
      rcases bn_from a l2 _ x.id h with h | ⟨y, hy, he⟩
      · unfold bnStep at h
        split at h
        · assumption
        · have := hB1m _ h; omega
      · have := h2 y hy; omega
    · intro h
      refine bn_sub a l2 _ x.id ?_
      unfold bnStep
      rw [if_pos h]
      simp
  rw [self, key _ hlt]
  unfold bnIs
  simp
theorem abv_beneath {l : List Wr} (hg : GoodW l) (a : Int) {x : Wr} {L : List Int} (h : Abv l x L) (hx : x ∈ l) : x.id ∈ beneathL l a ↔ a ∈ L := by
  induction h with
  | nil hf =>
    rw [bn_iff hg a hx]
    simp [hf]
  | cons hf hy he _ ih =>
    rw [bn_iff hg a hx, ← he, ih hy, List.mem_cons]
    constructor
    · rintro ⟨_, h | h⟩
      · exact .inl h.symm
      · exact .inr h
    · rintro (h | h)
      · exact ⟨by rw [he]; exact hf, .inl h.symm⟩
      · exact ⟨by rw [he]; exact hf, .inr h⟩
/-- TopBeneath's own answer (C1) -/
theorem top_beneath {l : List Wr} (hc : chk l = 0) {a b : Int} (ha : 0 ≤ find l a) (hb : 0 ≤ find l b) : (inB (beneathL l a) b == inB (aboveL l b) a && !inB (beneathL l a) a) = true := by
  have hg := good_of_chk hc
  obtain ⟨x, hx, rfl⟩ := find_get (Int.toNat_of_nonneg ha).symm
  obtain ⟨y, hy, rfl⟩ := find_get (Int.toNat_of_nonneg hb).symm
  have hx' := List.mem_of_getElem? hx
  have hy' := List.mem_of_getElem? hy
  have h1 := abv_beneath hg x.id (above_abv hg hy') hy'
  have h2 := abv_beneath hg x.id (above_abv hg hx') hx'
  have e1 : inB (beneathL l x.id) y.id = inB (aboveL l y.id) x.id := by
    unfold inB
    rw [Bool.eq_iff_iff, List.contains_iff_mem, List.contains_iff_mem]; exact h1
  have e2 : inB (beneathL l x.id) x.id = false := by
    unfold inB
    cases hh : (beneathL l x.id).contains x.id with
    | false => rfl
    | true =>
      have := abv_lt hg (above_abv hg hx') hx' _ (h2.1 (List.contains_iff_mem.1 hh))
      omega
  rw [e1, e2]; simp

/-! ### Without -/
def woG (id f : Int) (x : Wr) : Wr := if x.frm = id then ⟨x.id, x.thing, x.rights, x.badge, f⟩ else x
theorem wo_mem {l : List Wr} {id f : Int} {z : Wr} : z ∈ l.flatMap (woStep id f) ↔ ∃ x ∈ l, ¬ x.id = id ∧ z = woG id f x := by
  rw [List.mem_flatMap]
  constructor
  · rintro ⟨x, hx, hz⟩
    unfold woStep at hz
    split at hz
    · cases hz
    · rename_i h1
      split at hz
      · rename_i h2
        exact ⟨x, hx, h1, by rw [List.mem_singleton.1 hz, woG, if_pos h2]⟩
      · rename_i h2
        exact ⟨x, hx, h1, by rw [List.mem_singleton.1 hz, woG, if_neg h2]⟩
  · rintro ⟨x, hx, h1, rfl⟩
    refine ⟨x, hx, ?_⟩
    unfold woStep woG
    rw [if_neg h1]
    split <;> simp
theorem woG_id (id f : Int) (x : Wr) : (woG id f x).id = x.id := by unfold woG; split <;> rfl
theorem woG_cf (id f g : Int) (x y : Wr) (id' : Int) : cfOf (woG id f x) (woG id' g y) = cfOf x y := by
  unfold woG
  split <;> split <;> rfl
theorem wo_pair {id f : Int} : ∀ {l : List Wr}, l.Pairwise (fun x y => x.id < y.id) → (l.flatMap (woStep id f)).Pairwise (fun x y => x.id < y.id)
  | [], _ => by simp
  | x :: r, h => by
    rw [List.pairwise_cons] at h
    rw [List.flatMap_cons, List.pairwise_append]
    refine ⟨?_, wo_pair h.2, ?_⟩
    · have := woStep_le id f x
      match hh : woStep id f x, this with
      | [], _ => simp
      | [y], _ => simp
      | _ :: _ :: _, h => simp at h
    · intro a ha b hb
      obtain ⟨x', hx', _, rfl⟩ := (wo_mem (l := [x])).1 (by simpa using ha)
      obtain ⟨y', hy', _, rfl⟩ := wo_mem.1 hb
      rw [woG_id, woG_id, List.mem_singleton.1 hx']
      exact h.1 y' hy'
/-- what is known of the number that stands in -/
theorem wo_from {l : List Wr} (hg : GoodW l) (id : Int) : (∃ p ∈ l, p.id = id ∧ woFrom l id = p.frm) ∨ ((∀ x ∈ l, ¬ x.id = id) ∧ woFrom l id = id) := by
  by_cases hn : find l id < 0
  · refine .inr ⟨fun x hx e => ?_, by unfold woFrom; rw [if_pos hn]⟩
    obtain ⟨j, hj⟩ := find_mem hx e
    omega
  · obtain ⟨j, hj⟩ : ∃ j : Nat, find l id = (j : Int) := ⟨_, (Int.toNat_of_nonneg (by omega)).symm⟩
    obtain ⟨p, hp, he⟩ := find_get hj
    exact .inl ⟨p, List.mem_of_getElem? hp, he, by unfold woFrom; rw [if_neg hn, hj]; simp [hp]⟩
theorem wo_good {l : List Wr} (hg : GoodW l) (id : Int) : GoodW (withoutL l id) := by
  unfold withoutL
  have hw := wo_from hg id
  generalize hf : woFrom l id = f at *
  refine ⟨fun z hz => ?_, wo_pair hg.2.1, fun z hz => ?_⟩
  · obtain ⟨x, hx, hne, rfl⟩ := wo_mem.1 hz
    have hok := hg.1 x hx
    unfold woG
    split
    · rename_i he
      obtain ⟨h1, h2, h3, h4, h5, h6, h7, h8, h9, h10⟩ := hok
      rcases hw with ⟨p, hp, hpe, rfl⟩ | ⟨_, hfe⟩
      · obtain ⟨p1, p2, p3, p4, p5, p6, p7, p8, p9, p10⟩ := hg.1 p hp
        exact ⟨h1, h2, h3, h4, h5, h6, p7, by show p.frm < x.id; omega, h9, h10⟩
      · exact ⟨h1, h2, h3, h4, h5, h6, by show 0 ≤ f; omega, by show f < x.id; omega, h9, h10⟩
    · exact hok
  · obtain ⟨x, hx, hne, rfl⟩ := wo_mem.1 hz
    by_cases he : x.frm = id
    · rcases hw with ⟨p, hp, hpe, hpf⟩ | ⟨hno, hfe⟩
      · have hzf : (woG id f x).frm = f := by unfold woG; rw [if_pos he]
        rw [hzf]
        by_cases hf0 : f = 0
        · exact .inl hf0
        · refine .inr ?_
          have hx0 : ¬ x.frm = 0 := by have := (hg.1 p hp).1; omega
          obtain ⟨y, hy, hye, hyc⟩ := (hg.2.2 x hx).resolve_left hx0
          have : y = p := uniqW hg.2.1 hy hp (by rw [hye, he, hpe])
          subst this
          obtain ⟨q, hq, hqe, hqc⟩ := (hg.2.2 y hy).resolve_left (by rw [← hpf]; exact hf0)
          have hqn : ¬ q.id = id := by have := (hg.1 y hy).2.2.2.2.2.2.2.1; omega
          refine ⟨woG id f q, wo_mem.2 ⟨q, hq, hqn, rfl⟩, by rw [woG_id, hqe, hpf], ?_⟩
          rw [woG_cf]
          exact cfOf_trans (hg.1 y hy) (hg.1 q hq) hyc hqc
      · have hzf : (woG id f x).frm = x.frm := by unfold woG; rw [if_pos he]; show f = x.frm; rw [hfe, he]
        rw [hzf]
        rcases hg.2.2 x hx with h0 | ⟨y, hy, hye, _⟩
        · exact .inl h0
        · exact absurd (hye.trans he) (hno y hy)
    · have hzx : woG id f x = x := by unfold woG; rw [if_neg he]
      rw [hzx]
      rcases hg.2.2 x hx with h0 | ⟨y, hy, hye, hyc⟩
      · exact .inl h0
      · have hyn : ¬ y.id = id := by rw [hye]; exact he
        refine .inr ⟨woG id f y, wo_mem.2 ⟨y, hy, hyn, rfl⟩, by rw [woG_id, hye], ?_⟩
        have := woG_cf id f f x y id
        rw [hzx] at this
        rw [this]; exact hyc
theorem wo_find_id {l : List Wr} (id : Int) : find (withoutL l id) id = -1 := by
  refine find_none (fun y hy => ?_)
  obtain ⟨x, hx, hne, rfl⟩ := wo_mem.1 hy
  rw [woG_id]; exact hne
/-- what others are found as -/
theorem wo_find {l : List Wr} (hg : GoodW l) (id : Int) {x : Wr} (hx : x ∈ l) (hne : ¬ x.id = id) : ∃ j : Nat, find (withoutL l id) x.id = (j : Int) ∧ (withoutL l id)[j]? = some (woG id (woFrom l id) x) := by
  have hm : woG id (woFrom l id) x ∈ withoutL l id := wo_mem.2 ⟨x, hx, hne, rfl⟩
  obtain ⟨j, hj⟩ := find_mem hm (woG_id ..)
  obtain ⟨y, hy, he⟩ := find_get hj
  have : y = woG id (woFrom l id) x := uniqW (wo_good hg id).2.1 (List.mem_of_getElem? hy) hm (by rw [he, woG_id])
  subst this
  exact ⟨j, hj, hy⟩
theorem wo_abv {l : List Wr} (hg : GoodW l) (id : Int) : ∀ (n : Nat) (x : Wr) (L : List Int), L.length ≤ n → x ∈ l → ¬ x.id = id → Abv l x L → Abv (withoutL l id) (woG id (woFrom l id) x) (L.filter (fun a => decide (¬ a = id))) := by
  intro n
  induction n with
  | zero =>
    intro x L hL hx hne h
    cases h with
    | nil hf =>
      refine .nil ?_
      unfold woG
      split
      · rename_i he
        show woFrom l id = 0
        rcases wo_from hg id with ⟨p, hp, hpe, _⟩ | ⟨_, h2⟩
        · have := (hg.1 p hp).1; omega
        · rw [h2, ← he]; exact hf
      · exact hf
    | cons => simp at hL
  | succ n ih =>
    intro x L hL hx hne h
    cases h with
    | nil hf =>
      refine .nil ?_
      unfold woG
      split
      · rename_i he
        show woFrom l id = 0
        rcases wo_from hg id with ⟨p, hp, hpe, _⟩ | ⟨_, h2⟩
        · have := (hg.1 p hp).1; omega
        · rw [h2, ← he]; exact hf
      · exact hf
    | cons hf hy he ha =>
      rename_i y L
      have hL' : L.length ≤ n := by simpa using hL
      by_cases hxi : x.frm = id
      · rw [List.filter_cons_of_neg (by simp [hxi])]
        have hyi : y.id = id := he.trans hxi
        have hwf : woFrom l id = y.frm := by
          rcases wo_from hg id with ⟨p, hp, hpe, h2⟩ | ⟨h1, _⟩
          · rw [h2, uniqW hg.2.1 hp hy (hpe.trans hyi.symm)]
          · exact absurd hyi (h1 y hy)
        have hzf : (woG id (woFrom l id) x).frm = y.frm := by unfold woG; rw [if_pos hxi]; exact hwf
        cases ha with
        | nil hyf => exact .nil (by rw [hzf]; exact hyf)
        | cons hyf hq hqe hqa =>
          rename_i q L
          have hqn : ¬ q.id = id := by have := (hg.1 y hy).2.2.2.2.2.2.2.1; omega
          have hfn : ¬ y.frm = id := by rw [← hqe]; exact hqn
          rw [List.filter_cons_of_pos (by simp [hfn]), ← hzf]
          exact .cons (by rw [hzf]; exact hyf) (wo_mem.2 ⟨q, hq, hqn, rfl⟩) (by rw [woG_id, hzf]; exact hqe) (ih q _ (by simp at hL'; omega) hq hqn hqa)
      · rw [List.filter_cons_of_pos (by simp [hxi])]
        have hzx : woG id (woFrom l id) x = x := by unfold woG; rw [if_neg hxi]
        have hyn : ¬ y.id = id := by rw [he]; exact hxi
        rw [hzx]
        exact .cons hf (wo_mem.2 ⟨y, hy, hyn, rfl⟩) (by rw [woG_id]; exact he) (ih y L hL' hy hyn ha)
/-- what is above is what was, but for the writ that is gone (C2) -/
theorem wo_above {l : List Wr} (hg : GoodW l) (id : Int) {x : Wr} (hx : x ∈ l) (hne : ¬ x.id = id) : aboveL (withoutL l id) x.id = (aboveL l x.id).filter (fun a => decide (¬ a = id)) := by
  have h1 := wo_abv hg id _ x _ (Nat.le_refl _) hx hne (above_abv hg hx)
  have hm : woG id (woFrom l id) x ∈ withoutL l id := wo_mem.2 ⟨x, hx, hne, rfl⟩
  have h2 := above_abv (wo_good hg id) hm
  rw [woG_id] at h2
  exact abv_uniq (wo_good hg id).2.1 h2 h1

/-! ### Lengths, and rows of the call's own -/
theorem wf_of_good {l : List Wr} (hg : GoodW l) : ∀ x ∈ l, (Lit.int .i64 x.id).wf = true ∧ (Lit.int .i64 x.frm).wf = true := by
  intro x hx
  obtain ⟨h1, h2, _, _, _, _, h7, h8, _, _⟩ := hg.1 x hx
  exact ⟨WalkArith.wf_i64 (by omega), WalkArith.wf_i64 (by omega)⟩
theorem abvLen (l : List Wr) : ∀ (n : Nat) (a : Int), (abv l n a).length ≤ n
  | 0, _ => by simp [abv]
  | n + 1, a => by
    unfold abv
    split
    · simp
    · split
      · simp
      · split
        · simp
        · have := abvLen l n (find (l.take a.toNat) (by assumption : Wr).frm)
          simp only [List.length_cons]
          rename_i x _ _
          have := abvLen l n (find (l.take a.toNat) x.frm)
          omega
theorem aboveLen (l : List Wr) (id : Int) : (aboveL l id).length ≤ l.length := abvLen l _ _
theorem bnLen (id : Int) : ∀ (l : List Wr) (B : List Int), (l.foldl (bnStep id) B).length ≤ B.length + l.length
  | [], B => by simp
  | x :: r, B => by
    have := bnLen id r (bnStep id B x)
    have h2 : (bnStep id B x).length ≤ B.length + 1 := by unfold bnStep; split <;> simp
    simp only [List.foldl_cons, List.length_cons]; omega
theorem beneathLen (l : List Wr) (id : Int) : (beneathL l id).length ≤ l.length := by have := bnLen id l []; simpa [beneathL] using this
theorem row_cap {w : World} {base : Nat} {e : TypeId} {v : Value} {l : List Wr} (h : w.ownsRow base e 5 v l.length (l.flatMap wcells)) : ∃ a cap, v = .slice a l.length cap ∧ WrsAt w a l ∧ l.length ≤ cap ∧ cap ≤ maxLen := by
  obtain ⟨a, cap, hv, hat⟩ := wrs_of_row h
  refine ⟨a, cap, hv, hat, ?_⟩
  rcases h.2 with ⟨hv', hn⟩ | ⟨g, cap', cur, hv', _, _, h1, h2, _⟩
  · rw [hv] at hv'
    injection hv' with e1 e2 e3
    rw [e3, e2]; exact ⟨Nat.le_refl _, by unfold maxLen; omega⟩
  · rw [hv] at hv'
    injection hv' with e1 e2 e3
    rw [e3]; exact ⟨h1, h2⟩
theorem withoutLen (l : List Wr) (id : Int) : (withoutL l id).length ≤ l.length := wo_len _ _ l
theorem getD_at {A : List Int} {j : Nat} (h : j < A.length) : A.getD j 0 = A[j] := by simp [List.getD, h]
end Go.Proofs.Ytnjncemjghmpoaa
