/- The things of writs, rising (C4): what sorting and striking doubles comes to, and what counting up comes to: pure theory. -/
import Derived.Test.YtnjncemjghmpoaaWr
import Derived.Lib.SlicesCompact
set_option linter.unusedVariables false
namespace Go.Proofs.Ytnjncemjghmpoaa
open Go.RowKit

/-- the numbers from 1 on that are things of writs -/
def thStep (l : List Wr) (n : Nat) : List Int := if l.any (fun x => x.thing == (n : Int) + 1) = true then [(n : Int) + 1] else []
def thUp (l : List Wr) (k : Nat) : List Int := (List.range k).flatMap (thStep l)
theorem thUp_succ (l : List Wr) (k : Nat) : thUp l (k + 1) = thUp l k ++ thStep l k := by
  unfold thUp; rw [List.range_succ, List.flatMap_append]; simp
theorem thUp_len (l : List Wr) : ∀ k, (thUp l k).length ≤ k
  | 0 => by simp [thUp]
  | k + 1 => by
    have := thUp_len l k
    rw [thUp_succ, List.length_append]
    have : (thStep l k).length ≤ 1 := by unfold thStep; split <;> simp
    omega
theorem thUp_mem {l : List Wr} {k : Nat} {t : Int} : t ∈ thUp l k ↔ 1 ≤ t ∧ t ≤ k ∧ ∃ x ∈ l, x.thing = t := by
  unfold thUp
  rw [List.mem_flatMap]
  constructor
  · rintro ⟨n, hn, ht⟩
    have hn' := List.mem_range.1 hn
    unfold thStep at ht
    split at ht
    · rename_i h
      have e := List.mem_singleton.1 ht
      obtain ⟨x, hx, he⟩ := List.any_eq_true.1 h
      exact ⟨by omega, by omega, x, hx, by rw [e]; simpa using he⟩
    · cases ht
  · rintro ⟨h1, h2, x, hx, rfl⟩
    refine ⟨(x.thing - 1).toNat, List.mem_range.2 (by omega), ?_⟩
    have e : (((x.thing - 1).toNat : Nat) : Int) + 1 = x.thing := by omega
    unfold thStep
    rw [e, if_pos (List.any_eq_true.2 ⟨x, hx, by simp⟩)]
    simp
theorem thUp_pair (l : List Wr) : ∀ k, (thUp l k).Pairwise (· < ·)
  | 0 => by simp [thUp]
  | k + 1 => by
    rw [thUp_succ, List.pairwise_append]
    refine ⟨thUp_pair l k, ?_, ?_⟩
    · unfold thStep; split <;> simp
    · intro a ha b hb
      have := (thUp_mem.1 ha).2.1
      unfold thStep at hb
      split at hb
      · have := List.mem_singleton.1 hb; omega
      · cases hb
theorem pair_ext {a b : List Int} (ha : a.Pairwise (· < ·)) (hb : b.Pairwise (· < ·)) (h : ∀ t, t ∈ a ↔ t ∈ b) : a = b := by
  induction a generalizing b with
  | nil =>
    cases b with
    | nil => rfl
    | cons y r => exact absurd ((h y).2 List.mem_cons_self) (by simp)
  | cons x r ih =>
    cases b with
    | nil => exact absurd ((h x).1 List.mem_cons_self) (by simp)
    | cons y s =>
      rw [List.pairwise_cons] at ha hb
      have hxy : x = y := by
        rcases List.mem_cons.1 ((h x).1 List.mem_cons_self) with e | h1
        · exact e
        · rcases List.mem_cons.1 ((h y).2 List.mem_cons_self) with e | h2
          · exact e.symm
          · have := hb.1 x h1; have := ha.1 y h2; omega
      subst hxy
      rw [ih ha.2 hb.2]
      intro t
      constructor
      · intro ht
        rcases List.mem_cons.1 ((h t).1 (List.mem_cons_of_mem _ ht)) with e | h1
        · have := ha.1 t ht; omega
        · exact h1
      · intro ht
        rcases List.mem_cons.1 ((h t).2 (List.mem_cons_of_mem _ ht)) with e | h1
        · have := hb.1 t ht; omega
        · exact h1
theorem comp_facts (d : Array Int) (hs : ∀ i j, i < j → j < d.size → d[i]! ≤ d[j]!) : ∀ m, m ≤ d.size → (Lib.compactUpTo d m).Pairwise (· < ·) ∧ (∀ t, t ∈ Lib.compactUpTo d m ↔ ∃ j, j < m ∧ d[j]! = t) := by
  intro m
  induction m with
  | zero => intro _; simp [Lib.compactUpTo]
  | succ m ih =>
    intro hm
    obtain ⟨h1, h2⟩ := ih (by omega)
    rw [Lib.compactUpTo_succ]
    by_cases hk : Lib.keeps d m = true
    · rw [if_pos hk]
      refine ⟨?_, fun t => ?_⟩
      · rw [List.pairwise_append]
        refine ⟨h1, by simp, fun a ha b hb => ?_⟩
        rw [List.mem_singleton.1 hb]
        obtain ⟨j, hj, rfl⟩ := (h2 a).1 ha
        unfold Lib.keeps at hk
        have hk' := of_decide_eq_true hk
        rcases hk' with h0 | hne
        · omega
        · have := hs (m - 1) m (by omega) (by omega)
          by_cases e : j = m - 1
          · subst e; omega
          · have := hs j (m - 1) (by omega) (by omega); omega
      · rw [List.mem_append, h2, List.mem_singleton]
        constructor
        · rintro (⟨j, hj, e⟩ | e)
          · exact ⟨j, by omega, e⟩
          · exact ⟨m, by omega, e.symm⟩
        · rintro ⟨j, hj, e⟩
          by_cases hjm : j = m
          · subst hjm; exact .inr e.symm
          · exact .inl ⟨j, by omega, e⟩
    · rw [if_neg hk, List.append_nil]
      refine ⟨h1, fun t => ?_⟩
      rw [h2]
      unfold Lib.keeps at hk
      have hk' : ¬ (m = 0 ∨ d[m]! ≠ d[m - 1]!) := fun h => hk (decide_eq_true h)
      have hm0 : ¬ m = 0 := fun h => hk' (.inl h)
      have he : d[m]! = d[m - 1]! := by
        by_cases e : d[m]! = d[m - 1]!
        · exact e
        · exact absurd (.inr e) hk'
      constructor
      · rintro ⟨j, hj, e⟩; exact ⟨j, by omega, e⟩
      · rintro ⟨j, hj, e⟩
        by_cases hjm : j = m
        · subst hjm; exact ⟨j - 1, by omega, by rw [← he]; exact e⟩
        · exact ⟨j, by omega, e⟩
/-- sorted, with doubles struck: what counting up finds (C4) -/
theorem things_eq {l : List Wr} (h : ∀ x ∈ l, 1 ≤ x.thing ∧ x.thing ≤ 999) : Lib.compact ((l.map (·.thing)).mergeSort fun x y => decide (x ≤ y)) = thUp l 999 := by
  generalize hz : (l.map (·.thing)).mergeSort (fun x y => decide (x ≤ y)) = zs
  have hp : zs.Perm (l.map (·.thing)) := by rw [← hz]; exact List.mergeSort_perm _ _
  have hsort : zs.Pairwise (fun x y => decide (x ≤ y) = true) := by
    rw [← hz]
    exact List.pairwise_mergeSort (fun a b c h1 h2 => by simp at *; omega) (fun a b => by simp; omega) _
  unfold Lib.compact
  have hs : ∀ i j, i < j → j < zs.toArray.size → zs.toArray[i]! ≤ zs.toArray[j]! := by
    intro i j hij hj
    have hj' : j < zs.length := by simpa using hj
    have := List.pairwise_iff_getElem.1 hsort i j (by omega) hj' hij
    have hi' : i < zs.length := by omega
    simpa [getElem!_pos, hi', hj'] using this
  obtain ⟨h1, h2⟩ := comp_facts zs.toArray hs zs.length (by simp)
  refine pair_ext h1 (thUp_pair l 999) (fun t => ?_)
  rw [h2, thUp_mem]
  constructor
  · rintro ⟨j, hj, rfl⟩
    have hm : zs.toArray[j]! ∈ l.map (·.thing) := by
      refine hp.subset ?_
      simp [getElem!_pos, hj]
    obtain ⟨x, hx, e⟩ := List.mem_map.1 hm
    have := h x hx
    exact ⟨by omega, by omega, x, hx, e⟩
  · rintro ⟨_, _, x, hx, rfl⟩
    have hm : x.thing ∈ zs := hp.symm.subset (List.mem_map.2 ⟨x, hx, rfl⟩)
    obtain ⟨j, hj, e⟩ := List.getElem_of_mem hm
    exact ⟨j, hj, by simp [getElem!_pos, hj, e]⟩
end Go.Proofs.Ytnjncemjghmpoaa
