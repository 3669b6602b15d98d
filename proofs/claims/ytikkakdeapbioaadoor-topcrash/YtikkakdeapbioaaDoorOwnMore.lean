/- Rows that the call itself made, written into: laws on worlds and lists; nothing of the program. -/
import Derived.Test.YtikkakdeapbioaaDoorRmData
set_option linter.unusedVariables false
namespace Go.Proofs.YtikkakdeapbioaaDoor
open Go.RowKit

/-- clear of an owned row's tail -/
theorem run_clear_own {P : Program} {w : World} {base : Nat} {e : TypeId} {size g n cap : Nat} {xs : List Value} (t : TypeId) (z : Value)
    (hown : w.ownsRow base e size (.slice (some ⟨g, 0, none⟩) n cap) n xs) (ht : P.underlying t = some (.slice e)) (hv : ∀ w, (zeroValue e).run P w = .ok z w) (hz : z.cells.size = size)
    (h1 : ∀ u ∈ z.cells.toList, u.oneCell' = true) (i : Nat) (hi : i < n) :
    ∃ w', (∀ ty, (Builtin.clear_ #[t] ty #[.slice (some ⟨g, i * size, none⟩) (n - i) (cap - i)]).run P w = .ok (.tuple #[]) w') ∧
      w'.ownsRow base e size (.slice (some ⟨g, 0, none⟩) i cap) i (xs.take (i * size)) ∧ w.grownBy w' (some g) := by
  rcases hown.2 with ⟨h, _⟩ | ⟨g', cap', cur, h, hbg, hg, hnc, hcm, hcs, htake⟩
  · simp at h
  · simp only [Value.slice.injEq, Option.some.injEq, Addr.mk.injEq, and_true, true_and] at h
    obtain ⟨rfl, rfl⟩ := h
    have hlen : ((Builtin.zeroCells z.cells (n - i)).toList).length = (n - i) * size := by rw [Array.length_toList, size_zeroCells, hz]
    have hle : i * size + (n - i) * size = n * size := by rw [← Nat.add_mul]; congr 1; omega
    have hle2 : n * size ≤ cap * size := Nat.mul_le_mul_right _ hnc
    have hone : ∀ v ∈ (Builtin.zeroCells z.cells (n - i)).toList, v.oneCell' = true := by
      intro v hv'
      rw [Array.mem_toList_iff] at hv'
      simp only [Builtin.zeroCells, Array.mem_map] at hv'
      obtain ⟨k, hk, rfl⟩ := hv'
      have hk' : k < (n - i) * z.cells.size := by simpa using hk
      have hpos : 0 < z.cells.size := by
        rcases Nat.eq_zero_or_pos z.cells.size with h0 | h0
        · rw [h0] at hk'; simp at hk'
        · exact h0
      have hlt := Nat.mod_lt k hpos
      rw [getElem!_pos z.cells _ hlt]
      exact h1 _ (by rw [Array.mem_toList_iff]; exact Array.getElem_mem _)
    have hst := run_storeCells_at P g (i * size) e (Builtin.zeroCells z.cells (n - i)).toList 0 cur w hg (by rw [hlen, hcs]; omega) hone
    simp only [Nat.add_zero] at hst
    obtain ⟨m, hm⟩ : ∃ m, n - i = m + 1 := ⟨n - i - 1, by omega⟩
    obtain ⟨R, hR⟩ : ∃ R, R = (cur.toList.take (i * size) ++ (Builtin.zeroCells z.cells (n - i)).toList ++ cur.toList.drop (i * size + (Builtin.zeroCells z.cells (n - i)).toList.length)).toArray := ⟨_, rfl⟩
    rw [← hR] at hst
    have hsz : R.size = cap * size := by
      rw [hR]
      simp only [List.size_toArray, List.length_append, List.length_take, List.length_drop, Array.length_toList, size_zeroCells, hz, hcs]
      omega
    have htk : R.toList.take (i * size) = xs.take (i * size) := by
      rw [hR, ← htake, List.take_take, List.append_assoc, List.take_append_of_le_length (by rw [List.length_take, Array.length_toList, hcs]; omega), List.take_take]
      congr 1
      omega
    refine ⟨w.setRow g R, fun ty => ?_, ⟨?_, .inr ⟨g, cap, R, rfl, hbg, setRow_heap w g cur _ e _ hg, by omega, hcm, hsz, htk⟩⟩, ⟨rfl, rfl, rfl, by simp, fun k _ hk => setRow_other w g k _ (fun e => hk (by simp [e]))⟩⟩
    · rw [hm] at hst ⊢
      simp only [Builtin.clear_]
      simp [run_underlying ht, hv, hst]
    · rw [List.length_take, hown.1]
      have : i * size ≤ n * size := by omega
      omega

/-- what a row holds while some are left out: ahead the kept ones, behind j the old ones -/
def KInv (s i j : Nat) (xs A L : List Value) : Prop := xs.length = L.length ∧ A.length = i * s ∧ (∀ m, m < i * s → xs[m]? = A[m]?) ∧ ∀ m, j * s ≤ m → xs[m]? = L[m]?
theorem KInv.start {s i : Nat} {L : List Value} (h : i * s ≤ L.length) : KInv s i (i + 1) L (L.take (i * s)) L :=
  ⟨rfl, by rw [List.length_take]; omega, fun m hm => by rw [List.getElem?_take, if_pos hm], fun _ _ => rfl⟩
theorem KInv.skip {s i j : Nat} {xs A L : List Value} (h : KInv s i j xs A L) : KInv s i (j + 1) xs A L :=
  ⟨h.1, h.2.1, h.2.2.1, fun m hm => h.2.2.2 m (by rw [Nat.add_mul] at hm; omega)⟩
/-- cells set one behind the other -/
def setRun (xs : List Value) : Nat → List Value → List Value
  | _, [] => xs
  | k, u :: r => setRun (xs.set k u) (k + 1) r
theorem setRun_len : ∀ (us xs : List Value) (k : Nat), (setRun xs k us).length = xs.length
  | [], xs, k => rfl
  | u :: r, xs, k => by unfold setRun; rw [setRun_len r, List.length_set]
theorem setRun_get : ∀ (us xs : List Value) (k m : Nat), k + us.length ≤ xs.length → (setRun xs k us)[m]? = if k ≤ m ∧ m < k + us.length then us[m - k]? else xs[m]?
  | [], xs, k, m, h => by unfold setRun; rw [if_neg (by simp only [List.length_nil]; omega)]
  | u :: r, xs, k, m, h => by
    simp only [List.length_cons] at h
    unfold setRun
    rw [setRun_get r _ (k + 1) m (by rw [List.length_set]; omega)]
    by_cases h1 : k + 1 ≤ m ∧ m < k + 1 + r.length
    · rw [if_pos h1, if_pos (by simp only [List.length_cons]; omega), show m - k = (m - (k + 1)) + 1 by omega, List.getElem?_cons_succ]
    · rw [if_neg h1]
      by_cases h2 : m = k
      · subst h2
        rw [if_pos (by simp only [List.length_cons]; omega)]
        simp [List.getElem?_set]; omega
      · rw [if_neg (by simp only [List.length_cons]; omega), List.getElem?_set_ne (by omega)]
theorem KInv.keep {s i j : Nat} {xs A L us : List Value} (h : KInv s i j xs A L) (hij : i < j) (hj : (j + 1) * s ≤ L.length) (hu : us.length = s) : KInv s (i + 1) (j + 1) (setRun xs (i * s) us) (A ++ us) L := by
  obtain ⟨h1, h2, h3, h4⟩ := h
  have e1 : (i + 1) * s = i * s + s := by rw [Nat.add_mul]; omega
  have e2 : (j + 1) * s = j * s + s := by rw [Nat.add_mul]; omega
  have e3 : i * s + s ≤ j * s := by rw [← e1]; exact Nat.mul_le_mul_right _ hij
  refine ⟨by rw [setRun_len, h1], by rw [List.length_append, h2, hu, e1], fun m hm => ?_, fun m hm => ?_⟩
  · rw [setRun_get _ _ _ _ (by omega)]
    by_cases hlt : m < i * s
    · rw [if_neg (by omega), List.getElem?_append_left (by omega)]; exact h3 m hlt
    · rw [if_pos (by omega), List.getElem?_append_right (by omega), h2]
  · rw [setRun_get _ _ _ _ (by omega), if_neg (by omega)]
    exact h4 m (by omega)
theorem KInv.done {s i j : Nat} {xs A L : List Value} (h : KInv s i j xs A L) : xs.take (i * s) = A := by
  obtain ⟨h1, h2, h3, h4⟩ := h
  apply List.ext_getElem?
  intro m
  rw [List.getElem?_take]
  by_cases hm : m < i * s
  · rw [if_pos hm]; exact h3 m hm
  · rw [if_neg hm, List.getElem?_eq_none (by omega)]

/-! ### Lists with some left out -/
theorem filt_snoc {α : Type} {q : α → Bool} {l : List α} {k : Nat} {x : α} (hx : l[k]? = some x) : (l.take (k + 1)).filter q = (l.take k).filter q ++ (if q x = true then [x] else []) := by
  rw [List.take_add_one, hx]
  by_cases h : q x = true <;> simp [h]
theorem idx_all {α : Type} {p : α → Bool} {l : List α} (h : idx p l = -1) : l.filter (fun x => !p x) = l := by
  rw [List.filter_eq_self]
  intro x hx
  obtain ⟨k, hk⟩ := List.mem_iff_getElem?.1 hx
  rw [idx_none h k x hk]; rfl
theorem idx_first_take {α : Type} {p : α → Bool} {l : List α} {j : Nat} {x : α} (h : idx p l = (j : Int)) (hx : l[j]? = some x) (hp : p x = true) : (l.take (j + 1)).filter (fun x => !p x) = l.take j := by
  rw [filt_snoc hx, if_neg (by simp [hp]), List.append_nil, List.filter_eq_self]
  intro y hy
  obtain ⟨k, hk⟩ := List.mem_iff_getElem?.1 hy
  rw [List.getElem?_take] at hk
  split at hk
  · rename_i hlt
    rw [idx_first h k y hlt hk]; rfl
  · cases hk
end Go.Proofs.YtikkakdeapbioaaDoor
