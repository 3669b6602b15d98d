/- The document's way to apply a change to rows, one row behind the other: plain data. -/
import Derived.Test.YtjhkabhhlpdpaaaKeyOrd
set_option linter.unusedVariables false
set_option linter.unusedSimpArgs false
namespace Go.Proofs.Ytjhkabhhlpdpaaa
open Go.RowKit

/-- what is there behind k rows -/
def nx (L : List Ch) (x : Ch) (k : Nat) : List Ch :=
  L.take (min k (bsI (kl x) L)) ++ (if bsI (kl x) L < k then (if x.gone then [] else [x]) ++ (L.take k).drop (if fdB L (kl x) (bsI (kl x) L) then bsI (kl x) L + 1 else bsI (kl x) L) else [])
def ldB2 (L : List Ch) (x : Ch) (k : Nat) : Bool := x.gone || decide (bsI (kl x) L < k)
def leB2 (x y : Ch) : Bool := Op.bytesLess (kl x) (kl y) || kl x == kl y
theorem nx_zero (L : List Ch) (x : Ch) : nx L x 0 = [] := by simp [nx]
theorem nx_step {L : List Ch} (hr : Ris L) {x y : Ch} {k : Nat} (hy : L[k]? = some y) : nx L x (k + 1) = nx L x k ++ (if (!ldB2 L x k && leB2 x y) = true then [x] else []) ++ (if (kl y == kl x) = true then [] else [y]) := by
  have hb := bs_at (t := kl x) hr
  obtain ⟨hk, hye⟩ := List.getElem?_eq_some_iff.1 hy
  have htk : L.take (k + 1) = L.take k ++ [y] := by rw [List.take_succ_eq_append_getElem hk, hye]
  have hlk : (L.take k).length = k := by rw [List.length_take]; omega
  unfold nx ldB2
  have hfd : fdB L (kl x) (bsI (kl x) L) = true → bsI (kl x) L < L.length := fd_lt
  have hup := fun hj => BsAt.above (j := k) (x := y) hr hb hj hy
  have hfk : bsI (kl x) L = k → fdB L (kl x) k = (kl y == kl x) := fun e => by unfold fdB; rw [hy]
  have hlo := hb.lo k y
  have hhi := hb.hi k y
  generalize bsI (kl x) L = p at *
  rcases Nat.lt_trichotomy k p with h | h | h
  · have hl := hlo h hy
    have h1 : leB2 x y = false := by unfold leB2; rw [bl_asym hl]; simp; exact fun e => bl_ne hl e.symm
    have h2 : (kl y == kl x) = false := by simp; exact bl_ne hl
    rw [h1, h2, show min (k + 1) p = k + 1 by omega, show min k p = k by omega, if_neg (show ¬ p < k + 1 by omega), if_neg (show ¬ p < k by omega), htk]
    simp
  · subst h
    have hl := hhi (Nat.le_refl _) hy
    have h1 : leB2 x y = true := by
      unfold leB2
      rcases bl_tri (kl x) (kl y) with e | e | e
      · rw [e]; rfl
      · simp [e]
      · rw [hl] at e; cases e
    rw [h1, hfk rfl, show min (k + 1) k = k by omega, show min k k = k by omega, if_pos (show k < k + 1 by omega), if_neg (show ¬ k < k by omega), htk]
    cases hg : x.gone <;> cases he : (kl y == kl x) <;> simp [hlk]
  · have hne : (kl y == kl x) = false := by
      cases he : (kl y == kl x)
      · rfl
      · exfalso
        have e : kl y = kl x := by simpa using he
        have hl2 := hup (by split <;> omega)
        rw [e, bl_irr] at hl2; cases hl2
    have hd : (if fdB L (kl x) p then p + 1 else p) ≤ k := by split <;> omega
    rw [hne, show min (k + 1) p = p by omega, show min k p = p by omega, if_pos (show p < k + 1 by omega), if_pos h, htk, List.drop_append_of_le_length (by rw [hlk]; exact hd)]
    simp [h]
theorem ld_step {L : List Ch} (hr : Ris L) {x y : Ch} {k : Nat} (hy : L[k]? = some y) : ldB2 L x (k + 1) = (ldB2 L x k || leB2 x y) := by
  have hb := bs_at (t := kl x) hr
  unfold ldB2
  have hlo := hb.lo k y
  have hhi := hb.hi k y
  generalize bsI (kl x) L = p at *
  rcases Nat.lt_trichotomy k p with h | h | h
  · have hl := hlo h hy
    have h1 : leB2 x y = false := by unfold leB2; rw [bl_asym hl]; simp; exact fun e => bl_ne hl e.symm
    rw [h1, decide_eq_false (show ¬ p < k + 1 by omega), decide_eq_false (show ¬ p < k by omega)]; simp
  · subst h
    have hl := hhi (Nat.le_refl _) hy
    have h1 : leB2 x y = true := by
      unfold leB2
      rcases bl_tri (kl x) (kl y) with e | e | e
      · rw [e]; rfl
      · simp [e]
      · rw [hl] at e; cases e
    rw [h1, decide_eq_true (show k < k + 1 by omega)]; simp
  · rw [decide_eq_true (show p < k + 1 by omega), decide_eq_true h]; simp
theorem nx_end {L : List Ch} (hr : Ris L) (x : Ch) : apC L x = nx L x L.length ++ (if (!ldB2 L x L.length) = true then [x] else []) := by
  have hb := (bs_at (t := kl x) hr).le
  unfold apC apI nx ldB2
  have hfd : fdB L (kl x) (bsI (kl x) L) = true → bsI (kl x) L < L.length := fd_lt
  generalize bsI (kl x) L = p at *
  rw [List.take_length, Nat.min_eq_right hb]
  by_cases h : p < L.length
  · rw [if_pos h]
    simp [h]
  · have hp : p = L.length := by omega
    have hf : fdB L (kl x) p = false := by
      cases e : fdB L (kl x) p
      · rfl
      · exact absurd (hfd e) h
    rw [if_neg h, hf]
    cases x.gone <;> simp [h, hp]
theorem nx_len (L : List Ch) (x : Ch) (k : Nat) : (nx L x k).length ≤ L.length + L.length + 1 := by
  unfold nx
  simp only [List.length_append, List.length_take]
  split
  · split <;> simp <;> omega
  · simp; omega
end Go.Proofs.Ytjhkabhhlpdpaaa
