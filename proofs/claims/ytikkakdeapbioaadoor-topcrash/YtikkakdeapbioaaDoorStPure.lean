/- What a store lays on its disk, as plain data: rows as one text, heads. Nothing of the program. -/
import Derived.Test.YtikkakdeapbioaaDoorRowPure
set_option linter.unusedVariables false
set_option linter.unusedSimpArgs false
namespace Go.Proofs.YtikkakdeapbioaaDoor
open Go.RowKit

/-- rows as one text: ahead of each how many bytes it has -/
def joinL (l : List Ch) : List UInt8 := l.flatMap fun c => UInt8.ofNat (chL c).length :: chL c
/-- the pieces of a text; each begins with how many bytes follow -/
def cutL : Nat → List UInt8 → List (List UInt8)
  | 0, _ => []
  | _, [] => []
  | n + 1, x :: r => (x :: r.take x.toNat) :: cutL n (r.drop x.toNat)
/-- rows of pieces; none: one isn't a row's -/
def partsL : List (List UInt8) → Option (List Ch)
  | [] => some []
  | p :: r => match chP (p.drop 1), partsL r with
    | some c, some l => some (c :: l)
    | _, _ => none
def splitL (t : List UInt8) : Option (List Ch) := partsL (cutL t.length t)
theorem cut_join : ∀ (l : List Ch) (n : Nat), (∀ c ∈ l, chkC c = 0) → (joinL l).length ≤ n → cutL n (joinL l) = l.map fun c => UInt8.ofNat (chL c).length :: chL c
  | [], 0, _, _ => rfl
  | [], n + 1, _, _ => rfl
  | c :: l, n, h, hn => by
    have hc := chL_len (h c List.mem_cons_self)
    have e : joinL (c :: l) = UInt8.ofNat (chL c).length :: (chL c ++ joinL l) := by simp [joinL]
    rw [e] at hn ⊢
    cases n with
    | zero => simp at hn
    | succ n =>
      have hx : (UInt8.ofNat (chL c).length).toNat = (chL c).length := by simp; omega
      unfold cutL
      rw [hx, List.take_left, List.drop_left, cut_join l n (fun d hd => h d (List.mem_cons_of_mem _ hd)) (by simp at hn; omega)]
      rfl
theorem parts_join : ∀ (l : List Ch), (∀ c ∈ l, chkC c = 0) → partsL (l.map fun c => UInt8.ofNat (chL c).length :: chL c) = some l
  | [], _ => rfl
  | c :: l, h => by
    rw [List.map_cons]
    unfold partsL
    rw [parts_join l (fun d hd => h d (List.mem_cons_of_mem _ hd))]
    simp only [List.drop_succ_cons, List.drop_zero, chP_chL (h c List.mem_cons_self)]
theorem split_join {l : List Ch} (h : ∀ c ∈ l, chkC c = 0) : splitL (joinL l) = some l := by
  unfold splitL
  rw [cut_join l _ h (Nat.le_refl _), parts_join l h]
theorem join_len : ∀ (l : List Ch), (∀ c ∈ l, chkC c = 0) → (joinL l).length ≤ 35 * l.length
  | [], _ => by simp [joinL]
  | c :: l, h => by
    have hc := chL_len (h c List.mem_cons_self)
    have := join_len l (fun d hd => h d (List.mem_cons_of_mem _ hd))
    have e : joinL (c :: l) = UInt8.ofNat (chL c).length :: (chL c ++ joinL l) := by simp [joinL]
    rw [e]
    simp only [List.length_cons, List.length_append]
    omega
/-! ### heads -/
structure Hd3 where
  half : Nat
  first : Nat
  size : Nat
def markL : List UInt8 := [119, 114, 105, 116, 107, 101, 101, 112]
def headL (h : Hd3) : List UInt8 := markL ++ leL h.half 1 ++ leL h.first 8 ++ leL h.size 2
def HdOk (h : Hd3) : Prop := h.half ≤ 1 ∧ 1 ≤ h.first ∧ h.first < 9223372036854775808 ∧ h.size ≤ 2400
instance (h : Hd3) : Decidable (HdOk h) := by unfold HdOk; infer_instance
/-- a head of its sector -/
def headP (s : List UInt8) : Option Hd3 :=
  if s.take 8 = markL ∧ s.drop 19 = List.replicate (s.length - 19) 0 ∧ HdOk ⟨numL ((s.drop 8).take 1), numL ((s.drop 9).take 8), numL ((s.drop 17).take 2)⟩ then some ⟨numL ((s.drop 8).take 1), numL ((s.drop 9).take 8), numL ((s.drop 17).take 2)⟩ else none
theorem headL_len (h : Hd3) : (headL h).length = 19 := by simp [headL, markL, leL_len]
theorem head_parts (h : Hd3) (r : List UInt8) : (headL h ++ r).take 8 = markL ∧ ((headL h ++ r).drop 8).take 1 = leL h.half 1 ∧ ((headL h ++ r).drop 9).take 8 = leL h.first 8 ∧ ((headL h ++ r).drop 17).take 2 = leL h.size 2 ∧ (headL h ++ r).drop 19 = r := by
  have e0 : markL.length = 8 := rfl
  have e1 := leL_len h.half 1
  have e2 := leL_len h.first 8
  have e3 := leL_len h.size 2
  unfold headL
  generalize leL h.half 1 = A at *
  generalize leL h.first 8 = B at *
  generalize leL h.size 2 = C at *
  refine ⟨?_, ?_, ?_, ?_, ?_⟩
  · simp only [List.append_assoc]; rw [List.take_left' e0]
  · simp only [List.append_assoc]; rw [List.drop_left' e0, List.take_left' e1]
  · rw [show markL ++ A ++ B ++ C ++ r = (markL ++ A) ++ (B ++ (C ++ r)) by simp, List.drop_left' (by simp [e0, e1]), List.take_left' e2]
  · rw [show markL ++ A ++ B ++ C ++ r = (markL ++ A ++ B) ++ (C ++ r) by simp, List.drop_left' (by simp [e0, e1, e2]), List.take_left' e3]
  · rw [List.drop_left' (by simp [e0, e1, e2, e3])]
theorem headP_headL {h : Hd3} (hh : HdOk h) : headP (padL (headL h)) = some h := by
  obtain ⟨a1, a2, a3, a4, a5⟩ := head_parts h (List.replicate (48 - (headL h).length) 0)
  unfold headP padL
  have n1 : numL (leL h.half 1) = h.half := numL_le _ _ (by have := hh.1; omega)
  have n2 : numL (leL h.first 8) = h.first := numL_le _ _ (by have := hh.2.2.1; omega)
  have n3 : numL (leL h.size 2) = h.size := numL_le _ _ (by have := hh.2.2.2; omega)
  rw [a1, a2, a3, a4, a5, n1, n2, n3, if_pos ⟨rfl, by simp [headL_len], hh⟩]
/-! ### a text on sectors -/
def chunkL : Nat → List UInt8 → List (List UInt8)
  | 0, _ => []
  | _, [] => []
  | n + 1, x :: r => (x :: r).take 48 :: chunkL n ((x :: r).drop 48)
theorem chunk_flat : ∀ (n : Nat) (t : List UInt8), t.length ≤ n → ∃ k, ((chunkL n t).map padL).flatten = t ++ List.replicate k 0
  | 0, t, h => by
    have : t = [] := List.length_eq_zero_iff.1 (by omega)
    subst this
    exact ⟨0, rfl⟩
  | n + 1, [], h => ⟨0, rfl⟩
  | n + 1, x :: r, h => by
    unfold chunkL
    obtain ⟨k, hk⟩ := chunk_flat n ((x :: r).drop 48) (by simp only [List.length_drop, List.length_cons] at h ⊢; omega)
    rw [List.map_cons, List.flatten_cons, hk]
    by_cases hl : 48 ≤ (x :: r).length
    · refine ⟨k, ?_⟩
      have e : padL ((x :: r).take 48) = (x :: r).take 48 := by
        unfold padL
        rw [List.length_take, Nat.min_eq_left hl]
        simp
      rw [e, ← List.append_assoc, List.take_append_drop]
    · have e1 : (x :: r).take 48 = x :: r := List.take_of_length_le (by omega)
      have e2 : (x :: r).drop 48 = [] := List.drop_of_length_le (by omega)
      rw [e1, e2, List.nil_append]
      unfold padL
      exact ⟨48 - (x :: r).length + k, by rw [List.append_assoc, List.replicate_append_replicate]⟩
theorem chunk_small : ∀ (n : Nat) (t : List UInt8), ∀ s ∈ chunkL n t, s.length ≤ 48
  | 0, t => by intro s hs; simp [chunkL] at hs
  | n + 1, [] => by intro s hs; simp [chunkL] at hs
  | n + 1, x :: r => by
    intro s hs
    unfold chunkL at hs
    rcases List.mem_cons.1 hs with rfl | hs
    · rw [List.length_take]; omega
    · exact chunk_small n _ s hs
theorem chunk_many : ∀ (n : Nat) (t : List UInt8), t.length ≤ n → (chunkL n t).length = (t.length + 47) / 48
  | 0, t, h => by
    have : t = [] := List.length_eq_zero_iff.1 (by omega)
    subst this; rfl
  | n + 1, [], h => rfl
  | n + 1, x :: r, h => by
    unfold chunkL
    rw [List.length_cons, chunk_many n ((x :: r).drop 48) (by simp only [List.length_drop, List.length_cons] at h ⊢; omega), List.length_drop]
    simp only [List.length_cons]
    omega
end Go.Proofs.YtikkakdeapbioaaDoor
