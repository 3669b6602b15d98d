/- Changes of rows (chapter 8), sectors of a log and its deeds (chapter 9), as plain data. Nothing of the program. -/
import Derived.Test.YtikkakdeapbioaaDoorLitW
import Derived.Test.YtikkakdeapbioaaDoorLightW
set_option linter.unusedVariables false
namespace Go.Proofs.YtikkakdeapbioaaDoor
open Go.RowKit

/-- H1: the number of a change's error; 0: none -/
def chkC (c : Ch) : Int := if c.key.size = 0 ∨ (c.gone = true ∧ c.val.size ≠ 0) then 3 else if 8 < c.key.size ∨ 24 < c.val.size then 2 else 0
/-- H2: its bytes -/
def chL (c : Ch) : List UInt8 := (if c.gone then 1 else 0) :: UInt8.ofNat c.key.size :: (c.key.data.toList ++ c.val.data.toList)
def chB (c : Ch) : ByteArray := strOf (chL c)
/-- H2: what bytes are read as -/
def chOf (l : List UInt8) : Ch := ⟨strOf ((l.drop 2).take (l.getD 1 0).toNat), strOf (l.drop (2 + (l.getD 1 0).toNat)), l.getD 0 0 == 1⟩
def chGood (l : List UInt8) : Bool := decide (2 ≤ l.length) && decide ((l.getD 0 0).toNat ≤ 1) && decide (2 + (l.getD 1 0).toNat ≤ l.length)
def chP (l : List UInt8) : Option Ch := if chGood l = true ∧ chkC (chOf l) = 0 then some (chOf l) else none
theorem str_size (l : List UInt8) : (strOf l).size = l.length := by simp [strOf, ByteArray.size]
theorem str_data (l : List UInt8) : (strOf l).data.toList = l := by simp [strOf]
theorem str_of (s : ByteArray) : strOf s.data.toList = s := by cases s; simp [strOf]
theorem chk_zero {c : Ch} (h : chkC c = 0) : 1 ≤ c.key.size ∧ c.key.size ≤ 8 ∧ c.val.size ≤ 24 := by
  unfold chkC at h
  split at h
  · simp at h
  · split at h
    · simp at h
    · omega
/-- what is written is read as it -/
theorem chP_chL {c : Ch} (h : chkC c = 0) : chP (chL c) = some c := by
  obtain ⟨h1, h2, h3⟩ := chk_zero h
  have hk : c.key.data.toList.length = c.key.size := by simp
  have hu : (UInt8.ofNat c.key.size).toNat = c.key.size := by simp; omega
  have e : chOf (chL c) = c := by
    cases c with
    | mk key val gone =>
      dsimp only at h1 h2 h3 hk hu
      have a1 : (chL ⟨key, val, gone⟩).getD 1 0 = UInt8.ofNat key.size := rfl
      have a0 : (chL ⟨key, val, gone⟩).getD 0 0 = if gone then 1 else 0 := rfl
      have a2 : (chL ⟨key, val, gone⟩).drop 2 = key.data.toList ++ val.data.toList := rfl
      unfold chOf
      rw [a1, a0, hu, a2]
      congr 1
      · rw [List.take_append_of_le_length (by omega), List.take_of_length_le (by omega), str_of]
      · rw [← List.drop_drop, a2, List.drop_append_of_le_length (by omega), List.drop_of_length_le (by omega), List.nil_append, str_of]
      · cases gone <;> rfl
  have g : chGood (chL c) = true := by
    have a1 : (chL c).getD 1 0 = UInt8.ofNat c.key.size := rfl
    have a0 : (chL c).getD 0 0 = if c.gone then 1 else 0 := rfl
    have al : (chL c).length = 2 + (c.key.size + c.val.size) := by simp [chL]; omega
    unfold chGood
    rw [a1, a0, hu, al]
    cases c.gone <;> simp <;> omega
  unfold chP
  rw [e, if_pos ⟨g, h⟩]
theorem chL_len {c : Ch} (h : chkC c = 0) : (chL c).length ≤ 34 := by
  obtain ⟨h1, h2, h3⟩ := chk_zero h
  simp [chL]; omega

/-! ### sectors of a log -/
/-- a sector's text: its kind, its number, how many bytes follow, these -/
def secL (kind : UInt8) (n : Nat) (t : List UInt8) : List UInt8 := kind :: (leL n 4 ++ leL t.length 2 ++ t)
def padL (l : List UInt8) : List UInt8 := l ++ List.replicate (48 - l.length) 0
theorem padS_str (l : List UInt8) : padS (strOf l) = padL l := by unfold padS padL; rw [str_data, str_size]
/-- a sector of that number: its kind and its text -/
def secP (s : List UInt8) (n : Nat) : Option (UInt8 × List UInt8) :=
  let z := numL ((s.drop 5).take 2)
  if (s.getD 0 0 = 111 ∨ s.getD 0 0 = 99) ∧ (s.drop 1).take 4 = leL n 4 ∧ z ≤ 41 then some (s.getD 0 0, (s.drop 7).take z) else none
theorem numL_le (n m : Nat) (h : n < 2 ^ (8 * m)) : numL (leL n m) = n := by
  induction m generalizing n with
  | zero => simp at h; subst h; rfl
  | succ m ih =>
    have e : leL n (m + 1) = UInt8.ofNat n :: leL (n / 256) m := by
      unfold leL
      rw [List.range_succ_eq_map, List.map_cons, List.map_map]
      simp only [Nat.mul_zero, Nat.pow_zero, Nat.div_one, List.cons.injEq, true_and]
      apply List.map_congr_left
      intro i _
      simp only [Function.comp]
      rw [Nat.div_div_eq_div_mul, show 8 * (i + 1) = 8 + 8 * i by omega, Nat.pow_add]
    rw [e]
    unfold numL
    rw [ih (n / 256) (by rw [show 8 * (m + 1) = 8 * m + 8 by omega, Nat.pow_add] at h; omega)]
    simp
    omega
theorem secP_secL {kind : UInt8} (hk : kind = 111 ∨ kind = 99) (n : Nat) {t : List UInt8} (ht : t.length ≤ 41) : secP (padL (secL kind n t)) n = some (kind, t) := by
  have l4 := leL_len n 4
  have l2 := leL_len t.length 2
  have e : padL (secL kind n t) = kind :: (leL n 4 ++ (leL t.length 2 ++ (t ++ List.replicate (48 - (secL kind n t).length) 0))) := by simp [padL, secL]
  rw [e]
  generalize List.replicate (48 - (secL kind n t).length) (0 : UInt8) = r
  have d1 : (kind :: (leL n 4 ++ (leL t.length 2 ++ (t ++ r)))).drop 1 = leL n 4 ++ (leL t.length 2 ++ (t ++ r)) := rfl
  have d5 : (kind :: (leL n 4 ++ (leL t.length 2 ++ (t ++ r)))).drop 5 = leL t.length 2 ++ (t ++ r) := by
    rw [List.drop_succ_cons, List.drop_append_of_le_length (by omega), List.drop_of_length_le (by omega), List.nil_append]
  have d7 : (kind :: (leL n 4 ++ (leL t.length 2 ++ (t ++ r)))).drop 7 = t ++ r := by
    rw [show 7 = 5 + 2 by rfl, ← List.drop_drop, d5, List.drop_append_of_le_length (by omega), List.drop_of_length_le (by omega), List.nil_append]
  have hz : numL (leL t.length 2) = t.length := numL_le _ _ (by omega)
  have e5 : (leL t.length 2 ++ (t ++ r)).take 2 = leL t.length 2 := by rw [List.take_append_of_le_length (by omega), List.take_of_length_le (by omega)]
  have e1 : (leL n 4 ++ (leL t.length 2 ++ (t ++ r))).take 4 = leL n 4 := by rw [List.take_append_of_le_length (by omega), List.take_of_length_le (by omega)]
  have e7 : (t ++ r).take t.length = t := by rw [List.take_append_of_le_length (by omega), List.take_of_length_le (by omega)]
  unfold secP
  rw [d1, d5, d7, e5, e1, hz]
  dsimp only
  rw [e7, if_pos ⟨hk, rfl, ht⟩]
  rfl
theorem secL_len {kind : UInt8} {n : Nat} {t : List UInt8} : (secL kind n t).length = 7 + t.length := by simp [secL, leL_len]; omega
theorem secP_zero (n : Nat) : secP zsec n = none := by
  unfold secP
  have : zsec.getD 0 0 = 0 := rfl
  rw [this]
  dsimp only
  rw [if_neg]
  rintro ⟨h, -⟩
  rcases h with h | h <;> cases h
/-! ### deeds of sectors -/
structure Lst where
  deeds : List (List Ch)
  opn : List Ch
  used : Nat
/-- one sector more, the i-th; none: nothing is read from there on -/
def lstep (first i : Nat) (st : Lst) (s : List UInt8) : Option Lst :=
  match secP s (first + i) with
  | none => none
  | some (k, t) =>
    if k = 111 then
      match chP t with
      | none => none
      | some c => some ⟨st.deeds, st.opn ++ [c], st.used⟩
    else if t = leL st.opn.length 4 then some ⟨st.deeds ++ [st.opn], [], i + 1⟩ else none
def rdLog (first : Nat) : List (List UInt8) → Nat → Lst → Lst
  | [], _, st => st
  | s :: r, i, st => match lstep first i st s with
    | none => st
    | some st' => rdLog first r (i + 1) st'
/-- the deeds of sectors, and how many sectors they have -/
def lgOf (first : Nat) (l : List (List UInt8)) : Lst := rdLog first l 0 ⟨[], [], 0⟩
end Go.Proofs.YtikkakdeapbioaaDoor
