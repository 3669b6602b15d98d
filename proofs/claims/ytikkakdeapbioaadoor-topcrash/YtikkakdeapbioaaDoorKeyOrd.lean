/- The order of strings, and rows that rise by their keys: plain data (nothing of the program). -/
import Derived.Test.YtikkakdeapbioaaDoorRowPure
set_option linter.unusedVariables false
set_option linter.unusedSimpArgs false
namespace Go.Proofs.YtikkakdeapbioaaDoor
open Go.RowKit

theorem bl_irr : ∀ a : List UInt8, Op.bytesLess a a = false
  | [] => rfl
  | x :: r => by simp [Op.bytesLess, bl_irr r]
theorem bl_trans : ∀ a b c : List UInt8, Op.bytesLess a b = true → Op.bytesLess b c = true → Op.bytesLess a c = true
  | _, [], _, h, _ => by simp [Op.bytesLess] at h
  | _, _ :: _, [], _, h => by simp [Op.bytesLess] at h
  | [], _ :: _, _ :: _, _, _ => rfl
  | x :: a, y :: b, z :: c, h1, h2 => by
    simp only [Op.bytesLess, Bool.or_eq_true, decide_eq_true_eq, Bool.and_eq_true, beq_iff_eq] at h1 h2 ⊢
    rcases h1 with h1 | ⟨rfl, h1⟩
    · rcases h2 with h2 | ⟨rfl, h2⟩
      · exact .inl (UInt8.lt_trans h1 h2)
      · exact .inl h1
    · rcases h2 with h2 | ⟨rfl, h2⟩
      · exact .inl h2
      · exact .inr ⟨rfl, bl_trans a b c h1 h2⟩
theorem bl_tri : ∀ a b : List UInt8, Op.bytesLess a b = true ∨ a = b ∨ Op.bytesLess b a = true
  | [], [] => .inr (.inl rfl)
  | [], _ :: _ => .inl rfl
  | _ :: _, [] => .inr (.inr rfl)
  | x :: a, y :: b => by
    simp only [Op.bytesLess, Bool.or_eq_true, decide_eq_true_eq, Bool.and_eq_true, beq_iff_eq]
    have htri : x < y ∨ x = y ∨ y < x := by simp only [UInt8.lt_iff_toNat_lt, ← UInt8.toNat_inj]; omega
    rcases htri with h | rfl | h
    · exact .inl (.inl h)
    · rcases bl_tri a b with h | rfl | h
      · exact .inl (.inr ⟨rfl, h⟩)
      · exact .inr (.inl rfl)
      · exact .inr (.inr (.inr ⟨rfl, h⟩))
    · exact .inr (.inr (.inl h))
theorem bl_asym {a b : List UInt8} (h : Op.bytesLess a b = true) : Op.bytesLess b a = false := by
  cases e : Op.bytesLess b a
  · rfl
  · have := bl_trans a b a h e; rw [bl_irr] at this; cases this
theorem bl_ne {a b : List UInt8} (h : Op.bytesLess a b = true) : a ≠ b := fun e => by rw [e, bl_irr] at h; cases h
def kl (x : Ch) : List UInt8 := x.key.toList
def Ris (l : List Ch) : Prop := l.Pairwise (fun x y => Op.bytesLess (kl x) (kl y) = true)
theorem Ris.lt {l : List Ch} (h : Ris l) {i j : Nat} {x y : Ch} (hij : i < j) (hx : l[i]? = some x) (hy : l[j]? = some y) : Op.bytesLess (kl x) (kl y) = true := by
  obtain ⟨h1, rfl⟩ := List.getElem?_eq_some_iff.1 hx
  obtain ⟨h2, rfl⟩ := List.getElem?_eq_some_iff.1 hy
  exact List.pairwise_iff_getElem.1 h i j h1 h2 hij
/-- where a key belongs -/
structure BsAt (l : List Ch) (t : List UInt8) (i : Nat) : Prop where
  le : i ≤ l.length
  lo : ∀ j x, j < i → l[j]? = some x → Op.bytesLess (kl x) t = true
  hi : ∀ j x, i ≤ j → l[j]? = some x → Op.bytesLess (kl x) t = false
theorem BsAt.up {l : List Ch} (hr : Ris l) {t : List UInt8} {lo h : Nat} {x : Ch} (hx : l[h]? = some x) (h1 : ∀ j y, j < lo → l[j]? = some y → Op.bytesLess (kl y) t = true) (hl : Op.bytesLess (kl x) t = true) : ∀ j y, j < h + 1 → l[j]? = some y → Op.bytesLess (kl y) t = true := fun j y hj hy => by
  by_cases e : j = h
  · subst e; rw [hx] at hy; cases hy; exact hl
  · exact bl_trans _ _ _ (hr.lt (by omega) hy hx) hl
theorem BsAt.down {l : List Ch} (hr : Ris l) {t : List UInt8} {h : Nat} {x : Ch} (hx : l[h]? = some x) (hl : Op.bytesLess (kl x) t = false) : ∀ j y, h ≤ j → l[j]? = some y → Op.bytesLess (kl y) t = false := fun j y hj hy => by
  by_cases e : j = h
  · subst e; rw [hx] at hy; cases hy; exact hl
  · cases hq : Op.bytesLess (kl y) t
    · rfl
    · have := bl_trans _ _ _ (hr.lt (by omega) hx hy) hq; rw [hl] at this; cases this
/-- is the key there? -/
def fdB (l : List Ch) (t : List UInt8) (i : Nat) : Bool := match l[i]? with
  | some x => kl x == t
  | none => false
def apI (l : List Ch) (c : Ch) (i : Nat) : List Ch := l.take i ++ (if c.gone then [] else [c]) ++ l.drop (if fdB l (kl c) i then i + 1 else i)
theorem fd_lt {l : List Ch} {t : List UInt8} {i : Nat} (h : fdB l t i = true) : i < l.length := by
  unfold fdB at h
  cases hq : l[i]? with
  | none => rw [hq] at h; cases h
  | some x => exact (List.getElem?_eq_some_iff.1 hq).1
theorem BsAt.uniq {l : List Ch} {t : List UInt8} {i j : Nat} (h : BsAt l t i) (h' : BsAt l t j) : i = j := by
  rcases Nat.lt_trichotomy i j with e | e | e
  · have hl : i < l.length := Nat.lt_of_lt_of_le e h'.le
    have a := h.hi i _ (Nat.le_refl _) (List.getElem?_eq_getElem hl)
    have b := h'.lo i _ e (List.getElem?_eq_getElem hl)
    rw [a] at b; cases b
  · exact e
  · have hl : j < l.length := Nat.lt_of_lt_of_le e h.le
    have a := h'.hi j _ (Nat.le_refl _) (List.getElem?_eq_getElem hl)
    have b := h.lo j _ e (List.getElem?_eq_getElem hl)
    rw [a] at b; cases b
theorem ap_len (l : List Ch) (c : Ch) (i : Nat) : (apI l c i).length ≤ l.length + 1 := by
  unfold apI
  simp only [List.length_append, List.length_take, List.length_drop]
  split <;> split <;> simp <;> omega
theorem BsAt.above {l : List Ch} (hr : Ris l) {t : List UInt8} {i j : Nat} {x : Ch} (h : BsAt l t i) (hj : (if fdB l t i then i + 1 else i) ≤ j) (hx : l[j]? = some x) : Op.bytesLess t (kl x) = true := by
  have hf := h.hi j x (by split at hj <;> omega) hx
  rcases bl_tri t (kl x) with e | e | e
  · exact e
  · exfalso
    by_cases hij : j = i
    · subst hij
      have : fdB l t j = true := by unfold fdB; rw [hx]; simp [e]
      rw [this] at hj
      simp at hj
      omega
    · have hl : i < l.length := by have := (List.getElem?_eq_some_iff.1 hx).1; split at hj <;> omega
      have := h.hi i _ (Nat.le_refl _) (List.getElem?_eq_getElem hl)
      have h2 := hr.lt (show i < j by split at hj <;> omega) (List.getElem?_eq_getElem hl) hx
      rw [← e, this] at h2; cases h2
  · rw [hf] at e; cases e
theorem ap_ris {l : List Ch} (hr : Ris l) {c : Ch} {i : Nat} (h : BsAt l (kl c) i) : Ris (apI l c i) := by
  unfold apI Ris
  have hT : ∀ x ∈ l.take i, Op.bytesLess (kl x) (kl c) = true := fun x hx => by
    obtain ⟨j, hj⟩ := List.mem_iff_getElem?.1 hx
    rw [List.getElem?_take] at hj
    split at hj
    · exact h.lo j x (by assumption) hj
    · cases hj
  have hD : ∀ x ∈ l.drop (if fdB l (kl c) i then i + 1 else i), Op.bytesLess (kl c) (kl x) = true := fun x hx => by
    obtain ⟨j, hj⟩ := List.mem_iff_getElem?.1 hx
    rw [List.getElem?_drop] at hj
    exact h.above hr (Nat.le_add_right _ _) hj
  rw [List.append_assoc, List.pairwise_append]
  refine ⟨hr.sublist (List.take_sublist _ _), ?_, fun x hx y hy => ?_⟩
  · rw [List.pairwise_append]
    refine ⟨by split <;> simp, hr.sublist (List.drop_sublist _ _), fun x hx y hy => ?_⟩
    split at hx
    · cases hx
    · simp at hx; rw [hx]; exact hD y hy
  · rcases List.mem_append.1 hy with hy | hy
    · split at hy
      · cases hy
      · simp at hy; rw [hy]; exact hT x hx
    · exact bl_trans _ _ _ (hT x hx) (hD y hy)
/-- the place -/
def bsI (t : List UInt8) : List Ch → Nat
  | [] => 0
  | x :: r => if Op.bytesLess (kl x) t then bsI t r + 1 else 0
theorem bs_at {t : List UInt8} : ∀ {l : List Ch}, Ris l → BsAt l t (bsI t l)
  | [], _ => ⟨Nat.le_refl _, fun j x hj => by simp [bsI] at hj, fun j x _ hx => by simp at hx⟩
  | y :: r, hr => by
    have hr2 : Ris r := (List.pairwise_cons.1 hr).2
    have ih := bs_at (t := t) hr2
    unfold bsI
    split
    · rename_i hy
      refine ⟨by have := ih.le; simp only [List.length_cons]; omega, fun j x hj hx => ?_, fun j x hj hx => ?_⟩
      · cases j with
        | zero => simp at hx; rw [← hx]; exact hy
        | succ j => exact ih.lo j x (by omega) (by simpa using hx)
      · cases j with
        | zero => omega
        | succ j => exact ih.hi j x (by omega) (by simpa using hx)
    · rename_i hy
      refine ⟨Nat.zero_le _, fun j x hj => by omega, fun j x _ hx => ?_⟩
      exact BsAt.down (h := 0) hr (x := y) rfl (by simpa using hy) j x (Nat.zero_le _) hx
/-- a change applied; changes, one behind the other -/
def apC (l : List Ch) (c : Ch) : List Ch := apI l c (bsI (kl c) l)
def apL : List Ch → List Ch → List Ch
  | l, [] => l
  | l, c :: r => apL (apC l c) r
theorem apC_ris {l : List Ch} (h : Ris l) (c : Ch) : Ris (apC l c) := ap_ris h (bs_at h)
theorem apC_len (l : List Ch) (c : Ch) : (apC l c).length ≤ l.length + 1 := ap_len _ _ _
theorem mem_apC {l : List Ch} {c y : Ch} (h : y ∈ apC l c) : y ∈ l ∨ y = c := by
  unfold apC apI at h
  rcases List.mem_append.1 h with h | h
  · rcases List.mem_append.1 h with h | h
    · exact .inl (List.mem_of_mem_take h)
    · split at h
      · cases h
      · simp at h; exact .inr h
  · exact .inl (List.mem_of_mem_drop h)
theorem apL_ris : ∀ (cs l : List Ch), Ris l → Ris (apL l cs)
  | [], _, h => h
  | c :: cs, l, h => apL_ris cs _ (apC_ris h c)
theorem apL_len : ∀ (cs l : List Ch), (apL l cs).length ≤ l.length + cs.length
  | [], _ => by simp [apL]
  | c :: cs, l => by have := apL_len cs (apC l c); have := apC_len l c; unfold apL; simp only [List.length_cons]; omega
theorem apL_take : ∀ (l0 l : List Ch) (k : Nat) (c : Ch), l[k]? = some c → apL l0 (l.take (k + 1)) = apC (apL l0 (l.take k)) c
  | _, [], k, c, h => by simp at h
  | l0, x :: l, k, c, h => by
    cases k with
    | zero => simp at h; subst h; simp [apL]
    | succ k => rw [List.take_succ_cons, List.take_succ_cons]; unfold apL; exact apL_take (apC l0 x) l k c (by simpa using h)
end Go.Proofs.YtikkakdeapbioaaDoor
