/- A disk as plain data (chapter 7): sectors, what was written and is not kept, a fuse. Nothing of the program. -/
import Derived.Test.YtikkakdeapbioaaDoorBox
set_option linter.unusedVariables false
namespace Go.Proofs.YtikkakdeapbioaaDoor
open Go.RowKit

structure Dk where
  now : List (List UInt8)
  kept : List (List UInt8)
  wr : List (Nat × List UInt8)
  left : Int
  down : Bool
/-- what is always true of a disk -/
structure DkOk (d : Dk) : Prop where
  len : d.kept.length = d.now.length
  pos : 1 ≤ d.now.length
  most : d.now.length ≤ 200
  nows : ∀ s ∈ d.now, s.length = 48
  kepts : ∀ s ∈ d.kept, s.length = 48
  wrs : ∀ x ∈ d.wr, x.1 < d.now.length ∧ x.2.length = 48
  lo : -9223372036854775808 ≤ d.left
  hi : d.left ≤ 9223372036854775807
def zsec : List UInt8 := List.replicate 48 0
def newD (n : Nat) : Dk := ⟨List.replicate n zsec, List.replicate n zsec, [], -1, false⟩
def padS (s : ByteArray) : List UInt8 := s.data.toList ++ List.replicate (48 - s.size) 0
theorem padS_len {s : ByteArray} (h : s.size ≤ 48) : (padS s).length = 48 := by
  unfold padS
  have : s.data.toList.length = s.size := by simp
  rw [List.length_append, List.length_replicate, this]; omega
def hasB2 (d : Dk) (at_ : Int) : Bool := decide (0 ≤ at_) && decide (at_ < d.now.length)
def stepDn (d : Dk) : Bool := d.down || d.left == 0
def stepR (d : Dk) : Dk := if stepDn d then ⟨d.now, d.kept, d.wr, d.left, true⟩ else ⟨d.now, d.kept, d.wr, if 0 < d.left then d.left - 1 else d.left, false⟩
def wroteR (d : Dk) (at_ : Nat) (s : List UInt8) : Dk := ⟨d.now.set at_ s, d.kept, d.wr ++ [(at_, s)], d.left, d.down⟩
/-- a write's number: 0, or of the error -/
def wrC (d : Dk) (at_ : Int) (s : ByteArray) : Int := if hasB2 d at_ = true ∧ s.size ≤ 48 then (if stepDn d then 10 else 0) else 1
def wrR (d : Dk) (at_ : Int) (s : ByteArray) : Dk := if hasB2 d at_ = true ∧ s.size ≤ 48 then (if stepDn d then stepR d else wroteR (stepR d) at_.toNat (padS s)) else d
def flC (d : Dk) : Int := if stepDn d then 10 else 0
def flR (d : Dk) : Dk := if stepDn d then stepR d else ⟨d.now, d.now, [], (stepR d).left, false⟩
def rdC (d : Dk) (at_ : Int) : Int := if d.down then 10 else if hasB2 d at_ then 0 else 1
def strOf (l : List UInt8) : ByteArray := ⟨l.toArray⟩
def rdS (d : Dk) (at_ : Int) : ByteArray := if rdC d at_ = 0 then strOf (d.now.getD at_.toNat []) else ByteArray.empty
def bitB (keep : Nat) (i : Nat) : Bool := (keep >>> (i % 64)) &&& 1 == 1
/-- what was written, of which those are there whose bit is set -/
def landW (keep : Nat) : List (List UInt8) → List (Nat × List UInt8) → Nat → List (List UInt8)
  | k, [], _ => k
  | k, x :: r, i => landW keep (if bitB keep i then k.set x.1 x.2 else k) r (i + 1)
def reR (d : Dk) (keep : Nat) : Dk := ⟨landW keep d.kept d.wr 0, landW keep d.kept d.wr 0, [], -1, false⟩
def armR (d : Dk) (n : Int) : Dk := ⟨d.now, d.kept, d.wr, n, d.down⟩

theorem new_ok {n : Nat} (h : 1 ≤ n) (h2 : n ≤ 200) : DkOk (newD n) := by
  refine ⟨by simp [newD], by simp [newD]; exact h, by simp [newD]; exact h2, ?_, ?_, ?_, by simp [newD], by simp [newD]⟩
  · intro s hs; simp [newD] at hs; rw [hs.2]; simp [zsec]
  · intro s hs; simp [newD] at hs; rw [hs.2]; simp [zsec]
  · intro x hx; simp [newD] at hx
theorem step_ok {d : Dk} (h : DkOk d) : DkOk (stepR d) := by
  unfold stepR
  split
  · exact ⟨h.len, h.pos, h.most, h.nows, h.kepts, h.wrs, h.lo, h.hi⟩
  · refine ⟨h.len, h.pos, h.most, h.nows, h.kepts, h.wrs, ?_, ?_⟩
    · have := h.lo; have := h.hi; dsimp only; split <;> omega
    · have := h.lo; have := h.hi; dsimp only; split <;> omega
theorem mem_set48 {l : List (List UInt8)} (h : ∀ s ∈ l, s.length = 48) (i : Nat) {x : List UInt8} (hx : x.length = 48) : ∀ s ∈ l.set i x, s.length = 48 := by
  intro s hs
  rcases List.mem_or_eq_of_mem_set hs with h1 | h1
  · exact h s h1
  · rw [h1]; exact hx
theorem wrote_ok {d : Dk} (h : DkOk d) {at_ : Nat} (ha : at_ < d.now.length) {s : List UInt8} (hs : s.length = 48) : DkOk (wroteR d at_ s) := by
  refine ⟨by simpa [wroteR] using h.len, by simpa [wroteR] using h.pos, by simpa [wroteR] using h.most, mem_set48 h.nows _ hs, h.kepts, ?_, h.lo, h.hi⟩
  intro x hx
  rcases List.mem_append.1 hx with h1 | h1
  · simpa [wroteR] using h.wrs x h1
  · simp at h1; subst h1; simpa [wroteR] using ⟨ha, hs⟩
theorem step_now (d : Dk) : (stepR d).now = d.now ∧ (stepR d).kept = d.kept ∧ (stepR d).wr = d.wr := by
  unfold stepR; split <;> exact ⟨rfl, rfl, rfl⟩
theorem hasB2_iff (d : Dk) (at_ : Int) : hasB2 d at_ = true ↔ 0 ≤ at_ ∧ at_ < d.now.length := by simp [hasB2]
theorem wr_ok {d : Dk} (h : DkOk d) (at_ : Int) (s : ByteArray) : DkOk (wrR d at_ s) := by
  unfold wrR
  split
  · rename_i hh
    split
    · exact step_ok h
    · have h1 := (hasB2_iff d at_).1 hh.1
      exact wrote_ok (step_ok h) (by rw [(step_now d).1]; omega) (padS_len hh.2)
  · exact h
theorem fl_ok {d : Dk} (h : DkOk d) : DkOk (flR d) := by
  unfold flR
  split
  · exact step_ok h
  · have hs := step_ok h
    exact ⟨rfl, h.pos, h.most, h.nows, h.nows, (fun x hx => nomatch hx), hs.lo, hs.hi⟩
theorem land_len (keep : Nat) : ∀ (r : List (Nat × List UInt8)) (k : List (List UInt8)) (i : Nat), (landW keep k r i).length = k.length
  | [], k, i => rfl
  | x :: r, k, i => by
    unfold landW
    rw [land_len keep r]
    split <;> simp
theorem land_48 (keep : Nat) : ∀ (r : List (Nat × List UInt8)) (k : List (List UInt8)) (i : Nat), (∀ s ∈ k, s.length = 48) → (∀ x ∈ r, x.2.length = 48) → ∀ s ∈ landW keep k r i, s.length = 48
  | [], k, i, h, _ => h
  | x :: r, k, i, h, h2 => by
    unfold landW
    refine land_48 keep r _ _ ?_ (fun y hy => h2 y (List.mem_cons_of_mem _ hy))
    split
    · exact mem_set48 h _ (h2 x List.mem_cons_self)
    · exact h
theorem land_snoc (keep : Nat) (x : Nat × List UInt8) : ∀ (r : List (Nat × List UInt8)) (k : List (List UInt8)) (i : Nat), landW keep k (r ++ [x]) i = if bitB keep (i + r.length) then (landW keep k r i).set x.1 x.2 else landW keep k r i
  | [], k, i => by simp [landW]
  | y :: r, k, i => by
    rw [List.cons_append]
    unfold landW
    rw [land_snoc keep x r]
    rw [show i + 1 + r.length = i + (y :: r).length by simp; omega]
theorem re_ok {d : Dk} (h : DkOk d) (keep : Nat) : DkOk (reR d keep) := by
  have hl := land_len keep d.wr d.kept 0
  have h4 := land_48 keep d.wr d.kept 0 h.kepts (fun x hx => (h.wrs x hx).2)
  exact ⟨rfl, by show 1 ≤ (landW keep d.kept d.wr 0).length; rw [hl, h.len]; exact h.pos, by show (landW keep d.kept d.wr 0).length ≤ 200; rw [hl, h.len]; exact h.most, h4, h4, (fun x hx => nomatch hx), (by decide : (-9223372036854775808 : Int) ≤ -1), (by decide : (-1 : Int) ≤ 9223372036854775807)⟩

/-! ### cells -/
def secV (s : List UInt8) : List Value := s.map (fun x => .int .u8 (x.toNat : Int))
def secsV (l : List (List UInt8)) : List Value := l.flatMap secV
def wrV (x : Nat × List UInt8) : List Value := .int .i64 (x.1 : Int) :: secV x.2
theorem secV_len (s : List UInt8) : (secV s).length = s.length := by simp [secV]
theorem secV_one {s : List UInt8} : ∀ v ∈ secV s, v.oneCell' = true := by
  intro v hv
  simp only [secV, List.mem_map] at hv
  obtain ⟨x, _, rfl⟩ := hv
  rfl
theorem secsV_len {l : List (List UInt8)} (h : ∀ s ∈ l, s.length = 48) : (secsV l).length = l.length * 48 := by
  induction l with
  | nil => rfl
  | cons a l ih =>
    unfold secsV at ih ⊢
    rw [List.flatMap_cons, List.length_append, ih (fun s hs => h s (List.mem_cons_of_mem _ hs)), secV_len, h a List.mem_cons_self]
    simp; omega
theorem secsV_one {l : List (List UInt8)} : ∀ v ∈ secsV l, v.oneCell' = true := by
  intro v hv
  obtain ⟨s, _, hs⟩ := List.mem_flatMap.1 hv
  exact secV_one v hs
/-- the cells of one sector among all -/
theorem secsV_get {l : List (List UInt8)} (h : ∀ s ∈ l, s.length = 48) {i : Nat} {s : List UInt8} (hi : l[i]? = some s) : ∀ j v, (secV s)[j]? = some v → (secsV l)[i * 48 + j]? = some v := by
  induction l generalizing i with
  | nil => simp at hi
  | cons a l ih =>
    intro j v hv
    have ha := h a List.mem_cons_self
    unfold secsV
    rw [List.flatMap_cons]
    cases i with
    | zero =>
      simp at hi; subst hi
      rw [List.getElem?_append_left (by have := (List.getElem?_eq_some_iff.1 hv).1; omega)]
      simpa using hv
    | succ i =>
      rw [List.getElem?_append_right (by rw [secV_len, ha]; omega), secV_len, ha]
      have := ih (fun s hs => h s (List.mem_cons_of_mem _ hs)) (by simpa using hi) j v hv
      rw [show (i + 1) * 48 + j - 48 = i * 48 + j by omega]
      exact this
/-- one sector stored among all -/
theorem secsV_set {l : List (List UInt8)} (h : ∀ s ∈ l, s.length = 48) {i : Nat} (hi : i < l.length) {s : List UInt8} (hs : s.length = 48) :
    (secsV l).take (i * 48) ++ secV s ++ (secsV l).drop (i * 48 + (secV s).length) = secsV (l.set i s) := by
  induction l generalizing i with
  | nil => simp at hi
  | cons a l ih =>
    have ha := h a List.mem_cons_self
    have hal : (secV a).length = 48 := by rw [secV_len, ha]
    have hsl : (secV s).length = 48 := by rw [secV_len, hs]
    cases i with
    | zero =>
      unfold secsV
      simp only [Nat.zero_mul, List.take_zero, List.nil_append, Nat.zero_add, List.set_cons_zero, List.flatMap_cons]
      rw [hsl, ← hal, List.drop_left]
    | succ i =>
      have := ih (fun s hs => h s (List.mem_cons_of_mem _ hs)) (i := i) (by simpa using hi)
      unfold secsV at this ⊢
      simp only [List.set_cons_succ, List.flatMap_cons]
      rw [← this, hsl]
      rw [show (i + 1) * 48 = (secV a).length + i * 48 by omega, List.take_append, List.take_of_length_le (by omega)]
      rw [show (secV a).length + i * 48 + 48 = (secV a).length + (i * 48 + 48) by omega, List.drop_append]
      simp [List.drop_of_length_le, Nat.le_add_right]
theorem wrV_len {x : Nat × List UInt8} (h : x.2.length = 48) : (wrV x).length = 49 := by simp [wrV, secV_len, h]
theorem wrsV_len {l : List (Nat × List UInt8)} (h : ∀ x ∈ l, x.2.length = 48) : (l.flatMap wrV).length = l.length * 49 := by
  induction l with
  | nil => rfl
  | cons a l ih =>
    rw [List.flatMap_cons, List.length_append, ih (fun s hs => h s (List.mem_cons_of_mem _ hs)), wrV_len (h a List.mem_cons_self)]
    simp; omega
theorem wrsV_get {l : List (Nat × List UInt8)} (h : ∀ x ∈ l, x.2.length = 48) {i : Nat} {x : Nat × List UInt8} (hi : l[i]? = some x) : ∀ j v, (wrV x)[j]? = some v → (l.flatMap wrV)[i * 49 + j]? = some v := by
  induction l generalizing i with
  | nil => simp at hi
  | cons a l ih =>
    intro j v hv
    have ha := wrV_len (h a List.mem_cons_self)
    rw [List.flatMap_cons]
    cases i with
    | zero =>
      simp at hi; subst hi
      rw [List.getElem?_append_left (by have := (List.getElem?_eq_some_iff.1 hv).1; omega)]
      simpa using hv
    | succ i =>
      rw [List.getElem?_append_right (by omega), ha]
      have := ih (fun s hs => h s (List.mem_cons_of_mem _ hs)) (by simpa using hi) j v hv
      rw [show (i + 1) * 49 + j - 49 = i * 49 + j by omega]
      exact this
end Go.Proofs.YtikkakdeapbioaaDoor
