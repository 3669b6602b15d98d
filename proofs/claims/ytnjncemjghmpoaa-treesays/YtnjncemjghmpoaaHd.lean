/- What is held where, as plain data, and where a list of it lies in memory: definitions and small lemmas on lists and worlds; nothing of the program. -/
import Derived.Test.YtnjncemjghmpoaaWr
namespace Go.Proofs.Ytnjncemjghmpoaa
open Go.RowKit

/-- a writ at a place -/
structure Hd where
  holder : Int
  slot : Int
  writ : Int

theorem Hd.ext3 {x y : Hd} (h1 : x.holder = y.holder) (h2 : x.slot = y.slot) (h3 : x.writ = y.writ) : x = y := by
  cases x; cases y; simp_all

def HdAt (w : World) (b o : Nat) (x : Hd) : Prop :=
  w.cell? ⟨b, o, none⟩ = some (.int .i64 x.holder) ∧ w.cell? ⟨b, o + 1, none⟩ = some (.int .i64 x.slot) ∧ w.cell? ⟨b, o + 2, none⟩ = some (.int .i64 x.writ)
def HdsAt (w : World) (a : Option Addr) (l : List Hd) : Prop :=
  l = [] ∨ ∃ b o, a = some ⟨b, o, none⟩ ∧ b < w.heap.size ∧ ∀ j x, l[j]? = some x → HdAt w b (o + j * 3) x
theorem HdAt.below {W w1 : World} (hb : Below W.heap.size W w1) {b o : Nat} {x : Hd} (hlt : b < W.heap.size) (h : HdAt W b o x) : HdAt w1 b o x := by
  obtain ⟨h1, h2, h3⟩ := h
  have g := (bcell hb).1
  exact ⟨by rw [g _ _ hlt]; exact h1, by rw [g _ _ hlt]; exact h2, by rw [g _ _ hlt]; exact h3⟩
theorem HdsAt.below {W w1 : World} (hb : Below W.heap.size W w1) {a : Option Addr} {l : List Hd} (h : HdsAt W a l) : HdsAt w1 a l := by
  rcases h with h | ⟨b, o, ha, hlt, hc⟩
  · exact .inl h
  · exact .inr ⟨b, o, ha, Nat.lt_of_lt_of_le hlt hb.size, fun j x hx => (hc j x hx).below hb hlt⟩

/-- the first place at which a test holds; -1: nowhere -/
def idxFrom {α : Type} (p : α → Bool) : List α → Nat → Int
  | [], _ => -1
  | x :: r, k => if p x = true then (k : Int) else idxFrom p r (k + 1)
def idx {α : Type} (p : α → Bool) (l : List α) : Int := idxFrom p l 0
theorem idx_yes {α : Type} {p : α → Bool} {l : List α} {k : Nat} {x : α} (hx : l[k]? = some x) (he : p x = true) (hp : idxFrom p (l.drop k) k = idx p l) : idx p l = k := by
  rw [List.drop_eq_getElem?_toList_append, hx] at hp
  simp [idxFrom, he] at hp; exact hp.symm
theorem idx_no {α : Type} {p : α → Bool} {l : List α} {k : Nat} {x : α} (hx : l[k]? = some x) (he : p x = false) (hp : idxFrom p (l.drop k) k = idx p l) : idxFrom p (l.drop (k + 1)) (k + 1) = idx p l := by
  rw [List.drop_eq_getElem?_toList_append, hx] at hp
  simpa [idxFrom, he] using hp
theorem idx_end {α : Type} {p : α → Bool} {l : List α} {k : Nat} (hk : ¬ k < l.length) (hp : idxFrom p (l.drop k) k = idx p l) : idx p l = -1 := by
  rw [List.drop_of_length_le (by omega)] at hp; exact hp.symm
/-- below 0: the test holds nowhere; else that is the place of the first at which it holds -/
theorem idxFrom_cases {α : Type} (p : α → Bool) : ∀ (l : List α) (k : Nat), (idxFrom p l k = -1 ∧ l.find? p = none) ∨ ∃ (j : Nat) (x : α), idxFrom p l k = ((k + j : Nat) : Int) ∧ l[j]? = some x ∧ p x = true ∧ l.find? p = some x
  | [], k => by simp [idxFrom]
  | x :: r, k => by
    by_cases h : p x = true
    · exact .inr ⟨0, x, by simp [idxFrom, h], rfl, h, by simp [h]⟩
    · rcases idxFrom_cases p r (k + 1) with ⟨h1, h2⟩ | ⟨j, y, h1, h2, h3, h4⟩
      · exact .inl ⟨by simp [idxFrom, h, h1], by simp [h, h2]⟩
      · exact .inr ⟨j + 1, y, by simp only [idxFrom, h]; rw [if_neg (by simp), h1]; congr 1; omega, by simpa using h2, h3, by simp [h, h4]⟩
theorem idx_cases {α : Type} (p : α → Bool) (l : List α) : (idx p l = -1 ∧ l.find? p = none) ∨ ∃ (j : Nat) (x : α), idx p l = (j : Int) ∧ l[j]? = some x ∧ p x = true ∧ l.find? p = some x := by
  rcases idxFrom_cases p l 0 with h | ⟨j, x, h1, h⟩
  · exact .inl h
  · exact .inr ⟨j, x, by rw [idx, h1]; simp, h⟩

/-! ### Rows that the call itself makes, of elements of several cells -/
theorem flat_get {α : Type} (f : α → List Value) (s : Nat) (hf : ∀ x, (f x).length = s) : ∀ (l : List α) (j k : Nat) (x : α), l[j]? = some x → k < s → (l.flatMap f)[j * s + k]? = (f x)[k]?
  | [], j, k, x, h, _ => by simp at h
  | y :: r, 0, k, x, h, hk => by
    have : y = x := by simpa using h
    subst this
    simp only [List.flatMap_cons, Nat.zero_mul, Nat.zero_add]
    rw [List.getElem?_append_left (by rw [hf]; exact hk)]
  | y :: r, j + 1, k, x, h, hk => by
    have h' : r[j]? = some x := by simpa using h
    simp only [List.flatMap_cons]
    rw [List.getElem?_append_right (by rw [hf, Nat.add_mul]; omega), hf, show (j + 1) * s + k - s = j * s + k by rw [Nat.add_mul]; omega]
    exact flat_get f s hf r j k x h' hk
theorem flat_len {α : Type} (f : α → List Value) (s : Nat) (hf : ∀ x, (f x).length = s) (l : List α) : (l.flatMap f).length = l.length * s := by
  induction l with
  | nil => simp
  | cons y r ih => simp only [List.flatMap_cons, List.length_append, hf, ih, List.length_cons, Nat.add_mul]; omega
theorem ownsRow_after {w w1 : World} {base : Nat} {e : TypeId} {size : Nat} {v : Value} {n : Nat} {xs : List Value} (h : w.ownsRow base e size v n xs) (hb : Below w.heap.size w w1) : w1.ownsRow base e size v n xs := by
  obtain ⟨h1, h2⟩ := h
  refine ⟨h1, ?_⟩
  rcases h2 with h2 | ⟨g, cap, cur, a, b, c, d⟩
  · exact .inl h2
  · have hg : g < w.heap.size := by
      refine Nat.lt_of_not_le fun hn => ?_
      have : w.heap[g]? = none := by simp [hn]
      rw [this] at c; cases c
    exact .inr ⟨g, cap, cur, a, b, by rw [hb.block g hg]; exact c, d⟩
theorem ownsRow_cells {w : World} {base : Nat} {e : TypeId} {size : Nat} {v : Value} {n : Nat} {xs : List Value} (h : w.ownsRow base e size v n xs) :
    (v = .slice none 0 0 ∧ n = 0) ∨ ∃ g cap, v = .slice (some ⟨g, 0, none⟩) n cap ∧ base ≤ g ∧ g < w.heap.size ∧ ∀ j u, xs[j]? = some u → w.cell? ⟨g, j, none⟩ = some u := by
  obtain ⟨h1, h2⟩ := id h
  rcases h2 with h2 | ⟨g, cap, cur, a, b, c, d⟩
  · exact .inl h2
  · have hg : g < w.heap.size := by
      refine Nat.lt_of_not_le fun hn => ?_
      have : w.heap[g]? = none := by simp [hn]
      rw [this] at c; cases c
    refine .inr ⟨g, cap, a, b, hg, fun j u hu => ?_⟩
    have := h.cells (g := g) (by rw [a]; rfl) j u hu
    rw [show (⟨g, 0, none⟩ : Addr).add j = ⟨g, 0 + j, none⟩ by unfold Addr.add; split <;> simp_all] at this
    simpa using this
def hcells (x : Hd) : List Value := [.int .i64 x.holder, .int .i64 x.slot, .int .i64 x.writ]
theorem hds_of_row {w : World} {base : Nat} {e : TypeId} {v : Value} {l : List Hd} (h : w.ownsRow base e 3 v l.length (l.flatMap hcells)) : ∃ a cap, v = .slice a l.length cap ∧ HdsAt w a l := by
  rcases ownsRow_cells h with ⟨rfl, hn⟩ | ⟨g, cap, rfl, _, hg, hc⟩
  · have : l = [] := by cases l with | nil => rfl | cons => simp at hn
    subst this
    exact ⟨none, 0, rfl, .inl rfl⟩
  · refine ⟨_, cap, rfl, .inr ⟨g, 0, rfl, hg, fun j x hx => ?_⟩⟩
    have key : ∀ k, k < 3 → (l.flatMap hcells)[j * 3 + k]? = (hcells x)[k]? := fun k hk => flat_get hcells 3 (fun _ => rfl) l j k x hx hk
    refine ⟨?_, ?_, ?_⟩
    · have := hc (j * 3 + 0) _ (key 0 (by omega)); simpa using this
    · have := hc (j * 3 + 1) _ (key 1 (by omega)); simpa using this
    · have := hc (j * 3 + 2) _ (key 2 (by omega)); simpa using this
end Go.Proofs.Ytnjncemjghmpoaa
