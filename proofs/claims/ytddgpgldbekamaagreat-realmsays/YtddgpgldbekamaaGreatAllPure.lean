/- Writs, places, which were made of which: the plain part of all texts of stage 1, with nothing of the program. -/
import Derived.WalkKit
import Derived.WalkSpells
import Derived.WalkLawsBesides
import Derived.Deep.QuietTactic
import Derived.BigQuiet
import Derived.Deep.RegionHeld3
import Derived.WalkSmall
import Derived.Maps.OwnSet
import Derived.Maps.AppendAt
import Derived.Lib.SlicesCompact
set_option linter.unusedSimpArgs false
set_option linter.unusedVariables false
namespace Go.Proofs.YtddgpgldbekamaaGreat
open Go.RowKit

theorem retInt {k : IntKind} {a b : Int} (h : a = b) : Ending.returned (.int k a) = .returned (.int k b) := by rw [h]
theorem retBool {a b : Bool} (h : a = b) : Ending.returned (.bool a) = .returned (.bool b) := by rw [h]
/-- a writ -/
structure Wr where
  id : Int
  thing : Int
  rights : Int
  badge : Int
  frm : Int
/-- a writ's five cells from an offset on -/
def WrAt (w : World) (b o : Nat) (x : Wr) : Prop :=
  w.cell? ⟨b, o, none⟩ = some (.int .i64 x.id) ∧ w.cell? ⟨b, o + 1, none⟩ = some (.int .i64 x.thing) ∧ w.cell? ⟨b, o + 2, none⟩ = some (.int .i64 x.rights) ∧
  w.cell? ⟨b, o + 3, none⟩ = some (.int .i64 x.badge) ∧ w.cell? ⟨b, o + 4, none⟩ = some (.int .i64 x.frm)
/-- a slice's cells hold these writs -/
def WrsAt (w : World) (a : Option Addr) (l : List Wr) : Prop :=
  l = [] ∨ ∃ b o, a = some ⟨b, o, none⟩ ∧ b < w.heap.size ∧ ∀ j x, l[j]? = some x → WrAt w b (o + j * 5) x
/-- all old cells, all old marks read as before -/
theorem bcell {W w1 : World} (hb : Below W.heap.size W w1) : (∀ b o, b < W.heap.size → w1.cell? ⟨b, o, none⟩ = W.cell? ⟨b, o, none⟩) ∧ (∀ b o, b < W.heap.size → w1.frozen? ⟨b, o, none⟩ = W.frozen? ⟨b, o, none⟩) :=
  ⟨fun b o h => hb.cell (p := ⟨b, o, none⟩) h, fun b o h => hb.frozen (p := ⟨b, o, none⟩) h⟩
theorem Below_after {w v w1 : World} (h : Below w.heap.size w v) (hb : Below v.heap.size v w1) : Below w.heap.size w w1 := h.trans (hb.mono h.size)
theorem WrAt.below {W w1 : World} (hb : Below W.heap.size W w1) {b o : Nat} {x : Wr} (hlt : b < W.heap.size) (h : WrAt W b o x) : WrAt w1 b o x := by
  obtain ⟨h1, h2, h3, h4, h5⟩ := h
  have g := (bcell hb).1
  exact ⟨by rw [g _ _ hlt]; exact h1, by rw [g _ _ hlt]; exact h2, by rw [g _ _ hlt]; exact h3, by rw [g _ _ hlt]; exact h4, by rw [g _ _ hlt]; exact h5⟩
theorem WrAt_new (w : World) (t : TypeId) (x : Wr) : WrAt (w.alloc (.cells #[.int .i64 x.id, .int .i64 x.thing, .int .i64 x.rights, .int .i64 x.badge, .int .i64 x.frm] t)) w.heap.size 0 x := by
  refine ⟨?_, ?_, ?_, ?_, ?_⟩ <;> (rw [World.cell?_alloc_new]; rfl)
theorem WrsAt.below {W w1 : World} (hb : Below W.heap.size W w1) {a : Option Addr} {l : List Wr} (h : WrsAt W a l) : WrsAt w1 a l := by
  rcases h with h | ⟨b, o, ha, hlt, hc⟩
  · exact .inl h
  · exact .inr ⟨b, o, ha, Nat.lt_of_lt_of_le hlt hb.size, fun j x hx => (hc j x hx).below hb hlt⟩
/-- the first place of a number among writs; -1: nowhere -/
def findFrom (id : Int) : List Wr → Nat → Int
  | [], _ => -1
  | x :: r, k => if x.id = id then (k : Int) else findFrom id r (k + 1)
def find (l : List Wr) (id : Int) : Int := findFrom id l 0
theorem find_yes {l : List Wr} {id : Int} {k : Nat} {x : Wr} (hx : l[k]? = some x) (he : x.id = id) (hp : findFrom id (l.drop k) k = find l id) : find l id = k := by
  rw [List.drop_eq_getElem?_toList_append, hx] at hp
  simp [findFrom, he] at hp; exact hp.symm
theorem find_no {l : List Wr} {id : Int} {k : Nat} {x : Wr} (hx : l[k]? = some x) (he : ¬ x.id = id) (hp : findFrom id (l.drop k) k = find l id) : findFrom id (l.drop (k + 1)) (k + 1) = find l id := by
  rw [List.drop_eq_getElem?_toList_append, hx] at hp
  simpa [findFrom, he] using hp
theorem find_end {l : List Wr} {id : Int} {k : Nat} (hk : ¬ k < l.length) (hp : findFrom id (l.drop k) k = find l id) : find l id = -1 := by
  rw [List.drop_of_length_le (by omega)] at hp; exact hp.symm
theorem findFrom_bd (id : Int) : ∀ (l : List Wr) (k : Nat), -1 ≤ findFrom id l k ∧ findFrom id l k < (k : Int) + l.length
  | [], k => by simp [findFrom]; omega
  | x :: r, k => by
    have := findFrom_bd id r (k + 1)
    simp only [findFrom, List.length_cons]
    split <;> omega
theorem find_bd (l : List Wr) (id : Int) : -1 ≤ find l id ∧ find l id < l.length := by
  have := findFrom_bd id l 0
  unfold find; omega
/-- a writ at a place -/
structure Hd where
  holder : Int
  slot : Int
  writ : Int
theorem Hd.ext3 {x y : Hd} (h1 : x.holder = y.holder) (h2 : x.slot = y.slot) (h3 : x.writ = y.writ) : x = y := by
  cases x; cases y; simp_all
def HdAt (w : World) (b o : Nat) (x : Hd) : Prop :=
  w.cell? ⟨b, o, none⟩ = some (.int .i64 x.holder) ∧ w.cell? ⟨b, o + 1, none⟩ = some (.int .i64 x.slot) ∧ w.cell? ⟨b, o + 2, none⟩ = some (.int .i64 x.writ)
def HdsAt (w : World) (a : Option Addr) (l : List Hd) : Prop :=
  l = [] ∨ ∃ b o, a = some ⟨b, o, none⟩ ∧ b < w.heap.size ∧ ∀ j x, l[j]? = some x → HdAt w b (o + j * 3) x
theorem HdAt.below {W w1 : World} (hb : Below W.heap.size W w1) {b o : Nat} {x : Hd} (hlt : b < W.heap.size) (h : HdAt W b o x) : HdAt w1 b o x := by
  obtain ⟨h1, h2, h3⟩ := h
  have g := (bcell hb).1
  exact ⟨by rw [g _ _ hlt]; exact h1, by rw [g _ _ hlt]; exact h2, by rw [g _ _ hlt]; exact h3⟩
theorem HdsAt.below {W w1 : World} (hb : Below W.heap.size W w1) {a : Option Addr} {l : List Hd} (h : HdsAt W a l) : HdsAt w1 a l := by
  rcases h with h | ⟨b, o, ha, hlt, hc⟩
  · exact .inl h
  · exact .inr ⟨b, o, ha, Nat.lt_of_lt_of_le hlt hb.size, fun j x hx => (hc j x hx).below hb hlt⟩
/-- the first place at which a test holds; -1: nowhere -/
def idxFrom {α : Type} (p : α → Bool) : List α → Nat → Int
  | [], _ => -1
  | x :: r, k => if p x = true then (k : Int) else idxFrom p r (k + 1)
def idx {α : Type} (p : α → Bool) (l : List α) : Int := idxFrom p l 0
theorem idx_yes {α : Type} {p : α → Bool} {l : List α} {k : Nat} {x : α} (hx : l[k]? = some x) (he : p x = true) (hp : idxFrom p (l.drop k) k = idx p l) : idx p l = k := by
  rw [List.drop_eq_getElem?_toList_append, hx] at hp
  simp [idxFrom, he] at hp; exact hp.symm
theorem idx_no {α : Type} {p : α → Bool} {l : List α} {k : Nat} {x : α} (hx : l[k]? = some x) (he : p x = false) (hp : idxFrom p (l.drop k) k = idx p l) : idxFrom p (l.drop (k + 1)) (k + 1) = idx p l := by
  rw [List.drop_eq_getElem?_toList_append, hx] at hp
  simpa [idxFrom, he] using hp
theorem idx_end {α : Type} {p : α → Bool} {l : List α} {k : Nat} (hk : ¬ k < l.length) (hp : idxFrom p (l.drop k) k = idx p l) : idx p l = -1 := by
  rw [List.drop_of_length_le (by omega)] at hp; exact hp.symm
/-- below 0: the test holds nowhere; else that is the place of the first at which it holds -/
theorem idxFrom_cases {α : Type} (p : α → Bool) : ∀ (l : List α) (k : Nat), (idxFrom p l k = -1 ∧ l.find? p = none) ∨ ∃ (j : Nat) (x : α), idxFrom p l k = ((k + j : Nat) : Int) ∧ l[j]? = some x ∧ p x = true ∧ l.find? p = some x
  | [], k => by simp [idxFrom]
  | x :: r, k => by
    by_cases h : p x = true
    · exact .inr ⟨0, x, by simp [idxFrom, h], rfl, h, by simp [h]⟩
    · rcases idxFrom_cases p r (k + 1) with ⟨h1, h2⟩ | ⟨j, y, h1, h2, h3, h4⟩
      · exact .inl ⟨by simp [idxFrom, h, h1], by simp [h, h2]⟩
      · exact .inr ⟨j + 1, y, by simp only [idxFrom, h]; rw [if_neg (by simp), h1]; congr 1; omega, by simpa using h2, h3, by simp [h, h4]⟩
theorem idx_cases {α : Type} (p : α → Bool) (l : List α) : (idx p l = -1 ∧ l.find? p = none) ∨ ∃ (j : Nat) (x : α), idx p l = (j : Int) ∧ l[j]? = some x ∧ p x = true ∧ l.find? p = some x := by
  rcases idxFrom_cases p l 0 with h | ⟨j, x, h1, h⟩
  · exact .inl h
  · exact .inr ⟨j, x, by rw [idx, h1]; simp, h⟩
theorem flat_get {α : Type} (f : α → List Value) (s : Nat) (hf : ∀ x, (f x).length = s) : ∀ (l : List α) (j k : Nat) (x : α), l[j]? = some x → k < s → (l.flatMap f)[j * s + k]? = (f x)[k]?
  | [], j, k, x, h, _ => by simp at h
  | y :: r, 0, k, x, h, hk => by
    have : y = x := by simpa using h
    subst this
    simp only [List.flatMap_cons, Nat.zero_mul, Nat.zero_add]
    rw [List.getElem?_append_left (by rw [hf]; exact hk)]
  | y :: r, j + 1, k, x, h, hk => by
    have h' : r[j]? = some x := by simpa using h
    simp only [List.flatMap_cons]
    rw [List.getElem?_append_right (by rw [hf, Nat.add_mul]; omega), hf, show (j + 1) * s + k - s = j * s + k by rw [Nat.add_mul]; omega]
    exact flat_get f s hf r j k x h' hk
theorem flat_len {α : Type} (f : α → List Value) (s : Nat) (hf : ∀ x, (f x).length = s) (l : List α) : (l.flatMap f).length = l.length * s := by
  induction l with
  | nil => simp
  | cons y r ih => simp only [List.flatMap_cons, List.length_append, hf, ih, List.length_cons, Nat.add_mul]; omega
theorem ownsRow_after {w w1 : World} {base : Nat} {e : TypeId} {size : Nat} {v : Value} {n : Nat} {xs : List Value} (h : w.ownsRow base e size v n xs) (hb : Below w.heap.size w w1) : w1.ownsRow base e size v n xs := by
  obtain ⟨h1, h2⟩ := h
  refine ⟨h1, ?_⟩
  rcases h2 with h2 | ⟨g, cap, cur, a, b, c, d⟩
  · exact .inl h2
  · have hg : g < w.heap.size := by
      refine Nat.lt_of_not_le fun hn => ?_
      have : w.heap[g]? = none := by simp [hn]
      rw [this] at c; cases c
    exact .inr ⟨g, cap, cur, a, b, by rw [hb.block g hg]; exact c, d⟩
theorem ownsRow_cells {w : World} {base : Nat} {e : TypeId} {size : Nat} {v : Value} {n : Nat} {xs : List Value} (h : w.ownsRow base e size v n xs) :
    (v = .slice none 0 0 ∧ n = 0) ∨ ∃ g cap, v = .slice (some ⟨g, 0, none⟩) n cap ∧ base ≤ g ∧ g < w.heap.size ∧ ∀ j u, xs[j]? = some u → w.cell? ⟨g, j, none⟩ = some u := by
  obtain ⟨h1, h2⟩ := id h
  rcases h2 with h2 | ⟨g, cap, cur, a, b, c, d⟩
  · exact .inl h2
  · have hg : g < w.heap.size := by
      refine Nat.lt_of_not_le fun hn => ?_
      have : w.heap[g]? = none := by simp [hn]
      rw [this] at c; cases c
    refine .inr ⟨g, cap, a, b, hg, fun j u hu => ?_⟩
    have := h.cells (g := g) (by rw [a]; rfl) j u hu
    rw [show (⟨g, 0, none⟩ : Addr).add j = ⟨g, 0 + j, none⟩ by unfold Addr.add; split <;> simp_all] at this
    simpa using this
def hcells (x : Hd) : List Value := [.int .i64 x.holder, .int .i64 x.slot, .int .i64 x.writ]
theorem hds_of_row {w : World} {base : Nat} {e : TypeId} {v : Value} {l : List Hd} (h : w.ownsRow base e 3 v l.length (l.flatMap hcells)) : ∃ a cap, v = .slice a l.length cap ∧ HdsAt w a l := by
  rcases ownsRow_cells h with ⟨rfl, hn⟩ | ⟨g, cap, rfl, _, hg, hc⟩
  · have : l = [] := by cases l with | nil => rfl | cons => simp at hn
    subst this
    exact ⟨none, 0, rfl, .inl rfl⟩
  · refine ⟨_, cap, rfl, .inr ⟨g, 0, rfl, hg, fun j x hx => ?_⟩⟩
    have key : ∀ k, k < 3 → (l.flatMap hcells)[j * 3 + k]? = (hcells x)[k]? := fun k hk => flat_get hcells 3 (fun _ => rfl) l j k x hx hk
    refine ⟨?_, ?_, ?_⟩
    · have := hc (j * 3 + 0) _ (key 0 (by omega)); simpa using this
    · have := hc (j * 3 + 1) _ (key 1 (by omega)); simpa using this
    · have := hc (j * 3 + 2) _ (key 2 (by omega)); simpa using this
/-- the slice's cells hold these numbers -/
def IntsAt (w : World) (a : Option Addr) (zs : List Int) : Prop :=
  zs = [] ∨ ∃ b o, a = some ⟨b, o, none⟩ ∧ ∀ j, j < zs.length → w.cell? ⟨b, o + j, none⟩ = some (.int .i64 (zs.getD j 0))
theorem IntsAt.below {W w1 : World} (hb : Below W.heap.size W w1) {a : Option Addr} {zs : List Int} (h : IntsAt W a zs) (hlt : ∀ b o, a = some ⟨b, o, none⟩ → b < W.heap.size) : IntsAt w1 a zs := by
  rcases h with h | ⟨b, o, ha, hc⟩
  · exact .inl h
  · exact .inr ⟨b, o, ha, fun j hj => by rw [(bcell hb).1 _ _ (hlt b o ha)]; exact hc j hj⟩
def icells (z : Int) : List Value := [.int .i64 z]
theorem ints_of_row {w : World} {base : Nat} {e : TypeId} {v : Value} {l : List Int} (h : w.ownsRow base e 1 v l.length (l.flatMap icells)) : ∃ a cap, v = .slice a l.length cap ∧ IntsAt w a l ∧ ∀ b o, a = some ⟨b, o, none⟩ → b < w.heap.size := by
  rcases ownsRow_cells h with ⟨rfl, hn⟩ | ⟨g, cap, rfl, _, hg, hc⟩
  · have : l = [] := by cases l with | nil => rfl | cons => simp at hn
    subst this
    exact ⟨none, 0, rfl, .inl rfl, fun b o e => by cases e⟩
  · refine ⟨_, cap, rfl, .inr ⟨g, 0, rfl, fun j hj => ?_⟩, fun b o e => by cases e; exact hg⟩
    have hx : l[j]? = some l[j] := List.getElem?_eq_getElem hj
    have key := flat_get icells 1 (fun _ => rfl) l j 0 l[j] hx (by omega)
    have := hc (j * 1 + 0) _ key
    simpa [hj] using this
/-- has a all rights of b? -/
def hasB (a b : Int) : Bool := bits BinOp.and IntKind.i64 a b == b
/-- may a writ be? (B1) -/
def wrOk (x : Wr) : Prop := 1 ≤ x.id ∧ x.id ≤ 999 ∧ 1 ≤ x.thing ∧ x.thing ≤ 999 ∧ 0 ≤ x.badge ∧ x.badge ≤ 99 ∧ 0 ≤ x.frm ∧ x.frm < x.id ∧ 0 ≤ x.rights ∧ x.rights ≤ 7
/-- is a badge asked for that may not be handed on? -/
def othB (b badge : Int) : Bool := decide (badge ≠ 0 ∧ b ≠ 0 ∧ badge ≠ b)
/-- the number of Derive's error, 0: none (B2) -/
def drvCode (x : Wr) (rights badge : Int) : Int :=
  if rights < 0 ∨ 7 < rights ∨ badge < 0 ∨ 99 < badge then 1 else if hasB x.rights rights = false ∨ othB x.badge badge = true then 7 else 0
/-- what Derive makes -/
def drvW (x : Wr) (id rights badge : Int) : Wr := ⟨id, x.thing, rights, if x.badge = 0 then badge else x.badge, x.id⟩
/-- is a number among these? -/
def inB (zs : List Int) (n : Int) : Bool := zs.contains n
theorem WrsTake {w : World} {b o : Nat} {l : List Wr} (hb : b < w.heap.size) (hw : ∀ j x, l[j]? = some x → WrAt w b (o + j * 5) x) (k : Nat) : WrsAt w (some ⟨b, o, none⟩) (l.take k) :=
  .inr ⟨b, o, rfl, hb, fun j x hx => hw j x (by rw [List.getElem?_take] at hx; split at hx; exact hx; cases hx)⟩
theorem new1 (w : World) (t : TypeId) (x : Value) : ∀ j u, [x][j]? = some u → (w.alloc (.cells #[x] t)).cell? ((⟨w.heap.size, 0, none⟩ : Addr).add j) = some u := by
  intro j u hj
  match j, hj with
  | 0, hj => simp at hj; subst hj; simp [Addr.add]
  | j + 1, hj => simp at hj
theorem one1 (a : Int) : ∀ u ∈ [Value.int .i64 a], u.oneCell' = true := by
  intro u hu
  simp at hu
  subst hu; rfl
theorem row1_snoc {w : World} {base : Nat} {e : TypeId} {v : Value} {l : List Int} {x : Int} (h : w.ownsRow base e 1 v (l.length + 1) (l.flatMap icells ++ [.int .i64 x])) : w.ownsRow base e 1 v (l ++ [x]).length ((l ++ [x]).flatMap icells) := by
  simpa [icells] using h
/-- two writs: one in a block of its own, one in the midst of a row -/
@[reducible] def SX (bx b o : Nat) (x y : Wr) (w' : World) : Prop := w'.cell? ⟨bx, 0, none⟩ = some (.int .i64 x.id) ∧ w'.cell? ⟨bx, 1, none⟩ = some (.int .i64 x.thing) ∧ w'.cell? ⟨bx, 2, none⟩ = some (.int .i64 x.rights) ∧ w'.cell? ⟨bx, 3, none⟩ = some (.int .i64 x.badge) ∧ w'.cell? ⟨bx, 4, none⟩ = some (.int .i64 x.frm) ∧ w'.cell? ⟨b, o, none⟩ = some (.int .i64 y.id) ∧ w'.cell? ⟨b, o + 1, none⟩ = some (.int .i64 y.thing) ∧ w'.cell? ⟨b, o + 2, none⟩ = some (.int .i64 y.rights) ∧ w'.cell? ⟨b, o + 3, none⟩ = some (.int .i64 y.badge) ∧ w'.cell? ⟨b, o + 4, none⟩ = some (.int .i64 y.frm) ∧ bx < w'.heap.size ∧ b < w'.heap.size
theorem SX_mk {bx b o : Nat} {x y : Wr} {w' : World} (hx : WrAt w' bx 0 x) (hy : WrAt w' b o y) (h1 : bx < w'.heap.size) (h2 : b < w'.heap.size) : SX bx b o x y w' := by
  obtain ⟨p1, p2, p3, p4, p5⟩ := hx
  obtain ⟨q1, q2, q3, q4, q5⟩ := hy
  exact ⟨p1, p2, p3, p4, p5, q1, q2, q3, q4, q5, h1, h2⟩
theorem SX_to {bx b o : Nat} {x y : Wr} {w' : World} (h : SX bx b o x y w') : WrAt w' bx 0 x ∧ WrAt w' b o y := by
  obtain ⟨p1, p2, p3, p4, p5, q1, q2, q3, q4, q5, _, _⟩ := h
  exact ⟨⟨p1, p2, p3, p4, p5⟩, ⟨q1, q2, q3, q4, q5⟩⟩
theorem SX_below {bx b o : Nat} {x y : Wr} {v w2 : World} (hb : Below v.heap.size v w2) (h : SX bx b o x y v) : SX bx b o x y w2 := by
  have h' := SX_to h
  obtain ⟨_, _, _, _, _, _, _, _, _, _, h1, h2⟩ := h
  exact SX_mk (h'.1.below hb h1) (h'.2.below hb h2) (Nat.lt_of_lt_of_le h1 hb.size) (Nat.lt_of_lt_of_le h2 hb.size)
theorem SX_alloc {bx b o : Nat} {x y : Wr} {v : World} (ob : Obj) (h : SX bx b o x y v) : SX bx b o x y (v.alloc ob) := SX_below ((Below.refl _ _).alloc (Nat.le_refl _) ob) h
theorem SX_set {bx b o : Nat} {x y : Wr} {v : World} (p : Addr) (u : Value) (h1 : p.block ≠ bx) (h2 : p.block ≠ b) (h : SX bx b o x y v) : SX bx b o x y (v.setCell p u) := by
  have hk : ∀ b' o', b' ≠ p.block → (v.setCell p u).cell? ⟨b', o', none⟩ = v.cell? ⟨b', o', none⟩ := fun b' o' hne => World.cell?_of_block (w := v) (Below.heap_setCell v p u b' hne)
  have hs : (v.setCell p u).heap.size = v.heap.size := by simp [World.setCell]
  obtain ⟨p1, p2, p3, p4, p5, q1, q2, q3, q4, q5, r1, r2⟩ := h
  exact ⟨by rw [hk _ _ h1.symm]; exact p1, by rw [hk _ _ h1.symm]; exact p2, by rw [hk _ _ h1.symm]; exact p3, by rw [hk _ _ h1.symm]; exact p4, by rw [hk _ _ h1.symm]; exact p5, by rw [hk _ _ h2.symm]; exact q1, by rw [hk _ _ h2.symm]; exact q2, by rw [hk _ _ h2.symm]; exact q3, by rw [hk _ _ h2.symm]; exact q4, by rw [hk _ _ h2.symm]; exact q5, by rw [hs]; exact r1, by rw [hs]; exact r2⟩
theorem findFrom_get (id : Int) : ∀ (l : List Wr) (k j : Nat), findFrom id l k = (j : Int) → ∃ y, k ≤ j ∧ l[j - k]? = some y ∧ y.id = id
  | [], k, j, h => by simp [findFrom] at h
  | x :: r, k, j, h => by
    unfold findFrom at h
    split at h
    · rename_i e
      have : k = j := by omega
      subst this
      exact ⟨x, Nat.le_refl _, by simp, e⟩
    · obtain ⟨y, h1, h2, h3⟩ := findFrom_get id r (k + 1) j h
      refine ⟨y, by omega, ?_, h3⟩
      rw [show j - k = (j - (k + 1)) + 1 by omega, List.getElem?_cons_succ]; exact h2
theorem find_get {l : List Wr} {id : Int} {j : Nat} (h : find l id = (j : Int)) : ∃ y, l[j]? = some y ∧ y.id = id := by
  obtain ⟨y, _, h2, h3⟩ := findFrom_get id l 0 j h
  exact ⟨y, by simpa using h2, h3⟩
/-- the number of the error of a writ behind those ahead; 0: none (C3) -/
def cfOf (x y : Wr) : Int := if drvCode y x.rights x.badge ≠ 0 then drvCode y x.rights x.badge else if y.thing = x.thing ∧ (y.badge = 0 ∨ y.badge = x.badge) then 0 else 7
def cfCode (l : List Wr) (x : Wr) : Int :=
  if x.frm = 0 then 0 else if find l x.frm < 0 then 5 else match l[(find l x.frm).toNat]? with
    | none => 5
    | some y => cfOf x y
theorem cfCode_at {l : List Wr} {x y : Wr} {j : Nat} (hf : ¬ x.frm = 0) (hn : find l x.frm = (j : Int)) (hy : l[j]? = some y) : cfCode l x = cfOf x y := by
  unfold cfCode
  rw [if_neg hf, if_neg (by omega), hn]
  simp [hy]
instance (x : Wr) : Decidable (wrOk x) := by unfold wrOk; infer_instance
/-- does a writ not rise above the one ahead? -/
def shapeBad (l : List Wr) (k : Nat) (x : Wr) : Bool := match k with
  | 0 => false
  | j + 1 => match l[j]? with
    | none => false
    | some y => decide (x.id ≤ y.id)
theorem shapeBad_succ {l : List Wr} {j : Nat} {x y : Wr} (h : l[j]? = some y) : shapeBad l (j + 1) x = decide (x.id ≤ y.id) := by simp [shapeBad, h]
def ckCode (l : List Wr) (k : Nat) (x : Wr) : Int := if ¬ wrOk x then 1 else if shapeBad l k x = true then 3 else cfCode (l.take k) x
def chkFrom (l : List Wr) : Nat → Nat → Int
  | 0, _ => 0
  | n + 1, k => match l[k]? with
    | none => 0
    | some x => if ckCode l k x ≠ 0 then ckCode l k x else chkFrom l n (k + 1)
/-- the number of tree.Check's error, 0: none (C3) -/
def chk (l : List Wr) : Int := chkFrom l l.length 0
def ErrIs (t : TypeId) (v : Value) (n : Int) : Prop := n = 0 ∧ v = .nilIface ∨ ¬ n = 0 ∧ v = .iface t (.int .i64 n)
theorem chk_next {l : List Wr} {k : Nat} {x : Wr} (hx : l[k]? = some x) (h : chkFrom l (l.length - k) k = chk l) (h0 : ckCode l k x = 0) : chkFrom l (l.length - (k + 1)) (k + 1) = chk l := by
  have hlt : k < l.length := (List.getElem?_eq_some_iff.1 hx).1
  rw [show l.length - k = (l.length - (k + 1)) + 1 by omega] at h
  unfold chkFrom at h
  simpa [hx, h0] using h
theorem chk_stop {t : TypeId} {l : List Wr} {k : Nat} {x : Wr} {n : Int} (hx : l[k]? = some x) (h : chkFrom l (l.length - k) k = chk l) (h0 : ckCode l k x = n) (hn : ¬ n = 0) : ErrIs t (.iface t (.int .i64 n)) (chk l) := by
  have hlt : k < l.length := (List.getElem?_eq_some_iff.1 hx).1
  rw [show l.length - k = (l.length - (k + 1)) + 1 by omega] at h
  unfold chkFrom at h
  have : n = chk l := by simpa [hx, h0, hn] using h
  rw [← this]
  exact .inr ⟨hn, rfl⟩
theorem chk_end {l : List Wr} {k : Nat} (h : chkFrom l (l.length - k) k = chk l) (hk : ¬ k < l.length) : chk l = 0 := by
  rw [show l.length - k = 0 by omega] at h
  exact h.symm
theorem ckCode_no {l : List Wr} {k : Nat} {x : Wr} (h : ¬ wrOk x) : ckCode l k x = 1 := by unfold ckCode; rw [if_pos h]
theorem ckCode_shape {l : List Wr} {k : Nat} {x : Wr} (h : wrOk x) (hs : shapeBad l k x = true) : ckCode l k x = 3 := by unfold ckCode; rw [if_neg (by simpa using h), if_pos hs]
theorem ckCode_cf {l : List Wr} {k : Nat} {x : Wr} {n : Int} (_ : l[k]? = some x) (h : wrOk x) (hs : shapeBad l k x = false) (hc : cfCode (l.take k) x = n) : ckCode l k x = n := by unfold ckCode; rw [if_neg (by simpa using h), if_neg (by simp [hs])]; exact hc
theorem ckCode_cfn {l : List Wr} {k : Nat} {x : Wr} (_ : l[k]? = some x) (h : wrOk x) (hs : shapeBad l k x = false) : ckCode l k x = cfCode (l.take k) x := by unfold ckCode; rw [if_neg (by simpa using h), if_neg (by simp [hs])]
/-- a writ in a block of its own -/
@[reducible] def SY (bx : Nat) (x : Wr) (w' : World) : Prop := w'.cell? ⟨bx, 0, none⟩ = some (.int .i64 x.id) ∧ w'.cell? ⟨bx, 1, none⟩ = some (.int .i64 x.thing) ∧ w'.cell? ⟨bx, 2, none⟩ = some (.int .i64 x.rights) ∧ w'.cell? ⟨bx, 3, none⟩ = some (.int .i64 x.badge) ∧ w'.cell? ⟨bx, 4, none⟩ = some (.int .i64 x.frm) ∧ bx < w'.heap.size
theorem SY_below {bx : Nat} {x : Wr} {v w2 : World} (hb : Below v.heap.size v w2) (h : SY bx x v) : SY bx x w2 := by
  obtain ⟨p1, p2, p3, p4, p5, h1⟩ := h
  obtain ⟨q1, q2, q3, q4, q5⟩ := WrAt.below hb (x := x) h1 (show WrAt v bx 0 x from ⟨p1, p2, p3, p4, p5⟩)
  exact ⟨q1, q2, q3, q4, q5, Nat.lt_of_lt_of_le h1 hb.size⟩
/-- the cells of a writ -/
def wcells (x : Wr) : List Value := [.int .i64 x.id, .int .i64 x.thing, .int .i64 x.rights, .int .i64 x.badge, .int .i64 x.frm]
theorem new5 (w : World) (t : TypeId) (x y z u v : Value) : ∀ j q, [x, y, z, u, v][j]? = some q → (w.alloc (.cells #[x, y, z, u, v] t)).cell? ((⟨w.heap.size, 0, none⟩ : Addr).add j) = some q := by
  intro j q hj
  match j, hj with
  | 0, hj => simp at hj; subst hj; simp [Addr.add]
  | 1, hj => simp at hj; subst hj; simp [Addr.add]
  | 2, hj => simp at hj; subst hj; simp [Addr.add]
  | 3, hj => simp at hj; subst hj; simp [Addr.add]
  | 4, hj => simp at hj; subst hj; simp [Addr.add]
  | j + 5, hj => simp at hj
theorem new5b (w : World) (ob : Obj) (t : TypeId) (x y z u v : Value) : ∀ j q, [x, y, z, u, v][j]? = some q → ((w.alloc ob).alloc (.cells #[x, y, z, u, v] t)).cell? ((⟨w.heap.size + 1, 0, none⟩ : Addr).add j) = some q := by
  intro j q hj
  have := new5 (w.alloc ob) t x y z u v j q hj
  rwa [show (w.alloc ob).heap.size = w.heap.size + 1 by simp] at this
theorem one5 (a b c d e : Int) : ∀ u ∈ [Value.int .i64 a, .int .i64 b, .int .i64 c, .int .i64 d, .int .i64 e], u.oneCell' = true := by
  intro u hu
  simp at hu
  rcases hu with rfl | rfl | rfl | rfl | rfl <;> rfl
theorem app5_below {w0 w1 w' : World} {e : TypeId} {size n : Nat} {v : Value} {xs : List Value} {ob ob' : Obj} (bl : Below w0.heap.size w0 w1) (hown : w1.ownsRow w0.heap.size e size v n xs) (hg : ((w1.alloc ob).alloc ob').grownBy w' v.ownBlock) : Below w0.heap.size w0 w' :=
  ((bl.alloc bl.size ob).alloc (Nat.le_trans bl.size (by simp)) ob').grown hg (Nat.le_trans bl.size (by simp; omega)) (fun k hk => (hown.lt k hk).1)
theorem row5_snoc {w : World} {base : Nat} {e : TypeId} {v : Value} {l : List Wr} {x : Wr} (h : w.ownsRow base e 5 v (l.length + 1) (l.flatMap wcells ++ [.int .i64 x.id, .int .i64 x.thing, .int .i64 x.rights, .int .i64 x.badge, .int .i64 x.frm])) : w.ownsRow base e 5 v (l ++ [x]).length ((l ++ [x]).flatMap wcells) := by
  simpa [wcells] using h
/-- the number that stands in for a writ's own (C2) -/
def woFrom (l : List Wr) (id : Int) : Int := if find l id < 0 then id else match l[(find l id).toNat]? with
  | none => id
  | some y => y.frm
def woStep (id f : Int) (x : Wr) : List Wr := if x.id = id then [] else if x.frm = id then [⟨x.id, x.thing, x.rights, x.badge, f⟩] else [⟨x.id, x.thing, x.rights, x.badge, x.frm⟩]
/-- those that are left without a writ (C2) -/
def withoutL (l : List Wr) (id : Int) : List Wr := l.flatMap (woStep id (woFrom l id))
theorem woStep_le (id f : Int) (x : Wr) : (woStep id f x).length ≤ 1 := by unfold woStep; split <;> (try split) <;> simp
theorem wo_len (id f : Int) : ∀ l : List Wr, (l.flatMap (woStep id f)).length ≤ l.length
  | [] => by simp
  | x :: r => by
    have h1 := wo_len id f r
    have h2 := woStep_le id f x
    rw [List.flatMap_cons, List.length_append, List.length_cons]; omega
theorem wo_same {l : List Wr} {k : Nat} {x : Wr} {id f : Int} (hx : l[k]? = some x) (h : woStep id f x = []) : (l.take (k + 1)).flatMap (woStep id f) = (l.take k).flatMap (woStep id f) := by
  rw [List.take_add_one, hx]; simp [h]
theorem wo_snoc {l : List Wr} {k : Nat} {x y : Wr} {id f : Int} (hx : l[k]? = some x) (h : woStep id f x = [y]) : (l.take (k + 1)).flatMap (woStep id f) = (l.take k).flatMap (woStep id f) ++ [y] := by
  rw [List.take_add_one, hx]; simp [h]
section
open Go.Maps
/-- the set of these numbers -/
def Sd (out : List Int) : DataW Unit := setOf (.agg []) (out.map (Lit.int .i64))
theorem Sd_snoc (out : List Int) (x : Int) : Sd (out ++ [x]) = (Sd out).put (.int .i64 x) (.agg []) := by
  unfold Sd; rw [List.map_append, List.map_singleton, setOf_snoc]
theorem any_i64 (x : Int) : ∀ l : List Int, l.any ((fun y : Lit => y.sameKey (.int .i64 x)) ∘ Lit.int .i64) = l.contains x
  | [] => rfl
  | a :: r => by
    rw [List.any_cons, List.contains_cons, any_i64 x r]
    congr 1
    show decide (IntKind.i64 = IntKind.i64 ∧ a = x) = (x == a)
    by_cases e : a = x
    · subst e; simp
    · have e' : ¬ x = a := fun h => e h.symm
      simp [e, e']
theorem has_Sd (out : List Int) (x : Int) : Maps.has (Sd out) (.int .i64 x) = out.contains x := by
  unfold Sd
  rw [has_setOf _ _ _ (fun y hy => by obtain ⟨_, _, rfl⟩ := List.mem_map.1 hy; trivial), List.any_map]
  exact any_i64 x _
theorem row_neq {w : World} {base : Nat} {e : TypeId} {size : Nat} {v : Value} {n : Nat} {xs : List Value} (h : w.ownsRow base e size v n xs) {b : Nat} (hb : b < base) : some b ≠ v.ownBlock := fun e1 => by
  have := (h.lt b e1.symm).1
  omega
theorem grown_cell {w w' : World} {g b o : Nat} (h : w.grownBy w' (some g)) (hne : g < b) (hlt : b < w.heap.size) : w'.cell? ⟨b, o, none⟩ = w.cell? ⟨b, o, none⟩ :=
  World.cell?_of_block (w := w) (h.block b hlt (by simp; omega))
/-- one is beneath: it was made of the writ itself, or of one that is beneath -/
def bnIs (id : Int) (out : List Int) (x : Wr) : Prop := ¬ x.frm = 0 ∧ (x.frm = id ∨ out.contains x.frm = true)
instance (id : Int) (out : List Int) (x : Wr) : Decidable (bnIs id out x) := by unfold bnIs; infer_instance
def bnStep (id : Int) (out : List Int) (x : Wr) : List Int := if bnIs id out x then out ++ [x.id] else out
/-- those beneath a writ (C1) -/
def beneathL (l : List Wr) (id : Int) : List Int := l.foldl (bnStep id) []
theorem bn_yes {l : List Wr} {k : Nat} {x : Wr} {id : Int} {out : List Int} (hx : l[k]? = some x) (h : (l.take k).foldl (bnStep id) [] = out) (hy : bnIs id out x) : (l.take (k + 1)).foldl (bnStep id) [] = out ++ [x.id] := by
  rw [List.take_add_one, hx, List.foldl_append, h]; simp [bnStep, hy]
theorem bn_no {l : List Wr} {k : Nat} {x : Wr} {id : Int} {out : List Int} (hx : l[k]? = some x) (h : (l.take k).foldl (bnStep id) [] = out) (hy : ¬ bnIs id out x) : (l.take (k + 1)).foldl (bnStep id) [] = out := by
  rw [List.take_add_one, hx, List.foldl_append, h]; simp [bnStep, hy]
end
theorem othB_no {b g : Int} (h : b = 0 ∨ b = g) : othB b g = false := by
  unfold othB
  rw [decide_eq_false_iff_not]
  rintro ⟨h1, h2, h3⟩
  rcases h with h | h
  · exact h2 h
  · exact h3 h.symm
theorem drvCode_zero {x : Wr} {r g : Int} (h : drvCode x r g = 0) : 0 ≤ r ∧ r ≤ 7 ∧ 0 ≤ g ∧ g ≤ 99 ∧ hasB x.rights r = true := by
  unfold drvCode at h
  by_cases h1 : r < 0 ∨ 7 < r ∨ g < 0 ∨ 99 < g
  · rw [if_pos h1] at h; cases h
  · rw [if_neg h1] at h
    by_cases h2 : hasB x.rights r = false ∨ othB x.badge g = true
    · rw [if_pos h2] at h; cases h
    · refine ⟨by omega, by omega, by omega, by omega, ?_⟩
      cases hh : hasB x.rights r with
      | true => rfl
      | false => exact absurd (Or.inl hh) h2
theorem drvCode_of {x : Wr} {r g : Int} (h1 : 0 ≤ r) (h2 : r ≤ 7) (h3 : 0 ≤ g) (h4 : g ≤ 99) (h5 : hasB x.rights r = true) (h6 : othB x.badge g = false) : drvCode x r g = 0 := by
  unfold drvCode
  rw [if_neg (by omega), if_neg (by simp [h5, h6])]
theorem cfOf_zero {x y : Wr} (h : cfOf x y = 0) : (0 ≤ x.rights ∧ x.rights ≤ 7 ∧ 0 ≤ x.badge ∧ x.badge ≤ 99 ∧ hasB y.rights x.rights = true) ∧ y.thing = x.thing ∧ (y.badge = 0 ∨ y.badge = x.badge) := by
  unfold cfOf at h
  by_cases h1 : drvCode y x.rights x.badge = 0
  · rw [if_neg (by simp [h1])] at h
    by_cases h2 : y.thing = x.thing ∧ (y.badge = 0 ∨ y.badge = x.badge)
    · exact ⟨drvCode_zero h1, h2⟩
    · rw [if_neg h2] at h; cases h
  · rw [if_pos h1] at h; exact absurd h h1
theorem cfOf_of {x y : Wr} (h1 : 0 ≤ x.rights ∧ x.rights ≤ 7 ∧ 0 ≤ x.badge ∧ x.badge ≤ 99 ∧ hasB y.rights x.rights = true) (h2 : y.thing = x.thing) (h3 : y.badge = 0 ∨ y.badge = x.badge) : cfOf x y = 0 := by
  obtain ⟨a, b, c, d, e⟩ := h1
  unfold cfOf
  rw [if_neg (by simp [drvCode_of a b c d e (othB_no h3)]), if_pos ⟨h2, h3⟩]
theorem hasB_trans8 : ∀ a b c : Fin 8, hasB (a.val : Int) (b.val : Int) = true → hasB (b.val : Int) (c.val : Int) = true → hasB (a.val : Int) (c.val : Int) = true := by decide
theorem hasB_trans {a b c : Int} (ha : 0 ≤ a ∧ a ≤ 7) (hb : 0 ≤ b ∧ b ≤ 7) (hc : 0 ≤ c ∧ c ≤ 7) (h1 : hasB a b = true) (h2 : hasB b c = true) : hasB a c = true := by
  have := hasB_trans8 ⟨a.toNat, by omega⟩ ⟨b.toNat, by omega⟩ ⟨c.toNat, by omega⟩
  simp only [Int.toNat_of_nonneg ha.1, Int.toNat_of_nonneg hb.1, Int.toNat_of_nonneg hc.1] at this
  exact this h1 h2
theorem cfOf_trans {x p q : Wr} (hp : wrOk p) (hq : wrOk q) (h1 : cfOf x p = 0) (h2 : cfOf p q = 0) : cfOf x q = 0 := by
  obtain ⟨⟨a1, a2, a3, a4, a5⟩, a6, a7⟩ := cfOf_zero h1
  obtain ⟨⟨b1, b2, b3, b4, b5⟩, b6, b7⟩ := cfOf_zero h2
  obtain ⟨-, -, -, -, -, -, -, -, q9, q10⟩ := hq
  refine cfOf_of ⟨a1, a2, a3, a4, hasB_trans ⟨q9, q10⟩ ⟨b1, b2⟩ ⟨a1, a2⟩ b5 a5⟩ (b6.trans a6) ?_
  rcases b7 with h | h
  · exact .inl h
  · rcases a7 with h' | h'
    · exact .inl (h.trans h')
    · exact .inr (h.trans h')
/-- writs that are right (C3) -/
def GoodW (l : List Wr) : Prop := (∀ x ∈ l, wrOk x) ∧ l.Pairwise (fun x y => x.id < y.id) ∧ ∀ x ∈ l, x.frm = 0 ∨ ∃ y ∈ l, y.id = x.frm ∧ cfOf x y = 0
theorem uniqW {l : List Wr} (h : l.Pairwise (fun x y => x.id < y.id)) {x y : Wr} (hx : x ∈ l) (hy : y ∈ l) (e : x.id = y.id) : x = y := by
  obtain ⟨i, hi, rfl⟩ := List.getElem_of_mem hx
  obtain ⟨j, hj, rfl⟩ := List.getElem_of_mem hy
  rw [List.pairwise_iff_getElem] at h
  rcases Nat.lt_trichotomy i j with hlt | heq | hgt
  · have := h i j hi hj hlt; omega
  · subst heq; rfl
  · have := h j i hj hi hgt; omega
theorem findFrom_mem (id : Int) : ∀ (l : List Wr) (k : Nat) (y : Wr), y ∈ l → y.id = id → 0 ≤ findFrom id l k
  | [], k, y, h, _ => by cases h
  | x :: r, k, y, h, e => by
    unfold findFrom
    split
    · omega
    · rename_i hne
      rcases List.mem_cons.1 h with rfl | h
      · exact absurd e hne
      · exact findFrom_mem id r (k + 1) y h e
theorem find_mem {l : List Wr} {id : Int} {y : Wr} (h : y ∈ l) (e : y.id = id) : ∃ j : Nat, find l id = (j : Int) :=
  ⟨(find l id).toNat, by have := findFrom_mem id l 0 y h e; unfold find; omega⟩
theorem find_none {l : List Wr} {id : Int} (h : ∀ y ∈ l, ¬ y.id = id) : find l id = -1 := by
  have hb := find_bd l id
  by_cases hn : find l id < 0
  · omega
  · obtain ⟨y, hy, e⟩ := find_get (j := (find l id).toNat) (by omega : find l id = _)
    exact absurd e (h y (List.mem_of_getElem? hy))
theorem chkFrom_zero (l : List Wr) : ∀ (n k : Nat), chkFrom l n k = 0 → ∀ j x, k ≤ j → j < k + n → l[j]? = some x → ckCode l j x = 0
  | 0, k, _, j, x, h1, h2, _ => by omega
  | n + 1, k, h, j, x, h1, h2, hx => by
    unfold chkFrom at h
    cases hk : l[k]? with
    | none =>
      have : l.length ≤ k := List.getElem?_eq_none_iff.1 hk
      have : j < l.length := (List.getElem?_eq_some_iff.1 hx).1
      omega
    | some y =>
      rw [hk] at h
      by_cases h0 : ckCode l k y = 0
      · by_cases e : j = k
        · subst e; rw [hk] at hx; cases hx; exact h0
        · exact chkFrom_zero l n (k + 1) (by simpa [h0] using h) j x (by omega) (by omega) hx
      · simp [h0] at h
theorem chkFrom_of (l : List Wr) (h : ∀ j x, l[j]? = some x → ckCode l j x = 0) : ∀ (n k : Nat), chkFrom l n k = 0
  | 0, _ => rfl
  | n + 1, k => by
    unfold chkFrom
    cases hk : l[k]? with
    | none => rfl
    | some y => simp [h k y hk, chkFrom_of l h n (k + 1)]
theorem ckCode_zero {l : List Wr} {k : Nat} {x : Wr} (h : ckCode l k x = 0) : wrOk x ∧ shapeBad l k x = false ∧ cfCode (l.take k) x = 0 := by
  unfold ckCode at h
  by_cases h1 : wrOk x
  · rw [if_neg (by simpa using h1)] at h
    cases h2 : shapeBad l k x with
    | true => rw [h2, if_pos rfl] at h; cases h
    | false => rw [h2, if_neg (by simp)] at h; exact ⟨h1, rfl, h⟩
  · rw [if_pos h1] at h; cases h
theorem good_of_chk {l : List Wr} (h : chk l = 0) : GoodW l := by
  have H : ∀ k x, l[k]? = some x → wrOk x ∧ shapeBad l k x = false ∧ cfCode (l.take k) x = 0 := fun k x hx =>
    ckCode_zero (chkFrom_zero l l.length 0 h k x (Nat.zero_le _) (by have := (List.getElem?_eq_some_iff.1 hx).1; omega) hx)
  refine ⟨fun x hx => ?_, ?_, fun x hx => ?_⟩
  · obtain ⟨k, hk⟩ := List.mem_iff_getElem?.1 hx
    exact (H k x hk).1
  · rw [List.pairwise_iff_getElem]
    intro i j hi hj hij
    induction j with
    | zero => omega
    | succ j ih =>
      have hj' : j < l.length := by omega
      have h1 : l[j]? = some l[j] := List.getElem?_eq_getElem hj'
      have h2 : l[j + 1]? = some l[j + 1] := List.getElem?_eq_getElem hj
      have h3 := (H (j + 1) _ h2).2.1
      rw [shapeBad_succ h1] at h3
      have h4 : ¬ l[j + 1].id ≤ l[j].id := of_decide_eq_false h3
      by_cases e : i = j
      · subst e; omega
      · have := ih hj' (by omega); omega
  · obtain ⟨k, hk⟩ := List.mem_iff_getElem?.1 hx
    have h3 := (H k x hk).2.2
    by_cases hf : x.frm = 0
    · exact .inl hf
    · refine .inr ?_
      have hb := find_bd (l.take k) x.frm
      by_cases hn : find (l.take k) x.frm < 0
      · unfold cfCode at h3; rw [if_neg hf, if_pos hn] at h3; cases h3
      · obtain ⟨j, hj⟩ : ∃ j : Nat, find (l.take k) x.frm = (j : Int) := ⟨_, (Int.toNat_of_nonneg (by omega)).symm⟩
        obtain ⟨y, hy, he⟩ := find_get hj
        rw [cfCode_at hf hj hy] at h3
        exact ⟨y, List.mem_of_mem_take (List.mem_of_getElem? hy), he, h3⟩
theorem take_of_lt {l : List Wr} (hp : l.Pairwise (fun x y => x.id < y.id)) {k : Nat} {x y : Wr} (hx : l[k]? = some x) (hy : y ∈ l) (hlt : y.id < x.id) : y ∈ l.take k := by
  obtain ⟨i, hi⟩ := List.mem_iff_getElem?.1 hy
  obtain ⟨hi1, hi2⟩ := List.getElem?_eq_some_iff.1 hi
  obtain ⟨hk1, hk2⟩ := List.getElem?_eq_some_iff.1 hx
  rw [List.pairwise_iff_getElem] at hp
  rcases Nat.lt_trichotomy i k with h | h | h
  · rw [List.mem_iff_getElem?]
    exact ⟨i, by rw [List.getElem?_take, if_pos h]; exact hi⟩
  · subst h; rw [hi] at hx; cases hx; omega
  · have := hp k i hk1 hi1 h; rw [hk2, hi2] at this; omega
theorem find_take {l : List Wr} (hg : GoodW l) {k : Nat} {x : Wr} (hx : l[k]? = some x) (hf : ¬ x.frm = 0) : ∃ (j : Nat) (y : Wr), find (l.take k) x.frm = (j : Int) ∧ j < k ∧ l[j]? = some y ∧ y.id = x.frm ∧ cfOf x y = 0 := by
  have hxl : x ∈ l := List.mem_of_getElem? hx
  obtain ⟨y, hy, he, hc⟩ := (hg.2.2 x hxl).resolve_left hf
  have hlt : x.frm < x.id := (hg.1 x hxl).2.2.2.2.2.2.2.1
  have ht := take_of_lt hg.2.1 hx hy (by omega)
  obtain ⟨j, hj⟩ := find_mem ht he
  obtain ⟨z, hz, hze⟩ := find_get hj
  have hjk : j < k := by have := (List.getElem?_eq_some_iff.1 hz).1; rw [List.length_take] at this; omega
  have hz' : l[j]? = some z := by rw [List.getElem?_take, if_pos hjk] at hz; exact hz
  have : z = y := uniqW hg.2.1 (List.mem_of_getElem? hz') hy (by rw [hze, he])
  subst this
  exact ⟨j, z, hj, hjk, hz', hze, hc⟩
theorem chk_of_good {l : List Wr} (hg : GoodW l) : chk l = 0 := by
  refine chkFrom_of l (fun k x hx => ?_) _ _
  have hxl : x ∈ l := List.mem_of_getElem? hx
  refine ckCode_cf hx (hg.1 x hxl) ?_ ?_
  · cases k with
    | zero => rfl
    | succ j =>
      have hk := (List.getElem?_eq_some_iff.1 hx)
      have hj : j < l.length := by have := hk.1; omega
      rw [shapeBad_succ (List.getElem?_eq_getElem hj)]
      have := (List.pairwise_iff_getElem.1 hg.2.1) j (j + 1) hj hk.1 (by omega)
      rw [hk.2] at this
      exact decide_eq_false (by omega)
  · by_cases hf : x.frm = 0
    · unfold cfCode; rw [if_pos hf]
    · obtain ⟨j, y, h1, h2, h3, h4, h5⟩ := find_take hg hx hf
      rw [cfCode_at hf h1 (by rw [List.getElem?_take, if_pos h2]; exact h3)]
      exact h5
/-- what is above a writ, without places -/
inductive Abv (l : List Wr) : Wr → List Int → Prop
  | nil {x : Wr} : x.frm = 0 → Abv l x []
  | cons {x y : Wr} {L : List Int} : ¬ x.frm = 0 → y ∈ l → y.id = x.frm → Abv l y L → Abv l x (x.frm :: L)
theorem bn_sub (a : Int) : ∀ (l : List Wr) (B : List Int) (e : Int), e ∈ B → e ∈ l.foldl (bnStep a) B
  | [], B, e, h => h
  | x :: r, B, e, h => by
    refine bn_sub a r _ e ?_
    unfold bnStep
    split
    · exact List.mem_append_left _ h
    · exact h
theorem bn_from (a : Int) : ∀ (l : List Wr) (B : List Int) (e : Int), e ∈ l.foldl (bnStep a) B → e ∈ B ∨ ∃ x ∈ l, x.id = e
  | [], B, e, h => .inl h
  | x :: r, B, e, h => by
    rcases bn_from a r _ e h with h | ⟨y, hy, he⟩
    · unfold bnStep at h
      split at h
      · rcases List.mem_append.1 h with h | h
        · exact .inl h
        · exact .inr ⟨x, List.mem_cons_self, (List.mem_singleton.1 h).symm⟩
      · exact .inl h
    · exact .inr ⟨y, List.mem_cons_of_mem _ hy, he⟩
theorem bn_iff {l : List Wr} (hg : GoodW l) (a : Int) {x : Wr} (hx : x ∈ l) : x.id ∈ beneathL l a ↔ ¬ x.frm = 0 ∧ (x.frm = a ∨ x.frm ∈ beneathL l a) := by
  obtain ⟨l1, l2, rfl⟩ := List.append_of_mem hx
  have hp := hg.2.1
  rw [List.pairwise_append] at hp
  obtain ⟨_, hp2, hp3⟩ := hp
  have hlt : x.frm < x.id := (hg.1 x hx).2.2.2.2.2.2.2.1
  have h1 : ∀ y ∈ l1, y.id < x.id := fun y hy => hp3 y hy x List.mem_cons_self
  have h2 : ∀ y ∈ l2, x.id < y.id := fun y hy => (List.pairwise_cons.1 hp2).1 y hy
  have hB : beneathL (l1 ++ x :: l2) a = l2.foldl (bnStep a) (bnStep a (l1.foldl (bnStep a) []) x) := by unfold beneathL; rw [List.foldl_append]; rfl
  generalize hB1 : l1.foldl (bnStep a) [] = B1 at hB
  have hB1m : ∀ e ∈ B1, e < x.id := by
    intro e he
    rw [← hB1] at he
    rcases bn_from a l1 [] e he with h | ⟨y, hy, rfl⟩
    · cases h
    · exact h1 y hy
  have key : ∀ e, e < x.id → (e ∈ beneathL (l1 ++ x :: l2) a ↔ e ∈ B1) := by
    intro e he
    rw [hB]
    constructor
    · intro h
      rcases bn_from a l2 _ e h with h | ⟨y, hy, rfl⟩
      · unfold bnStep at h
        split at h
        · rcases List.mem_append.1 h with h | h
          · exact h
          · have := List.mem_singleton.1 h; omega
        · exact h
      · have := h2 y hy; omega
    · intro h
      refine bn_sub a l2 _ e ?_
      unfold bnStep
      split
      · exact List.mem_append_left _ h
      · exact h
  have self : x.id ∈ beneathL (l1 ++ x :: l2) a ↔ bnIs a B1 x := by
    rw [hB]
    constructor
    · intro h
      rcases bn_from a l2 _ x.id h with h | ⟨y, hy, he⟩
      · unfold bnStep at h
        split at h
        · assumption
        · have := hB1m _ h; omega
      · have := h2 y hy; omega
    · intro h
      refine bn_sub a l2 _ x.id ?_
      unfold bnStep
      rw [if_pos h]
      simp
  rw [self, key _ hlt]
  unfold bnIs
  simp
def woG (id f : Int) (x : Wr) : Wr := if x.frm = id then ⟨x.id, x.thing, x.rights, x.badge, f⟩ else x
theorem wo_mem {l : List Wr} {id f : Int} {z : Wr} : z ∈ l.flatMap (woStep id f) ↔ ∃ x ∈ l, ¬ x.id = id ∧ z = woG id f x := by
  rw [List.mem_flatMap]
  constructor
  · rintro ⟨x, hx, hz⟩
    unfold woStep at hz
    split at hz
    · cases hz
    · rename_i h1
      split at hz
      · rename_i h2
        exact ⟨x, hx, h1, by rw [List.mem_singleton.1 hz, woG, if_pos h2]⟩
      · rename_i h2
        exact ⟨x, hx, h1, by rw [List.mem_singleton.1 hz, woG, if_neg h2]⟩
  · rintro ⟨x, hx, h1, rfl⟩
    refine ⟨x, hx, ?_⟩
    unfold woStep woG
    rw [if_neg h1]
    split <;> simp
theorem woG_id (id f : Int) (x : Wr) : (woG id f x).id = x.id := by unfold woG; split <;> rfl
theorem woG_cf (id f g : Int) (x y : Wr) (id' : Int) : cfOf (woG id f x) (woG id' g y) = cfOf x y := by
  unfold woG
  split <;> split <;> rfl
theorem wo_pair {id f : Int} : ∀ {l : List Wr}, l.Pairwise (fun x y => x.id < y.id) → (l.flatMap (woStep id f)).Pairwise (fun x y => x.id < y.id)
  | [], _ => by simp
  | x :: r, h => by
    rw [List.pairwise_cons] at h
    rw [List.flatMap_cons, List.pairwise_append]
    refine ⟨?_, wo_pair h.2, ?_⟩
    · have := woStep_le id f x
      match hh : woStep id f x, this with
      | [], _ => simp
      | [y], _ => simp
      | _ :: _ :: _, h => simp at h
    · intro a ha b hb
      obtain ⟨x', hx', _, rfl⟩ := (wo_mem (l := [x])).1 (by simpa using ha)
      obtain ⟨y', hy', _, rfl⟩ := wo_mem.1 hb
      rw [woG_id, woG_id, List.mem_singleton.1 hx']
      exact h.1 y' hy'
/-- what is known of the number that stands in -/
theorem wo_from {l : List Wr} (hg : GoodW l) (id : Int) : (∃ p ∈ l, p.id = id ∧ woFrom l id = p.frm) ∨ ((∀ x ∈ l, ¬ x.id = id) ∧ woFrom l id = id) := by
  by_cases hn : find l id < 0
  · refine .inr ⟨fun x hx e => ?_, by unfold woFrom; rw [if_pos hn]⟩
    obtain ⟨j, hj⟩ := find_mem hx e
    omega
  · obtain ⟨j, hj⟩ : ∃ j : Nat, find l id = (j : Int) := ⟨_, (Int.toNat_of_nonneg (by omega)).symm⟩
    obtain ⟨p, hp, he⟩ := find_get hj
    exact .inl ⟨p, List.mem_of_getElem? hp, he, by unfold woFrom; rw [if_neg hn, hj]; simp [hp]⟩
theorem wo_good {l : List Wr} (hg : GoodW l) (id : Int) : GoodW (withoutL l id) := by
  unfold withoutL
  have hw := wo_from hg id
  generalize hf : woFrom l id = f at *
  refine ⟨fun z hz => ?_, wo_pair hg.2.1, fun z hz => ?_⟩
  · obtain ⟨x, hx, hne, rfl⟩ := wo_mem.1 hz
    have hok := hg.1 x hx
    unfold woG
    split
    · rename_i he
      obtain ⟨h1, h2, h3, h4, h5, h6, h7, h8, h9, h10⟩ := hok
      rcases hw with ⟨p, hp, hpe, rfl⟩ | ⟨_, hfe⟩
      · obtain ⟨p1, p2, p3, p4, p5, p6, p7, p8, p9, p10⟩ := hg.1 p hp
        exact ⟨h1, h2, h3, h4, h5, h6, p7, by show p.frm < x.id; omega, h9, h10⟩
      · exact ⟨h1, h2, h3, h4, h5, h6, by show 0 ≤ f; omega, by show f < x.id; omega, h9, h10⟩
    · exact hok
  · obtain ⟨x, hx, hne, rfl⟩ := wo_mem.1 hz
    by_cases he : x.frm = id
    · rcases hw with ⟨p, hp, hpe, hpf⟩ | ⟨hno, hfe⟩
      · have hzf : (woG id f x).frm = f := by unfold woG; rw [if_pos he]
        rw [hzf]
        by_cases hf0 : f = 0
        · exact .inl hf0
        · refine .inr ?_
          have hx0 : ¬ x.frm = 0 := by have := (hg.1 p hp).1; omega
          obtain ⟨y, hy, hye, hyc⟩ := (hg.2.2 x hx).resolve_left hx0
          have : y = p := uniqW hg.2.1 hy hp (by rw [hye, he, hpe])
          subst this
          obtain ⟨q, hq, hqe, hqc⟩ := (hg.2.2 y hy).resolve_left (by rw [← hpf]; exact hf0)
          have hqn : ¬ q.id = id := by have := (hg.1 y hy).2.2.2.2.2.2.2.1; omega
          refine ⟨woG id f q, wo_mem.2 ⟨q, hq, hqn, rfl⟩, by rw [woG_id, hqe, hpf], ?_⟩
          rw [woG_cf]
          exact cfOf_trans (hg.1 y hy) (hg.1 q hq) hyc hqc
      · have hzf : (woG id f x).frm = x.frm := by unfold woG; rw [if_pos he]; show f = x.frm; rw [hfe, he]
        rw [hzf]
        rcases hg.2.2 x hx with h0 | ⟨y, hy, hye, _⟩
        · exact .inl h0
        · exact absurd (hye.trans he) (hno y hy)
    · have hzx : woG id f x = x := by unfold woG; rw [if_neg he]
      rw [hzx]
      rcases hg.2.2 x hx with h0 | ⟨y, hy, hye, hyc⟩
      · exact .inl h0
      · have hyn : ¬ y.id = id := by rw [hye]; exact he
        refine .inr ⟨woG id f y, wo_mem.2 ⟨y, hy, hyn, rfl⟩, by rw [woG_id, hye], ?_⟩
        have := woG_cf id f f x y id
        rw [hzx] at this
        rw [this]; exact hyc
theorem bnLen (id : Int) : ∀ (l : List Wr) (B : List Int), (l.foldl (bnStep id) B).length ≤ B.length + l.length
  | [], B => by simp
  | x :: r, B => by
    have := bnLen id r (bnStep id B x)
    have h2 : (bnStep id B x).length ≤ B.length + 1 := by unfold bnStep; split <;> simp
    simp only [List.foldl_cons, List.length_cons]; omega
theorem beneathLen (l : List Wr) (id : Int) : (beneathL l id).length ≤ l.length := by have := bnLen id l []; simpa [beneathL] using this
theorem withoutLen (l : List Wr) (id : Int) : (withoutL l id).length ≤ l.length := wo_len _ _ l
theorem getD_at {A : List Int} {j : Nat} (h : j < A.length) : A.getD j 0 = A[j] := by simp [List.getD, h]
/-- may a place be? (D1) -/
def plOk (h s : Int) : Prop := 1 ≤ h ∧ h ≤ 4 ∧ 0 ≤ s ∧ s ≤ 5
/-- the order in which places rise -/
def befB (a b c d : Int) : Bool := if a = c then decide (b < d) else decide (a < c)
/-- is a writ held at this place? -/
def isAt (h s : Int) (x : Hd) : Bool := decide (x.holder = h ∧ x.slot = s)
/-- which writ is at a place; 0: none (D1) -/
def atP (l : List Hd) (h s : Int) : Int := match l.find? (isAt h s) with
  | some x => x.writ
  | none => 0
/-- the first free slot; -1: none (D2) -/
def freeFrom (l : List Hd) (h : Int) : Nat → Nat → Int
  | 0, _ => -1
  | n + 1, k => if atP l h k = 0 then (k : Int) else freeFrom l h n (k + 1)
def freeP (l : List Hd) (h : Int) : Int := freeFrom l h 6 0
theorem free_yes {l : List Hd} {h : Int} {k : Nat} (hlt : k < 6) (he : atP l h k = 0) (hp : freeFrom l h (6 - k) k = freeP l h) : freeP l h = k := by
  obtain ⟨n, hn⟩ : ∃ n, 6 - k = n + 1 := ⟨5 - k, by omega⟩
  rw [hn] at hp; unfold freeFrom at hp; rw [if_pos he] at hp; exact hp.symm
theorem free_no {l : List Hd} {h : Int} {k : Nat} (hlt : k < 6) (he : ¬ atP l h k = 0) (hp : freeFrom l h (6 - k) k = freeP l h) : freeFrom l h (6 - (k + 1)) (k + 1) = freeP l h := by
  obtain ⟨n, hn⟩ : ∃ n, 6 - k = n + 1 := ⟨5 - k, by omega⟩
  rw [hn] at hp; unfold freeFrom at hp; rw [if_neg he] at hp
  rw [show 6 - (k + 1) = n by omega]; exact hp
theorem free_end {l : List Hd} {h : Int} {k : Nat} (hk : k ≤ 6) (hge : ¬ k < 6) (hp : freeFrom l h (6 - k) k = freeP l h) : freeP l h = -1 := by
  have : k = 6 := by omega
  subst this; exact hp.symm
def lowP (h s : Int) (x : Hd) : Bool := befB x.holder x.slot h s
def highP (h s : Int) (x : Hd) : Bool := befB h s x.holder x.slot
/-- what stands at and ahead of the place, and what Put hands back (D2) -/
def putM (l : List Hd) (h s id : Int) : List Hd := l.filter (lowP h s) ++ (if id = 0 then [] else [⟨h, s, id⟩])
def putL (l : List Hd) (h s id : Int) : List Hd := putM l h s id ++ l.filter (highP h s)
theorem putM_len (l : List Hd) (h s id : Int) : (putM l h s id).length ≤ l.length + 1 := by
  have := List.length_filter_le (lowP h s) l
  unfold putM
  split <;> simp <;> omega
theorem take_filter_yes {α : Type} {p : α → Bool} {l : List α} {k : Nat} {x : α} (hx : l[k]? = some x) (hp : p x = true) : (l.take (k + 1)).filter p = (l.take k).filter p ++ [x] := by
  rw [List.take_add_one, hx]; simp [hp]
theorem take_filter_no {α : Type} {p : α → Bool} {l : List α} {k : Nat} {x : α} (hx : l[k]? = some x) (hp : p x = false) : (l.take (k + 1)).filter p = (l.take k).filter p := by
  rw [List.take_add_one, hx]; simp [hp]
theorem take_filter_le {α : Type} (p : α → Bool) (l : List α) (k : Nat) : ((l.take k).filter p).length ≤ l.length :=
  Nat.le_trans (List.length_filter_le _ _) (by rw [List.length_take]; omega)
theorem row_snoc {w : World} {base : Nat} {e : TypeId} {v : Value} {l : List Hd} {x : Hd} (h : w.ownsRow base e 3 v (l.length + 1) (l.flatMap hcells ++ [.int .i64 x.holder, .int .i64 x.slot, .int .i64 x.writ])) : w.ownsRow base e 3 v (l ++ [x]).length ((l ++ [x]).flatMap hcells) := by
  simpa [hcells] using h
theorem new3 (w : World) (t : TypeId) (x y z : Value) : ∀ j u, [x, y, z][j]? = some u → (w.alloc (.cells #[x, y, z] t)).cell? ((⟨w.heap.size, 0, none⟩ : Addr).add j) = some u := by
  intro j u hj
  match j, hj with
  | 0, hj => simp at hj; subst hj; simp [Addr.add]
  | 1, hj => simp at hj; subst hj; simp [Addr.add]
  | 2, hj => simp at hj; subst hj; simp [Addr.add]
  | j + 3, hj => simp at hj
theorem one3 (a b c : Int) : ∀ u ∈ [Value.int .i64 a, .int .i64 b, .int .i64 c], u.oneCell' = true := by
  intro u hu
  simp at hu
  rcases hu with rfl | rfl | rfl <;> rfl
theorem app_below {w0 w1 w' : World} {e : TypeId} {size n : Nat} {v : Value} {xs : List Value} {ob : Obj} (bl : Below w0.heap.size w0 w1) (hown : w1.ownsRow w0.heap.size e size v n xs) (hg : (w1.alloc ob).grownBy w' v.ownBlock) : Below w0.heap.size w0 w' :=
  (bl.alloc bl.size ob).grown hg (Nat.le_trans bl.size (by simp)) (fun k hk => (hown.lt k hk).1)
/-- one of them may stand behind those ahead -/
def goodAt (l : List Hd) (k : Nat) (x : Hd) : Prop := plOk x.holder x.slot ∧ x.writ ≠ 0 ∧ ∀ j y, k = j + 1 → l[j]? = some y → befB y.holder y.slot x.holder x.slot = true
def Good (l : List Hd) : Prop := ∀ k x, l[k]? = some x → goodAt l k x
def GoodTo (l : List Hd) (n : Nat) : Prop := ∀ k x, k < n → l[k]? = some x → goodAt l k x
theorem goodTo_next {l : List Hd} {k : Nat} {x : Hd} (h : GoodTo l k) (hx : l[k]? = some x) (hg : goodAt l k x) : GoodTo l (k + 1) := by
  intro j y hj hy
  by_cases e : j = k
  · subst e; rw [hx] at hy; cases hy; exact hg
  · exact h j y (by omega) hy
theorem good_of_to {l : List Hd} {k : Nat} (h : GoodTo l k) (hk : ¬ k < l.length) : Good l := by
  intro j y hy
  exact h j y (by have := (List.getElem?_eq_some_iff.1 hy).1; omega) hy
theorem notGood {P : Prop} (h : ¬ P) : (false = true ↔ P) := by
  constructor
  · intro h'; cases h'
  · intro p; exact absurd p h
theorem befB_no1 {a b c d : Int} (h : c < a) : befB a b c d = false := by unfold befB; rw [if_neg (by omega)]; exact decide_eq_false (by omega)
theorem befB_no2 {a b c d : Int} (h : c = a) (h2 : d ≤ b) : befB a b c d = false := by unfold befB; rw [if_pos h.symm]; exact decide_eq_false (by omega)
theorem befB_yes2 {a b c d : Int} (h : c = a) (h2 : ¬ d ≤ b) : befB a b c d = true := by unfold befB; rw [if_pos h.symm]; exact decide_eq_true (by omega)
theorem befB_yes1 {a b c d : Int} (h : ¬ c < a) (h2 : ¬ c = a) : befB a b c d = true := by unfold befB; rw [if_neg (by omega)]; exact decide_eq_true (by omega)
/-- places rise -/
def Rise (l : List Hd) : Prop := l.Pairwise (fun x y => befB x.holder x.slot y.holder y.slot = true)
theorem low_or {h s : Int} {x : Hd} (h1 : lowP h s x = false) : isAt h s x = true ∧ highP h s x = false ∨ isAt h s x = false ∧ highP h s x = true := by
  unfold lowP befB at h1
  unfold isAt highP befB
  by_cases e : x.holder = h
  · simp only [e, if_true, decide_eq_false_iff_not] at h1
    by_cases e2 : x.slot = s
    · left; simp [e, e2]
    · right; simp [e, e2]; omega
  · rw [if_neg e, decide_eq_false_iff_not] at h1
    right
    refine ⟨by simp [e], ?_⟩
    rw [if_neg (fun e' => e e'.symm)]; exact decide_eq_true (by omega)
theorem low_not {h s : Int} {x : Hd} (h1 : lowP h s x = true) : isAt h s x = false ∧ highP h s x = false := by
  unfold lowP befB at h1
  unfold isAt highP befB
  by_cases e : x.holder = h
  · simp only [e, if_true, decide_eq_true_eq] at h1
    simp [e]; omega
  · rw [if_neg e, decide_eq_true_eq] at h1
    refine ⟨by simp [e], ?_⟩
    rw [if_neg (fun e' => e e'.symm)]; exact decide_eq_false (by omega)
theorem good_rise {l : List Hd} (hg : Good l) : Rise l := by
  have step : ∀ k x y, l[k]? = some x → l[k + 1]? = some y → befB x.holder x.slot y.holder y.slot = true := fun k x y hx hy => (hg (k + 1) y hy).2.2 k x rfl hx
  have tr : ∀ {x y z : Hd}, befB x.holder x.slot y.holder y.slot = true → befB y.holder y.slot z.holder z.slot = true → befB x.holder x.slot z.holder z.slot = true := by
    intro x y z h1 h2
    unfold befB at *
    by_cases e1 : x.holder = y.holder <;> by_cases e2 : y.holder = z.holder <;> by_cases e3 : x.holder = z.holder <;> simp_all <;> omega
  clear hg
  induction l with
  | nil => exact List.Pairwise.nil
  | cons x r ih =>
    have hr := ih (fun k y z hy hz => step (k + 1) y z (by simpa using hy) (by simpa using hz))
    refine List.pairwise_cons.2 ⟨?_, hr⟩
    cases r with
    | nil => intro y hy; cases hy
    | cons y r' =>
      have h0 := step 0 x y rfl rfl
      intro z hz
      rcases List.mem_cons.1 hz with rfl | hz
      · exact h0
      · exact tr h0 ((List.pairwise_cons.1 hr).1 z hz)
def PlAt (w : World) (b : Nat) (h s : Int) : Prop := w.cell? ⟨b, 0, none⟩ = some (.int .i64 h) ∧ w.cell? ⟨b, 1, none⟩ = some (.int .i64 s)
theorem PlAt.below {W w1 : World} (hb : Below W.heap.size W w1) {b : Nat} {h s : Int} (hlt : b < W.heap.size) (hp : PlAt W b h s) : PlAt w1 b h s := by
  obtain ⟨h1, h2⟩ := hp
  have g := (bcell hb).1
  exact ⟨by rw [g _ _ hlt]; exact h1, by rw [g _ _ hlt]; exact h2⟩
/-- a place's rank -/
theorem good_rank {l : List Hd} (hg : Good l) : ∀ (k : Nat) (x : Hd), l[k]? = some x → (k : Int) ≤ (x.holder - 1) * 6 + x.slot
  | 0, x, hx => by
    obtain ⟨⟨h1, h2, h3, h4⟩, _⟩ := hg 0 x hx
    simp; omega
  | k + 1, x, hx => by
    have hlt : k < l.length := by have := (List.getElem?_eq_some_iff.1 hx).1; omega
    have hy : l[k]? = some l[k] := List.getElem?_eq_getElem hlt
    have ih := good_rank hg k _ hy
    obtain ⟨⟨h1, h2, h3, h4⟩, _, hb⟩ := hg (k + 1) x hx
    obtain ⟨⟨g1, g2, g3, g4⟩, _⟩ := hg k _ hy
    have := hb k _ rfl hy
    unfold befB at this
    by_cases e : l[k].holder = x.holder
    · rw [if_pos e, decide_eq_true_eq] at this
      rw [e] at ih; push_cast; omega
    · rw [if_neg e, decide_eq_true_eq] at this
      push_cast; omega
theorem good_len {l : List Hd} (hg : Good l) : l.length ≤ 24 := by
  refine Nat.le_of_not_lt fun hn => ?_
  have hy : l[24]? = some l[24] := List.getElem?_eq_getElem (by omega)
  have := good_rank hg 24 _ hy
  obtain ⟨⟨g1, g2, g3, g4⟩, _⟩ := hg 24 _ hy
  omega
theorem putL_len (l : List Hd) (h s id : Int) : (putL l h s id).length ≤ 2 * l.length + 1 := by
  have h1 := putM_len l h s id
  have h2 := List.length_filter_le (highP h s) l
  unfold putL
  rw [List.length_append]; omega
theorem idxFrom_first {α : Type} {p : α → Bool} : ∀ (l : List α) (n j : Nat), idxFrom p l n = ((n + j : Nat) : Int) → ∀ k y, k < j → l[k]? = some y → p y = false
  | [], n, j, h, k, y, hk, hy => by simp at hy
  | x :: r, n, j, h, k, y, hk, hy => by
    unfold idxFrom at h
    by_cases hx : p x = true
    · rw [if_pos hx] at h; omega
    · rw [if_neg hx] at h
      cases k with
      | zero => have : x = y := by simpa using hy
                subst this; simpa using hx
      | succ k =>
        cases j with
        | zero => omega
        | succ j => exact idxFrom_first r (n + 1) j (by rw [h]; congr 1; omega) k y (by omega) (by simpa using hy)
theorem idx_first {α : Type} {p : α → Bool} {l : List α} {j : Nat} (h : idx p l = (j : Int)) : ∀ k y, k < j → l[k]? = some y → p y = false :=
  idxFrom_first l 0 j (by rw [show idxFrom p l 0 = idx p l from rfl, h]; simp)
theorem idx_none {α : Type} {p : α → Bool} {l : List α} (h : idx p l = -1) : ∀ (k : Nat) (y : α), l[k]? = some y → p y = false := by
  intro k y hy
  rcases idx_cases p l with ⟨_, h2⟩ | ⟨j, x, h1, _⟩
  · have := List.find?_eq_none.1 h2 y (List.mem_of_getElem? hy); simpa using this
  · rw [h1] at h; omega
theorem high_not {h s : Int} {x : Hd} (h1 : highP h s x = true) : isAt h s x = false := by
  unfold highP befB at h1
  unfold isAt
  by_cases e : h = x.holder
  · rw [if_pos e, decide_eq_true_eq] at h1
    simp; intro _; omega
  · simp; intro e'; exact absurd e'.symm e
theorem find_filter_all {α : Type} {p f : α → Bool} (l : List α) (h : ∀ x, p x = true → f x = true) : (l.filter f).find? p = l.find? p := by
  rw [List.find?_filter]
  congr 1
  funext x
  cases hp : p x with
  | true => simp [h x hp]
  | false => simp
theorem find_filter_none {α : Type} {p f : α → Bool} (l : List α) (h : ∀ x, p x = true → f x = false) : (l.filter f).find? p = none := by
  rw [List.find?_filter, List.find?_eq_none]
  intro x _
  cases hp : p x with
  | true => simp [h x hp]
  | false => simp
theorem at_put_other (l : List Hd) (h s id g t : Int) (hne : ¬ (g = h ∧ t = s)) : atP (putL l h s id) g t = atP l g t := by
  have em : isAt g t ⟨h, s, id⟩ = false := by simp [isAt]; intro e; subst e; intro e; exact hne ⟨rfl, e.symm⟩
  have emid : (if id = 0 then ([] : List Hd) else [⟨h, s, id⟩]).find? (isAt g t) = none := by
    split <;> simp [em]
  cases hq : befB g t h s with
  | true =>
    have e1 : (l.filter (lowP h s)).find? (isAt g t) = l.find? (isAt g t) := find_filter_all l (fun x hx => by
      have : x.holder = g ∧ x.slot = t := by simpa [isAt] using hx
      unfold lowP; rw [this.1, this.2]; exact hq)
    have e2 : (l.filter (highP h s)).find? (isAt g t) = none := find_filter_none l (fun x hx => by
      have : x.holder = g ∧ x.slot = t := by simpa [isAt] using hx
      unfold highP; rw [this.1, this.2]
      unfold befB at hq ⊢
      by_cases e : g = h
      · rw [if_pos e, decide_eq_true_eq] at hq; rw [if_pos e.symm]; exact decide_eq_false (by omega)
      · rw [if_neg e, decide_eq_true_eq] at hq; rw [if_neg (fun e' => e e'.symm)]; exact decide_eq_false (by omega))
    unfold atP putL putM
    simp [List.find?_append, e1, e2, emid]
  | false =>
    have e1 : (l.filter (lowP h s)).find? (isAt g t) = none := find_filter_none l (fun x hx => by
      have : x.holder = g ∧ x.slot = t := by simpa [isAt] using hx
      unfold lowP; rw [this.1, this.2]; exact hq)
    have e2 : (l.filter (highP h s)).find? (isAt g t) = l.find? (isAt g t) := find_filter_all l (fun x hx => by
      have : x.holder = g ∧ x.slot = t := by simpa [isAt] using hx
      unfold highP; rw [this.1, this.2]
      unfold befB at hq ⊢
      by_cases e : g = h
      · rw [if_pos e, decide_eq_false_iff_not] at hq; rw [if_pos e.symm]; exact decide_eq_true (by
          have : ¬ t = s := fun e' => hne ⟨e, e'⟩
          omega)
      · rw [if_neg e, decide_eq_false_iff_not] at hq; rw [if_neg (fun e' => e e'.symm)]; exact decide_eq_true (by omega))
    unfold atP putL putM
    simp [List.find?_append, e1, e2, emid]
theorem befB_trans {x y z : Hd} (h1 : befB x.holder x.slot y.holder y.slot = true) (h2 : befB y.holder y.slot z.holder z.slot = true) : befB x.holder x.slot z.holder z.slot = true := by
  unfold befB at *
  by_cases e1 : x.holder = y.holder <;> by_cases e2 : y.holder = z.holder <;> by_cases e3 : x.holder = z.holder <;> simp_all <;> omega
theorem good_of_rise {l : List Hd} (h : ∀ x ∈ l, plOk x.holder x.slot ∧ x.writ ≠ 0) (hr : Rise l) : Good l := by
  intro k x hx
  have hm := h x (List.mem_of_getElem? hx)
  refine ⟨hm.1, hm.2, ?_⟩
  intro j y hj hy
  subst hj
  obtain ⟨hj1, hy1⟩ := List.getElem?_eq_some_iff.1 hy
  obtain ⟨hj2, hx1⟩ := List.getElem?_eq_some_iff.1 hx
  have := List.pairwise_iff_getElem.1 hr j (j + 1) hj1 hj2 (by omega)
  rw [hy1, hx1] at this; exact this
theorem good_put {l : List Hd} (hg : Good l) {h s id : Int} (hp : plOk h s) : Good (putL l h s id) := by
  have hr := good_rise hg
  have hmem : ∀ x ∈ l, plOk x.holder x.slot ∧ x.writ ≠ 0 := by
    intro x hx
    obtain ⟨k, hk⟩ := List.getElem?_of_mem hx
    exact ⟨(hg k x hk).1, (hg k x hk).2.1⟩
  refine good_of_rise ?_ ?_
  · intro x hx
    unfold putL putM at hx
    simp only [List.mem_append, List.mem_filter] at hx
    rcases hx with (hx | hx) | hx
    · exact hmem x hx.1
    · by_cases hid : id = 0
      · rw [if_pos hid] at hx; cases hx
      · rw [if_neg hid] at hx
        have : x = ⟨h, s, id⟩ := by simpa using hx
        subst this; exact ⟨hp, hid⟩
    · exact hmem x hx.1
  · unfold Rise putL putM
    rw [List.pairwise_append, List.pairwise_append]
    refine ⟨⟨hr.filter _, ?_, ?_⟩, hr.filter _, ?_⟩
    · split <;> simp
    · intro x hx y hy
      have hl : lowP h s x = true := (List.mem_filter.1 hx).2
      split at hy
      · cases hy
      · have : y = ⟨h, s, id⟩ := by simpa using hy
        subst this; exact hl
    · intro x hx y hy
      have hh : highP h s y = true := (List.mem_filter.1 hy).2
      rcases List.mem_append.1 hx with hx | hx
      · have hl : lowP h s x = true := (List.mem_filter.1 hx).2
        exact befB_trans (y := ⟨h, s, id⟩) hl hh
      · split at hx
        · cases hx
        · have : x = ⟨h, s, id⟩ := by simpa using hx
          subst this; exact hh
theorem freeFrom_spec (l : List Hd) (h : Int) : ∀ (n k : Nat), (freeFrom l h n k = -1 ∧ ∀ j : Nat, k ≤ j → j < k + n → atP l h j ≠ 0) ∨ ∃ m : Nat, freeFrom l h n k = (m : Int) ∧ k ≤ m ∧ m < k + n ∧ atP l h m = 0 ∧ ∀ j : Nat, k ≤ j → j < m → atP l h j ≠ 0
  | 0, k => .inl ⟨rfl, fun j h1 h2 => by omega⟩
  | n + 1, k => by
    by_cases he : atP l h k = 0
    · exact .inr ⟨k, by simp [freeFrom, he], by omega, by omega, he, fun j h1 h2 => by omega⟩
    · rcases freeFrom_spec l h n (k + 1) with ⟨h1, h2⟩ | ⟨m, h1, h2, h3, h4, h5⟩
      · refine .inl ⟨by simp [freeFrom, he, h1], fun j hj1 hj2 => ?_⟩
        by_cases e : j = k
        · subst e; exact he
        · exact h2 j (by omega) (by omega)
      · refine .inr ⟨m, by simp [freeFrom, he, h1], by omega, by omega, h4, fun j hj1 hj2 => ?_⟩
        by_cases e : j = k
        · subst e; exact he
        · exact h5 j (by omega) hj2
theorem free_spec (l : List Hd) (h : Int) : (freeP l h = -1 ∧ ∀ s : Int, 0 ≤ s → s ≤ 5 → atP l h s ≠ 0) ∨ ∃ m : Nat, freeP l h = (m : Int) ∧ m ≤ 5 ∧ atP l h m = 0 ∧ ∀ s : Int, 0 ≤ s → s < m → atP l h s ≠ 0 := by
  rcases freeFrom_spec l h 6 0 with ⟨h1, h2⟩ | ⟨m, h1, h2, h3, h4, h5⟩
  · refine .inl ⟨h1, fun s h0 h6 => ?_⟩
    have := h2 s.toNat (by omega) (by omega)
    rwa [show ((s.toNat : Nat) : Int) = s by omega] at this
  · refine .inr ⟨m, h1, by omega, h4, fun s h0 hm => ?_⟩
    have := h5 s.toNat (by omega) (by omega)
    rwa [show ((s.toNat : Nat) : Int) = s by omega] at this
/-- the numbers from 1 on that are things of writs -/
def thStep (l : List Wr) (n : Nat) : List Int := if l.any (fun x => x.thing == (n : Int) + 1) = true then [(n : Int) + 1] else []
def thUp (l : List Wr) (k : Nat) : List Int := (List.range k).flatMap (thStep l)
theorem thUp_succ (l : List Wr) (k : Nat) : thUp l (k + 1) = thUp l k ++ thStep l k := by
  unfold thUp; rw [List.range_succ, List.flatMap_append]; simp
theorem thUp_mem {l : List Wr} {k : Nat} {t : Int} : t ∈ thUp l k ↔ 1 ≤ t ∧ t ≤ k ∧ ∃ x ∈ l, x.thing = t := by
  unfold thUp
  rw [List.mem_flatMap]
  constructor
  · rintro ⟨n, hn, ht⟩
    have hn' := List.mem_range.1 hn
    unfold thStep at ht
    split at ht
    · rename_i h
      have e := List.mem_singleton.1 ht
      obtain ⟨x, hx, he⟩ := List.any_eq_true.1 h
      exact ⟨by omega, by omega, x, hx, by rw [e]; simpa using he⟩
    · cases ht
  · rintro ⟨h1, h2, x, hx, rfl⟩
    refine ⟨(x.thing - 1).toNat, List.mem_range.2 (by omega), ?_⟩
    have e : (((x.thing - 1).toNat : Nat) : Int) + 1 = x.thing := by omega
    unfold thStep
    rw [e, if_pos (List.any_eq_true.2 ⟨x, hx, by simp⟩)]
    simp
theorem thUp_pair (l : List Wr) : ∀ k, (thUp l k).Pairwise (· < ·)
  | 0 => by simp [thUp]
  | k + 1 => by
    rw [thUp_succ, List.pairwise_append]
    refine ⟨thUp_pair l k, ?_, ?_⟩
    · unfold thStep; split <;> simp
    · intro a ha b hb
      have := (thUp_mem.1 ha).2.1
      unfold thStep at hb
      split at hb
      · have := List.mem_singleton.1 hb; omega
      · cases hb
theorem pair_ext {a b : List Int} (ha : a.Pairwise (· < ·)) (hb : b.Pairwise (· < ·)) (h : ∀ t, t ∈ a ↔ t ∈ b) : a = b := by
  induction a generalizing b with
  | nil =>
    cases b with
    | nil => rfl
    | cons y r => exact absurd ((h y).2 List.mem_cons_self) (by simp)
  | cons x r ih =>
    cases b with
    | nil => exact absurd ((h x).1 List.mem_cons_self) (by simp)
    | cons y s =>
      rw [List.pairwise_cons] at ha hb
      have hxy : x = y := by
        rcases List.mem_cons.1 ((h x).1 List.mem_cons_self) with e | h1
        · exact e
        · rcases List.mem_cons.1 ((h y).2 List.mem_cons_self) with e | h2
          · exact e.symm
          · have := hb.1 x h1; have := ha.1 y h2; omega
      subst hxy
      rw [ih ha.2 hb.2]
      intro t
      constructor
      · intro ht
        rcases List.mem_cons.1 ((h t).1 (List.mem_cons_of_mem _ ht)) with e | h1
        · have := ha.1 t ht; omega
        · exact h1
      · intro ht
        rcases List.mem_cons.1 ((h t).2 (List.mem_cons_of_mem _ ht)) with e | h1
        · have := hb.1 t ht; omega
        · exact h1
theorem comp_facts (d : Array Int) (hs : ∀ i j, i < j → j < d.size → d[i]! ≤ d[j]!) : ∀ m, m ≤ d.size → (Lib.compactUpTo d m).Pairwise (· < ·) ∧ (∀ t, t ∈ Lib.compactUpTo d m ↔ ∃ j, j < m ∧ d[j]! = t) := by
  intro m
  induction m with
  | zero => intro _; simp [Lib.compactUpTo]
  | succ m ih =>
    intro hm
    obtain ⟨h1, h2⟩ := ih (by omega)
    rw [Lib.compactUpTo_succ]
    by_cases hk : Lib.keeps d m = true
    · rw [if_pos hk]
      refine ⟨?_, fun t => ?_⟩
      · rw [List.pairwise_append]
        refine ⟨h1, by simp, fun a ha b hb => ?_⟩
        rw [List.mem_singleton.1 hb]
        obtain ⟨j, hj, rfl⟩ := (h2 a).1 ha
        unfold Lib.keeps at hk
        have hk' := of_decide_eq_true hk
        rcases hk' with h0 | hne
        · omega
        · have := hs (m - 1) m (by omega) (by omega)
          by_cases e : j = m - 1
          · subst e; omega
          · have := hs j (m - 1) (by omega) (by omega); omega
      · rw [List.mem_append, h2, List.mem_singleton]
        constructor
        · rintro (⟨j, hj, e⟩ | e)
          · exact ⟨j, by omega, e⟩
          · exact ⟨m, by omega, e.symm⟩
        · rintro ⟨j, hj, e⟩
          by_cases hjm : j = m
          · subst hjm; exact .inr e.symm
          · exact .inl ⟨j, by omega, e⟩
    · rw [if_neg hk, List.append_nil]
      refine ⟨h1, fun t => ?_⟩
      rw [h2]
      unfold Lib.keeps at hk
      have hk' : ¬ (m = 0 ∨ d[m]! ≠ d[m - 1]!) := fun h => hk (decide_eq_true h)
      have hm0 : ¬ m = 0 := fun h => hk' (.inl h)
      have he : d[m]! = d[m - 1]! := by
        by_cases e : d[m]! = d[m - 1]!
        · exact e
        · exact absurd (.inr e) hk'
      constructor
      · rintro ⟨j, hj, e⟩; exact ⟨j, by omega, e⟩
      · rintro ⟨j, hj, e⟩
        by_cases hjm : j = m
        · subst hjm; exact ⟨j - 1, by omega, by rw [← he]; exact e⟩
        · exact ⟨j, by omega, e⟩
/-- sorted, with doubles struck: what counting up finds (C4) -/
theorem things_eq {l : List Wr} (h : ∀ x ∈ l, 1 ≤ x.thing ∧ x.thing ≤ 999) : Lib.compact ((l.map (·.thing)).mergeSort fun x y => decide (x ≤ y)) = thUp l 999 := by
  generalize hz : (l.map (·.thing)).mergeSort (fun x y => decide (x ≤ y)) = zs
  have hp : zs.Perm (l.map (·.thing)) := by rw [← hz]; exact List.mergeSort_perm _ _
  have hsort : zs.Pairwise (fun x y => decide (x ≤ y) = true) := by
    rw [← hz]
    exact List.pairwise_mergeSort (fun a b c h1 h2 => by simp at *; omega) (fun a b => by simp; omega) _
  unfold Lib.compact
  have hs : ∀ i j, i < j → j < zs.toArray.size → zs.toArray[i]! ≤ zs.toArray[j]! := by
    intro i j hij hj
    have hj' : j < zs.length := by simpa using hj
    have := List.pairwise_iff_getElem.1 hsort i j (by omega) hj' hij
    have hi' : i < zs.length := by omega
    simpa [getElem!_pos, hi', hj'] using this
  obtain ⟨h1, h2⟩ := comp_facts zs.toArray hs zs.length (by simp)
  refine pair_ext h1 (thUp_pair l 999) (fun t => ?_)
  rw [h2, thUp_mem]
  constructor
  · rintro ⟨j, hj, rfl⟩
    have hm : zs.toArray[j]! ∈ l.map (·.thing) := by
      refine hp.subset ?_
      simp [getElem!_pos, hj]
    obtain ⟨x, hx, e⟩ := List.mem_map.1 hm
    have := h x hx
    exact ⟨by omega, by omega, x, hx, e⟩
  · rintro ⟨_, _, x, hx, rfl⟩
    have hm : x.thing ∈ zs := hp.symm.subset (List.mem_map.2 ⟨x, hx, rfl⟩)
    obtain ⟨j, hj, e⟩ := List.getElem_of_mem hm
    exact ⟨j, hj, by simp [getElem!_pos, hj, e]⟩
section
open Go.Sort
/-- the things of writs, sorted, with doubles struck -/
def thingsL (l : List Wr) : List Int := Lib.compact ((l.map (·.thing)).mergeSort fun x y => decide (x ≤ y))
theorem thE : thingsL [] = [] := by simp [thingsL, Lib.compact, Lib.compactUpTo]
theorem th_next {l : List Wr} {k : Nat} {x : Wr} (hx : l[k]? = some x) : (l.take (k + 1)).map (·.thing) = (l.take k).map (·.thing) ++ [x.thing] := by
  rw [List.take_add_one, hx]; simp
theorem icells_map (l : List Int) : l.flatMap icells = l.map (Value.int .i64) := by
  induction l with
  | nil => rfl
  | cons x r ih => rw [List.flatMap_cons, ih]; rfl
theorem app2_below {w0 w1 w' : World} {e : TypeId} {size n : Nat} {v : Value} {xs : List Value} {ob ob' : Obj} (bl : Below w0.heap.size w0 w1) (hown : w1.ownsRow w0.heap.size e size v n xs) (hg : ((w1.alloc ob).alloc ob').grownBy w' v.ownBlock) : Below w0.heap.size w0 w' :=
  ((bl.alloc bl.size ob).alloc (Nat.le_trans bl.size (by simp)) ob').grown hg (Nat.le_trans bl.size (by simp; omega)) (fun k hk => (hown.lt k hk).1)
theorem new1b (w : World) (ob : Obj) (t : TypeId) (x : Value) : ∀ j q, [x][j]? = some q → ((w.alloc ob).alloc (.cells #[x] t)).cell? ((⟨w.heap.size + 1, 0, none⟩ : Addr).add j) = some q := by
  intro j q hj
  have := new1 (w.alloc ob) t x j q hj
  rwa [show (w.alloc ob).heap.size = w.heap.size + 1 by simp] at this
end
end Go.Proofs.YtddgpgldbekamaaGreat
set_option linter.unusedVariables false
namespace Go.Proofs.YtddgpgldbekamaaGreat
open Go.RowKit

section
variable {P : Program} {ops : Array Oper} {Q : Exit → Act → World → Prop} {md : Region.Mode} {S : World → Prop} {fuel : Nat} {listed : Array Bool} {a : Act} {w : World}
theorem tkI (i : Nat) (v : Value) {oi : Oper} {a' : Act} (hi : ops[i]? = some oi) (h : wpAnyH P md ops Q S fuel (listed.setIfInBounds i true) a' w)
    (hs : Region.noSelect ops = true := by kernel_rfl) (hf : Region.free md ops listed i = true := by kernel_rfl) (hr : (Region.ready md ops listed).contains i = true := by kernel_rfl)
    (hQ : ∀ c a w, Q (.panic c) (a.put oi.dst v) w → Q (.panic c) a w := by exact fun _ _ _ h => h) (hy : YieldsIf P ops S oi v a := by (refine Or.inl ⟨by rfl, ?_⟩; intro w hSw; (try dsimp only at hSw); go_simp)) (hS : S w := by assumption)
    (ha : a.put oi.dst v = a' := by (simp only [Act.put, List.getElem_toArray, List.getElem_cons_succ, List.getElem_cons_zero, List.setIfInBounds_toArray, List.set_cons_zero, List.set_cons_succ]; rfl)) : wpAnyH P md ops Q S (fuel + 1) listed a w := by
  subst ha
  exact wpAnyH_take hi hs hf hr hQ hy hS h
theorem tkJ (i : Nat) (v : Value) {oi : Oper} {a' : Act} (hi : ops[i]? = some oi) (hw : ∀ w, S w → (execOp a.eval oi).run P w = .ok (.value v) w) (h : wpAnyH P md ops Q S fuel (listed.setIfInBounds i true) a' w)
    (hs : Region.noSelect ops = true := by kernel_rfl) (hf : Region.free md ops listed i = true := by kernel_rfl) (hr : (Region.ready md ops listed).contains i = true := by kernel_rfl)
    (hQ : ∀ c a w, Q (.panic c) (a.put oi.dst v) w → Q (.panic c) a w := by exact fun _ _ _ h => h) (hn : Region.wanted oi (yielded ops a.tmps) = true := by rfl) (hS : S w := by assumption)
    (ha : a.put oi.dst v = a' := by (simp only [Act.put, List.getElem_toArray, List.getElem_cons_succ, List.getElem_cons_zero, List.setIfInBounds_toArray, List.set_cons_zero, List.set_cons_succ]; rfl)) : wpAnyH P md ops Q S (fuel + 1) listed a w := by
  subst ha
  exact wpAnyH_take hi hs hf hr hQ (.inl ⟨hn, hw⟩) hS h
theorem tkS (i : Nat) {oi : Oper} {a' : Act} (hi : ops[i]? = some oi) (h : wpAnyH P md ops Q S fuel (listed.setIfInBounds i true) a' w)
    (hs : Region.noSelect ops = true := by kernel_rfl) (hf : Region.free md ops listed i = true := by kernel_rfl) (hr : (Region.ready md ops listed).contains i = true := by kernel_rfl)
    (hQ : ∀ c a w, Q (.panic c) (a.put oi.dst undef) w → Q (.panic c) a w := by exact fun _ _ _ h => h) (hn : Region.wanted oi (yielded ops a.tmps) = false := by rfl) (hS : S w := by assumption)
    (ha : a.put oi.dst undef = a' := by (simp only [Act.put, List.getElem_toArray, List.getElem_cons_succ, List.getElem_cons_zero, List.setIfInBounds_toArray, List.set_cons_zero, List.set_cons_succ]; rfl)) : wpAnyH P md ops Q S (fuel + 1) listed a w := by
  subst ha
  exact wpAnyH_take hi hs hf hr hQ (.inr ⟨hn, rfl⟩) hS h
theorem rdI (i : Nat) {o : Oper} (ho : ops[i]? = some o) (h : ∀ K' : Act → World → Prop, Shut (∀ a w, S w → (S w → wpAnyH P md ops Q S fuel (listed.setIfInBounds i true) a w) → K' a w) → Oper.wp P o a w K' Q)
    (hr : Region.ready md ops listed = [i] := by kernel_rfl) (hn : Region.wanted o (yielded ops a.tmps) = true := by rfl) : wpAnyH P md ops Q S (fuel + 1) listed a w :=
  wpAnyH_ready hr (by simp) (AllReadyH.cons ho (fun K hK => by rw [if_pos hn]; exact h K hK) AllReadyH.nil)
theorem rdJ (i j : Nat) {o o' : Oper} (ho : ops[i]? = some o) (ho' : ops[j]? = some o') (h : ∀ K' : Act → World → Prop, Shut (∀ a w, S w → (S w → wpAnyH P md ops Q S fuel (listed.setIfInBounds i true) a w) → K' a w) → Oper.wp P o a w K' Q)
    (h' : ∀ K' : Act → World → Prop, Shut (∀ a w, S w → (S w → wpAnyH P md ops Q S fuel (listed.setIfInBounds j true) a w) → K' a w) → Oper.wp P o' a w K' Q)
    (hr : Region.ready md ops listed = [i, j] := by kernel_rfl) (hn : Region.wanted o (yielded ops a.tmps) = true := by rfl) (hn' : Region.wanted o' (yielded ops a.tmps) = true := by rfl) : wpAnyH P md ops Q S (fuel + 1) listed a w :=
  wpAnyH_ready hr (by simp) (AllReadyH.cons ho (fun K hK => by rw [if_pos hn]; exact h K hK) (AllReadyH.cons ho' (fun K hK => by rw [if_pos hn']; exact h' K hK) AllReadyH.nil))
end
end Go.Proofs.YtddgpgldbekamaaGreat
