/- Writs as plain data, and where a list of them lies in memory: definitions and small lemmas on lists and worlds; nothing of the program. -/
import Derived.WalkKit
import Derived.WalkSpells
import Derived.WalkLawsBesides
namespace Go.Proofs.Ytnjncemjghmpoaa
open Go.RowKit

theorem retStr {a b : ByteArray} (h : a = b) : Ending.returned (.string a) = .returned (.string b) := by rw [h]
theorem retInt {k : IntKind} {a b : Int} (h : a = b) : Ending.returned (.int k a) = .returned (.int k b) := by rw [h]
theorem retBool {a b : Bool} (h : a = b) : Ending.returned (.bool a) = .returned (.bool b) := by rw [h]

/-- a writ -/
structure Wr where
  id : Int
  thing : Int
  rights : Int
  badge : Int
  frm : Int

theorem Wr.ext5 {x y : Wr} (h1 : x.id = y.id) (h2 : x.thing = y.thing) (h3 : x.rights = y.rights) (h4 : x.badge = y.badge) (h5 : x.frm = y.frm) : x = y := by
  cases x; cases y; simp_all

/-- a writ's five cells from an offset on -/
def WrAt (w : World) (b o : Nat) (x : Wr) : Prop :=
  w.cell? ⟨b, o, none⟩ = some (.int .i64 x.id) ∧ w.cell? ⟨b, o + 1, none⟩ = some (.int .i64 x.thing) ∧ w.cell? ⟨b, o + 2, none⟩ = some (.int .i64 x.rights) ∧
  w.cell? ⟨b, o + 3, none⟩ = some (.int .i64 x.badge) ∧ w.cell? ⟨b, o + 4, none⟩ = some (.int .i64 x.frm)

/-- a slice's cells hold these writs -/
def WrsAt (w : World) (a : Option Addr) (l : List Wr) : Prop :=
  l = [] ∨ ∃ b o, a = some ⟨b, o, none⟩ ∧ b < w.heap.size ∧ ∀ j x, l[j]? = some x → WrAt w b (o + j * 5) x

/-- all old cells, all old marks read as before -/
theorem bcell {W w1 : World} (hb : Below W.heap.size W w1) : (∀ b o, b < W.heap.size → w1.cell? ⟨b, o, none⟩ = W.cell? ⟨b, o, none⟩) ∧ (∀ b o, b < W.heap.size → w1.frozen? ⟨b, o, none⟩ = W.frozen? ⟨b, o, none⟩) :=
  ⟨fun b o h => hb.cell (p := ⟨b, o, none⟩) h, fun b o h => hb.frozen (p := ⟨b, o, none⟩) h⟩

theorem Below_after {w v w1 : World} (h : Below w.heap.size w v) (hb : Below v.heap.size v w1) : Below w.heap.size w w1 := h.trans (hb.mono h.size)
theorem WrAt.below {W w1 : World} (hb : Below W.heap.size W w1) {b o : Nat} {x : Wr} (hlt : b < W.heap.size) (h : WrAt W b o x) : WrAt w1 b o x := by
  obtain ⟨h1, h2, h3, h4, h5⟩ := h
  have g := (bcell hb).1
  exact ⟨by rw [g _ _ hlt]; exact h1, by rw [g _ _ hlt]; exact h2, by rw [g _ _ hlt]; exact h3, by rw [g _ _ hlt]; exact h4, by rw [g _ _ hlt]; exact h5⟩
theorem WrAt_new (w : World) (t : TypeId) (x : Wr) : WrAt (w.alloc (.cells #[.int .i64 x.id, .int .i64 x.thing, .int .i64 x.rights, .int .i64 x.badge, .int .i64 x.frm] t)) w.heap.size 0 x := by
  refine ⟨?_, ?_, ?_, ?_, ?_⟩ <;> (rw [World.cell?_alloc_new]; rfl)
theorem WrAt.past {w : World} {b o : Nat} {x : Wr} (h : WrAt w b o x) (hlt : b < w.heap.size) (ob : Obj) : WrAt (w.alloc ob) b o x := by
  obtain ⟨h1, h2, h3, h4, h5⟩ := h
  refine ⟨?_, ?_, ?_, ?_, ?_⟩ <;> (rw [World.cell?_alloc_past _ _ _ hlt]; assumption)
theorem WrsAt.below {W w1 : World} (hb : Below W.heap.size W w1) {a : Option Addr} {l : List Wr} (h : WrsAt W a l) : WrsAt w1 a l := by
  rcases h with h | ⟨b, o, ha, hlt, hc⟩
  · exact .inl h
  · exact .inr ⟨b, o, ha, Nat.lt_of_lt_of_le hlt hb.size, fun j x hx => (hc j x hx).below hb hlt⟩

/-- the first place of a number among writs; -1: nowhere -/
def findFrom (id : Int) : List Wr → Nat → Int
  | [], _ => -1
  | x :: r, k => if x.id = id then (k : Int) else findFrom id r (k + 1)
def find (l : List Wr) (id : Int) : Int := findFrom id l 0
theorem find_yes {l : List Wr} {id : Int} {k : Nat} {x : Wr} (hx : l[k]? = some x) (he : x.id = id) (hp : findFrom id (l.drop k) k = find l id) : find l id = k := by
  rw [List.drop_eq_getElem?_toList_append, hx] at hp
  simp [findFrom, he] at hp; exact hp.symm
theorem find_no {l : List Wr} {id : Int} {k : Nat} {x : Wr} (hx : l[k]? = some x) (he : ¬ x.id = id) (hp : findFrom id (l.drop k) k = find l id) : findFrom id (l.drop (k + 1)) (k + 1) = find l id := by
  rw [List.drop_eq_getElem?_toList_append, hx] at hp
  simpa [findFrom, he] using hp
theorem find_end {l : List Wr} {id : Int} {k : Nat} (hk : ¬ k < l.length) (hp : findFrom id (l.drop k) k = find l id) : find l id = -1 := by
  rw [List.drop_of_length_le (by omega)] at hp; exact hp.symm
theorem findFrom_bd (id : Int) : ∀ (l : List Wr) (k : Nat), -1 ≤ findFrom id l k ∧ findFrom id l k < (k : Int) + l.length
  | [], k => by simp [findFrom]; omega
  | x :: r, k => by
    have := findFrom_bd id r (k + 1)
    simp only [findFrom, List.length_cons]
    split <;> omega
theorem find_bd (l : List Wr) (id : Int) : -1 ≤ find l id ∧ find l id < l.length := by
  have := findFrom_bd id l 0
  unfold find; omega
end Go.Proofs.Ytnjncemjghmpoaa
