/- The walks of tree.checkFrom and tree.Check, as the landed code has them (C3). -/
import Derived.Test.YtnjncemjghmpoaaWrit
import Derived.Test.YtnjncemjghmpoaaFind
import Derived.Test.YtnjncemjghmpoaaAbove
import Derived.Deep.RegionHeld3
import Derived.Deep.QuietTactic
import Derived.BigQuiet
import Derived.WalkSmall
namespace Go.Proofs.Ytnjncemjghmpoaa
open Go.RowKit

/-- two writs: one in a block of its own, one in the midst of a row -/
@[reducible] def SX (bx b o : Nat) (x y : Wr) (w' : World) : Prop := w'.cell? ⟨bx, 0, none⟩ = some (.int .i64 x.id) ∧ w'.cell? ⟨bx, 1, none⟩ = some (.int .i64 x.thing) ∧ w'.cell? ⟨bx, 2, none⟩ = some (.int .i64 x.rights) ∧ w'.cell? ⟨bx, 3, none⟩ = some (.int .i64 x.badge) ∧ w'.cell? ⟨bx, 4, none⟩ = some (.int .i64 x.frm) ∧ w'.cell? ⟨b, o, none⟩ = some (.int .i64 y.id) ∧ w'.cell? ⟨b, o + 1, none⟩ = some (.int .i64 y.thing) ∧ w'.cell? ⟨b, o + 2, none⟩ = some (.int .i64 y.rights) ∧ w'.cell? ⟨b, o + 3, none⟩ = some (.int .i64 y.badge) ∧ w'.cell? ⟨b, o + 4, none⟩ = some (.int .i64 y.frm) ∧ bx < w'.heap.size ∧ b < w'.heap.size
theorem SX_mk {bx b o : Nat} {x y : Wr} {w' : World} (hx : WrAt w' bx 0 x) (hy : WrAt w' b o y) (h1 : bx < w'.heap.size) (h2 : b < w'.heap.size) : SX bx b o x y w' := by
  obtain ⟨p1, p2, p3, p4, p5⟩ := hx
  obtain ⟨q1, q2, q3, q4, q5⟩ := hy
  exact ⟨p1, p2, p3, p4, p5, q1, q2, q3, q4, q5, h1, h2⟩
theorem SX_to {bx b o : Nat} {x y : Wr} {w' : World} (h : SX bx b o x y w') : WrAt w' bx 0 x ∧ WrAt w' b o y := by
  obtain ⟨p1, p2, p3, p4, p5, q1, q2, q3, q4, q5, _, _⟩ := h
  exact ⟨⟨p1, p2, p3, p4, p5⟩, ⟨q1, q2, q3, q4, q5⟩⟩
theorem SX_below {bx b o : Nat} {x y : Wr} {v w2 : World} (hb : Below v.heap.size v w2) (h : SX bx b o x y v) : SX bx b o x y w2 := by
  have h' := SX_to h
  obtain ⟨_, _, _, _, _, _, _, _, _, _, h1, h2⟩ := h
  exact SX_mk (h'.1.below hb h1) (h'.2.below hb h2) (Nat.lt_of_lt_of_le h1 hb.size) (Nat.lt_of_lt_of_le h2 hb.size)
theorem SX_alloc {bx b o : Nat} {x y : Wr} {v : World} (ob : Obj) (h : SX bx b o x y v) : SX bx b o x y (v.alloc ob) := SX_below ((Below.refl _ _).alloc (Nat.le_refl _) ob) h
theorem SX_set {bx b o : Nat} {x y : Wr} {v : World} (p : Addr) (u : Value) (h1 : p.block ≠ bx) (h2 : p.block ≠ b) (h : SX bx b o x y v) : SX bx b o x y (v.setCell p u) := by
  have hk : ∀ b' o', b' ≠ p.block → (v.setCell p u).cell? ⟨b', o', none⟩ = v.cell? ⟨b', o', none⟩ := fun b' o' hne => World.cell?_of_block (w := v) (Below.heap_setCell v p u b' hne)
  have hs : (v.setCell p u).heap.size = v.heap.size := by simp [World.setCell]
  obtain ⟨p1, p2, p3, p4, p5, q1, q2, q3, q4, q5, r1, r2⟩ := h
  exact ⟨by rw [hk _ _ h1.symm]; exact p1, by rw [hk _ _ h1.symm]; exact p2, by rw [hk _ _ h1.symm]; exact p3, by rw [hk _ _ h1.symm]; exact p4, by rw [hk _ _ h1.symm]; exact p5, by rw [hk _ _ h2.symm]; exact q1, by rw [hk _ _ h2.symm]; exact q2, by rw [hk _ _ h2.symm]; exact q3, by rw [hk _ _ h2.symm]; exact q4, by rw [hk _ _ h2.symm]; exact q5, by rw [hs]; exact r1, by rw [hs]; exact r2⟩
theorem cf_zero (a : Option Addr) (n c : Nat) (x : Wr) (w : World) (hf : x.frm = 0) :
    Calls Try.prog 51 #[.slice a n c, .agg #[.int .i64 x.id, .int .i64 x.thing, .int .i64 x.rights, .int .i64 x.badge, .int .i64 x.frm]] w fun e w' => e = .returned .nilIface ∧ Below w.heap.size w w' := by
  have d1 : (x.frm == 0) = true := by simp [hf]
  clear hf
  go_enter Try.func51, Try.ntmps51
  go_wp2_with fail
  go_ret
  exact ⟨rfl, (Below.refl _ _).alloc (Nat.le_refl _) _⟩
theorem cf_none (a : Option Addr) (c : Nat) (l : List Wr) (x : Wr) (w : World) (hw : WrsAt w a l) (hm : l.length ≤ 1000) (hf : ¬ x.frm = 0) (hn : find l x.frm = -1) :
    Calls Try.prog 51 #[.slice a l.length c, .agg #[.int .i64 x.id, .int .i64 x.thing, .int .i64 x.rights, .int .i64 x.badge, .int .i64 x.frm]] w fun e w' => e = .returned (.iface 70 (.int .i64 5)) ∧ Below w.heap.size w w' := by
  have d1 : (x.frm == 0) = false := by simp [hf]
  have hbl0 : Below w.heap.size w (w.alloc (.cells #[.int .i64 x.id, .int .i64 x.thing, .int .i64 x.rights, .int .i64 x.badge, .int .i64 x.frm] 34)) := (Below.refl _ _).alloc (Nat.le_refl _) _
  clear hf
  go_enter Try.func51, Try.ntmps51
  go_wp2_with fail
  refine (find_any a c l x.frm _ (hw.below hbl0) (by omega)).mono ?_
  rintro e w1 ⟨rfl, hb1⟩
  have bl1 : Below w.heap.size w w1 := Below_after hbl0 hb1
  clear hb1
  go_wp2_with fail
  go_ret
  exact ⟨rfl, bl1⟩
end Go.Proofs.Ytnjncemjghmpoaa
