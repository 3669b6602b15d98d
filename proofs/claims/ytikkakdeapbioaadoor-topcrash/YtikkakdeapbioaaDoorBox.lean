/- Boxes (blocks of cells that a call itself made), and realms in memory: laws on worlds; nothing of the program. -/
import Derived.Test.YtikkakdeapbioaaDoorOwnMore
import Derived.Test.YtikkakdeapbioaaDoorRealmPure
set_option linter.unusedVariables false
set_option linter.unnecessarySimpa false
namespace Go.Proofs.YtikkakdeapbioaaDoor
open Go.RowKit

theorem sz_alloc (w : World) (o : Obj) : (w.alloc o).heap.size = w.heap.size + 1 := by simp
/-- a block holds these cells, and none is frozen -/
def Bx (w : World) (b : Nat) (vs : List Value) : Prop := b < w.heap.size ∧ ∀ j u, vs[j]? = some u → w.cell? ⟨b, j, none⟩ = some u ∧ w.frozen? ⟨b, j, none⟩ = false
theorem Bx.new (w : World) (vs : List Value) (t : TypeId) : Bx (w.alloc (.cells vs.toArray t)) w.heap.size vs := by
  refine ⟨by simp, fun j u hu => ⟨?_, ?_⟩⟩
  · rw [World.cell?_alloc_new]; simpa using hu
  · have h : (w.alloc (.cells vs.toArray t)).heap[w.heap.size]? = some (.cells vs.toArray t) := heap_alloc_new w _
    exact frozen_of_row _ _ _ _ _ h
theorem Bx.below {w w1 : World} {b : Nat} {vs : List Value} (h : Bx w b vs) (hb : Below w.heap.size w w1) : Bx w1 b vs :=
  ⟨Nat.lt_of_lt_of_le h.1 hb.size, fun j u hu => ⟨by rw [(bcell hb).1 _ _ h.1]; exact (h.2 j u hu).1, by rw [(bcell hb).2 _ _ h.1]; exact (h.2 j u hu).2⟩⟩
theorem Bx.alloc {w : World} {b : Nat} {vs : List Value} (h : Bx w b vs) (o : Obj) : Bx (w.alloc o) b vs := h.below ((Below.refl _ _).alloc (Nat.le_refl _) o)
theorem Bx.set {w : World} {b : Nat} {vs : List Value} (h : Bx w b vs) (j : Nat) (u : Value) : Bx (w.setCell ⟨b, j, none⟩ u) b (vs.set j u) := by
  refine ⟨by simpa using h.1, fun k x hx => ⟨?_, ?_⟩⟩
  · by_cases e : k = j
    · subst e
      have hl : k < vs.length := by
        have := (List.getElem?_eq_some_iff.1 hx).1
        simpa using this
      have hux : u = x := by
        rw [List.getElem?_set_self hl] at hx
        exact Option.some.inj hx
      subst hux
      exact World.cell?_setCell_same _ _ _ (h.2 k _ (List.getElem?_eq_getElem hl)).1
    · rw [List.getElem?_set_ne (Ne.symm e)] at hx
      exact (World.cell?_setCell_other _ _ _ _ (by simpa using fun hh => e (by simpa using hh))).trans (h.2 k x hx).1
  · rw [World.frozen?_setCell]
    by_cases e : k = j
    · subst e
      have hl : k < vs.length := by
        have := (List.getElem?_eq_some_iff.1 hx).1
        simpa using this
      exact (h.2 k _ (List.getElem?_eq_getElem hl)).2
    · rw [List.getElem?_set_ne (Ne.symm e)] at hx
      exact (h.2 k x hx).2
theorem Bx.other {w : World} {b b' : Nat} {vs : List Value} (h : Bx w b vs) (hne : ¬ b = b') (j : Nat) (u : Value) : Bx (w.setCell ⟨b', j, none⟩ u) b vs := by
  refine ⟨by simpa using h.1, fun k x hx => ⟨?_, ?_⟩⟩
  · exact (World.cell?_setCell_other _ _ _ _ (by simpa using fun hh => absurd hh (fun e => hne e.symm))).trans (h.2 k x hx).1
  · rw [World.frozen?_setCell]; exact (h.2 k x hx).2
theorem Bx.grown {w w' : World} {b : Nat} {row : Option Nat} {vs : List Value} (h : Bx w b vs) (hg : w.grownBy w' row) (hne : some b ≠ row) : Bx w' b vs := by
  have hk := hg.block b h.1 hne
  exact ⟨Nat.lt_of_lt_of_le h.1 hg.size, fun j u hu => ⟨(World.cell?_of_block (a := ⟨b, j, none⟩) hk).trans (h.2 j u hu).1, (World.frozen?_of_block (a := ⟨b, j, none⟩) hk).trans (h.2 j u hu).2⟩⟩
theorem Bx.two {w : World} {b : Nat} {a0 a1 : Value} (h : Bx w b [a0, a1]) : w.cell? ⟨b, 0, none⟩ = some a0 ∧ w.cell? ⟨b, 1, none⟩ = some a1 := ⟨(h.2 0 _ rfl).1, (h.2 1 _ rfl).1⟩
theorem Bx.five {w : World} {b : Nat} {a0 a1 a2 a3 a4 : Value} (h : Bx w b [a0, a1, a2, a3, a4]) : w.cell? ⟨b, 0, none⟩ = some a0 ∧ w.cell? ⟨b, 1, none⟩ = some a1 ∧ w.cell? ⟨b, 2, none⟩ = some a2 ∧ w.cell? ⟨b, 3, none⟩ = some a3 ∧ w.cell? ⟨b, 4, none⟩ = some a4 :=
  ⟨(h.2 0 _ rfl).1, (h.2 1 _ rfl).1, (h.2 2 _ rfl).1, (h.2 3 _ rfl).1, (h.2 4 _ rfl).1⟩
theorem Bx.fiveF {w : World} {b : Nat} {a0 a1 a2 a3 a4 : Value} (h : Bx w b [a0, a1, a2, a3, a4]) : w.frozen? ⟨b, 0, none⟩ = false ∧ w.frozen? ⟨b, 1, none⟩ = false ∧ w.frozen? ⟨b, 2, none⟩ = false ∧ w.frozen? ⟨b, 3, none⟩ = false ∧ w.frozen? ⟨b, 4, none⟩ = false :=
  ⟨(h.2 0 _ rfl).2, (h.2 1 _ rfl).2, (h.2 2 _ rfl).2, (h.2 3 _ rfl).2, (h.2 4 _ rfl).2⟩
theorem Bx.six {w : World} {b : Nat} {a0 a1 a2 a3 a4 a5 : Value} (h : Bx w b [a0, a1, a2, a3, a4, a5]) : w.cell? ⟨b, 0, none⟩ = some a0 ∧ w.cell? ⟨b, 1, none⟩ = some a1 ∧ w.cell? ⟨b, 2, none⟩ = some a2 ∧ w.cell? ⟨b, 3, none⟩ = some a3 ∧ w.cell? ⟨b, 4, none⟩ = some a4 ∧ w.cell? ⟨b, 5, none⟩ = some a5 :=
  ⟨(h.2 0 _ rfl).1, (h.2 1 _ rfl).1, (h.2 2 _ rfl).1, (h.2 3 _ rfl).1, (h.2 4 _ rfl).1, (h.2 5 _ rfl).1⟩
theorem Bx.sixF {w : World} {b : Nat} {a0 a1 a2 a3 a4 a5 : Value} (h : Bx w b [a0, a1, a2, a3, a4, a5]) : w.frozen? ⟨b, 0, none⟩ = false ∧ w.frozen? ⟨b, 1, none⟩ = false ∧ w.frozen? ⟨b, 2, none⟩ = false ∧ w.frozen? ⟨b, 3, none⟩ = false ∧ w.frozen? ⟨b, 4, none⟩ = false ∧ w.frozen? ⟨b, 5, none⟩ = false :=
  ⟨(h.2 0 _ rfl).2, (h.2 1 _ rfl).2, (h.2 2 _ rfl).2, (h.2 3 _ rfl).2, (h.2 4 _ rfl).2, (h.2 5 _ rfl).2⟩

theorem Bx.put5 {w : World} {b : Nat} {a0 a1 a2 a3 a4 : Value} (h : Bx w b [a0, a1, a2, a3, a4]) (x0 x1 x2 x3 x4 : Value) :
    Bx (((((w.setCell ⟨b, 0, none⟩ x0).setCell ⟨b, 1, none⟩ x1).setCell ⟨b, 2, none⟩ x2).setCell ⟨b, 3, none⟩ x3).setCell ⟨b, 4, none⟩ x4) b [x0, x1, x2, x3, x4] :=
  ((((h.set 0 x0).set 1 x1).set 2 x2).set 3 x3).set 4 x4
theorem Bx.put6 {w : World} {b : Nat} {a0 a1 a2 a3 a4 a5 : Value} (h : Bx w b [a0, a1, a2, a3, a4, a5]) (x0 x1 x2 x3 x4 x5 : Value) :
    Bx ((((((w.setCell ⟨b, 0, none⟩ x0).setCell ⟨b, 1, none⟩ x1).setCell ⟨b, 2, none⟩ x2).setCell ⟨b, 3, none⟩ x3).setCell ⟨b, 4, none⟩ x4).setCell ⟨b, 5, none⟩ x5) b [x0, x1, x2, x3, x4, x5] :=
  (((((h.set 0 x0).set 1 x1).set 2 x2).set 3 x3).set 4 x4).set 5 x5
theorem below_set5 {B : Nat} {a w : World} (h : Below B a w) {b : Nat} (hb : B ≤ b) (x0 x1 x2 x3 x4 : Value) :
    Below B a (((((w.setCell ⟨b, 0, none⟩ x0).setCell ⟨b, 1, none⟩ x1).setCell ⟨b, 2, none⟩ x2).setCell ⟨b, 3, none⟩ x3).setCell ⟨b, 4, none⟩ x4) :=
  ((((h.setCell (p := ⟨b, 0, none⟩) hb x0).setCell (p := ⟨b, 1, none⟩) hb x1).setCell (p := ⟨b, 2, none⟩) hb x2).setCell (p := ⟨b, 3, none⟩) hb x3).setCell (p := ⟨b, 4, none⟩) hb x4
theorem Bx.put4 {w : World} {b : Nat} {a0 a1 a2 a3 : Value} (h : Bx w b [a0, a1, a2, a3]) (x0 x1 x2 x3 : Value) :
    Bx ((((w.setCell ⟨b, 0, none⟩ x0).setCell ⟨b, 1, none⟩ x1).setCell ⟨b, 2, none⟩ x2).setCell ⟨b, 3, none⟩ x3) b [x0, x1, x2, x3] :=
  (((h.set 0 x0).set 1 x1).set 2 x2).set 3 x3
theorem Bx.past4 {w : World} {b b' : Nat} {vs : List Value} (h : Bx w b vs) (hne : ¬ b = b') (x0 x1 x2 x3 : Value) :
    Bx ((((w.setCell ⟨b', 0, none⟩ x0).setCell ⟨b', 1, none⟩ x1).setCell ⟨b', 2, none⟩ x2).setCell ⟨b', 3, none⟩ x3) b vs :=
  (((h.other hne 0 x0).other hne 1 x1).other hne 2 x2).other hne 3 x3
theorem Bx.past6 {w : World} {b b' : Nat} {vs : List Value} (h : Bx w b vs) (hne : ¬ b = b') (x0 x1 x2 x3 x4 x5 : Value) :
    Bx ((((((w.setCell ⟨b', 0, none⟩ x0).setCell ⟨b', 1, none⟩ x1).setCell ⟨b', 2, none⟩ x2).setCell ⟨b', 3, none⟩ x3).setCell ⟨b', 4, none⟩ x4).setCell ⟨b', 5, none⟩ x5) b vs :=
  (((((h.other hne 0 x0).other hne 1 x1).other hne 2 x2).other hne 3 x3).other hne 4 x4).other hne 5 x5
theorem below_set4 {B : Nat} {a w : World} (h : Below B a w) {b : Nat} (hb : B ≤ b) (x0 x1 x2 x3 : Value) :
    Below B a ((((w.setCell ⟨b, 0, none⟩ x0).setCell ⟨b, 1, none⟩ x1).setCell ⟨b, 2, none⟩ x2).setCell ⟨b, 3, none⟩ x3) :=
  (((h.setCell (p := ⟨b, 0, none⟩) hb x0).setCell (p := ⟨b, 1, none⟩) hb x1).setCell (p := ⟨b, 2, none⟩) hb x2).setCell (p := ⟨b, 3, none⟩) hb x3
theorem Bx.four {w : World} {b : Nat} {a0 a1 a2 a3 : Value} (h : Bx w b [a0, a1, a2, a3]) : w.cell? ⟨b, 0, none⟩ = some a0 ∧ w.cell? ⟨b, 1, none⟩ = some a1 ∧ w.cell? ⟨b, 2, none⟩ = some a2 ∧ w.cell? ⟨b, 3, none⟩ = some a3 :=
  ⟨(h.2 0 _ rfl).1, (h.2 1 _ rfl).1, (h.2 2 _ rfl).1, (h.2 3 _ rfl).1⟩
/-- what a region keeps: two lists of a realm's box, and the box of a place behind it -/
@[reducible] def SRP (b : Nat) (c0 c2 p0 p1 : Value) (w : World) : Prop :=
  w.cell? ⟨b, 0, none⟩ = some c0 ∧ w.cell? ⟨b, 2, none⟩ = some c2 ∧ w.cell? ⟨b + 1, 0, none⟩ = some p0 ∧ w.cell? ⟨b + 1, 1, none⟩ = some p1 ∧ b + 1 < w.heap.size
theorem SRP_below {b : Nat} {c0 c2 p0 p1 : Value} {v w : World} (hb : Below v.heap.size v w) (h : SRP b c0 c2 p0 p1 v) : SRP b c0 c2 p0 p1 w := by
  obtain ⟨h1, h2, h3, h4, h5⟩ := h
  have g := (bcell hb).1
  exact ⟨by rw [g _ _ (by omega)]; exact h1, by rw [g _ _ (by omega)]; exact h2, by rw [g _ _ (by omega)]; exact h3, by rw [g _ _ (by omega)]; exact h4, Nat.lt_of_lt_of_le h5 hb.size⟩
/-- a realm's lists lie where its slices say -/
structure RmAt (W : World) (aw at_ ah an : Option Addr) (cw ct ch cn : Nat) (r : Rm) : Prop where
  w : WrsAt W aw r.ws
  t : ThsAt W at_ r.ts
  h : HdsAt W ah r.hs
  n : NtsAt W an r.ns
  fw : Fit r.ws.length cw
  ft : Fit r.ts.length ct
  fh : Fit r.hs.length ch
  fn : Fit r.ns.length cn
theorem RmAt.below {w w1 : World} (hb : Below w.heap.size w w1) {aw at_ ah an : Option Addr} {cw ct ch cn : Nat} {r : Rm} (h : RmAt w aw at_ ah an cw ct ch cn r) : RmAt w1 aw at_ ah an cw ct ch cn r :=
  ⟨h.w.below hb, h.t.below hb, h.h.below hb, h.n.below hb, h.fw, h.ft, h.fh, h.fn⟩
/-- a realm that is not too great for the walks -/
structure RmSz (r : Rm) : Prop where
  w : r.ws.length ≤ 1000
  t : r.ts.length ≤ 1000
  h : r.hs.length ≤ 100
  n : r.ns.length ≤ 1000
  nw : 0 ≤ r.nw ∧ r.nw ≤ 1000000
  nt : 0 ≤ r.nt ∧ r.nt ≤ 1000000
/-- two slices lie in blocks of their own -/
def Dist (v v' : Value) : Prop := ∀ k, v.ownBlock = some k → v'.ownBlock ≠ some k
theorem Dist.symm {v v' : Value} (h : Dist v v') : Dist v' v := fun k h1 h2 => h k h2 h1
theorem Dist.kept {w w' : World} {base : Nat} {e : TypeId} {size : Nat} {v v' : Value} {n : Nat} {xs : List Value} (h : w.ownsRow base e size v n xs) (hg : w.grownBy w' v'.ownBlock) (hd : Dist v v') : w'.ownsRow base e size v n xs := by
  refine h.kept hg ?_
  cases hv : v.ownBlock with
  | none => exact .inl rfl
  | some k => exact .inr (fun e => hd k hv e.symm)
theorem Dist.of_lt {w w' : World} {base base' : Nat} {e e' : TypeId} {size size' : Nat} {v v' : Value} {n n' : Nat} {xs xs' : List Value} (h : w.ownsRow base e size v n xs) (h' : w'.ownsRow base' e' size' v' n' xs') (hlt : w.heap.size ≤ base') : Dist v v' := by
  intro k h1 h2
  have := (h.lt k h1).2
  have := (h'.lt k h2).1
  omega
theorem ownsRow_mono {w : World} {base base' : Nat} {e : TypeId} {size : Nat} {v : Value} {n : Nat} {xs : List Value} (h : w.ownsRow base e size v n xs) (hle : base' ≤ base) : w.ownsRow base' e size v n xs := by
  obtain ⟨h1, h2⟩ := h
  refine ⟨h1, ?_⟩
  rcases h2 with h2 | ⟨g, cap, cur, a, b, c⟩
  · exact .inl h2
  · exact .inr ⟨g, cap, cur, a, by omega, c⟩
theorem ownsRow_set_other {w : World} {base : Nat} {e : TypeId} {size : Nat} {v : Value} {n : Nat} {xs : List Value} (h : w.ownsRow base e size v n xs) {b : Nat} (hne : v.ownBlock ≠ some b) (j : Nat) (u : Value) : (w.setCell ⟨b, j, none⟩ u).ownsRow base e size v n xs := by
  obtain ⟨h1, h2⟩ := h
  refine ⟨h1, ?_⟩
  rcases h2 with h2 | ⟨g, cap, cur, hv, hg, hh, r⟩
  · exact .inl h2
  · refine .inr ⟨g, cap, cur, hv, hg, ?_, r⟩
    rw [Below.heap_setCell _ _ _ _ (by intro e; subst e; exact hne (by rw [hv]; rfl))]; exact hh
theorem ownBlock_ne {w : World} {base : Nat} {e : TypeId} {size : Nat} {v : Value} {n : Nat} {xs : List Value} (h : w.ownsRow base e size v n xs) {b : Nat} (hb : b < base) : v.ownBlock ≠ some b := by
  intro e
  have := (h.lt b e).1
  omega
end Go.Proofs.YtikkakdeapbioaaDoor
