/- A walk's boxes as one fact: the newest first. -/
import Derived.Test.YtddgpgldbekamaaGreatBox
set_option linter.unusedVariables false
set_option linter.unusedSimpArgs false
namespace Go.Proofs.YtddgpgldbekamaaGreat
open Go.RowKit

/-- the boxes of a walk, the newest first: block and cells; what was there ahead is as it was -/
structure Fr (w V : World) (L : List (Nat × List Value)) : Prop where
  bx : ∀ p ∈ L, Bx V p.1 p.2
  lo : ∀ p ∈ L, w.heap.size ≤ p.1
  ch : L.Pairwise (fun p q => q.1 < p.1)
  bl : Below w.heap.size w V
theorem Fr.new (w : World) : Fr w w [] := ⟨(fun _ h => by cases h), (fun _ h => by cases h), List.Pairwise.nil, Below.refl _ _⟩
section
variable {w V V' : World} {L : List (Nat × List Value)}
theorem Fr.below (F : Fr w V L) (hb : Below V.heap.size V V') : Fr w V' L := ⟨fun p hp => (F.bx p hp).below hb, F.lo, F.ch, Below_after F.bl hb⟩
theorem Fr.drew (F : Fr w V L) : Fr w V.drew L := F.below (below_drewN (Below.refl _ _) 1)
/-- a new box -/
theorem Fr.al (F : Fr w V L) (cs : List Value) (t : TypeId) {n : Nat} (hn : V.heap.size = n := by rfl) : Fr w (V.alloc (.cells cs.toArray t)) ((n, cs) :: L) := by
  subst hn
  refine ⟨fun p hp => ?_, fun p hp => ?_, List.pairwise_cons.2 ⟨fun p hp => (F.bx p hp).1, F.ch⟩, F.bl.alloc F.bl.size _⟩
  · rcases List.mem_cons.1 hp with rfl | hp
    · exact Bx.new V cs t
    · exact (F.bx p hp).alloc _
  · rcases List.mem_cons.1 hp with rfl | hp
    · exact F.bl.size
    · exact F.lo p hp
/-- a new block that is no box of the walk's -/
theorem Fr.by (F : Fr w V L) (o : Obj) : Fr w (V.alloc o) L := F.below ((Below.refl _ _).alloc (Nat.le_refl _) o)
theorem Fr.ne (F : Fr w V L) {i k : Nat} {p q : Nat × List Value} (hi : L[i]? = some p) (hk : L[k]? = some q) (h : p.1 = q.1) : i = k := by
  obtain ⟨h1, rfl⟩ := List.getElem?_eq_some_iff.1 hi
  obtain ⟨h2, rfl⟩ := List.getElem?_eq_some_iff.1 hk
  have hp := List.pairwise_iff_getElem.1 F.ch
  rcases Nat.lt_trichotomy i k with h3 | h3 | h3
  · have := hp i k h1 h2 h3; omega
  · exact h3
  · have := hp k i h2 h1 h3; omega
/-- a box's cell is set -/
theorem Fr.set (F : Fr w V L) (i j : Nat) (v : Value) {b : Nat} {c : List Value} (hi : L[i]? = some (b, c) := by rfl) : Fr w (V.setCell ⟨b, j, none⟩ v) (L.set i (b, c.set j v)) := by
  obtain ⟨h1, h2⟩ := List.getElem?_eq_some_iff.1 hi
  have hm : (b, c) ∈ L := h2 ▸ List.getElem_mem h1
  have key : ∀ (k : Nat) (p : Nat × List Value), (L.set i (b, c.set j v))[k]? = some p → ∃ q, L[k]? = some q ∧ p.1 = q.1 ∧ (k = i → p = (b, c.set j v)) ∧ (k ≠ i → p = q) := by
    intro k p hk
    by_cases h : k = i
    · subst h
      rw [List.getElem?_set_self h1] at hk
      cases hk
      exact ⟨_, hi, rfl, fun _ => rfl, fun h => absurd rfl h⟩
    · rw [List.getElem?_set_ne (fun e => h e.symm)] at hk
      exact ⟨p, hk, rfl, fun e => absurd e h, fun _ => rfl⟩
  refine ⟨fun p hp => ?_, fun p hp => ?_, ?_, F.bl.setCell (p := ⟨b, j, none⟩) (F.lo _ hm) v⟩
  · obtain ⟨k, hk⟩ := List.mem_iff_getElem?.1 hp
    obtain ⟨q, hq, e, h3, h4⟩ := key k p hk
    by_cases h : k = i
    · rw [h3 h]; exact (F.bx _ hm).set j v
    · rw [h4 h]; exact (F.bx q (List.mem_of_getElem? hq)).other (fun e' => h (F.ne hq hi e')) j v
  · obtain ⟨k, hk⟩ := List.mem_iff_getElem?.1 hp
    obtain ⟨q, hq, e, -⟩ := key k p hk
    rw [e]; exact F.lo q (List.mem_of_getElem? hq)
  · rw [List.pairwise_iff_getElem]
    intro k m hk hm' hlt
    obtain ⟨q, hq, e, -⟩ := key k _ (List.getElem?_eq_getElem hk)
    obtain ⟨q', hq', e', -⟩ := key m _ (List.getElem?_eq_getElem hm')
    obtain ⟨g1, g2⟩ := List.getElem?_eq_some_iff.1 hq
    obtain ⟨g3, g4⟩ := List.getElem?_eq_some_iff.1 hq'
    have := List.pairwise_iff_getElem.1 F.ch k m g1 g3 hlt
    rw [e, e', ← g2, ← g4]; exact this
/-- all six, all five, all four -/
theorem Fr.set6 (F : Fr w V L) (i : Nat) (x0 x1 x2 x3 x4 x5 : Value) {b : Nat} {a0 a1 a2 a3 a4 a5 : Value} (hi : L[i]? = some (b, [a0, a1, a2, a3, a4, a5]) := by rfl) : Fr w ((((((V.setCell ⟨b, 0, none⟩ x0).setCell ⟨b, 1, none⟩ x1).setCell ⟨b, 2, none⟩ x2).setCell ⟨b, 3, none⟩ x3).setCell ⟨b, 4, none⟩ x4).setCell ⟨b, 5, none⟩ x5) (L.set i (b, [x0, x1, x2, x3, x4, x5])) := by
  have h1 := (List.getElem?_eq_some_iff.1 hi).1
  have s : ∀ (l : List (Nat × List Value)) (x : Nat × List Value), l.length = L.length → (l.set i x)[i]? = some x := fun l x h => List.getElem?_set_self (by omega)
  have := (((((F.set i 0 x0 hi).set i 1 x1 (s _ _ rfl)).set i 2 x2 (s _ _ (by simp))).set i 3 x3 (s _ _ (by simp))).set i 4 x4 (s _ _ (by simp))).set i 5 x5 (s _ _ (by simp))
  simpa [List.set_set] using this
theorem Fr.set4 (F : Fr w V L) (i : Nat) (x0 x1 x2 x3 : Value) {b : Nat} {a0 a1 a2 a3 : Value} (hi : L[i]? = some (b, [a0, a1, a2, a3]) := by rfl) : Fr w ((((V.setCell ⟨b, 0, none⟩ x0).setCell ⟨b, 1, none⟩ x1).setCell ⟨b, 2, none⟩ x2).setCell ⟨b, 3, none⟩ x3) (L.set i (b, [x0, x1, x2, x3])) := by
  have h1 := (List.getElem?_eq_some_iff.1 hi).1
  have s : ∀ (l : List (Nat × List Value)) (x : Nat × List Value), l.length = L.length → (l.set i x)[i]? = some x := fun l x h => List.getElem?_set_self (by omega)
  have := (((F.set i 0 x0 hi).set i 1 x1 (s _ _ rfl)).set i 2 x2 (s _ _ (by simp))).set i 3 x3 (s _ _ (by simp))
  simpa [List.set_set] using this
theorem Fr.grown (F : Fr w V L) {row : Option Nat} (hg : V.grownBy V' row) (hr : ∀ k, row = some k → w.heap.size ≤ k ∧ ∀ p ∈ L, p.1 ≠ k) : Fr w V' L := by
  refine ⟨fun p hp => (F.bx p hp).grown hg (fun e => (hr p.1 e.symm).2 p hp rfl), F.lo, F.ch, F.bl.grown hg F.bl.size (fun k hk => (hr k hk).1)⟩
end
/-- a box as rules of the walk -/
@[reducible] def Bf (V : World) (b : Nat) (c : List Value) : Prop := b < V.heap.size ∧ (∀ j, j < c.length → V.cell? ⟨b, j, none⟩ = c[j]?) ∧ (∀ j, j < c.length → V.frozen? ⟨b, j, none⟩ = false)
theorem Bx.bf {V : World} {b : Nat} {c : List Value} (h : Bx V b c) : Bf V b c :=
  ⟨h.1, fun j hj => by rw [List.getElem?_eq_getElem hj]; exact (h.2 j _ (List.getElem?_eq_getElem hj)).1, fun j hj => (h.2 j _ (List.getElem?_eq_getElem hj)).2⟩
section
variable {w V : World} {b0 b1 b2 b3 b4 b5 b6 b7 : Nat} {c0 c1 c2 c3 c4 c5 c6 c7 : List Value} {L : List (Nat × List Value)}
theorem Fr.b (F : Fr w V L) (i : Nat) {b : Nat} {c : List Value} (hi : L[i]? = some (b, c) := by rfl) : Bx V b c := F.bx (b, c) (List.mem_of_getElem? hi)
theorem Fr.lt (F : Fr w V L) (i k : Nat) {b b' : Nat} {c c' : List Value} (hi : L[i]? = some (b, c) := by rfl) (hk : L[k]? = some (b', c') := by rfl) (h : i < k := by decide) : b' < b := by
  obtain ⟨h1, h2⟩ := List.getElem?_eq_some_iff.1 hi
  obtain ⟨h3, h4⟩ := List.getElem?_eq_some_iff.1 hk
  have := List.pairwise_iff_getElem.1 F.ch i k h1 h3 h
  rw [h2, h4] at this; exact this
theorem Fr.u1 (F : Fr w V ((b0, c0) :: L)) : Bf V b0 c0 ∧ w.heap.size ≤ b0 := ⟨(F.b 0).bf, F.lo _ (List.mem_of_getElem? (i := 0) rfl)⟩
theorem Fr.u2 (F : Fr w V ((b0, c0) :: (b1, c1) :: L)) : Bf V b0 c0 ∧ Bf V b1 c1 ∧ b1 < b0 ∧ w.heap.size ≤ b1 := ⟨(F.b 0).bf, (F.b 1).bf, F.lt 0 1, F.lo _ (List.mem_of_getElem? (i := 1) rfl)⟩
theorem Fr.u3 (F : Fr w V ((b0, c0) :: (b1, c1) :: (b2, c2) :: L)) : Bf V b0 c0 ∧ Bf V b1 c1 ∧ Bf V b2 c2 ∧ b1 < b0 ∧ b2 < b1 ∧ w.heap.size ≤ b2 := ⟨(F.b 0).bf, (F.b 1).bf, (F.b 2).bf, F.lt 0 1, F.lt 1 2, F.lo _ (List.mem_of_getElem? (i := 2) rfl)⟩
theorem Fr.u4 (F : Fr w V ((b0, c0) :: (b1, c1) :: (b2, c2) :: (b3, c3) :: L)) : Bf V b0 c0 ∧ Bf V b1 c1 ∧ Bf V b2 c2 ∧ Bf V b3 c3 ∧ b1 < b0 ∧ b2 < b1 ∧ b3 < b2 ∧ w.heap.size ≤ b3 := ⟨(F.b 0).bf, (F.b 1).bf, (F.b 2).bf, (F.b 3).bf, F.lt 0 1, F.lt 1 2, F.lt 2 3, F.lo _ (List.mem_of_getElem? (i := 3) rfl)⟩
theorem Fr.u5 (F : Fr w V ((b0, c0) :: (b1, c1) :: (b2, c2) :: (b3, c3) :: (b4, c4) :: L)) : Bf V b0 c0 ∧ Bf V b1 c1 ∧ Bf V b2 c2 ∧ Bf V b3 c3 ∧ Bf V b4 c4 ∧ b1 < b0 ∧ b2 < b1 ∧ b3 < b2 ∧ b4 < b3 ∧ w.heap.size ≤ b4 := ⟨(F.b 0).bf, (F.b 1).bf, (F.b 2).bf, (F.b 3).bf, (F.b 4).bf, F.lt 0 1, F.lt 1 2, F.lt 2 3, F.lt 3 4, F.lo _ (List.mem_of_getElem? (i := 4) rfl)⟩
theorem Fr.u6 (F : Fr w V ((b0, c0) :: (b1, c1) :: (b2, c2) :: (b3, c3) :: (b4, c4) :: (b5, c5) :: L)) : Bf V b0 c0 ∧ Bf V b1 c1 ∧ Bf V b2 c2 ∧ Bf V b3 c3 ∧ Bf V b4 c4 ∧ Bf V b5 c5 ∧ b1 < b0 ∧ b2 < b1 ∧ b3 < b2 ∧ b4 < b3 ∧ b5 < b4 ∧ w.heap.size ≤ b5 := ⟨(F.b 0).bf, (F.b 1).bf, (F.b 2).bf, (F.b 3).bf, (F.b 4).bf, (F.b 5).bf, F.lt 0 1, F.lt 1 2, F.lt 2 3, F.lt 3 4, F.lt 4 5, F.lo _ (List.mem_of_getElem? (i := 5) rfl)⟩
theorem Fr.u7 (F : Fr w V ((b0, c0) :: (b1, c1) :: (b2, c2) :: (b3, c3) :: (b4, c4) :: (b5, c5) :: (b6, c6) :: L)) : Bf V b0 c0 ∧ Bf V b1 c1 ∧ Bf V b2 c2 ∧ Bf V b3 c3 ∧ Bf V b4 c4 ∧ Bf V b5 c5 ∧ Bf V b6 c6 ∧ b1 < b0 ∧ b2 < b1 ∧ b3 < b2 ∧ b4 < b3 ∧ b5 < b4 ∧ b6 < b5 ∧ w.heap.size ≤ b6 := ⟨(F.b 0).bf, (F.b 1).bf, (F.b 2).bf, (F.b 3).bf, (F.b 4).bf, (F.b 5).bf, (F.b 6).bf, F.lt 0 1, F.lt 1 2, F.lt 2 3, F.lt 3 4, F.lt 4 5, F.lt 5 6, F.lo _ (List.mem_of_getElem? (i := 6) rfl)⟩
end
section
variable (w : World) (l0 : List Value) (t0 : TypeId) (l1 : List Value) (t1 : TypeId) (l2 : List Value) (t2 : TypeId) (l3 : List Value) (t3 : TypeId) (l4 : List Value) (t4 : TypeId)
/-- a walk's first boxes -/
theorem fr1 : Fr w (w.alloc (.cells l0.toArray t0)) [(w.heap.size, l0)] := (Fr.new w).al l0 t0
theorem fr2 : Fr w ((w.alloc (.cells l0.toArray t0)).alloc (.cells l1.toArray t1)) [(w.heap.size + 1, l1), (w.heap.size, l0)] := (fr1 w l0 t0).al l1 t1 (by simp)
theorem fr3 : Fr w (((w.alloc (.cells l0.toArray t0)).alloc (.cells l1.toArray t1)).alloc (.cells l2.toArray t2)) [(w.heap.size + 1 + 1, l2), (w.heap.size + 1, l1), (w.heap.size, l0)] := (fr2 w l0 t0 l1 t1).al l2 t2 (by simp)
theorem fr4 : Fr w ((((w.alloc (.cells l0.toArray t0)).alloc (.cells l1.toArray t1)).alloc (.cells l2.toArray t2)).alloc (.cells l3.toArray t3)) [(w.heap.size + 1 + 1 + 1, l3), (w.heap.size + 1 + 1, l2), (w.heap.size + 1, l1), (w.heap.size, l0)] := (fr3 w l0 t0 l1 t1 l2 t2).al l3 t3 (by simp)
theorem fr5 : Fr w (((((w.alloc (.cells l0.toArray t0)).alloc (.cells l1.toArray t1)).alloc (.cells l2.toArray t2)).alloc (.cells l3.toArray t3)).alloc (.cells l4.toArray t4)) [(w.heap.size + 1 + 1 + 1 + 1, l4), (w.heap.size + 1 + 1 + 1, l3), (w.heap.size + 1 + 1, l2), (w.heap.size + 1, l1), (w.heap.size, l0)] := (fr4 w l0 t0 l1 t1 l2 t2 l3 t3).al l4 t4 (by simp)
end
end Go.Proofs.YtddgpgldbekamaaGreat
