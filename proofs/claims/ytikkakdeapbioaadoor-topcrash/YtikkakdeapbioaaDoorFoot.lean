/- Blocks that belong together (a foot), and what a step leaves alone: laws on worlds; nothing of the program. -/
import Derived.Test.YtikkakdeapbioaaDoorBox
set_option linter.unusedVariables false
namespace Go.Proofs.YtikkakdeapbioaaDoor
open Go.RowKit

/-- of the blocks that were there just those of B may have turned; B has become B' -/
structure Tr (B B' : Nat → Prop) (w w' : World) : Prop where
  os : w'.os = w.os
  tape : w'.tape = w.tape
  output : w'.output = w.output
  size : w.heap.size ≤ w'.heap.size
  block : ∀ k, k < w.heap.size → ¬ B k → w'.heap[k]? = w.heap[k]?
  fr : ∀ k, B' k → B k ∨ w.heap.size ≤ k
def Un (B C : Nat → Prop) : Nat → Prop := fun k => B k ∨ C k
def Dj (B C : Nat → Prop) : Prop := ∀ k, B k → ¬ C k
def Lt (B : Nat → Prop) (w : World) : Prop := ∀ k, B k → k < w.heap.size
def On (b : Nat) : Nat → Prop := fun k => k = b
theorem Tr.refl (B : Nat → Prop) (w : World) : Tr B B w w := ⟨rfl, rfl, rfl, Nat.le_refl _, fun _ _ _ => rfl, fun _ h => .inl h⟩
theorem Tr.trans {B B' B'' : Nat → Prop} {a b c : World} (h : Tr B B' a b) (h' : Tr B' B'' b c) : Tr B B'' a c :=
  ⟨h'.os.trans h.os, h'.tape.trans h.tape, h'.output.trans h.output, Nat.le_trans h.size h'.size,
   fun k hk hn => (h'.block k (Nat.lt_of_lt_of_le hk h.size) (fun e => by rcases h.fr k e with h1 | h1; exact hn h1; omega)).trans (h.block k hk hn),
   fun k hk => by rcases h'.fr k hk with h1 | h1; exact h.fr k h1; exact .inr (Nat.le_trans h.size h1)⟩
theorem Tr.of_below {B : Nat → Prop} {a b : World} (h : Below a.heap.size a b) : Tr B B a b :=
  ⟨h.os, h.tape, h.output, h.size, fun k hk _ => h.block k hk, fun _ h => .inl h⟩
theorem Tr.below {B B' : Nat → Prop} {a b c : World} (h : Tr B B' a b) (hb : Below b.heap.size b c) : Tr B B' a c := h.trans (Tr.of_below hb)
theorem Tr.drew (B : Nat → Prop) (w : World) : Tr B B w w.drew := Tr.of_below (below_drewN (Below.refl _ _) 1)
theorem Tr.alloc (B : Nat → Prop) (w : World) (o : Obj) : Tr B B w (w.alloc o) := Tr.of_below ((Below.refl _ _).alloc (Nat.le_refl _) o)
/-- a new block is counted in -/
theorem Tr.grow {B B' : Nat → Prop} {a b : World} (h : Tr B B' a b) {g : Nat} (hg : a.heap.size ≤ g) : Tr B (Un B' (On g)) a b :=
  ⟨h.os, h.tape, h.output, h.size, h.block, fun k hk => by rcases hk with hk | hk; exact h.fr k hk; exact .inr (by unfold On at hk; omega)⟩
theorem Tr.mono {B B' C : Nat → Prop} {a b : World} (h : Tr B B' a b) (hc : ∀ k, C k → B' k) : Tr B C a b := ⟨h.os, h.tape, h.output, h.size, h.block, fun k hk => h.fr k (hc k hk)⟩
theorem Tr.wide {B B' C : Nat → Prop} {a b : World} (h : Tr B B' a b) (hc : ∀ k, B k → C k) : Tr C B' a b := ⟨h.os, h.tape, h.output, h.size, fun k hk hn => h.block k hk (fun e => hn (hc k e)), fun k hk => by rcases h.fr k hk with h1 | h1; exact .inl (hc k h1); exact .inr h1⟩
/-- what stands beside it is carried along -/
theorem Tr.frame {B B' : Nat → Prop} {a b : World} (h : Tr B B' a b) (C : Nat → Prop) : Tr (Un B C) (Un B' C) a b :=
  ⟨h.os, h.tape, h.output, h.size, fun k hk hn => h.block k hk (fun e => hn (.inl e)), fun k hk => by
    rcases hk with hk | hk
    · rcases h.fr k hk with h1 | h1
      · exact .inl (.inl h1)
      · exact .inr h1
    · exact .inl (.inr hk)⟩
theorem Tr.setCell {B : Nat → Prop} (w : World) {g : Nat} (hg : B g) (j : Nat) (u : Value) : Tr B B w (w.setCell ⟨g, j, none⟩ u) :=
  ⟨rfl, rfl, rfl, by simp, fun k hk hn => Below.heap_setCell _ _ _ _ (fun e => hn (by simpa [e] using hg)), fun _ h => .inl h⟩
theorem Tr.grown {B : Nat → Prop} {w w' : World} {row : Option Nat} (h : w.grownBy w' row) (hr : ∀ k, row = some k → B k) : Tr B B w w' :=
  ⟨h.os, h.tape, h.output, h.size, fun k hk hn => h.block k hk (fun e => hn (hr k e.symm)), fun _ h => .inl h⟩
theorem Tr.to_below {B B' : Nat → Prop} {a b : World} {base : Nat} (h : Tr B B' a b) (hB : ∀ k, B k → base ≤ k) (hs : base ≤ a.heap.size) : Below base a b :=
  ⟨h.os, h.tape, h.output, h.size, fun k hk => h.block k (by omega) (fun e => by have := hB k e; omega)⟩
theorem Tr.base {B B' : Nat → Prop} {a b : World} {base : Nat} (h : Tr B B' a b) (hB : ∀ k, B k → base ≤ k) (hs : base ≤ a.heap.size) : ∀ k, B' k → base ≤ k := fun k hk => by
  rcases h.fr k hk with h1 | h1
  · exact hB k h1
  · omega
theorem Tr.dj {B B' C : Nat → Prop} {a b : World} (h : Tr B B' a b) (hd : Dj B C) (hc : Lt C a) : Dj B' C := fun k hk hk' => by
  rcases h.fr k hk with h1 | h1
  · exact hd k h1 hk'
  · have := hc k hk'; omega
theorem Tr.keep {B B' C : Nat → Prop} {a b : World} (h : Tr B B' a b) (hd : Dj B C) (hc : Lt C a) : ∀ k, C k → b.heap[k]? = a.heap[k]? := fun k hk => h.block k (hc k hk) (fun e => hd k e hk)
theorem Tr.lt {B B' C : Nat → Prop} {a b : World} (h : Tr B B' a b) (hc : Lt C a) : Lt C b := fun k hk => Nat.lt_of_lt_of_le (hc k hk) h.size
/-- a block beside it -/
theorem Tr.out {B B' : Nat → Prop} {a b : World} (h : Tr B B' a b) {k : Nat} (hk : k < a.heap.size) (hn : ¬ B k) : k < b.heap.size ∧ ¬ B' k ∧ b.heap[k]? = a.heap[k]? :=
  ⟨Nat.lt_of_lt_of_le hk h.size, fun e => by rcases h.fr k e with h1 | h1; exact hn h1; omega, h.block k hk hn⟩
theorem Tr.cell {B B' : Nat → Prop} {a b : World} (h : Tr B B' a b) {k j : Nat} (hk : k < a.heap.size) (hn : ¬ B k) : b.cell? ⟨k, j, none⟩ = a.cell? ⟨k, j, none⟩ := World.cell?_of_block (a := ⟨k, j, none⟩) (h.block k hk hn)
end Go.Proofs.YtikkakdeapbioaaDoor
