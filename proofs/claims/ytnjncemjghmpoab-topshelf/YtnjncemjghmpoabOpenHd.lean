/- What an argument of type api.Place, or []api.Held, is, opened: plain data and where it lies. -/
import Derived.Test.YtnjncemjghmpoabProg
import Derived.Test.YtnjncemjghmpoabHd
import Derived.ProofKit
import Derived.Deep.Slices
namespace Go.Proofs.Ytnjncemjghmpoab
open Go.ChangeShapes Go.WideShapes Go.ChangeAt Go.RowKit Go.Deep
set_option maxRecDepth 100000

theorem cellsPlace : Try.prog.cellsOf 44 = 2 := by kernel_rfl
theorem cellsHeld : Try.prog.cellsOf 65 = 3 := by kernel_rfl
theorem cellsInt' : Try.prog.cellsOf 3 = 1 := by kernel_rfl
theorem list2 {α : Type} {l : List α} (h : l.length = 2) : ∃ a b, l = [a, b] := by
  match l, h with
  | [a, b], _ => exact ⟨a, b, rfl⟩
theorem list3 {α : Type} {l : List α} (h : l.length = 3) : ∃ a b c, l = [a, b, c] := by
  match l, h with
  | [a, b, c], _ => exact ⟨a, b, c, rfl⟩
theorem some_of' {α : Type} {l : List α} {i : Nat} (h : i < l.length) : ∃ y, l[i]? = some y := ⟨l[i], List.getElem?_eq_getElem h⟩
theorem lt_of_cell' {w : World} {a : Addr} {v : Value} (h : w.cell? a = some v) : a.block < w.heap.size := by
  refine Nat.lt_of_not_le fun hn => ?_
  have : w.heap[a.block]? = none := by simp [hn]
  simp [World.cell?, this] at h

theorem trod_place {H : Type} {enc : TypeId × Value → H} {w : World} {base : Nat} {spare : Nat → Bool} {held : Bool} {fuel : Nat} {cs : List Value} {y : DataW H × List MemPlace}
    (h : DataW.trod enc Try.prog w base spare held fuel 44 cs = some y) : ∃ x s : Int, cs = [.int .i64 x, .int .i64 s] := by
  obtain ⟨xs, n, _, _, hl, hlen, hf⟩ := DataW.trod_struct Try.underlying44 h
  rw [cellsPlace] at hl
  obtain ⟨c0, c1, rfl⟩ := list2 hl
  have g0 : DataW.trod enc Try.prog w base spare held n 3 (([c0, c1].drop 0).take (Try.prog.cellsOf 3)) = xs[0]? := hf 0 _ rfl
  have g1 : DataW.trod enc Try.prog w base spare held n 3 (([c0, c1].drop 1).take (Try.prog.cellsOf 3)) = xs[1]? := hf 1 _ rfl
  have hl2 : xs.length = 2 := hlen
  obtain ⟨y0, e0⟩ := some_of' (l := xs) (i := 0) (by omega)
  obtain ⟨y1, e1⟩ := some_of' (l := xs) (i := 1) (by omega)
  rw [e0] at g0; rw [e1] at g1
  simp only [cellsInt'] at g0 g1
  obtain ⟨n0, k0, _⟩ := DataW.trod_int Try.underlying3 g0
  obtain ⟨n1, k1, _⟩ := DataW.trod_int Try.underlying3 g1
  simp at k0 k1
  exact ⟨n0, n1, by rw [k0, k1]⟩
theorem trod_hd {H : Type} {enc : TypeId × Value → H} {w : World} {base : Nat} {spare : Nat → Bool} {held : Bool} {fuel : Nat} {cs : List Value} {y : DataW H × List MemPlace}
    (h : DataW.trod enc Try.prog w base spare held fuel 65 cs = some y) : ∃ x : Hd, cs = [.int .i64 x.holder, .int .i64 x.slot, .int .i64 x.writ] := by
  obtain ⟨xs, n, _, _, hl, hlen, hf⟩ := DataW.trod_struct Try.underlying65 h
  rw [cellsHeld] at hl
  obtain ⟨c0, c1, c2, rfl⟩ := list3 hl
  have g0 : DataW.trod enc Try.prog w base spare held n 44 (([c0, c1, c2].drop 0).take (Try.prog.cellsOf 44)) = xs[0]? := hf 0 _ rfl
  have g1 : DataW.trod enc Try.prog w base spare held n 3 (([c0, c1, c2].drop 2).take (Try.prog.cellsOf 3)) = xs[1]? := hf 1 _ rfl
  have hl2 : xs.length = 2 := hlen
  obtain ⟨y0, e0⟩ := some_of' (l := xs) (i := 0) (by omega)
  obtain ⟨y1, e1⟩ := some_of' (l := xs) (i := 1) (by omega)
  rw [e0] at g0; rw [e1] at g1
  simp only [cellsInt'] at g1
  simp only [cellsPlace] at g0
  obtain ⟨n0, n1, k0⟩ := trod_place g0
  obtain ⟨n2, k2, _⟩ := DataW.trod_int Try.underlying3 g1
  simp at k0 k2
  obtain ⟨k0, k1⟩ := k0
  exact ⟨⟨n0, n1, n2⟩, by rw [k0, k1, k2]⟩
theorem open_place {H : Type} {enc : TypeId × Value → H} {w : World} {base : Nat} {spare : Nat → Bool} {held : Bool} {r : Reach} {b0 : Nat} {v : Value} {d : DataW H} {p : List MemPlace}
    (hv : Value.okWide Try.prog w r b0 44 v) (h : DataW.Trod enc Try.prog w base spare held 44 v d p) : ∃ x s : Int, v = .agg #[.int .i64 x, .int .i64 s] := by
  obtain ⟨cs, rfl, hsz⟩ := okWide_struct Try.underlying44 hv
  obtain ⟨fuel, hf⟩ := h
  obtain ⟨x, s, hx⟩ := trod_place hf
  refine ⟨x, s, ?_⟩
  have hx' : cs.toList = [.int .i64 x, .int .i64 s] := by simpa [Value.cells] using hx
  congr 1
  rw [← Array.toList_inj]; exact hx'
theorem open_hds {H : Type} {enc : TypeId × Value → H} {w : World} {base : Nat} {spare : Nat → Bool} {held : Bool} {r : Reach} {b0 : Nat} {v : Value} {d : DataW H} {p : List MemPlace}
    (hv : Value.okWide Try.prog w r b0 42 v) (h : DataW.Trod enc Try.prog w base spare held 42 v d p) :
    ∃ (a : Option Addr) (l : List Hd) (c : Nat), v = .slice a l.length c ∧ HdsAt w a l ∧ l.length ≤ maxLen := by
  obtain ⟨a0, len, cap, rfl⟩ := okWide_slice Try.underlying42 hv
  obtain ⟨fuel, hf⟩ := h
  rcases open_slice Try.underlying42 hf with ⟨hcs, _⟩ | ⟨a, len', cap', m, n, D, Pl, hcs, _, hl, hm, hmm, hx, hel⟩
  · simp [Value.cells] at hcs
    obtain ⟨rfl, rfl, rfl⟩ := hcs
    exact ⟨none, [], 0, rfl, .inl rfl, by simp⟩
  · simp [Value.cells] at hcs
    obtain ⟨rfl, rfl, rfl⟩ := hcs
    have hlm : len ≤ m := by rw [hmm]; split <;> omega
    rw [cellsHeld] at hel
    by_cases h0 : len = 0
    · subst h0
      exact ⟨some a, [], cap, rfl, .inl rfl, by simp⟩
    have each : ∀ i, i < len → ∃ x : Hd, w.cell? (a.add (i * 3)) = some (.int .i64 x.holder) ∧ w.cell? (a.add (i * 3 + 1)) = some (.int .i64 x.slot) ∧ w.cell? (a.add (i * 3 + 2)) = some (.int .i64 x.writ) := by
      intro i hi
      obtain ⟨cs', h1, h2⟩ := hel i (by omega)
      obtain ⟨_, hlen, hcell⟩ := World.cells?_some h1
      obtain ⟨x, rfl⟩ := trod_hd h2
      have e0 := hcell 0 (by omega)
      have e1 := hcell 1 (by omega)
      have e2 := hcell 2 (by omega)
      rw [add_add] at e0 e1 e2
      exact ⟨x, by simpa using e0, by simpa using e1, by simpa using e2⟩
    obtain ⟨f, hfam⟩ := @choose_lt Hd ⟨⟨0, 0, 0⟩⟩ len _ each
    obtain ⟨b, o, spot⟩ := a
    have hspot : spot = none := by simpa [Addr.add] using World.cell?_spot (hfam 0 (by omega)).1
    subst hspot
    refine ⟨some ⟨b, o, none⟩, (List.range len).map f, cap, by simp, .inr ⟨b, o, rfl, ?_, ?_⟩, by simp; omega⟩
    · have := (hfam 0 (by omega)).1
      exact lt_of_cell' this
    · intro j x hx'
      have hj : j < len := by
        have := (List.getElem?_eq_some_iff.1 hx').1
        simpa using this
      have hxe : f j = x := by simpa [hj] using hx'
      subst hxe
      have := hfam j hj
      simp only [add_plain] at this
      obtain ⟨c0, c1, c2⟩ := this
      exact ⟨c0, by simpa [Nat.add_assoc] using c1, by simpa [Nat.add_assoc] using c2⟩
end Go.Proofs.Ytnjncemjghmpoab
