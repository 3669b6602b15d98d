/- What an argument of type api.Writ, or []api.Writ, is, opened: plain data and where it lies. -/
import Derived.Test.YtnjncemjghmpoaaProg
import Derived.Test.YtnjncemjghmpoaaWr
import Derived.ProofKit
import Derived.Deep.Slices
namespace Go.Proofs.Ytnjncemjghmpoaa
open Go.ChangeShapes Go.WideShapes Go.ChangeAt Go.RowKit Go.Deep
set_option maxRecDepth 100000

theorem cellsWrit : Try.prog.cellsOf 34 = 5 := by kernel_rfl
theorem cellsInt : Try.prog.cellsOf 3 = 1 := by kernel_rfl
theorem list5 {α : Type} {l : List α} (h : l.length = 5) : ∃ a b c d e, l = [a, b, c, d, e] := by
  match l, h with
  | [a, b, c, d, e], _ => exact ⟨a, b, c, d, e, rfl⟩
theorem some_of {α : Type} {l : List α} {i : Nat} (h : i < l.length) : ∃ y, l[i]? = some y := ⟨l[i], List.getElem?_eq_getElem h⟩

theorem lt_of_cell {w : World} {a : Addr} {v : Value} (h : w.cell? a = some v) : a.block < w.heap.size := by
  refine Nat.lt_of_not_le fun hn => ?_
  have : w.heap[a.block]? = none := by simp [hn]
  simp [World.cell?, this] at h

theorem trod_wr {H : Type} {enc : TypeId × Value → H} {w : World} {base : Nat} {spare : Nat → Bool} {held : Bool} {fuel : Nat} {cs : List Value} {y : DataW H × List MemPlace}
    (h : DataW.trod enc Try.prog w base spare held fuel 34 cs = some y) : ∃ x : Wr, cs = [.int .i64 x.id, .int .i64 x.thing, .int .i64 x.rights, .int .i64 x.badge, .int .i64 x.frm] := by
  obtain ⟨xs, n, _, _, hl, hlen, hf⟩ := DataW.trod_struct Try.underlying34 h
  rw [cellsWrit] at hl
  obtain ⟨c0, c1, c2, c3, c4, rfl⟩ := list5 hl
  have g0 : DataW.trod enc Try.prog w base spare held n 3 (([c0, c1, c2, c3, c4].drop 0).take (Try.prog.cellsOf 3)) = xs[0]? := hf 0 _ rfl
  have g1 : DataW.trod enc Try.prog w base spare held n 3 (([c0, c1, c2, c3, c4].drop 1).take (Try.prog.cellsOf 3)) = xs[1]? := hf 1 _ rfl
  have g2 : DataW.trod enc Try.prog w base spare held n 3 (([c0, c1, c2, c3, c4].drop 2).take (Try.prog.cellsOf 3)) = xs[2]? := hf 2 _ rfl
  have g3 : DataW.trod enc Try.prog w base spare held n 3 (([c0, c1, c2, c3, c4].drop 3).take (Try.prog.cellsOf 3)) = xs[3]? := hf 3 _ rfl
  have g4 : DataW.trod enc Try.prog w base spare held n 3 (([c0, c1, c2, c3, c4].drop 4).take (Try.prog.cellsOf 3)) = xs[4]? := hf 4 _ rfl
  have hl5 : xs.length = 5 := hlen
  obtain ⟨y0, e0⟩ := some_of (l := xs) (i := 0) (by omega)
  obtain ⟨y1, e1⟩ := some_of (l := xs) (i := 1) (by omega)
  obtain ⟨y2, e2⟩ := some_of (l := xs) (i := 2) (by omega)
  obtain ⟨y3, e3⟩ := some_of (l := xs) (i := 3) (by omega)
  obtain ⟨y4, e4⟩ := some_of (l := xs) (i := 4) (by omega)
  rw [e0] at g0; rw [e1] at g1; rw [e2] at g2; rw [e3] at g3; rw [e4] at g4
  simp only [cellsInt] at g0 g1 g2 g3 g4
  obtain ⟨n0, k0, _⟩ := DataW.trod_int Try.underlying3 g0
  obtain ⟨n1, k1, _⟩ := DataW.trod_int Try.underlying3 g1
  obtain ⟨n2, k2, _⟩ := DataW.trod_int Try.underlying3 g2
  obtain ⟨n3, k3, _⟩ := DataW.trod_int Try.underlying3 g3
  obtain ⟨n4, k4, _⟩ := DataW.trod_int Try.underlying3 g4
  simp at k0 k1 k2 k3 k4
  exact ⟨⟨n0, n1, n2, n3, n4⟩, by rw [k0, k1, k2, k3, k4]⟩

theorem open_wr {H : Type} {enc : TypeId × Value → H} {w : World} {base : Nat} {spare : Nat → Bool} {held : Bool} {r : Reach} {b0 : Nat} {v : Value} {d : DataW H} {p : List MemPlace}
    (hv : Value.okWide Try.prog w r b0 34 v) (h : DataW.Trod enc Try.prog w base spare held 34 v d p) : ∃ x : Wr, v = .agg #[.int .i64 x.id, .int .i64 x.thing, .int .i64 x.rights, .int .i64 x.badge, .int .i64 x.frm] := by
  obtain ⟨cs, rfl, hsz⟩ := okWide_struct Try.underlying34 hv
  obtain ⟨fuel, hf⟩ := h
  obtain ⟨x, hx⟩ := trod_wr hf
  refine ⟨x, ?_⟩
  have hx' : cs.toList = [.int .i64 x.id, .int .i64 x.thing, .int .i64 x.rights, .int .i64 x.badge, .int .i64 x.frm] := by simpa [Value.cells] using hx
  congr 1
  rw [← Array.toList_inj]; exact hx'

theorem open_wrs {H : Type} {enc : TypeId × Value → H} {w : World} {base : Nat} {spare : Nat → Bool} {held : Bool} {r : Reach} {b0 : Nat} {v : Value} {d : DataW H} {p : List MemPlace}
    (hv : Value.okWide Try.prog w r b0 35 v) (h : DataW.Trod enc Try.prog w base spare held 35 v d p) :
    ∃ (a : Option Addr) (l : List Wr) (c : Nat), v = .slice a l.length c ∧ WrsAt w a l ∧ l.length ≤ maxLen := by
  obtain ⟨a0, len, cap, rfl⟩ := okWide_slice Try.underlying35 hv
  obtain ⟨fuel, hf⟩ := h
  rcases open_slice Try.underlying35 hf with ⟨hcs, _⟩ | ⟨a, len', cap', m, n, D, Pl, hcs, _, hl, hm, hmm, hx, hel⟩
  · simp [Value.cells] at hcs
    obtain ⟨rfl, rfl, rfl⟩ := hcs
    exact ⟨none, [], 0, rfl, .inl rfl, by simp⟩
  · simp [Value.cells] at hcs
    obtain ⟨rfl, rfl, rfl⟩ := hcs
    have hlm : len ≤ m := by rw [hmm]; split <;> omega
    rw [cellsWrit] at hel
    by_cases h0 : len = 0
    · subst h0
      exact ⟨some a, [], cap, rfl, .inl rfl, by simp⟩
    have each : ∀ i, i < len → ∃ x : Wr, w.cell? (a.add (i * 5)) = some (.int .i64 x.id) ∧ w.cell? (a.add (i * 5 + 1)) = some (.int .i64 x.thing) ∧ w.cell? (a.add (i * 5 + 2)) = some (.int .i64 x.rights) ∧ w.cell? (a.add (i * 5 + 3)) = some (.int .i64 x.badge) ∧ w.cell? (a.add (i * 5 + 4)) = some (.int .i64 x.frm) := by
      intro i hi
      obtain ⟨cs', h1, h2⟩ := hel i (by omega)
      obtain ⟨_, hlen, hcell⟩ := World.cells?_some h1
      obtain ⟨x, rfl⟩ := trod_wr h2
      have e0 := hcell 0 (by omega)
      have e1 := hcell 1 (by omega)
      have e2 := hcell 2 (by omega)
      have e3 := hcell 3 (by omega)
      have e4 := hcell 4 (by omega)
      rw [add_add] at e0 e1 e2 e3 e4
      exact ⟨x, by simpa using e0, by simpa using e1, by simpa using e2, by simpa using e3, by simpa using e4⟩
    obtain ⟨f, hfam⟩ := @choose_lt Wr ⟨⟨0, 0, 0, 0, 0⟩⟩ len _ each
    obtain ⟨b, o, spot⟩ := a
    have hspot : spot = none := by simpa [Addr.add] using World.cell?_spot (hfam 0 (by omega)).1
    subst hspot
    refine ⟨some ⟨b, o, none⟩, (List.range len).map f, cap, by simp, .inr ⟨b, o, rfl, ?_, ?_⟩, by simp; omega⟩
    · have := (hfam 0 (by omega)).1
      exact lt_of_cell this
    · intro j x hx'
      have hj : j < len := by
        have := (List.getElem?_eq_some_iff.1 hx').1
        simpa using this
      have hxe : f j = x := by simpa [hj] using hx'
      subst hxe
      have := hfam j hj
      simp only [add_plain] at this
      obtain ⟨c0, c1, c2, c3, c4⟩ := this
      exact ⟨c0, by simpa [Nat.add_assoc] using c1, by simpa [Nat.add_assoc] using c2, by simpa [Nat.add_assoc] using c3, by simpa [Nat.add_assoc] using c4⟩
end Go.Proofs.Ytnjncemjghmpoaa
