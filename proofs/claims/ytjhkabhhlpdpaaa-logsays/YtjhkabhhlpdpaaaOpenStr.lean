/- What an argument of type []string is, opened: plain data and where it lies. -/
import Derived.Test.YtjhkabhhlpdpaaaOpenDds
namespace Go.Proofs.Ytjhkabhhlpdpaaa
open Go.ChangeShapes Go.WideShapes Go.ChangeAt Go.RowKit Go.Deep
set_option maxRecDepth 100000
set_option linter.unusedVariables false

theorem open_strs {H : Type} {enc : TypeId × Value → H} {w : World} {base : Nat} {spare : Nat → Bool} {held : Bool} {r : Reach} {b0 : Nat} {v : Value} {d : DataW H} {p : List MemPlace}
    (hv : Value.okWide Try.prog w r b0 49 v) (h : DataW.Trod enc Try.prog w base spare held 49 v d p) :
    ∃ (a : Option Addr) (l : List ByteArray) (c : Nat), v = .slice a l.length c ∧ StrsB (fun _ => False) w a l ∧ l.length ≤ maxLen := by
  obtain ⟨a0, len, cap, rfl⟩ := okWide_slice Try.underlying49 hv
  obtain ⟨fuel, hf⟩ := h
  rcases open_slice Try.underlying49 hf with ⟨hcs, _⟩ | ⟨a, len', cap', m, n, D, Pl, hcs, _, hl, hm, hmm, hx, hel⟩
  · simp [Value.cells] at hcs
    obtain ⟨rfl, rfl, rfl⟩ := hcs
    exact ⟨none, [], 0, rfl, .inl rfl, by simp⟩
  · simp [Value.cells] at hcs
    obtain ⟨rfl, rfl, rfl⟩ := hcs
    have hlm : len ≤ m := by rw [hmm]; split <;> omega
    rw [cellsS] at hel
    by_cases h0 : len = 0
    · subst h0
      exact ⟨some a, [], cap, rfl, .inl rfl, by simp⟩
    have each : ∀ i, i < len → ∃ y : ByteArray, w.cell? (a.add (i * 1)) = some (.string y) ∧ y.size ≤ maxLen := by
      intro i hi
      obtain ⟨cs', h1, h2⟩ := hel i (by omega)
      obtain ⟨_, hlen, hcell⟩ := World.cells?_some h1
      obtain ⟨y, rfl, _, h4⟩ := DataW.trod_string Try.underlying9 h2
      have e0 := hcell 0 (by omega)
      rw [add_add] at e0
      exact ⟨y, by simpa using e0, h4⟩
    obtain ⟨f, hfam⟩ := @choose_lt ByteArray ⟨ByteArray.empty⟩ len _ each
    obtain ⟨b, o, spot⟩ := a
    have hspot : spot = none := by simpa [Addr.add] using World.cell?_spot (hfam 0 (by omega)).1
    subst hspot
    refine ⟨some ⟨b, o, none⟩, (List.range len).map f, cap, by simp, .inr ⟨b, o, rfl, ?_, fun h => h, ?_⟩, by simp; omega⟩
    · exact lt_of_cell (hfam 0 (by omega)).1
    · intro j x hx'
      have hj : j < len := by
        have := (List.getElem?_eq_some_iff.1 hx').1
        simpa using this
      have hxe : f j = x := by simpa [hj] using hx'
      subst hxe
      have h5 := hfam j hj
      simp only [add_plain] at h5
      exact ⟨by simpa using h5.1, h5.2⟩
end Go.Proofs.Ytjhkabhhlpdpaaa
