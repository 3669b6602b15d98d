/- What an argument of type [][]api.Change, []api.Change, []string is, opened: plain data and where it lies. -/
import Derived.Test.YtikkakdeapbioaaDoorLogD
import Derived.Test.YtikkakdeapbioaaDoorOpenAct
namespace Go.Proofs.YtikkakdeapbioaaDoor
open Go.ChangeShapes Go.WideShapes Go.ChangeAt Go.RowKit Go.Deep
set_option maxRecDepth 100000
set_option linter.unusedVariables false

theorem ChsAt.no {w : World} {a : Option Addr} {l : List Ch} (h : ChsAt w a l) : ChsB (fun _ => False) w a l := by
  rcases h with h | ⟨b, o, ha, hb, hc⟩
  · exact .inl h
  · exact .inr ⟨b, o, ha, hb, fun h => h, hc⟩
theorem open_dds {H : Type} {enc : TypeId × Value → H} {w : World} {base : Nat} {spare : Nat → Bool} {held : Bool} {r : Reach} {b0 : Nat} {v : Value} {d : DataW H} {p : List MemPlace}
    (hv : Value.okWide Tryd.prog w r b0 51 v) (h : DataW.Trod enc Tryd.prog w base spare held 51 v d p) :
    ∃ (a : Option Addr) (L : List (List Ch)) (c : Nat), v = .slice a L.length c ∧ DdsB (fun _ => False) w a L ∧ L.length ≤ maxLen ∧ ∀ x ∈ L, x.length ≤ maxLen := by
  obtain ⟨a0, len, cap, rfl⟩ := okWide_slice Tryd.underlying51 hv
  obtain ⟨fuel, hf⟩ := h
  rcases open_slice Tryd.underlying51 hf with ⟨hcs, _⟩ | ⟨a, len', cap', m, n, D, Pl, hcs, _, hl, hm, hmm, hx, hel⟩
  · simp [Value.cells] at hcs
    obtain ⟨rfl, rfl, rfl⟩ := hcs
    exact ⟨none, [], 0, rfl, .inl rfl, by simp, (fun x hx => nomatch hx)⟩
  · simp [Value.cells] at hcs
    obtain ⟨rfl, rfl, rfl⟩ := hcs
    have hlm : len ≤ m := by rw [hmm]; split <;> omega
    rw [cellsLC] at hel
    by_cases h0 : len = 0
    · subst h0
      exact ⟨some a, [], cap, rfl, .inl rfl, by simp, (fun x hx => nomatch hx)⟩
    have each : ∀ i, i < len → ∃ y : Option Addr × List Ch × Nat, w.cell? (a.add (i * 1)) = some (.slice y.1 y.2.1.length y.2.2) ∧ ChsAt w y.1 y.2.1 ∧ y.2.1.length ≤ maxLen := by
      intro i hi
      obtain ⟨cs', h1, h2⟩ := hel i (by omega)
      obtain ⟨_, hlen, hcell⟩ := World.cells?_some h1
      obtain ⟨a', l', c', rfl, h3, h4⟩ := trod_chs h2
      have e0 := hcell 0 (by omega)
      rw [add_add] at e0
      exact ⟨(a', l', c'), by simpa using e0, h3, h4⟩
    obtain ⟨f, hfam⟩ := @choose_lt (Option Addr × List Ch × Nat) ⟨(none, [], 0)⟩ len _ each
    obtain ⟨b, o, spot⟩ := a
    have hspot : spot = none := by simpa [Addr.add] using World.cell?_spot (hfam 0 (by omega)).1
    subst hspot
    refine ⟨some ⟨b, o, none⟩, (List.range len).map (fun j => (f j).2.1), cap, by simp, .inr ⟨b, o, rfl, ?_, fun h => h, ?_⟩, by simp; omega, ?_⟩
    · exact lt_of_cell (hfam 0 (by omega)).1
    · intro j x hx'
      have hj : j < len := by
        have := (List.getElem?_eq_some_iff.1 hx').1
        simpa using this
      have hxe : (f j).2.1 = x := by simpa [hj] using hx'
      subst hxe
      have h5 := hfam j hj
      simp only [add_plain] at h5
      exact ⟨(f j).1, (f j).2.2, by simpa using h5.1, h5.2.1.no⟩
    · intro x hx
      obtain ⟨j, hj, rfl⟩ := List.mem_map.1 hx
      exact (hfam j (List.mem_range.1 hj)).2.2
end Go.Proofs.YtikkakdeapbioaaDoor
