/- What arguments of types []api.Change, api.Change are, opened: plain data and where it lies. -/
import Derived.Test.YtjhkabhhlpdpaaaOpenAct
namespace Go.Proofs.Ytjhkabhhlpdpaaa
open Go.ChangeShapes Go.WideShapes Go.ChangeAt Go.RowKit Go.Deep
set_option maxRecDepth 100000
set_option linter.unusedVariables false

theorem open_chs {H : Type} {enc : TypeId × Value → H} {w : World} {base : Nat} {spare : Nat → Bool} {held : Bool} {r : Reach} {b0 : Nat} {v : Value} {d : DataW H} {p : List MemPlace}
    (hv : Value.okWide Try.prog w r b0 38 v) (h : DataW.Trod enc Try.prog w base spare held 38 v d p) :
    ∃ (a : Option Addr) (l : List Ch) (c : Nat), v = .slice a l.length c ∧ ChsAt w a l ∧ l.length ≤ maxLen := by
  obtain ⟨a0, len, cap, rfl⟩ := okWide_slice Try.underlying38 hv
  obtain ⟨fuel, hf⟩ := h
  obtain ⟨a, l, c, hcs, h1, h2⟩ := trod_chs hf
  simp [Value.cells] at hcs
  obtain ⟨rfl, rfl, rfl⟩ := hcs
  exact ⟨a0, l, cap, rfl, h1, h2⟩
theorem open_ch {H : Type} {enc : TypeId × Value → H} {w : World} {base : Nat} {spare : Nat → Bool} {held : Bool} {r : Reach} {b0 : Nat} {v : Value} {d : DataW H} {p : List MemPlace}
    (hv : Value.okWide Try.prog w r b0 56 v) (h : DataW.Trod enc Try.prog w base spare held 56 v d p) : ∃ x : Ch, v = .agg #[.string x.key, .string x.val, .bool x.gone] ∧ x.key.size ≤ maxLen ∧ x.val.size ≤ maxLen := by
  obtain ⟨cs, rfl, hsz⟩ := okWide_struct Try.underlying56 hv
  obtain ⟨fuel, hf⟩ := h
  obtain ⟨x, hx, hok⟩ := trod_ch hf
  refine ⟨x, ?_, hok⟩
  have hx' : cs.toList = [.string x.key, .string x.val, .bool x.gone] := by simpa [Value.cells] using hx
  congr 1
  rw [← Array.toList_inj]; exact hx'
end Go.Proofs.Ytjhkabhhlpdpaaa
