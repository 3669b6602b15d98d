/- What an argument of type api.Place is, opened: plain data. -/
import Derived.Test.YtpmkkmndgicbgaaOpenAct
namespace Go.Proofs.Ytpmkkmndgicbgaa
open Go.ChangeShapes Go.WideShapes Go.ChangeAt Go.RowKit Go.Deep
set_option maxRecDepth 100000
set_option linter.unusedVariables false

theorem open_place {H : Type} {enc : TypeId × Value → H} {w : World} {base : Nat} {spare : Nat → Bool} {held : Bool} {r : Reach} {b0 : Nat} {v : Value} {d : DataW H} {p : List MemPlace}
    (hv : Value.okWide Try.prog w r b0 24 v) (h : DataW.Trod enc Try.prog w base spare held 24 v d p) : ∃ x s : Int, v = .agg #[.int .i64 x, .int .i64 s] := by
  obtain ⟨cs, rfl, hsz⟩ := okWide_struct Try.underlying24 hv
  obtain ⟨fuel, hf⟩ := h
  obtain ⟨x, s, hx⟩ := trod_pl hf
  refine ⟨x, s, ?_⟩
  have hx' : cs.toList = [.int .i64 x, .int .i64 s] := by simpa [Value.cells] using hx
  congr 1
  rw [← Array.toList_inj]; exact hx'
end Go.Proofs.Ytpmkkmndgicbgaa
