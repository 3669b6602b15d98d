/- The writ of a place, whatever it is (Get), in one contract. -/
import Derived.Test.YtpmkkmndgicbgaaGrowLaw
set_option linter.unusedSimpArgs false
set_option linter.unusedVariables false
namespace Go.Proofs.Ytpmkkmndgicbgaa
open Go.RowKit

def GetP (E : TypeId) (r : Rm) (h s : Int) (x : Wr) (ev : Value) : Prop := getC r h s = 0 ∧ x = getW r h s ∧ ev = .nilIface ∨ getC r h s ≠ 0 ∧ x = zeroW ∧ ev = .iface E (.int .i64 (getC r h s))
theorem get_any (aw at_ ah an : Option Addr) (cw ct ch cn : Nat) (r : Rm) (h s : Int) (w : World) (hr : RmAt w aw at_ ah an cw ct ch cn r) (hz : RmSz r) :
    Calls Try.prog 6 #[.agg #[.slice aw r.ws.length cw, .slice at_ r.ts.length ct, .slice ah r.hs.length ch, .slice an r.ns.length cn, .int .i64 r.nw, .int .i64 r.nt], .agg #[.int .i64 h, .int .i64 s]] w
      fun e w' => ∃ (x : Wr) (ev : Value), e = .returned (.tuple #[.agg #[.int .i64 x.id, .int .i64 x.thing, .int .i64 x.rights, .int .i64 x.badge, .int .i64 x.frm], ev]) ∧ GetP 62 r h s x ev ∧ Below w.heap.size w w' := by
  by_cases hc : getC r h s = 0
  · refine (get_ok aw at_ ah an cw ct ch cn r h s w hr hz hc).mono ?_
    rintro e w1 ⟨rfl, hb⟩
    exact ⟨getW r h s, _, rfl, .inl ⟨hc, rfl, rfl⟩, hb⟩
  · refine (get_err aw at_ ah an cw ct ch cn r h s w hr hz hc).mono ?_
    rintro e w1 ⟨rfl, hb⟩
    exact ⟨zeroW, _, rfl, .inr ⟨hc, rfl, rfl⟩, hb⟩
/-- a realm behind at most so many acts -/
theorem rmI_of {k : Nat} {r : Rm} (h : InvK k r) (hk : k ≤ 100) : RmI r := ⟨h.sz hk, h.put, h.wf⟩
end Go.Proofs.Ytpmkkmndgicbgaa
