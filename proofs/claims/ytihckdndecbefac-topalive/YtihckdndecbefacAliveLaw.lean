/- A thing is there just as long as a writ is of it; notes wait at ports: step by step. -/
import Derived.Test.YtihckdndecbefacOnceLaw
set_option linter.unusedVariables false
namespace Go.Proofs.Ytihckdndecbefac
open Go.RowKit

def portOf (p : Int) (t : Th) : Bool := t.id == p && t.kind == 2
theorem any_step {α : Type} {f : α → Bool} {l : List α} {k : Nat} {x : α} (hx : l[k]? = some x) : (l.take (k + 1)).any f = ((l.take k).any f || f x) := by
  rw [List.take_add_one, hx, List.any_append]
  simp
theorem ids_step {l : List Th} {k : Nat} {x : Th} (hx : l[k]? = some x) : (l.take (k + 1)).map (·.id) = (l.take k).map (·.id) ++ [x.id] := by
  rw [List.take_add_one, hx, List.map_append]
  rfl
theorem top_port {r : Rm} (hW : Whole r) {n : Nt} (hn : n ∈ r.ns) : r.ts.any (portOf n.port) = true := by
  obtain ⟨x, hx, e1, e2⟩ := hW.np n hn
  rw [List.any_eq_true]
  exact ⟨x, hx, by simp [portOf, e1, e2]⟩
theorem top_wait {r : Rm} (hW : Whole r) (t : Int) : r.ns.countP (fun y => y.port == t) ≤ 3 := hW.nl t
theorem top_note_writ {r : Rm} (hW : Whole r) {n : Nt} (hn : n ∈ r.ns) : n.writ = 0 ∨ 0 < n.writ ∧ 0 ≤ find r.ws n.writ := by
  rcases hW.nin n hn with e | e
  · exact .inl e
  · obtain ⟨x, hx, ex⟩ := e
    have := (hW.gw.1 x hx).1
    exact .inr ⟨by omega, find_pos_iff.2 ⟨x, hx, ex⟩⟩
end Go.Proofs.Ytihckdndecbefac
