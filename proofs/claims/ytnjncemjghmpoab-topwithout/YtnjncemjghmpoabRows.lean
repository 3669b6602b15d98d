/-
  No cell of these rows narrows 'for every input' (looked for: loops, veiled, ifaces, maps, wideKeys, modest, calm, conditions, laid).
  DERIVED. THE GIVEN ROWS OF THIS SEAT. 4 by the template 'for every input the law returns true; each argument reads behind the call as it read before'; 0 by the template 'total and deterministic' (their statements: YtnjncemjghmpoabTotals.lean).
  GIVEN WITH THE SEED: the statements are not yours to turn. If you find one false, say at which input.
  Laid BY PROGRAM, IN A SANDBOX (cutbox-rows.mjs): the forced cells as the released guide's own fill.sh prints them over the translation 6e16237e41632f50… (all of the seat's roots in one cut). By AI agents, Wed Nov 11 2026. No macro, syntax, notation, axiom, sorry.
-/
import Derived.Test.YtnjncemjghmpoabChecked
import GoSem.Claim
import GoSem.ClaimJoined
import GoSem.ClaimMapViews
import Derived.JoinedTies
import Derived.KernelRfl
namespace Go.Proofs.Ytnjncemjghmpoab
/- THE CELL 'sum', in the pinned program and in every row, IS THE sha256 OF THE DUMP (.gsa) THAT YtnjncemjghmpoabProg.lean LOADS. Nothing in Lean hashes anything: it is a label: what it is worth is what the hold of that sum in a sandbox is worth. -/
noncomputable def Try.pinned : Pinned := { name := "ytnjncemjghmpoab", sum := "6e16237e41632f508aa530f53a0af65033f29422e310e367ee2ec4e78f187037", checked := Try.checked }
namespace Rows
def none {H : Type} : Left H := { results := [], args := [] }

/-- 'writkeeptop.TopDerive': WHATEVER THE INPUT: true; the input reads as it did. -/
def topDeriveSpec : ChangeSpec := { name := "topDerive", fn := fun _ => fun
  | [d1, d2, d3, d4, d5, d6, d7] => { results := [.lit (.bool true)], args := [d1, d2, d3, d4, d5, d6, d7] }
  | _ => none }
def topDeriveRow : OpenClaim := { program := "ytnjncemjghmpoab", sum := "6e16237e41632f508aa530f53a0af65033f29422e310e367ee2ec4e78f187037", func := "writkeep/writkeeptop.TopDerive", spec := "topDerive", apart := false }
def TopDeriveSaid : Prop := topDeriveRow.holds Try.pinned (OpenSpec.ofChange topDeriveSpec)

/-- ITS FALSE NEIGHBOUR: 'it returns false'. Refute it at one input. -/
def topDeriveWrong : ChangeSpec := { name := "topDerive", fn := fun _ => fun
  | [d1, d2, d3, d4, d5, d6, d7] => { results := [.lit (.bool false)], args := [d1, d2, d3, d4, d5, d6, d7] }
  | _ => none }
def TopDeriveWrongFalsely : Prop := topDeriveRow.holds Try.pinned (OpenSpec.ofChange topDeriveWrong)

/-- 'writkeeptop.TopBeneath': WHATEVER THE INPUT: true; the input reads as it did. -/
def topBeneathSpec : ChangeSpec := { name := "topBeneath", fn := fun _ => fun
  | [d1, d2, d3] => { results := [.lit (.bool true)], args := [d1, d2, d3] }
  | _ => none }
def topBeneathRow : OpenClaim := { program := "ytnjncemjghmpoab", sum := "6e16237e41632f508aa530f53a0af65033f29422e310e367ee2ec4e78f187037", func := "writkeep/writkeeptop.TopBeneath", spec := "topBeneath", unfollowed := true, recurses := true, apart := false }
def TopBeneathSaid : Prop := topBeneathRow.holds Try.pinned (OpenSpec.ofChange topBeneathSpec)

/-- ITS FALSE NEIGHBOUR: 'it returns false'. Refute it at one input. -/
def topBeneathWrong : ChangeSpec := { name := "topBeneath", fn := fun _ => fun
  | [d1, d2, d3] => { results := [.lit (.bool false)], args := [d1, d2, d3] }
  | _ => none }
def TopBeneathWrongFalsely : Prop := topBeneathRow.holds Try.pinned (OpenSpec.ofChange topBeneathWrong)

/-- 'writkeeptop.TopWithout': WHATEVER THE INPUT: true; the input reads as it did. -/
def topWithoutSpec : ChangeSpec := { name := "topWithout", fn := fun _ => fun
  | [d1, d2] => { results := [.lit (.bool true)], args := [d1, d2] }
  | _ => none }
def topWithoutRow : OpenClaim := { program := "ytnjncemjghmpoab", sum := "6e16237e41632f508aa530f53a0af65033f29422e310e367ee2ec4e78f187037", func := "writkeep/writkeeptop.TopWithout", spec := "topWithout", unfollowed := true, recurses := true, apart := false }
def TopWithoutSaid : Prop := topWithoutRow.holds Try.pinned (OpenSpec.ofChange topWithoutSpec)

/-- ITS FALSE NEIGHBOUR: 'it returns false'. Refute it at one input. -/
def topWithoutWrong : ChangeSpec := { name := "topWithout", fn := fun _ => fun
  | [d1, d2] => { results := [.lit (.bool false)], args := [d1, d2] }
  | _ => none }
def TopWithoutWrongFalsely : Prop := topWithoutRow.holds Try.pinned (OpenSpec.ofChange topWithoutWrong)

/-- 'writkeeptop.TopShelf': WHATEVER THE INPUT: true; the input reads as it did. -/
def topShelfSpec : ChangeSpec := { name := "topShelf", fn := fun _ => fun
  | [d1, d2, d3, d4] => { results := [.lit (.bool true)], args := [d1, d2, d3, d4] }
  | _ => none }
def topShelfRow : OpenClaim := { program := "ytnjncemjghmpoab", sum := "6e16237e41632f508aa530f53a0af65033f29422e310e367ee2ec4e78f187037", func := "writkeep/writkeeptop.TopShelf", spec := "topShelf", unfollowed := true, recurses := true, apart := false }
def TopShelfSaid : Prop := topShelfRow.holds Try.pinned (OpenSpec.ofChange topShelfSpec)

/-- ITS FALSE NEIGHBOUR: 'it returns false'. Refute it at one input. -/
def topShelfWrong : ChangeSpec := { name := "topShelf", fn := fun _ => fun
  | [d1, d2, d3, d4] => { results := [.lit (.bool false)], args := [d1, d2, d3, d4] }
  | _ => none }
def TopShelfWrongFalsely : Prop := topShelfRow.holds Try.pinned (OpenSpec.ofChange topShelfWrong)

/- THE SECOND FORM. 'bulk': how many values and letters a reading holds, each counted each time it is reached (what is shared counts as often as it is met; a slice's spare places count too). A statement '..UptoSaid' is the law's where the arguments, and the package variables that the reading takes, are together of bulk at most 1048576: NARROWER than '..Said'. Prove '..Said' where nothing that the law and all that it calls make is longer than what came in: it says more and counts as full. Else prove '..UptoSaid'. A law counts once. -/
mutual
def uptoBulk {H : Type} : DataW H → Nat
  | .lit (.string bytes) => bytes.length + 1
  | .lit _ => 1
  | .nil => 1
  | .ptr d => uptoBulk d + 1
  | .slice elems spare => uptoBulkAll elems + uptoBulkAll spare + 1
  | .agg parts => uptoBulkAll parts + 1
  | .iface _ d => uptoBulk d + 1
  | .map entries => uptoBulkEntries entries + 1
  | .held _ => 1
def uptoBulkAll {H : Type} : List (DataW H) → Nat
  | [] => 0
  | d :: r => uptoBulk d + uptoBulkAll r
def uptoBulkEntries {H : Type} : List (Lit × DataW H) → Nat
  | [] => 0
  | x :: r => uptoBulkEntry x + uptoBulkEntries r
def uptoBulkEntry {H : Type} : Lit × DataW H → Nat
  | (.string bytes, d) => bytes.length + uptoBulk d + 1
  | (_, d) => uptoBulk d + 1
 end
def uptoSmall : (H : Type) → List (DataW H) → Bool := fun _ ds => decide (uptoBulkAll ds ≤ 1048576)
def OpenSpec.upto (s : _root_.Go.ChangeSpec) : _root_.Go.OpenSpec := { _root_.Go.OpenSpec.ofChange s with cond := some uptoSmall }

/-- 'writkeeptop.TopDerive', WHERE WHAT IT READS IS OF BULK AT MOST 1048576: true; the input reads as it did. -/
def topDeriveUptoRow : OpenClaim := { program := "ytnjncemjghmpoab", sum := "6e16237e41632f508aa530f53a0af65033f29422e310e367ee2ec4e78f187037", func := "writkeep/writkeeptop.TopDerive", spec := "topDerive", apart := false, narrowed := true }
def TopDeriveUptoSaid : Prop := topDeriveUptoRow.holds Try.pinned (OpenSpec.upto topDeriveSpec)

/-- 'writkeeptop.TopBeneath', WHERE WHAT IT READS IS OF BULK AT MOST 1048576: true; the input reads as it did. -/
def topBeneathUptoRow : OpenClaim := { program := "ytnjncemjghmpoab", sum := "6e16237e41632f508aa530f53a0af65033f29422e310e367ee2ec4e78f187037", func := "writkeep/writkeeptop.TopBeneath", spec := "topBeneath", unfollowed := true, recurses := true, apart := false, narrowed := true }
def TopBeneathUptoSaid : Prop := topBeneathUptoRow.holds Try.pinned (OpenSpec.upto topBeneathSpec)

/-- 'writkeeptop.TopWithout', WHERE WHAT IT READS IS OF BULK AT MOST 1048576: true; the input reads as it did. -/
def topWithoutUptoRow : OpenClaim := { program := "ytnjncemjghmpoab", sum := "6e16237e41632f508aa530f53a0af65033f29422e310e367ee2ec4e78f187037", func := "writkeep/writkeeptop.TopWithout", spec := "topWithout", unfollowed := true, recurses := true, apart := false, narrowed := true }
def TopWithoutUptoSaid : Prop := topWithoutUptoRow.holds Try.pinned (OpenSpec.upto topWithoutSpec)

/-- 'writkeeptop.TopShelf', WHERE WHAT IT READS IS OF BULK AT MOST 1048576: true; the input reads as it did. -/
def topShelfUptoRow : OpenClaim := { program := "ytnjncemjghmpoab", sum := "6e16237e41632f508aa530f53a0af65033f29422e310e367ee2ec4e78f187037", func := "writkeep/writkeeptop.TopShelf", spec := "topShelf", unfollowed := true, recurses := true, apart := false, narrowed := true }
def TopShelfUptoSaid : Prop := topShelfUptoRow.holds Try.pinned (OpenSpec.upto topShelfSpec)

end Rows
end Go.Proofs.Ytnjncemjghmpoab
