/-
  No cell of these rows narrows 'for every input' (looked for: loops, veiled, ifaces, maps, wideKeys, modest, calm, conditions, laid).
  DERIVED. THE GIVEN ROWS OF THIS SEAT. 6 by the template 'for every input the law returns true; each argument reads behind the call as it read before'; 0 by the template 'total and deterministic' (their statements: YtihckdndecbefacTotals.lean).
  GIVEN WITH THE SEED: the statements are not yours to turn. If you find one false, say at which input.
  Laid BY PROGRAM, IN A SANDBOX (cutbox-rows.mjs): the forced cells as the released guide's own fill.sh prints them over the translation ec769d4abc806cfb… (all of the seat's roots in one cut). By AI agents, Wed Nov 11 2026. No macro, syntax, notation, axiom, sorry.
-/
import Derived.Test.YtihckdndecbefacChecked
import GoSem.Claim
import GoSem.ClaimJoined
import GoSem.ClaimMapViews
import Derived.JoinedTies
import Derived.KernelRfl
namespace Go.Proofs.Ytihckdndecbefac
/- THE CELL 'sum', in the pinned program and in every row, IS THE sha256 OF THE DUMP (.gsa) THAT YtihckdndecbefacProg.lean LOADS. Nothing in Lean hashes anything: it is a label: what it is worth is what the hold of that sum in a sandbox is worth. -/
noncomputable def Try.pinned : Pinned := { name := "ytihckdndecbefac", sum := "ec769d4abc806cfbe8a90d8a467ff00ce8ba3d26794e7b0a7c9a95de588bfaa1", checked := Try.checked }
namespace Rows
def none {H : Type} : Left H := { results := [], args := [] }

/-- 'writkeeptop.TopNoMore': WHATEVER THE INPUT: true; the input reads as it did. -/
def topNoMoreSpec : ChangeSpec := { name := "topNoMore", fn := fun _ => fun
  | [d] => { results := [.lit (.bool true)], args := [d] }
  | _ => none }
def topNoMoreRow : OpenClaim := { program := "ytihckdndecbefac", sum := "ec769d4abc806cfbe8a90d8a467ff00ce8ba3d26794e7b0a7c9a95de588bfaa1", func := "writkeep/writkeeptop.TopNoMore", spec := "topNoMore", unfollowed := true, recurses := true, apart := false }
def TopNoMoreSaid : Prop := topNoMoreRow.holds Try.pinned (OpenSpec.ofChange topNoMoreSpec)

/-- ITS FALSE NEIGHBOUR: 'it returns false'. Refute it at one input. -/
def topNoMoreWrong : ChangeSpec := { name := "topNoMore", fn := fun _ => fun
  | [d] => { results := [.lit (.bool false)], args := [d] }
  | _ => none }
def TopNoMoreWrongFalsely : Prop := topNoMoreRow.holds Try.pinned (OpenSpec.ofChange topNoMoreWrong)

/-- 'writkeeptop.TopOnce': WHATEVER THE INPUT: true; the input reads as it did. -/
def topOnceSpec : ChangeSpec := { name := "topOnce", fn := fun _ => fun
  | [d] => { results := [.lit (.bool true)], args := [d] }
  | _ => none }
def topOnceRow : OpenClaim := { program := "ytihckdndecbefac", sum := "ec769d4abc806cfbe8a90d8a467ff00ce8ba3d26794e7b0a7c9a95de588bfaa1", func := "writkeep/writkeeptop.TopOnce", spec := "topOnce", unfollowed := true, recurses := true, apart := false }
def TopOnceSaid : Prop := topOnceRow.holds Try.pinned (OpenSpec.ofChange topOnceSpec)

/-- ITS FALSE NEIGHBOUR: 'it returns false'. Refute it at one input. -/
def topOnceWrong : ChangeSpec := { name := "topOnce", fn := fun _ => fun
  | [d] => { results := [.lit (.bool false)], args := [d] }
  | _ => none }
def TopOnceWrongFalsely : Prop := topOnceRow.holds Try.pinned (OpenSpec.ofChange topOnceWrong)

/-- 'writkeeptop.TopAlive': WHATEVER THE INPUT: true; the input reads as it did. -/
def topAliveSpec : ChangeSpec := { name := "topAlive", fn := fun _ => fun
  | [d] => { results := [.lit (.bool true)], args := [d] }
  | _ => none }
def topAliveRow : OpenClaim := { program := "ytihckdndecbefac", sum := "ec769d4abc806cfbe8a90d8a467ff00ce8ba3d26794e7b0a7c9a95de588bfaa1", func := "writkeep/writkeeptop.TopAlive", spec := "topAlive", unfollowed := true, recurses := true, apart := false }
def TopAliveSaid : Prop := topAliveRow.holds Try.pinned (OpenSpec.ofChange topAliveSpec)

/-- ITS FALSE NEIGHBOUR: 'it returns false'. Refute it at one input. -/
def topAliveWrong : ChangeSpec := { name := "topAlive", fn := fun _ => fun
  | [d] => { results := [.lit (.bool false)], args := [d] }
  | _ => none }
def TopAliveWrongFalsely : Prop := topAliveRow.holds Try.pinned (OpenSpec.ofChange topAliveWrong)

/-- 'writkeeptop.TopRevoke': WHATEVER THE INPUT: true; the input reads as it did. -/
def topRevokeSpec : ChangeSpec := { name := "topRevoke", fn := fun _ => fun
  | [d1, d2] => { results := [.lit (.bool true)], args := [d1, d2] }
  | _ => none }
def topRevokeRow : OpenClaim := { program := "ytihckdndecbefac", sum := "ec769d4abc806cfbe8a90d8a467ff00ce8ba3d26794e7b0a7c9a95de588bfaa1", func := "writkeep/writkeeptop.TopRevoke", spec := "topRevoke", unfollowed := true, recurses := true, apart := false }
def TopRevokeSaid : Prop := topRevokeRow.holds Try.pinned (OpenSpec.ofChange topRevokeSpec)

/-- ITS FALSE NEIGHBOUR: 'it returns false'. Refute it at one input. -/
def topRevokeWrong : ChangeSpec := { name := "topRevoke", fn := fun _ => fun
  | [d1, d2] => { results := [.lit (.bool false)], args := [d1, d2] }
  | _ => none }
def TopRevokeWrongFalsely : Prop := topRevokeRow.holds Try.pinned (OpenSpec.ofChange topRevokeWrong)

/-- 'writkeeptop.TopDrop': WHATEVER THE INPUT: true; the input reads as it did. -/
def topDropSpec : ChangeSpec := { name := "topDrop", fn := fun _ => fun
  | [d1, d2] => { results := [.lit (.bool true)], args := [d1, d2] }
  | _ => none }
def topDropRow : OpenClaim := { program := "ytihckdndecbefac", sum := "ec769d4abc806cfbe8a90d8a467ff00ce8ba3d26794e7b0a7c9a95de588bfaa1", func := "writkeep/writkeeptop.TopDrop", spec := "topDrop", unfollowed := true, recurses := true, apart := false }
def TopDropSaid : Prop := topDropRow.holds Try.pinned (OpenSpec.ofChange topDropSpec)

/-- ITS FALSE NEIGHBOUR: 'it returns false'. Refute it at one input. -/
def topDropWrong : ChangeSpec := { name := "topDrop", fn := fun _ => fun
  | [d1, d2] => { results := [.lit (.bool false)], args := [d1, d2] }
  | _ => none }
def TopDropWrongFalsely : Prop := topDropRow.holds Try.pinned (OpenSpec.ofChange topDropWrong)

/-- 'writkeeptop.TopAlone': WHATEVER THE INPUT: true; the input reads as it did. -/
def topAloneSpec : ChangeSpec := { name := "topAlone", fn := fun _ => fun
  | [d1, d2, d3] => { results := [.lit (.bool true)], args := [d1, d2, d3] }
  | _ => none }
def topAloneRow : OpenClaim := { program := "ytihckdndecbefac", sum := "ec769d4abc806cfbe8a90d8a467ff00ce8ba3d26794e7b0a7c9a95de588bfaa1", func := "writkeep/writkeeptop.TopAlone", spec := "topAlone", unfollowed := true, recurses := true, apart := false }
def TopAloneSaid : Prop := topAloneRow.holds Try.pinned (OpenSpec.ofChange topAloneSpec)

/-- ITS FALSE NEIGHBOUR: 'it returns false'. Refute it at one input. -/
def topAloneWrong : ChangeSpec := { name := "topAlone", fn := fun _ => fun
  | [d1, d2, d3] => { results := [.lit (.bool false)], args := [d1, d2, d3] }
  | _ => none }
def TopAloneWrongFalsely : Prop := topAloneRow.holds Try.pinned (OpenSpec.ofChange topAloneWrong)

/- THE SECOND FORM. 'bulk': how many values and letters a reading holds, each counted each time it is reached (what is shared counts as often as it is met; a slice's spare places count too). A statement '..UptoSaid' is the law's where the arguments, and the package variables that the reading takes, are together of bulk at most 1048576: NARROWER than '..Said'. Prove '..Said' where nothing that the law and all that it calls make is longer than what came in: it says more and counts as full. Else prove '..UptoSaid'. A law counts once. -/
mutual
def uptoBulk {H : Type} : DataW H → Nat
  | .lit (.string bytes) => bytes.length + 1
  | .lit _ => 1
  | .nil => 1
  | .ptr d => uptoBulk d + 1
  | .slice elems spare => uptoBulkAll elems + uptoBulkAll spare + 1
  | .agg parts => uptoBulkAll parts + 1
  | .iface _ d => uptoBulk d + 1
  | .map entries => uptoBulkEntries entries + 1
  | .held _ => 1
def uptoBulkAll {H : Type} : List (DataW H) → Nat
  | [] => 0
  | d :: r => uptoBulk d + uptoBulkAll r
def uptoBulkEntries {H : Type} : List (Lit × DataW H) → Nat
  | [] => 0
  | x :: r => uptoBulkEntry x + uptoBulkEntries r
def uptoBulkEntry {H : Type} : Lit × DataW H → Nat
  | (.string bytes, d) => bytes.length + uptoBulk d + 1
  | (_, d) => uptoBulk d + 1
 end
def uptoSmall : (H : Type) → List (DataW H) → Bool := fun _ ds => decide (uptoBulkAll ds ≤ 1048576)
def OpenSpec.upto (s : _root_.Go.ChangeSpec) : _root_.Go.OpenSpec := { _root_.Go.OpenSpec.ofChange s with cond := some uptoSmall }

/-- 'writkeeptop.TopNoMore', WHERE WHAT IT READS IS OF BULK AT MOST 1048576: true; the input reads as it did. -/
def topNoMoreUptoRow : OpenClaim := { program := "ytihckdndecbefac", sum := "ec769d4abc806cfbe8a90d8a467ff00ce8ba3d26794e7b0a7c9a95de588bfaa1", func := "writkeep/writkeeptop.TopNoMore", spec := "topNoMore", unfollowed := true, recurses := true, apart := false, narrowed := true }
def TopNoMoreUptoSaid : Prop := topNoMoreUptoRow.holds Try.pinned (OpenSpec.upto topNoMoreSpec)

/-- 'writkeeptop.TopOnce', WHERE WHAT IT READS IS OF BULK AT MOST 1048576: true; the input reads as it did. -/
def topOnceUptoRow : OpenClaim := { program := "ytihckdndecbefac", sum := "ec769d4abc806cfbe8a90d8a467ff00ce8ba3d26794e7b0a7c9a95de588bfaa1", func := "writkeep/writkeeptop.TopOnce", spec := "topOnce", unfollowed := true, recurses := true, apart := false, narrowed := true }
def TopOnceUptoSaid : Prop := topOnceUptoRow.holds Try.pinned (OpenSpec.upto topOnceSpec)

/-- 'writkeeptop.TopAlive', WHERE WHAT IT READS IS OF BULK AT MOST 1048576: true; the input reads as it did. -/
def topAliveUptoRow : OpenClaim := { program := "ytihckdndecbefac", sum := "ec769d4abc806cfbe8a90d8a467ff00ce8ba3d26794e7b0a7c9a95de588bfaa1", func := "writkeep/writkeeptop.TopAlive", spec := "topAlive", unfollowed := true, recurses := true, apart := false, narrowed := true }
def TopAliveUptoSaid : Prop := topAliveUptoRow.holds Try.pinned (OpenSpec.upto topAliveSpec)

/-- 'writkeeptop.TopRevoke', WHERE WHAT IT READS IS OF BULK AT MOST 1048576: true; the input reads as it did. -/
def topRevokeUptoRow : OpenClaim := { program := "ytihckdndecbefac", sum := "ec769d4abc806cfbe8a90d8a467ff00ce8ba3d26794e7b0a7c9a95de588bfaa1", func := "writkeep/writkeeptop.TopRevoke", spec := "topRevoke", unfollowed := true, recurses := true, apart := false, narrowed := true }
def TopRevokeUptoSaid : Prop := topRevokeUptoRow.holds Try.pinned (OpenSpec.upto topRevokeSpec)

/-- 'writkeeptop.TopDrop', WHERE WHAT IT READS IS OF BULK AT MOST 1048576: true; the input reads as it did. -/
def topDropUptoRow : OpenClaim := { program := "ytihckdndecbefac", sum := "ec769d4abc806cfbe8a90d8a467ff00ce8ba3d26794e7b0a7c9a95de588bfaa1", func := "writkeep/writkeeptop.TopDrop", spec := "topDrop", unfollowed := true, recurses := true, apart := false, narrowed := true }
def TopDropUptoSaid : Prop := topDropUptoRow.holds Try.pinned (OpenSpec.upto topDropSpec)

/-- 'writkeeptop.TopAlone', WHERE WHAT IT READS IS OF BULK AT MOST 1048576: true; the input reads as it did. -/
def topAloneUptoRow : OpenClaim := { program := "ytihckdndecbefac", sum := "ec769d4abc806cfbe8a90d8a467ff00ce8ba3d26794e7b0a7c9a95de588bfaa1", func := "writkeep/writkeeptop.TopAlone", spec := "topAlone", unfollowed := true, recurses := true, apart := false, narrowed := true }
def TopAloneUptoSaid : Prop := topAloneUptoRow.holds Try.pinned (OpenSpec.upto topAloneSpec)

end Rows
end Go.Proofs.Ytihckdndecbefac
