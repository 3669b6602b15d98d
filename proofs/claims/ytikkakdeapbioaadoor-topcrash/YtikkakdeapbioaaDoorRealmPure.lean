/- What is done with writs, on plain data: the answers of package realm as functions of lists and numbers; nothing of the program. -/
import Derived.Test.YtikkakdeapbioaaDoorRmData
set_option linter.unusedVariables false
namespace Go.Proofs.YtikkakdeapbioaaDoor
open Go.RowKit

instance (h s : Int) : Decidable (plOk h s) := by unfold plOk; infer_instance
/-- a realm -/
structure Rm where
  ws : List Wr
  ts : List Th
  hs : List Hd
  ns : List Nt
  nw : Int
  nt : Int
def zeroW : Wr := ⟨0, 0, 0, 0, 0⟩
def zeroN : Nt := ⟨0, ByteArray.empty, 0, 0⟩
/-- the writ of a place: its error's number, it (E1) -/
def getC (r : Rm) (h s : Int) : Int := if plOk h s then (if find r.ws (atP r.hs h s) < 0 then 5 else 0) else 1
def getW (r : Rm) (h s : Int) : Wr := match r.ws[(find r.ws (atP r.hs h s)).toNat]? with
  | some x => x
  | none => zeroW
/-- is a place free: its error's number (E2) -/
def freeC (r : Rm) (h s : Int) : Int := if plOk h s then (if atP r.hs h s = 0 then 0 else 6) else 1
/-- Make (E2) -/
def makeC (r : Rm) (h s kind : Int) : Int :=
  if kind ≠ 1 ∧ kind ≠ 2 then 8 else if freeC r h s ≠ 0 then freeC r h s else if 10 ≤ (r.ts.length : Int) ∨ 999 < r.nt ∨ 999 < r.nw then 9 else 0
def makeR (r : Rm) (h s kind : Int) : Rm := ⟨r.ws ++ [⟨r.nw, r.nt, 7, 0, 0⟩], r.ts ++ [⟨r.nt, kind, ByteArray.empty⟩], putL r.hs h s r.nw, r.ns, r.nw + 1, r.nt + 1⟩
/-- Give (E3) -/
def giveC (r : Rm) (h s g t rights badge : Int) : Int :=
  if getC r h s ≠ 0 then getC r h s else if freeC r g t ≠ 0 then freeC r g t else if ¬ g = h ∧ hasB (getW r h s).rights 4 = false then 7 else if 999 < r.nw then 9 else drvCode (getW r h s) rights badge
def giveR (r : Rm) (h s g t rights badge : Int) : Rm := ⟨r.ws ++ [drvW (getW r h s) r.nw rights badge], r.ts, putL r.hs g t r.nw, r.ns, r.nw + 1, r.nt⟩
/-- Move (E3) -/
def moveC (r : Rm) (h s t : Int) : Int := if getC r h s ≠ 0 then getC r h s else freeC r h t
def moveR (r : Rm) (h s t : Int) : Rm := ⟨r.ws, r.ts, putL (putL r.hs h s 0) h t (getW r h s).id, r.ns, r.nw, r.nt⟩
/-- is there a writ of a thing? -/
def hasT (ws : List Wr) (t : Int) : Bool := ws.any fun x => x.thing == t
/-- without the writs of notes -/
def woAll (ws : List Wr) (ns : List Nt) : List Wr := ns.foldl (fun l n => withoutL l n.writ) ws
/-- notes at ports of which there is no writ; the others -/
def lostL (ws : List Wr) (ns : List Nt) : List Nt := ns.filter fun n => !hasT ws n.port
def leftL (ws : List Wr) (ns : List Nt) : List Nt := ns.filter fun n => hasT ws n.port
def sweepN : Nat → List Wr → List Nt → List Wr × List Nt
  | 0, ws, ns => (ws, ns)
  | k + 1, ws, ns => if lostL ws ns = [] then (ws, ns) else sweepN k (woAll ws (lostL ws ns)) (leftL ws ns)
def forgetN (ws : List Wr) (n : Nt) : Nt := if find ws n.writ < 0 then ⟨n.port, n.data, n.badge, 0⟩ else n
/-- swept (E4) -/
def sweepR (r : Rm) : Rm :=
  ⟨(sweepN (r.ns.length + 1) r.ws r.ns).1, r.ts.filter (fun t => hasT (sweepN (r.ns.length + 1) r.ws r.ns).1 t.id), r.hs.filter (fun h => decide (0 ≤ find (sweepN (r.ns.length + 1) r.ws r.ns).1 h.writ)),
    (sweepN (r.ns.length + 1) r.ws r.ns).2.map (forgetN (sweepN (r.ns.length + 1) r.ws r.ns).1), r.nw, r.nt⟩
/-- Drop, Revoke, Quiet (E5, E6) -/
def dropR (r : Rm) (h s : Int) : Rm := sweepR ⟨withoutL r.ws (getW r h s).id, r.ts, r.hs, r.ns, r.nw, r.nt⟩
def revokeR (r : Rm) (h s : Int) : Rm := sweepR ⟨r.ws.filter (fun x => !inB (beneathL r.ws (getW r h s).id) x.id), r.ts, r.hs, r.ns, r.nw, r.nt⟩
def quietR (r : Rm) : Rm := sweepR ⟨woAll r.ws r.ns, r.ts, r.hs, [], r.nw, r.nt⟩
/-- who may (E7) -/
def thIs (t : Int) (x : Th) : Bool := x.id == t
def thAt (r : Rm) (t : Int) : Int := idx (thIs t) r.ts
def kindIs (r : Rm) (t kind : Int) : Bool := match r.ts.find? (thIs t) with
  | some x => x.kind == kind
  | none => false
def whoC (r : Rm) (h s kind rights : Int) : Int :=
  if getC r h s ≠ 0 then getC r h s else if kindIs r (getW r h s).thing kind = false then 8 else if hasB (getW r h s).rights rights = false then 7 else 0
def readD (r : Rm) (h s : Int) : ByteArray := match r.ts.find? (thIs (getW r h s).thing) with
  | some x => x.data
  | none => ByteArray.empty
def writeC (r : Rm) (h s : Int) (d : ByteArray) : Int := if whoC r h s 1 2 ≠ 0 then whoC r h s 1 2 else if 8 < d.size then 2 else 0
def setD (t : Int) (d : ByteArray) : List Th → List Th
  | [] => []
  | x :: l => if x.id = t then ⟨x.id, x.kind, d⟩ :: l else x :: setD t d l
def writeR (r : Rm) (h s : Int) (d : ByteArray) : Rm := ⟨r.ws, setD (getW r h s).thing d r.ts, r.hs, r.ns, r.nw, r.nt⟩
/-- Send (E8) -/
def atPort (t : Int) (n : Nt) : Bool := n.port == t
def waitL (r : Rm) (t : Int) : List Nt := r.ns.filter (atPort t)
def sendC (r : Rm) (h s : Int) (d : ByteArray) (t rights : Int) : Int :=
  if whoC r h s 2 2 ≠ 0 then whoC r h s 2 2 else if 8 < d.size then 2 else if 3 ≤ (waitL r (getW r h s).thing).length then 9 else if t < 0 then 0 else
    if hasB (getW r h s).rights 4 = false then 7 else if getC r h t ≠ 0 then getC r h t else if 999 < r.nw then 9 else drvCode (getW r h t) rights 0
def sendR (r : Rm) (h s : Int) (d : ByteArray) (t rights : Int) : Rm :=
  if t < 0 then ⟨r.ws, r.ts, r.hs, r.ns ++ [⟨(getW r h s).thing, d, (getW r h s).badge, 0⟩], r.nw, r.nt⟩
  else ⟨r.ws ++ [drvW (getW r h t) r.nw rights 0], r.ts, r.hs, r.ns ++ [⟨(getW r h s).thing, d, (getW r h s).badge, r.nw⟩], r.nw + 1, r.nt⟩
/-- Take (E9) -/
def noteAt (r : Rm) (h s : Int) : Nt := match r.ns.find? (atPort (getW r h s).thing) with
  | some n => n
  | none => zeroN
def takeC (r : Rm) (h s : Int) : Int :=
  if whoC r h s 2 1 ≠ 0 then whoC r h s 2 1 else if r.ns.find? (atPort (getW r h s).thing) |>.isNone then 5 else if ¬ (noteAt r h s).writ = 0 ∧ freeP r.hs h < 0 then 9 else 0
def takeSlot (r : Rm) (h s : Int) : Int := if (noteAt r h s).writ = 0 then -1 else freeP r.hs h
def takeR (r : Rm) (h s : Int) : Rm :=
  ⟨r.ws, r.ts, if (noteAt r h s).writ = 0 then r.hs else putL r.hs h (freeP r.hs h) (noteAt r h s).writ, r.ns.eraseIdx (idx (atPort (getW r h s).thing) r.ns).toNat, r.nw, r.nt⟩
end Go.Proofs.YtikkakdeapbioaaDoor
