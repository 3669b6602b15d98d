/- Disks by their feet, strings, changes and deeds in memory, logs in memory. -/
import Derived.Test.YtikkakdeapbioaaDoorLogS
set_option linter.unusedVariables false
namespace Go.Proofs.YtikkakdeapbioaaDoor
open Go.RowKit

def dkF (p b1 b2 : Nat) (v : Value) : Nat → Prop := fun k => k = p ∨ k = b1 ∨ k = b2 ∨ v.ownBlock = some k
/-- a disk lies there, on these blocks -/
def DkO (w : World) (B : Nat → Prop) (p : Nat) (d : Dk) : Prop := ∃ b1 b2 v, DkAt w 0 p b1 b2 v d ∧ B = dkF p b1 b2 v
theorem DkO.ok {w : World} {B : Nat → Prop} {p : Nat} {d : Dk} (h : DkO w B p d) : DkOk d := by obtain ⟨b1, b2, v, h, -⟩ := h; exact h.ok
theorem DkO.lt {w : World} {B : Nat → Prop} {p : Nat} {d : Dk} (h : DkO w B p d) : Lt B w := by
  obtain ⟨b1, b2, v, h, rfl⟩ := h
  intro k hk
  rcases hk with rfl | rfl | rfl | hk
  · exact heap_lt h.hp
  · exact heap_lt h.h1
  · exact heap_lt h.h2
  · exact (h.ho.lt k hk).2
theorem DkO.same {w w' : World} {B : Nat → Prop} {p : Nat} {d : Dk} (h : DkO w B p d) (hk : ∀ k, B k → w'.heap[k]? = w.heap[k]?) : DkO w' B p d := by
  obtain ⟨b1, b2, v, h, rfl⟩ := h
  exact ⟨b1, b2, v, h.same (fun k hk' => hk k hk'), rfl⟩
theorem DkO.below {w w' : World} {B : Nat → Prop} {p : Nat} {d : Dk} (h : DkO w B p d) (hb : Below w.heap.size w w') : DkO w' B p d := h.same (fun k hk => hb.block k (h.lt k hk))
theorem DkO.drew {w : World} {B : Nat → Prop} {p : Nat} {d : Dk} (h : DkO w B p d) : DkO w.drew B p d := h.same (fun _ _ => rfl)
/-- a step beside the disk -/
theorem DkO.past {w w' : World} {B C C' : Nat → Prop} {p : Nat} {d : Dk} (h : DkO w B p d) (ht : Tr C C' w w') (hd : Dj C B) : DkO w' B p d := h.same (ht.keep hd h.lt)
theorem DkTo.tr {w w' : World} {p b1 b2 : Nat} {v v' : Value} {d' : Dk} (h : DkTo w w' 0 p b1 b2 v v' d') : DkO w' (dkF p b1 b2 v') p d' ∧ Tr (dkF p b1 b2 v) (dkF p b1 b2 v') w w' := by
  refine ⟨⟨b1, b2, v', h.at_, rfl⟩, h.kp.os, h.kp.tape, h.kp.output, h.kp.size, fun k hk hn => h.kp.block k hk (fun e => hn (.inl e)) (fun e => hn (.inr (.inl e))) (fun e => hn (.inr (.inr (.inl e)))) (fun e => hn (.inr (.inr (.inr e)))), fun k hk => ?_⟩
  rcases hk with hk | hk | hk | hk
  · exact .inl (.inl hk)
  · exact .inl (.inr (.inl hk))
  · exact .inl (.inr (.inr (.inl hk)))
  · rcases h.nx k hk with h1 | h1
    · exact .inl (.inr (.inr (.inr h1)))
    · exact .inr h1
theorem write_o (B : Nat → Prop) (p : Nat) (d : Dk) (at_ : Int) (s : ByteArray) (w : World) (h : DkO w B p d) (hm : s.size ≤ maxLen) (hw : d.wr.length ≤ 1000000) :
    Calls Tryd.prog 76 #[.pointer (some ⟨p, 0, none⟩), .int .i64 at_, .string s] w fun e w' => ∃ B', e = .returned (errV (wrC d at_ s)) ∧ DkO w' B' p (wrR d at_ s) ∧ Tr B B' w w' := by
  obtain ⟨b1, b2, v, h, rfl⟩ := h
  refine (write_any 0 p b1 b2 v d at_ s w h hm hw).mono ?_
  rintro e w' ⟨v', rfl, hT⟩
  exact ⟨_, rfl, hT.tr⟩
theorem flush_o (B : Nat → Prop) (p : Nat) (d : Dk) (w : World) (h : DkO w B p d) :
    Calls Tryd.prog 77 #[.pointer (some ⟨p, 0, none⟩)] w fun e w' => ∃ B', e = .returned (errV (flC d)) ∧ DkO w' B' p (flR d) ∧ Tr B B' w w' := by
  obtain ⟨b1, b2, v, h, rfl⟩ := h
  refine (flush_any 0 p b1 b2 v d w h).mono ?_
  rintro e w' ⟨v', rfl, hT⟩
  exact ⟨_, rfl, hT.tr⟩
theorem read_o (B : Nat → Prop) (p : Nat) (d : Dk) (at_ : Int) (w : World) (h : DkO w B p d) :
    Calls Tryd.prog 25 #[.pointer (some ⟨p, 0, none⟩), .int .i64 at_] w fun e w' => e = .returned (.tuple #[.string (rdS d at_), errV (rdC d at_)]) ∧ w' = w := by
  obtain ⟨b1, b2, v, h, rfl⟩ := h
  exact read_any 0 p b1 b2 v d at_ w h
theorem sectors_o (B : Nat → Prop) (p : Nat) (d : Dk) (w : World) (h : DkO w B p d) :
    Calls Tryd.prog 27 #[.pointer (some ⟨p, 0, none⟩)] w fun e w' => e = .returned (.int .i64 d.now.length) ∧ w' = w := by
  obtain ⟨b1, b2, v, h, rfl⟩ := h
  exact sectors_any 0 p b1 b2 v d w h
theorem arm_o (B : Nat → Prop) (p : Nat) (d : Dk) (n : Int) (w : World) (h : DkO w B p d) (h0 : -9223372036854775808 ≤ n) (h1 : n ≤ 9223372036854775807) :
    Calls Tryd.prog 20 #[.pointer (some ⟨p, 0, none⟩), .int .i64 n] w fun e w' => ∃ B', e = .returned (.tuple #[]) ∧ DkO w' B' p (armR d n) ∧ Tr B B' w w' := by
  obtain ⟨b1, b2, v, h, rfl⟩ := h
  refine (arm_any 0 p b1 b2 v d n w h h0 h1).mono ?_
  rintro e w' ⟨rfl, hT⟩
  exact ⟨_, rfl, hT.tr⟩
theorem restart_o (B : Nat → Prop) (p : Nat) (d : Dk) (keep : Nat) (w : World) (h : DkO w B p d) (hw : d.wr.length ≤ 1000000) (hkp : keep < 18446744073709551616) :
    Calls Tryd.prog 23 #[.pointer (some ⟨p, 0, none⟩), .int .u64 (keep : Int)] w fun e w' => ∃ B', e = .returned (.tuple #[]) ∧ DkO w' B' p (reR d keep) ∧ Tr B B' w w' := by
  obtain ⟨b1, b2, v, h, rfl⟩ := h
  refine (restart_any 0 p b1 b2 v d keep w h hw hkp).mono ?_
  rintro e w' ⟨rfl, hT⟩
  exact ⟨_, rfl, hT.tr⟩
theorem DkAt.zero {w : World} {base p b1 b2 : Nat} {v : Value} {d : Dk} (h : DkAt w base p b1 b2 v d) : DkAt w 0 p b1 b2 v d := ⟨Nat.zero_le _, Nat.zero_le _, Nat.zero_le _, h.n12, h.hp, h.h1, h.h2, ownsRow_mono h.ho (Nat.zero_le _), h.ok⟩
theorem new_o (n : Nat) (w : World) (h1 : 1 ≤ n) (h2 : n ≤ 200) :
    Calls Tryd.prog 7 #[.int .i64 (n : Int)] w fun e w' => ∃ p B, e = .returned (.tuple #[.pointer (some ⟨p, 0, none⟩), .nilIface]) ∧ DkO w' B p (newD n) ∧ (∀ k, B k → w.heap.size ≤ k) ∧ Below w.heap.size w w' := by
  refine (new_go n w h1 h2).mono ?_
  rintro e w' ⟨p, b1, b2, rfl, hA, hb⟩
  refine ⟨p, _, rfl, ⟨b1, b2, _, hA.zero, rfl⟩, fun k hk => ?_, hb⟩
  rcases hk with rfl | rfl | rfl | hk
  · exact hA.bp
  · exact hA.bb1
  · exact hA.bb2
  · cases hk

/-! ### lists beside the disk -/
def StrsB (B : Nat → Prop) (w : World) (a : Option Addr) (l : List ByteArray) : Prop :=
  l = [] ∨ ∃ b o, a = some ⟨b, o, none⟩ ∧ b < w.heap.size ∧ ¬ B b ∧ ∀ j s, l[j]? = some s → w.cell? ⟨b, o + j, none⟩ = some (.string s) ∧ s.size ≤ maxLen
def ChsB (B : Nat → Prop) (w : World) (a : Option Addr) (l : List Ch) : Prop :=
  l = [] ∨ ∃ b o, a = some ⟨b, o, none⟩ ∧ b < w.heap.size ∧ ¬ B b ∧ ∀ j x, l[j]? = some x → ChAt w b (o + j * 3) x
def DdsB (B : Nat → Prop) (w : World) (a : Option Addr) (L : List (List Ch)) : Prop :=
  L = [] ∨ ∃ b o, a = some ⟨b, o, none⟩ ∧ b < w.heap.size ∧ ¬ B b ∧ ∀ j x, L[j]? = some x → ∃ a' c', w.cell? ⟨b, o + j, none⟩ = some (.slice a' x.length c') ∧ ChsB B w a' x
theorem StrsB.tr {B B' : Nat → Prop} {w w' : World} {a : Option Addr} {l : List ByteArray} (h : StrsB B w a l) (ht : Tr B B' w w') : StrsB B' w' a l := by
  rcases h with h | ⟨b, o, ha, hb, hn, hc⟩
  · exact .inl h
  · obtain ⟨h1, h2, h3⟩ := ht.out hb hn
    exact .inr ⟨b, o, ha, h1, h2, fun j s hs => ⟨by rw [ht.cell hb hn]; exact (hc j s hs).1, (hc j s hs).2⟩⟩
theorem ChAt.at_same {w w' : World} {b o : Nat} {x : Ch} (h : ChAt w b o x) (hk : w'.heap[b]? = w.heap[b]?) : ChAt w' b o x := by
  obtain ⟨⟨h1, h2, h3⟩, h4⟩ := h
  exact ⟨⟨(World.cell?_of_block (a := ⟨b, _, none⟩) hk).trans h1, (World.cell?_of_block (a := ⟨b, _, none⟩) hk).trans h2, (World.cell?_of_block (a := ⟨b, _, none⟩) hk).trans h3⟩, h4⟩
theorem ChsB.tr {B B' : Nat → Prop} {w w' : World} {a : Option Addr} {l : List Ch} (h : ChsB B w a l) (ht : Tr B B' w w') : ChsB B' w' a l := by
  rcases h with h | ⟨b, o, ha, hb, hn, hc⟩
  · exact .inl h
  · obtain ⟨h1, h2, h3⟩ := ht.out hb hn
    exact .inr ⟨b, o, ha, h1, h2, fun j x hx => (hc j x hx).at_same h3⟩
theorem ChsB.at_ {B : Nat → Prop} {w : World} {a : Option Addr} {l : List Ch} (h : ChsB B w a l) : ChsAt w a l := by
  rcases h with h | ⟨b, o, ha, hb, hn, hc⟩
  · exact .inl h
  · exact .inr ⟨b, o, ha, hb, hc⟩
theorem ChsB.mono {B C : Nat → Prop} {w : World} {a : Option Addr} {l : List Ch} (h : ChsB B w a l) (hc : ∀ k, k < w.heap.size → C k → B k) : ChsB C w a l := by
  rcases h with h | ⟨b, o, ha, hb, hn, hcc⟩
  · exact .inl h
  · exact .inr ⟨b, o, ha, hb, fun e => hn (hc b hb e), hcc⟩
theorem ChsAt.outside {base : Nat} {B : Nat → Prop} {w0 w : World} {a : Option Addr} {l : List Ch} (h : ChsAt w0 a l) (hb : Below w0.heap.size w0 w) (hB : ∀ k, B k → w0.heap.size ≤ k) : ChsB B w a l := by
  rcases h with h | ⟨b, o, ha, hlt, hc⟩
  · exact .inl h
  · exact .inr ⟨b, o, ha, Nat.lt_of_lt_of_le hlt hb.size, fun e => by have := hB b e; omega, fun j x hx => (hc j x hx).below hb hlt⟩
theorem DdsB.tr {B B' : Nat → Prop} {w w' : World} {a : Option Addr} {L : List (List Ch)} (h : DdsB B w a L) (ht : Tr B B' w w') : DdsB B' w' a L := by
  rcases h with h | ⟨b, o, ha, hb, hn, hc⟩
  · exact .inl h
  · obtain ⟨h1, h2, h3⟩ := ht.out hb hn
    exact .inr ⟨b, o, ha, h1, h2, fun j x hx => by
      obtain ⟨a', c', k1, k2⟩ := hc j x hx
      exact ⟨a', c', by rw [ht.cell hb hn]; exact k1, k2.tr ht⟩⟩
theorem DdsB.mono {B C : Nat → Prop} {w : World} {a : Option Addr} {L : List (List Ch)} (h : DdsB B w a L) (hc : ∀ k, k < w.heap.size → C k → B k) : DdsB C w a L := by
  rcases h with h | ⟨b, o, ha, hb, hn, hcc⟩
  · exact .inl h
  · exact .inr ⟨b, o, ha, hb, fun e => hn (hc b hb e), fun j x hx => by
      obtain ⟨a', c', k1, k2⟩ := hcc j x hx
      exact ⟨a', c', k1, k2.mono hc⟩⟩
/-! ### a log -/
structure Lg where
  frm : Nat
  many : Nat
  first : Nat
  used : Nat
@[reducible] def lgCells (p : Nat) (l : Lg) : Array Value := #[.pointer (some ⟨p, 0, none⟩), .int .i64 l.frm, .int .i64 l.many, .int .i64 l.first, .int .i64 l.used]
def LgAt (w : World) (q p : Nat) (l : Lg) : Prop := w.heap[q]? = some (.cells (lgCells p l) 110 (0, 0))
theorem LgAt.cells {w : World} {q p : Nat} {l : Lg} (h : LgAt w q p l) : w.cell? ⟨q, 0, none⟩ = some (.pointer (some ⟨p, 0, none⟩)) ∧ w.cell? ⟨q, 1, none⟩ = some (.int .i64 l.frm) ∧ w.cell? ⟨q, 2, none⟩ = some (.int .i64 l.many) ∧ w.cell? ⟨q, 3, none⟩ = some (.int .i64 l.first) ∧ w.cell? ⟨q, 4, none⟩ = some (.int .i64 l.used) := by
  refine ⟨?_, ?_, ?_, ?_, ?_⟩ <;> · rw [cell_of_row w q _ _ _ _ h]; rfl
theorem LgAt.free {w : World} {q p : Nat} {l : Lg} (h : LgAt w q p l) (j : Nat) : w.frozen? ⟨q, j, none⟩ = false := frozen_of_row w q j _ _ h
theorem LgAt.set {w : World} {q p : Nat} {l : Lg} (h : LgAt w q p l) (u : Nat) : LgAt (w.setCell ⟨q, 4, none⟩ (.int .i64 (u : Int))) q p ⟨l.frm, l.many, l.first, u⟩ := by
  unfold LgAt
  rw [setCell_eq_setRow w q 4 _ _ _ _ h, setRow_heap w q _ _ _ _ h]
  rfl
theorem LgAt.tr {w w' : World} {B B' : Nat → Prop} {q p : Nat} {l : Lg} (h : LgAt w q p l) (ht : Tr B B' w w') (hn : ¬ B q) : LgAt w' q p l ∧ ¬ B' q := ⟨(ht.out (heap_lt h) hn).2.2.trans h, (ht.out (heap_lt h) hn).2.1⟩
theorem LgAt.below {w w' : World} {q p : Nat} {l : Lg} (h : LgAt w q p l) (hb : Below w.heap.size w w') : LgAt w' q p l := (hb.block q (heap_lt h)).trans h
/-! ### what is written -/
def lwrs (d : Dk) (at_ : Nat) : List ByteArray → Dk × Int
  | [] => (d, 0)
  | s :: r => if wrC d at_ s = 0 then lwrs (wrR d at_ s) (at_ + 1) r else (wrR d at_ s, wrC d at_ s)
def lgW (d : Dk) (at_ : Nat) (ss : List ByteArray) : Dk × Int := if (lwrs d at_ ss).2 = 0 then (flR (lwrs d at_ ss).1, flC (lwrs d at_ ss).1) else lwrs d at_ ss
/-- the first error of changes -/
def chksC : List Ch → Int
  | [] => 0
  | c :: r => if chkC c = 0 then chksC r else chkC c
/-- a deed's sectors, from the number n on -/
def dChs (n : Nat) : List Ch → List (List UInt8)
  | [] => []
  | c :: r => secL 111 n (chL c) :: dChs (n + 1) r
def deedL (n : Nat) (l : List Ch) : List (List UInt8) := dChs n l ++ [secL 99 (n + l.length) (leL l.length 4)]
def deedS (n : Nat) (l : List Ch) : List ByteArray := (deedL n l).map strOf
def addN (lg : Lg) (l : List Ch) : Nat := min (l.length + 2) (lg.many - lg.used)
def addR (d : Dk) (lg : Lg) (l : List Ch) : Dk × Lg × Int :=
  if 62 < l.length then (d, lg, 2)
  else if lg.many - lg.used < l.length + 1 then (d, lg, 9)
  else if chksC l ≠ 0 then (d, lg, chksC l)
  else
    let x := lgW d (lg.frm + lg.used) (List.replicate (addN lg l) ⟨#[]⟩)
    if x.2 ≠ 0 then (x.1, lg, x.2)
    else
      let y := lgW x.1 (lg.frm + lg.used) (deedS (lg.first + lg.used) l)
      if y.2 ≠ 0 then (y.1, lg, y.2) else (y.1, ⟨lg.frm, lg.many, lg.first, lg.used + (l.length + 1)⟩, 0)
end Go.Proofs.YtikkakdeapbioaaDoor
