/- A disk in memory: where it lies, what a store leaves, and the functions of package disk that touch one block alone. -/
import Derived.Test.YtikkakdeapbioaaDoorProg
import Derived.Test.YtikkakdeapbioaaDoorDkPure
import Derived.Deep.MidRow
set_option linter.unusedVariables false
set_option linter.unusedSimpArgs false
set_option linter.unnecessarySimpa false
namespace Go.Proofs.YtikkakdeapbioaaDoor
open Go.RowKit

/-- all blocks but the disk's own are as they were -/
structure Kp (p b1 b2 : Nat) (v : Value) (w w' : World) : Prop where
  os : w'.os = w.os
  tape : w'.tape = w.tape
  output : w'.output = w.output
  size : w.heap.size ≤ w'.heap.size
  block : ∀ k, k < w.heap.size → k ≠ p → k ≠ b1 → k ≠ b2 → v.ownBlock ≠ some k → w'.heap[k]? = w.heap[k]?
/-- the row of what is written lies where it lay, or in a new block -/
def Nx (w : World) (v v' : Value) : Prop := ∀ k, v'.ownBlock = some k → v.ownBlock = some k ∨ w.heap.size ≤ k
theorem Nx.refl (w : World) (v : Value) : Nx w v v := fun _ h => .inl h
theorem Nx.trans {a b : World} {v v' v'' : Value} (h : Nx a v v') (hs : a.heap.size ≤ b.heap.size) (h' : Nx b v' v'') : Nx a v v'' := fun k hk => by
  rcases h' k hk with h1 | h1
  · exact h k h1
  · exact .inr (Nat.le_trans hs h1)
theorem Kp.refl (p b1 b2 : Nat) (v : Value) (w : World) : Kp p b1 b2 v w w := ⟨rfl, rfl, rfl, Nat.le_refl _, fun _ _ _ _ _ _ => rfl⟩
theorem Kp.trans {p b1 b2 : Nat} {v v' : Value} {a b c : World} (h : Kp p b1 b2 v a b) (hn : Nx a v v') (h' : Kp p b1 b2 v' b c) : Kp p b1 b2 v a c :=
  ⟨h'.os.trans h.os, h'.tape.trans h.tape, h'.output.trans h.output, Nat.le_trans h.size h'.size, fun k hk n1 n2 n3 n4 =>
    (h'.block k (Nat.lt_of_lt_of_le hk h.size) n1 n2 n3 (fun e => by rcases hn k e with h1 | h1; exact n4 h1; omega)).trans (h.block k hk n1 n2 n3 n4)⟩
theorem Kp.below {p b1 b2 : Nat} {v : Value} {w w1 w' : World} (h : Kp p b1 b2 v w w1) (hb : Below w1.heap.size w1 w') : Kp p b1 b2 v w w' :=
  ⟨hb.os.trans h.os, hb.tape.trans h.tape, hb.output.trans h.output, Nat.le_trans h.size hb.size, fun k hk n1 n2 n3 n4 => (hb.block k (Nat.lt_of_lt_of_le hk h.size)).trans (h.block k hk n1 n2 n3 n4)⟩
theorem Kp.of_below {p b1 b2 : Nat} {v : Value} {w w' : World} (hb : Below w.heap.size w w') : Kp p b1 b2 v w w' := (Kp.refl p b1 b2 v w).below hb
theorem Kp.to_below {p b1 b2 base : Nat} {v : Value} {w w' : World} (h : Kp p b1 b2 v w w') (h0 : base ≤ p) (h1 : base ≤ b1) (h2 : base ≤ b2) (h3 : ∀ k, v.ownBlock = some k → base ≤ k) (hs : base ≤ w.heap.size) : Below base w w' :=
  ⟨h.os, h.tape, h.output, h.size, fun k hk => h.block k (by omega) (by omega) (by omega) (by omega) (fun e => by have := h3 k e; omega)⟩
theorem Kp.set {p b1 b2 : Nat} {v : Value} {w w' : World} (h : Kp p b1 b2 v w w') (j : Nat) (u : Value) : Kp p b1 b2 v w (w'.setCell ⟨p, j, none⟩ u) :=
  ⟨h.os, h.tape, h.output, by simpa using h.size, fun k hk n1 n2 n3 n4 => by rw [Below.heap_setCell _ _ _ _ (by simpa using n1)]; exact h.block k hk n1 n2 n3 n4⟩
theorem Kp.row {p b1 b2 g : Nat} {v : Value} {w w' : World} (h : Kp p b1 b2 v w w') (hg : g = b1 ∨ g = b2) (cs : Array Value) : Kp p b1 b2 v w (w'.setRow g cs) :=
  ⟨h.os, h.tape, h.output, by simpa using h.size, fun k hk n1 n2 n3 n4 => by rw [setRow_other _ _ _ _ (by rcases hg with rfl | rfl <;> assumption)]; exact h.block k hk n1 n2 n3 n4⟩
/-- the cells of the disk's own block -/
@[reducible] def dcells (b1 b2 n : Nat) (v : Value) (left : Int) (down : Bool) : Array Value := #[.slice (some ⟨b1, 0, none⟩) n n, .slice (some ⟨b2, 0, none⟩) n n, v, .int .i64 left, .bool down]
/-- a disk lies there -/
structure DkAt (w : World) (base p b1 b2 : Nat) (v : Value) (d : Dk) : Prop where
  bp : base ≤ p
  bb1 : base ≤ b1
  bb2 : base ≤ b2
  n12 : b1 ≠ b2
  hp : w.heap[p]? = some (.cells (dcells b1 b2 d.now.length v d.left d.down) 67 (0, 0))
  h1 : w.heap[b1]? = some (.cells (secsV d.now).toArray 88 (0, 0))
  h2 : w.heap[b2]? = some (.cells (secsV d.kept).toArray 88 (0, 0))
  ho : w.ownsRow base 90 49 v d.wr.length (d.wr.flatMap wrV)
  ok : DkOk d
theorem heap_lt {w : World} {k : Nat} {o : Obj} (h : w.heap[k]? = some o) : k < w.heap.size := (Array.getElem?_eq_some_iff.1 h).1
section
variable {w w' : World} {base p b1 b2 : Nat} {v : Value} {d : Dk}
theorem DkAt.p1 (h : DkAt w base p b1 b2 v d) : p ≠ b1 := by
  intro e; have h1 := h.hp; have h2 := h.h1; rw [e, h2] at h1; simp at h1
theorem DkAt.p2 (h : DkAt w base p b1 b2 v d) : p ≠ b2 := by
  intro e; have h1 := h.hp; have h2 := h.h2; rw [e, h2] at h1; simp at h1
theorem DkAt.own_tag (h : DkAt w base p b1 b2 v d) {k : Nat} {cs : Array Value} {t : TypeId} (hk : w.heap[k]? = some (.cells cs t (0, 0))) (ht : t ≠ 90) : v.ownBlock ≠ some k := by
  rcases h.ho.2 with ⟨rfl, _⟩ | ⟨g, cap, cur, rfl, _, hg, _⟩
  · simp [Value.ownBlock]
  · intro e
    simp only [Value.ownBlock, Option.some.injEq] at e
    subst e
    rw [hg] at hk
    simp at hk
    exact ht hk.2.symm
theorem DkAt.vp (h : DkAt w base p b1 b2 v d) : v.ownBlock ≠ some p := h.own_tag h.hp (by decide)
theorem DkAt.v1 (h : DkAt w base p b1 b2 v d) : v.ownBlock ≠ some b1 := h.own_tag h.h1 (by decide)
theorem DkAt.v2 (h : DkAt w base p b1 b2 v d) : v.ownBlock ≠ some b2 := h.own_tag h.h2 (by decide)
theorem DkAt.base_own (h : DkAt w base p b1 b2 v d) : ∀ k, v.ownBlock = some k → base ≤ k := fun k hk => (h.ho.lt k hk).1
theorem DkAt.cells (h : DkAt w base p b1 b2 v d) : w.cell? ⟨p, 0, none⟩ = some (.slice (some ⟨b1, 0, none⟩) d.now.length d.now.length) ∧ w.cell? ⟨p, 1, none⟩ = some (.slice (some ⟨b2, 0, none⟩) d.now.length d.now.length) ∧ w.cell? ⟨p, 2, none⟩ = some v ∧ w.cell? ⟨p, 3, none⟩ = some (.int .i64 d.left) ∧ w.cell? ⟨p, 4, none⟩ = some (.bool d.down) := by
  refine ⟨?_, ?_, ?_, ?_, ?_⟩ <;> · rw [cell_of_row w p _ _ _ _ h.hp]; rfl
theorem DkAt.free (h : DkAt w base p b1 b2 v d) (j : Nat) : w.frozen? ⟨p, j, none⟩ = false := frozen_of_row w p j _ _ h.hp
/-- what leaves the disk's blocks alone leaves the disk -/
theorem DkAt.same (h : DkAt w base p b1 b2 v d) (hb : ∀ k, (k = p ∨ k = b1 ∨ k = b2 ∨ v.ownBlock = some k) → w'.heap[k]? = w.heap[k]?) : DkAt w' base p b1 b2 v d := by
  refine ⟨h.bp, h.bb1, h.bb2, h.n12, (hb _ (.inl rfl)).trans h.hp, (hb _ (.inr (.inl rfl))).trans h.h1, (hb _ (.inr (.inr (.inl rfl)))).trans h.h2, ?_, h.ok⟩
  obtain ⟨e1, e2⟩ := h.ho
  refine ⟨e1, ?_⟩
  rcases e2 with e2 | ⟨g, cap, cur, hv, hg, hh, r⟩
  · exact .inl e2
  · exact .inr ⟨g, cap, cur, hv, hg, (hb g (.inr (.inr (.inr (by rw [hv]; rfl))))).trans hh, r⟩
theorem DkAt.below (h : DkAt w base p b1 b2 v d) (hb : Below w.heap.size w w') : DkAt w' base p b1 b2 v d := by
  refine h.same (fun k hk => hb.block k ?_)
  rcases hk with rfl | rfl | rfl | hk
  · exact heap_lt h.hp
  · exact heap_lt h.h1
  · exact heap_lt h.h2
  · exact (h.ho.lt k hk).2
/-- a field of the disk's own block is stored -/
theorem DkAt.setP (h : DkAt w base p b1 b2 v d) (j : Nat) (u : Value) {v' : Value} {d' : Dk} (hv : (w.setCell ⟨p, j, none⟩ u).ownsRow base 90 49 v' d'.wr.length (d'.wr.flatMap wrV))
    (hn : d'.now = d.now) (hk : d'.kept = d.kept) (hok : DkOk d') (hc : (dcells b1 b2 d.now.length v d.left d.down).setIfInBounds j u = dcells b1 b2 d'.now.length v' d'.left d'.down) : DkAt (w.setCell ⟨p, j, none⟩ u) base p b1 b2 v' d' := by
  refine ⟨h.bp, h.bb1, h.bb2, h.n12, ?_, ?_, ?_, hv, hok⟩
  · rw [setCell_eq_setRow w p j _ _ _ u h.hp, setRow_heap w p _ _ _ _ h.hp, hc]
  · rw [Below.heap_setCell _ _ _ _ (Ne.symm h.p1), hn]; exact h.h1
  · rw [Below.heap_setCell _ _ _ _ (Ne.symm h.p2), hk]; exact h.h2
theorem DkAt.own_set (h : DkAt w base p b1 b2 v d) (j : Nat) (u : Value) : (w.setCell ⟨p, j, none⟩ u).ownsRow base 90 49 v d.wr.length (d.wr.flatMap wrV) := ownsRow_set_other h.ho h.vp j u
theorem DkAt.setDown (h : DkAt w base p b1 b2 v d) (b : Bool) : DkAt (w.setCell ⟨p, 4, none⟩ (.bool b)) base p b1 b2 v ⟨d.now, d.kept, d.wr, d.left, b⟩ :=
  h.setP 4 _ (d' := ⟨d.now, d.kept, d.wr, d.left, b⟩) (h.own_set 4 _) rfl rfl ⟨h.ok.len, h.ok.pos, h.ok.most, h.ok.nows, h.ok.kepts, h.ok.wrs, h.ok.lo, h.ok.hi⟩ rfl
theorem DkAt.setLeft (h : DkAt w base p b1 b2 v d) (n : Int) (h0 : -9223372036854775808 ≤ n) (h1 : n ≤ 9223372036854775807) : DkAt (w.setCell ⟨p, 3, none⟩ (.int .i64 n)) base p b1 b2 v ⟨d.now, d.kept, d.wr, n, d.down⟩ :=
  h.setP 3 _ (d' := ⟨d.now, d.kept, d.wr, n, d.down⟩) (h.own_set 3 _) rfl rfl ⟨h.ok.len, h.ok.pos, h.ok.most, h.ok.nows, h.ok.kepts, h.ok.wrs, h0, h1⟩ rfl
theorem DkAt.setNil (h : DkAt w base p b1 b2 v d) : DkAt (w.setCell ⟨p, 2, none⟩ (.slice none 0 0)) base p b1 b2 (.slice none 0 0) ⟨d.now, d.kept, [], d.left, d.down⟩ :=
  h.setP 2 _ (v' := .slice none 0 0) (d' := ⟨d.now, d.kept, [], d.left, d.down⟩) (World.ownsRow_nil _ _ _ _) rfl rfl ⟨h.ok.len, h.ok.pos, h.ok.most, h.ok.nows, h.ok.kepts, (fun x hx => nomatch hx), h.ok.lo, h.ok.hi⟩ rfl
end
/-- a disk has become another one; nothing else has turned -/
structure DkTo (w w' : World) (base p b1 b2 : Nat) (v v' : Value) (d' : Dk) : Prop where
  at_ : DkAt w' base p b1 b2 v' d'
  kp : Kp p b1 b2 v w w'
  nx : Nx w v v'
theorem DkTo.trans {a b c : World} {base p b1 b2 : Nat} {v v' v'' : Value} {d' d'' : Dk} (h : DkTo a b base p b1 b2 v v' d') (h' : DkTo b c base p b1 b2 v' v'' d'') : DkTo a c base p b1 b2 v v'' d'' :=
  ⟨h'.at_, h.kp.trans h.nx h'.kp, h.nx.trans h.kp.size h'.nx⟩
theorem DkTo.refl {w : World} {base p b1 b2 : Nat} {v : Value} {d : Dk} (h : DkAt w base p b1 b2 v d) : DkTo w w base p b1 b2 v v d := ⟨h, Kp.refl _ _ _ _ _, Nx.refl _ _⟩
theorem DkTo.below {a b c : World} {base p b1 b2 : Nat} {v v' : Value} {d' : Dk} (h : DkTo a b base p b1 b2 v v' d') (hb : Below b.heap.size b c) : DkTo a c base p b1 b2 v v' d' :=
  ⟨h.at_.below hb, h.kp.below hb, h.nx⟩
theorem DkTo.to_below {w w' : World} {base p b1 b2 : Nat} {v v' : Value} {d d' : Dk} (h : DkTo w w' base p b1 b2 v v' d') (h0 : DkAt w base p b1 b2 v d) (hs : base ≤ w.heap.size) : Below base w w' :=
  h.kp.to_below h0.bp h0.bb1 h0.bb2 h0.base_own hs

/-! ### the small functions -/
set_option maxRecDepth 100000 in
theorem sectors_any (base p b1 b2 : Nat) (v : Value) (d : Dk) (w : World) (h : DkAt w base p b1 b2 v d) :
    Calls Tryd.prog 27 #[.pointer (some ⟨p, 0, none⟩)] w fun e w' => e = .returned (.int .i64 d.now.length) ∧ w' = w := by
  obtain ⟨c0, c1, c2, c3, c4⟩ := h.cells
  have hm := h.ok.most
  go_enter Tryd.func27, Tryd.ntmps27
  go_wp2_with fail
  go_ret
  exact ⟨rfl, rfl⟩
set_option maxRecDepth 100000 in
theorem has_dk (base p b1 b2 : Nat) (v : Value) (d : Dk) (at_ : Int) (w : World) (h : DkAt w base p b1 b2 v d) :
    Calls Tryd.prog 38 #[.pointer (some ⟨p, 0, none⟩), .int .i64 at_] w fun e w' => e = .returned (.bool (hasB2 d at_)) ∧ w' = w := by
  obtain ⟨c0, c1, c2, c3, c4⟩ := h.cells
  have hm := h.ok.most
  by_cases h0 : 0 ≤ at_
  · have d0 : decide (0 ≤ at_) = true := decide_eq_true h0
    go_enter Tryd.func38, Tryd.ntmps38
    go_wp2_with fail
    go_ret
    exact ⟨by simp [hasB2, h0], rfl⟩
  · have d0 : decide (0 ≤ at_) = false := decide_eq_false h0
    go_enter Tryd.func38, Tryd.ntmps38
    go_wp2_with fail
    go_ret
    exact ⟨by simp [hasB2]; omega, rfl⟩
set_option maxRecDepth 100000 in
theorem step_dn (base p b1 b2 : Nat) (v : Value) (d : Dk) (w : World) (h : DkAt w base p b1 b2 v d) (hs : stepDn d = true) :
    Calls Tryd.prog 90 #[.pointer (some ⟨p, 0, none⟩)] w fun e w' => e = .returned (.iface 63 (.int .i64 10)) ∧ DkTo w w' base p b1 b2 v v (stepR d) := by
  obtain ⟨c0, c1, c2, c3, c4⟩ := h.cells
  have f3 := h.free 3
  have f4 := h.free 4
  have hlt := heap_lt h.hp
  have lo := h.ok.lo
  have hi := h.ok.hi
  have H : Hid (DkAt w base p b1 b2 v d) := h
  by_cases hl : d.left = 0
  · have hz : (d.left == 0) = true := by simp [hl]
    have HR : Hid (stepR d = ⟨d.now, d.kept, d.wr, d.left, true⟩) := by simp [stepR, hs, Hid]
    clear hl hs
    go_enter Tryd.func90, Tryd.ntmps90
    go_wp2_with fail
    go_ret
    exact ⟨rfl, by rw [HR.out]; exact ⟨H.out.setDown true, (Kp.refl _ _ _ _ _).set _ _, Nx.refl _ _⟩⟩
  · have hz : (d.left == 0) = false := by simp [hl]
    have hd : d.down = true := by simpa [stepDn, hz] using hs
    rw [hd] at c4
    have HR : Hid (stepR d = d) := by simp only [stepR, hs, Hid, if_true]; cases d; simp_all
    clear hd hs hl
    go_enter Tryd.func90, Tryd.ntmps90
    go_wp2_with fail
    go_ret
    exact ⟨rfl, by rw [HR.out]; exact DkTo.refl H.out⟩
set_option maxRecDepth 100000 in
theorem step_go (base p b1 b2 : Nat) (v : Value) (d : Dk) (w : World) (h : DkAt w base p b1 b2 v d) (hs : stepDn d = false) :
    Calls Tryd.prog 90 #[.pointer (some ⟨p, 0, none⟩)] w fun e w' => e = .returned .nilIface ∧ DkTo w w' base p b1 b2 v v (stepR d) := by
  obtain ⟨c0, c1, c2, c3, c4⟩ := h.cells
  have f3 := h.free 3
  have f4 := h.free 4
  have hlt := heap_lt h.hp
  have lo := h.ok.lo
  have hi := h.ok.hi
  have H : Hid (DkAt w base p b1 b2 v d) := h
  obtain ⟨hd, hz⟩ : d.down = false ∧ (d.left == 0) = false := by simpa [stepDn] using hs
  rw [hd] at c4
  by_cases hp : 0 < d.left
  · have HR : Hid (stepR d = ⟨d.now, d.kept, d.wr, d.left - 1, d.down⟩) := by simp [stepR, hs, Hid, hp, hd]
    clear hd hs
    go_enter Tryd.func90, Tryd.ntmps90
    go_wp2_with fail
    go_ret
    exact ⟨rfl, by rw [HR.out]; exact ⟨H.out.setLeft _ (by omega) (by omega), (Kp.refl _ _ _ _ _).set _ _, Nx.refl _ _⟩⟩
  · have HR : Hid (stepR d = d) := by
      cases d with
      | mk n k wr l dn =>
        dsimp only at hp hd
        subst hd
        simp [stepR, hs, Hid, hp]
    clear hd hs
    go_enter Tryd.func90, Tryd.ntmps90
    go_wp2_with fail
    go_ret
    exact ⟨rfl, by rw [HR.out]; exact DkTo.refl H.out⟩
set_option maxRecDepth 100000 in
theorem arm_any (base p b1 b2 : Nat) (v : Value) (d : Dk) (n : Int) (w : World) (h : DkAt w base p b1 b2 v d) (h0 : -9223372036854775808 ≤ n) (h1 : n ≤ 9223372036854775807) :
    Calls Tryd.prog 20 #[.pointer (some ⟨p, 0, none⟩), .int .i64 n] w fun e w' => e = .returned (.tuple #[]) ∧ DkTo w w' base p b1 b2 v v (armR d n) := by
  obtain ⟨c0, c1, c2, c3, c4⟩ := h.cells
  have f3 := h.free 3
  have hlt := heap_lt h.hp
  go_enter Tryd.func20, Tryd.ntmps20
  go_wp2_with fail
  go_end0
  exact ⟨rfl, h.setLeft n h0 h1, (Kp.refl _ _ _ _ _).set _ _, Nx.refl _ _⟩
end Go.Proofs.YtikkakdeapbioaaDoor
