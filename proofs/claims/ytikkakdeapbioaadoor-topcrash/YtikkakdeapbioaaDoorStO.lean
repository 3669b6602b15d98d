/- store: Rows, Room, Checkpoint. -/
/- A store as one object: Checkpoint, Rows, Room; Format; Open. -/
import Derived.Test.YtikkakdeapbioaaDoorStL
set_option linter.unusedVariables false
set_option linter.unusedSimpArgs false
set_option linter.unnecessarySimpa false
namespace Go.Proofs.YtikkakdeapbioaaDoor
open Go.RowKit

@[reducible] def stC (p : Nat) (h : Hd3) (q : Nat) (v : Value) : Array Value := #[.pointer (some ⟨p, 0, none⟩), .int .i64 (h.half : Int), .int .i64 (h.first : Int), .int .i64 (h.size : Int), .pointer (some ⟨q, 0, none⟩), v]
/-- a store lies there -/
def StAt (w : World) (s p : Nat) (h : Hd3) (q : Nat) (v : Value) : Prop := w.heap[s]? = some (.cells (stC p h q v) 81 (0, 0))
theorem StAt.cells {w : World} {s p q : Nat} {h : Hd3} {v : Value} (hs : StAt w s p h q v) : w.cell? ⟨s, 0, none⟩ = some (.pointer (some ⟨p, 0, none⟩)) ∧ w.cell? ⟨s, 1, none⟩ = some (.int .i64 (h.half : Int)) ∧ w.cell? ⟨s, 2, none⟩ = some (.int .i64 (h.first : Int)) ∧ w.cell? ⟨s, 3, none⟩ = some (.int .i64 (h.size : Int)) ∧ w.cell? ⟨s, 4, none⟩ = some (.pointer (some ⟨q, 0, none⟩)) ∧ w.cell? ⟨s, 5, none⟩ = some v := by
  refine ⟨?_, ?_, ?_, ?_, ?_, ?_⟩ <;> · rw [cell_of_row w s _ _ _ _ hs]; rfl
theorem StAt.free {w : World} {s p q : Nat} {h : Hd3} {v : Value} (hs : StAt w s p h q v) (j : Nat) : w.frozen? ⟨s, j, none⟩ = false := frozen_of_row w s j _ _ hs
theorem StAt.below {w w' : World} {s p q : Nat} {h : Hd3} {v : Value} (hs : StAt w s p h q v) (hb : Below w.heap.size w w') : StAt w' s p h q v := (hb.block s (heap_lt hs)).trans hs
theorem StAt.tr {B B' : Nat → Prop} {w w' : World} {s p q : Nat} {h : Hd3} {v : Value} (hs : StAt w s p h q v) (ht : Tr B B' w w') (hn : ¬ B s) : StAt w' s p h q v ∧ ¬ B' s := ⟨(ht.out (heap_lt hs) hn).2.2.trans hs, (ht.out (heap_lt hs) hn).2.1⟩
theorem StAt.set1 {w : World} {s p q : Nat} {h : Hd3} {v : Value} (hs : StAt w s p h q v) (h' : Hd3) (q' : Nat) : StAt ((((w.setCell ⟨s, 1, none⟩ (.int .i64 (h'.half : Int))).setCell ⟨s, 2, none⟩ (.int .i64 (h'.first : Int))).setCell ⟨s, 3, none⟩ (.int .i64 (h'.size : Int))).setCell ⟨s, 4, none⟩ (.pointer (some ⟨q', 0, none⟩))) s p h' q' v := by
  have one : ∀ {W : World} {cs : Array Value} (hh : W.heap[s]? = some (.cells cs 81 (0, 0))) (j : Nat) (u : Value), (W.setCell ⟨s, j, none⟩ u).heap[s]? = some (.cells (cs.setIfInBounds j u) 81 (0, 0)) := fun {W cs} hh j u => by
    rw [setCell_eq_setRow W s j _ _ _ _ hh, setRow_heap W s _ _ _ _ hh]
  exact one (one (one (one hs 1 _) 2 _) 3 _) 4 _
theorem StAt.past3 {w : World} {s p q : Nat} {h : Hd3} {v : Value} (hs : StAt w s p h q v) {b : Nat} (hne : s ≠ b) (u0 u1 u2 : Value) : StAt (((w.setCell ⟨b, 0, none⟩ u0).setCell ⟨b, 1, none⟩ u1).setCell ⟨b, 2, none⟩ u2) s p h q v :=
  (Below.heap_setCell _ _ _ _ (fun e => hne e)).trans ((Below.heap_setCell _ _ _ _ (fun e => hne e)).trans ((Below.heap_setCell _ _ _ _ (fun e => hne e)).trans hs))
theorem StAt.set5 {w : World} {s p q : Nat} {h : Hd3} {v : Value} (hs : StAt w s p h q v) (v' : Value) : StAt (w.setCell ⟨s, 5, none⟩ v') s p h q v' := by
  unfold StAt
  rw [setCell_eq_setRow w s 5 _ _ _ _ hs, setRow_heap w s _ _ _ _ hs]
  rfl
set_option maxHeartbeats 4000000 in
set_option maxRecDepth 100000 in
theorem rowsS_any (s p q : Nat) (h : Hd3) (a : Option Addr) (c : Nat) (rows : List Ch) (w : World) (hs : StAt w s p h q (.slice a rows.length c)) (hw : ChsAt w a rows) (hl : rows.length ≤ 1000) :
    Calls Tryd.prog 16 #[.pointer (some ⟨s, 0, none⟩)] w fun e w' => ∃ v, e = .returned v ∧ w'.ownsRow w.heap.size 61 3 v rows.length (rows.flatMap chC) ∧ Below w.heap.size w w' := by
  obtain ⟨c0, c1, c2, c3, c4, c5⟩ := hs.cells
  have hz := heap_lt hs
  have hcl := clone_c a c rows w hw (by omega)
  clear hs hw
  go_enter Tryd.func16, Tryd.ntmps16
  go_wp2_with fail
  refine hcl.mono ?_
  rintro e w1 ⟨v, rfl, h1, h2⟩
  obtain ⟨va, vc, rfl⟩ := own_form h1
  go_wp2_with fail
  go_ret
  exact ⟨_, rfl, h1, h2⟩
set_option maxHeartbeats 4000000 in
set_option maxRecDepth 100000 in
theorem roomS_any (s p q : Nat) (h : Hd3) (v : Value) (lg : Lg) (w : World) (hs : StAt w s p h q v) (hq : LgAt w q p lg) (h1 : lg.many ≤ 100000) (h2 : lg.used ≤ 100000) :
    Calls Tryd.prog 14 #[.pointer (some ⟨s, 0, none⟩)] w fun e w' => e = .returned (.int .i64 ((lg.many : Int) - (lg.used : Int))) ∧ Below w.heap.size w w' := by
  obtain ⟨c0, c1, c2, c3, c4, c5⟩ := hs.cells
  have hz := heap_lt hs
  have hcl := room_any p q lg w hq h1 h2
  clear hs hq
  go_enter Tryd.func14, Tryd.ntmps14
  go_wp2_with fail
  refine hcl.mono ?_
  rintro e w1 ⟨rfl, h2⟩
  go_wp2_with fail
  go_ret
  exact ⟨rfl, h2⟩
/-- the head that a checkpoint begins with -/
def ckH (h : Hd3) (lg : Lg) : Hd3 := ⟨1 - h.half, lg.first + lg.many, 0⟩
set_option maxHeartbeats 4000000 in
set_option maxRecDepth 100000 in
theorem ck_bad (B : Nat → Prop) (s p q : Nat) (d : Dk) (h : Hd3) (lg : Lg) (a : Option Addr) (c : Nat) (rows : List Ch) (w : World) (hd : DkO w B p d) (hs : StAt w s p h q (.slice a rows.length c)) (hns : ¬ B s) (hq : LgAt w q p lg) (hch : ChsAt w a rows) (hg : ∀ x ∈ rows, chkC x = 0) (hl : rows.length ≤ 60) (h1 : h.half ≤ 1) (hm1 : lg.many ≤ 100000) (hm2 : lg.first ≤ 1000000000) (hlay : ∀ W, DkO W B p d → ChsAt W a rows → Calls Tryd.prog 31 #[.pointer (some ⟨p, 0, none⟩), hdV (ckH h lg), .slice a rows.length c] W fun e w' => ∃ B', e = .returned (.tuple #[zh, .pointer none, errV (layC d (ckH h lg) rows)]) ∧ DkO w' B' p (layR d (ckH h lg) rows) ∧ Tr B B' W w') (hC : layC d (ckH h lg) rows ≠ 0) :
    Calls Tryd.prog 13 #[.pointer (some ⟨s, 0, none⟩)] w fun e w' => ∃ B', e = .returned (errV (layC d (ckH h lg) rows)) ∧ DkO w' B' p (layR d (ckH h lg) rows) ∧ Tr B B' w w' := by
  have ht := Tr.refl B w
  have hz := heap_lt hs
  have hlB := hd.lt
  have hcv : hdV (ckH h lg) = .agg #[.int .i64 (1 - (h.half : Int)), .int .i64 ((lg.first : Int) + (lg.many : Int)), .int .i64 0] := by
    unfold ckH; simp; omega
  rw [hcv, errV_pos hC] at hlay
  unfold zh at hlay
  rw [errV_pos hC]
  generalize layR d (ckH h lg) rows = d2 at *
  generalize layC d (ckH h lg) rows = C at *
  clear hcv hC hg
  go_enter Tryd.func13, Tryd.ntmps13
  go_wp2_with fail
  refine wp_region_held_drew (S := fun w' => StAt w' s p h q (.slice a rows.length c)) (by kernel_rfl) ?_ (fun hHeld => ?_)
  · exact hs
  refine wpAnyH_take (i := 0) (oi := ({ dst := some 7, op := Op.move (Operand.tmp 0), type := 31, pos := "store.go:94", after := #[], guard := none } : Oper)) (v := .pointer (some ⟨s, 0, none⟩)) rfl (by kernel_rfl) (by kernel_rfl) (by kernel_rfl) (fun _ _ _ h => h) (Or.inl ⟨by rfl, ?_⟩) (by assumption) ?_
  · intro w hSw; go_simp
  (try simp only [Act.put, List.setIfInBounds_toArray, List.set_cons_zero, List.set_cons_succ])
  refine wpAnyH_take (i := 1) (oi := ({ dst := some 8, op := Op.nilCheck (Operand.tmp 7), type := 0, pos := "store.go:94", after := #[{ on := 0, ground := Ground.data }], guard := none } : Oper)) (v := .pointer (some ⟨s, 0, none⟩)) rfl (by kernel_rfl) (by kernel_rfl) (by kernel_rfl) (fun _ _ _ h => h) (Or.inl ⟨by rfl, ?_⟩) (by assumption) ?_
  · intro w hSw; go_simp
  (try simp only [Act.put, List.setIfInBounds_toArray, List.set_cons_zero, List.set_cons_succ])
  refine wpAnyH_take (i := 2) (oi := ({ dst := some 9, op := Op.fieldAddr 81 (Operand.tmp 8) 0, type := 0, pos := "store.go:94", after := #[{ on := 1, ground := Ground.data }], guard := none } : Oper)) (v := .pointer (some ⟨s, 0, none⟩)) rfl (by kernel_rfl) (by kernel_rfl) (by kernel_rfl) (fun _ _ _ h => h) (Or.inl ⟨by rfl, ?_⟩) (by assumption) ?_
  · intro w hSw; go_simp
  (try simp only [Act.put, List.setIfInBounds_toArray, List.set_cons_zero, List.set_cons_succ])
  refine wpAnyH_take (i := 3) (oi := ({ dst := some 10, op := Op.load 25 (Operand.tmp 9), type := 25, pos := "store.go:94", after := #[{ on := 2, ground := Ground.data }], guard := none } : Oper)) (v := .pointer (some ⟨p, 0, none⟩)) rfl (by kernel_rfl) (by kernel_rfl) (by kernel_rfl) (fun _ _ _ h => h) (Or.inl ⟨by rfl, ?_⟩) (by assumption) ?_
  · intro w hSw; obtain ⟨s0, s1, s2, s3, s4, s5⟩ := StAt.cells hSw; go_simp
  (try simp only [Act.put, List.setIfInBounds_toArray, List.set_cons_zero, List.set_cons_succ])
  refine wpAnyH_take (i := 4) (oi := ({ dst := some 11, op := Op.move (Operand.tmp 0), type := 31, pos := "store.go:94", after := #[], guard := none } : Oper)) (v := .pointer (some ⟨s, 0, none⟩)) rfl (by kernel_rfl) (by kernel_rfl) (by kernel_rfl) (fun _ _ _ h => h) (Or.inl ⟨by rfl, ?_⟩) (by assumption) ?_
  · intro w hSw; go_simp
  (try simp only [Act.put, List.setIfInBounds_toArray, List.set_cons_zero, List.set_cons_succ])
  refine wpAnyH_take (i := 5) (oi := ({ dst := some 12, op := Op.nilCheck (Operand.tmp 11), type := 0, pos := "store.go:94", after := #[{ on := 4, ground := Ground.data }], guard := none } : Oper)) (v := .pointer (some ⟨s, 0, none⟩)) rfl (by kernel_rfl) (by kernel_rfl) (by kernel_rfl) (fun _ _ _ h => h) (Or.inl ⟨by rfl, ?_⟩) (by assumption) ?_
  · intro w hSw; go_simp
  (try simp only [Act.put, List.setIfInBounds_toArray, List.set_cons_zero, List.set_cons_succ])
  refine wpAnyH_take (i := 6) (oi := ({ dst := some 13, op := Op.fieldAddr 81 (Operand.tmp 12) 1, type := 0, pos := "store.go:94", after := #[{ on := 5, ground := Ground.data }], guard := none } : Oper)) (v := .pointer (some ⟨s, 1, none⟩)) rfl (by kernel_rfl) (by kernel_rfl) (by kernel_rfl) (fun _ _ _ h => h) (Or.inl ⟨by rfl, ?_⟩) (by assumption) ?_
  · intro w hSw; go_simp
  (try simp only [Act.put, List.setIfInBounds_toArray, List.set_cons_zero, List.set_cons_succ])
  refine wpAnyH_take (i := 7) (oi := ({ dst := some 14, op := Op.fieldAddr 72 (Operand.tmp 13) 0, type := 0, pos := "store.go:94", after := #[{ on := 6, ground := Ground.data }], guard := none } : Oper)) (v := .pointer (some ⟨s, 1, none⟩)) rfl (by kernel_rfl) (by kernel_rfl) (by kernel_rfl) (fun _ _ _ h => h) (Or.inl ⟨by rfl, ?_⟩) (by assumption) ?_
  · intro w hSw; go_simp
  (try simp only [Act.put, List.setIfInBounds_toArray, List.set_cons_zero, List.set_cons_succ])
  refine wpAnyH_take (i := 8) (oi := ({ dst := some 15, op := Op.load 3 (Operand.tmp 14), type := 3, pos := "store.go:94", after := #[{ on := 7, ground := Ground.data }], guard := none } : Oper)) (v := .int .i64 (h.half : Int)) rfl (by kernel_rfl) (by kernel_rfl) (by kernel_rfl) (fun _ _ _ h => h) (Or.inl ⟨by rfl, ?_⟩) (by assumption) ?_
  · intro w hSw; obtain ⟨s0, s1, s2, s3, s4, s5⟩ := StAt.cells hSw; go_simp
  (try simp only [Act.put, List.setIfInBounds_toArray, List.set_cons_zero, List.set_cons_succ])
  refine wpAnyH_take (i := 9) (oi := ({ dst := some 16, op := Op.binOp BinOp.sub 3 (Operand.const (Value.int IntKind.i64 1)) (Operand.tmp 15) 3, type := 3, pos := "store.go:94", after := #[{ on := 8, ground := Ground.data }], guard := none } : Oper)) (v := .int .i64 (1 - (h.half : Int))) rfl (by kernel_rfl) (by kernel_rfl) (by kernel_rfl) (fun _ _ _ h => h) (Or.inl ⟨by rfl, ?_⟩) (by assumption) ?_
  · intro w hSw; go_simp; exact wrap_id (by omega) (by omega)
  (try simp only [Act.put, List.setIfInBounds_toArray, List.set_cons_zero, List.set_cons_succ])
  refine wpAnyH_take (i := 10) (oi := ({ dst := some 17, op := Op.move (Operand.tmp 0), type := 31, pos := "store.go:94", after := #[], guard := none } : Oper)) (v := .pointer (some ⟨s, 0, none⟩)) rfl (by kernel_rfl) (by kernel_rfl) (by kernel_rfl) (fun _ _ _ h => h) (Or.inl ⟨by rfl, ?_⟩) (by assumption) ?_
  · intro w hSw; go_simp
  (try simp only [Act.put, List.setIfInBounds_toArray, List.set_cons_zero, List.set_cons_succ])
  refine wpAnyH_take (i := 11) (oi := ({ dst := some 18, op := Op.nilCheck (Operand.tmp 17), type := 0, pos := "store.go:94", after := #[{ on := 10, ground := Ground.data }], guard := none } : Oper)) (v := .pointer (some ⟨s, 0, none⟩)) rfl (by kernel_rfl) (by kernel_rfl) (by kernel_rfl) (fun _ _ _ h => h) (Or.inl ⟨by rfl, ?_⟩) (by assumption) ?_
  · intro w hSw; go_simp
  (try simp only [Act.put, List.setIfInBounds_toArray, List.set_cons_zero, List.set_cons_succ])
  refine wpAnyH_take (i := 12) (oi := ({ dst := some 19, op := Op.fieldAddr 81 (Operand.tmp 18) 2, type := 0, pos := "store.go:94", after := #[{ on := 11, ground := Ground.data }], guard := none } : Oper)) (v := .pointer (some ⟨s, 4, none⟩)) rfl (by kernel_rfl) (by kernel_rfl) (by kernel_rfl) (fun _ _ _ h => h) (Or.inl ⟨by rfl, ?_⟩) (by assumption) ?_
  · intro w hSw; go_simp
  (try simp only [Act.put, List.setIfInBounds_toArray, List.set_cons_zero, List.set_cons_succ])
  refine wpAnyH_take (i := 13) (oi := ({ dst := some 20, op := Op.load 77 (Operand.tmp 19), type := 77, pos := "store.go:94", after := #[{ on := 12, ground := Ground.data }], guard := none } : Oper)) (v := .pointer (some ⟨q, 0, none⟩)) rfl (by kernel_rfl) (by kernel_rfl) (by kernel_rfl) (fun _ _ _ h => h) (Or.inl ⟨by rfl, ?_⟩) (by assumption) ?_
  · intro w hSw; obtain ⟨s0, s1, s2, s3, s4, s5⟩ := StAt.cells hSw; go_simp
  (try simp only [Act.put, List.setIfInBounds_toArray, List.set_cons_zero, List.set_cons_succ])
  refine wpAnyH_take (i := 16) (oi := ({ dst := some 23, op := Op.move (Operand.tmp 0), type := 31, pos := "store.go:94", after := #[], guard := none } : Oper)) (v := .pointer (some ⟨s, 0, none⟩)) rfl (by kernel_rfl) (by kernel_rfl) (by kernel_rfl) (fun _ _ _ h => h) (Or.inl ⟨by rfl, ?_⟩) (by assumption) ?_
  · intro w hSw; go_simp
  (try simp only [Act.put, List.setIfInBounds_toArray, List.set_cons_zero, List.set_cons_succ])
  refine wpAnyH_take (i := 17) (oi := ({ dst := some 24, op := Op.nilCheck (Operand.tmp 23), type := 0, pos := "store.go:94", after := #[{ on := 16, ground := Ground.data }], guard := none } : Oper)) (v := .pointer (some ⟨s, 0, none⟩)) rfl (by kernel_rfl) (by kernel_rfl) (by kernel_rfl) (fun _ _ _ h => h) (Or.inl ⟨by rfl, ?_⟩) (by assumption) ?_
  · intro w hSw; go_simp
  (try simp only [Act.put, List.setIfInBounds_toArray, List.set_cons_zero, List.set_cons_succ])
  refine wpAnyH_take (i := 18) (oi := ({ dst := some 25, op := Op.fieldAddr 81 (Operand.tmp 24) 3, type := 0, pos := "store.go:94", after := #[{ on := 17, ground := Ground.data }], guard := none } : Oper)) (v := .pointer (some ⟨s, 5, none⟩)) rfl (by kernel_rfl) (by kernel_rfl) (by kernel_rfl) (fun _ _ _ h => h) (Or.inl ⟨by rfl, ?_⟩) (by assumption) ?_
  · intro w hSw; go_simp
  (try simp only [Act.put, List.setIfInBounds_toArray, List.set_cons_zero, List.set_cons_succ])
  refine wpAnyH_take (i := 19) (oi := ({ dst := some 26, op := Op.load 36 (Operand.tmp 25), type := 36, pos := "store.go:94", after := #[{ on := 18, ground := Ground.data }], guard := none } : Oper)) (v := .slice a rows.length c) rfl (by kernel_rfl) (by kernel_rfl) (by kernel_rfl) (fun _ _ _ h => h) (Or.inl ⟨by rfl, ?_⟩) (by assumption) ?_
  · intro w hSw; obtain ⟨s0, s1, s2, s3, s4, s5⟩ := StAt.cells hSw; go_simp
  (try simp only [Act.put, List.setIfInBounds_toArray, List.set_cons_zero, List.set_cons_succ])
  have bD : Below w.heap.size w w.drew := below_drewN (Below.refl _ _) 1
  replace hd := hd.below bD
  replace hq := hq.below bD
  replace hch := hch.below bD
  replace hs := hs.below bD
  replace ht := ht.below bD
  generalize hcur : w.drew = w0 at hd hq hch hs ht hHeld ⊢
  clear bD hcur
  refine wpAnyH_ready (rs := [14, 25]) (by kernel_rfl) (by simp) ?_
  refine AllReadyH.cons (o := ({ dst := some 21, op := Op.call { callee := Callee.value (Operand.func 36), args := #[Operand.tmp 20], argTypes := #[77] }, type := 3, pos := "store.go:94", after := #[{ on := 13, ground := Ground.data }], guard := none } : Oper)) rfl (fun K hK => ?_) (AllReadyH.cons (o := ({ dst := some 3, op := Op.alloc 72, type := 0, pos := "store.go:94", after := #[], guard := none } : Oper)) rfl (fun K hK => ?_) AllReadyH.nil)
  · skip
    rw [if_pos (by rfl)]
    go_wp2_with fail
    refine (next_any p q lg _ hq hm1 (by omega)).mono ?_
    rintro e wn ⟨rfl, hbn⟩
    replace hd := hd.below hbn
    replace hq := hq.below hbn
    replace hch := hch.below hbn
    replace hs := hs.below hbn
    replace ht := ht.below hbn
    refine hK.out _ _ ?_ (fun hHeld => ?_)
    · exact hs
    clear hK K
    (try simp only [Act.put, List.setIfInBounds_toArray, List.set_cons_zero, List.set_cons_succ])
    refine wpAnyH_take (i := 15) (oi := ({ dst := some 22, op := Op.build 72 #[(0, Operand.tmp 16), (1, Operand.tmp 21)], type := 72, pos := "store.go:94", after := #[{ on := 9, ground := Ground.data }, { on := 14, ground := Ground.data }], guard := none } : Oper)) (v := .agg #[.int .i64 (1 - (h.half : Int)), .int .i64 ((lg.first : Int) + (lg.many : Int)), .int .i64 0]) rfl (by kernel_rfl) (by kernel_rfl) (by kernel_rfl) (fun _ _ _ h => h) (Or.inl ⟨by rfl, ?_⟩) (by assumption) ?_
    · intro w hSw; go_simp
    (try simp only [Act.put, List.setIfInBounds_toArray, List.set_cons_zero, List.set_cons_succ])
    refine wpAnyH_ready (rs := [20, 25]) (by kernel_rfl) (by simp) ?_
    refine AllReadyH.cons (o := ({ dst := some 27, op := Op.call { callee := Callee.value (Operand.func 31), args := #[Operand.tmp 10, Operand.tmp 22, Operand.tmp 26], argTypes := #[25, 72, 36] }, type := 82, pos := "store.go:94", after := #[{ on := 3, ground := Ground.data }, { on := 15, ground := Ground.data }, { on := 19, ground := Ground.data }, { on := 14, ground := Ground.chain }], guard := none } : Oper)) rfl (fun K hK => ?_) (AllReadyH.cons (o := ({ dst := some 3, op := Op.alloc 72, type := 0, pos := "store.go:94", after := #[], guard := none } : Oper)) rfl (fun K hK => ?_) AllReadyH.nil)
    · skip
      rw [if_pos (by rfl)]
      go_wp2_with fail
      refine (hlay _ hd hch).mono ?_
      rintro e wl ⟨B1, rfl, hd1, htl⟩
      obtain ⟨hs1, hns1⟩ := hs.tr htl hns
      have ht1 := ht.trans htl
      refine hK.out _ _ ?_ (fun hHeld => ?_)
      · exact hs1
      clear hK K
      (try simp only [Act.put, List.setIfInBounds_toArray, List.set_cons_zero, List.set_cons_succ])
      refine wpAnyH_take (i := 21) (oi := ({ dst := some 6, op := Op.move (Operand.tmp 27), type := 82, pos := "store.go:94", after := #[{ on := 20, ground := Ground.data }], guard := none } : Oper)) (v := .tuple #[.agg #[.int .i64 0, .int .i64 0, .int .i64 0], .pointer none, .iface 63 (.int .i64 C)]) rfl (by kernel_rfl) (by kernel_rfl) (by kernel_rfl) (fun _ _ _ h => h) (Or.inl ⟨by rfl, ?_⟩) (by assumption) ?_
      · intro w hSw; go_simp
      (try simp only [Act.put, List.setIfInBounds_toArray, List.set_cons_zero, List.set_cons_succ])
      refine wpAnyH_take (i := 22) (oi := ({ dst := some 28, op := Op.extract (Operand.tmp 6) 0, type := 72, pos := "store.go:94", after := #[{ on := 21, ground := Ground.data }], guard := none } : Oper)) (v := .agg #[.int .i64 0, .int .i64 0, .int .i64 0]) rfl (by kernel_rfl) (by kernel_rfl) (by kernel_rfl) (fun _ _ _ h => h) (Or.inl ⟨by rfl, ?_⟩) (by assumption) ?_
      · intro w hSw; go_simp
      (try simp only [Act.put, List.setIfInBounds_toArray, List.set_cons_zero, List.set_cons_succ])
      refine wpAnyH_take (i := 23) (oi := ({ dst := some 29, op := Op.extract (Operand.tmp 6) 1, type := 77, pos := "store.go:94", after := #[{ on := 21, ground := Ground.data }, { on := 26, ground := Ground.gcOnly Departure.lateStores }], guard := none } : Oper)) (v := .pointer none) rfl (by kernel_rfl) (by kernel_rfl) (by kernel_rfl) (fun _ _ _ h => h) (Or.inl ⟨by rfl, ?_⟩) (by assumption) ?_
      · intro w hSw; go_simp
      (try simp only [Act.put, List.setIfInBounds_toArray, List.set_cons_zero, List.set_cons_succ])
      refine wpAnyH_take (i := 24) (oi := ({ dst := some 30, op := Op.extract (Operand.tmp 6) 2, type := 27, pos := "store.go:94", after := #[{ on := 21, ground := Ground.data }, { on := 27, ground := Ground.gcOnly Departure.lateStores }], guard := none } : Oper)) (v := .iface 63 (.int .i64 C)) rfl (by kernel_rfl) (by kernel_rfl) (by kernel_rfl) (fun _ _ _ h => h) (Or.inl ⟨by rfl, ?_⟩) (by assumption) ?_
      · intro w hSw; go_simp
      (try simp only [Act.put, List.setIfInBounds_toArray, List.set_cons_zero, List.set_cons_succ])
      refine wpAnyH_ready (rs := [25]) (by kernel_rfl) (by simp) ?_
      refine AllReadyH.cons (o := ({ dst := some 3, op := Op.alloc 72, type := 0, pos := "store.go:94", after := #[], guard := none } : Oper)) rfl (fun K hK => ?_) AllReadyH.nil
      rw [if_pos (by rfl)]
      go_wp2_with fail
      refine hK.out _ _ ?_ (fun hHeld => ?_)
      · exact hs1.below ((Below.refl _ _).alloc (Nat.le_refl _) _)
      clear hK K
      (try simp only [Act.put, List.setIfInBounds_toArray, List.set_cons_zero, List.set_cons_succ])
      refine wpAnyH_ready (rs := [26]) (by kernel_rfl) (by simp) ?_
      refine AllReadyH.cons (o := ({ dst := none, op := Op.store 72 (Operand.tmp 3) (Operand.tmp 28), type := 0, pos := "store.go:94", after := #[{ on := 25, ground := Ground.data }, { on := 22, ground := Ground.data }, { on := 20, ground := Ground.chain }, { on := 0, ground := Ground.phase }, { on := 1, ground := Ground.phase }, { on := 2, ground := Ground.phase }, { on := 3, ground := Ground.phase }, { on := 4, ground := Ground.phase }, { on := 5, ground := Ground.phase }, { on := 6, ground := Ground.phase }, { on := 7, ground := Ground.phase }, { on := 8, ground := Ground.phase }, { on := 9, ground := Ground.phase }, { on := 10, ground := Ground.phase }, { on := 11, ground := Ground.phase }, { on := 12, ground := Ground.phase }, { on := 13, ground := Ground.phase }, { on := 14, ground := Ground.phase }, { on := 15, ground := Ground.phase }, { on := 16, ground := Ground.phase }, { on := 17, ground := Ground.phase }, { on := 18, ground := Ground.phase }, { on := 19, ground := Ground.phase }, { on := 20, ground := Ground.phase }, { on := 21, ground := Ground.phase }, { on := 22, ground := Ground.phase }, { on := 23, ground := Ground.textOnly Departure.lateStores }, { on := 24, ground := Ground.textOnly Departure.lateStores }, { on := 25, ground := Ground.phase }], guard := none } : Oper)) rfl (fun K hK => ?_) AllReadyH.nil
      rw [if_pos (by rfl)]
      go_wp2_with fail
      refine hK.out _ _ ?_ (fun hHeld => ?_)
      · exact hs1.below ((Below.refl _ _).alloc (Nat.le_refl _) _)
      clear hK K
      (try simp only [Act.put, List.setIfInBounds_toArray, List.set_cons_zero, List.set_cons_succ])
      refine wpAnyH_take (i := 27) (oi := ({ dst := some 4, op := Op.assign (Operand.tmp 29), type := 77, pos := "store.go:94", after := #[{ on := 23, ground := Ground.data }, { on := 26, ground := Ground.chain }, { on := 0, ground := Ground.phase }, { on := 1, ground := Ground.phase }, { on := 2, ground := Ground.phase }, { on := 3, ground := Ground.phase }, { on := 4, ground := Ground.phase }, { on := 5, ground := Ground.phase }, { on := 6, ground := Ground.phase }, { on := 7, ground := Ground.phase }, { on := 8, ground := Ground.phase }, { on := 9, ground := Ground.phase }, { on := 10, ground := Ground.phase }, { on := 11, ground := Ground.phase }, { on := 12, ground := Ground.phase }, { on := 13, ground := Ground.phase }, { on := 14, ground := Ground.phase }, { on := 15, ground := Ground.phase }, { on := 16, ground := Ground.phase }, { on := 17, ground := Ground.phase }, { on := 18, ground := Ground.phase }, { on := 19, ground := Ground.phase }, { on := 20, ground := Ground.phase }, { on := 21, ground := Ground.phase }, { on := 22, ground := Ground.phase }, { on := 23, ground := Ground.phase }, { on := 24, ground := Ground.textOnly Departure.lateStores }, { on := 25, ground := Ground.phase }, { on := 26, ground := Ground.phase }], guard := none } : Oper)) (v := .pointer none) rfl (by kernel_rfl) (by kernel_rfl) (by kernel_rfl) (fun _ _ _ h => h) (Or.inl ⟨by rfl, ?_⟩) (by assumption) ?_
      · intro w hSw; go_simp
      (try simp only [Act.put, List.setIfInBounds_toArray, List.set_cons_zero, List.set_cons_succ])
      refine wpAnyH_take (i := 28) (oi := ({ dst := some 5, op := Op.assign (Operand.tmp 30), type := 27, pos := "store.go:94", after := #[{ on := 24, ground := Ground.data }, { on := 27, ground := Ground.chain }, { on := 0, ground := Ground.phase }, { on := 1, ground := Ground.phase }, { on := 2, ground := Ground.phase }, { on := 3, ground := Ground.phase }, { on := 4, ground := Ground.phase }, { on := 5, ground := Ground.phase }, { on := 6, ground := Ground.phase }, { on := 7, ground := Ground.phase }, { on := 8, ground := Ground.phase }, { on := 9, ground := Ground.phase }, { on := 10, ground := Ground.phase }, { on := 11, ground := Ground.phase }, { on := 12, ground := Ground.phase }, { on := 13, ground := Ground.phase }, { on := 14, ground := Ground.phase }, { on := 15, ground := Ground.phase }, { on := 16, ground := Ground.phase }, { on := 17, ground := Ground.phase }, { on := 18, ground := Ground.phase }, { on := 19, ground := Ground.phase }, { on := 20, ground := Ground.phase }, { on := 21, ground := Ground.phase }, { on := 22, ground := Ground.phase }, { on := 23, ground := Ground.phase }, { on := 24, ground := Ground.phase }, { on := 25, ground := Ground.phase }, { on := 26, ground := Ground.phase }, { on := 27, ground := Ground.phase }], guard := none } : Oper)) (v := .iface 63 (.int .i64 C)) rfl (by kernel_rfl) (by kernel_rfl) (by kernel_rfl) (fun _ _ _ h => h) (Or.inl ⟨by rfl, ?_⟩) (by assumption) ?_
      · intro w hSw; go_simp
      (try simp only [Act.put, List.setIfInBounds_toArray, List.set_cons_zero, List.set_cons_succ])
      refine wpAnyH_done (by kernel_rfl) ?_ _
      go_wp2_with fail
      go_ret
      have bA : Below wl.heap.size wl (wl.alloc (.cells #[.int .i64 0, .int .i64 0, .int .i64 0] 72)) := (Below.refl _ _).alloc (Nat.le_refl _) _
      exact ⟨B1, rfl, hd1.below bA, ht1.below bA⟩
    · skip
      rw [if_pos (by rfl)]
      go_wp2_with fail
      have bA : Below wn.heap.size wn (wn.alloc (.cells #[.int .i64 0, .int .i64 0, .int .i64 0] 72)) := (Below.refl _ _).alloc (Nat.le_refl _) _
      have BT := Bx.new wn [.int .i64 0, .int .i64 0, .int .i64 0] 72
      replace hd := hd.below bA
      replace hq := hq.below bA
      replace hch := hch.below bA
      replace hs := hs.below bA
      have hbs : s ≠ wn.heap.size := by have := hz; have := ht.size; omega
      have hnBt : ¬ B wn.heap.size := fun hb => by have := hlB _ hb; have := ht.size; omega
      have hbz : w.heap.size ≤ wn.heap.size := ht.size
      replace ht := ht.below bA
      generalize hbt : wn.heap.size = bt at BT hbs hnBt hbz hK ⊢
      generalize hcw : (wn.alloc (.cells #[.int .i64 0, .int .i64 0, .int .i64 0] 72)) = wA at BT hd hq hch hs ht hK ⊢
      clear bA hbt hcw
      refine hK.out _ _ ?_ (fun hHeld => ?_)
      · exact hs
      clear hK K
      (try simp only [Act.put, List.setIfInBounds_toArray, List.set_cons_zero, List.set_cons_succ])
      refine wpAnyH_ready (rs := [20]) (by kernel_rfl) (by simp) ?_
      refine AllReadyH.cons (o := ({ dst := some 27, op := Op.call { callee := Callee.value (Operand.func 31), args := #[Operand.tmp 10, Operand.tmp 22, Operand.tmp 26], argTypes := #[25, 72, 36] }, type := 82, pos := "store.go:94", after := #[{ on := 3, ground := Ground.data }, { on := 15, ground := Ground.data }, { on := 19, ground := Ground.data }, { on := 14, ground := Ground.chain }], guard := none } : Oper)) rfl (fun K hK => ?_) AllReadyH.nil
      rw [if_pos (by rfl)]
      go_wp2_with fail
      refine (hlay _ hd hch).mono ?_
      rintro e wl ⟨B1, rfl, hd1, htl⟩
      obtain ⟨hs1, hns1⟩ := hs.tr htl hns
      have ht1 := ht.trans htl
      have hlt1 := BT.1
      have BT1 := BT.tr htl hnBt
      have hb0 := (BT1.2 0 _ rfl).1
      have hb1 := (BT1.2 1 _ rfl).1
      have hb2 := (BT1.2 2 _ rfl).1
      have hf0 := (BT1.2 0 _ rfl).2
      have hf1 := (BT1.2 1 _ rfl).2
      have hf2 := (BT1.2 2 _ rfl).2
      have hzt := BT1.1
      refine hK.out _ _ ?_ (fun hHeld => ?_)
      · exact hs1
      clear hK K
      (try simp only [Act.put, List.setIfInBounds_toArray, List.set_cons_zero, List.set_cons_succ])
      refine wpAnyH_take (i := 21) (oi := ({ dst := some 6, op := Op.move (Operand.tmp 27), type := 82, pos := "store.go:94", after := #[{ on := 20, ground := Ground.data }], guard := none } : Oper)) (v := .tuple #[.agg #[.int .i64 0, .int .i64 0, .int .i64 0], .pointer none, .iface 63 (.int .i64 C)]) rfl (by kernel_rfl) (by kernel_rfl) (by kernel_rfl) (fun _ _ _ h => h) (Or.inl ⟨by rfl, ?_⟩) (by assumption) ?_
      · intro w hSw; go_simp
      (try simp only [Act.put, List.setIfInBounds_toArray, List.set_cons_zero, List.set_cons_succ])
      refine wpAnyH_take (i := 22) (oi := ({ dst := some 28, op := Op.extract (Operand.tmp 6) 0, type := 72, pos := "store.go:94", after := #[{ on := 21, ground := Ground.data }], guard := none } : Oper)) (v := .agg #[.int .i64 0, .int .i64 0, .int .i64 0]) rfl (by kernel_rfl) (by kernel_rfl) (by kernel_rfl) (fun _ _ _ h => h) (Or.inl ⟨by rfl, ?_⟩) (by assumption) ?_
      · intro w hSw; go_simp
      (try simp only [Act.put, List.setIfInBounds_toArray, List.set_cons_zero, List.set_cons_succ])
      refine wpAnyH_take (i := 23) (oi := ({ dst := some 29, op := Op.extract (Operand.tmp 6) 1, type := 77, pos := "store.go:94", after := #[{ on := 21, ground := Ground.data }, { on := 26, ground := Ground.gcOnly Departure.lateStores }], guard := none } : Oper)) (v := .pointer none) rfl (by kernel_rfl) (by kernel_rfl) (by kernel_rfl) (fun _ _ _ h => h) (Or.inl ⟨by rfl, ?_⟩) (by assumption) ?_
      · intro w hSw; go_simp
      (try simp only [Act.put, List.setIfInBounds_toArray, List.set_cons_zero, List.set_cons_succ])
      refine wpAnyH_take (i := 24) (oi := ({ dst := some 30, op := Op.extract (Operand.tmp 6) 2, type := 27, pos := "store.go:94", after := #[{ on := 21, ground := Ground.data }, { on := 27, ground := Ground.gcOnly Departure.lateStores }], guard := none } : Oper)) (v := .iface 63 (.int .i64 C)) rfl (by kernel_rfl) (by kernel_rfl) (by kernel_rfl) (fun _ _ _ h => h) (Or.inl ⟨by rfl, ?_⟩) (by assumption) ?_
      · intro w hSw; go_simp
      (try simp only [Act.put, List.setIfInBounds_toArray, List.set_cons_zero, List.set_cons_succ])
      refine wpAnyH_ready (rs := [26]) (by kernel_rfl) (by simp) ?_
      refine AllReadyH.cons (o := ({ dst := none, op := Op.store 72 (Operand.tmp 3) (Operand.tmp 28), type := 0, pos := "store.go:94", after := #[{ on := 25, ground := Ground.data }, { on := 22, ground := Ground.data }, { on := 20, ground := Ground.chain }, { on := 0, ground := Ground.phase }, { on := 1, ground := Ground.phase }, { on := 2, ground := Ground.phase }, { on := 3, ground := Ground.phase }, { on := 4, ground := Ground.phase }, { on := 5, ground := Ground.phase }, { on := 6, ground := Ground.phase }, { on := 7, ground := Ground.phase }, { on := 8, ground := Ground.phase }, { on := 9, ground := Ground.phase }, { on := 10, ground := Ground.phase }, { on := 11, ground := Ground.phase }, { on := 12, ground := Ground.phase }, { on := 13, ground := Ground.phase }, { on := 14, ground := Ground.phase }, { on := 15, ground := Ground.phase }, { on := 16, ground := Ground.phase }, { on := 17, ground := Ground.phase }, { on := 18, ground := Ground.phase }, { on := 19, ground := Ground.phase }, { on := 20, ground := Ground.phase }, { on := 21, ground := Ground.phase }, { on := 22, ground := Ground.phase }, { on := 23, ground := Ground.textOnly Departure.lateStores }, { on := 24, ground := Ground.textOnly Departure.lateStores }, { on := 25, ground := Ground.phase }], guard := none } : Oper)) rfl (fun K hK => ?_) AllReadyH.nil
      rw [if_pos (by rfl)]
      go_wp2_with fail
      refine hK.out _ _ ?_ (fun hHeld => ?_)
      · exact hs1.past3 hbs _ _ _
      clear hK K
      (try simp only [Act.put, List.setIfInBounds_toArray, List.set_cons_zero, List.set_cons_succ])
      refine wpAnyH_take (i := 27) (oi := ({ dst := some 4, op := Op.assign (Operand.tmp 29), type := 77, pos := "store.go:94", after := #[{ on := 23, ground := Ground.data }, { on := 26, ground := Ground.chain }, { on := 0, ground := Ground.phase }, { on := 1, ground := Ground.phase }, { on := 2, ground := Ground.phase }, { on := 3, ground := Ground.phase }, { on := 4, ground := Ground.phase }, { on := 5, ground := Ground.phase }, { on := 6, ground := Ground.phase }, { on := 7, ground := Ground.phase }, { on := 8, ground := Ground.phase }, { on := 9, ground := Ground.phase }, { on := 10, ground := Ground.phase }, { on := 11, ground := Ground.phase }, { on := 12, ground := Ground.phase }, { on := 13, ground := Ground.phase }, { on := 14, ground := Ground.phase }, { on := 15, ground := Ground.phase }, { on := 16, ground := Ground.phase }, { on := 17, ground := Ground.phase }, { on := 18, ground := Ground.phase }, { on := 19, ground := Ground.phase }, { on := 20, ground := Ground.phase }, { on := 21, ground := Ground.phase }, { on := 22, ground := Ground.phase }, { on := 23, ground := Ground.phase }, { on := 24, ground := Ground.textOnly Departure.lateStores }, { on := 25, ground := Ground.phase }, { on := 26, ground := Ground.phase }], guard := none } : Oper)) (v := .pointer none) rfl (by kernel_rfl) (by kernel_rfl) (by kernel_rfl) (fun _ _ _ h => h) (Or.inl ⟨by rfl, ?_⟩) (by assumption) ?_
      · intro w hSw; go_simp
      (try simp only [Act.put, List.setIfInBounds_toArray, List.set_cons_zero, List.set_cons_succ])
      refine wpAnyH_take (i := 28) (oi := ({ dst := some 5, op := Op.assign (Operand.tmp 30), type := 27, pos := "store.go:94", after := #[{ on := 24, ground := Ground.data }, { on := 27, ground := Ground.chain }, { on := 0, ground := Ground.phase }, { on := 1, ground := Ground.phase }, { on := 2, ground := Ground.phase }, { on := 3, ground := Ground.phase }, { on := 4, ground := Ground.phase }, { on := 5, ground := Ground.phase }, { on := 6, ground := Ground.phase }, { on := 7, ground := Ground.phase }, { on := 8, ground := Ground.phase }, { on := 9, ground := Ground.phase }, { on := 10, ground := Ground.phase }, { on := 11, ground := Ground.phase }, { on := 12, ground := Ground.phase }, { on := 13, ground := Ground.phase }, { on := 14, ground := Ground.phase }, { on := 15, ground := Ground.phase }, { on := 16, ground := Ground.phase }, { on := 17, ground := Ground.phase }, { on := 18, ground := Ground.phase }, { on := 19, ground := Ground.phase }, { on := 20, ground := Ground.phase }, { on := 21, ground := Ground.phase }, { on := 22, ground := Ground.phase }, { on := 23, ground := Ground.phase }, { on := 24, ground := Ground.phase }, { on := 25, ground := Ground.phase }, { on := 26, ground := Ground.phase }, { on := 27, ground := Ground.phase }], guard := none } : Oper)) (v := .iface 63 (.int .i64 C)) rfl (by kernel_rfl) (by kernel_rfl) (by kernel_rfl) (fun _ _ _ h => h) (Or.inl ⟨by rfl, ?_⟩) (by assumption) ?_
      · intro w hSw; go_simp
      (try simp only [Act.put, List.setIfInBounds_toArray, List.set_cons_zero, List.set_cons_succ])
      refine wpAnyH_done (by kernel_rfl) ?_ _
      go_wp2_with fail
      go_ret
      exact ⟨B1, rfl, hd1.set3 (htl.out hlt1 hnBt).2.1 _ _ _, ht1.set3 hbz _ _ _⟩
  · skip
    rw [if_pos (by rfl)]
    go_wp2_with fail
    have bA : Below w0.heap.size w0 (w0.alloc (.cells #[.int .i64 0, .int .i64 0, .int .i64 0] 72)) := (Below.refl _ _).alloc (Nat.le_refl _) _
    have BT := Bx.new w0 [.int .i64 0, .int .i64 0, .int .i64 0] 72
    replace hd := hd.below bA
    replace hq := hq.below bA
    replace hch := hch.below bA
    replace hs := hs.below bA
    have hbs : s ≠ w0.heap.size := by have := hz; have := ht.size; omega
    have hnBt : ¬ B w0.heap.size := fun hb => by have := hlB _ hb; have := ht.size; omega
    have hbz : w.heap.size ≤ w0.heap.size := ht.size
    replace ht := ht.below bA
    generalize hbt : w0.heap.size = bt at BT hbs hnBt hbz hK ⊢
    generalize hcw : (w0.alloc (.cells #[.int .i64 0, .int .i64 0, .int .i64 0] 72)) = wA at BT hd hq hch hs ht hK ⊢
    clear bA hbt hcw
    refine hK.out _ _ ?_ (fun hHeld => ?_)
    · exact hs
    clear hK K
    (try simp only [Act.put, List.setIfInBounds_toArray, List.set_cons_zero, List.set_cons_succ])
    refine wpAnyH_ready (rs := [14]) (by kernel_rfl) (by simp) ?_
    refine AllReadyH.cons (o := ({ dst := some 21, op := Op.call { callee := Callee.value (Operand.func 36), args := #[Operand.tmp 20], argTypes := #[77] }, type := 3, pos := "store.go:94", after := #[{ on := 13, ground := Ground.data }], guard := none } : Oper)) rfl (fun K hK => ?_) AllReadyH.nil
    rw [if_pos (by rfl)]
    go_wp2_with fail
    refine (next_any p q lg _ hq hm1 (by omega)).mono ?_
    rintro e wn ⟨rfl, hbn⟩
    replace hd := hd.below hbn
    replace hq := hq.below hbn
    replace hch := hch.below hbn
    replace hs := hs.below hbn
    replace ht := ht.below hbn
    replace BT := BT.below hbn
    refine hK.out _ _ ?_ (fun hHeld => ?_)
    · exact hs
    clear hK K
    (try simp only [Act.put, List.setIfInBounds_toArray, List.set_cons_zero, List.set_cons_succ])
    refine wpAnyH_take (i := 15) (oi := ({ dst := some 22, op := Op.build 72 #[(0, Operand.tmp 16), (1, Operand.tmp 21)], type := 72, pos := "store.go:94", after := #[{ on := 9, ground := Ground.data }, { on := 14, ground := Ground.data }], guard := none } : Oper)) (v := .agg #[.int .i64 (1 - (h.half : Int)), .int .i64 ((lg.first : Int) + (lg.many : Int)), .int .i64 0]) rfl (by kernel_rfl) (by kernel_rfl) (by kernel_rfl) (fun _ _ _ h => h) (Or.inl ⟨by rfl, ?_⟩) (by assumption) ?_
    · intro w hSw; go_simp
    (try simp only [Act.put, List.setIfInBounds_toArray, List.set_cons_zero, List.set_cons_succ])
    refine wpAnyH_ready (rs := [20]) (by kernel_rfl) (by simp) ?_
    refine AllReadyH.cons (o := ({ dst := some 27, op := Op.call { callee := Callee.value (Operand.func 31), args := #[Operand.tmp 10, Operand.tmp 22, Operand.tmp 26], argTypes := #[25, 72, 36] }, type := 82, pos := "store.go:94", after := #[{ on := 3, ground := Ground.data }, { on := 15, ground := Ground.data }, { on := 19, ground := Ground.data }, { on := 14, ground := Ground.chain }], guard := none } : Oper)) rfl (fun K hK => ?_) AllReadyH.nil
    rw [if_pos (by rfl)]
    go_wp2_with fail
    refine (hlay _ hd hch).mono ?_
    rintro e wl ⟨B1, rfl, hd1, htl⟩
    obtain ⟨hs1, hns1⟩ := hs.tr htl hns
    have ht1 := ht.trans htl
    have hlt1 := BT.1
    have BT1 := BT.tr htl hnBt
    have hb0 := (BT1.2 0 _ rfl).1
    have hb1 := (BT1.2 1 _ rfl).1
    have hb2 := (BT1.2 2 _ rfl).1
    have hf0 := (BT1.2 0 _ rfl).2
    have hf1 := (BT1.2 1 _ rfl).2
    have hf2 := (BT1.2 2 _ rfl).2
    have hzt := BT1.1
    refine hK.out _ _ ?_ (fun hHeld => ?_)
    · exact hs1
    clear hK K
    (try simp only [Act.put, List.setIfInBounds_toArray, List.set_cons_zero, List.set_cons_succ])
    refine wpAnyH_take (i := 21) (oi := ({ dst := some 6, op := Op.move (Operand.tmp 27), type := 82, pos := "store.go:94", after := #[{ on := 20, ground := Ground.data }], guard := none } : Oper)) (v := .tuple #[.agg #[.int .i64 0, .int .i64 0, .int .i64 0], .pointer none, .iface 63 (.int .i64 C)]) rfl (by kernel_rfl) (by kernel_rfl) (by kernel_rfl) (fun _ _ _ h => h) (Or.inl ⟨by rfl, ?_⟩) (by assumption) ?_
    · intro w hSw; go_simp
    (try simp only [Act.put, List.setIfInBounds_toArray, List.set_cons_zero, List.set_cons_succ])
    refine wpAnyH_take (i := 22) (oi := ({ dst := some 28, op := Op.extract (Operand.tmp 6) 0, type := 72, pos := "store.go:94", after := #[{ on := 21, ground := Ground.data }], guard := none } : Oper)) (v := .agg #[.int .i64 0, .int .i64 0, .int .i64 0]) rfl (by kernel_rfl) (by kernel_rfl) (by kernel_rfl) (fun _ _ _ h => h) (Or.inl ⟨by rfl, ?_⟩) (by assumption) ?_
    · intro w hSw; go_simp
    (try simp only [Act.put, List.setIfInBounds_toArray, List.set_cons_zero, List.set_cons_succ])
    refine wpAnyH_take (i := 23) (oi := ({ dst := some 29, op := Op.extract (Operand.tmp 6) 1, type := 77, pos := "store.go:94", after := #[{ on := 21, ground := Ground.data }, { on := 26, ground := Ground.gcOnly Departure.lateStores }], guard := none } : Oper)) (v := .pointer none) rfl (by kernel_rfl) (by kernel_rfl) (by kernel_rfl) (fun _ _ _ h => h) (Or.inl ⟨by rfl, ?_⟩) (by assumption) ?_
    · intro w hSw; go_simp
    (try simp only [Act.put, List.setIfInBounds_toArray, List.set_cons_zero, List.set_cons_succ])
    refine wpAnyH_take (i := 24) (oi := ({ dst := some 30, op := Op.extract (Operand.tmp 6) 2, type := 27, pos := "store.go:94", after := #[{ on := 21, ground := Ground.data }, { on := 27, ground := Ground.gcOnly Departure.lateStores }], guard := none } : Oper)) (v := .iface 63 (.int .i64 C)) rfl (by kernel_rfl) (by kernel_rfl) (by kernel_rfl) (fun _ _ _ h => h) (Or.inl ⟨by rfl, ?_⟩) (by assumption) ?_
    · intro w hSw; go_simp
    (try simp only [Act.put, List.setIfInBounds_toArray, List.set_cons_zero, List.set_cons_succ])
    refine wpAnyH_ready (rs := [26]) (by kernel_rfl) (by simp) ?_
    refine AllReadyH.cons (o := ({ dst := none, op := Op.store 72 (Operand.tmp 3) (Operand.tmp 28), type := 0, pos := "store.go:94", after := #[{ on := 25, ground := Ground.data }, { on := 22, ground := Ground.data }, { on := 20, ground := Ground.chain }, { on := 0, ground := Ground.phase }, { on := 1, ground := Ground.phase }, { on := 2, ground := Ground.phase }, { on := 3, ground := Ground.phase }, { on := 4, ground := Ground.phase }, { on := 5, ground := Ground.phase }, { on := 6, ground := Ground.phase }, { on := 7, ground := Ground.phase }, { on := 8, ground := Ground.phase }, { on := 9, ground := Ground.phase }, { on := 10, ground := Ground.phase }, { on := 11, ground := Ground.phase }, { on := 12, ground := Ground.phase }, { on := 13, ground := Ground.phase }, { on := 14, ground := Ground.phase }, { on := 15, ground := Ground.phase }, { on := 16, ground := Ground.phase }, { on := 17, ground := Ground.phase }, { on := 18, ground := Ground.phase }, { on := 19, ground := Ground.phase }, { on := 20, ground := Ground.phase }, { on := 21, ground := Ground.phase }, { on := 22, ground := Ground.phase }, { on := 23, ground := Ground.textOnly Departure.lateStores }, { on := 24, ground := Ground.textOnly Departure.lateStores }, { on := 25, ground := Ground.phase }], guard := none } : Oper)) rfl (fun K hK => ?_) AllReadyH.nil
    rw [if_pos (by rfl)]
    go_wp2_with fail
    refine hK.out _ _ ?_ (fun hHeld => ?_)
    · exact hs1.past3 hbs _ _ _
    clear hK K
    (try simp only [Act.put, List.setIfInBounds_toArray, List.set_cons_zero, List.set_cons_succ])
    refine wpAnyH_take (i := 27) (oi := ({ dst := some 4, op := Op.assign (Operand.tmp 29), type := 77, pos := "store.go:94", after := #[{ on := 23, ground := Ground.data }, { on := 26, ground := Ground.chain }, { on := 0, ground := Ground.phase }, { on := 1, ground := Ground.phase }, { on := 2, ground := Ground.phase }, { on := 3, ground := Ground.phase }, { on := 4, ground := Ground.phase }, { on := 5, ground := Ground.phase }, { on := 6, ground := Ground.phase }, { on := 7, ground := Ground.phase }, { on := 8, ground := Ground.phase }, { on := 9, ground := Ground.phase }, { on := 10, ground := Ground.phase }, { on := 11, ground := Ground.phase }, { on := 12, ground := Ground.phase }, { on := 13, ground := Ground.phase }, { on := 14, ground := Ground.phase }, { on := 15, ground := Ground.phase }, { on := 16, ground := Ground.phase }, { on := 17, ground := Ground.phase }, { on := 18, ground := Ground.phase }, { on := 19, ground := Ground.phase }, { on := 20, ground := Ground.phase }, { on := 21, ground := Ground.phase }, { on := 22, ground := Ground.phase }, { on := 23, ground := Ground.phase }, { on := 24, ground := Ground.textOnly Departure.lateStores }, { on := 25, ground := Ground.phase }, { on := 26, ground := Ground.phase }], guard := none } : Oper)) (v := .pointer none) rfl (by kernel_rfl) (by kernel_rfl) (by kernel_rfl) (fun _ _ _ h => h) (Or.inl ⟨by rfl, ?_⟩) (by assumption) ?_
    · intro w hSw; go_simp
    (try simp only [Act.put, List.setIfInBounds_toArray, List.set_cons_zero, List.set_cons_succ])
    refine wpAnyH_take (i := 28) (oi := ({ dst := some 5, op := Op.assign (Operand.tmp 30), type := 27, pos := "store.go:94", after := #[{ on := 24, ground := Ground.data }, { on := 27, ground := Ground.chain }, { on := 0, ground := Ground.phase }, { on := 1, ground := Ground.phase }, { on := 2, ground := Ground.phase }, { on := 3, ground := Ground.phase }, { on := 4, ground := Ground.phase }, { on := 5, ground := Ground.phase }, { on := 6, ground := Ground.phase }, { on := 7, ground := Ground.phase }, { on := 8, ground := Ground.phase }, { on := 9, ground := Ground.phase }, { on := 10, ground := Ground.phase }, { on := 11, ground := Ground.phase }, { on := 12, ground := Ground.phase }, { on := 13, ground := Ground.phase }, { on := 14, ground := Ground.phase }, { on := 15, ground := Ground.phase }, { on := 16, ground := Ground.phase }, { on := 17, ground := Ground.phase }, { on := 18, ground := Ground.phase }, { on := 19, ground := Ground.phase }, { on := 20, ground := Ground.phase }, { on := 21, ground := Ground.phase }, { on := 22, ground := Ground.phase }, { on := 23, ground := Ground.phase }, { on := 24, ground := Ground.phase }, { on := 25, ground := Ground.phase }, { on := 26, ground := Ground.phase }, { on := 27, ground := Ground.phase }], guard := none } : Oper)) (v := .iface 63 (.int .i64 C)) rfl (by kernel_rfl) (by kernel_rfl) (by kernel_rfl) (fun _ _ _ h => h) (Or.inl ⟨by rfl, ?_⟩) (by assumption) ?_
    · intro w hSw; go_simp
    (try simp only [Act.put, List.setIfInBounds_toArray, List.set_cons_zero, List.set_cons_succ])
    refine wpAnyH_done (by kernel_rfl) ?_ _
    go_wp2_with fail
    go_ret
    exact ⟨B1, rfl, hd1.set3 (htl.out hlt1 hnBt).2.1 _ _ _, ht1.set3 hbz _ _ _⟩
theorem ckfin {V w : World} {B B1 : Nat → Prop} {p s q q1 : Nat} {d2 : Dk} {L : Lg} {h : Hd3} {v : Value} (hd1 : DkO V B1 p d2) (hL1 : LgAt V q1 p L) (hs1 : StAt V s p h q v) (hns1 : ¬ B1 s) (hqn : ¬ B1 q1) (hqz : w.heap.size ≤ q1) (ht1 : Tr B B1 w V) (hqs : q1 ≠ s) (hz : s < w.heap.size) (hF : Hd3) :
    ∃ B' q', Ending.returned Value.nilIface = .returned .nilIface ∧ DkO ((((V.setCell ⟨s, 1, none⟩ (.int .i64 (hF.half : Int))).setCell ⟨s, 2, none⟩ (.int .i64 (hF.first : Int))).setCell ⟨s, 3, none⟩ (.int .i64 (hF.size : Int))).setCell ⟨s, 4, none⟩ (.pointer (some ⟨q1, 0, none⟩))) B' p d2 ∧
      LgAt ((((V.setCell ⟨s, 1, none⟩ (.int .i64 (hF.half : Int))).setCell ⟨s, 2, none⟩ (.int .i64 (hF.first : Int))).setCell ⟨s, 3, none⟩ (.int .i64 (hF.size : Int))).setCell ⟨s, 4, none⟩ (.pointer (some ⟨q1, 0, none⟩))) q' p L ∧ ¬ B' q' ∧ w.heap.size ≤ q' ∧
      StAt ((((V.setCell ⟨s, 1, none⟩ (.int .i64 (hF.half : Int))).setCell ⟨s, 2, none⟩ (.int .i64 (hF.first : Int))).setCell ⟨s, 3, none⟩ (.int .i64 (hF.size : Int))).setCell ⟨s, 4, none⟩ (.pointer (some ⟨q1, 0, none⟩))) s p hF q' v ∧ ¬ B' s ∧
      Tr (Un B (On s)) (Un B' (On s)) w ((((V.setCell ⟨s, 1, none⟩ (.int .i64 (hF.half : Int))).setCell ⟨s, 2, none⟩ (.int .i64 (hF.first : Int))).setCell ⟨s, 3, none⟩ (.int .i64 (hF.size : Int))).setCell ⟨s, 4, none⟩ (.pointer (some ⟨q1, 0, none⟩))) := by
  have on : (Un B1 (On s)) s := .inr rfl
  have tf := ht1.frame (On s)
  refine ⟨B1, q1, rfl, (((hd1.set_out hns1 1 _).set_out hns1 2 _).set_out hns1 3 _).set_out hns1 4 _, ?_, hqn, hqz, hs1.set1 hF q1, hns1, (((tf.trans (Tr.setCell _ on 1 _)).trans (Tr.setCell _ on 2 _)).trans (Tr.setCell _ on 3 _)).trans (Tr.setCell _ on 4 _)⟩
  exact (Below.heap_setCell _ _ _ _ (fun e => hqs e)).trans ((Below.heap_setCell _ _ _ _ (fun e => hqs e)).trans ((Below.heap_setCell _ _ _ _ (fun e => hqs e)).trans ((Below.heap_setCell _ _ _ _ (fun e => hqs e)).trans hL1)))
set_option maxHeartbeats 4000000 in
set_option maxRecDepth 100000 in
theorem ck_good (B : Nat → Prop) (s p q : Nat) (d : Dk) (h : Hd3) (lg : Lg) (a : Option Addr) (c : Nat) (rows : List Ch) (w : World) (hd : DkO w B p d) (hs : StAt w s p h q (.slice a rows.length c)) (hns : ¬ B s) (hq : LgAt w q p lg) (hch : ChsAt w a rows) (hg : ∀ x ∈ rows, chkC x = 0) (hl : rows.length ≤ 60) (h1 : h.half ≤ 1) (hm1 : lg.many ≤ 100000) (hm2 : lg.first ≤ 1000000000) (L : Lg) (hlay : ∀ W, DkO W B p d → ChsAt W a rows → Calls Tryd.prog 31 #[.pointer (some ⟨p, 0, none⟩), hdV (ckH h lg), .slice a rows.length c] W fun e w' => ∃ B' q, e = .returned (.tuple #[hdV (layF d (ckH h lg) rows), .pointer (some ⟨q, 0, none⟩), .nilIface]) ∧ DkO w' B' p (lay2 d (ckH h lg) rows).1 ∧ LgAt w' q p L ∧ ¬ B' q ∧ W.heap.size ≤ q ∧ Tr B B' W w') :
    Calls Tryd.prog 13 #[.pointer (some ⟨s, 0, none⟩)] w fun e w' => ∃ B' q', e = .returned .nilIface ∧ DkO w' B' p (lay2 d (ckH h lg) rows).1 ∧ LgAt w' q' p L ∧ ¬ B' q' ∧ w.heap.size ≤ q' ∧ StAt w' s p (layF d (ckH h lg) rows) q' (.slice a rows.length c) ∧ ¬ B' s ∧ Tr (Un B (On s)) (Un B' (On s)) w w' := by
  have ht := Tr.refl B w
  have hz := heap_lt hs
  have hlB := hd.lt
  have hcv : hdV (ckH h lg) = .agg #[.int .i64 (1 - (h.half : Int)), .int .i64 ((lg.first : Int) + (lg.many : Int)), .int .i64 0] := by
    unfold ckH; simp; omega
  rw [hcv] at hlay
  generalize (lay2 d (ckH h lg) rows).1 = d2 at *
  generalize layF d (ckH h lg) rows = hF at *
  clear hcv hg
  go_enter Tryd.func13, Tryd.ntmps13
  go_wp2_with fail
  refine wp_region_held_drew (S := fun w' => StAt w' s p h q (.slice a rows.length c)) (by kernel_rfl) ?_ (fun hHeld => ?_)
  · exact hs
  refine wpAnyH_take (i := 0) (oi := ({ dst := some 7, op := Op.move (Operand.tmp 0), type := 31, pos := "store.go:94", after := #[], guard := none } : Oper)) (v := .pointer (some ⟨s, 0, none⟩)) rfl (by kernel_rfl) (by kernel_rfl) (by kernel_rfl) (fun _ _ _ h => h) (Or.inl ⟨by rfl, ?_⟩) (by assumption) ?_
  · intro w hSw; go_simp
  (try simp only [Act.put, List.setIfInBounds_toArray, List.set_cons_zero, List.set_cons_succ])
  refine wpAnyH_take (i := 1) (oi := ({ dst := some 8, op := Op.nilCheck (Operand.tmp 7), type := 0, pos := "store.go:94", after := #[{ on := 0, ground := Ground.data }], guard := none } : Oper)) (v := .pointer (some ⟨s, 0, none⟩)) rfl (by kernel_rfl) (by kernel_rfl) (by kernel_rfl) (fun _ _ _ h => h) (Or.inl ⟨by rfl, ?_⟩) (by assumption) ?_
  · intro w hSw; go_simp
  (try simp only [Act.put, List.setIfInBounds_toArray, List.set_cons_zero, List.set_cons_succ])
  refine wpAnyH_take (i := 2) (oi := ({ dst := some 9, op := Op.fieldAddr 81 (Operand.tmp 8) 0, type := 0, pos := "store.go:94", after := #[{ on := 1, ground := Ground.data }], guard := none } : Oper)) (v := .pointer (some ⟨s, 0, none⟩)) rfl (by kernel_rfl) (by kernel_rfl) (by kernel_rfl) (fun _ _ _ h => h) (Or.inl ⟨by rfl, ?_⟩) (by assumption) ?_
  · intro w hSw; go_simp
  (try simp only [Act.put, List.setIfInBounds_toArray, List.set_cons_zero, List.set_cons_succ])
  refine wpAnyH_take (i := 3) (oi := ({ dst := some 10, op := Op.load 25 (Operand.tmp 9), type := 25, pos := "store.go:94", after := #[{ on := 2, ground := Ground.data }], guard := none } : Oper)) (v := .pointer (some ⟨p, 0, none⟩)) rfl (by kernel_rfl) (by kernel_rfl) (by kernel_rfl) (fun _ _ _ h => h) (Or.inl ⟨by rfl, ?_⟩) (by assumption) ?_
  · intro w hSw; obtain ⟨s0, s1, s2, s3, s4, s5⟩ := StAt.cells hSw; go_simp
  (try simp only [Act.put, List.setIfInBounds_toArray, List.set_cons_zero, List.set_cons_succ])
  refine wpAnyH_take (i := 4) (oi := ({ dst := some 11, op := Op.move (Operand.tmp 0), type := 31, pos := "store.go:94", after := #[], guard := none } : Oper)) (v := .pointer (some ⟨s, 0, none⟩)) rfl (by kernel_rfl) (by kernel_rfl) (by kernel_rfl) (fun _ _ _ h => h) (Or.inl ⟨by rfl, ?_⟩) (by assumption) ?_
  · intro w hSw; go_simp
  (try simp only [Act.put, List.setIfInBounds_toArray, List.set_cons_zero, List.set_cons_succ])
  refine wpAnyH_take (i := 5) (oi := ({ dst := some 12, op := Op.nilCheck (Operand.tmp 11), type := 0, pos := "store.go:94", after := #[{ on := 4, ground := Ground.data }], guard := none } : Oper)) (v := .pointer (some ⟨s, 0, none⟩)) rfl (by kernel_rfl) (by kernel_rfl) (by kernel_rfl) (fun _ _ _ h => h) (Or.inl ⟨by rfl, ?_⟩) (by assumption) ?_
  · intro w hSw; go_simp
  (try simp only [Act.put, List.setIfInBounds_toArray, List.set_cons_zero, List.set_cons_succ])
  refine wpAnyH_take (i := 6) (oi := ({ dst := some 13, op := Op.fieldAddr 81 (Operand.tmp 12) 1, type := 0, pos := "store.go:94", after := #[{ on := 5, ground := Ground.data }], guard := none } : Oper)) (v := .pointer (some ⟨s, 1, none⟩)) rfl (by kernel_rfl) (by kernel_rfl) (by kernel_rfl) (fun _ _ _ h => h) (Or.inl ⟨by rfl, ?_⟩) (by assumption) ?_
  · intro w hSw; go_simp
  (try simp only [Act.put, List.setIfInBounds_toArray, List.set_cons_zero, List.set_cons_succ])
  refine wpAnyH_take (i := 7) (oi := ({ dst := some 14, op := Op.fieldAddr 72 (Operand.tmp 13) 0, type := 0, pos := "store.go:94", after := #[{ on := 6, ground := Ground.data }], guard := none } : Oper)) (v := .pointer (some ⟨s, 1, none⟩)) rfl (by kernel_rfl) (by kernel_rfl) (by kernel_rfl) (fun _ _ _ h => h) (Or.inl ⟨by rfl, ?_⟩) (by assumption) ?_
  · intro w hSw; go_simp
  (try simp only [Act.put, List.setIfInBounds_toArray, List.set_cons_zero, List.set_cons_succ])
  refine wpAnyH_take (i := 8) (oi := ({ dst := some 15, op := Op.load 3 (Operand.tmp 14), type := 3, pos := "store.go:94", after := #[{ on := 7, ground := Ground.data }], guard := none } : Oper)) (v := .int .i64 (h.half : Int)) rfl (by kernel_rfl) (by kernel_rfl) (by kernel_rfl) (fun _ _ _ h => h) (Or.inl ⟨by rfl, ?_⟩) (by assumption) ?_
  · intro w hSw; obtain ⟨s0, s1, s2, s3, s4, s5⟩ := StAt.cells hSw; go_simp
  (try simp only [Act.put, List.setIfInBounds_toArray, List.set_cons_zero, List.set_cons_succ])
  refine wpAnyH_take (i := 9) (oi := ({ dst := some 16, op := Op.binOp BinOp.sub 3 (Operand.const (Value.int IntKind.i64 1)) (Operand.tmp 15) 3, type := 3, pos := "store.go:94", after := #[{ on := 8, ground := Ground.data }], guard := none } : Oper)) (v := .int .i64 (1 - (h.half : Int))) rfl (by kernel_rfl) (by kernel_rfl) (by kernel_rfl) (fun _ _ _ h => h) (Or.inl ⟨by rfl, ?_⟩) (by assumption) ?_
  · intro w hSw; go_simp; exact wrap_id (by omega) (by omega)
  (try simp only [Act.put, List.setIfInBounds_toArray, List.set_cons_zero, List.set_cons_succ])
  refine wpAnyH_take (i := 10) (oi := ({ dst := some 17, op := Op.move (Operand.tmp 0), type := 31, pos := "store.go:94", after := #[], guard := none } : Oper)) (v := .pointer (some ⟨s, 0, none⟩)) rfl (by kernel_rfl) (by kernel_rfl) (by kernel_rfl) (fun _ _ _ h => h) (Or.inl ⟨by rfl, ?_⟩) (by assumption) ?_
  · intro w hSw; go_simp
  (try simp only [Act.put, List.setIfInBounds_toArray, List.set_cons_zero, List.set_cons_succ])
  refine wpAnyH_take (i := 11) (oi := ({ dst := some 18, op := Op.nilCheck (Operand.tmp 17), type := 0, pos := "store.go:94", after := #[{ on := 10, ground := Ground.data }], guard := none } : Oper)) (v := .pointer (some ⟨s, 0, none⟩)) rfl (by kernel_rfl) (by kernel_rfl) (by kernel_rfl) (fun _ _ _ h => h) (Or.inl ⟨by rfl, ?_⟩) (by assumption) ?_
  · intro w hSw; go_simp
  (try simp only [Act.put, List.setIfInBounds_toArray, List.set_cons_zero, List.set_cons_succ])
  refine wpAnyH_take (i := 12) (oi := ({ dst := some 19, op := Op.fieldAddr 81 (Operand.tmp 18) 2, type := 0, pos := "store.go:94", after := #[{ on := 11, ground := Ground.data }], guard := none } : Oper)) (v := .pointer (some ⟨s, 4, none⟩)) rfl (by kernel_rfl) (by kernel_rfl) (by kernel_rfl) (fun _ _ _ h => h) (Or.inl ⟨by rfl, ?_⟩) (by assumption) ?_
  · intro w hSw; go_simp
  (try simp only [Act.put, List.setIfInBounds_toArray, List.set_cons_zero, List.set_cons_succ])
  refine wpAnyH_take (i := 13) (oi := ({ dst := some 20, op := Op.load 77 (Operand.tmp 19), type := 77, pos := "store.go:94", after := #[{ on := 12, ground := Ground.data }], guard := none } : Oper)) (v := .pointer (some ⟨q, 0, none⟩)) rfl (by kernel_rfl) (by kernel_rfl) (by kernel_rfl) (fun _ _ _ h => h) (Or.inl ⟨by rfl, ?_⟩) (by assumption) ?_
  · intro w hSw; obtain ⟨s0, s1, s2, s3, s4, s5⟩ := StAt.cells hSw; go_simp
  (try simp only [Act.put, List.setIfInBounds_toArray, List.set_cons_zero, List.set_cons_succ])
  refine wpAnyH_take (i := 16) (oi := ({ dst := some 23, op := Op.move (Operand.tmp 0), type := 31, pos := "store.go:94", after := #[], guard := none } : Oper)) (v := .pointer (some ⟨s, 0, none⟩)) rfl (by kernel_rfl) (by kernel_rfl) (by kernel_rfl) (fun _ _ _ h => h) (Or.inl ⟨by rfl, ?_⟩) (by assumption) ?_
  · intro w hSw; go_simp
  (try simp only [Act.put, List.setIfInBounds_toArray, List.set_cons_zero, List.set_cons_succ])
  refine wpAnyH_take (i := 17) (oi := ({ dst := some 24, op := Op.nilCheck (Operand.tmp 23), type := 0, pos := "store.go:94", after := #[{ on := 16, ground := Ground.data }], guard := none } : Oper)) (v := .pointer (some ⟨s, 0, none⟩)) rfl (by kernel_rfl) (by kernel_rfl) (by kernel_rfl) (fun _ _ _ h => h) (Or.inl ⟨by rfl, ?_⟩) (by assumption) ?_
  · intro w hSw; go_simp
  (try simp only [Act.put, List.setIfInBounds_toArray, List.set_cons_zero, List.set_cons_succ])
  refine wpAnyH_take (i := 18) (oi := ({ dst := some 25, op := Op.fieldAddr 81 (Operand.tmp 24) 3, type := 0, pos := "store.go:94", after := #[{ on := 17, ground := Ground.data }], guard := none } : Oper)) (v := .pointer (some ⟨s, 5, none⟩)) rfl (by kernel_rfl) (by kernel_rfl) (by kernel_rfl) (fun _ _ _ h => h) (Or.inl ⟨by rfl, ?_⟩) (by assumption) ?_
  · intro w hSw; go_simp
  (try simp only [Act.put, List.setIfInBounds_toArray, List.set_cons_zero, List.set_cons_succ])
  refine wpAnyH_take (i := 19) (oi := ({ dst := some 26, op := Op.load 36 (Operand.tmp 25), type := 36, pos := "store.go:94", after := #[{ on := 18, ground := Ground.data }], guard := none } : Oper)) (v := .slice a rows.length c) rfl (by kernel_rfl) (by kernel_rfl) (by kernel_rfl) (fun _ _ _ h => h) (Or.inl ⟨by rfl, ?_⟩) (by assumption) ?_
  · intro w hSw; obtain ⟨s0, s1, s2, s3, s4, s5⟩ := StAt.cells hSw; go_simp
  (try simp only [Act.put, List.setIfInBounds_toArray, List.set_cons_zero, List.set_cons_succ])
  have bD : Below w.heap.size w w.drew := below_drewN (Below.refl _ _) 1
  replace hd := hd.below bD
  replace hq := hq.below bD
  replace hch := hch.below bD
  replace hs := hs.below bD
  replace ht := ht.below bD
  generalize hcur : w.drew = w0 at hd hq hch hs ht hHeld ⊢
  clear bD hcur
  refine wpAnyH_ready (rs := [14, 25]) (by kernel_rfl) (by simp) ?_
  refine AllReadyH.cons (o := ({ dst := some 21, op := Op.call { callee := Callee.value (Operand.func 36), args := #[Operand.tmp 20], argTypes := #[77] }, type := 3, pos := "store.go:94", after := #[{ on := 13, ground := Ground.data }], guard := none } : Oper)) rfl (fun K hK => ?_) (AllReadyH.cons (o := ({ dst := some 3, op := Op.alloc 72, type := 0, pos := "store.go:94", after := #[], guard := none } : Oper)) rfl (fun K hK => ?_) AllReadyH.nil)
  · skip
    rw [if_pos (by rfl)]
    go_wp2_with fail
    refine (next_any p q lg _ hq hm1 (by omega)).mono ?_
    rintro e wn ⟨rfl, hbn⟩
    replace hd := hd.below hbn
    replace hq := hq.below hbn
    replace hch := hch.below hbn
    replace hs := hs.below hbn
    replace ht := ht.below hbn
    refine hK.out _ _ ?_ (fun hHeld => ?_)
    · exact hs
    clear hK K
    (try simp only [Act.put, List.setIfInBounds_toArray, List.set_cons_zero, List.set_cons_succ])
    refine wpAnyH_take (i := 15) (oi := ({ dst := some 22, op := Op.build 72 #[(0, Operand.tmp 16), (1, Operand.tmp 21)], type := 72, pos := "store.go:94", after := #[{ on := 9, ground := Ground.data }, { on := 14, ground := Ground.data }], guard := none } : Oper)) (v := .agg #[.int .i64 (1 - (h.half : Int)), .int .i64 ((lg.first : Int) + (lg.many : Int)), .int .i64 0]) rfl (by kernel_rfl) (by kernel_rfl) (by kernel_rfl) (fun _ _ _ h => h) (Or.inl ⟨by rfl, ?_⟩) (by assumption) ?_
    · intro w hSw; go_simp
    (try simp only [Act.put, List.setIfInBounds_toArray, List.set_cons_zero, List.set_cons_succ])
    refine wpAnyH_ready (rs := [20, 25]) (by kernel_rfl) (by simp) ?_
    refine AllReadyH.cons (o := ({ dst := some 27, op := Op.call { callee := Callee.value (Operand.func 31), args := #[Operand.tmp 10, Operand.tmp 22, Operand.tmp 26], argTypes := #[25, 72, 36] }, type := 82, pos := "store.go:94", after := #[{ on := 3, ground := Ground.data }, { on := 15, ground := Ground.data }, { on := 19, ground := Ground.data }, { on := 14, ground := Ground.chain }], guard := none } : Oper)) rfl (fun K hK => ?_) (AllReadyH.cons (o := ({ dst := some 3, op := Op.alloc 72, type := 0, pos := "store.go:94", after := #[], guard := none } : Oper)) rfl (fun K hK => ?_) AllReadyH.nil)
    · skip
      rw [if_pos (by rfl)]
      go_wp2_with fail
      refine (hlay _ hd hch).mono ?_
      rintro e wl ⟨B1, q1, rfl, hd1, hL1, hqn, hqz, htl⟩
      obtain ⟨hs1, hns1⟩ := hs.tr htl hns
      have hqw : w.heap.size ≤ q1 := Nat.le_trans ht.size hqz
      have ht1 := ht.trans htl
      refine hK.out _ _ ?_ (fun hHeld => ?_)
      · exact hs1
      clear hK K
      (try simp only [Act.put, List.setIfInBounds_toArray, List.set_cons_zero, List.set_cons_succ])
      refine wpAnyH_take (i := 21) (oi := ({ dst := some 6, op := Op.move (Operand.tmp 27), type := 82, pos := "store.go:94", after := #[{ on := 20, ground := Ground.data }], guard := none } : Oper)) (v := .tuple #[hdV hF, .pointer (some ⟨q1, 0, none⟩), .nilIface]) rfl (by kernel_rfl) (by kernel_rfl) (by kernel_rfl) (fun _ _ _ h => h) (Or.inl ⟨by rfl, ?_⟩) (by assumption) ?_
      · intro w hSw; go_simp
      (try simp only [Act.put, List.setIfInBounds_toArray, List.set_cons_zero, List.set_cons_succ])
      refine wpAnyH_take (i := 22) (oi := ({ dst := some 28, op := Op.extract (Operand.tmp 6) 0, type := 72, pos := "store.go:94", after := #[{ on := 21, ground := Ground.data }], guard := none } : Oper)) (v := hdV hF) rfl (by kernel_rfl) (by kernel_rfl) (by kernel_rfl) (fun _ _ _ h => h) (Or.inl ⟨by rfl, ?_⟩) (by assumption) ?_
      · intro w hSw; go_simp
      (try simp only [Act.put, List.setIfInBounds_toArray, List.set_cons_zero, List.set_cons_succ])
      refine wpAnyH_take (i := 23) (oi := ({ dst := some 29, op := Op.extract (Operand.tmp 6) 1, type := 77, pos := "store.go:94", after := #[{ on := 21, ground := Ground.data }, { on := 26, ground := Ground.gcOnly Departure.lateStores }], guard := none } : Oper)) (v := .pointer (some ⟨q1, 0, none⟩)) rfl (by kernel_rfl) (by kernel_rfl) (by kernel_rfl) (fun _ _ _ h => h) (Or.inl ⟨by rfl, ?_⟩) (by assumption) ?_
      · intro w hSw; go_simp
      (try simp only [Act.put, List.setIfInBounds_toArray, List.set_cons_zero, List.set_cons_succ])
      refine wpAnyH_take (i := 24) (oi := ({ dst := some 30, op := Op.extract (Operand.tmp 6) 2, type := 27, pos := "store.go:94", after := #[{ on := 21, ground := Ground.data }, { on := 27, ground := Ground.gcOnly Departure.lateStores }], guard := none } : Oper)) (v := .nilIface) rfl (by kernel_rfl) (by kernel_rfl) (by kernel_rfl) (fun _ _ _ h => h) (Or.inl ⟨by rfl, ?_⟩) (by assumption) ?_
      · intro w hSw; go_simp
      (try simp only [Act.put, List.setIfInBounds_toArray, List.set_cons_zero, List.set_cons_succ])
      refine wpAnyH_ready (rs := [25]) (by kernel_rfl) (by simp) ?_
      refine AllReadyH.cons (o := ({ dst := some 3, op := Op.alloc 72, type := 0, pos := "store.go:94", after := #[], guard := none } : Oper)) rfl (fun K hK => ?_) AllReadyH.nil
      rw [if_pos (by rfl)]
      go_wp2_with fail
      refine hK.out _ _ ?_ (fun hHeld => ?_)
      · exact hs1.below ((Below.refl _ _).alloc (Nat.le_refl _) _)
      clear hK K
      (try simp only [Act.put, List.setIfInBounds_toArray, List.set_cons_zero, List.set_cons_succ])
      refine wpAnyH_ready (rs := [26]) (by kernel_rfl) (by simp) ?_
      refine AllReadyH.cons (o := ({ dst := none, op := Op.store 72 (Operand.tmp 3) (Operand.tmp 28), type := 0, pos := "store.go:94", after := #[{ on := 25, ground := Ground.data }, { on := 22, ground := Ground.data }, { on := 20, ground := Ground.chain }, { on := 0, ground := Ground.phase }, { on := 1, ground := Ground.phase }, { on := 2, ground := Ground.phase }, { on := 3, ground := Ground.phase }, { on := 4, ground := Ground.phase }, { on := 5, ground := Ground.phase }, { on := 6, ground := Ground.phase }, { on := 7, ground := Ground.phase }, { on := 8, ground := Ground.phase }, { on := 9, ground := Ground.phase }, { on := 10, ground := Ground.phase }, { on := 11, ground := Ground.phase }, { on := 12, ground := Ground.phase }, { on := 13, ground := Ground.phase }, { on := 14, ground := Ground.phase }, { on := 15, ground := Ground.phase }, { on := 16, ground := Ground.phase }, { on := 17, ground := Ground.phase }, { on := 18, ground := Ground.phase }, { on := 19, ground := Ground.phase }, { on := 20, ground := Ground.phase }, { on := 21, ground := Ground.phase }, { on := 22, ground := Ground.phase }, { on := 23, ground := Ground.textOnly Departure.lateStores }, { on := 24, ground := Ground.textOnly Departure.lateStores }, { on := 25, ground := Ground.phase }], guard := none } : Oper)) rfl (fun K hK => ?_) AllReadyH.nil
      rw [if_pos (by rfl)]
      go_wp2_with fail
      refine hK.out _ _ ?_ (fun hHeld => ?_)
      · exact hs1.below ((Below.refl _ _).alloc (Nat.le_refl _) _)
      clear hK K
      (try simp only [Act.put, List.setIfInBounds_toArray, List.set_cons_zero, List.set_cons_succ])
      refine wpAnyH_take (i := 27) (oi := ({ dst := some 4, op := Op.assign (Operand.tmp 29), type := 77, pos := "store.go:94", after := #[{ on := 23, ground := Ground.data }, { on := 26, ground := Ground.chain }, { on := 0, ground := Ground.phase }, { on := 1, ground := Ground.phase }, { on := 2, ground := Ground.phase }, { on := 3, ground := Ground.phase }, { on := 4, ground := Ground.phase }, { on := 5, ground := Ground.phase }, { on := 6, ground := Ground.phase }, { on := 7, ground := Ground.phase }, { on := 8, ground := Ground.phase }, { on := 9, ground := Ground.phase }, { on := 10, ground := Ground.phase }, { on := 11, ground := Ground.phase }, { on := 12, ground := Ground.phase }, { on := 13, ground := Ground.phase }, { on := 14, ground := Ground.phase }, { on := 15, ground := Ground.phase }, { on := 16, ground := Ground.phase }, { on := 17, ground := Ground.phase }, { on := 18, ground := Ground.phase }, { on := 19, ground := Ground.phase }, { on := 20, ground := Ground.phase }, { on := 21, ground := Ground.phase }, { on := 22, ground := Ground.phase }, { on := 23, ground := Ground.phase }, { on := 24, ground := Ground.textOnly Departure.lateStores }, { on := 25, ground := Ground.phase }, { on := 26, ground := Ground.phase }], guard := none } : Oper)) (v := .pointer (some ⟨q1, 0, none⟩)) rfl (by kernel_rfl) (by kernel_rfl) (by kernel_rfl) (fun _ _ _ h => h) (Or.inl ⟨by rfl, ?_⟩) (by assumption) ?_
      · intro w hSw; go_simp
      (try simp only [Act.put, List.setIfInBounds_toArray, List.set_cons_zero, List.set_cons_succ])
      refine wpAnyH_take (i := 28) (oi := ({ dst := some 5, op := Op.assign (Operand.tmp 30), type := 27, pos := "store.go:94", after := #[{ on := 24, ground := Ground.data }, { on := 27, ground := Ground.chain }, { on := 0, ground := Ground.phase }, { on := 1, ground := Ground.phase }, { on := 2, ground := Ground.phase }, { on := 3, ground := Ground.phase }, { on := 4, ground := Ground.phase }, { on := 5, ground := Ground.phase }, { on := 6, ground := Ground.phase }, { on := 7, ground := Ground.phase }, { on := 8, ground := Ground.phase }, { on := 9, ground := Ground.phase }, { on := 10, ground := Ground.phase }, { on := 11, ground := Ground.phase }, { on := 12, ground := Ground.phase }, { on := 13, ground := Ground.phase }, { on := 14, ground := Ground.phase }, { on := 15, ground := Ground.phase }, { on := 16, ground := Ground.phase }, { on := 17, ground := Ground.phase }, { on := 18, ground := Ground.phase }, { on := 19, ground := Ground.phase }, { on := 20, ground := Ground.phase }, { on := 21, ground := Ground.phase }, { on := 22, ground := Ground.phase }, { on := 23, ground := Ground.phase }, { on := 24, ground := Ground.phase }, { on := 25, ground := Ground.phase }, { on := 26, ground := Ground.phase }, { on := 27, ground := Ground.phase }], guard := none } : Oper)) (v := .nilIface) rfl (by kernel_rfl) (by kernel_rfl) (by kernel_rfl) (fun _ _ _ h => h) (Or.inl ⟨by rfl, ?_⟩) (by assumption) ?_
      · intro w hSw; go_simp
      (try simp only [Act.put, List.setIfInBounds_toArray, List.set_cons_zero, List.set_cons_succ])
      refine wpAnyH_done (by kernel_rfl) ?_ _
      have bA : Below wl.heap.size wl (wl.alloc (.cells #[.int .i64 (hF.half : Int), .int .i64 (hF.first : Int), .int .i64 (hF.size : Int)] 72)) := (Below.refl _ _).alloc (Nat.le_refl _) _
      have BF := Bx.new wl [.int .i64 (hF.half : Int), .int .i64 (hF.first : Int), .int .i64 (hF.size : Int)] 72
      have hqs : q1 ≠ s := by have := heap_lt hs; omega
      have hbs : s ≠ wl.heap.size := by have := heap_lt hs1; omega
      replace hd1 := hd1.below bA
      replace ht1 := ht1.below bA
      replace hs1 := hs1.below bA
      replace hL1 := hL1.below bA
      clear bA
      generalize (wl.alloc (.cells #[.int .i64 (hF.half : Int), .int .i64 (hF.first : Int), .int .i64 (hF.size : Int)] 72)) = V at BF hd1 ht1 hs1 hL1 ⊢
      obtain ⟨x0, x1, x2⟩ := BF.three
      obtain ⟨c0, c1, c2, c3, c4, c5⟩ := hs1.cells
      have g1 := hs1.free 1
      have g2 := hs1.free 2
      have g3 := hs1.free 3
      have g4 := hs1.free 4
      have zz := heap_lt hs1
      have zb := BF.1
      go_wp2_with fail
      go_ret
      exact ckfin hd1 hL1 hs1 hns1 hqn hqw ht1 hqs hz hF
    · skip
      rw [if_pos (by rfl)]
      go_wp2_with fail
      have bA : Below wn.heap.size wn (wn.alloc (.cells #[.int .i64 0, .int .i64 0, .int .i64 0] 72)) := (Below.refl _ _).alloc (Nat.le_refl _) _
      have BT := Bx.new wn [.int .i64 0, .int .i64 0, .int .i64 0] 72
      replace hd := hd.below bA
      replace hq := hq.below bA
      replace hch := hch.below bA
      replace hs := hs.below bA
      have hbs : s ≠ wn.heap.size := by have := hz; have := ht.size; omega
      have hnBt : ¬ B wn.heap.size := fun hb => by have := hlB _ hb; have := ht.size; omega
      have hbz : w.heap.size ≤ wn.heap.size := ht.size
      replace ht := ht.below bA
      generalize hbt : wn.heap.size = bt at BT hbs hnBt hbz hK ⊢
      generalize hcw : (wn.alloc (.cells #[.int .i64 0, .int .i64 0, .int .i64 0] 72)) = wA at BT hd hq hch hs ht hK ⊢
      clear bA hbt hcw
      refine hK.out _ _ ?_ (fun hHeld => ?_)
      · exact hs
      clear hK K
      (try simp only [Act.put, List.setIfInBounds_toArray, List.set_cons_zero, List.set_cons_succ])
      refine wpAnyH_ready (rs := [20]) (by kernel_rfl) (by simp) ?_
      refine AllReadyH.cons (o := ({ dst := some 27, op := Op.call { callee := Callee.value (Operand.func 31), args := #[Operand.tmp 10, Operand.tmp 22, Operand.tmp 26], argTypes := #[25, 72, 36] }, type := 82, pos := "store.go:94", after := #[{ on := 3, ground := Ground.data }, { on := 15, ground := Ground.data }, { on := 19, ground := Ground.data }, { on := 14, ground := Ground.chain }], guard := none } : Oper)) rfl (fun K hK => ?_) AllReadyH.nil
      rw [if_pos (by rfl)]
      go_wp2_with fail
      refine (hlay _ hd hch).mono ?_
      rintro e wl ⟨B1, q1, rfl, hd1, hL1, hqn, hqz, htl⟩
      obtain ⟨hs1, hns1⟩ := hs.tr htl hns
      have hqw : w.heap.size ≤ q1 := Nat.le_trans ht.size hqz
      have ht1 := ht.trans htl
      have hlt1 := BT.1
      have BT1 := BT.tr htl hnBt
      have hb0 := (BT1.2 0 _ rfl).1
      have hb1 := (BT1.2 1 _ rfl).1
      have hb2 := (BT1.2 2 _ rfl).1
      have hf0 := (BT1.2 0 _ rfl).2
      have hf1 := (BT1.2 1 _ rfl).2
      have hf2 := (BT1.2 2 _ rfl).2
      have hzt := BT1.1
      refine hK.out _ _ ?_ (fun hHeld => ?_)
      · exact hs1
      clear hK K
      (try simp only [Act.put, List.setIfInBounds_toArray, List.set_cons_zero, List.set_cons_succ])
      refine wpAnyH_take (i := 21) (oi := ({ dst := some 6, op := Op.move (Operand.tmp 27), type := 82, pos := "store.go:94", after := #[{ on := 20, ground := Ground.data }], guard := none } : Oper)) (v := .tuple #[hdV hF, .pointer (some ⟨q1, 0, none⟩), .nilIface]) rfl (by kernel_rfl) (by kernel_rfl) (by kernel_rfl) (fun _ _ _ h => h) (Or.inl ⟨by rfl, ?_⟩) (by assumption) ?_
      · intro w hSw; go_simp
      (try simp only [Act.put, List.setIfInBounds_toArray, List.set_cons_zero, List.set_cons_succ])
      refine wpAnyH_take (i := 22) (oi := ({ dst := some 28, op := Op.extract (Operand.tmp 6) 0, type := 72, pos := "store.go:94", after := #[{ on := 21, ground := Ground.data }], guard := none } : Oper)) (v := hdV hF) rfl (by kernel_rfl) (by kernel_rfl) (by kernel_rfl) (fun _ _ _ h => h) (Or.inl ⟨by rfl, ?_⟩) (by assumption) ?_
      · intro w hSw; go_simp
      (try simp only [Act.put, List.setIfInBounds_toArray, List.set_cons_zero, List.set_cons_succ])
      refine wpAnyH_take (i := 23) (oi := ({ dst := some 29, op := Op.extract (Operand.tmp 6) 1, type := 77, pos := "store.go:94", after := #[{ on := 21, ground := Ground.data }, { on := 26, ground := Ground.gcOnly Departure.lateStores }], guard := none } : Oper)) (v := .pointer (some ⟨q1, 0, none⟩)) rfl (by kernel_rfl) (by kernel_rfl) (by kernel_rfl) (fun _ _ _ h => h) (Or.inl ⟨by rfl, ?_⟩) (by assumption) ?_
      · intro w hSw; go_simp
      (try simp only [Act.put, List.setIfInBounds_toArray, List.set_cons_zero, List.set_cons_succ])
      refine wpAnyH_take (i := 24) (oi := ({ dst := some 30, op := Op.extract (Operand.tmp 6) 2, type := 27, pos := "store.go:94", after := #[{ on := 21, ground := Ground.data }, { on := 27, ground := Ground.gcOnly Departure.lateStores }], guard := none } : Oper)) (v := .nilIface) rfl (by kernel_rfl) (by kernel_rfl) (by kernel_rfl) (fun _ _ _ h => h) (Or.inl ⟨by rfl, ?_⟩) (by assumption) ?_
      · intro w hSw; go_simp
      (try simp only [Act.put, List.setIfInBounds_toArray, List.set_cons_zero, List.set_cons_succ])
      refine wpAnyH_ready (rs := [26]) (by kernel_rfl) (by simp) ?_
      refine AllReadyH.cons (o := ({ dst := none, op := Op.store 72 (Operand.tmp 3) (Operand.tmp 28), type := 0, pos := "store.go:94", after := #[{ on := 25, ground := Ground.data }, { on := 22, ground := Ground.data }, { on := 20, ground := Ground.chain }, { on := 0, ground := Ground.phase }, { on := 1, ground := Ground.phase }, { on := 2, ground := Ground.phase }, { on := 3, ground := Ground.phase }, { on := 4, ground := Ground.phase }, { on := 5, ground := Ground.phase }, { on := 6, ground := Ground.phase }, { on := 7, ground := Ground.phase }, { on := 8, ground := Ground.phase }, { on := 9, ground := Ground.phase }, { on := 10, ground := Ground.phase }, { on := 11, ground := Ground.phase }, { on := 12, ground := Ground.phase }, { on := 13, ground := Ground.phase }, { on := 14, ground := Ground.phase }, { on := 15, ground := Ground.phase }, { on := 16, ground := Ground.phase }, { on := 17, ground := Ground.phase }, { on := 18, ground := Ground.phase }, { on := 19, ground := Ground.phase }, { on := 20, ground := Ground.phase }, { on := 21, ground := Ground.phase }, { on := 22, ground := Ground.phase }, { on := 23, ground := Ground.textOnly Departure.lateStores }, { on := 24, ground := Ground.textOnly Departure.lateStores }, { on := 25, ground := Ground.phase }], guard := none } : Oper)) rfl (fun K hK => ?_) AllReadyH.nil
      rw [if_pos (by rfl)]
      go_wp2_with fail
      refine hK.out _ _ ?_ (fun hHeld => ?_)
      · exact hs1.past3 hbs _ _ _
      clear hK K
      (try simp only [Act.put, List.setIfInBounds_toArray, List.set_cons_zero, List.set_cons_succ])
      refine wpAnyH_take (i := 27) (oi := ({ dst := some 4, op := Op.assign (Operand.tmp 29), type := 77, pos := "store.go:94", after := #[{ on := 23, ground := Ground.data }, { on := 26, ground := Ground.chain }, { on := 0, ground := Ground.phase }, { on := 1, ground := Ground.phase }, { on := 2, ground := Ground.phase }, { on := 3, ground := Ground.phase }, { on := 4, ground := Ground.phase }, { on := 5, ground := Ground.phase }, { on := 6, ground := Ground.phase }, { on := 7, ground := Ground.phase }, { on := 8, ground := Ground.phase }, { on := 9, ground := Ground.phase }, { on := 10, ground := Ground.phase }, { on := 11, ground := Ground.phase }, { on := 12, ground := Ground.phase }, { on := 13, ground := Ground.phase }, { on := 14, ground := Ground.phase }, { on := 15, ground := Ground.phase }, { on := 16, ground := Ground.phase }, { on := 17, ground := Ground.phase }, { on := 18, ground := Ground.phase }, { on := 19, ground := Ground.phase }, { on := 20, ground := Ground.phase }, { on := 21, ground := Ground.phase }, { on := 22, ground := Ground.phase }, { on := 23, ground := Ground.phase }, { on := 24, ground := Ground.textOnly Departure.lateStores }, { on := 25, ground := Ground.phase }, { on := 26, ground := Ground.phase }], guard := none } : Oper)) (v := .pointer (some ⟨q1, 0, none⟩)) rfl (by kernel_rfl) (by kernel_rfl) (by kernel_rfl) (fun _ _ _ h => h) (Or.inl ⟨by rfl, ?_⟩) (by assumption) ?_
      · intro w hSw; go_simp
      (try simp only [Act.put, List.setIfInBounds_toArray, List.set_cons_zero, List.set_cons_succ])
      refine wpAnyH_take (i := 28) (oi := ({ dst := some 5, op := Op.assign (Operand.tmp 30), type := 27, pos := "store.go:94", after := #[{ on := 24, ground := Ground.data }, { on := 27, ground := Ground.chain }, { on := 0, ground := Ground.phase }, { on := 1, ground := Ground.phase }, { on := 2, ground := Ground.phase }, { on := 3, ground := Ground.phase }, { on := 4, ground := Ground.phase }, { on := 5, ground := Ground.phase }, { on := 6, ground := Ground.phase }, { on := 7, ground := Ground.phase }, { on := 8, ground := Ground.phase }, { on := 9, ground := Ground.phase }, { on := 10, ground := Ground.phase }, { on := 11, ground := Ground.phase }, { on := 12, ground := Ground.phase }, { on := 13, ground := Ground.phase }, { on := 14, ground := Ground.phase }, { on := 15, ground := Ground.phase }, { on := 16, ground := Ground.phase }, { on := 17, ground := Ground.phase }, { on := 18, ground := Ground.phase }, { on := 19, ground := Ground.phase }, { on := 20, ground := Ground.phase }, { on := 21, ground := Ground.phase }, { on := 22, ground := Ground.phase }, { on := 23, ground := Ground.phase }, { on := 24, ground := Ground.phase }, { on := 25, ground := Ground.phase }, { on := 26, ground := Ground.phase }, { on := 27, ground := Ground.phase }], guard := none } : Oper)) (v := .nilIface) rfl (by kernel_rfl) (by kernel_rfl) (by kernel_rfl) (fun _ _ _ h => h) (Or.inl ⟨by rfl, ?_⟩) (by assumption) ?_
      · intro w hSw; go_simp
      (try simp only [Act.put, List.setIfInBounds_toArray, List.set_cons_zero, List.set_cons_succ])
      refine wpAnyH_done (by kernel_rfl) ?_ _
      have hnb : ¬ B1 bt := (htl.out hlt1 hnBt).2.1
      have hq1b : q1 ≠ bt := by omega
      have BF := BT1.put3 (.int .i64 (hF.half : Int)) (.int .i64 (hF.first : Int)) (.int .i64 (hF.size : Int))
      replace hd1 := hd1.set3 hnb (.int .i64 (hF.half : Int)) (.int .i64 (hF.first : Int)) (.int .i64 (hF.size : Int))
      replace ht1 := ht1.set3 hbz (.int .i64 (hF.half : Int)) (.int .i64 (hF.first : Int)) (.int .i64 (hF.size : Int))
      replace hs1 := hs1.past3 hbs (.int .i64 (hF.half : Int)) (.int .i64 (hF.first : Int)) (.int .i64 (hF.size : Int))
      replace hL1 : LgAt (((wl.setCell ⟨bt, 0, none⟩ (.int .i64 (hF.half : Int))).setCell ⟨bt, 1, none⟩ (.int .i64 (hF.first : Int))).setCell ⟨bt, 2, none⟩ (.int .i64 (hF.size : Int))) q1 p _ := (Below.heap_setCell _ _ _ _ (fun e => by dsimp only at e; omega)).trans ((Below.heap_setCell _ _ _ _ (fun e => by dsimp only at e; omega)).trans ((Below.heap_setCell _ _ _ _ (fun e => by dsimp only at e; omega)).trans hL1))
      have hqs : q1 ≠ s := by have := heap_lt hs; omega
      clear hb0 hb1 hb2 hf0 hf1 hf2 hzt BT1
      generalize (((wl.setCell ⟨bt, 0, none⟩ (.int .i64 (hF.half : Int))).setCell ⟨bt, 1, none⟩ (.int .i64 (hF.first : Int))).setCell ⟨bt, 2, none⟩ (.int .i64 (hF.size : Int))) = V at BF hd1 ht1 hs1 hL1 ⊢
      obtain ⟨x0, x1, x2⟩ := BF.three
      obtain ⟨c0, c1, c2, c3, c4, c5⟩ := hs1.cells
      have g1 := hs1.free 1
      have g2 := hs1.free 2
      have g3 := hs1.free 3
      have g4 := hs1.free 4
      have zz := heap_lt hs1
      have zb := BF.1
      go_wp2_with fail
      go_ret
      exact ckfin hd1 hL1 hs1 hns1 hqn hqw ht1 hqs hz hF
  · skip
    rw [if_pos (by rfl)]
    go_wp2_with fail
    have bA : Below w0.heap.size w0 (w0.alloc (.cells #[.int .i64 0, .int .i64 0, .int .i64 0] 72)) := (Below.refl _ _).alloc (Nat.le_refl _) _
    have BT := Bx.new w0 [.int .i64 0, .int .i64 0, .int .i64 0] 72
    replace hd := hd.below bA
    replace hq := hq.below bA
    replace hch := hch.below bA
    replace hs := hs.below bA
    have hbs : s ≠ w0.heap.size := by have := hz; have := ht.size; omega
    have hnBt : ¬ B w0.heap.size := fun hb => by have := hlB _ hb; have := ht.size; omega
    have hbz : w.heap.size ≤ w0.heap.size := ht.size
    replace ht := ht.below bA
    generalize hbt : w0.heap.size = bt at BT hbs hnBt hbz hK ⊢
    generalize hcw : (w0.alloc (.cells #[.int .i64 0, .int .i64 0, .int .i64 0] 72)) = wA at BT hd hq hch hs ht hK ⊢
    clear bA hbt hcw
    refine hK.out _ _ ?_ (fun hHeld => ?_)
    · exact hs
    clear hK K
    (try simp only [Act.put, List.setIfInBounds_toArray, List.set_cons_zero, List.set_cons_succ])
    refine wpAnyH_ready (rs := [14]) (by kernel_rfl) (by simp) ?_
    refine AllReadyH.cons (o := ({ dst := some 21, op := Op.call { callee := Callee.value (Operand.func 36), args := #[Operand.tmp 20], argTypes := #[77] }, type := 3, pos := "store.go:94", after := #[{ on := 13, ground := Ground.data }], guard := none } : Oper)) rfl (fun K hK => ?_) AllReadyH.nil
    rw [if_pos (by rfl)]
    go_wp2_with fail
    refine (next_any p q lg _ hq hm1 (by omega)).mono ?_
    rintro e wn ⟨rfl, hbn⟩
    replace hd := hd.below hbn
    replace hq := hq.below hbn
    replace hch := hch.below hbn
    replace hs := hs.below hbn
    replace ht := ht.below hbn
    replace BT := BT.below hbn
    refine hK.out _ _ ?_ (fun hHeld => ?_)
    · exact hs
    clear hK K
    (try simp only [Act.put, List.setIfInBounds_toArray, List.set_cons_zero, List.set_cons_succ])
    refine wpAnyH_take (i := 15) (oi := ({ dst := some 22, op := Op.build 72 #[(0, Operand.tmp 16), (1, Operand.tmp 21)], type := 72, pos := "store.go:94", after := #[{ on := 9, ground := Ground.data }, { on := 14, ground := Ground.data }], guard := none } : Oper)) (v := .agg #[.int .i64 (1 - (h.half : Int)), .int .i64 ((lg.first : Int) + (lg.many : Int)), .int .i64 0]) rfl (by kernel_rfl) (by kernel_rfl) (by kernel_rfl) (fun _ _ _ h => h) (Or.inl ⟨by rfl, ?_⟩) (by assumption) ?_
    · intro w hSw; go_simp
    (try simp only [Act.put, List.setIfInBounds_toArray, List.set_cons_zero, List.set_cons_succ])
    refine wpAnyH_ready (rs := [20]) (by kernel_rfl) (by simp) ?_
    refine AllReadyH.cons (o := ({ dst := some 27, op := Op.call { callee := Callee.value (Operand.func 31), args := #[Operand.tmp 10, Operand.tmp 22, Operand.tmp 26], argTypes := #[25, 72, 36] }, type := 82, pos := "store.go:94", after := #[{ on := 3, ground := Ground.data }, { on := 15, ground := Ground.data }, { on := 19, ground := Ground.data }, { on := 14, ground := Ground.chain }], guard := none } : Oper)) rfl (fun K hK => ?_) AllReadyH.nil
    rw [if_pos (by rfl)]
    go_wp2_with fail
    refine (hlay _ hd hch).mono ?_
    rintro e wl ⟨B1, q1, rfl, hd1, hL1, hqn, hqz, htl⟩
    obtain ⟨hs1, hns1⟩ := hs.tr htl hns
    have hqw : w.heap.size ≤ q1 := Nat.le_trans ht.size hqz
    have ht1 := ht.trans htl
    have hlt1 := BT.1
    have BT1 := BT.tr htl hnBt
    have hb0 := (BT1.2 0 _ rfl).1
    have hb1 := (BT1.2 1 _ rfl).1
    have hb2 := (BT1.2 2 _ rfl).1
    have hf0 := (BT1.2 0 _ rfl).2
    have hf1 := (BT1.2 1 _ rfl).2
    have hf2 := (BT1.2 2 _ rfl).2
    have hzt := BT1.1
    refine hK.out _ _ ?_ (fun hHeld => ?_)
    · exact hs1
    clear hK K
    (try simp only [Act.put, List.setIfInBounds_toArray, List.set_cons_zero, List.set_cons_succ])
    refine wpAnyH_take (i := 21) (oi := ({ dst := some 6, op := Op.move (Operand.tmp 27), type := 82, pos := "store.go:94", after := #[{ on := 20, ground := Ground.data }], guard := none } : Oper)) (v := .tuple #[hdV hF, .pointer (some ⟨q1, 0, none⟩), .nilIface]) rfl (by kernel_rfl) (by kernel_rfl) (by kernel_rfl) (fun _ _ _ h => h) (Or.inl ⟨by rfl, ?_⟩) (by assumption) ?_
    · intro w hSw; go_simp
    (try simp only [Act.put, List.setIfInBounds_toArray, List.set_cons_zero, List.set_cons_succ])
    refine wpAnyH_take (i := 22) (oi := ({ dst := some 28, op := Op.extract (Operand.tmp 6) 0, type := 72, pos := "store.go:94", after := #[{ on := 21, ground := Ground.data }], guard := none } : Oper)) (v := hdV hF) rfl (by kernel_rfl) (by kernel_rfl) (by kernel_rfl) (fun _ _ _ h => h) (Or.inl ⟨by rfl, ?_⟩) (by assumption) ?_
    · intro w hSw; go_simp
    (try simp only [Act.put, List.setIfInBounds_toArray, List.set_cons_zero, List.set_cons_succ])
    refine wpAnyH_take (i := 23) (oi := ({ dst := some 29, op := Op.extract (Operand.tmp 6) 1, type := 77, pos := "store.go:94", after := #[{ on := 21, ground := Ground.data }, { on := 26, ground := Ground.gcOnly Departure.lateStores }], guard := none } : Oper)) (v := .pointer (some ⟨q1, 0, none⟩)) rfl (by kernel_rfl) (by kernel_rfl) (by kernel_rfl) (fun _ _ _ h => h) (Or.inl ⟨by rfl, ?_⟩) (by assumption) ?_
    · intro w hSw; go_simp
    (try simp only [Act.put, List.setIfInBounds_toArray, List.set_cons_zero, List.set_cons_succ])
    refine wpAnyH_take (i := 24) (oi := ({ dst := some 30, op := Op.extract (Operand.tmp 6) 2, type := 27, pos := "store.go:94", after := #[{ on := 21, ground := Ground.data }, { on := 27, ground := Ground.gcOnly Departure.lateStores }], guard := none } : Oper)) (v := .nilIface) rfl (by kernel_rfl) (by kernel_rfl) (by kernel_rfl) (fun _ _ _ h => h) (Or.inl ⟨by rfl, ?_⟩) (by assumption) ?_
    · intro w hSw; go_simp
    (try simp only [Act.put, List.setIfInBounds_toArray, List.set_cons_zero, List.set_cons_succ])
    refine wpAnyH_ready (rs := [26]) (by kernel_rfl) (by simp) ?_
    refine AllReadyH.cons (o := ({ dst := none, op := Op.store 72 (Operand.tmp 3) (Operand.tmp 28), type := 0, pos := "store.go:94", after := #[{ on := 25, ground := Ground.data }, { on := 22, ground := Ground.data }, { on := 20, ground := Ground.chain }, { on := 0, ground := Ground.phase }, { on := 1, ground := Ground.phase }, { on := 2, ground := Ground.phase }, { on := 3, ground := Ground.phase }, { on := 4, ground := Ground.phase }, { on := 5, ground := Ground.phase }, { on := 6, ground := Ground.phase }, { on := 7, ground := Ground.phase }, { on := 8, ground := Ground.phase }, { on := 9, ground := Ground.phase }, { on := 10, ground := Ground.phase }, { on := 11, ground := Ground.phase }, { on := 12, ground := Ground.phase }, { on := 13, ground := Ground.phase }, { on := 14, ground := Ground.phase }, { on := 15, ground := Ground.phase }, { on := 16, ground := Ground.phase }, { on := 17, ground := Ground.phase }, { on := 18, ground := Ground.phase }, { on := 19, ground := Ground.phase }, { on := 20, ground := Ground.phase }, { on := 21, ground := Ground.phase }, { on := 22, ground := Ground.phase }, { on := 23, ground := Ground.textOnly Departure.lateStores }, { on := 24, ground := Ground.textOnly Departure.lateStores }, { on := 25, ground := Ground.phase }], guard := none } : Oper)) rfl (fun K hK => ?_) AllReadyH.nil
    rw [if_pos (by rfl)]
    go_wp2_with fail
    refine hK.out _ _ ?_ (fun hHeld => ?_)
    · exact hs1.past3 hbs _ _ _
    clear hK K
    (try simp only [Act.put, List.setIfInBounds_toArray, List.set_cons_zero, List.set_cons_succ])
    refine wpAnyH_take (i := 27) (oi := ({ dst := some 4, op := Op.assign (Operand.tmp 29), type := 77, pos := "store.go:94", after := #[{ on := 23, ground := Ground.data }, { on := 26, ground := Ground.chain }, { on := 0, ground := Ground.phase }, { on := 1, ground := Ground.phase }, { on := 2, ground := Ground.phase }, { on := 3, ground := Ground.phase }, { on := 4, ground := Ground.phase }, { on := 5, ground := Ground.phase }, { on := 6, ground := Ground.phase }, { on := 7, ground := Ground.phase }, { on := 8, ground := Ground.phase }, { on := 9, ground := Ground.phase }, { on := 10, ground := Ground.phase }, { on := 11, ground := Ground.phase }, { on := 12, ground := Ground.phase }, { on := 13, ground := Ground.phase }, { on := 14, ground := Ground.phase }, { on := 15, ground := Ground.phase }, { on := 16, ground := Ground.phase }, { on := 17, ground := Ground.phase }, { on := 18, ground := Ground.phase }, { on := 19, ground := Ground.phase }, { on := 20, ground := Ground.phase }, { on := 21, ground := Ground.phase }, { on := 22, ground := Ground.phase }, { on := 23, ground := Ground.phase }, { on := 24, ground := Ground.textOnly Departure.lateStores }, { on := 25, ground := Ground.phase }, { on := 26, ground := Ground.phase }], guard := none } : Oper)) (v := .pointer (some ⟨q1, 0, none⟩)) rfl (by kernel_rfl) (by kernel_rfl) (by kernel_rfl) (fun _ _ _ h => h) (Or.inl ⟨by rfl, ?_⟩) (by assumption) ?_
    · intro w hSw; go_simp
    (try simp only [Act.put, List.setIfInBounds_toArray, List.set_cons_zero, List.set_cons_succ])
    refine wpAnyH_take (i := 28) (oi := ({ dst := some 5, op := Op.assign (Operand.tmp 30), type := 27, pos := "store.go:94", after := #[{ on := 24, ground := Ground.data }, { on := 27, ground := Ground.chain }, { on := 0, ground := Ground.phase }, { on := 1, ground := Ground.phase }, { on := 2, ground := Ground.phase }, { on := 3, ground := Ground.phase }, { on := 4, ground := Ground.phase }, { on := 5, ground := Ground.phase }, { on := 6, ground := Ground.phase }, { on := 7, ground := Ground.phase }, { on := 8, ground := Ground.phase }, { on := 9, ground := Ground.phase }, { on := 10, ground := Ground.phase }, { on := 11, ground := Ground.phase }, { on := 12, ground := Ground.phase }, { on := 13, ground := Ground.phase }, { on := 14, ground := Ground.phase }, { on := 15, ground := Ground.phase }, { on := 16, ground := Ground.phase }, { on := 17, ground := Ground.phase }, { on := 18, ground := Ground.phase }, { on := 19, ground := Ground.phase }, { on := 20, ground := Ground.phase }, { on := 21, ground := Ground.phase }, { on := 22, ground := Ground.phase }, { on := 23, ground := Ground.phase }, { on := 24, ground := Ground.phase }, { on := 25, ground := Ground.phase }, { on := 26, ground := Ground.phase }, { on := 27, ground := Ground.phase }], guard := none } : Oper)) (v := .nilIface) rfl (by kernel_rfl) (by kernel_rfl) (by kernel_rfl) (fun _ _ _ h => h) (Or.inl ⟨by rfl, ?_⟩) (by assumption) ?_
    · intro w hSw; go_simp
    (try simp only [Act.put, List.setIfInBounds_toArray, List.set_cons_zero, List.set_cons_succ])
    refine wpAnyH_done (by kernel_rfl) ?_ _
    have hnb : ¬ B1 bt := (htl.out hlt1 hnBt).2.1
    have hq1b : q1 ≠ bt := by omega
    have BF := BT1.put3 (.int .i64 (hF.half : Int)) (.int .i64 (hF.first : Int)) (.int .i64 (hF.size : Int))
    replace hd1 := hd1.set3 hnb (.int .i64 (hF.half : Int)) (.int .i64 (hF.first : Int)) (.int .i64 (hF.size : Int))
    replace ht1 := ht1.set3 hbz (.int .i64 (hF.half : Int)) (.int .i64 (hF.first : Int)) (.int .i64 (hF.size : Int))
    replace hs1 := hs1.past3 hbs (.int .i64 (hF.half : Int)) (.int .i64 (hF.first : Int)) (.int .i64 (hF.size : Int))
    replace hL1 : LgAt (((wl.setCell ⟨bt, 0, none⟩ (.int .i64 (hF.half : Int))).setCell ⟨bt, 1, none⟩ (.int .i64 (hF.first : Int))).setCell ⟨bt, 2, none⟩ (.int .i64 (hF.size : Int))) q1 p _ := (Below.heap_setCell _ _ _ _ (fun e => by dsimp only at e; omega)).trans ((Below.heap_setCell _ _ _ _ (fun e => by dsimp only at e; omega)).trans ((Below.heap_setCell _ _ _ _ (fun e => by dsimp only at e; omega)).trans hL1))
    have hqs : q1 ≠ s := by have := heap_lt hs; omega
    clear hb0 hb1 hb2 hf0 hf1 hf2 hzt BT1
    generalize (((wl.setCell ⟨bt, 0, none⟩ (.int .i64 (hF.half : Int))).setCell ⟨bt, 1, none⟩ (.int .i64 (hF.first : Int))).setCell ⟨bt, 2, none⟩ (.int .i64 (hF.size : Int))) = V at BF hd1 ht1 hs1 hL1 ⊢
    obtain ⟨x0, x1, x2⟩ := BF.three
    obtain ⟨c0, c1, c2, c3, c4, c5⟩ := hs1.cells
    have g1 := hs1.free 1
    have g2 := hs1.free 2
    have g3 := hs1.free 3
    have g4 := hs1.free 4
    have zz := heap_lt hs1
    have zb := BF.1
    go_wp2_with fail
    go_ret
    exact ckfin hd1 hL1 hs1 hns1 hqn hqw ht1 hqs hz hF
end Go.Proofs.YtikkakdeapbioaaDoor
set_option linter.unusedVariables false
set_option linter.unusedSimpArgs false
set_option linter.unnecessarySimpa false
namespace Go.Proofs.YtikkakdeapbioaaDoor
open Go.RowKit

/-- a store, as plain data -/
structure Sto where
  d : Dk
  h : Hd3
  lg : Lg
  rows : List Ch
def FF (B : Nat → Prop) (q s : Nat) : Nat → Prop := Un (Un B (On q)) (On s)
/-- a store lies there, with its disk and its log, on these blocks -/
structure StoO (w : World) (B : Nat → Prop) (s p q : Nat) (x : Sto) : Prop where
  dk : DkO w B p x.d
  nq : ¬ B q
  ns : ¬ B s
  qs : q ≠ s
  lga : LgAt w q p x.lg
  st : ∃ a c, StAt w s p x.h q (.slice a x.rows.length c) ∧ ChsB (FF B q s) w a x.rows
/-- what is always so of a store's numbers -/
structure StB (x : Sto) : Prop where
  good : ∀ c ∈ x.rows, chkC c = 0
  ris : Ris x.rows
  len : x.rows.length ≤ 60
  half : x.h.half ≤ 1
  n : 166 ≤ x.d.now.length
  frm : x.lg.frm = 102
  many : x.lg.many = x.d.now.length - 102
  used : x.lg.used ≤ x.lg.many
  first : 1 ≤ x.lg.first ∧ x.lg.first ≤ 1000000
  wr : x.d.wr.length ≤ 1000
theorem StoO.most {w : World} {B : Nat → Prop} {s p q : Nat} {x : Sto} (h : StoO w B s p q x) : x.d.now.length ≤ 200 := h.dk.ok.most
theorem StoO.lt {w : World} {B : Nat → Prop} {s p q : Nat} {x : Sto} (h : StoO w B s p q x) : Lt (FF B q s) w := by
  obtain ⟨a, c, h1, -⟩ := h.st
  intro k hk
  rcases hk with (hk | hk) | hk
  · exact h.dk.lt k hk
  · rw [show k = q from hk]; exact heap_lt h.lga
  · rw [show k = s from hk]; exact heap_lt h1
theorem StoO.below {w w' : World} {B : Nat → Prop} {s p q : Nat} {x : Sto} (h : StoO w B s p q x) (hb : Below w.heap.size w w') : StoO w' B s p q x := by
  obtain ⟨a, c, h1, h2⟩ := h.st
  exact ⟨h.dk.below hb, h.nq, h.ns, h.qs, h.lga.below hb, a, c, h1.below hb, h2.tr (Tr.of_below hb)⟩
/-- a step beside it -/
theorem StoO.past {w w' : World} {B C C' : Nat → Prop} {s p q : Nat} {x : Sto} (h : StoO w B s p q x) (ht : Tr C C' w w') (hd : Dj C (FF B q s)) (hc : ∀ a c, StAt w s p x.h q (.slice a x.rows.length c) → ChsB (FF B q s) w a x.rows → ChsB (FF B q s) w' a x.rows) : StoO w' B s p q x := by
  obtain ⟨a, c, h1, h2⟩ := h.st
  exact ⟨h.dk.past ht (fun k hk hb => hd k hk (.inl (.inl hb))), h.nq, h.ns, h.qs, (ht.out (heap_lt h.lga) (fun e => hd q e (.inl (.inr rfl)))).2.2.trans h.lga, a, c, (ht.out (heap_lt h1) (fun e => hd s e (.inr rfl))).2.2.trans h1, hc a c h1 h2⟩
def ckR (x : Sto) : Sto := if layC x.d (ckH x.h x.lg) x.rows = 0 then ⟨layR x.d (ckH x.h x.lg) x.rows, layF x.d (ckH x.h x.lg) x.rows, ⟨102, x.d.now.length - 102, (layF x.d (ckH x.h x.lg) x.rows).first, 0⟩, x.rows⟩ else ⟨layR x.d (ckH x.h x.lg) x.rows, x.h, x.lg, x.rows⟩
def ckC (x : Sto) : Int := layC x.d (ckH x.h x.lg) x.rows
theorem ff_wide {B B' : Nat → Prop} {q s : Nat} {w w' : World} (ht : Tr B B' w w') : Tr (FF B q s) (FF B' q s) w w' := (ht.frame (On q)).frame (On s)
theorem ck_any (w : World) (B : Nat → Prop) (s p q : Nat) (x : Sto) (h : StoO w B s p q x) (hb : StB x) :
    Calls Tryd.prog 13 #[.pointer (some ⟨s, 0, none⟩)] w fun e w' => ∃ B' q', e = .returned (errV (ckC x)) ∧ StoO w' B' s p q' (ckR x) ∧ Tr (FF B q s) (FF B' q' s) w w' := by
  obtain ⟨a, c, h1, h2⟩ := h.st
  have hm := h.most
  have hhalf : (ckH x.h x.lg).half ≤ 1 := by show 1 - x.h.half ≤ 1; omega
  have hmm := hb.many
  have hff := hb.first
  have hn := hb.n
  have hf1 : 1 ≤ (ckH x.h x.lg).first := by show 1 ≤ x.lg.first + x.lg.many; omega
  have hf2 : (ckH x.h x.lg).first ≤ 10000000000 := by show x.lg.first + x.lg.many ≤ _; omega
  have hwr := hb.wr
  by_cases hC1 : (lay1 x.d (ckH x.h x.lg) x.rows).2 = 0
  · by_cases hC2 : (lay2 x.d (ckH x.h x.lg) x.rows).2 = 0
    · have hC : layC x.d (ckH x.h x.lg) x.rows = 0 := by unfold layC; rw [if_pos hC1]; exact hC2
      have hR : layR x.d (ckH x.h x.lg) x.rows = (lay2 x.d (ckH x.h x.lg) x.rows).1 := by unfold layR; rw [if_pos hC1]
      have hlay := fun W (hd : DkO W B p x.d) (hw : ChsAt W a x.rows) => lay_good B p x.d (ckH x.h x.lg) a c x.rows W hd hw hb.good hb.len hhalf (by omega) hn hf1 hf2 hC1 hC2
      refine (ck_good B s p q x.d x.h x.lg a c x.rows w h.dk h1 h.ns h.lga h2.at_ hb.good hb.len hb.half (by omega) (by omega) ⟨102, x.d.now.length - 102, (layF x.d (ckH x.h x.lg) x.rows).first, 0⟩ hlay).mono ?_
      · rintro e w' ⟨B', q', rfl, g1, g2, g3, g4, g5, g6, g7⟩
        have hqs : q' ≠ s := by have := heap_lt h1; omega
        have hT : Tr (FF B q s) (FF B' q' s) w w' := by
          refine ⟨g7.os, g7.tape, g7.output, g7.size, fun k hk hn => g7.block k hk (fun e => ?_), fun k hk => ?_⟩
          · rcases e with e | e
            · exact hn (.inl (.inl e))
            · exact hn (.inr e)
          · rcases hk with (hk | hk) | hk
            · rcases g7.fr k (.inl hk) with (e | e) | e
              · exact .inl (.inl (.inl e))
              · exact .inl (.inr e)
              · exact .inr e
            · rw [show k = q' from hk]; exact .inr g4
            · exact .inl (.inr hk)
        refine ⟨B', q', by unfold ckC; rw [hC, errV_zero], ?_, hT⟩
        unfold ckR
        rw [if_pos hC, hR]
        exact ⟨g1, g3, g6, hqs, g2, a, c, g5, h2.tr hT⟩
    · have hC : layC x.d (ckH x.h x.lg) x.rows ≠ 0 := by unfold layC; rw [if_pos hC1]; exact hC2
      have hCe : layC x.d (ckH x.h x.lg) x.rows = (lay2 x.d (ckH x.h x.lg) x.rows).2 := by unfold layC; rw [if_pos hC1]
      have hR : layR x.d (ckH x.h x.lg) x.rows = (lay2 x.d (ckH x.h x.lg) x.rows).1 := by unfold layR; rw [if_pos hC1]
      have hlay := fun W (hd : DkO W B p x.d) (hw : ChsAt W a x.rows) => lay_bad2 B p x.d (ckH x.h x.lg) a c x.rows W hd hw hb.good hb.len hhalf (by omega) hn hf1 hf2 hC1 hC2
      rw [← hCe, ← hR] at hlay
      refine (ck_bad B s p q x.d x.h x.lg a c x.rows w h.dk h1 h.ns h.lga h2.at_ hb.good hb.len hb.half (by omega) (by omega) hlay hC).mono ?_
      rintro e w' ⟨B', rfl, g1, g2⟩
      refine ⟨B', q, rfl, ?_, ff_wide g2⟩
      unfold ckR
      rw [if_neg hC]
      exact ⟨g1, (h.lga.tr g2 h.nq).2, (h1.tr g2 h.ns).2, h.qs, (h.lga.tr g2 h.nq).1, a, c, (h1.tr g2 h.ns).1, h2.tr (ff_wide g2)⟩
  · have hC : layC x.d (ckH x.h x.lg) x.rows ≠ 0 := by unfold layC; rw [if_neg hC1]; exact hC1
    have hCe : layC x.d (ckH x.h x.lg) x.rows = (lay1 x.d (ckH x.h x.lg) x.rows).2 := by unfold layC; rw [if_neg hC1]
    have hR : layR x.d (ckH x.h x.lg) x.rows = (lay1 x.d (ckH x.h x.lg) x.rows).1 := by unfold layR; rw [if_neg hC1]
    have hlay := fun W (hd : DkO W B p x.d) (hw : ChsAt W a x.rows) => lay_bad1 B p x.d (ckH x.h x.lg) a c x.rows W hd hw hb.good (by have := hb.len; omega) hhalf (by omega) hC1
    rw [← hCe, ← hR] at hlay
    refine (ck_bad B s p q x.d x.h x.lg a c x.rows w h.dk h1 h.ns h.lga h2.at_ hb.good hb.len hb.half (by omega) (by omega) hlay hC).mono ?_
    rintro e w' ⟨B', rfl, g1, g2⟩
    refine ⟨B', q, rfl, ?_, ff_wide g2⟩
    unfold ckR
    rw [if_neg hC]
    exact ⟨g1, (h.lga.tr g2 h.nq).2, (h1.tr g2 h.ns).2, h.qs, (h.lga.tr g2 h.nq).1, a, c, (h1.tr g2 h.ns).1, h2.tr (ff_wide g2)⟩
end Go.Proofs.YtikkakdeapbioaaDoor
