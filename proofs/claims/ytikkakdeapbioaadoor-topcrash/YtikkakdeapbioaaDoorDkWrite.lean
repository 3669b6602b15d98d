/- disk.Write (G1, G2), as the landed code has it. -/
import Derived.Test.YtikkakdeapbioaaDoorDkFlush
import Derived.Deep.WholeRow
import Derived.Great.BuildSlice
import Derived.Maps.AppendAt
set_option linter.unusedVariables false
set_option linter.unusedSimpArgs false
set_option linter.unnecessarySimpa false
namespace Go.Proofs.YtikkakdeapbioaaDoor
open Go.RowKit

/-- a write's cells: zero, begun, whole -/
def wrZ : Array Value := (wrV (0, zsec)).toArray
def wrB (i : Nat) : Array Value := (wrV (i, zsec)).toArray
def wrF (i : Nat) (s : List UInt8) : Array Value := (wrV (i, s)).toArray
theorem infoWr : (Tryd.prog.info? 90).map (fun i => (i.zero, i.size)) = some (some (.agg wrZ), 49) := by kernel_rfl
theorem size_wrF (i : Nat) {s : List UInt8} (h : s.length = 48) : (wrF i s).size = 49 := by simp [wrF, wrV_len (x := (i, s)) h]
theorem one_wrF (i : Nat) (s : List UInt8) : ∀ u ∈ (wrF i s).toList, u.oneCell' = true := by
  intro u hu
  simp only [wrF, wrV, List.mem_cons] at hu
  rcases hu with rfl | hu
  · rfl
  · exact secV_one u hu
theorem run_allocWr (W : World) : (Instr.alloc 90 true (.tuple #[])).run Tryd.prog W = .ok (.pointer (some ⟨W.heap.size, 0, none⟩)) (W.alloc (.cells wrZ 90)) := by
  have hz := (zero_of_info infoWr).1
  simp [Instr.alloc, hz, newVar, newRow, Value.cells]
theorem run_buildWr (i : Nat) (W : World) : (Instr.build 90 #[(0, .int .i64 (i : Int))]).run Tryd.prog W = .ok (.agg (wrB i)) W := by
  kernel_rfl
theorem run_storeWr (i : Nat) (W : World) : (Instr.storeAt 90 (.pointer (some ⟨W.heap.size, 0, none⟩)) (.agg (wrB i))).run Tryd.prog (W.alloc (.cells wrZ 90)) = .ok () (W.alloc (.cells (wrB i) 90)) := by
  have hz := (zero_of_info infoWr).2
  have h1 : (wrB i).size = 49 := size_wrF i (by simp [zsec])
  have h2 : wrZ.size = 49 := size_wrF 0 (by simp [zsec])
  exact run_storeAt_new W _ _ _ (by rw [h1]; exact hz) (by omega) (by
    rw [Array.all_eq_true_iff_forall_mem]
    intro u hu
    exact one_wrF i zsec u (by simpa [wrB, wrF] using hu))
theorem copied (i : Nat) {s : ByteArray} (hl : s.size ≤ 48) : ((wrB i).toList.take 1 ++ secV s.data.toList ++ (wrB i).toList.drop (1 + (secV s.data.toList).length)) = wrV (i, padS s) := by
  have hs : s.data.toList.length = s.size := by simp
  have e : (wrB i).toList = .int .i64 (i : Int) :: secV zsec := by simp [wrB, wrV]
  rw [e, secV_len, hs, Nat.add_comm 1]
  simp only [List.take_succ_cons, List.take_zero, List.drop_succ_cons, wrV, padS]
  rw [List.cons_append, List.cons_append, List.nil_append]
  congr 1
  unfold secV zsec
  rw [List.map_append, ← List.map_drop, List.drop_replicate]
theorem run_copyStr (i : Nat) (s : ByteArray) (hl : s.size ≤ 48) (W : World) (ty : TypeId) :
    (Builtin.copy_ #[92, 9] ty #[.slice (some ⟨W.heap.size, 1, none⟩) 48 48, .string s]).run Tryd.prog (W.alloc (.cells (wrB i) 90)) = .ok (.int .i64 (s.size : Int)) (W.alloc (.cells (wrF i (padS s)) 90)) := by
  have hg := heap_alloc_last W (.cells (wrB i) 90)
  have hsz : (wrB i).size = 49 := size_wrF i (by simp [zsec])
  have hc : ((s.extract 0 s.size).data.map fun b => Value.int .u8 b.toNat).toList = secV s.data.toList := by simp [secV]
  have hln : (secV s.data.toList).length = s.size := by rw [secV_len]; simp
  have hst := run_storeCells_at Tryd.prog W.heap.size 1 90 (secV s.data.toList) 0 (wrB i) _ hg (by rw [hln]; omega) secV_one
  simp only [Nat.add_zero] at hst
  rw [copied i hl, World.setRow_alloc_new] at hst
  have hm : Nat.min s.size 48 = s.size := Nat.min_eq_left hl
  have hu8 : (Tryd.prog.info? 5).map (·.size) = some 1 := by kernel_rfl
  cases hq : Tryd.prog.info? 5 with
  | none => simp [hq] at hu8
  | some inf =>
    have hi : inf.size = 1 := by simpa [hq] using hu8
    unfold secV at hst
    simp [Builtin.copy_, run_underlying Tryd.underlying92, Builtin.lenOf, Builtin.firstCells, sizeOf, typeInfo, hq, hm, goInt, wrF]
    rw [List.take_of_length_le (by simp), hst]
    rfl
/-! ### the operations on a write's own block, met as a whole -/
theorem wp_run {P : Program} {o : Oper} {a : Act} {w w' : World} {K : Act → World → Prop} {Q : Exit → Act → World → Prop} {v : Value} (h : (execOp a.eval o).run P w = .ok (.value v) w') (hk : K (a.put o.dst v) w') : o.wp P a w K Q := by
  unfold Oper.wp; rw [h]; exact hk
theorem wp_runs {P : Program} {o : Oper} {a : Act} {w w' : World} {K : Act → World → Prop} {Q : Exit → Act → World → Prop} (h : (execOp a.eval o).run P w = .ok .skip w') (hk : K (a.put o.dst undef) w') : o.wp P a w K Q := by
  unfold Oper.wp; rw [h]; exact hk
theorem exec_build (ρ : Operand → Value) (o : Oper) (x : Operand) (i : Nat) (w : World) (ho : o.op = .build 90 #[(0, x)]) (hx : ρ x = .int .i64 (i : Int)) : (execOp ρ o).run Tryd.prog w = .ok (.value (.agg (wrB i))) w := by
  unfold execOp
  simp only [ho, List.map_toArray, List.map_cons, List.map_nil, hx, Sem.run_bind, run_buildWr, Result.andThen_ok, Sem.run_pure]
theorem exec_alloc (ρ : Operand → Value) (o : Oper) (w : World) (ho : o.op = .alloc 90) : (execOp ρ o).run Tryd.prog w = .ok (.value (.pointer (some ⟨w.heap.size, 0, none⟩))) (w.alloc (.cells wrZ 90)) := by
  unfold execOp
  simp only [ho, Sem.run_bind, run_allocWr, Result.andThen_ok, Sem.run_pure]
theorem exec_store (ρ : Operand → Value) (o : Oper) (x y : Operand) (i : Nat) (w : World) (ho : o.op = .store 90 x y) (hx : ρ x = .pointer (some ⟨w.heap.size, 0, none⟩)) (hy : ρ y = .agg (wrB i)) : (execOp ρ o).run Tryd.prog (w.alloc (.cells wrZ 90)) = .ok .skip (w.alloc (.cells (wrB i) 90)) := by
  unfold execOp
  simp only [ho, hx, hy, Sem.run_bind, run_storeWr, Result.andThen_ok, Sem.run_pure]
theorem run_storeSec {w : World} {base p b1 b2 : Nat} {v : Value} {d : Dk} (h : DkAt w base p b1 b2 v d) {i : Nat} (hi : i < d.now.length) {s : List UInt8} (hs : s.length = 48) :
    (Instr.storeAt 88 (.pointer (some ⟨b1, i * 48, none⟩)) (.agg (secV s).toArray)).run Tryd.prog w = .ok () (w.setRow b1 (secsV (d.now.set i s)).toArray) := by
  have hl : (secV s).length = 48 := by rw [secV_len, hs]
  have hn := secsV_len h.ok.nows
  have hst := run_storeCells_at Tryd.prog b1 (i * 48) 88 (secV s) 0 (secsV d.now).toArray w h.h1 (by simp only [List.size_toArray, hn, hl]; omega) secV_one
  simp only [Nat.add_zero] at hst
  rw [secsV_set h.ok.nows hi hs] at hst
  have hi48 := infoSec
  cases hq : Tryd.prog.info? 88 with
  | none => simp [hq] at hi48
  | some inf =>
    have hsz : inf.size = 48 := by simpa [hq] using hi48
    simp only [Instr.storeAt, Instr.sureAddr, Sem.run_bind, Sem.run_pure, Result.andThen_ok]
    simp [storeVar, sizeOf, typeInfo, hq, Value.cells, hsz, hl, hst]
theorem exec_storeSec (ρ : Operand → Value) (o : Oper) (x y : Operand) {w : World} {base p b1 b2 : Nat} {v : Value} {d : Dk} (h : DkAt w base p b1 b2 v d) {i : Nat} (hi : i < d.now.length) {s : List UInt8} (hs : s.length = 48)
    (ho : o.op = .store 88 x y) (hx : ρ x = .pointer (some ⟨b1, i * 48, none⟩)) (hy : ρ y = .agg (secV s).toArray) : (execOp ρ o).run Tryd.prog w = .ok .skip (w.setRow b1 (secsV (d.now.set i s)).toArray) := by
  unfold execOp
  simp only [ho, hx, hy, Sem.run_bind, run_storeSec h hi hs, Result.andThen_ok, Sem.run_pure]
theorem range_wr {w : World} {g : Nat} {i : Nat} {s : List UInt8} (hg : w.heap[g]? = some (.cells (wrF i s) 90 (0, 0))) : w.rangeAt g 1 (secV s) ∧ w.rangeAt g 0 (wrV (i, s)) := by
  refine ⟨fun j u hu => ?_, fun j u hu => ?_⟩
  · rw [cell_of_row w g _ _ _ _ hg]
    simp only [wrF, wrV, Nat.add_comm 1 j, List.getElem?_toArray, List.getElem?_cons_succ]
    exact hu
  · rw [cell_of_row w g _ _ _ _ hg, Nat.zero_add]
    simpa [wrF] using hu
theorem fold_set : ∀ (l : List Value) (k : Nat) (arr : Array Value), k + l.length ≤ arr.size → (l.zipIdx k).foldl (fun cs x => cs.setIfInBounds x.2 x.1) arr = (arr.toList.take k ++ l ++ arr.toList.drop (k + l.length)).toArray
  | [], k, arr, _ => by simp
  | v :: r, k, arr, h => by
    rw [List.zipIdx_cons, List.foldl_cons, fold_set r (k + 1) _ (by simp at h ⊢; omega)]
    have e := list_seg_step arr.toList k v r (by simp at h ⊢; omega)
    rw [Array.toList_setIfInBounds, e]
    rfl
theorem fill_one (arr cells : Array Value) (n : Nat) (h1 : arr.size = n) (h2 : cells.size = n) : Instr.fill (fun i => some (i * n, n)) arr [(0, .agg cells)] = some cells := by
  have hf := fold_set cells.toList 0 arr (by simp; omega)
  have hd : arr.toList.drop (0 + cells.toList.length) = [] := List.drop_of_length_le (by simp; omega)
  rw [hd] at hf
  simp only [List.take_zero, List.nil_append, List.append_nil] at hf
  have hz : cells.zipIdx.foldl (fun cs (x : Value × Nat) => cs.setIfInBounds (0 * n + x.2) x.1) arr = cells := by
    rw [← Array.foldl_toList]
    simpa using hf
  simp only [Instr.fill, Value.cells, h2]
  simp only [ne_eq, not_true_eq_false, decide_false, Bool.false_or]
  rw [if_neg (by simp; omega), hz]
theorem run_buildSliceWr (i : Nat) {s : List UInt8} (hs : s.length = 48) (W : World) : (Instr.buildSlice 65 1 #[(0, .agg (wrF i s))]).run Tryd.prog W = .ok (.slice (some ⟨W.heap.size, 0, none⟩) 1 1) (W.alloc (.cells (wrF i s) 90)) := by
  have hI := infoWr
  cases hq : Tryd.prog.info? 90 with
  | none => simp [hq] at hI
  | some inf =>
    obtain ⟨h1, h2⟩ : inf.zero = some (.agg wrZ) ∧ inf.size = 49 := by simpa [hq] using hI
    refine run_buildSlice W _ _ 1 _ (wrF i s) inf (.agg wrZ) Tryd.underlying65 hq h1 (by rw [h2]; decide) (by rw [h2]; decide) ?_
    rw [h2]
    exact fill_one _ _ 49 (by simp) (size_wrF i hs)
theorem exec_buildSlice (ρ : Operand → Value) (o : Oper) (x : Operand) (i : Nat) {s : List UInt8} (hs : s.length = 48) (w : World) (ho : o.op = .buildSlice 65 1 #[(0, x)]) (hx : ρ x = .agg (wrF i s)) : (execOp ρ o).run Tryd.prog w = .ok (.value (.slice (some ⟨w.heap.size, 0, none⟩) 1 1)) (w.alloc (.cells (wrF i s) 90)) := by
  unfold execOp
  simp only [ho, List.map_toArray, List.map_cons, List.map_nil, hx, Sem.run_bind, run_buildSliceWr i hs, Result.andThen_ok, Sem.run_pure]
theorem infoWr2 : (Tryd.prog.info? 90).map (fun i => (i.zero, i.size, i.bytes)) = some (some (.agg wrZ), 49, 56) := by kernel_rfl
/-- the write is appended to those that are not kept -/
theorem run_appendWr {w : World} {base : Nat} {v : Value} {l : List (Nat × List UInt8)} (ho : w.ownsRow base 90 49 v l.length (l.flatMap wrV)) (hl : l.length ≤ 1000000) (hb : base ≤ w.heap.size) (ty : TypeId) (i : Nat) {s : List UInt8} (hs : s.length = 48) (g : Nat) (hg : w.heap[g]? = some (.cells (wrF i s) 90 (0, 0))) :
    ∃ v' w', (Builtin.append_ #[65, 65] ty #[v, .slice (some ⟨g, 0, none⟩) 1 1]).run Tryd.prog w = .ok v' w' ∧ w'.ownsRow base 90 49 v' (l ++ [(i, s)]).length ((l ++ [(i, s)]).flatMap wrV) ∧ w.grownBy w' v.ownBlock ∧ (v'.ownBlock = v.ownBlock ∨ v'.ownBlock = some w.heap.size) := by
  have hI := infoWr2
  cases hq : Tryd.prog.info? 90 with
  | none => simp [hq] at hI
  | some inf =>
    obtain ⟨h1, h2, h3⟩ : inf.zero = some (.agg wrZ) ∧ inf.size = 49 ∧ inf.bytes = 56 := by simpa [hq] using hI
    obtain ⟨v', w', r1, r2, r3, -, r5⟩ := run_append_own_at (P := Tryd.prog) w base 65 ty 90 inf (.agg wrZ) 49 56 Tryd.underlying65 hq h1 h2 h3 (size_wrF 0 (by simp [zsec])) (by decide) v l.length (l.flatMap wrV) ho ⟨g, 0, none⟩ 1 1 (wrV (i, s)) (wrV_len (x := (i, s)) hs) (fun j u hu => by rw [Addr.add_mid]; exact (range_wr hg).2 j u hu) (one_wrF i s) (by simp [maxLen]; omega) (by omega) hb
    refine ⟨v', w', r1, ?_, r3, r5⟩
    simpa using r2
theorem Kp.grown {p b1 b2 : Nat} {v : Value} {w W w5 : World} (h : Kp p b1 b2 v w W) (r : W.grownBy w5 v.ownBlock) : Kp p b1 b2 v w w5 :=
  ⟨r.os.trans h.os, r.tape.trans h.tape, r.output.trans h.output, Nat.le_trans h.size r.size, fun k hk n1 n2 n3 n4 => (r.block k (Nat.lt_of_lt_of_le hk h.size) (fun e => n4 e.symm)).trans (h.block k hk n1 n2 n3 n4)⟩
theorem DkAt.grow {w w5 : World} {base p b1 b2 : Nat} {v v' : Value} {d : Dk} {x : Nat × List UInt8} (h : DkAt w base p b1 b2 v d) (r2 : w5.ownsRow base 90 49 v' (d.wr ++ [x]).length ((d.wr ++ [x]).flatMap wrV)) (r3 : w.grownBy w5 v.ownBlock) (r5 : v'.ownBlock = v.ownBlock ∨ v'.ownBlock = some w.heap.size)
    (hok : DkOk ⟨d.now, d.kept, d.wr ++ [x], d.left, d.down⟩) : DkAt (w5.setCell ⟨p, 2, none⟩ v') base p b1 b2 v' ⟨d.now, d.kept, d.wr ++ [x], d.left, d.down⟩ := by
  have k0 : w5.heap[p]? = _ := (r3.block p (heap_lt h.hp) (fun e => h.vp e.symm)).trans h.hp
  have k1 : w5.heap[b1]? = _ := (r3.block b1 (heap_lt h.h1) (fun e => h.v1 e.symm)).trans h.h1
  have k2 : w5.heap[b2]? = _ := (r3.block b2 (heap_lt h.h2) (fun e => h.v2 e.symm)).trans h.h2
  have hv : v'.ownBlock ≠ some p := by
    rcases r5 with e | e <;> rw [e]
    · exact h.vp
    · intro e'; have := heap_lt h.hp; simp at e'; omega
  refine ⟨h.bp, h.bb1, h.bb2, h.n12, ?_, ?_, ?_, ownsRow_set_other r2 hv 2 v', hok⟩
  · rw [setCell_eq_setRow w5 p 2 _ _ _ v' k0, setRow_heap w5 p _ _ _ _ k0]; rfl
  · rw [Below.heap_setCell _ _ _ _ (Ne.symm h.p1)]; exact k1
  · rw [Below.heap_setCell _ _ _ _ (Ne.symm h.p2)]; exact k2
theorem DkTo.grow {w W w5 : World} {base p b1 b2 : Nat} {v v' : Value} {d : Dk} {x : Nat × List UInt8} (h : DkTo w W base p b1 b2 v v d) (r2 : w5.ownsRow base 90 49 v' (d.wr ++ [x]).length ((d.wr ++ [x]).flatMap wrV)) (r3 : W.grownBy w5 v.ownBlock) (r5 : v'.ownBlock = v.ownBlock ∨ v'.ownBlock = some W.heap.size)
    (hok : DkOk ⟨d.now, d.kept, d.wr ++ [x], d.left, d.down⟩) : DkTo w (w5.setCell ⟨p, 2, none⟩ v') base p b1 b2 v v' ⟨d.now, d.kept, d.wr ++ [x], d.left, d.down⟩ :=
  ⟨h.at_.grow r2 r3 r5 hok, (h.kp.grown r3).set _ _, fun k hk => by
    rcases r5 with e | e
    · exact .inl (e ▸ hk)
    · rw [e] at hk; simp at hk; subst hk; exact .inr h.kp.size⟩
theorem exec_append (ρ : Operand → Value) (o : Oper) (x y : Operand) {ats : Array TypeId} {c : Call} {w w' : World} {vx vy v' : Value} (ho : o.op = .call c) (hc : c.callee = .builtin .append) (hca : c.args = #[x, y]) (hct : c.argTypes = ats) (hx : ρ x = vx) (hy : ρ y = vy)
    (hr : (Builtin.append_ ats o.type #[vx, vy]).run Tryd.prog w = .ok v' w') : (execOp ρ o).run Tryd.prog w = .ok (.value v') w' := by
  unfold execOp
  simp only [ho, resolve, hc, hca, hct, List.map_toArray, List.map_cons, List.map_nil, hx, hy, Sem.run_bind, Sem.run_pure, Result.andThen_ok, invoke, builtin, hr]
set_option maxRecDepth 100000 in
theorem write_bad (base p b1 b2 : Nat) (v : Value) (d : Dk) (at_ : Int) (s : ByteArray) (w : World) (h : DkAt w base p b1 b2 v d) (hm : s.size ≤ maxLen) (hb : ¬ (hasB2 d at_ = true ∧ s.size ≤ 48)) :
    Calls Tryd.prog 76 #[.pointer (some ⟨p, 0, none⟩), .int .i64 at_, .string s] w fun e w' => e = .returned (.iface 63 (.int .i64 1)) ∧ w' = w := by
  have hcon := has_dk base p b1 b2 v d at_ w h
  unfold maxLen at hm
  cases hh : hasB2 d at_ with
  | false =>
    rw [hh] at hcon
    clear hb hh
    go_enter Tryd.func76, Tryd.ntmps76
    go_wp2_with fail
    refine hcon.mono ?_
    rintro e w1 ⟨rfl, rfl⟩
    go_wp2_with fail
    go_ret
    exact ⟨rfl, rfl⟩
  | true =>
    have hl : ¬ s.size ≤ 48 := fun h => hb ⟨hh, h⟩
    rw [hh] at hcon
    have hd : decide ((48 : Int) < (s.size : Int)) = true := decide_eq_true (by omega)
    clear hb hh
    go_enter Tryd.func76, Tryd.ntmps76
    go_wp2_with fail
    refine hcon.mono ?_
    rintro e w1 ⟨rfl, rfl⟩
    go_wp2_with fail
    go_ret
    exact ⟨rfl, rfl⟩
set_option maxRecDepth 100000 in
theorem write_dn (base p b1 b2 : Nat) (v : Value) (d : Dk) (at_ : Int) (s : ByteArray) (w : World) (h : DkAt w base p b1 b2 v d) (hh : hasB2 d at_ = true) (hl : s.size ≤ 48) (hs : stepDn d = true) :
    Calls Tryd.prog 76 #[.pointer (some ⟨p, 0, none⟩), .int .i64 at_, .string s] w fun e w' => e = .returned (.iface 63 (.int .i64 10)) ∧ DkTo w w' base p b1 b2 v v (stepR d) := by
  have hcon := has_dk base p b1 b2 v d at_ w h
  have hcs := step_dn base p b1 b2 v d w h hs
  rw [hh] at hcon
  have hd : decide ((48 : Int) < (s.size : Int)) = false := decide_eq_false (by omega)
  clear hh hs
  go_enter Tryd.func76, Tryd.ntmps76
  go_wp2_with fail
  refine hcon.mono ?_
  rintro e w1 ⟨rfl, rfl⟩
  go_wp2_with fail
  refine hcs.mono ?_
  rintro e w1 ⟨rfl, hT⟩
  go_wp2_with fail
  go_ret
  exact ⟨rfl, hT⟩
set_option maxRecDepth 100000 in
theorem write_go (base p b1 b2 : Nat) (v : Value) (d : Dk) (i : Nat) (s : ByteArray) (w : World) (h : DkAt w base p b1 b2 v d) (hi : i < d.now.length) (hl : s.size ≤ 48) (hs : stepDn d = false) (hw : d.wr.length ≤ 1000000) :
    Calls Tryd.prog 76 #[.pointer (some ⟨p, 0, none⟩), .int .i64 (i : Int), .string s] w fun e w' => e = .returned .nilIface ∧ ∃ v', DkTo w w' base p b1 b2 v v' (wroteR (stepR d) i (padS s)) := by
  have hcon := has_dk base p b1 b2 v d i w h
  have hcs := step_go base p b1 b2 v d w h hs
  have hh : hasB2 d (i : Int) = true := (hasB2_iff d i).2 ⟨by omega, by omega⟩
  rw [hh] at hcon
  have hd : decide ((48 : Int) < (s.size : Int)) = false := decide_eq_false (by omega)
  obtain ⟨n1, n2, n3⟩ := step_now d
  have hi1 : i < (stepR d).now.length := by rw [n1]; exact hi
  have hw1 : (stepR d).wr.length ≤ 1000000 := by rw [n3]; exact hw
  clear hh hs n1 n2 n3 hi hw
  generalize stepR d = d1 at *
  go_enter Tryd.func76, Tryd.ntmps76
  go_wp2_with fail
  refine hcon.mono ?_
  rintro e w0 ⟨rfl, hw0⟩
  subst w0
  go_wp2_with fail
  refine hcs.mono ?_
  rintro e w1 ⟨rfl, hT⟩
  have hcp := run_copyStr i s hl
  iterate 29
    (first | go_step | go_upon | go_back | (simp only [Int.not_lt, Int.not_le] at *; go_simp))
  refine wp_run (exec_build _ _ (.tmp 24) i _ (by rfl) (by rfl)) ?_
  (try simp only [Act.put, List.setIfInBounds_toArray, List.set_cons_zero, List.set_cons_succ])
  (first | go_step | go_upon | go_back | (simp only [Int.not_lt, Int.not_le] at *; go_simp))
  (first | go_step | go_upon | go_back | (simp only [Int.not_lt, Int.not_le] at *; go_simp))
  refine wp_run (exec_alloc _ _ _ (by rfl)) ?_
  (try simp only [Act.put, List.setIfInBounds_toArray, List.set_cons_zero, List.set_cons_succ])
  (first | go_step | go_upon | go_back | (simp only [Int.not_lt, Int.not_le] at *; go_simp))
  (first | go_step | go_upon | go_back | (simp only [Int.not_lt, Int.not_le] at *; go_simp))
  refine wp_runs (exec_store _ _ (.tmp 8) (.tmp 25) i _ (by rfl) (by rfl) (by rfl)) ?_
  (try simp only [Act.put, List.setIfInBounds_toArray, List.set_cons_zero, List.set_cons_succ])
  go_wp2_with fail
  have hA := hT.at_
  have hp48 := padS_len hl
  have hokW := wrote_ok hA.ok hi1 hp48
  have hal := (Below.refl w1.heap.size w1).alloc (Nat.le_refl _) (.cells (wrF i (padS s)) 90)
  have hT2 := hT.below hal
  have hg := heap_alloc_last w1 (.cells (wrF i (padS s)) 90)
  have hgp : w1.heap.size ≠ p ∧ w1.heap.size ≠ b1 := ⟨fun e => by have := heap_lt hA.hp; omega, fun e => by have := heap_lt hA.h1; omega⟩
  have hgv : v.ownBlock ≠ some w1.heap.size := fun e => by have := (hA.ho.lt _ e).2; omega
  clear hT hA hal hcp
  generalize w1.alloc (.cells (wrF i (padS s)) 90) = w2 at *
  generalize w1.heap.size = g at *
  have hA := hT2.at_
  have c0 := hA.cells.1
  have hm := hA.ok.most
  have i0 : (0 : Int) ≤ (i : Int) := by omega
  have i1 : (i : Int) < (d1.now.length : Int) := by omega
  have hrg := (range_wr (w := w2.drew) hg).1
  have hA3 := hA.drew.setNow (k := d1.now.set i (padS s)) (by simp) (mem_set48 hA.ok.nows i hp48)
  have hg3 : (w2.drew.setRow b1 (secsV (d1.now.set i (padS s))).toArray).heap[g]? = some (.cells (wrF i (padS s)) 90 (0, 0)) := by rw [setRow_other _ _ _ _ hgp.2]; exact hg
  have e0 := hA3.cells.1
  simp only [List.length_set] at e0
  refine wp_region_held_drew (S := fun w' => w'.cell? ⟨p, 0, none⟩ = some (.slice (some ⟨b1, 0, none⟩) d1.now.length d1.now.length) ∧ w'.rangeAt g 1 (secV (padS s))) (by kernel_rfl) ?_ (fun hHeld => ?_)
  · exact ⟨c0, hrg⟩
  refine wpAnyH_take (i := 0) (oi := ({ dst := some 30, op := Op.move (Operand.tmp 0), type := 25, pos := "disk.go:54", after := #[], guard := none } : Oper)) (v := .pointer (some ⟨p, 0, none⟩)) rfl (by kernel_rfl) (by kernel_rfl) (by kernel_rfl) (fun _ _ _ h => h) (Or.inl ⟨by rfl, ?_⟩) (by assumption) ?_
  · intro w hSw; (try dsimp only at hSw); go_simp
  (try simp only [Act.put, List.setIfInBounds_toArray, List.set_cons_zero, List.set_cons_succ])
  refine wpAnyH_take (i := 1) (oi := ({ dst := some 31, op := Op.nilCheck (Operand.tmp 30), type := 0, pos := "disk.go:54", after := #[{ on := 0, ground := Ground.data }], guard := none } : Oper)) (v := .pointer (some ⟨p, 0, none⟩)) rfl (by kernel_rfl) (by kernel_rfl) (by kernel_rfl) (fun _ _ _ h => h) (Or.inl ⟨by rfl, ?_⟩) (by assumption) ?_
  · intro w hSw; (try dsimp only at hSw); go_simp
  (try simp only [Act.put, List.setIfInBounds_toArray, List.set_cons_zero, List.set_cons_succ])
  refine wpAnyH_take (i := 2) (oi := ({ dst := some 32, op := Op.fieldAddr 67 (Operand.tmp 31) 0, type := 0, pos := "disk.go:54", after := #[{ on := 1, ground := Ground.data }], guard := none } : Oper)) (v := .pointer (some ⟨p, 0, none⟩)) rfl (by kernel_rfl) (by kernel_rfl) (by kernel_rfl) (fun _ _ _ h => h) (Or.inl ⟨by rfl, ?_⟩) (by assumption) ?_
  · intro w hSw; (try dsimp only at hSw); go_simp
  (try simp only [Act.put, List.setIfInBounds_toArray, List.set_cons_zero, List.set_cons_succ])
  refine wpAnyH_take (i := 3) (oi := ({ dst := some 33, op := Op.load 64 (Operand.tmp 32), type := 64, pos := "disk.go:54", after := #[{ on := 2, ground := Ground.data }], guard := none } : Oper)) (v := .slice (some ⟨b1, 0, none⟩) d1.now.length d1.now.length) rfl (by kernel_rfl) (by kernel_rfl) (by kernel_rfl) (fun _ _ _ h => h) (Or.inl ⟨by rfl, ?_⟩) (by assumption) ?_
  · intro w hSw; (try dsimp only at hSw); go_simp
  (try simp only [Act.put, List.setIfInBounds_toArray, List.set_cons_zero, List.set_cons_succ])
  refine wpAnyH_take (i := 4) (oi := ({ dst := some 34, op := Op.move (Operand.tmp 1), type := 3, pos := "disk.go:54", after := #[], guard := none } : Oper)) (v := .int .i64 (i : Int)) rfl (by kernel_rfl) (by kernel_rfl) (by kernel_rfl) (fun _ _ _ h => h) (Or.inl ⟨by rfl, ?_⟩) (by assumption) ?_
  · intro w hSw; (try dsimp only at hSw); go_simp
  (try simp only [Act.put, List.setIfInBounds_toArray, List.set_cons_zero, List.set_cons_succ])
  refine wpAnyH_take (i := 5) (oi := ({ dst := some 35, op := Op.fieldAddr 90 (Operand.tmp 8) 1, type := 0, pos := "disk.go:54", after := #[], guard := none } : Oper)) (v := .pointer (some ⟨g, 1, none⟩)) rfl (by kernel_rfl) (by kernel_rfl) (by kernel_rfl) (fun _ _ _ h => h) (Or.inl ⟨by rfl, ?_⟩) (by assumption) ?_
  · intro w hSw; (try dsimp only at hSw); go_simp
  (try simp only [Act.put, List.setIfInBounds_toArray, List.set_cons_zero, List.set_cons_succ])
  refine wpAnyH_take (i := 6) (oi := ({ dst := some 36, op := Op.load 88 (Operand.tmp 35), type := 88, pos := "disk.go:54", after := #[{ on := 5, ground := Ground.data }], guard := none } : Oper)) (v := .agg (secV (padS s)).toArray) rfl (by kernel_rfl) (by kernel_rfl) (by kernel_rfl) (fun _ _ _ h => h) (yieldsIf_load_mid (by rfl) 88 (.tmp 35) rfl g 1 (by rfl) (secV (padS s)) _ (fun w h => h.2) Tryd.underlying88 rfl (by rw [secV_len, hp48]; exact infoSec)) (by assumption) ?_
  (try simp only [Act.put, List.setIfInBounds_toArray, List.set_cons_zero, List.set_cons_succ])
  refine wpAnyH_take (i := 7) (oi := ({ dst := some 37, op := Op.indexAddr 64 (Operand.tmp 33) (Operand.tmp 34), type := 0, pos := "disk.go:54", after := #[{ on := 3, ground := Ground.data }, { on := 4, ground := Ground.data }, { on := 0, ground := Ground.phase }, { on := 1, ground := Ground.phase }, { on := 2, ground := Ground.phase }, { on := 3, ground := Ground.phase }, { on := 4, ground := Ground.phase }, { on := 5, ground := Ground.phase }, { on := 6, ground := Ground.phase }], guard := none } : Oper)) (v := .pointer (some ⟨b1, i * 48, none⟩)) rfl (by kernel_rfl) (by kernel_rfl) (by kernel_rfl) (fun _ _ _ h => h) (Or.inl ⟨by rfl, ?_⟩) (by assumption) ?_
  · intro w hSw; (try dsimp only at hSw); go_simp
  (try simp only [Act.put, List.setIfInBounds_toArray, List.set_cons_zero, List.set_cons_succ])
  refine wpAnyH_ready (rs := [8]) (by kernel_rfl) (by simp) ?_
  refine AllReadyH.cons (o := ({ dst := none, op := Op.store 88 (Operand.tmp 37) (Operand.tmp 36), type := 0, pos := "disk.go:54", after := #[{ on := 7, ground := Ground.data }, { on := 6, ground := Ground.data }, { on := 0, ground := Ground.phase }, { on := 1, ground := Ground.phase }, { on := 2, ground := Ground.phase }, { on := 3, ground := Ground.phase }, { on := 4, ground := Ground.phase }, { on := 5, ground := Ground.phase }, { on := 6, ground := Ground.phase }], guard := none } : Oper)) rfl (fun K hK => ?_) AllReadyH.nil
  rw [if_pos (by rfl)]
  refine wp_runs (exec_storeSec _ _ (.tmp 37) (.tmp 36) hA.drew hi1 hp48 (by rfl) (by rfl) (by rfl)) ?_
  refine hK.out _ _ ?_ (fun hHeld => ?_)
  · exact ⟨e0, (range_wr hg3).1⟩
  clear hK K
  (try simp only [Act.put, List.setIfInBounds_toArray, List.set_cons_zero, List.set_cons_succ])
  refine wpAnyH_done (by kernel_rfl) ?_ _
  have hT3 : DkTo w (w2.drew.setRow b1 (secsV (d1.now.set i (padS s))).toArray) base p b1 b2 v v _ := ⟨hA3, (hT2.kp.below (below_drewN (Below.refl _ _) 1)).row (.inl rfl) _, hT2.nx⟩
  clear hT2 hA hA3 c0 hrg e0 hg
  generalize w2.drew.setRow b1 (secsV (d1.now.set i (padS s))).toArray = w3 at *
  have hA := hT3.at_
  have hA3 := hA.drew
  have c2 := hA3.cells.2.2.1
  have hrg := (range_wr (w := w3.drew) hg3).2
  have hal := (Below.refl w3.drew.heap.size w3.drew).alloc (Nat.le_refl _) (.cells (wrF i (padS s)) 90)
  have hA4 := hA3.below hal
  have hn4 := heap_alloc_last w3.drew (.cells (wrF i (padS s)) 90)
  have hrg4 := World.rangeAt_alloc hrg (.cells (wrF i (padS s)) 90)
  have c24 := hA4.cells.2.2.1
  have hb4 : base ≤ (w3.drew.alloc (.cells (wrF i (padS s)) 90)).heap.size := by have := heap_lt hA4.hp; have := hA4.bp; omega
  obtain ⟨v', w5, r1, r2, r3, r5⟩ := run_appendWr hA4.ho hw1 hb4 65 i hp48 w3.drew.heap.size hn4
  obtain ⟨q1, q2, q3, rfl⟩ : ∃ a m c, v' = .slice a m c := by rcases r2.2 with ⟨rfl, _⟩ | ⟨g', cap, cur, rfl, _⟩ <;> exact ⟨_, _, _, rfl⟩
  have hrg5 : w5.rangeAt g 0 (wrV (i, padS s)) := fun j u hu => r3.cell (hrg4 j u hu) (fun e => hgv e.symm)
  have c25 : w5.cell? ⟨p, 2, none⟩ = some v := r3.cell c24 (fun e => hA.vp e.symm)
  have f25 : w5.frozen? ⟨p, 2, none⟩ = false := (World.frozen?_of_block (r3.block p (heap_lt hA4.hp) (fun e => hA.vp e.symm))).trans (hA4.free 2)
  have hl5 : p < w5.heap.size := Nat.lt_of_lt_of_le (heap_lt hA4.hp) r3.size
  have hrg6 : (w5.setCell ⟨p, 2, none⟩ (.slice q1 q2 q3)).rangeAt g 0 (wrV (i, padS s)) := fun j u hu => by
    rw [World.cell?_setCell_other _ _ _ _ (by first | exact fun e => hgp.1 (congrArg Addr.block e).symm | (simp; done) | (simp; intro e; exact absurd e.symm hgp.1) | (simp; intro e; exact absurd e hgp.1))]; exact hrg5 j u hu
  go_wp2_with fail
  have hfin : DkTo w (w5.setCell ⟨p, 2, none⟩ (.slice q1 q2 q3)) base p b1 b2 v (.slice q1 q2 q3) (wroteR d1 i (padS s)) := ((hT3.below (below_drewN (Below.refl _ _) 1)).below hal).grow r2 r3 r5 hokW
  clear hT3 hA hA3 hA4 hal hn4 hb4 r2 r3 r5 hokW hgv hg3
  refine wp_region_held_drew (S := fun w' => w'.rangeAt g 0 (wrV (i, padS s))) (by kernel_rfl) ?_ (fun hHeld => ?_)
  · exact hrg
  refine wpAnyH_take (i := 0) (oi := ({ dst := some 38, op := Op.move (Operand.tmp 0), type := 25, pos := "disk.go:55", after := #[], guard := none } : Oper)) (v := .pointer (some ⟨p, 0, none⟩)) rfl (by kernel_rfl) (by kernel_rfl) (by kernel_rfl) (fun _ _ _ h => h) (Or.inl ⟨by rfl, ?_⟩) (by assumption) ?_
  · intro w hSw; (try dsimp only at hSw); go_simp
  (try simp only [Act.put, List.setIfInBounds_toArray, List.set_cons_zero, List.set_cons_succ])
  refine wpAnyH_take (i := 1) (oi := ({ dst := some 39, op := Op.move (Operand.tmp 0), type := 25, pos := "disk.go:55", after := #[], guard := none } : Oper)) (v := .pointer (some ⟨p, 0, none⟩)) rfl (by kernel_rfl) (by kernel_rfl) (by kernel_rfl) (fun _ _ _ h => h) (Or.inl ⟨by rfl, ?_⟩) (by assumption) ?_
  · intro w hSw; (try dsimp only at hSw); go_simp
  (try simp only [Act.put, List.setIfInBounds_toArray, List.set_cons_zero, List.set_cons_succ])
  refine wpAnyH_take (i := 2) (oi := ({ dst := some 40, op := Op.nilCheck (Operand.tmp 39), type := 0, pos := "disk.go:55", after := #[{ on := 1, ground := Ground.data }], guard := none } : Oper)) (v := .pointer (some ⟨p, 0, none⟩)) rfl (by kernel_rfl) (by kernel_rfl) (by kernel_rfl) (fun _ _ _ h => h) (Or.inl ⟨by rfl, ?_⟩) (by assumption) ?_
  · intro w hSw; (try dsimp only at hSw); go_simp
  (try simp only [Act.put, List.setIfInBounds_toArray, List.set_cons_zero, List.set_cons_succ])
  refine wpAnyH_take (i := 3) (oi := ({ dst := some 41, op := Op.fieldAddr 67 (Operand.tmp 40) 2, type := 0, pos := "disk.go:55", after := #[{ on := 2, ground := Ground.data }], guard := none } : Oper)) (v := .pointer (some ⟨p, 2, none⟩)) rfl (by kernel_rfl) (by kernel_rfl) (by kernel_rfl) (fun _ _ _ h => h) (Or.inl ⟨by rfl, ?_⟩) (by assumption) ?_
  · intro w hSw; (try dsimp only at hSw); go_simp
  (try simp only [Act.put, List.setIfInBounds_toArray, List.set_cons_zero, List.set_cons_succ])
  refine wpAnyH_take (i := 5) (oi := ({ dst := some 43, op := Op.load 90 (Operand.tmp 8), type := 90, pos := "disk.go:55", after := #[], guard := none } : Oper)) (v := .agg (wrF i (padS s))) rfl (by kernel_rfl) (by kernel_rfl) (by kernel_rfl) (fun _ _ _ h => h) (yieldsIf_load_mid (by rfl) 90 (.tmp 8) rfl g 0 (by rfl) (wrV (i, padS s)) _ (fun w h => h) Tryd.underlying90 rfl (by rw [wrV_len (x := (i, padS s)) hp48]; exact (zero_of_info infoWr).2)) (by assumption) ?_
  (try simp only [Act.put, List.setIfInBounds_toArray, List.set_cons_zero, List.set_cons_succ])
  refine wpAnyH_ready (rs := [4, 6]) (by kernel_rfl) (by simp) ?_
  refine AllReadyH.cons (o := ({ dst := some 42, op := Op.load 65 (Operand.tmp 41), type := 65, pos := "disk.go:55", after := #[{ on := 3, ground := Ground.data }], guard := none } : Oper)) rfl (fun K hK => ?_) (AllReadyH.cons (o := ({ dst := some 44, op := Op.buildSlice 65 1 #[(0, Operand.tmp 43)], type := 65, pos := "disk.go:55", after := #[{ on := 5, ground := Ground.data }], guard := none } : Oper)) rfl (fun K hK => ?_) AllReadyH.nil)
  · rw [if_pos (by rfl)]
    go_wp2_with fail
    refine hK.out _ _ ?_ (fun hHeld => ?_)
    · exact hrg
    clear hK K
    (try simp only [Act.put, List.setIfInBounds_toArray, List.set_cons_zero, List.set_cons_succ])
    refine wpAnyH_ready (rs := [6]) (by kernel_rfl) (by simp) ?_
    refine AllReadyH.cons (o := ({ dst := some 44, op := Op.buildSlice 65 1 #[(0, Operand.tmp 43)], type := 65, pos := "disk.go:55", after := #[{ on := 5, ground := Ground.data }], guard := none } : Oper)) rfl (fun K hK => ?_) AllReadyH.nil
    rw [if_pos (by rfl)]
    refine wp_run (exec_buildSlice _ _ (.tmp 43) i hp48 _ (by rfl) (by rfl)) ?_
    refine hK.out _ _ ?_ (fun hHeld => ?_)
    · exact hrg4
    clear hK K
    (try simp only [Act.put, List.setIfInBounds_toArray, List.set_cons_zero, List.set_cons_succ])
    refine wpAnyH_ready (rs := [7]) (by kernel_rfl) (by simp) ?_
    refine AllReadyH.cons (o := ({ dst := some 45, op := Op.call { callee := Callee.builtin Builtin.append, args := #[Operand.tmp 42, Operand.tmp 44], argTypes := #[65, 65] }, type := 65, pos := "disk.go:55", after := #[{ on := 4, ground := Ground.data }, { on := 6, ground := Ground.data }], guard := none } : Oper)) rfl (fun K hK => ?_) AllReadyH.nil
    rw [if_pos (by rfl)]
    refine wp_run (exec_append _ _ _ _ (by rfl) (by rfl) (by rfl) (by rfl) (by rfl) (by rfl) r1) ?_
    refine hK.out _ _ ?_ (fun hHeld => ?_)
    · exact hrg5
    clear hK K
    (try simp only [Act.put, List.setIfInBounds_toArray, List.set_cons_zero, List.set_cons_succ])
    refine wpAnyH_take (i := 8) (oi := ({ dst := some 46, op := Op.nilCheck (Operand.tmp 38), type := 0, pos := "disk.go:55", after := #[{ on := 0, ground := Ground.data }, { on := 0, ground := Ground.phase }, { on := 1, ground := Ground.phase }, { on := 2, ground := Ground.phase }, { on := 3, ground := Ground.phase }, { on := 4, ground := Ground.phase }, { on := 5, ground := Ground.phase }, { on := 6, ground := Ground.phase }, { on := 7, ground := Ground.phase }], guard := none } : Oper)) (v := .pointer (some ⟨p, 0, none⟩)) rfl (by kernel_rfl) (by kernel_rfl) (by kernel_rfl) (fun _ _ _ h => h) (Or.inl ⟨by rfl, ?_⟩) (by assumption) ?_
    · intro w hSw; (try dsimp only at hSw); go_simp
    (try simp only [Act.put, List.setIfInBounds_toArray, List.set_cons_zero, List.set_cons_succ])
    refine wpAnyH_take (i := 9) (oi := ({ dst := some 47, op := Op.fieldAddr 67 (Operand.tmp 46) 2, type := 0, pos := "disk.go:55", after := #[{ on := 8, ground := Ground.data }, { on := 0, ground := Ground.phase }, { on := 1, ground := Ground.phase }, { on := 2, ground := Ground.phase }, { on := 3, ground := Ground.phase }, { on := 4, ground := Ground.phase }, { on := 5, ground := Ground.phase }, { on := 6, ground := Ground.phase }, { on := 7, ground := Ground.phase }], guard := none } : Oper)) (v := .pointer (some ⟨p, 2, none⟩)) rfl (by kernel_rfl) (by kernel_rfl) (by kernel_rfl) (fun _ _ _ h => h) (Or.inl ⟨by rfl, ?_⟩) (by assumption) ?_
    · intro w hSw; (try dsimp only at hSw); go_simp
    (try simp only [Act.put, List.setIfInBounds_toArray, List.set_cons_zero, List.set_cons_succ])
    refine wpAnyH_ready (rs := [10]) (by kernel_rfl) (by simp) ?_
    refine AllReadyH.cons (o := ({ dst := none, op := Op.store 65 (Operand.tmp 47) (Operand.tmp 45), type := 0, pos := "disk.go:55", after := #[{ on := 9, ground := Ground.data }, { on := 7, ground := Ground.data }, { on := 7, ground := Ground.chain }, { on := 0, ground := Ground.phase }, { on := 1, ground := Ground.phase }, { on := 2, ground := Ground.phase }, { on := 3, ground := Ground.phase }, { on := 4, ground := Ground.phase }, { on := 5, ground := Ground.phase }, { on := 6, ground := Ground.phase }, { on := 7, ground := Ground.phase }], guard := none } : Oper)) rfl (fun K hK => ?_) AllReadyH.nil
    rw [if_pos (by rfl)]
    go_wp2_with fail
    refine hK.out _ _ ?_ (fun hHeld => ?_)
    · exact hrg6
    clear hK K
    (try simp only [Act.put, List.setIfInBounds_toArray, List.set_cons_zero, List.set_cons_succ])
    refine wpAnyH_done (by kernel_rfl) ?_ _
    go_wp2_with fail
    go_ret
    exact ⟨rfl, _, hfin⟩
  · rw [if_pos (by rfl)]
    refine wp_run (exec_buildSlice _ _ (.tmp 43) i hp48 _ (by rfl) (by rfl)) ?_
    refine hK.out _ _ ?_ (fun hHeld => ?_)
    · exact hrg4
    clear hK K
    (try simp only [Act.put, List.setIfInBounds_toArray, List.set_cons_zero, List.set_cons_succ])
    generalize w3.drew.alloc (.cells (wrF i (padS s)) 90) = w4 at *
    refine wpAnyH_ready (rs := [4]) (by kernel_rfl) (by simp) ?_
    refine AllReadyH.cons (o := ({ dst := some 42, op := Op.load 65 (Operand.tmp 41), type := 65, pos := "disk.go:55", after := #[{ on := 3, ground := Ground.data }], guard := none } : Oper)) rfl (fun K hK => ?_) AllReadyH.nil
    rw [if_pos (by rfl)]
    go_wp2_with fail
    refine hK.out _ _ ?_ (fun hHeld => ?_)
    · exact hrg4
    clear hK K
    (try simp only [Act.put, List.setIfInBounds_toArray, List.set_cons_zero, List.set_cons_succ])
    refine wpAnyH_ready (rs := [7]) (by kernel_rfl) (by simp) ?_
    refine AllReadyH.cons (o := ({ dst := some 45, op := Op.call { callee := Callee.builtin Builtin.append, args := #[Operand.tmp 42, Operand.tmp 44], argTypes := #[65, 65] }, type := 65, pos := "disk.go:55", after := #[{ on := 4, ground := Ground.data }, { on := 6, ground := Ground.data }], guard := none } : Oper)) rfl (fun K hK => ?_) AllReadyH.nil
    rw [if_pos (by rfl)]
    refine wp_run (exec_append _ _ _ _ (by rfl) (by rfl) (by rfl) (by rfl) (by rfl) (by rfl) r1) ?_
    refine hK.out _ _ ?_ (fun hHeld => ?_)
    · exact hrg5
    clear hK K
    (try simp only [Act.put, List.setIfInBounds_toArray, List.set_cons_zero, List.set_cons_succ])
    refine wpAnyH_take (i := 8) (oi := ({ dst := some 46, op := Op.nilCheck (Operand.tmp 38), type := 0, pos := "disk.go:55", after := #[{ on := 0, ground := Ground.data }, { on := 0, ground := Ground.phase }, { on := 1, ground := Ground.phase }, { on := 2, ground := Ground.phase }, { on := 3, ground := Ground.phase }, { on := 4, ground := Ground.phase }, { on := 5, ground := Ground.phase }, { on := 6, ground := Ground.phase }, { on := 7, ground := Ground.phase }], guard := none } : Oper)) (v := .pointer (some ⟨p, 0, none⟩)) rfl (by kernel_rfl) (by kernel_rfl) (by kernel_rfl) (fun _ _ _ h => h) (Or.inl ⟨by rfl, ?_⟩) (by assumption) ?_
    · intro w hSw; (try dsimp only at hSw); go_simp
    (try simp only [Act.put, List.setIfInBounds_toArray, List.set_cons_zero, List.set_cons_succ])
    refine wpAnyH_take (i := 9) (oi := ({ dst := some 47, op := Op.fieldAddr 67 (Operand.tmp 46) 2, type := 0, pos := "disk.go:55", after := #[{ on := 8, ground := Ground.data }, { on := 0, ground := Ground.phase }, { on := 1, ground := Ground.phase }, { on := 2, ground := Ground.phase }, { on := 3, ground := Ground.phase }, { on := 4, ground := Ground.phase }, { on := 5, ground := Ground.phase }, { on := 6, ground := Ground.phase }, { on := 7, ground := Ground.phase }], guard := none } : Oper)) (v := .pointer (some ⟨p, 2, none⟩)) rfl (by kernel_rfl) (by kernel_rfl) (by kernel_rfl) (fun _ _ _ h => h) (Or.inl ⟨by rfl, ?_⟩) (by assumption) ?_
    · intro w hSw; (try dsimp only at hSw); go_simp
    (try simp only [Act.put, List.setIfInBounds_toArray, List.set_cons_zero, List.set_cons_succ])
    refine wpAnyH_ready (rs := [10]) (by kernel_rfl) (by simp) ?_
    refine AllReadyH.cons (o := ({ dst := none, op := Op.store 65 (Operand.tmp 47) (Operand.tmp 45), type := 0, pos := "disk.go:55", after := #[{ on := 9, ground := Ground.data }, { on := 7, ground := Ground.data }, { on := 7, ground := Ground.chain }, { on := 0, ground := Ground.phase }, { on := 1, ground := Ground.phase }, { on := 2, ground := Ground.phase }, { on := 3, ground := Ground.phase }, { on := 4, ground := Ground.phase }, { on := 5, ground := Ground.phase }, { on := 6, ground := Ground.phase }, { on := 7, ground := Ground.phase }], guard := none } : Oper)) rfl (fun K hK => ?_) AllReadyH.nil
    rw [if_pos (by rfl)]
    go_wp2_with fail
    refine hK.out _ _ ?_ (fun hHeld => ?_)
    · exact hrg6
    clear hK K
    (try simp only [Act.put, List.setIfInBounds_toArray, List.set_cons_zero, List.set_cons_succ])
    refine wpAnyH_done (by kernel_rfl) ?_ _
    go_wp2_with fail
    go_ret
    exact ⟨rfl, _, hfin⟩
end Go.Proofs.YtikkakdeapbioaaDoor
