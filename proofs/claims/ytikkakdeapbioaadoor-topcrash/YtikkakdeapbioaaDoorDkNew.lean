/- disk.New (G1), as the landed code has it. -/
import Derived.Test.YtikkakdeapbioaaDoorDkWrite
import Derived.Laws.MakeOwn
set_option linter.unusedVariables false
set_option linter.unusedSimpArgs false
set_option linter.unnecessarySimpa false
namespace Go.Proofs.YtikkakdeapbioaaDoor
open Go.RowKit

theorem zero_secs (n : Nat) : secsV (List.replicate n zsec) = List.replicate (n * 48) (.int .u8 0) := by
  refine List.eq_replicate_iff.2 ⟨?_, fun b hb => ?_⟩
  · rw [secsV_len (fun s hs => by rw [(List.mem_replicate.1 hs).2]; rfl)]; simp
  · obtain ⟨s, hs, hb⟩ := List.mem_flatMap.1 hb
    rw [(List.mem_replicate.1 hs).2] at hb
    simp only [secV, zsec, List.map_replicate] at hb
    exact (List.mem_replicate.1 hb).2
theorem made_rep (m k : Nat) (x : Value) (hm : 0 < m) : madeCells (List.replicate m x).toArray k = (List.replicate k x).toArray := by
  apply Array.ext
  · simp [madeCells]
  · intro i h1 h2
    have : i % m < m := Nat.mod_lt _ hm
    simp [madeCells, this, List.getElem?_replicate]
theorem made_secs (n : Nat) : madeCells (secV zsec).toArray (n * 48) = (secsV (List.replicate n zsec)).toArray := by
  rw [zero_secs, show secV zsec = List.replicate 48 (.int .u8 0) by simp only [secV, zsec, List.map_replicate]; rfl]
  exact made_rep 48 _ _ (by decide)
theorem infoSec2 : (Tryd.prog.info? 88).map (fun i => (i.zero, i.size, i.bytes)) = some (some (.agg (secV zsec).toArray), 48, 48) := by kernel_rfl
theorem exec_makeSecs (ρ : Operand → Value) (o : Oper) (x : Operand) (n : Nat) (hn : n ≤ 200) (w : World) (ho : o.op = .makeSlice 64 x x) (hx : ρ x = .int .i64 (n : Int)) : (execOp ρ o).run Tryd.prog w = .ok (.value (.slice (some ⟨w.heap.size, 0, none⟩) n n)) (w.alloc (.cells (secsV (List.replicate n zsec)).toArray 88)) := by
  have hI := infoSec2
  cases hq : Tryd.prog.info? 88 with
  | none => simp [hq] at hI
  | some inf =>
    obtain ⟨h1, h2, h3⟩ : inf.zero = some (.agg (secV zsec).toArray) ∧ inf.size = 48 ∧ inf.bytes = 48 := by simpa [hq] using hI
    have hr := run_make w 64 88 inf _ Tryd.underlying64 hq h1 .i64 .i64 (n : Int) (n : Int) (by omega) (Int.le_refl _) (by rw [h3]; omega) (by omega)
    simp only [Int.toNat_natCast, h2, Value.cells, made_secs] at hr
    unfold execOp
    simp only [ho, hx, Sem.run_bind, hr, Result.andThen_ok, Sem.run_pure]
theorem new_at {w : World} {base p b1 b2 n : Nat} (h1 : 1 ≤ n) (h2 : n ≤ 200) (k0 : base ≤ p) (k1 : base ≤ b1) (k2 : base ≤ b2) (k3 : b1 ≠ b2)
    (g0 : w.heap[p]? = some (.cells (dcells b1 b2 n (.slice none 0 0) (-1) false) 67 (0, 0))) (g1 : w.heap[b1]? = some (.cells (secsV (List.replicate n zsec)).toArray 88 (0, 0))) (g2 : w.heap[b2]? = some (.cells (secsV (List.replicate n zsec)).toArray 88 (0, 0))) : DkAt w base p b1 b2 (.slice none 0 0) (newD n) :=
  ⟨k0, k1, k2, k3, by simpa [newD] using g0, g1, g2, World.ownsRow_nil _ _ _ _, new_ok h1 h2⟩
theorem old_alloc (w : World) (o : Obj) {k : Nat} (h : k < w.heap.size) : (w.alloc o).heap[k]? = w.heap[k]? := ((Below.refl w.heap.size w).alloc (Nat.le_refl _) o).block k h
theorem three (w : World) (o1 o2 o3 : Obj) : (((w.alloc o1).alloc o2).alloc o3).drew.heap[w.heap.size]? = some o1 ∧ (((w.alloc o1).alloc o2).alloc o3).drew.heap[w.heap.size + 1]? = some o2 ∧ (((w.alloc o1).alloc o2).alloc o3).drew.heap[w.heap.size + 1 + 1]? = some o3 ∧ Below w.heap.size w (((w.alloc o1).alloc o2).alloc o3).drew := by
  have e1 : (w.alloc o1).heap.size = w.heap.size + 1 := by simp
  have e2 : ((w.alloc o1).alloc o2).heap.size = w.heap.size + 1 + 1 := by simp
  refine ⟨?_, ?_, ?_, ?_⟩
  · show (((w.alloc o1).alloc o2).alloc o3).heap[w.heap.size]? = _
    rw [old_alloc _ _ (by omega), old_alloc _ _ (by omega)]; exact heap_alloc_last _ _
  · show (((w.alloc o1).alloc o2).alloc o3).heap[w.heap.size + 1]? = _
    rw [old_alloc _ _ (by omega), ← e1]; exact heap_alloc_last _ _
  · show (((w.alloc o1).alloc o2).alloc o3).heap[w.heap.size + 1 + 1]? = _
    rw [← e2]; exact heap_alloc_last _ _
  · exact below_drewN ((((Below.refl w.heap.size w).alloc (Nat.le_refl _) o1).alloc (by omega) o2).alloc (by omega) o3) 1
set_option maxRecDepth 100000 in
theorem new_no (n : Int) (w : World) (h : ¬ (1 ≤ n ∧ n ≤ 200)) :
    Calls Tryd.prog 7 #[.int .i64 n] w fun e w' => e = .returned (.tuple #[.pointer none, .iface 63 (.int .i64 1)]) ∧ w' = w := by
  by_cases h1 : n < 1
  · have d1 : decide (n < 1) = true := decide_eq_true h1
    go_enter Tryd.func7, Tryd.ntmps7
    go_wp2_with fail
    go_ret2
    exact ⟨rfl, rfl⟩
  · have d1 : decide (n < 1) = false := decide_eq_false h1
    have d2 : decide (200 < n) = true := decide_eq_true (by omega)
    go_enter Tryd.func7, Tryd.ntmps7
    go_wp2_with fail
    go_ret2
    exact ⟨rfl, rfl⟩
set_option maxRecDepth 100000 in
theorem new_go (n : Nat) (w : World) (h1 : 1 ≤ n) (h2 : n ≤ 200) :
    Calls Tryd.prog 7 #[.int .i64 (n : Int)] w fun e w' => ∃ p b1 b2, e = .returned (.tuple #[.pointer (some ⟨p, 0, none⟩), .nilIface]) ∧ DkAt w' w.heap.size p b1 b2 (.slice none 0 0) (newD n) ∧ Below w.heap.size w w' := by
  have d1 : decide ((n : Int) < 1) = false := decide_eq_false (by omega)
  have d2 : decide ((200 : Int) < (n : Int)) = false := decide_eq_false (by omega)
  go_enter Tryd.func7, Tryd.ntmps7
  go_wp2_with fail
  refine wp_region_held_drew (S := fun w' => True) (by kernel_rfl) ?_ (fun hHeld => ?_)
  · exact trivial
  refine wpAnyH_take (i := 0) (oi := ({ dst := some 11, op := Op.move (Operand.tmp 0), type := 3, pos := "disk.go:27", after := #[], guard := none } : Oper)) (v := .int .i64 (n : Int)) rfl (by kernel_rfl) (by kernel_rfl) (by kernel_rfl) (fun _ _ _ h => h) (Or.inl ⟨by rfl, ?_⟩) (by assumption) ?_
  · intro w hSw; (try dsimp only at hSw); go_simp
  (try simp only [Act.put, List.setIfInBounds_toArray, List.set_cons_zero, List.set_cons_succ])
  refine wpAnyH_take (i := 2) (oi := ({ dst := some 13, op := Op.move (Operand.tmp 0), type := 3, pos := "disk.go:27", after := #[], guard := none } : Oper)) (v := .int .i64 (n : Int)) rfl (by kernel_rfl) (by kernel_rfl) (by kernel_rfl) (fun _ _ _ h => h) (Or.inl ⟨by rfl, ?_⟩) (by assumption) ?_
  · intro w hSw; (try dsimp only at hSw); go_simp
  (try simp only [Act.put, List.setIfInBounds_toArray, List.set_cons_zero, List.set_cons_succ])
  refine wpAnyH_ready (rs := [1, 3]) (by kernel_rfl) (by simp) ?_
  refine AllReadyH.cons (o := ({ dst := some 12, op := Op.makeSlice 64 (Operand.tmp 11) (Operand.tmp 11), type := 64, pos := "disk.go:27", after := #[{ on := 0, ground := Ground.data }, { on := 0, ground := Ground.data }], guard := none } : Oper)) rfl (fun K hK => ?_) (AllReadyH.cons (o := ({ dst := some 14, op := Op.makeSlice 64 (Operand.tmp 13) (Operand.tmp 13), type := 64, pos := "disk.go:27", after := #[{ on := 2, ground := Ground.data }, { on := 2, ground := Ground.data }], guard := none } : Oper)) rfl (fun K hK => ?_) AllReadyH.nil)
  · rw [if_pos (by rfl)]
    refine wp_run (exec_makeSecs _ _ (.tmp 11) n h2 _ (by rfl) (by rfl)) ?_
    refine hK.out _ _ ?_ (fun hHeld => ?_)
    · exact trivial
    clear hK K
    (try simp only [Act.put, List.setIfInBounds_toArray, List.set_cons_zero, List.set_cons_succ])
    refine wpAnyH_ready (rs := [3]) (by kernel_rfl) (by simp) ?_
    refine AllReadyH.cons (o := ({ dst := some 14, op := Op.makeSlice 64 (Operand.tmp 13) (Operand.tmp 13), type := 64, pos := "disk.go:27", after := #[{ on := 2, ground := Ground.data }, { on := 2, ground := Ground.data }], guard := none } : Oper)) rfl (fun K hK => ?_) AllReadyH.nil
    rw [if_pos (by rfl)]
    refine wp_run (exec_makeSecs _ _ (.tmp 13) n h2 _ (by rfl) (by rfl)) ?_
    refine hK.out _ _ ?_ (fun hHeld => ?_)
    · exact trivial
    clear hK K
    (try simp only [Act.put, List.setIfInBounds_toArray, List.set_cons_zero, List.set_cons_succ])
    refine wpAnyH_take (i := 4) (oi := ({ dst := some 15, op := Op.build 67 #[(0, Operand.tmp 12), (1, Operand.tmp 14), (3, Operand.const (Value.int IntKind.i64 (-1)))], type := 67, pos := "disk.go:27", after := #[{ on := 1, ground := Ground.data }, { on := 3, ground := Ground.data }], guard := none } : Oper)) (v := .agg (dcells w.heap.size (w.heap.size + 1) n (.slice none 0 0) (-1) false)) rfl (by kernel_rfl) (by kernel_rfl) (by kernel_rfl) (fun _ _ _ h => h) (Or.inl ⟨by rfl, ?_⟩) (by assumption) ?_
    · intro w hSw; (try dsimp only at hSw); go_simp
    (try simp only [Act.put, List.setIfInBounds_toArray, List.set_cons_zero, List.set_cons_succ])
    refine wpAnyH_ready (rs := [5]) (by kernel_rfl) (by simp) ?_
    refine AllReadyH.cons (o := ({ dst := some 16, op := Op.box 67 (Operand.tmp 15), type := 25, pos := "disk.go:27", after := #[{ on := 4, ground := Ground.data }], guard := none } : Oper)) rfl (fun K hK => ?_) AllReadyH.nil
    rw [if_pos (by rfl)]
    go_wp2_with fail
    refine hK.out _ _ ?_ (fun hHeld => ?_)
    · exact trivial
    clear hK K
    (try simp only [Act.put, List.setIfInBounds_toArray, List.set_cons_zero, List.set_cons_succ])
    refine wpAnyH_take (i := 6) (oi := ({ dst := some 2, op := Op.assign (Operand.tmp 16), type := 25, pos := "disk.go:27", after := #[{ on := 5, ground := Ground.data }, { on := 0, ground := Ground.phase }, { on := 1, ground := Ground.phase }, { on := 2, ground := Ground.phase }, { on := 3, ground := Ground.phase }, { on := 4, ground := Ground.phase }, { on := 5, ground := Ground.phase }], guard := none } : Oper)) (v := .pointer (some ⟨w.heap.size + 1 + 1, 0, none⟩)) rfl (by kernel_rfl) (by kernel_rfl) (by kernel_rfl) (fun _ _ _ h => h) (Or.inl ⟨by rfl, ?_⟩) (by assumption) ?_
    · intro w hSw; (try dsimp only at hSw); go_simp
    (try simp only [Act.put, List.setIfInBounds_toArray, List.set_cons_zero, List.set_cons_succ])
    refine wpAnyH_take (i := 7) (oi := ({ dst := some 3, op := Op.assign (Operand.const Value.nilIface), type := 27, pos := "disk.go:27", after := #[{ on := 6, ground := Ground.chain }, { on := 0, ground := Ground.phase }, { on := 1, ground := Ground.phase }, { on := 2, ground := Ground.phase }, { on := 3, ground := Ground.phase }, { on := 4, ground := Ground.phase }, { on := 5, ground := Ground.phase }, { on := 6, ground := Ground.phase }], guard := none } : Oper)) (v := .nilIface) rfl (by kernel_rfl) (by kernel_rfl) (by kernel_rfl) (fun _ _ _ h => h) (Or.inl ⟨by rfl, ?_⟩) (by assumption) ?_
    · intro w hSw; (try dsimp only at hSw); go_simp
    (try simp only [Act.put, List.setIfInBounds_toArray, List.set_cons_zero, List.set_cons_succ])
    refine wpAnyH_done (by kernel_rfl) ?_ _
    go_wp2_with fail
    have h3 := three w (.cells (secsV (List.replicate n zsec)).toArray 88) (.cells (secsV (List.replicate n zsec)).toArray 88) (.cells (dcells w.heap.size (w.heap.size + 1) n (.slice none 0 0) (-1) false) 67)
    go_ret2
    refine ⟨_, w.heap.size, (w.heap.size + 1), rfl, new_at h1 h2 (by omega) (by omega) (by omega) (by omega) ?_ ?_ ?_, ?_⟩
    · exact h3.2.2.1
    · exact h3.1
    · exact h3.2.1
    · exact h3.2.2.2
  · rw [if_pos (by rfl)]
    refine wp_run (exec_makeSecs _ _ (.tmp 13) n h2 _ (by rfl) (by rfl)) ?_
    refine hK.out _ _ ?_ (fun hHeld => ?_)
    · exact trivial
    clear hK K
    (try simp only [Act.put, List.setIfInBounds_toArray, List.set_cons_zero, List.set_cons_succ])
    refine wpAnyH_ready (rs := [1]) (by kernel_rfl) (by simp) ?_
    refine AllReadyH.cons (o := ({ dst := some 12, op := Op.makeSlice 64 (Operand.tmp 11) (Operand.tmp 11), type := 64, pos := "disk.go:27", after := #[{ on := 0, ground := Ground.data }, { on := 0, ground := Ground.data }], guard := none } : Oper)) rfl (fun K hK => ?_) AllReadyH.nil
    rw [if_pos (by rfl)]
    refine wp_run (exec_makeSecs _ _ (.tmp 11) n h2 _ (by rfl) (by rfl)) ?_
    refine hK.out _ _ ?_ (fun hHeld => ?_)
    · exact trivial
    clear hK K
    (try simp only [Act.put, List.setIfInBounds_toArray, List.set_cons_zero, List.set_cons_succ])
    refine wpAnyH_take (i := 4) (oi := ({ dst := some 15, op := Op.build 67 #[(0, Operand.tmp 12), (1, Operand.tmp 14), (3, Operand.const (Value.int IntKind.i64 (-1)))], type := 67, pos := "disk.go:27", after := #[{ on := 1, ground := Ground.data }, { on := 3, ground := Ground.data }], guard := none } : Oper)) (v := .agg (dcells (w.heap.size + 1) w.heap.size n (.slice none 0 0) (-1) false)) rfl (by kernel_rfl) (by kernel_rfl) (by kernel_rfl) (fun _ _ _ h => h) (Or.inl ⟨by rfl, ?_⟩) (by assumption) ?_
    · intro w hSw; (try dsimp only at hSw); go_simp
    (try simp only [Act.put, List.setIfInBounds_toArray, List.set_cons_zero, List.set_cons_succ])
    refine wpAnyH_ready (rs := [5]) (by kernel_rfl) (by simp) ?_
    refine AllReadyH.cons (o := ({ dst := some 16, op := Op.box 67 (Operand.tmp 15), type := 25, pos := "disk.go:27", after := #[{ on := 4, ground := Ground.data }], guard := none } : Oper)) rfl (fun K hK => ?_) AllReadyH.nil
    rw [if_pos (by rfl)]
    go_wp2_with fail
    refine hK.out _ _ ?_ (fun hHeld => ?_)
    · exact trivial
    clear hK K
    (try simp only [Act.put, List.setIfInBounds_toArray, List.set_cons_zero, List.set_cons_succ])
    refine wpAnyH_take (i := 6) (oi := ({ dst := some 2, op := Op.assign (Operand.tmp 16), type := 25, pos := "disk.go:27", after := #[{ on := 5, ground := Ground.data }, { on := 0, ground := Ground.phase }, { on := 1, ground := Ground.phase }, { on := 2, ground := Ground.phase }, { on := 3, ground := Ground.phase }, { on := 4, ground := Ground.phase }, { on := 5, ground := Ground.phase }], guard := none } : Oper)) (v := .pointer (some ⟨w.heap.size + 1 + 1, 0, none⟩)) rfl (by kernel_rfl) (by kernel_rfl) (by kernel_rfl) (fun _ _ _ h => h) (Or.inl ⟨by rfl, ?_⟩) (by assumption) ?_
    · intro w hSw; (try dsimp only at hSw); go_simp
    (try simp only [Act.put, List.setIfInBounds_toArray, List.set_cons_zero, List.set_cons_succ])
    refine wpAnyH_take (i := 7) (oi := ({ dst := some 3, op := Op.assign (Operand.const Value.nilIface), type := 27, pos := "disk.go:27", after := #[{ on := 6, ground := Ground.chain }, { on := 0, ground := Ground.phase }, { on := 1, ground := Ground.phase }, { on := 2, ground := Ground.phase }, { on := 3, ground := Ground.phase }, { on := 4, ground := Ground.phase }, { on := 5, ground := Ground.phase }, { on := 6, ground := Ground.phase }], guard := none } : Oper)) (v := .nilIface) rfl (by kernel_rfl) (by kernel_rfl) (by kernel_rfl) (fun _ _ _ h => h) (Or.inl ⟨by rfl, ?_⟩) (by assumption) ?_
    · intro w hSw; (try dsimp only at hSw); go_simp
    (try simp only [Act.put, List.setIfInBounds_toArray, List.set_cons_zero, List.set_cons_succ])
    refine wpAnyH_done (by kernel_rfl) ?_ _
    go_wp2_with fail
    have h3 := three w (.cells (secsV (List.replicate n zsec)).toArray 88) (.cells (secsV (List.replicate n zsec)).toArray 88) (.cells (dcells (w.heap.size + 1) w.heap.size n (.slice none 0 0) (-1) false) 67)
    go_ret2
    refine ⟨_, (w.heap.size + 1), w.heap.size, rfl, new_at h1 h2 (by omega) (by omega) (by omega) (by omega) ?_ ?_ ?_, ?_⟩
    · exact h3.2.2.1
    · exact h3.2.1
    · exact h3.1
    · exact h3.2.2.2
end Go.Proofs.YtikkakdeapbioaaDoor
