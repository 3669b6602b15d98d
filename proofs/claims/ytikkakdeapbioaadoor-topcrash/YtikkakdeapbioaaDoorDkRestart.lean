/- disk.Restart (G3), as the landed code has it. -/
import Derived.Test.YtikkakdeapbioaaDoorDkNew
import Derived.Laws.Bits64b
import Derived.Laws.Shifts
set_option linter.unusedVariables false
set_option linter.unusedSimpArgs false
set_option linter.unnecessarySimpa false
namespace Go.Proofs.YtikkakdeapbioaaDoor
open Go.RowKit

theorem own_len {w : World} {base : Nat} {v : Value} {l : List (Nat × List UInt8)} (h : w.ownsRow base 90 49 v l.length (l.flatMap wrV)) : ∃ a c, v = .slice a l.length c := by
  rcases h.2 with ⟨rfl, h0⟩ | ⟨g, cap, cur, rfl, -⟩
  · exact ⟨none, 0, by rw [h0]⟩
  · exact ⟨_, _, rfl⟩
theorem wrs_get : ∀ (l : List (Nat × List UInt8)), (∀ x ∈ l, x.2.length = 48) → ∀ (k : Nat) (x : Nat × List UInt8), l[k]? = some x → ∀ j u, (wrV x)[j]? = some u → (l.flatMap wrV)[k * 49 + j]? = some u
  | [], _, k, x, hk => by simp at hk
  | y :: l, h, k, x, hk => by
    intro j u hu
    have hy := wrV_len (h y List.mem_cons_self)
    rw [List.flatMap_cons]
    cases k with
    | zero =>
      simp at hk; subst hk
      rw [List.getElem?_append_left (by have := (List.getElem?_eq_some_iff.1 hu).1; omega)]
      simpa using hu
    | succ k =>
      rw [List.getElem?_append_right (by rw [hy]; omega), hy, show (k + 1) * 49 + j - 49 = k * 49 + j by omega]
      exact wrs_get l (fun z hz => h z (List.mem_cons_of_mem _ hz)) k x (by simpa using hk) j u hu
/-- the k-th write, where it lies -/
theorem own_range {w : World} {base : Nat} {v : Value} {l : List (Nat × List UInt8)} (h : w.ownsRow base 90 49 v l.length (l.flatMap wrV)) (h48 : ∀ x ∈ l, x.2.length = 48) {k : Nat} {x : Nat × List UInt8} (hk : l[k]? = some x) : ∃ g c, v = .slice (some ⟨g, 0, none⟩) l.length c ∧ w.rangeAt g (k * 49) (wrV x) := by
  have hlt := (List.getElem?_eq_some_iff.1 hk).1
  rcases h.2 with ⟨rfl, h0⟩ | ⟨g, cap, cur, rfl, -, hg, h1, h2, h3, h4⟩
  · omega
  · refine ⟨g, cap, rfl, fun j u hu => ?_⟩
    rw [cell_of_row w g _ _ _ _ hg]
    have e := wrs_get l h48 k x hk j u hu
    rw [← h4, List.getElem?_take] at e
    split at e
    · simpa using e
    · cases e
theorem run_storeWrF (i : Nat) {s : List UInt8} (hs : s.length = 48) (W : World) : (Instr.storeAt 90 (.pointer (some ⟨W.heap.size, 0, none⟩)) (.agg (wrF i s))).run Tryd.prog (W.alloc (.cells wrZ 90)) = .ok () (W.alloc (.cells (wrF i s) 90)) := by
  have hz := (zero_of_info infoWr).2
  have h1 : (wrF i s).size = 49 := size_wrF i hs
  have h2 : wrZ.size = 49 := size_wrF 0 (by simp [zsec])
  exact run_storeAt_new W _ _ _ (by rw [h1]; exact hz) (by omega) (by
    rw [Array.all_eq_true_iff_forall_mem]
    intro u hu
    exact one_wrF i s u (by simpa [wrF] using hu))
theorem exec_storeF (ρ : Operand → Value) (o : Oper) (x y : Operand) (i : Nat) {s : List UInt8} (hs : s.length = 48) (w : World) (ho : o.op = .store 90 x y) (hx : ρ x = .pointer (some ⟨w.heap.size, 0, none⟩)) (hy : ρ y = .agg (wrF i s)) : (execOp ρ o).run Tryd.prog (w.alloc (.cells wrZ 90)) = .ok .skip (w.alloc (.cells (wrF i s) 90)) := by
  unfold execOp
  simp only [ho, hx, hy, Sem.run_bind, run_storeWrF i hs, Result.andThen_ok, Sem.run_pure]
theorem exec_storeKept (ρ : Operand → Value) (o : Oper) (x y : Operand) {w : World} {base p b1 b2 : Nat} {v : Value} {d : Dk} (h : DkAt w base p b1 b2 v d) {i : Nat} (hi : i < d.kept.length) {s : List UInt8} (hs : s.length = 48)
    (ho : o.op = .store 88 x y) (hx : ρ x = .pointer (some ⟨b2, i * 48, none⟩)) (hy : ρ y = .agg (secV s).toArray) : (execOp ρ o).run Tryd.prog w = .ok .skip (w.setRow b2 (secsV (d.kept.set i s)).toArray) := by
  have hr : (Instr.storeAt 88 (.pointer (some ⟨b2, i * 48, none⟩)) (.agg (secV s).toArray)).run Tryd.prog w = .ok () (w.setRow b2 (secsV (d.kept.set i s)).toArray) := by
    have hl : (secV s).length = 48 := by rw [secV_len, hs]
    have hn := secsV_len h.ok.kepts
    have hst := run_storeCells_at Tryd.prog b2 (i * 48) 88 (secV s) 0 (secsV d.kept).toArray w h.h2 (by simp only [List.size_toArray, hn, hl]; omega) secV_one
    simp only [Nat.add_zero] at hst
    rw [secsV_set h.ok.kepts hi hs] at hst
    have hi48 := infoSec
    cases hq : Tryd.prog.info? 88 with
    | none => simp [hq] at hi48
    | some inf =>
      have hsz : inf.size = 48 := by simpa [hq] using hi48
      simp only [Instr.storeAt, Instr.sureAddr, Sem.run_bind, Sem.run_pure, Result.andThen_ok]
      simp [storeVar, sizeOf, typeInfo, hq, Value.cells, hsz, hl, hst]
  unfold execOp
  simp only [ho, hx, hy, Sem.run_bind, hr, Result.andThen_ok, Sem.run_pure]
theorem exec_shrU (ρ : Operand → Value) (o : Oper) (x y : Operand) {t u : TypeId} (keep m : Nat) (w : World) (ho : o.op = .binOp .shr t x y u) (hx : ρ x = .int .u64 (keep : Int)) {n : Int} (hy : ρ y = .int .i64 n) (hn : n = (m : Int)) (hm : m < 64) : (execOp ρ o).run Tryd.prog w = .ok (.value (.int .u64 ((keep >>> m : Nat) : Int))) w := by
  subst hn
  have e : Op.shift .shr .u64 (keep : Int) .i64 (m : Int) = pure (.int .u64 ((keep >>> m : Nat) : Int)) := by
    rw [shift_shr_any _ _ _ _ (by omega)]
    have : min (m : Int).toNat IntKind.u64.bits = m := by simp [IntKind.bits]; omega
    rw [this, Nat.shiftRight_eq_div_pow]
    simp
  unfold execOp
  simp only [ho, hx, hy, eqGuard, Sem.run_bind, Sem.run_pure, Result.andThen_ok, binOp, e]
  rfl
theorem exec_andU (ρ : Operand → Value) (o : Oper) (x y : Operand) {t u : TypeId} (a b : Nat) (w : World) (ho : o.op = .binOp .and t x y u) (hx : ρ x = .int .u64 (a : Int)) (hy : ρ y = .int .u64 (b : Int)) (ha : a < 18446744073709551616) (hb : b < 18446744073709551616) : (execOp ρ o).run Tryd.prog w = .ok (.value (.int .u64 ((a &&& b : Nat) : Int))) w := by
  have e := bits_and_u64_nat a b ha hb
  unfold execOp
  simp only [ho, hx, hy, eqGuard, Sem.run_bind, Sem.run_pure, Result.andThen_ok, binOp, ne_eq, not_true_eq_false, if_false]
  rw [← e]
  rfl
theorem bit_one {keep k : Nat} (h : bitB keep k = true) : (keep >>> (k % 64)) &&& 1 = 1 := by simpa [bitB] using h
theorem bit_zero {keep k : Nat} (h : bitB keep k = false) : (keep >>> (k % 64)) &&& 1 = 0 := by
  have h1 : ¬ (keep >>> (k % 64)) &&& 1 = 1 := by simpa [bitB] using h
  have h2 := Nat.and_one_is_mod (keep >>> (k % 64))
  omega
theorem shr_lt {keep m : Nat} (h : keep < 18446744073709551616) : keep >>> m < 18446744073709551616 := by
  rw [Nat.shiftRight_eq_div_pow]
  exact Nat.lt_of_le_of_lt (Nat.div_le_self _ _) h
theorem land_take (keep : Nat) (k0 : List (List UInt8)) (l : List (Nat × List UInt8)) (k : Nat) (x : Nat × List UInt8) (hx : l[k]? = some x) : landW keep k0 (l.take (k + 1)) 0 = if bitB keep k then (landW keep k0 (l.take k) 0).set x.1 x.2 else landW keep k0 (l.take k) 0 := by
  obtain ⟨hk, rfl⟩ := List.getElem?_eq_some_iff.1 hx
  have hl : (l.take k).length = k := by simp; omega
  rw [List.take_succ_eq_append_getElem hk, land_snoc, hl, Nat.zero_add]
set_option maxHeartbeats 1000000 in
set_option maxRecDepth 100000 in
theorem restart_any (base p b1 b2 : Nat) (v : Value) (d : Dk) (keep : Nat) (w : World) (h : DkAt w base p b1 b2 v d) (hw : d.wr.length ≤ 1000000) (hkp : keep < 18446744073709551616) :
    Calls Tryd.prog 23 #[.pointer (some ⟨p, 0, none⟩), .int .u64 (keep : Int)] w fun e w' => e = .returned (.tuple #[]) ∧ DkTo w w' base p b1 b2 v (.slice none 0 0) (reR d keep) := by
  obtain ⟨a, c, hv⟩ := own_len h.ho
  have c2 := h.cells.2.2.1
  have h0 := DkTo.refl h
  have h48 : ∀ x ∈ d.wr, x.2.length = 48 := fun x hx => (h.ok.wrs x hx).2
  have hlen : d.kept.length = d.now.length := h.ok.len
  have hws := h.ok.wrs
  subst hv
  go_enter Tryd.func23, Tryd.ntmps23
  go_wp2_with fail
  go_loopw [11] (fun i wr => ∃ k : Nat, k ≤ d.wr.length ∧ i = .int .i64 k ∧ DkTo w wr base p b1 b2 (.slice a d.wr.length c) (.slice a d.wr.length c) ⟨d.now, landW keep d.kept (d.wr.take k) 0, d.wr, d.left, d.down⟩) (fun i _ => d.wr.length - (intOf i).toNat)
  case atStart => exact ⟨0, Nat.zero_le _, rfl, by simpa [landW] using h0⟩
  case round =>
    obtain ⟨k, hk, rfl, hT⟩ := hrel
    clear h c2 h0
    by_cases hlt : k < d.wr.length
    rotate_left
    · have hke : k = d.wr.length := by omega
      subst hke
      rw [List.take_length] at hT
      have hA := hT.at_
      have c0 := hA.cells.1
      have c1 := hA.cells.2.1
      have hlk := hA.ok.len
      have hkk := hA.ok.kepts
      dsimp only at c0 c1 hlk hkk
      have HE : Hid (reR d keep = ⟨landW keep d.kept d.wr 0, landW keep d.kept d.wr 0, [], -1, false⟩) := rfl
      generalize landW keep d.kept d.wr 0 = kk at *
      have hn := hA.ok.most
      dsimp only at hn
      have hcp := fun ty => run_copy_wide (P := Tryd.prog) wr.drew 64 64 ty 88 48 b1 d.now.length d.now.length ⟨b2, 0, none⟩ d.now.length (secsV d.now).toArray 88 (secsV kk) Tryd.underlying64 infoSec hA.drew.h1 (by rw [secsV_len hkk, hlk])
        (fun j u hu => by rw [Addr.add_mid, Nat.zero_add, cell_of_row wr.drew b2 _ _ _ _ hA.drew.h2]; simpa using hu) (by rw [secsV_len hkk]; simp [secsV_len hA.ok.nows, hlk]) secsV_one
      have hD := hA.drew.setNow (k := kk) hlk hkk
      have d0 := (hD.cells).1
      have d1' := (hD.cells).2.1
      dsimp only at d0 d1'
      rw [hlk] at d0 d1'
      go_wp2_with fail
      refine wp_region_held_drew (S := fun w' => w'.cell? ⟨p, 0, none⟩ = some (.slice (some ⟨b1, 0, none⟩) d.now.length d.now.length) ∧ w'.cell? ⟨p, 1, none⟩ = some (.slice (some ⟨b2, 0, none⟩) d.now.length d.now.length)) (by kernel_rfl) ?_ (fun hHeld => ?_)
      · exact ⟨c0, c1⟩
      refine wpAnyH_take (i := 0) (oi := ({ dst := some 32, op := Op.move (Operand.tmp 0), type := 25, pos := "disk.go:82", after := #[], guard := none } : Oper)) (v := .pointer (some ⟨p, 0, none⟩)) rfl (by kernel_rfl) (by kernel_rfl) (by kernel_rfl) (fun _ _ _ h => h) (Or.inl ⟨by rfl, ?_⟩) (by assumption) ?_
      · intro w hSw; (try dsimp only at hSw); go_simp
      (try simp only [Act.put, List.setIfInBounds_toArray, List.set_cons_zero, List.set_cons_succ])
      refine wpAnyH_take (i := 1) (oi := ({ dst := some 33, op := Op.nilCheck (Operand.tmp 32), type := 0, pos := "disk.go:82", after := #[{ on := 0, ground := Ground.data }], guard := none } : Oper)) (v := .pointer (some ⟨p, 0, none⟩)) rfl (by kernel_rfl) (by kernel_rfl) (by kernel_rfl) (fun _ _ _ h => h) (Or.inl ⟨by rfl, ?_⟩) (by assumption) ?_
      · intro w hSw; (try dsimp only at hSw); go_simp
      (try simp only [Act.put, List.setIfInBounds_toArray, List.set_cons_zero, List.set_cons_succ])
      refine wpAnyH_take (i := 2) (oi := ({ dst := some 34, op := Op.fieldAddr 67 (Operand.tmp 33) 0, type := 0, pos := "disk.go:82", after := #[{ on := 1, ground := Ground.data }], guard := none } : Oper)) (v := .pointer (some ⟨p, 0, none⟩)) rfl (by kernel_rfl) (by kernel_rfl) (by kernel_rfl) (fun _ _ _ h => h) (Or.inl ⟨by rfl, ?_⟩) (by assumption) ?_
      · intro w hSw; (try dsimp only at hSw); go_simp
      (try simp only [Act.put, List.setIfInBounds_toArray, List.set_cons_zero, List.set_cons_succ])
      refine wpAnyH_take (i := 3) (oi := ({ dst := some 35, op := Op.load 64 (Operand.tmp 34), type := 64, pos := "disk.go:82", after := #[{ on := 2, ground := Ground.data }], guard := none } : Oper)) (v := .slice (some ⟨b1, 0, none⟩) d.now.length d.now.length) rfl (by kernel_rfl) (by kernel_rfl) (by kernel_rfl) (fun _ _ _ h => h) (Or.inl ⟨by rfl, ?_⟩) (by assumption) ?_
      · intro w hSw; (try dsimp only at hSw); go_simp
      (try simp only [Act.put, List.setIfInBounds_toArray, List.set_cons_zero, List.set_cons_succ])
      refine wpAnyH_take (i := 4) (oi := ({ dst := some 36, op := Op.move (Operand.tmp 0), type := 25, pos := "disk.go:82", after := #[], guard := none } : Oper)) (v := .pointer (some ⟨p, 0, none⟩)) rfl (by kernel_rfl) (by kernel_rfl) (by kernel_rfl) (fun _ _ _ h => h) (Or.inl ⟨by rfl, ?_⟩) (by assumption) ?_
      · intro w hSw; (try dsimp only at hSw); go_simp
      (try simp only [Act.put, List.setIfInBounds_toArray, List.set_cons_zero, List.set_cons_succ])
      refine wpAnyH_take (i := 5) (oi := ({ dst := some 37, op := Op.nilCheck (Operand.tmp 36), type := 0, pos := "disk.go:82", after := #[{ on := 4, ground := Ground.data }], guard := none } : Oper)) (v := .pointer (some ⟨p, 0, none⟩)) rfl (by kernel_rfl) (by kernel_rfl) (by kernel_rfl) (fun _ _ _ h => h) (Or.inl ⟨by rfl, ?_⟩) (by assumption) ?_
      · intro w hSw; (try dsimp only at hSw); go_simp
      (try simp only [Act.put, List.setIfInBounds_toArray, List.set_cons_zero, List.set_cons_succ])
      refine wpAnyH_take (i := 6) (oi := ({ dst := some 38, op := Op.fieldAddr 67 (Operand.tmp 37) 1, type := 0, pos := "disk.go:82", after := #[{ on := 5, ground := Ground.data }], guard := none } : Oper)) (v := .pointer (some ⟨p, 1, none⟩)) rfl (by kernel_rfl) (by kernel_rfl) (by kernel_rfl) (fun _ _ _ h => h) (Or.inl ⟨by rfl, ?_⟩) (by assumption) ?_
      · intro w hSw; (try dsimp only at hSw); go_simp
      (try simp only [Act.put, List.setIfInBounds_toArray, List.set_cons_zero, List.set_cons_succ])
      refine wpAnyH_take (i := 7) (oi := ({ dst := some 39, op := Op.load 64 (Operand.tmp 38), type := 64, pos := "disk.go:82", after := #[{ on := 6, ground := Ground.data }], guard := none } : Oper)) (v := .slice (some ⟨b2, 0, none⟩) d.now.length d.now.length) rfl (by kernel_rfl) (by kernel_rfl) (by kernel_rfl) (fun _ _ _ h => h) (Or.inl ⟨by rfl, ?_⟩) (by assumption) ?_
      · intro w hSw; (try dsimp only at hSw); go_simp
      (try simp only [Act.put, List.setIfInBounds_toArray, List.set_cons_zero, List.set_cons_succ])
      refine wpAnyH_ready (rs := [8]) (by kernel_rfl) (by simp) ?_
      refine AllReadyH.cons (o := ({ dst := some 40, op := Op.call { callee := Callee.builtin Builtin.copy, args := #[Operand.tmp 35, Operand.tmp 39], argTypes := #[64, 64] }, type := 3, pos := "disk.go:82", after := #[{ on := 3, ground := Ground.data }, { on := 7, ground := Ground.data }], guard := none } : Oper)) rfl (fun K hK => ?_) AllReadyH.nil
      rw [if_pos (by rfl)]
      go_wp2_with fail
      refine hK.out _ _ ?_ (fun hHeld => ?_)
      · exact ⟨d0, d1'⟩
      clear hK K
      (try simp only [Act.put, List.setIfInBounds_toArray, List.set_cons_zero, List.set_cons_succ])
      refine wpAnyH_done (by kernel_rfl) ?_ _
      clear hcp c0 c1 d0 d1'
      have hT2 : DkTo w (wr.drew.setRow b1 (secsV kk).toArray) base p b1 b2 _ _ _ := ⟨hD, (hT.kp.below (below_drewN (Below.refl _ _) 1)).row (.inl rfl) _, hT.nx⟩
      clear hT hA hD
      generalize wr.drew.setRow b1 (secsV kk).toArray = w2 at *
      obtain ⟨-, -, c2, c3, c4⟩ := hT2.at_.cells
      have f2 := hT2.at_.free 2
      have f3 := hT2.at_.free 3
      have f4 := hT2.at_.free 4
      have hlt2 := heap_lt hT2.at_.hp
      have hT3 := (((hT2.at_.setNil).setDown false).setLeft (-1) (by decide) (by decide))
      go_wp2_with fail
      go_end0
      exact ⟨rfl, by rw [HE.out]; exact ⟨hT3, ((hT2.kp.set _ _).set _ _).set _ _, fun k hk => by cases hk⟩⟩
    · obtain ⟨x, hx⟩ : ∃ x, d.wr[k]? = some x := ⟨d.wr[k], List.getElem?_eq_getElem hlt⟩
      have hxm := hws x (List.mem_of_getElem? hx)
      obtain ⟨g, c', hv, hrg⟩ := own_range hT.at_.ho h48 hx
      simp only [Value.slice.injEq] at hv
      obtain ⟨rfl, -, rfl⟩ := hv
      have dlt : decide ((k : Int) < (d.wr.length : Int)) = true := decide_eq_true (by omega)
      have hl48 := wrV_len (x := x) hxm.2
      iterate 25
        (first | go_step | go_upon | go_back | (simp only [Int.not_lt, Int.not_le] at *; go_simp))
      refine wp_load_mid 90 (.tmp 14) rfl g (k * 49) (by rfl) (wrV x) _ hrg Tryd.underlying90 rfl (by rw [hl48]; exact (zero_of_info infoWr).2) ?_
      (try simp only [Act.put, List.setIfInBounds_toArray, List.set_cons_zero, List.set_cons_succ])
      iterate 2
        (first | go_step | go_upon | go_back | (simp only [Int.not_lt, Int.not_le] at *; go_simp))
      refine wp_run (exec_alloc _ _ _ (by rfl)) ?_
      (try simp only [Act.put, List.setIfInBounds_toArray, List.set_cons_zero, List.set_cons_succ])
      iterate 5
        (first | go_step | go_upon | go_back | (simp only [Int.not_lt, Int.not_le] at *; go_simp))
      refine wp_runs (exec_storeF _ _ (.tmp 5) (.tmp 15) x.1 hxm.2 _ (by rfl) (by rfl) (by rfl)) ?_
      (try simp only [Act.put, List.setIfInBounds_toArray, List.set_cons_zero, List.set_cons_succ])
      have hal := (Below.refl wr.heap.size wr).alloc (Nat.le_refl _) (.cells (wrF x.1 x.2) 90)
      have hT2 := hT.below hal
      have hg := heap_alloc_last wr (.cells (wrF x.1 x.2) 90)
      have hgp : wr.heap.size ≠ p ∧ wr.heap.size ≠ b2 := ⟨fun e => by have := heap_lt hT.at_.hp; omega, fun e => by have := heap_lt hT.at_.h2; omega⟩
      clear hT hal hrg
      generalize wr.alloc (.cells (wrF x.1 x.2) 90) = w2 at *
      generalize wr.heap.size = gw at *
      have M0 : Hid ((k : Int) % 64 = ((k % 64 : Nat) : Int)) := by show _ = _; omega
      have hbA : bits BinOp.and IntKind.u64 ((keep : Int) / 2 ^ (k % 64)) 1 = (((keep >>> (k % 64)) &&& 1 : Nat) : Int) := by
        have e := bits_and_u64_nat (keep >>> (k % 64)) 1 (shr_lt hkp) (by decide)
        rw [Nat.shiftRight_eq_div_pow] at e ⊢
        push_cast at e ⊢
        exact e
      have HL := land_take keep d.kept d.wr k x hx
      cases hbit : bitB keep k
      · have hbt : (bits BinOp.and IntKind.u64 ((keep : Int) / 2 ^ (k % 64)) 1 == 1) = false := by rw [hbA, bit_zero hbit]; rfl
        have HL2 : Hid (landW keep d.kept (d.wr.take (k + 1)) 0 = landW keep d.kept (d.wr.take k) 0) := by show _ = _; rw [HL, hbit]; rfl
        clear hbA HL hbit
        go_wp2_with fail
        go_roundw
        case rel => exact ⟨k + 1, by omega, by go_num, by rw [HL2.out]; exact hT2⟩
        case measure => simp [intOf]; omega
      · have hbt : (bits BinOp.and IntKind.u64 ((keep : Int) / 2 ^ (k % 64)) 1 == 1) = true := by rw [hbA, bit_one hbit]; rfl
        have HL2 : Hid (landW keep d.kept (d.wr.take (k + 1)) 0 = (landW keep d.kept (d.wr.take k) 0).set x.1 x.2) := by show _ = _; rw [HL, hbit]; rfl
        clear hbA HL hbit
        have hA := hT2.at_
        have c1 := hA.cells.2.1
        have hx1 := hxm.1
        have hx2 := hxm.2
        have hm := hA.ok.most
        have hkl := hA.ok.len
        dsimp only at c1 hm hkl
        have i0 : (0 : Int) ≤ (x.1 : Int) := by omega
        have i1 : (x.1 : Int) < (d.now.length : Int) := by omega
        have hrg1 := (range_wr (w := w2.drew) hg).1
        have hc0 : w2.drew.cell? ⟨gw, 0, none⟩ = some (.int .i64 (x.1 : Int)) := by have := (range_wr (w := w2.drew) hg).2 0 (.int .i64 (x.1 : Int)) rfl; simpa using this
        have hkx : x.1 < (landW keep d.kept (d.wr.take k) 0).length := by rw [hkl]; exact hx1
        have hA3 := hA.drew.setKept (k := (landW keep d.kept (d.wr.take k) 0).set x.1 x.2) (by simp [hkl]) (mem_set48 hA.ok.kepts x.1 hx2)
        have hg3 : (w2.drew.setRow b2 (secsV ((landW keep d.kept (d.wr.take k) 0).set x.1 x.2)).toArray).heap[gw]? = some (.cells (wrF x.1 x.2) 90 (0, 0)) := by rw [setRow_other _ _ _ _ hgp.2]; exact hg
        have e1 := hA3.cells.2.1
        dsimp only at e1
        have hc3 : (w2.drew.setRow b2 (secsV ((landW keep d.kept (d.wr.take k) 0).set x.1 x.2)).toArray).cell? ⟨gw, 0, none⟩ = some (.int .i64 (x.1 : Int)) := by have := (range_wr hg3).2 0 (.int .i64 (x.1 : Int)) rfl; simpa using this
        go_wp2_with fail
        refine wp_region_held_drew (S := fun w' => w'.cell? ⟨p, 1, none⟩ = some (.slice (some ⟨b2, 0, none⟩) d.now.length d.now.length) ∧ w'.cell? ⟨gw, 0, none⟩ = some (.int .i64 (x.1 : Int)) ∧ w'.rangeAt gw 1 (secV x.2)) (by kernel_rfl) ?_ (fun hHeld => ?_)
        · exact ⟨c1, hc0, hrg1⟩
        refine wpAnyH_take (i := 0) (oi := ({ dst := some 22, op := Op.move (Operand.tmp 0), type := 25, pos := "disk.go:79", after := #[], guard := none } : Oper)) (v := .pointer (some ⟨p, 0, none⟩)) rfl (by kernel_rfl) (by kernel_rfl) (by kernel_rfl) (fun _ _ _ h => h) (Or.inl ⟨by rfl, ?_⟩) (by assumption) ?_
        · intro w hSw; (try dsimp only at hSw); go_simp
        (try simp only [Act.put, List.setIfInBounds_toArray, List.set_cons_zero, List.set_cons_succ])
        refine wpAnyH_take (i := 1) (oi := ({ dst := some 23, op := Op.nilCheck (Operand.tmp 22), type := 0, pos := "disk.go:79", after := #[{ on := 0, ground := Ground.data }], guard := none } : Oper)) (v := .pointer (some ⟨p, 0, none⟩)) rfl (by kernel_rfl) (by kernel_rfl) (by kernel_rfl) (fun _ _ _ h => h) (Or.inl ⟨by rfl, ?_⟩) (by assumption) ?_
        · intro w hSw; (try dsimp only at hSw); go_simp
        (try simp only [Act.put, List.setIfInBounds_toArray, List.set_cons_zero, List.set_cons_succ])
        refine wpAnyH_take (i := 2) (oi := ({ dst := some 24, op := Op.fieldAddr 67 (Operand.tmp 23) 1, type := 0, pos := "disk.go:79", after := #[{ on := 1, ground := Ground.data }], guard := none } : Oper)) (v := .pointer (some ⟨p, 1, none⟩)) rfl (by kernel_rfl) (by kernel_rfl) (by kernel_rfl) (fun _ _ _ h => h) (Or.inl ⟨by rfl, ?_⟩) (by assumption) ?_
        · intro w hSw; (try dsimp only at hSw); go_simp
        (try simp only [Act.put, List.setIfInBounds_toArray, List.set_cons_zero, List.set_cons_succ])
        refine wpAnyH_take (i := 3) (oi := ({ dst := some 25, op := Op.load 64 (Operand.tmp 24), type := 64, pos := "disk.go:79", after := #[{ on := 2, ground := Ground.data }], guard := none } : Oper)) (v := .slice (some ⟨b2, 0, none⟩) d.now.length d.now.length) rfl (by kernel_rfl) (by kernel_rfl) (by kernel_rfl) (fun _ _ _ h => h) (Or.inl ⟨by rfl, ?_⟩) (by assumption) ?_
        · intro w hSw; (try dsimp only at hSw); go_simp
        (try simp only [Act.put, List.setIfInBounds_toArray, List.set_cons_zero, List.set_cons_succ])
        refine wpAnyH_take (i := 4) (oi := ({ dst := some 26, op := Op.fieldAddr 90 (Operand.tmp 5) 0, type := 0, pos := "disk.go:79", after := #[], guard := none } : Oper)) (v := .pointer (some ⟨gw, 0, none⟩)) rfl (by kernel_rfl) (by kernel_rfl) (by kernel_rfl) (fun _ _ _ h => h) (Or.inl ⟨by rfl, ?_⟩) (by assumption) ?_
        · intro w hSw; (try dsimp only at hSw); go_simp
        (try simp only [Act.put, List.setIfInBounds_toArray, List.set_cons_zero, List.set_cons_succ])
        refine wpAnyH_take (i := 5) (oi := ({ dst := some 27, op := Op.load 3 (Operand.tmp 26), type := 3, pos := "disk.go:79", after := #[{ on := 4, ground := Ground.data }], guard := none } : Oper)) (v := .int .i64 (x.1 : Int)) rfl (by kernel_rfl) (by kernel_rfl) (by kernel_rfl) (fun _ _ _ h => h) (Or.inl ⟨by rfl, ?_⟩) (by assumption) ?_
        · intro w hSw; (try dsimp only at hSw); go_simp
        (try simp only [Act.put, List.setIfInBounds_toArray, List.set_cons_zero, List.set_cons_succ])
        refine wpAnyH_take (i := 6) (oi := ({ dst := some 28, op := Op.fieldAddr 90 (Operand.tmp 5) 1, type := 0, pos := "disk.go:79", after := #[], guard := none } : Oper)) (v := .pointer (some ⟨gw, 1, none⟩)) rfl (by kernel_rfl) (by kernel_rfl) (by kernel_rfl) (fun _ _ _ h => h) (Or.inl ⟨by rfl, ?_⟩) (by assumption) ?_
        · intro w hSw; (try dsimp only at hSw); go_simp
        (try simp only [Act.put, List.setIfInBounds_toArray, List.set_cons_zero, List.set_cons_succ])
        refine wpAnyH_take (i := 7) (oi := ({ dst := some 29, op := Op.load 88 (Operand.tmp 28), type := 88, pos := "disk.go:79", after := #[{ on := 6, ground := Ground.data }], guard := none } : Oper)) (v := .agg (secV x.2).toArray) rfl (by kernel_rfl) (by kernel_rfl) (by kernel_rfl) (fun _ _ _ h => h) (yieldsIf_load_mid (by rfl) 88 (.tmp 28) rfl gw 1 (by rfl) (secV x.2) _ (fun w h => h.2.2) Tryd.underlying88 rfl (by rw [secV_len, hx2]; exact infoSec)) (by assumption) ?_
        (try simp only [Act.put, List.setIfInBounds_toArray, List.set_cons_zero, List.set_cons_succ])
        refine wpAnyH_take (i := 8) (oi := ({ dst := some 30, op := Op.indexAddr 64 (Operand.tmp 25) (Operand.tmp 27), type := 0, pos := "disk.go:79", after := #[{ on := 3, ground := Ground.data }, { on := 5, ground := Ground.data }, { on := 0, ground := Ground.phase }, { on := 1, ground := Ground.phase }, { on := 2, ground := Ground.phase }, { on := 3, ground := Ground.phase }, { on := 4, ground := Ground.phase }, { on := 5, ground := Ground.phase }, { on := 6, ground := Ground.phase }, { on := 7, ground := Ground.phase }], guard := none } : Oper)) (v := .pointer (some ⟨b2, x.1 * 48, none⟩)) rfl (by kernel_rfl) (by kernel_rfl) (by kernel_rfl) (fun _ _ _ h => h) (Or.inl ⟨by rfl, ?_⟩) (by assumption) ?_
        · intro w hSw; (try dsimp only at hSw); go_simp
        (try simp only [Act.put, List.setIfInBounds_toArray, List.set_cons_zero, List.set_cons_succ])
        refine wpAnyH_ready (rs := [9]) (by kernel_rfl) (by simp) ?_
        refine AllReadyH.cons (o := ({ dst := none, op := Op.store 88 (Operand.tmp 30) (Operand.tmp 29), type := 0, pos := "disk.go:79", after := #[{ on := 8, ground := Ground.data }, { on := 7, ground := Ground.data }, { on := 0, ground := Ground.phase }, { on := 1, ground := Ground.phase }, { on := 2, ground := Ground.phase }, { on := 3, ground := Ground.phase }, { on := 4, ground := Ground.phase }, { on := 5, ground := Ground.phase }, { on := 6, ground := Ground.phase }, { on := 7, ground := Ground.phase }], guard := none } : Oper)) rfl (fun K hK => ?_) AllReadyH.nil
        rw [if_pos (by rfl)]
        refine wp_runs (exec_storeKept _ _ (.tmp 30) (.tmp 29) hA.drew hkx hx2 (by rfl) (by rfl) (by rfl)) ?_
        refine hK.out _ _ ?_ (fun hHeld => ?_)
        · exact ⟨e1, hc3, (range_wr hg3).1⟩
        clear hK K
        (try simp only [Act.put, List.setIfInBounds_toArray, List.set_cons_zero, List.set_cons_succ])
        refine wpAnyH_done (by kernel_rfl) ?_ _
        have hT3 : DkTo w (w2.drew.setRow b2 (secsV ((landW keep d.kept (d.wr.take k) 0).set x.1 x.2)).toArray) base p b1 b2 _ _ _ := ⟨hA3, (hT2.kp.below (below_drewN (Below.refl _ _) 1)).row (.inr rfl) _, hT2.nx⟩
        (try dsimp only at hT3)
        clear hT2 hA hA3 c1 hrg1 e1 hg hg3 hc0 hc3 hkx hkl
        generalize w2.drew.setRow b2 (secsV ((landW keep d.kept (d.wr.take k) 0).set x.1 x.2)).toArray = w3 at *
        go_wp2_with fail
        go_roundw
        case rel => exact ⟨k + 1, by omega, by go_num, by rw [HL2.out]; exact hT3⟩
        case measure => simp [intOf]; omega
end Go.Proofs.YtikkakdeapbioaaDoor
