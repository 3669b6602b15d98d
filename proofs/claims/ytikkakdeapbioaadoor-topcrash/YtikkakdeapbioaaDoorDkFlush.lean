/- disk.Flush (G2), as the landed code has it. -/
import Derived.Test.YtikkakdeapbioaaDoorDkRead
set_option linter.unusedVariables false
set_option linter.unusedSimpArgs false
set_option linter.unnecessarySimpa false
namespace Go.Proofs.YtikkakdeapbioaaDoor
open Go.RowKit

/-- copy of rows of elements of many cells -/
theorem run_copy_wide {P : Program} (w : World) (dT sT ty elem : TypeId) (size g n c : Nat) (a : Addr) (c2 : Nat) (cur : Array Value) (t : TypeId) (cs : List Value)
    (hu : P.underlying dT = some (.slice elem)) (hs : (P.info? elem).map (·.size) = some size)
    (hg : w.heap[g]? = some (.cells cur t (0, 0))) (hn : cs.length = n * size) (hsrc : ∀ j v, cs[j]? = some v → w.cell? (a.add j) = some v) (hfit : cs.length = cur.size) (h1 : ∀ v ∈ cs, v.oneCell' = true) :
    (Builtin.copy_ #[dT, sT] ty #[.slice (some ⟨g, 0, none⟩) n c, .slice (some a) n c2]).run P w = .ok (goInt n) (w.setRow g cs.toArray) := by
  have hl := run_loadCells_list (P := P) w a cs hsrc
  have hst := run_storeCells_at P g 0 t cs 0 cur w hg (by omega) h1
  simp only [Nat.add_zero, List.take_zero, List.nil_append, Nat.zero_add] at hst
  rw [List.drop_of_length_le (by simp; omega), List.append_nil] at hst
  cases hq : P.info? elem with
  | none => simp [hq] at hs
  | some i =>
    have hi : i.size = size := by simpa [hq] using hs
    simp [Builtin.copy_, run_underlying hu, Builtin.lenOf, Builtin.firstCells, sizeOf, typeInfo, hq, hi, ← hn, hl, hst]
section
variable {w w' : World} {base p b1 b2 : Nat} {v : Value} {d : Dk}
theorem DkAt.drew (h : DkAt w base p b1 b2 v d) : DkAt w.drew base p b1 b2 v d := h.same (fun _ _ => rfl)
theorem DkAt.own_row (h : DkAt w base p b1 b2 v d) {g : Nat} (hg : v.ownBlock ≠ some g) (cs : Array Value) : (w.setRow g cs).ownsRow base 90 49 v d.wr.length (d.wr.flatMap wrV) := by
  obtain ⟨e1, e2⟩ := h.ho
  refine ⟨e1, ?_⟩
  rcases e2 with e2 | ⟨g', cap, cur, hv, hg', hh, r⟩
  · exact .inl e2
  · refine .inr ⟨g', cap, cur, hv, hg', ?_, r⟩
    rw [setRow_other _ _ _ _ (fun e => hg (by rw [hv, ← e]; rfl))]; exact hh
theorem DkAt.setKept (h : DkAt w base p b1 b2 v d) {k : List (List UInt8)} (hl : k.length = d.now.length) (h4 : ∀ s ∈ k, s.length = 48) : DkAt (w.setRow b2 (secsV k).toArray) base p b1 b2 v ⟨d.now, k, d.wr, d.left, d.down⟩ := by
  refine ⟨h.bp, h.bb1, h.bb2, h.n12, ?_, ?_, setRow_heap w b2 _ _ _ _ h.h2, h.own_row h.v2 _, ⟨hl, h.ok.pos, h.ok.most, h.ok.nows, h4, h.ok.wrs, h.ok.lo, h.ok.hi⟩⟩
  · rw [setRow_other _ _ _ _ h.p2]; exact h.hp
  · rw [setRow_other _ _ _ _ h.n12]; exact h.h1
theorem DkAt.setNow (h : DkAt w base p b1 b2 v d) {k : List (List UInt8)} (hl : k.length = d.now.length) (h4 : ∀ s ∈ k, s.length = 48) : DkAt (w.setRow b1 (secsV k).toArray) base p b1 b2 v ⟨k, d.kept, d.wr, d.left, d.down⟩ := by
  refine ⟨h.bp, h.bb1, h.bb2, h.n12, ?_, setRow_heap w b1 _ _ _ _ h.h1, ?_, h.own_row h.v1 _, ⟨by dsimp only; rw [hl]; exact h.ok.len, by dsimp only; rw [hl]; exact h.ok.pos, by dsimp only; rw [hl]; exact h.ok.most, h4, h.ok.kepts, by dsimp only; rw [hl]; exact h.ok.wrs, h.ok.lo, h.ok.hi⟩⟩
  · rw [setRow_other _ _ _ _ h.p1]; dsimp only; rw [hl]; exact h.hp
  · rw [setRow_other _ _ _ _ (Ne.symm h.n12)]; exact h.h2
end
theorem infoSec : (Tryd.prog.info? 88).map (·.size) = some 48 := by kernel_rfl
set_option maxRecDepth 100000 in
theorem flush_dn (base p b1 b2 : Nat) (v : Value) (d : Dk) (w : World) (h : DkAt w base p b1 b2 v d) (hs : stepDn d = true) :
    Calls Tryd.prog 77 #[.pointer (some ⟨p, 0, none⟩)] w fun e w' => e = .returned (.iface 63 (.int .i64 10)) ∧ DkTo w w' base p b1 b2 v v (flR d) := by
  have HF : Hid (flR d = stepR d) := by simp [flR, hs, Hid]
  have hcon := step_dn base p b1 b2 v d w h hs
  clear hs
  go_enter Tryd.func77, Tryd.ntmps77
  go_wp2_with fail
  refine hcon.mono ?_
  rintro e w1 ⟨rfl, hT⟩
  go_wp2_with fail
  go_ret
  exact ⟨rfl, by rw [HF.out]; exact hT⟩
set_option maxHeartbeats 1000000 in
set_option maxRecDepth 100000 in
theorem flush_go (base p b1 b2 : Nat) (v : Value) (d : Dk) (w : World) (h : DkAt w base p b1 b2 v d) (hs : stepDn d = false) :
    Calls Tryd.prog 77 #[.pointer (some ⟨p, 0, none⟩)] w fun e w' => e = .returned .nilIface ∧ DkTo w w' base p b1 b2 v (.slice none 0 0) (flR d) := by
  have HF : Hid (flR d = ⟨(stepR d).now, (stepR d).now, [], (stepR d).left, (stepR d).down⟩) := by
    show flR d = _
    simp only [flR, hs]
    unfold stepR
    simp [hs]
  have hcon := step_go base p b1 b2 v d w h hs
  clear hs
  generalize stepR d = d1 at *
  go_enter Tryd.func77, Tryd.ntmps77
  go_wp2_with fail
  refine hcon.mono ?_
  rintro e w1 ⟨rfl, hT⟩
  have hA := hT.at_
  obtain ⟨c0, c1, -, -, -⟩ := hA.cells
  have hlt := heap_lt hA.hp
  have hcp := fun ty => run_copy_wide (P := Tryd.prog) w1.drew 64 64 ty 88 48 b2 d1.now.length d1.now.length ⟨b1, 0, none⟩ d1.now.length (secsV d1.kept).toArray 88 (secsV d1.now) Tryd.underlying64 infoSec hA.drew.h2 (secsV_len hA.ok.nows)
    (fun j u hu => by rw [Addr.add_mid, Nat.zero_add, cell_of_row w1.drew b1 _ _ _ _ hA.drew.h1]; simpa using hu) (by rw [secsV_len hA.ok.nows]; simp [secsV_len hA.ok.kepts, hA.ok.len]) secsV_one
  have hn := hA.ok.most
  have hD := hA.drew.setKept (k := d1.now) rfl hA.ok.nows
  have d0 := (hD.cells).1
  have d1' := (hD.cells).2.1
  dsimp only at d0 d1'
  go_wp2_with fail
  refine wp_region_held_drew (S := fun w' => w'.cell? ⟨p, 0, none⟩ = some (.slice (some ⟨b1, 0, none⟩) d1.now.length d1.now.length) ∧ w'.cell? ⟨p, 1, none⟩ = some (.slice (some ⟨b2, 0, none⟩) d1.now.length d1.now.length)) (by kernel_rfl) ?_ (fun hHeld => ?_)
  · exact ⟨c0, c1⟩
  refine wpAnyH_take (i := 0) (oi := ({ dst := some 9, op := Op.move (Operand.tmp 0), type := 25, pos := "disk.go:64", after := #[], guard := none } : Oper)) (v := .pointer (some ⟨p, 0, none⟩)) rfl (by kernel_rfl) (by kernel_rfl) (by kernel_rfl) (fun _ _ _ h => h) (Or.inl ⟨by rfl, ?_⟩) (by assumption) ?_
  · intro w hSw; (try dsimp only at hSw); go_simp
  (try simp only [Act.put, List.setIfInBounds_toArray, List.set_cons_zero, List.set_cons_succ])
  refine wpAnyH_take (i := 1) (oi := ({ dst := some 10, op := Op.nilCheck (Operand.tmp 9), type := 0, pos := "disk.go:64", after := #[{ on := 0, ground := Ground.data }], guard := none } : Oper)) (v := .pointer (some ⟨p, 0, none⟩)) rfl (by kernel_rfl) (by kernel_rfl) (by kernel_rfl) (fun _ _ _ h => h) (Or.inl ⟨by rfl, ?_⟩) (by assumption) ?_
  · intro w hSw; (try dsimp only at hSw); go_simp
  (try simp only [Act.put, List.setIfInBounds_toArray, List.set_cons_zero, List.set_cons_succ])
  refine wpAnyH_take (i := 2) (oi := ({ dst := some 11, op := Op.fieldAddr 67 (Operand.tmp 10) 1, type := 0, pos := "disk.go:64", after := #[{ on := 1, ground := Ground.data }], guard := none } : Oper)) (v := .pointer (some ⟨p, 1, none⟩)) rfl (by kernel_rfl) (by kernel_rfl) (by kernel_rfl) (fun _ _ _ h => h) (Or.inl ⟨by rfl, ?_⟩) (by assumption) ?_
  · intro w hSw; (try dsimp only at hSw); go_simp
  (try simp only [Act.put, List.setIfInBounds_toArray, List.set_cons_zero, List.set_cons_succ])
  refine wpAnyH_take (i := 3) (oi := ({ dst := some 12, op := Op.load 64 (Operand.tmp 11), type := 64, pos := "disk.go:64", after := #[{ on := 2, ground := Ground.data }], guard := none } : Oper)) (v := .slice (some ⟨b2, 0, none⟩) d1.now.length d1.now.length) rfl (by kernel_rfl) (by kernel_rfl) (by kernel_rfl) (fun _ _ _ h => h) (Or.inl ⟨by rfl, ?_⟩) (by assumption) ?_
  · intro w hSw; (try dsimp only at hSw); go_simp
  (try simp only [Act.put, List.setIfInBounds_toArray, List.set_cons_zero, List.set_cons_succ])
  refine wpAnyH_take (i := 4) (oi := ({ dst := some 13, op := Op.move (Operand.tmp 0), type := 25, pos := "disk.go:64", after := #[], guard := none } : Oper)) (v := .pointer (some ⟨p, 0, none⟩)) rfl (by kernel_rfl) (by kernel_rfl) (by kernel_rfl) (fun _ _ _ h => h) (Or.inl ⟨by rfl, ?_⟩) (by assumption) ?_
  · intro w hSw; (try dsimp only at hSw); go_simp
  (try simp only [Act.put, List.setIfInBounds_toArray, List.set_cons_zero, List.set_cons_succ])
  refine wpAnyH_take (i := 5) (oi := ({ dst := some 14, op := Op.nilCheck (Operand.tmp 13), type := 0, pos := "disk.go:64", after := #[{ on := 4, ground := Ground.data }], guard := none } : Oper)) (v := .pointer (some ⟨p, 0, none⟩)) rfl (by kernel_rfl) (by kernel_rfl) (by kernel_rfl) (fun _ _ _ h => h) (Or.inl ⟨by rfl, ?_⟩) (by assumption) ?_
  · intro w hSw; (try dsimp only at hSw); go_simp
  (try simp only [Act.put, List.setIfInBounds_toArray, List.set_cons_zero, List.set_cons_succ])
  refine wpAnyH_take (i := 6) (oi := ({ dst := some 15, op := Op.fieldAddr 67 (Operand.tmp 14) 0, type := 0, pos := "disk.go:64", after := #[{ on := 5, ground := Ground.data }], guard := none } : Oper)) (v := .pointer (some ⟨p, 0, none⟩)) rfl (by kernel_rfl) (by kernel_rfl) (by kernel_rfl) (fun _ _ _ h => h) (Or.inl ⟨by rfl, ?_⟩) (by assumption) ?_
  · intro w hSw; (try dsimp only at hSw); go_simp
  (try simp only [Act.put, List.setIfInBounds_toArray, List.set_cons_zero, List.set_cons_succ])
  refine wpAnyH_take (i := 7) (oi := ({ dst := some 16, op := Op.load 64 (Operand.tmp 15), type := 64, pos := "disk.go:64", after := #[{ on := 6, ground := Ground.data }], guard := none } : Oper)) (v := .slice (some ⟨b1, 0, none⟩) d1.now.length d1.now.length) rfl (by kernel_rfl) (by kernel_rfl) (by kernel_rfl) (fun _ _ _ h => h) (Or.inl ⟨by rfl, ?_⟩) (by assumption) ?_
  · intro w hSw; (try dsimp only at hSw); go_simp
  (try simp only [Act.put, List.setIfInBounds_toArray, List.set_cons_zero, List.set_cons_succ])
  refine wpAnyH_ready (rs := [8]) (by kernel_rfl) (by simp) ?_
  refine AllReadyH.cons (o := ({ dst := some 17, op := Op.call { callee := Callee.builtin Builtin.copy, args := #[Operand.tmp 12, Operand.tmp 16], argTypes := #[64, 64] }, type := 3, pos := "disk.go:64", after := #[{ on := 3, ground := Ground.data }, { on := 7, ground := Ground.data }], guard := none } : Oper)) rfl (fun K hK => ?_) AllReadyH.nil
  rw [if_pos (by rfl)]
  go_wp2_with fail
  refine hK.out _ _ ?_ (fun hHeld => ?_)
  · exact ⟨d0, d1'⟩
  clear hK K
  (try simp only [Act.put, List.setIfInBounds_toArray, List.set_cons_zero, List.set_cons_succ])
  refine wpAnyH_done (by kernel_rfl) ?_ _
  clear hcp c0 c1 d0 d1' hlt
  have hT2 : DkTo w (w1.drew.setRow b2 (secsV d1.now).toArray) base p b1 b2 v v _ := ⟨hD, (hT.kp.below (below_drewN (Below.refl _ _) 1)).row (.inr rfl) _, hT.nx⟩
  clear hT hA hD
  generalize w1.drew.setRow b2 (secsV d1.now).toArray = w2 at *
  obtain ⟨-, -, c2, -, -⟩ := hT2.at_.cells
  have f2 := hT2.at_.free 2
  have hlt := heap_lt hT2.at_.hp
  go_wp2_with fail
  go_ret
  exact ⟨rfl, by rw [HF.out]; exact ⟨hT2.at_.setNil, hT2.kp.set _ _, fun k hk => by cases hk⟩⟩
end Go.Proofs.YtikkakdeapbioaaDoor
