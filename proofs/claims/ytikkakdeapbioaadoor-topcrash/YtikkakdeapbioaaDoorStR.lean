/- store.head.read: the rows that a head tells of. -/
import Derived.Test.YtikkakdeapbioaaDoorStJ
import Derived.Test.YtikkakdeapbioaaDoorStS
import Derived.Test.YtikkakdeapbioaaDoorStH
set_option linter.unusedVariables false
set_option linter.unusedSimpArgs false
set_option linter.unnecessarySimpa false
namespace Go.Proofs.YtikkakdeapbioaaDoor
open Go.RowKit Go.Shelf

/-- what stands on a half's sectors -/
def halfT (now : List (List UInt8)) (half k : Nat) : List UInt8 := ((now.drop (1 + 50 * half)).take k).flatten
theorem halfT_len {d : Dk} (h : DkOk d) (half k : Nat) (hk : 1 + 50 * half + k ≤ d.now.length) : (halfT d.now half k).length = 48 * k := by
  unfold halfT
  have : ∀ l : List (List UInt8), (∀ s ∈ l, s.length = 48) → l.flatten.length = 48 * l.length := by
    intro l
    induction l with
    | nil => intro _; rfl
    | cons a l ih => intro hl; rw [List.flatten_cons, List.length_append, ih (fun s hs => hl s (List.mem_cons_of_mem _ hs)), hl a List.mem_cons_self, List.length_cons]; omega
  rw [this _ (fun s hs => h.nows s (List.mem_of_mem_drop (List.mem_of_mem_take hs))), List.length_take, List.length_drop]
  congr 1; omega
theorem halfT_succ {d : Dk} {half k : Nat} (hk : 1 + 50 * half + k < d.now.length) : halfT d.now half (k + 1) = halfT d.now half k ++ d.now[1 + 50 * half + k] := by
  unfold halfT
  rw [List.take_succ_eq_append_getElem (by rw [List.length_drop]; omega), List.flatten_append]
  simp
theorem halfT_pre {d : Dk} (h : DkOk d) (half : Nat) {k n : Nat} (hn : n ≤ 48 * k) (hk : k ≤ 50) (hl : 1 + 50 * half + 50 ≤ d.now.length) : (halfT d.now half 50).take n = (halfT d.now half k).take n := by
  have e : halfT d.now half 50 = halfT d.now half k ++ (((d.now.drop (1 + 50 * half)).take 50).drop k).flatten := by
    unfold halfT
    conv => lhs; rw [← List.take_append_drop k ((d.now.drop (1 + 50 * half)).take 50), List.flatten_append, List.take_take, Nat.min_eq_left hk]
  rw [e, List.take_append_of_le_length (by rw [halfT_len h half k (by omega)]; exact hn)]
def SR (b B bb : Nat) (h : Hd3) (l : List UInt8) (w : World) : Prop := w.cell? ⟨b, 2, none⟩ = some (.int .i64 (h.size : Int)) ∧ Bd B bb l w
set_option maxHeartbeats 2000000 in
set_option maxRecDepth 100000 in
theorem hread_good (B : Nat → Prop) (p : Nat) (d : Dk) (h : Hd3) (rows : List Ch) (w : World) (hd : DkO w B p d) (hdn : d.down = false) (hl : 166 ≤ d.now.length) (h1 : h.half ≤ 1) (h2 : h.size ≤ 2400) (hr : splitL ((halfT d.now h.half 50).take h.size) = some rows) :
    Calls Tryd.prog 28 #[hdV h, .pointer (some ⟨p, 0, none⟩)] w fun e w' => ∃ v, e = .returned (.tuple #[v, .nilIface]) ∧ w'.ownsRow w.heap.size 61 3 v rows.length (rows.flatMap chC) ∧ (∀ c ∈ rows, chkC c = 0) ∧ Below w.heap.size w w' := by
  have hok := hd.ok
  have hm := hok.most
  have B0 := Bx.new w (hdC h) 72
  have bl0 := (Below.refl w.heap.size w).alloc (Nat.le_refl _) (.cells (hdC h).toArray 72)
  have hBd0 := Bd.fresh (w.alloc (.cells (hdC h).toArray 72))
  rw [sz_alloc] at hBd0
  have bl1 := bl0.alloc (by simp) (.cells #[.pointer none, .slice none 0 0] 98)
  have B1 := B0.alloc (.cells #[.pointer none, .slice none 0 0] 98)
  have hat := at_any h ((w.alloc (.cells (hdC h).toArray 72)).alloc (.cells #[.pointer none, .slice none 0 0] 98)) h1
  have c0 := (B1.2 0 _ rfl).1
  have c1 := (B1.2 1 _ rfl).1
  have c2 := (B1.2 2 _ rfl).1
  go_enter Tryd.func28, Tryd.ntmps28
  go_wp2_with fail
  refine hat.mono ?_
  rintro e w1 ⟨rfl, hb1⟩
  replace hBd0 := hBd0.below hb1
  replace B1 := B1.below hb1
  replace bl1 := Below_after bl1 hb1
  clear hat c0 c1 c2 B0 bl0 hb1
  go_wp2_with fail
  go_loopw [7] (fun i wr => ∃ k : Nat, k ≤ 50 ∧ (k = 0 ∨ 48 * (k - 1) < h.size) ∧ i = .int .i64 ((1 + 50 * h.half + k : Nat) : Int) ∧ Bd (w.heap.size + 1) (w.heap.size + 1) (halfT d.now h.half k) wr ∧ Bx wr w.heap.size (hdC h) ∧ Below w.heap.size w wr) (fun i _ => 200 - (intOf i).toNat)
  case atStart => exact ⟨0, by omega, .inl rfl, rfl, hBd0, B1, bl1⟩
  case round =>
    obtain ⟨k, hk, hk2, rfl, hBd, hBx, bl⟩ := hrel
    have hc2 := (hBx.2 2 _ rfl).1
    have hzb := hBx.1
    have hdw := hd.below bl
    have hlen := halfT_len hok h.half k (by omega)
    have hSR : SR w.heap.size (w.heap.size + 1) (w.heap.size + 1) h (halfT d.now h.half k) wr.drew := ⟨(hBx.drew.2 2 _ rfl).1, hBd.below (below_drewN (Below.refl _ _) 1)⟩
    have hBdd := hBd.below (below_drewN (Below.refl wr.heap.size wr) 1)
    have hBxd := hBx.drew
    have bld : Below w.heap.size w wr.drew := Below.drew1 bl
    have hdd := hd.below bld
    clear hBd hBx bl hdw B1 bl1 hBd0
    go_wp2_with fail
    by_cases hlt : 48 * k < h.size
    · have hlt' : ((48 * k : Nat) : Int) < (h.size : Int) := by omega
      refine wp_region_held_drew (S := fun w' => SR w.heap.size (w.heap.size + 1) (w.heap.size + 1) h (halfT d.now h.half k) w') (by kernel_rfl) ?_ (fun hHeld => ?_)
      · exact hSR
      refine wpAnyH_take (i := 1) (oi := ({ dst := some 13, op := Op.fieldAddr 72 (Operand.tmp 2) 2, type := 0, pos := "lay.go:101", after := #[], guard := none } : Oper)) (v := .pointer (some ⟨w.heap.size, 2, none⟩)) rfl (by kernel_rfl) (by kernel_rfl) (by kernel_rfl) (fun _ _ _ h => h) (Or.inl ⟨by rfl, ?_⟩) (by assumption) ?_
      · intro w hSw; (try dsimp only at hSw); go_simp
      (try simp only [Act.put, List.setIfInBounds_toArray, List.set_cons_zero, List.set_cons_succ])
      refine wpAnyH_take (i := 2) (oi := ({ dst := some 14, op := Op.load 3 (Operand.tmp 13), type := 3, pos := "lay.go:101", after := #[{ on := 1, ground := Ground.data }], guard := none } : Oper)) (v := .int .i64 (h.size : Int)) rfl (by kernel_rfl) (by kernel_rfl) (by kernel_rfl) (fun _ _ _ h => h) (Or.inl ⟨by rfl, ?_⟩) (by assumption) ?_
      · intro w hSw; obtain ⟨s2, _⟩ := hSw; go_simp
      (try simp only [Act.put, List.setIfInBounds_toArray, List.set_cons_zero, List.set_cons_succ])
      refine wpAnyH_ready (rs := [0]) (by kernel_rfl) (by simp) ?_
      refine AllReadyH.cons (o := ({ dst := some 12, op := Op.call { callee := Callee.value (Operand.func 43), args := #[Operand.tmp 6], argTypes := #[98] }, type := 3, pos := "lay.go:101", after := #[], guard := none } : Oper)) rfl (fun K hK => ?_) AllReadyH.nil
      rw [if_pos (by rfl)]
      have hLn := bld_len (w.heap.size + 1) (w.heap.size + 1) _ _ hHeld.2
      rw [Lib.byteCells_length, hlen] at hLn
      go_wp2_with fail
      refine hLn.mono ?_
      rintro e w' ⟨rfl, rfl⟩
      refine hK.out _ _ ?_ (fun hHeld => ?_)
      · exact hHeld
      clear hK K
      (try simp only [Act.put, List.setIfInBounds_toArray, List.set_cons_zero, List.set_cons_succ])
      refine wpAnyH_take (i := 3) (oi := ({ dst := some 15, op := Op.binOp BinOp.lss 3 (Operand.tmp 12) (Operand.tmp 14) 3, type := 4, pos := "lay.go:101", after := #[{ on := 0, ground := Ground.data }, { on := 2, ground := Ground.data }], guard := none } : Oper)) (v := .bool true) rfl (by kernel_rfl) (by kernel_rfl) (by kernel_rfl) (fun _ _ _ h => h) (Or.inl ⟨by rfl, ?_⟩) (by assumption) ?_
      · intro w hSw; go_simp; (try omega)
      (try simp only [Act.put, List.setIfInBounds_toArray, List.set_cons_zero, List.set_cons_succ])
      refine wpAnyH_done (by kernel_rfl) ?_ _
      clear hSR
      have hkl : 1 + 50 * h.half + k < d.now.length := by omega
      have hrd := fun W (hW : DkO W B p d) => read_o B p d ((1 + 50 * h.half + k : Nat) : Int) W hW
      have hC : rdC d ((1 + 50 * h.half + k : Nat) : Int) = 0 := by simp [rdC, hdn, hasB2]; omega
      have hS : rdS d ((1 + 50 * h.half + k : Nat) : Int) = strOf d.now[1 + 50 * h.half + k] := by
        unfold rdS; rw [if_pos hC, Int.toNat_natCast, List.getD_eq_getElem?_getD, List.getElem?_eq_getElem hkl]; rfl
      simp only [hC, hS, errV_zero] at hrd
      have hs48 : (strOf d.now[1 + 50 * h.half + k]).size = 48 := by rw [str_size]; exact hok.nows _ (List.getElem_mem hkl)
      have HT : Hid (halfT d.now h.half (k + 1) = halfT d.now h.half k ++ (strOf d.now[1 + 50 * h.half + k]).data.toList) := by show _ = _; rw [str_data]; exact halfT_succ hkl
      generalize hsc : strOf d.now[1 + 50 * h.half + k] = sc at *
      generalize hTk : halfT d.now h.half k = Tk at *
      have hbw := fun W hW hB => bld_write (w.heap.size + 1) (w.heap.size + 1) Tk sc W hW (by omega) (by omega) hB
      have hrd' := hrd _ hdd
      clear hsc hC hS hrd hlen
      go_wp2_with fail
      refine hrd'.mono ?_
      rintro e w' ⟨rfl, rfl⟩
      have hbw' := hbw _ hBdd hBxd.1
      clear hrd' hbw
      go_wp2_with fail
      refine hbw'.mono ?_
      rintro e w3 ⟨rfl, hB3, hb3⟩
      go_wp2_with fail
      go_roundw
      case rel =>
        refine ⟨k + 1, by omega, .inr (by show 48 * k < h.size; exact hlt), by go_num, by rw [HT.out]; exact hB3, ⟨Nat.lt_of_lt_of_le hBxd.1 hb3.size, fun j u hj => ?_⟩, bld.trans (hb3.mono (by omega))⟩
        exact ⟨(hb3.cell (p := ⟨w.heap.size, j, none⟩) (by show w.heap.size < w.heap.size + 1; omega)).trans (hBxd.2 j u hj).1, (hb3.frozen (p := ⟨w.heap.size, j, none⟩) (by show w.heap.size < w.heap.size + 1; omega)).trans (hBxd.2 j u hj).2⟩
      case measure => simp [intOf]; omega
    · have hlt' : ¬ ((48 * k : Nat) : Int) < (h.size : Int) := by omega
      refine wp_region_held_drew (S := fun w' => SR w.heap.size (w.heap.size + 1) (w.heap.size + 1) h (halfT d.now h.half k) w') (by kernel_rfl) ?_ (fun hHeld => ?_)
      · exact hSR
      refine wpAnyH_take (i := 1) (oi := ({ dst := some 13, op := Op.fieldAddr 72 (Operand.tmp 2) 2, type := 0, pos := "lay.go:101", after := #[], guard := none } : Oper)) (v := .pointer (some ⟨w.heap.size, 2, none⟩)) rfl (by kernel_rfl) (by kernel_rfl) (by kernel_rfl) (fun _ _ _ h => h) (Or.inl ⟨by rfl, ?_⟩) (by assumption) ?_
      · intro w hSw; (try dsimp only at hSw); go_simp
      (try simp only [Act.put, List.setIfInBounds_toArray, List.set_cons_zero, List.set_cons_succ])
      refine wpAnyH_take (i := 2) (oi := ({ dst := some 14, op := Op.load 3 (Operand.tmp 13), type := 3, pos := "lay.go:101", after := #[{ on := 1, ground := Ground.data }], guard := none } : Oper)) (v := .int .i64 (h.size : Int)) rfl (by kernel_rfl) (by kernel_rfl) (by kernel_rfl) (fun _ _ _ h => h) (Or.inl ⟨by rfl, ?_⟩) (by assumption) ?_
      · intro w hSw; obtain ⟨s2, _⟩ := hSw; go_simp
      (try simp only [Act.put, List.setIfInBounds_toArray, List.set_cons_zero, List.set_cons_succ])
      refine wpAnyH_ready (rs := [0]) (by kernel_rfl) (by simp) ?_
      refine AllReadyH.cons (o := ({ dst := some 12, op := Op.call { callee := Callee.value (Operand.func 43), args := #[Operand.tmp 6], argTypes := #[98] }, type := 3, pos := "lay.go:101", after := #[], guard := none } : Oper)) rfl (fun K hK => ?_) AllReadyH.nil
      rw [if_pos (by rfl)]
      have hLn := bld_len (w.heap.size + 1) (w.heap.size + 1) _ _ hHeld.2
      rw [Lib.byteCells_length, hlen] at hLn
      go_wp2_with fail
      refine hLn.mono ?_
      rintro e w' ⟨rfl, rfl⟩
      refine hK.out _ _ ?_ (fun hHeld => ?_)
      · exact hHeld
      clear hK K
      (try simp only [Act.put, List.setIfInBounds_toArray, List.set_cons_zero, List.set_cons_succ])
      refine wpAnyH_take (i := 3) (oi := ({ dst := some 15, op := Op.binOp BinOp.lss 3 (Operand.tmp 12) (Operand.tmp 14) 3, type := 4, pos := "lay.go:101", after := #[{ on := 0, ground := Ground.data }, { on := 2, ground := Ground.data }], guard := none } : Oper)) (v := .bool false) rfl (by kernel_rfl) (by kernel_rfl) (by kernel_rfl) (fun _ _ _ h => h) (Or.inl ⟨by rfl, ?_⟩) (by assumption) ?_
      · intro w hSw; go_simp; (try omega)
      (try simp only [Act.put, List.setIfInBounds_toArray, List.set_cons_zero, List.set_cons_succ])
      refine wpAnyH_done (by kernel_rfl) ?_ _
      clear hSR
      have hst := fun W hW hB => bld_string (w.heap.size + 1) (w.heap.size + 1) (halfT d.now h.half k) W hW hB
      have hTl : (strOf (halfT d.now h.half k)).size = 48 * k := by rw [str_size, hlen]
      have hsp := fun W => split_good ((strOf (halfT d.now h.half k)).extract 0 h.size) rows W (by rw [ext_toList, str_data, List.drop_zero, Nat.sub_zero, ← halfT_pre hok h.half (by omega) hk (by omega)]; exact hr) (by rw [ByteArray.size_extract]; omega)
      change ∀ W, _ → _ → Calls Tryd.prog _ _ W (fun e w' => e = .returned (.string (strOf (halfT d.now h.half k))) ∧ _) at hst
      generalize hTs : strOf (halfT d.now h.half k) = ts at *
      have hS9 : wr.drew.drew.cell? ⟨w.heap.size, 2, none⟩ = some (.int .i64 (h.size : Int)) := (hBxd.drew.2 2 _ rfl).1
      have hB9 := hBdd.below (below_drewN (Below.refl wr.drew.heap.size wr.drew) 1)
      have bl9 := Below.drew1 bld
      go_wp2_with fail
      refine wp_region_held_drew (S := fun w' => w'.cell? ⟨w.heap.size, 2, none⟩ = some (.int .i64 (h.size : Int))) (by kernel_rfl) ?_ (fun hHeld => ?_)
      · exact hS9
      refine wpAnyH_take (i := 1) (oi := ({ dst := some 30, op := Op.fieldAddr 72 (Operand.tmp 2) 2, type := 0, pos := "lay.go:108", after := #[], guard := none } : Oper)) (v := .pointer (some ⟨w.heap.size, 2, none⟩)) rfl (by kernel_rfl) (by kernel_rfl) (by kernel_rfl) (fun _ _ _ h => h) (Or.inl ⟨by rfl, ?_⟩) (by assumption) ?_
      · intro w hSw; (try dsimp only at hSw); go_simp
      (try simp only [Act.put, List.setIfInBounds_toArray, List.set_cons_zero, List.set_cons_succ])
      refine wpAnyH_take (i := 2) (oi := ({ dst := some 31, op := Op.load 3 (Operand.tmp 30), type := 3, pos := "lay.go:108", after := #[{ on := 1, ground := Ground.data }], guard := none } : Oper)) (v := .int .i64 (h.size : Int)) rfl (by kernel_rfl) (by kernel_rfl) (by kernel_rfl) (fun _ _ _ h => h) (Or.inl ⟨by rfl, ?_⟩) (by assumption) ?_
      · intro w hSw; go_simp
      (try simp only [Act.put, List.setIfInBounds_toArray, List.set_cons_zero, List.set_cons_succ])
      refine wpAnyH_ready (rs := [0]) (by kernel_rfl) (by simp) ?_
      refine AllReadyH.cons (o := ({ dst := some 29, op := Op.call { callee := Callee.value (Operand.func 46), args := #[Operand.tmp 6], argTypes := #[98] }, type := 9, pos := "lay.go:108", after := #[], guard := none } : Oper)) rfl (fun K hK => ?_) AllReadyH.nil
      rw [if_pos (by rfl)]
      have hst' := hst _ hB9 hBxd.1
      go_wp2_with fail
      refine hst'.mono ?_
      rintro e w3 ⟨rfl, hb3⟩
      have hS3 : w3.cell? ⟨w.heap.size, 2, none⟩ = some (.int .i64 (h.size : Int)) := (hb3.cell (p := ⟨w.heap.size, 2, none⟩) (by show w.heap.size < w.heap.size + 1; omega)).trans hHeld
      refine hK.out _ _ ?_ (fun hHeld => ?_)
      · exact hS3
      clear hK K
      (try simp only [Act.put, List.setIfInBounds_toArray, List.set_cons_zero, List.set_cons_succ])
      refine wpAnyH_take (i := 3) (oi := ({ dst := some 32, op := Op.slice 9 (Operand.tmp 29) none (some (Operand.tmp 31)) none, type := 9, pos := "lay.go:108", after := #[{ on := 0, ground := Ground.data }, { on := 2, ground := Ground.data }], guard := none } : Oper)) (v := .string (ts.extract 0 h.size)) rfl (by kernel_rfl) (by kernel_rfl) (by kernel_rfl) (fun _ _ _ h => h) (Or.inl ⟨by rfl, ?_⟩) (by assumption) ?_
      · intro w hSw; go_simp; (try omega)
      (try simp only [Act.put, List.setIfInBounds_toArray, List.set_cons_zero, List.set_cons_succ])
      refine wpAnyH_ready (rs := [4]) (by kernel_rfl) (by simp) ?_
      refine AllReadyH.cons (o := ({ dst := some 33, op := Op.call { callee := Callee.value (Operand.func 45), args := #[Operand.tmp 32], argTypes := #[9] }, type := 75, pos := "lay.go:108", after := #[{ on := 3, ground := Ground.data }, { on := 0, ground := Ground.chain }], guard := none } : Oper)) rfl (fun K hK => ?_) AllReadyH.nil
      rw [if_pos (by rfl)]
      go_wp2_with fail
      refine (hsp _).mono ?_
      rintro e w4 ⟨v, rfl, ho, hck, hb4⟩
      have hS4 : w4.cell? ⟨w.heap.size, 2, none⟩ = some (.int .i64 (h.size : Int)) := (hb4.cell (p := ⟨w.heap.size, 2, none⟩) (Nat.lt_of_lt_of_le hBxd.1 hb3.size)).trans hHeld
      refine hK.out _ _ ?_ (fun hHeld => ?_)
      · exact hS4
      clear hK K
      (try simp only [Act.put, List.setIfInBounds_toArray, List.set_cons_zero, List.set_cons_succ])
      refine wpAnyH_take (i := 5) (oi := ({ dst := some 34, op := Op.extract (Operand.tmp 33) 0, type := 36, pos := "lay.go:108", after := #[{ on := 4, ground := Ground.data }], guard := none } : Oper)) (v := v) rfl (by kernel_rfl) (by kernel_rfl) (by kernel_rfl) (fun _ _ _ h => h) (Or.inl ⟨by rfl, ?_⟩) (by assumption) ?_
      · intro w hSw; (try dsimp only at hSw); go_simp
      (try simp only [Act.put, List.setIfInBounds_toArray, List.set_cons_zero, List.set_cons_succ])
      refine wpAnyH_take (i := 6) (oi := ({ dst := some 35, op := Op.extract (Operand.tmp 33) 1, type := 27, pos := "lay.go:108", after := #[{ on := 4, ground := Ground.data }], guard := none } : Oper)) (v := .nilIface) rfl (by kernel_rfl) (by kernel_rfl) (by kernel_rfl) (fun _ _ _ h => h) (Or.inl ⟨by rfl, ?_⟩) (by assumption) ?_
      · intro w hSw; (try dsimp only at hSw); go_simp
      (try simp only [Act.put, List.setIfInBounds_toArray, List.set_cons_zero, List.set_cons_succ])
      refine wpAnyH_take (i := 7) (oi := ({ dst := some 4, op := Op.assign (Operand.tmp 34), type := 36, pos := "lay.go:108", after := #[{ on := 5, ground := Ground.data }, { on := 4, ground := Ground.chain }, { on := 0, ground := Ground.phase }, { on := 1, ground := Ground.phase }, { on := 2, ground := Ground.phase }, { on := 3, ground := Ground.phase }, { on := 4, ground := Ground.phase }, { on := 5, ground := Ground.phase }, { on := 6, ground := Ground.phase }], guard := none } : Oper)) (v := v) rfl (by kernel_rfl) (by kernel_rfl) (by kernel_rfl) (fun _ _ _ h => h) (Or.inl ⟨by rfl, ?_⟩) (by assumption) ?_
      · intro w hSw; (try dsimp only at hSw); go_simp
      (try simp only [Act.put, List.setIfInBounds_toArray, List.set_cons_zero, List.set_cons_succ])
      refine wpAnyH_take (i := 8) (oi := ({ dst := some 5, op := Op.assign (Operand.tmp 35), type := 27, pos := "lay.go:108", after := #[{ on := 6, ground := Ground.data }, { on := 7, ground := Ground.chain }, { on := 0, ground := Ground.phase }, { on := 1, ground := Ground.phase }, { on := 2, ground := Ground.phase }, { on := 3, ground := Ground.phase }, { on := 4, ground := Ground.phase }, { on := 5, ground := Ground.phase }, { on := 6, ground := Ground.phase }, { on := 7, ground := Ground.phase }], guard := none } : Oper)) (v := .nilIface) rfl (by kernel_rfl) (by kernel_rfl) (by kernel_rfl) (fun _ _ _ h => h) (Or.inl ⟨by rfl, ?_⟩) (by assumption) ?_
      · intro w hSw; (try dsimp only at hSw); go_simp
      (try simp only [Act.put, List.setIfInBounds_toArray, List.set_cons_zero, List.set_cons_succ])
      refine wpAnyH_done (by kernel_rfl) ?_ _
      go_wp2_with fail
      go_ret2
      exact ⟨v, rfl, ownsRow_mono ho (Nat.le_trans bl9.size hb3.size), hck, (bl9.trans (hb3.mono (by omega))).trans (hb4.mono (Nat.le_trans bl9.size hb3.size))⟩
end Go.Proofs.YtikkakdeapbioaaDoor
