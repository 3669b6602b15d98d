/- Package row: Parse, as the landed code has it. -/
import Derived.Test.YtikkakdeapbioaaDoorRowW
set_option linter.unusedVariables false
set_option linter.unusedSimpArgs false
set_option linter.unnecessarySimpa false
namespace Go.Proofs.YtikkakdeapbioaaDoor
open Go.RowKit

def ch0 : Ch := ⟨⟨#[]⟩, ⟨#[]⟩, false⟩
def prR (s : ByteArray) : Ch := (chP s.data.toList).getD ch0
def prC (s : ByteArray) : Int := if (chP s.data.toList).isSome then 0 else 4
theorem pr_no {s : ByteArray} (h : ¬ (chGood s.data.toList = true ∧ chkC (chOf s.data.toList) = 0)) : prR s = ch0 ∧ prC s = 4 := by
  unfold prR prC chP; rw [if_neg h]; exact ⟨rfl, rfl⟩
theorem pr_yes {s : ByteArray} (h : chGood s.data.toList = true ∧ chkC (chOf s.data.toList) = 0) : prR s = chOf s.data.toList ∧ prC s = 0 := by
  unfold prR prC chP; rw [if_pos h]; exact ⟨rfl, rfl⟩
theorem pr_bad {s : ByteArray} (h : chGood s.data.toList = false) : prR s = ch0 ∧ prC s = 4 := pr_no (by rw [h]; simp)
theorem ext_toList (s : ByteArray) (a b : Nat) : (s.extract a b).data.toList = (s.data.toList.drop a).take (b - a) := by
  rw [ByteArray.data_extract, Array.toList_extract, List.extract_eq_take_drop]
theorem u8_one (a : UInt8) : ((a.toNat : Int) = 1) ↔ a = 1 := by
  constructor
  · intro h
    apply UInt8.toNat_inj.1
    have : a.toNat = 1 := by omega
    simpa using this
  · intro h; rw [h]; rfl
theorem s_getD (s : ByteArray) (k : Nat) (h : k < s.size) : s.data.toList.getD k 0 = s[k] := by
  have : k < s.data.toList.length := by simpa using h
  rw [List.getD_eq_getElem?_getD, List.getElem?_eq_getElem this]; rfl
set_option maxHeartbeats 1000000 in
set_option maxRecDepth 100000 in
theorem rparse_bad (s : ByteArray) (w : World) (hm : s.size ≤ maxLen) (hg : chGood s.data.toList = false) :
    Calls Tryd.prog 66 #[.string s] w fun e w' => e = .returned (.tuple #[.agg #[.string ⟨#[]⟩, .string ⟨#[]⟩, .bool false], .iface 63 (.int .i64 4)]) ∧ Below w.heap.size w w' := by
  unfold maxLen at hm
  have bl := ((Below.refl w.heap.size w).alloc (Nat.le_refl _) (.cells #[.string ⟨#[]⟩, .string ⟨#[]⟩, .bool false] 61))
  have B := Bx.new w [.string ⟨#[]⟩, .string ⟨#[]⟩, .bool false] 61
  have hl : s.data.toList.length = s.size := by simp
  unfold chGood at hg
  rw [hl] at hg
  by_cases h2 : s.size < 2
  · have d2 : decide ((s.size : Int) < 2) = true := decide_eq_true (by omega)
    clear hg
    go_enter Tryd.func66, Tryd.ntmps66
    go_wp2_with fail
    exact bodyPost_ret (v := .tuple #[.agg #[.string ⟨#[]⟩, .string ⟨#[]⟩, .bool false], .iface 63 (.int .i64 4)]) (by simp [results, Tryd.results66, go_sem]) rfl ⟨rfl, by first | exact bl | (simp; exact bl)⟩
  · have d2 : decide ((s.size : Int) < 2) = false := decide_eq_false (by omega)
    rw [s_getD s 0 (by omega), s_getD s 1 (by omega)] at hg
    have u0 := s[0].toNat_lt
    have u1 := s[1].toNat_lt
    simp only [Bool.and_eq_false_iff, decide_eq_false_iff_not] at hg
    by_cases h3 : s[0].toNat ≤ 1
    · have d3 : decide ((1 : Int) < (s[0].toNat : Int)) = false := decide_eq_false (by omega)
      have h5 : (s.size : Int) < 2 + (s[1].toNat : Int) := by omega
      have i0 : (0 : Nat) < s.size := by omega
      have i1 : (1 : Nat) < s.size := by omega
      clear hg
      go_enter Tryd.func66, Tryd.ntmps66
      go_wp2_with fail
      exact bodyPost_ret (v := .tuple #[.agg #[.string ⟨#[]⟩, .string ⟨#[]⟩, .bool false], .iface 63 (.int .i64 4)]) (by simp [results, Tryd.results66, go_sem]) rfl ⟨rfl, by first | exact bl | (simp; exact bl)⟩
    · have d3 : decide ((1 : Int) < (s[0].toNat : Int)) = true := decide_eq_true (by omega)
      have i0 : (0 : Nat) < s.size := by omega
      clear hg
      go_enter Tryd.func66, Tryd.ntmps66
      go_wp2_with fail
      exact bodyPost_ret (v := .tuple #[.agg #[.string ⟨#[]⟩, .string ⟨#[]⟩, .bool false], .iface 63 (.int .i64 4)]) (by simp [results, Tryd.results66, go_sem]) rfl ⟨rfl, by first | exact bl | (simp; exact bl)⟩
set_option maxHeartbeats 1000000 in
set_option maxRecDepth 100000 in
theorem rparse_good (s : ByteArray) (w : World) (hm : s.size ≤ maxLen) (hg : chGood s.data.toList = true) :
    Calls Tryd.prog 66 #[.string s] w fun e w' => e = .returned (.tuple #[.agg #[.string (prR s).key, .string (prR s).val, .bool (prR s).gone], errV (prC s)]) ∧ Below w.heap.size w w' := by
  unfold maxLen at hm
  have bl := ((Below.refl w.heap.size w).alloc (Nat.le_refl _) (.cells #[.string ⟨#[]⟩, .string ⟨#[]⟩, .bool false] 61))
  have B := Bx.new w [.string ⟨#[]⟩, .string ⟨#[]⟩, .bool false] 61
  have hl : s.data.toList.length = s.size := by simp
  have HG : Hid (chGood s.data.toList = true) := hg
  unfold chGood at hg
  rw [hl] at hg
  simp only [Bool.and_eq_true, decide_eq_true_eq] at hg
  obtain ⟨⟨h2, h3⟩, h4⟩ := hg
  rw [s_getD s 0 (by omega)] at h3
  rw [s_getD s 1 (by omega)] at h4
  have u0 := s[0].toNat_lt
  have u1 := s[1].toNat_lt
  have i0 : (0 : Nat) < s.size := by omega
  have i1 : (1 : Nat) < s.size := by omega
  have d2 : decide ((s.size : Int) < 2) = false := decide_eq_false (by omega)
  have d3 : decide ((1 : Int) < (s[0].toNat : Int)) = false := decide_eq_false (by omega)
  have d4 : decide ((s.size : Int) < 2 + (s[1].toNat : Int)) = false := decide_eq_false (by omega)
  go_enter Tryd.func66, Tryd.ntmps66
  have p0 : (0 : Int) ≤ 2 + (s[1].toNat : Int) := by omega
  have p1 : (2 : Int) ≤ 2 + (s[1].toNat : Int) := by omega
  have p2 : ((2 : Int) + (s[1].toNat : Int)).toNat = 2 + s[1].toNat := by omega
  have p3 : (2 : Int) + (s[1].toNat : Int) ≤ (s.size : Int) := by omega
  have hK : chOf s.data.toList = ⟨s.extract 2 (2 + s[1].toNat), s.extract (2 + s[1].toNat) s.size, s[0] == 1⟩ := by
    unfold chOf
    rw [s_getD s 0 (by omega), s_getD s 1 (by omega)]
    congr 1
    · rw [← str_of (s.extract 2 (2 + s[1].toNat)), ext_toList, Nat.add_sub_cancel_left]
    · rw [← str_of (s.extract (2 + s[1].toNat) s.size), ext_toList, List.take_of_length_le (by simp)]
  have hgb : ((s[0].toNat : Int) == 1) = (s[0] == 1) := by
    rw [Bool.eq_iff_iff]
    simp only [beq_iff_eq]
    exact u8_one _
  have hks : (s.extract 2 (2 + s[1].toNat)).size ≤ maxLen := by simp [maxLen]; omega
  have hvs : (s.extract (2 + s[1].toNat) s.size).size ≤ maxLen := by simp [maxLen]; omega
  have hcon := fun W => check_any (chOf s.data.toList) W (by rw [hK]; exact hks) (by rw [hK]; exact hvs)
  have HP : Hid (prC s = (if chkC (chOf s.data.toList) = 0 then 0 else 4) ∧ (chkC (chOf s.data.toList) = 0 → prR s = chOf s.data.toList) ∧ (chkC (chOf s.data.toList) ≠ 0 → prR s = ch0)) := by
    refine ⟨?_, fun h => (pr_yes ⟨HG.out, h⟩).1, fun h => (pr_no (fun hh => h hh.2)).1⟩
    by_cases h : chkC (chOf s.data.toList) = 0
    · rw [if_pos h]; exact (pr_yes ⟨HG.out, h⟩).2
    · rw [if_neg h]; exact (pr_no (fun hh => h hh.2)).2
  rw [hK] at hcon HP
  generalize hk : s.extract 2 (2 + s[1].toNat) = kk at *
  generalize hv : s.extract (2 + s[1].toNat) s.size = vv at *
  clear hks hvs hK HG
  go_wp2_with fail
  refine wp_region_held_drew (S := fun w' => True) (by kernel_rfl) ?_ (fun hHeld => ?_)
  · exact trivial
  refine wpAnyH_take (i := 0) (oi := ({ dst := some 29, op := Op.move (Operand.tmp 0), type := 9, pos := "row.go:40", after := #[], guard := none } : Oper)) (v := .string s) rfl (by kernel_rfl) (by kernel_rfl) (by kernel_rfl) (fun _ _ _ h => h) (Or.inl ⟨by rfl, ?_⟩) (by assumption) ?_
  · intro w hSw; (try dsimp only at hSw); go_simp
  (try simp only [Act.put, List.setIfInBounds_toArray, List.set_cons_zero, List.set_cons_succ])
  refine wpAnyH_take (i := 1) (oi := ({ dst := some 30, op := Op.move (Operand.tmp 4), type := 3, pos := "row.go:40", after := #[], guard := none } : Oper)) (v := .int .i64 ((2 : Int) + (s[1].toNat : Int))) rfl (by kernel_rfl) (by kernel_rfl) (by kernel_rfl) (fun _ _ _ h => h) (Or.inl ⟨by rfl, ?_⟩) (by assumption) ?_
  · intro w hSw; (try dsimp only at hSw); go_simp
  (try simp only [Act.put, List.setIfInBounds_toArray, List.set_cons_zero, List.set_cons_succ])
  refine wpAnyH_take (i := 2) (oi := ({ dst := some 31, op := Op.slice 9 (Operand.tmp 29) (some (Operand.const (Value.int IntKind.i64 2))) (some (Operand.tmp 30)) none, type := 9, pos := "row.go:40", after := #[{ on := 0, ground := Ground.data }, { on := 1, ground := Ground.data }], guard := none } : Oper)) (v := .string kk) rfl (by kernel_rfl) (by kernel_rfl) (by kernel_rfl) (fun _ _ _ h => h) (Or.inl ⟨by rfl, ?_⟩) (by assumption) ?_
  · intro w hSw; go_simp; rw [if_pos (by omega), if_pos (by omega)]
  (try simp only [Act.put, List.setIfInBounds_toArray, List.set_cons_zero, List.set_cons_succ])
  refine wpAnyH_take (i := 3) (oi := ({ dst := some 32, op := Op.move (Operand.tmp 0), type := 9, pos := "row.go:40", after := #[], guard := none } : Oper)) (v := .string s) rfl (by kernel_rfl) (by kernel_rfl) (by kernel_rfl) (fun _ _ _ h => h) (Or.inl ⟨by rfl, ?_⟩) (by assumption) ?_
  · intro w hSw; (try dsimp only at hSw); go_simp
  (try simp only [Act.put, List.setIfInBounds_toArray, List.set_cons_zero, List.set_cons_succ])
  refine wpAnyH_take (i := 4) (oi := ({ dst := some 33, op := Op.move (Operand.tmp 4), type := 3, pos := "row.go:40", after := #[], guard := none } : Oper)) (v := .int .i64 ((2 : Int) + (s[1].toNat : Int))) rfl (by kernel_rfl) (by kernel_rfl) (by kernel_rfl) (fun _ _ _ h => h) (Or.inl ⟨by rfl, ?_⟩) (by assumption) ?_
  · intro w hSw; (try dsimp only at hSw); go_simp
  (try simp only [Act.put, List.setIfInBounds_toArray, List.set_cons_zero, List.set_cons_succ])
  refine wpAnyH_take (i := 5) (oi := ({ dst := some 34, op := Op.slice 9 (Operand.tmp 32) (some (Operand.tmp 33)) none none, type := 9, pos := "row.go:40", after := #[{ on := 3, ground := Ground.data }, { on := 4, ground := Ground.data }], guard := none } : Oper)) (v := .string vv) rfl (by kernel_rfl) (by kernel_rfl) (by kernel_rfl) (fun _ _ _ h => h) (Or.inl ⟨by rfl, ?_⟩) (by assumption) ?_
  · intro w hSw; go_simp; intro hneg; exfalso; omega
  (try simp only [Act.put, List.setIfInBounds_toArray, List.set_cons_zero, List.set_cons_succ])
  refine wpAnyH_take (i := 6) (oi := ({ dst := some 35, op := Op.move (Operand.tmp 0), type := 9, pos := "row.go:40", after := #[], guard := none } : Oper)) (v := .string s) rfl (by kernel_rfl) (by kernel_rfl) (by kernel_rfl) (fun _ _ _ h => h) (Or.inl ⟨by rfl, ?_⟩) (by assumption) ?_
  · intro w hSw; (try dsimp only at hSw); go_simp
  (try simp only [Act.put, List.setIfInBounds_toArray, List.set_cons_zero, List.set_cons_succ])
  refine wpAnyH_take (i := 7) (oi := ({ dst := some 36, op := Op.index 9 (Operand.tmp 35) (Operand.const (Value.int IntKind.i64 0)), type := 5, pos := "row.go:40", after := #[{ on := 6, ground := Ground.data }], guard := none } : Oper)) (v := .int .u8 (s[0].toNat : Int)) rfl (by kernel_rfl) (by kernel_rfl) (by kernel_rfl) (fun _ _ _ h => h) (Or.inl ⟨by rfl, ?_⟩) (by assumption) ?_
  · intro w hSw; (try dsimp only at hSw); go_simp
  (try simp only [Act.put, List.setIfInBounds_toArray, List.set_cons_zero, List.set_cons_succ])
  refine wpAnyH_take (i := 8) (oi := ({ dst := some 37, op := Op.binOp BinOp.eql 5 (Operand.tmp 36) (Operand.const (Value.int IntKind.u8 1)) 5, type := 4, pos := "row.go:40", after := #[{ on := 7, ground := Ground.data }], guard := none } : Oper)) (v := .bool (s[0] == 1)) rfl (by kernel_rfl) (by kernel_rfl) (by kernel_rfl) (fun _ _ _ h => h) (Or.inl ⟨by rfl, ?_⟩) (by assumption) ?_
  · intro w hSw; (try dsimp only at hSw); go_simp
  (try simp only [Act.put, List.setIfInBounds_toArray, List.set_cons_zero, List.set_cons_succ])
  refine wpAnyH_take (i := 9) (oi := ({ dst := some 38, op := Op.build 61 #[(0, Operand.tmp 31), (1, Operand.tmp 34), (2, Operand.tmp 37)], type := 61, pos := "row.go:40", after := #[{ on := 2, ground := Ground.data }, { on := 5, ground := Ground.data }, { on := 8, ground := Ground.data }], guard := none } : Oper)) (v := .agg #[.string kk, .string vv, .bool (s[0] == 1)]) rfl (by kernel_rfl) (by kernel_rfl) (by kernel_rfl) (fun _ _ _ h => h) (Or.inl ⟨by rfl, ?_⟩) (by assumption) ?_
  · intro w hSw; (try dsimp only at hSw); go_simp
  (try simp only [Act.put, List.setIfInBounds_toArray, List.set_cons_zero, List.set_cons_succ])
  refine wpAnyH_ready (rs := [10]) (by kernel_rfl) (by simp) ?_
  refine AllReadyH.cons (o := ({ dst := some 5, op := Op.alloc 61, type := 0, pos := "row.go:40", after := #[], guard := none } : Oper)) rfl (fun K hK => ?_) AllReadyH.nil
  rw [if_pos (by rfl)]
  go_wp2_with fail
  refine hK.out _ _ ?_ (fun hHeld => ?_)
  · exact trivial
  clear hK K
  (try simp only [Act.put, List.setIfInBounds_toArray, List.set_cons_zero, List.set_cons_succ])
  refine wpAnyH_ready (rs := [11]) (by kernel_rfl) (by simp) ?_
  refine AllReadyH.cons (o := ({ dst := none, op := Op.store 61 (Operand.tmp 5) (Operand.tmp 38), type := 0, pos := "row.go:40", after := #[{ on := 10, ground := Ground.data }, { on := 9, ground := Ground.data }, { on := 0, ground := Ground.phase }, { on := 1, ground := Ground.phase }, { on := 2, ground := Ground.phase }, { on := 3, ground := Ground.phase }, { on := 4, ground := Ground.phase }, { on := 5, ground := Ground.phase }, { on := 6, ground := Ground.phase }, { on := 7, ground := Ground.phase }, { on := 8, ground := Ground.phase }, { on := 9, ground := Ground.phase }, { on := 10, ground := Ground.phase }], guard := none } : Oper)) rfl (fun K hK => ?_) AllReadyH.nil
  rw [if_pos (by rfl)]
  go_wp2_with fail
  refine hK.out _ _ ?_ (fun hHeld => ?_)
  · exact trivial
  clear hK K
  (try simp only [Act.put, List.setIfInBounds_toArray, List.set_cons_zero, List.set_cons_succ])
  refine wpAnyH_done (by kernel_rfl) ?_ _
  have hcon := hcon ((w.alloc (.cells #[.string ⟨#[]⟩, .string ⟨#[]⟩, .bool false] 61)).alloc (.cells #[.string kk, .string vv, .bool (s[0] == 1)] 61)).drew
  have B2 := (Bx.new (w.alloc (.cells #[.string ⟨#[]⟩, .string ⟨#[]⟩, .bool false] 61)) [.string kk, .string vv, .bool (s[0] == 1)] 61).below (below_drewN (Below.refl _ _) 1)
  rw [sz_alloc] at B2
  have B1 := ((B.alloc (.cells #[.string kk, .string vv, .bool (s[0] == 1)] 61)).below (below_drewN (Below.refl _ _) 1))
  have bl2 : Below w.heap.size w _ := below_drewN (bl.alloc bl.size (.cells #[.string kk, .string vv, .bool (s[0] == 1)] 61)) 1
  clear B bl
  generalize ((w.alloc (.cells #[.string ⟨#[]⟩, .string ⟨#[]⟩, .bool false] 61)).alloc (.cells #[.string kk, .string vv, .bool (s[0] == 1)] 61)) = W2 at *
  change Bx W2.drew _ _ at B1
  change Bx W2.drew _ _ at B2
  change Below _ _ W2.drew at bl2
  generalize W2.drew = w2 at *
  have b0 := (B2.2 0 _ rfl).1
  have b1 := (B2.2 1 _ rfl).1
  have b2 := (B2.2 2 _ rfl).1
  have zb := B2.1
  clear p0 p1 p2 p3 d2 d3 d4 hgb
  by_cases h0 : chkC ⟨kk, vv, s[0] == 1⟩ = 0
  · have hR := HP.out.2.1 h0
    have hC := HP.out.1
    rw [if_pos h0] at hC
    rw [h0, errV_zero] at hcon
    have HR : Hid (prR s = _) := hR
    have HC : Hid (prC s = 0) := hC
    clear HP hR hC h0
    (try dsimp only at hcon)
    generalize (s[0] == 1) = gg at *
    go_wp2_with fail
    refine hcon.mono ?_
    rintro e w3 ⟨rfl, hb3⟩
    replace B1 := B1.below hb3
    replace B2 := B2.below hb3
    have a0 := (B1.2 0 _ rfl).1
    have a1 := (B1.2 1 _ rfl).1
    have a2 := (B1.2 2 _ rfl).1
    have f0 := (B1.2 0 _ rfl).2
    have f1 := (B1.2 1 _ rfl).2
    have f2 := (B1.2 2 _ rfl).2
    have e0 := (B2.2 0 _ rfl).1
    have e1 := (B2.2 1 _ rfl).1
    have e2 := (B2.2 2 _ rfl).1
    have zc := B2.1
    have za := B1.1
    have bl3 := Below_after bl2 hb3
    clear hcon b0 b1 b2 zb
    go_wp2_with fail
    have B4 := ((B1.set 0 (.string kk)).set 1 (.string vv)).set 2 (.bool gg)
    have k0 := (B4.2 0 _ rfl).1
    have k1 := (B4.2 1 _ rfl).1
    have k2 := (B4.2 2 _ rfl).1
    exact bodyPost_ret (v := .tuple #[.agg #[.string kk, .string vv, .bool gg], .nilIface]) (by simp [results, Tryd.results66, go_sem, k0, k1, k2]) rfl ⟨by rw [HR.out, HC.out]; rfl, ((bl3.setCell (p := ⟨w.heap.size, 0, none⟩) (Nat.le_refl _) _).setCell (p := ⟨w.heap.size, 1, none⟩) (Nat.le_refl _) _).setCell (p := ⟨w.heap.size, 2, none⟩) (Nat.le_refl _) _⟩
  · have hR := HP.out.2.2 h0
    have hC := HP.out.1
    rw [if_neg h0] at hC
    rw [errV_pos h0] at hcon
    have HR : Hid (prR s = _) := hR
    have HC : Hid (prC s = 4) := hC
    clear HP hR hC
    generalize chkC ⟨kk, vv, s[0] == 1⟩ = cc at *
    (try dsimp only at hcon)
    generalize (s[0] == 1) = gg at *
    go_wp2_with fail
    refine hcon.mono ?_
    rintro e w3 ⟨rfl, hb3⟩
    replace B1 := B1.below hb3
    have a0 := (B1.2 0 _ rfl).1
    have a1 := (B1.2 1 _ rfl).1
    have a2 := (B1.2 2 _ rfl).1
    have f0 := (B1.2 0 _ rfl).2
    have f1 := (B1.2 1 _ rfl).2
    have f2 := (B1.2 2 _ rfl).2
    have za := B1.1
    have bl3 := Below_after bl2 hb3
    clear hcon b0 b1 b2 zb
    go_wp2_with fail
    have B4 := ((B1.set 0 (.string ⟨#[]⟩)).set 1 (.string ⟨#[]⟩)).set 2 (.bool false)
    have k0 := (B4.2 0 _ rfl).1
    have k1 := (B4.2 1 _ rfl).1
    have k2 := (B4.2 2 _ rfl).1
    exact bodyPost_ret (v := .tuple #[.agg #[.string ⟨#[]⟩, .string ⟨#[]⟩, .bool false], .iface 63 (.int .i64 4)]) (by simp [results, Tryd.results66, go_sem, k0, k1, k2]) rfl ⟨by rw [HR.out, HC.out]; rfl, ((bl3.setCell (p := ⟨w.heap.size, 0, none⟩) (Nat.le_refl _) _).setCell (p := ⟨w.heap.size, 1, none⟩) (Nat.le_refl _) _).setCell (p := ⟨w.heap.size, 2, none⟩) (Nat.le_refl _) _⟩
theorem rparse_any (s : ByteArray) (w : World) (hm : s.size ≤ maxLen) :
    Calls Tryd.prog 66 #[.string s] w fun e w' => e = .returned (.tuple #[.agg #[.string (prR s).key, .string (prR s).val, .bool (prR s).gone], errV (prC s)]) ∧ Below w.heap.size w w' := by
  cases hg : chGood s.data.toList
  · rw [(pr_bad hg).1, (pr_bad hg).2]; exact rparse_bad s w hm hg
  · exact rparse_good s w hm hg
end Go.Proofs.YtikkakdeapbioaaDoor
