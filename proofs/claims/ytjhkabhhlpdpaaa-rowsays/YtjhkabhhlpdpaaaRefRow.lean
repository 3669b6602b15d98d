/- writkeepref: ChangeFault, ChangeBytes, ChangeOf: the document's own, of the shape of row's. -/
import Derived.Test.YtjhkabhhlpdpaaaRowP
import Derived.Laws.Closers25b
set_option linter.unusedVariables false
set_option linter.unusedSimpArgs false
set_option linter.unnecessarySimpa false
namespace Go.Proofs.Ytjhkabhhlpdpaaa
open Go.RowKit

theorem chk_pos {c : Ch} (h : chkC c ≠ 0) : 0 < chkC c := by
  unfold chkC at h ⊢
  split
  · decide
  · split
    · decide
    · rename_i h1 h2; rw [if_neg h1, if_neg h2] at h; exact absurd rfl h
set_option maxHeartbeats 1000000 in
set_option maxRecDepth 100000 in
theorem rfault_any (c : Ch) (w : World) (h1 : c.key.size ≤ maxLen) (h2 : c.val.size ≤ maxLen) :
    Calls Try.prog 31 #[.agg #[.string c.key, .string c.val, .bool c.gone]] w fun e w' => e = .returned (.int .i64 (chkC c)) ∧ Below w.heap.size w w' := by
  unfold maxLen at h1 h2
  have bl := (Below.refl w.heap.size w).alloc (Nat.le_refl _) (.cells #[.string c.key, .string c.val, .bool c.gone] 56)
  obtain ⟨key, val, gone⟩ := c
  dsimp only at h1 h2 bl ⊢
  cases gone
  all_goals
    go_enter Try.func31, Try.ntmps31
    go_wp2_with fail
    all_goals
      go_ret
      simp only [e_nil, e_emp, Bool.not_eq_true', Bool.not_eq_false', decide_eq_false_iff_not, decide_eq_true_eq] at *
      first
        | exact ⟨by rw [chk3 (by simp only [Bool.false_eq_true, reduceCtorEq, false_and, or_false, true_and] <;> omega)]; rfl, bl⟩
        | exact ⟨by rw [chk2 (by simp only [Bool.false_eq_true, reduceCtorEq, false_and, or_false, true_and] <;> omega) (by simp only [Bool.false_eq_true, reduceCtorEq, false_and, or_false, true_and] <;> omega)]; rfl, bl⟩
        | exact ⟨by rw [chk0 (by simp only [Bool.false_eq_true, reduceCtorEq, false_and, or_false, true_and] <;> omega) (by simp only [Bool.false_eq_true, reduceCtorEq, false_and, or_false, true_and] <;> omega)]; rfl, bl⟩
set_option maxHeartbeats 1000000 in
set_option maxRecDepth 100000 in
theorem rfbytes_any (c : Ch) (w : World) (h1 : c.key.size ≤ maxLen) (h2 : c.val.size ≤ maxLen) :
    Calls Try.prog 27 #[.agg #[.string c.key, .string c.val, .bool c.gone]] w fun e w' => e = .returned (.tuple #[.string (if chkC c = 0 then chB c else ⟨#[]⟩), .int .i64 (chkC c)]) ∧ Below w.heap.size w w' := by
  have bl := (Below.refl w.heap.size w).alloc (Nat.le_refl _) (.cells #[.string c.key, .string c.val, .bool c.gone] 56)
  have hcon := rfault_any c (w.alloc (.cells #[.string c.key, .string c.val, .bool c.gone] 56)) h1 h2
  unfold maxLen at h1 h2
  have B := Bx.new w [.string c.key, .string c.val, .bool c.gone] 56
  by_cases h0 : chkC c = 0
  · rw [h0] at hcon ⊢
    have hk := chk_zero h0
    rw [if_pos rfl, ← chB_eq]
    clear h0
    obtain ⟨key, val, gone⟩ := c
    dsimp only at h1 h2 bl hcon hk B ⊢
    have hks : (key.size : Int) % 256 = (key.size : Int) := by omega
    have hu : ((UInt8.ofNat key.size).toNat : Int) = (key.size : Int) := by simp; omega
    go_enter Try.func27, Try.ntmps27
    go_wp2_with fail
    refine hcon.mono ?_
    rintro e w1 ⟨rfl, hb⟩
    have bl1 := Below_after bl hb
    have B1 := B.below hb
    have c0 := (B1.2 0 _ rfl).1
    have c1 := (B1.2 1 _ rfl).1
    have c2 := (B1.2 2 _ rfl).1
    have z1 := B1.1
    clear hcon B hb bl
    have hcv : ∀ g : UInt8, (convert 96 9 (.slice (some ⟨w1.heap.size, 0, none⟩) 2 2)).run Try.prog (w1.alloc (.cells #[.int .u8 (g.toNat : Int), .int .u8 (key.size : Int)] 5)) = .ok (.string (strOf [g, UInt8.ofNat key.size])) (w1.alloc (.cells #[.int .u8 (g.toNat : Int), .int .u8 (key.size : Int)] 5)) := fun g => by
      have hB : BysAt (w1.alloc (.cells #[.int .u8 (g.toNat : Int), .int .u8 (key.size : Int)] 5)) w1.heap.size [g, UInt8.ofNat key.size] := by
        unfold BysAt
        rw [heap_alloc_last]
        simp only [secV, List.map_cons, List.map_nil, hu]
      exact run_secString _ w1.heap.size 0 [g, UInt8.ofNat key.size] 2 2 rfl hB.range
    cases gone
    · have hv := hcv 0
      simp only [show ((0 : UInt8).toNat : Int) = 0 from rfl] at hv
      have hs2 : (strOf [0, UInt8.ofNat key.size]).size = 2 := str_size _
      have hs3 : (strOf [0, UInt8.ofNat key.size] ++ key).size = 2 + key.size := by rw [ByteArray.size_append, hs2]
      clear hcv
      go_wp2_with fail
      go_ret2
      exact ⟨rfl, bl1.alloc bl1.size _⟩
    · have hv := hcv 1
      simp only [show ((1 : UInt8).toNat : Int) = 1 from rfl] at hv
      have hs2 : (strOf [1, UInt8.ofNat key.size]).size = 2 := str_size _
      have hs3 : (strOf [1, UInt8.ofNat key.size] ++ key).size = 2 + key.size := by rw [ByteArray.size_append, hs2]
      clear hcv
      go_wp2_with fail
      go_ret2
      exact ⟨rfl, bl1.alloc bl1.size _⟩
  · rw [if_neg h0]
    have hpos : 0 < chkC c := chk_pos h0
    generalize chkC c = cc at *
    have dpos : decide (0 < cc) = true := decide_eq_true hpos
    clear h0
    go_enter Try.func27, Try.ntmps27
    go_wp2_with fail
    refine hcon.mono ?_
    rintro e w1 ⟨rfl, hb⟩
    have bl1 := Below_after bl hb
    go_wp2_with fail
    go_ret2
    exact ⟨rfl, bl1⟩
set_option maxHeartbeats 1000000 in
set_option maxRecDepth 100000 in
theorem rfparse_bad (s : ByteArray) (w : World) (hm : s.size ≤ maxLen) (hg : chGood s.data.toList = false) :
    Calls Try.prog 29 #[.string s] w fun e w' => e = .returned (.tuple #[.agg #[.string ⟨#[]⟩, .string ⟨#[]⟩, .bool false], .int .i64 4]) ∧ Below w.heap.size w w' := by
  unfold maxLen at hm
  have bl := ((Below.refl w.heap.size w).alloc (Nat.le_refl _) (.cells #[.string ⟨#[]⟩, .string ⟨#[]⟩, .bool false] 56))
  have B := Bx.new w [.string ⟨#[]⟩, .string ⟨#[]⟩, .bool false] 56
  have hl : s.data.toList.length = s.size := by simp
  unfold chGood at hg
  rw [hl] at hg
  by_cases h2 : s.size < 2
  · have d2 : decide ((s.size : Int) < 2) = true := decide_eq_true (by omega)
    clear hg
    go_enter Try.func29, Try.ntmps29
    go_wp2_with fail
    exact bodyPost_ret (v := .tuple #[.agg #[.string ⟨#[]⟩, .string ⟨#[]⟩, .bool false], .int .i64 4]) (by simp [results, Try.results29, go_sem]) rfl ⟨rfl, by first | exact bl | (simp; exact bl)⟩
  · have d2 : decide ((s.size : Int) < 2) = false := decide_eq_false (by omega)
    rw [s_getD s 0 (by omega), s_getD s 1 (by omega)] at hg
    have u0 := s[0].toNat_lt
    have u1 := s[1].toNat_lt
    simp only [Bool.and_eq_false_iff, decide_eq_false_iff_not] at hg
    by_cases h3 : s[0].toNat ≤ 1
    · have d3 : decide ((1 : Int) < (s[0].toNat : Int)) = false := decide_eq_false (by omega)
      have h5 : (s.size : Int) < 2 + (s[1].toNat : Int) := by omega
      have i0 : (0 : Nat) < s.size := by omega
      have i1 : (1 : Nat) < s.size := by omega
      clear hg
      go_enter Try.func29, Try.ntmps29
      go_wp2_with fail
      exact bodyPost_ret (v := .tuple #[.agg #[.string ⟨#[]⟩, .string ⟨#[]⟩, .bool false], .int .i64 4]) (by simp [results, Try.results29, go_sem]) rfl ⟨rfl, by first | exact bl | (simp; exact bl)⟩
    · have d3 : decide ((1 : Int) < (s[0].toNat : Int)) = true := decide_eq_true (by omega)
      have i0 : (0 : Nat) < s.size := by omega
      clear hg
      go_enter Try.func29, Try.ntmps29
      go_wp2_with fail
      exact bodyPost_ret (v := .tuple #[.agg #[.string ⟨#[]⟩, .string ⟨#[]⟩, .bool false], .int .i64 4]) (by simp [results, Try.results29, go_sem]) rfl ⟨rfl, by first | exact bl | (simp; exact bl)⟩
set_option maxHeartbeats 1000000 in
set_option maxRecDepth 100000 in
theorem rfparse_good (s : ByteArray) (w : World) (hm : s.size ≤ maxLen) (hg : chGood s.data.toList = true) :
    Calls Try.prog 29 #[.string s] w fun e w' => e = .returned (.tuple #[.agg #[.string (prR s).key, .string (prR s).val, .bool (prR s).gone], .int .i64 (prC s)]) ∧ Below w.heap.size w w' := by
  unfold maxLen at hm
  have bl := ((Below.refl w.heap.size w).alloc (Nat.le_refl _) (.cells #[.string ⟨#[]⟩, .string ⟨#[]⟩, .bool false] 56))
  have B := Bx.new w [.string ⟨#[]⟩, .string ⟨#[]⟩, .bool false] 56
  have hl : s.data.toList.length = s.size := by simp
  have HG : Hid (chGood s.data.toList = true) := hg
  unfold chGood at hg
  rw [hl] at hg
  simp only [Bool.and_eq_true, decide_eq_true_eq] at hg
  obtain ⟨⟨h2, h3⟩, h4⟩ := hg
  rw [s_getD s 0 (by omega)] at h3
  rw [s_getD s 1 (by omega)] at h4
  have u0 := s[0].toNat_lt
  have u1 := s[1].toNat_lt
  have i0 : (0 : Nat) < s.size := by omega
  have i1 : (1 : Nat) < s.size := by omega
  have d2 : decide ((s.size : Int) < 2) = false := decide_eq_false (by omega)
  have d3 : decide ((1 : Int) < (s[0].toNat : Int)) = false := decide_eq_false (by omega)
  have d4 : decide ((s.size : Int) < 2 + (s[1].toNat : Int)) = false := decide_eq_false (by omega)
  go_enter Try.func29, Try.ntmps29
  have p0 : (0 : Int) ≤ 2 + (s[1].toNat : Int) := by omega
  have p1 : (2 : Int) ≤ 2 + (s[1].toNat : Int) := by omega
  have p2 : ((2 : Int) + (s[1].toNat : Int)).toNat = 2 + s[1].toNat := by omega
  have p3 : (2 : Int) + (s[1].toNat : Int) ≤ (s.size : Int) := by omega
  have hK : chOf s.data.toList = ⟨s.extract 2 (2 + s[1].toNat), s.extract (2 + s[1].toNat) s.size, s[0] == 1⟩ := by
    unfold chOf
    rw [s_getD s 0 (by omega), s_getD s 1 (by omega)]
    congr 1
    · rw [← str_of (s.extract 2 (2 + s[1].toNat)), ext_toList, Nat.add_sub_cancel_left]
    · rw [← str_of (s.extract (2 + s[1].toNat) s.size), ext_toList, List.take_of_length_le (by simp)]
  have hgb : ((s[0].toNat : Int) == 1) = (s[0] == 1) := by
    rw [Bool.eq_iff_iff]
    simp only [beq_iff_eq]
    exact u8_one _
  have hks : (s.extract 2 (2 + s[1].toNat)).size ≤ maxLen := by simp [maxLen]; omega
  have hvs : (s.extract (2 + s[1].toNat) s.size).size ≤ maxLen := by simp [maxLen]; omega
  have hcon := fun W => rfault_any (chOf s.data.toList) W (by rw [hK]; exact hks) (by rw [hK]; exact hvs)
  have HP : Hid (prC s = (if chkC (chOf s.data.toList) = 0 then 0 else 4) ∧ (chkC (chOf s.data.toList) = 0 → prR s = chOf s.data.toList) ∧ (chkC (chOf s.data.toList) ≠ 0 → prR s = ch0)) := by
    refine ⟨?_, fun h => (pr_yes ⟨HG.out, h⟩).1, fun h => (pr_no (fun hh => h hh.2)).1⟩
    by_cases h : chkC (chOf s.data.toList) = 0
    · rw [if_pos h]; exact (pr_yes ⟨HG.out, h⟩).2
    · rw [if_neg h]; exact (pr_no (fun hh => h hh.2)).2
  rw [hK] at hcon HP
  generalize hk : s.extract 2 (2 + s[1].toNat) = kk at *
  generalize hv : s.extract (2 + s[1].toNat) s.size = vv at *
  clear hks hvs hK HG
  go_wp2_with fail
  refine wp_region_held_drew (S := fun w' => True) (by kernel_rfl) ?_ (fun hHeld => ?_)
  · exact trivial
  refine wpAnyH_take (i := 0) (oi := ({ dst := some 28, op := Op.move (Operand.tmp 0), type := 9, pos := "store.go:130", after := #[], guard := none } : Oper)) (v := .string s) rfl (by kernel_rfl) (by kernel_rfl) (by kernel_rfl) (fun _ _ _ h => h) (Or.inl ⟨by rfl, ?_⟩) (by assumption) ?_
  · intro w hSw; (try dsimp only at hSw); go_simp
  (try simp only [Act.put, List.setIfInBounds_toArray, List.set_cons_zero, List.set_cons_succ])
  refine wpAnyH_take (i := 1) (oi := ({ dst := some 29, op := Op.move (Operand.tmp 4), type := 3, pos := "store.go:130", after := #[], guard := none } : Oper)) (v := .int .i64 ((2 : Int) + (s[1].toNat : Int))) rfl (by kernel_rfl) (by kernel_rfl) (by kernel_rfl) (fun _ _ _ h => h) (Or.inl ⟨by rfl, ?_⟩) (by assumption) ?_
  · intro w hSw; (try dsimp only at hSw); go_simp
  (try simp only [Act.put, List.setIfInBounds_toArray, List.set_cons_zero, List.set_cons_succ])
  refine wpAnyH_take (i := 2) (oi := ({ dst := some 30, op := Op.slice 9 (Operand.tmp 28) (some (Operand.const (Value.int IntKind.i64 2))) (some (Operand.tmp 29)) none, type := 9, pos := "store.go:130", after := #[{ on := 0, ground := Ground.data }, { on := 1, ground := Ground.data }], guard := none } : Oper)) (v := .string kk) rfl (by kernel_rfl) (by kernel_rfl) (by kernel_rfl) (fun _ _ _ h => h) (Or.inl ⟨by rfl, ?_⟩) (by assumption) ?_
  · intro w hSw; go_simp; rw [if_pos (by omega), if_pos (by omega)]
  (try simp only [Act.put, List.setIfInBounds_toArray, List.set_cons_zero, List.set_cons_succ])
  refine wpAnyH_take (i := 3) (oi := ({ dst := some 31, op := Op.move (Operand.tmp 0), type := 9, pos := "store.go:130", after := #[], guard := none } : Oper)) (v := .string s) rfl (by kernel_rfl) (by kernel_rfl) (by kernel_rfl) (fun _ _ _ h => h) (Or.inl ⟨by rfl, ?_⟩) (by assumption) ?_
  · intro w hSw; (try dsimp only at hSw); go_simp
  (try simp only [Act.put, List.setIfInBounds_toArray, List.set_cons_zero, List.set_cons_succ])
  refine wpAnyH_take (i := 4) (oi := ({ dst := some 32, op := Op.move (Operand.tmp 4), type := 3, pos := "store.go:130", after := #[], guard := none } : Oper)) (v := .int .i64 ((2 : Int) + (s[1].toNat : Int))) rfl (by kernel_rfl) (by kernel_rfl) (by kernel_rfl) (fun _ _ _ h => h) (Or.inl ⟨by rfl, ?_⟩) (by assumption) ?_
  · intro w hSw; (try dsimp only at hSw); go_simp
  (try simp only [Act.put, List.setIfInBounds_toArray, List.set_cons_zero, List.set_cons_succ])
  refine wpAnyH_take (i := 5) (oi := ({ dst := some 33, op := Op.slice 9 (Operand.tmp 31) (some (Operand.tmp 32)) none none, type := 9, pos := "store.go:130", after := #[{ on := 3, ground := Ground.data }, { on := 4, ground := Ground.data }], guard := none } : Oper)) (v := .string vv) rfl (by kernel_rfl) (by kernel_rfl) (by kernel_rfl) (fun _ _ _ h => h) (Or.inl ⟨by rfl, ?_⟩) (by assumption) ?_
  · intro w hSw; go_simp; intro hneg; exfalso; omega
  (try simp only [Act.put, List.setIfInBounds_toArray, List.set_cons_zero, List.set_cons_succ])
  refine wpAnyH_take (i := 6) (oi := ({ dst := some 34, op := Op.move (Operand.tmp 0), type := 9, pos := "store.go:130", after := #[], guard := none } : Oper)) (v := .string s) rfl (by kernel_rfl) (by kernel_rfl) (by kernel_rfl) (fun _ _ _ h => h) (Or.inl ⟨by rfl, ?_⟩) (by assumption) ?_
  · intro w hSw; (try dsimp only at hSw); go_simp
  (try simp only [Act.put, List.setIfInBounds_toArray, List.set_cons_zero, List.set_cons_succ])
  refine wpAnyH_take (i := 7) (oi := ({ dst := some 35, op := Op.index 9 (Operand.tmp 34) (Operand.const (Value.int IntKind.i64 0)), type := 5, pos := "store.go:130", after := #[{ on := 6, ground := Ground.data }], guard := none } : Oper)) (v := .int .u8 (s[0].toNat : Int)) rfl (by kernel_rfl) (by kernel_rfl) (by kernel_rfl) (fun _ _ _ h => h) (Or.inl ⟨by rfl, ?_⟩) (by assumption) ?_
  · intro w hSw; (try dsimp only at hSw); go_simp
  (try simp only [Act.put, List.setIfInBounds_toArray, List.set_cons_zero, List.set_cons_succ])
  refine wpAnyH_take (i := 8) (oi := ({ dst := some 36, op := Op.binOp BinOp.eql 5 (Operand.tmp 35) (Operand.const (Value.int IntKind.u8 1)) 5, type := 4, pos := "store.go:130", after := #[{ on := 7, ground := Ground.data }], guard := none } : Oper)) (v := .bool (s[0] == 1)) rfl (by kernel_rfl) (by kernel_rfl) (by kernel_rfl) (fun _ _ _ h => h) (Or.inl ⟨by rfl, ?_⟩) (by assumption) ?_
  · intro w hSw; (try dsimp only at hSw); go_simp
  (try simp only [Act.put, List.setIfInBounds_toArray, List.set_cons_zero, List.set_cons_succ])
  refine wpAnyH_take (i := 9) (oi := ({ dst := some 37, op := Op.build 56 #[(0, Operand.tmp 30), (1, Operand.tmp 33), (2, Operand.tmp 36)], type := 56, pos := "store.go:130", after := #[{ on := 2, ground := Ground.data }, { on := 5, ground := Ground.data }, { on := 8, ground := Ground.data }], guard := none } : Oper)) (v := .agg #[.string kk, .string vv, .bool (s[0] == 1)]) rfl (by kernel_rfl) (by kernel_rfl) (by kernel_rfl) (fun _ _ _ h => h) (Or.inl ⟨by rfl, ?_⟩) (by assumption) ?_
  · intro w hSw; (try dsimp only at hSw); go_simp
  (try simp only [Act.put, List.setIfInBounds_toArray, List.set_cons_zero, List.set_cons_succ])
  refine wpAnyH_ready (rs := [10]) (by kernel_rfl) (by simp) ?_
  refine AllReadyH.cons (o := ({ dst := some 5, op := Op.alloc 56, type := 0, pos := "store.go:130", after := #[], guard := none } : Oper)) rfl (fun K hK => ?_) AllReadyH.nil
  rw [if_pos (by rfl)]
  go_wp2_with fail
  refine hK.out _ _ ?_ (fun hHeld => ?_)
  · exact trivial
  clear hK K
  (try simp only [Act.put, List.setIfInBounds_toArray, List.set_cons_zero, List.set_cons_succ])
  refine wpAnyH_ready (rs := [11]) (by kernel_rfl) (by simp) ?_
  refine AllReadyH.cons (o := ({ dst := none, op := Op.store 56 (Operand.tmp 5) (Operand.tmp 37), type := 0, pos := "store.go:130", after := #[{ on := 10, ground := Ground.data }, { on := 9, ground := Ground.data }, { on := 0, ground := Ground.phase }, { on := 1, ground := Ground.phase }, { on := 2, ground := Ground.phase }, { on := 3, ground := Ground.phase }, { on := 4, ground := Ground.phase }, { on := 5, ground := Ground.phase }, { on := 6, ground := Ground.phase }, { on := 7, ground := Ground.phase }, { on := 8, ground := Ground.phase }, { on := 9, ground := Ground.phase }, { on := 10, ground := Ground.phase }], guard := none } : Oper)) rfl (fun K hK => ?_) AllReadyH.nil
  rw [if_pos (by rfl)]
  go_wp2_with fail
  refine hK.out _ _ ?_ (fun hHeld => ?_)
  · exact trivial
  clear hK K
  (try simp only [Act.put, List.setIfInBounds_toArray, List.set_cons_zero, List.set_cons_succ])
  refine wpAnyH_done (by kernel_rfl) ?_ _
  have hcon := hcon ((w.alloc (.cells #[.string ⟨#[]⟩, .string ⟨#[]⟩, .bool false] 56)).alloc (.cells #[.string kk, .string vv, .bool (s[0] == 1)] 56)).drew
  have B2 := (Bx.new (w.alloc (.cells #[.string ⟨#[]⟩, .string ⟨#[]⟩, .bool false] 56)) [.string kk, .string vv, .bool (s[0] == 1)] 56).below (below_drewN (Below.refl _ _) 1)
  rw [sz_alloc] at B2
  have B1 := ((B.alloc (.cells #[.string kk, .string vv, .bool (s[0] == 1)] 56)).below (below_drewN (Below.refl _ _) 1))
  have bl2 : Below w.heap.size w _ := below_drewN (bl.alloc bl.size (.cells #[.string kk, .string vv, .bool (s[0] == 1)] 56)) 1
  clear B bl
  generalize ((w.alloc (.cells #[.string ⟨#[]⟩, .string ⟨#[]⟩, .bool false] 56)).alloc (.cells #[.string kk, .string vv, .bool (s[0] == 1)] 56)) = W2 at *
  change Bx W2.drew _ _ at B1
  change Bx W2.drew _ _ at B2
  change Below _ _ W2.drew at bl2
  generalize W2.drew = w2 at *
  have b0 := (B2.2 0 _ rfl).1
  have b1 := (B2.2 1 _ rfl).1
  have b2 := (B2.2 2 _ rfl).1
  have zb := B2.1
  clear p0 p1 p2 p3 d2 d3 d4 hgb
  by_cases h0 : chkC ⟨kk, vv, s[0] == 1⟩ = 0
  · have hR := HP.out.2.1 h0
    have hC := HP.out.1
    rw [if_pos h0] at hC
    rw [h0] at hcon
    have HR : Hid (prR s = _) := hR
    have HC : Hid (prC s = 0) := hC
    clear HP hR hC h0
    (try dsimp only at hcon)
    generalize (s[0] == 1) = gg at *
    go_wp2_with fail
    refine hcon.mono ?_
    rintro e w3 ⟨rfl, hb3⟩
    replace B1 := B1.below hb3
    replace B2 := B2.below hb3
    have a0 := (B1.2 0 _ rfl).1
    have a1 := (B1.2 1 _ rfl).1
    have a2 := (B1.2 2 _ rfl).1
    have f0 := (B1.2 0 _ rfl).2
    have f1 := (B1.2 1 _ rfl).2
    have f2 := (B1.2 2 _ rfl).2
    have e0 := (B2.2 0 _ rfl).1
    have e1 := (B2.2 1 _ rfl).1
    have e2 := (B2.2 2 _ rfl).1
    have zc := B2.1
    have za := B1.1
    have bl3 := Below_after bl2 hb3
    clear hcon b0 b1 b2 zb
    go_wp2_with fail
    have B4 := ((B1.set 0 (.string kk)).set 1 (.string vv)).set 2 (.bool gg)
    have k0 := (B4.2 0 _ rfl).1
    have k1 := (B4.2 1 _ rfl).1
    have k2 := (B4.2 2 _ rfl).1
    exact bodyPost_ret (v := .tuple #[.agg #[.string kk, .string vv, .bool gg], .int .i64 0]) (by simp [results, Try.results29, go_sem, k0, k1, k2]) rfl ⟨by (rw [HR.out, HC.out]; try rfl), ((bl3.setCell (p := ⟨w.heap.size, 0, none⟩) (Nat.le_refl _) _).setCell (p := ⟨w.heap.size, 1, none⟩) (Nat.le_refl _) _).setCell (p := ⟨w.heap.size, 2, none⟩) (Nat.le_refl _) _⟩
  · have hR := HP.out.2.2 h0
    have hC := HP.out.1
    rw [if_neg h0] at hC
    have hpos := chk_pos h0
    have HR : Hid (prR s = _) := hR
    have HC : Hid (prC s = 4) := hC
    clear HP hR hC
    generalize chkC ⟨kk, vv, s[0] == 1⟩ = cc at *
    have dpos : decide (0 < cc) = true := decide_eq_true hpos
    clear h0
    (try dsimp only at hcon)
    generalize (s[0] == 1) = gg at *
    go_wp2_with fail
    refine hcon.mono ?_
    rintro e w3 ⟨rfl, hb3⟩
    replace B1 := B1.below hb3
    have a0 := (B1.2 0 _ rfl).1
    have a1 := (B1.2 1 _ rfl).1
    have a2 := (B1.2 2 _ rfl).1
    have f0 := (B1.2 0 _ rfl).2
    have f1 := (B1.2 1 _ rfl).2
    have f2 := (B1.2 2 _ rfl).2
    have za := B1.1
    have bl3 := Below_after bl2 hb3
    clear hcon b0 b1 b2 zb
    go_wp2_with fail
    have B4 := ((B1.set 0 (.string ⟨#[]⟩)).set 1 (.string ⟨#[]⟩)).set 2 (.bool false)
    have k0 := (B4.2 0 _ rfl).1
    have k1 := (B4.2 1 _ rfl).1
    have k2 := (B4.2 2 _ rfl).1
    exact bodyPost_ret (v := .tuple #[.agg #[.string ⟨#[]⟩, .string ⟨#[]⟩, .bool false], .int .i64 4]) (by simp [results, Try.results29, go_sem, k0, k1, k2]) rfl ⟨by (rw [HR.out, HC.out]; try rfl), ((bl3.setCell (p := ⟨w.heap.size, 0, none⟩) (Nat.le_refl _) _).setCell (p := ⟨w.heap.size, 1, none⟩) (Nat.le_refl _) _).setCell (p := ⟨w.heap.size, 2, none⟩) (Nat.le_refl _) _⟩
theorem rfparse_any (s : ByteArray) (w : World) (hm : s.size ≤ maxLen) :
    Calls Try.prog 29 #[.string s] w fun e w' => e = .returned (.tuple #[.agg #[.string (prR s).key, .string (prR s).val, .bool (prR s).gone], .int .i64 (prC s)]) ∧ Below w.heap.size w w' := by
  cases hg : chGood s.data.toList
  · rw [(pr_bad hg).1, (pr_bad hg).2]; exact rfparse_bad s w hm hg
  · exact rfparse_good s w hm hg
end Go.Proofs.Ytjhkabhhlpdpaaa
