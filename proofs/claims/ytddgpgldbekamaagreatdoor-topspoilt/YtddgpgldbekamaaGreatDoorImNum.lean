/- image: numbers of a text. -/
import Derived.Test.YtddgpgldbekamaaGreatDoorAllPure
import Derived.Test.YtddgpgldbekamaaGreatDoorProg
import Derived.Test.YtddgpgldbekamaaGreatDoorBox
import Derived.Laws.MakeOwn
import Derived.Laws.OwnMore
import Derived.Deep.QuietTactic
import Derived.BigQuiet
set_option linter.unusedVariables false
set_option linter.unusedSimpArgs false
set_option linter.unnecessarySimpa false
namespace Go.Proofs.YtddgpgldbekamaaGreatDoor
open Go.RowKit

theorem wp_run {P : Program} {o : Oper} {a : Act} {w w' : World} {K : Act → World → Prop} {Q : Exit → Act → World → Prop} {v : Value} (h : (execOp a.eval o).run P w = .ok (.value v) w') (hk : K (a.put o.dst v) w') : o.wp P a w K Q := by
  unfold Oper.wp; rw [h]; exact hk
theorem wp_runs {P : Program} {o : Oper} {a : Act} {w w' : World} {K : Act → World → Prop} {Q : Exit → Act → World → Prop} (h : (execOp a.eval o).run P w = .ok .skip w') (hk : K (a.put o.dst undef) w') : o.wp P a w K Q := by
  unfold Oper.wp; rw [h]; exact hk
/-- an operation met as a whole, in a list of operations -/
theorem wpList_run {P : Program} {ops : Array Oper} {rest : List Oper} {o : Oper} {a : Act} {w w' : World} {Q : Exit → Act → World → Prop} {v : Value} (hgd : o.guard = none) (h : (execOp a.eval o).run P w = .ok (.value v) w') (hk : wpList P ops Q rest (a.put o.dst v) w') : wpList P ops Q (o :: rest) a w := by
  refine wpList_plain hgd fun K hK => ?_
  exact wp_run h (hK _ _ hk)
theorem wpList_runs {P : Program} {ops : Array Oper} {rest : List Oper} {o : Oper} {a : Act} {w w' : World} {Q : Exit → Act → World → Prop} (hgd : o.guard = none) (h : (execOp a.eval o).run P w = .ok .skip w') (hk : wpList P ops Q rest (a.put o.dst undef) w') : wpList P ops Q (o :: rest) a w := by
  refine wpList_plain hgd fun K hK => ?_
  exact wp_runs h (hK _ _ hk)
theorem wrap_id {n : Int} (h1 : -9223372036854775808 ≤ n) (h2 : n ≤ 9223372036854775807) : IntKind.i64.wrap n = n := by
  simp [IntKind.wrap, IntKind.bits, IntKind.signed]; omega
/-- so many of a number's lowest bytes -/
theorem made_repI (m k : Nat) (x : Value) (hm : 0 < m) : madeCells (List.replicate m x).toArray k = (List.replicate k x).toArray := by
  apply Array.ext
  · simp [madeCells]
  · intro i h1 h2
    have : i % m < m := Nat.mod_lt _ hm
    simp [madeCells, this, List.getElem?_replicate]

theorem infoInt : (Tryz.prog.info? 3).map (fun i => (i.zero, i.size, i.bytes)) = some (some (.int .i64 0), 1, 8) := by kernel_rfl
/-- numbers, as cells -/
def inV (l : List Nat) : List Value := l.map fun (n : Nat) => Value.int .i64 (n : Int)
theorem made_ints (n : Nat) : madeCells #[.int .i64 0] n = (inV (List.replicate n 0)).toArray := by
  have h := made_repI 1 n (.int .i64 0) (by decide)
  simp only [inV, List.map_replicate]
  exact h
theorem exec_makeInts (ρ : Operand → Value) (o : Oper) (x : Operand) (n : Nat) (hn : n ≤ 100) (w : World) (ho : o.op = .makeSlice 60 x x) (hx : ρ x = .int .i64 (n : Int)) : (execOp ρ o).run Tryz.prog w = .ok (.value (.slice (some ⟨w.heap.size, 0, none⟩) n n)) (w.alloc (.cells (inV (List.replicate n 0)).toArray 3)) := by
  have hI := infoInt
  cases hq : Tryz.prog.info? 3 with
  | none => simp [hq] at hI
  | some inf =>
    obtain ⟨h1, h2, h3⟩ : inf.zero = some (.int .i64 0) ∧ inf.size = 1 ∧ inf.bytes = 8 := by simpa [hq] using hI
    have hr := run_make w 60 3 inf _ Tryz.underlying60 hq h1 .i64 .i64 (n : Int) (n : Int) (by omega) (Int.le_refl _) (by rw [h3]; omega) (by omega)
    simp only [Int.toNat_natCast, h2, Value.cells, Nat.mul_one, made_ints] at hr
    unfold execOp
    simp only [ho, hx, Sem.run_bind, hr, Result.andThen_ok, Sem.run_pure]
/-- one more digit -/
def nst (d : Nat) (o : List Nat) (i : Nat) (b : UInt8) : List Nat := o.set (i / d) (10 * o.getD (i / d) 0 + (b.toNat - 48))
/-- the numbers behind k bytes -/
def nsP (d m : Nat) (l : List UInt8) : Nat → List Nat
  | 0 => List.replicate m 0
  | k + 1 => nst d (nsP d m l k) k (l.getD k 0)
def digB (b : UInt8) : Bool := decide (48 ≤ b.toNat) && decide (b.toNat ≤ 57)
theorem digB_le {b : UInt8} (h : digB b = true) : 48 ≤ b.toNat ∧ b.toNat ≤ 57 := by
  unfold digB at h
  rw [Bool.and_eq_true] at h
  exact ⟨of_decide_eq_true h.1, of_decide_eq_true h.2⟩
theorem wrap8 {b : Nat} (h1 : 48 ≤ b) (h2 : b ≤ 57) : IntKind.u8.wrap ((b : Int) - 48) = (b : Int) - 48 := by
  simp [IntKind.wrap, IntKind.bits, IntKind.signed]
  omega
theorem nsP_len (d m : Nat) (l : List UInt8) : ∀ k, (nsP d m l k).length = m
  | 0 => by simp [nsP]
  | k + 1 => by unfold nsP nst; rw [List.length_set, nsP_len]
theorem nsP_lt (d m : Nat) (l : List UInt8) : ∀ k, (∀ j, j < k → digB (l.getD j 0) = true) → ∀ n ∈ nsP d m l k, n < 10 ^ k
  | 0, _, n, hn => by simp [nsP] at hn; rw [hn.2]; decide
  | k + 1, h, n, hn => by
    unfold nsP nst at hn
    have ih := nsP_lt d m l k (fun j hj => h j (by omega))
    have hb := digB_le (h k (by omega))
    have hp : 0 < 10 ^ k := Nat.pow_pos (by decide)
    rcases List.mem_or_eq_of_mem_set hn with h1 | h1
    · have := ih n h1; rw [Nat.pow_succ]; omega
    · have h2 : (nsP d m l k).getD (k / d) 0 < 10 ^ k := by
        rw [List.getD_eq_getElem?_getD]
        cases hg : (nsP d m l k)[k / d]? with
        | none => simpa using hp
        | some y => exact ih y (List.mem_of_getElem? hg)
      rw [h1, Nat.pow_succ]
      have h3 := hb.2
      generalize (l.getD k 0).toNat = z at *
      generalize (nsP d m l k).getD (k / d) 0 = y at *
      omega
set_option maxHeartbeats 4000000 in
set_option maxRecDepth 100000 in
theorem numbers12_len (s : ByteArray) (w : World) (hs : s.size ≤ maxLen) (h : s.size ≠ 2) :
    Calls Tryz.prog 133 #[.string s, .int .i64 1, .int .i64 2] w fun e w' => e = .returned (.tuple #[.slice none 0 0, .bool false]) ∧ w' = w := by
  unfold maxLen at hs
  have d0 : ((s.size : Int) != 2) = true := by simp; omega
  go_enter Tryz.func133, Tryz.ntmps133
  go_wp2_with fail
  go_ret2
  exact ⟨rfl, rfl⟩
set_option maxHeartbeats 4000000 in
set_option maxRecDepth 100000 in
theorem numbers12_any (s : ByteArray) (w : World) (hs : s.size = 2) :
    Calls Tryz.prog 133 #[.string s, .int .i64 1, .int .i64 2] w fun e w' => Below w.heap.size w w' ∧ ((s.data.toList.all digB = true ∧ e = .returned (.tuple #[.slice (some ⟨w.heap.size, 0, none⟩) 2 2, .bool true]) ∧ Bx w' w.heap.size (inV (nsP 1 2 s.data.toList 2))) ∨ (s.data.toList.all digB = false ∧ e = .returned (.tuple #[.slice none 0 0, .bool false]))) := by
  have BO := Bx.new w (inV (List.replicate 2 0)) 3
  have ba := (Below.refl w.heap.size w).alloc (Nat.le_refl _) (.cells (inV (List.replicate 2 0)).toArray 3)
  have d0 : ((s.size : Int) != 2) = false := by simp; omega
  go_enter Tryz.func133, Tryz.ntmps133
  go_wp2_with (refine wpList_run (by rfl) (exec_makeInts _ _ (.tmp 16) 2 (by omega) _ (by rfl) (by rfl)) ?_)
  generalize hg : w.heap.size = g at *
  go_loopw [20] (fun i wr => ∃ k : Nat, k ≤ 2 ∧ i = .int .i64 k ∧ Hid (∀ j, j < k → digB (s.data.toList.getD j 0) = true) ∧ Bx wr g (inV (nsP 1 2 s.data.toList k)) ∧ Below g w wr) (fun i _ => 2 - (intOf i).toNat)
  case atStart => exact ⟨0, Nat.zero_le _, rfl, (show Hid _ from fun j hj => by omega), BO, ba⟩
  case round =>
    clear BO ba
    obtain ⟨k, hk, rfl, HD, B, bl⟩ := hrel
    by_cases hlt : k < s.size
    · have hl : k < s.data.toList.length := by simpa using hlt
      have hgd : s.data.toList.getD k 0 = s[k] := by rw [List.getD_eq_getElem?_getD, List.getElem?_eq_getElem hl]; rfl
      by_cases hb : digB s[k] = true
      · obtain ⟨b1, b2⟩ := digB_le hb
        have HD2 : Hid (∀ j, j < k + 1 → digB (s.data.toList.getD j 0) = true) := fun j hj => by
          by_cases h : j < k
          · exact HD.out j h
          · have e : j = k := by omega
            rw [e, hgd]; exact hb
        have hjm : k / 1 < 2 := by omega
        have hlen := nsP_len 1 2 s.data.toList k
        obtain ⟨o, ho⟩ : ∃ o, (nsP 1 2 s.data.toList k)[k / 1]? = some o := ⟨_, List.getElem?_eq_getElem (by rw [hlen]; exact hjm)⟩
        have hol := nsP_lt 1 2 s.data.toList k HD.out o (List.mem_of_getElem? ho)
        have hol2 : o < 10 ^ 16 := Nat.lt_of_lt_of_le hol (Nat.pow_le_pow_right (by decide) (by omega))
        have hc := B.2 (k / 1) (.int .i64 (o : Int)) (by unfold inV; rw [List.getElem?_map, ho]; rfl)
        have BN : Hid (∀ wr', wr' = wr.setCell ⟨g, k / 1, none⟩ (.int .i64 ((10 * o + (s[k].toNat - 48) : Nat) : Int)) → Bx wr' g (inV (nsP 1 2 s.data.toList (k + 1)))) := fun wr' e => by
          have h1 := B.set (k / 1) (.int .i64 ((10 * o + (s[k].toNat - 48) : Nat) : Int))
          have h2 : (inV (nsP 1 2 s.data.toList k)).set (k / 1) (.int .i64 ((10 * o + (s[k].toNat - 48) : Nat) : Int)) = inV (nsP 1 2 s.data.toList (k + 1)) := by
            show _ = inV (nst 1 _ k (s.data.toList.getD k 0))
            unfold nst inV
            rw [hgd, List.getD_eq_getElem?_getD, ho, List.map_set]
            rfl
          rw [e, ← h2]; exact h1
        have bl2 := fun (u : Value) => Tr.setCell (B := On g) wr rfl (k / 1) u
        have BL : Hid (∀ u : Value, Below g w (wr.setCell ⟨g, k / 1, none⟩ u)) := fun u => bl.trans ((bl2 u).to_below (fun k' hk' => by rw [show k' = g from hk']; exact Nat.le_refl _) (Nat.le_of_lt B.1))
        have hz := B.1
        obtain ⟨hc1, hc2⟩ := hc
        have hT : ((k : Int).tdiv 1) = ((k / 1 : Nat) : Int) := by rw [Int.tdiv_eq_ediv_of_nonneg (by omega)]; rfl
        have dA : decide ((s[k].toNat : Int) < 48) = false := decide_eq_false (by omega)
        have dB : decide ((57 : Int) < (s[k].toNat : Int)) = false := decide_eq_false (by omega)
        clear B bl bl2 ho hol hb hgd HD hlen
        simp only [Nat.div_one] at *
        go_wp2_with fail
        refine wp_region_held_drew (S := fun w' => True) (by kernel_rfl) ?_ (fun hHeld => ?_)
        · trivial
        refine tkI 0 (.slice (some ⟨g, 0, none⟩) 2 2) rfl ?_
        refine tkI 1 (.int .i64 (k : Int)) rfl ?_
        refine tkI 2 (.int .i64 1) rfl ?_
        refine tkJ 3 (.int .i64 (k : Int)) rfl (by intro w hSw; go_simp; exact wrap_id (by omega) (by omega)) ?_
        refine tkI 4 (.slice (some ⟨g, 0, none⟩) 2 2) rfl ?_
        refine tkI 5 (.int .i64 (k : Int)) rfl ?_
        refine tkI 6 (.int .i64 1) rfl ?_
        refine tkJ 7 (.int .i64 (k : Int)) rfl (by intro w hSw; go_simp; exact wrap_id (by omega) (by omega)) ?_
        refine tkJ 8 (.pointer (some ⟨g, k, none⟩)) rfl (by intro w hSw; go_simp; all_goals (intro hx; exact absurd hx (by omega))) ?_
        refine tkI 11 (.string s) rfl ?_
        refine tkI 12 (.int .i64 (k : Int)) rfl ?_
        refine tkJ 13 (.int .u8 (s[k].toNat : Int)) rfl (by intro w hSw; go_simp) ?_
        refine tkJ 14 (.int .u8 ((s[k].toNat : Int) - 48)) rfl (by intro w hSw; go_simp; exact wrap8 b1 b2) ?_
        refine tkJ 15 (.int .i64 (((s[k].toNat : Int) - 48))) rfl (by intro w hSw; go_simp; exact wrap_id (by omega) (by omega)) ?_
        refine rdI 9 rfl (fun K hK => ?_)
        go_wp2_with fail
        refine hK.out _ _ ?_ (fun hHeld => ?_)
        · trivial
        clear hK K
        (try simp only [Act.put, List.setIfInBounds_toArray, List.set_cons_zero, List.set_cons_succ])
        refine tkJ 10 (.int .i64 (10 * (o : Int))) rfl (by intro w hSw; go_simp; exact wrap_id (by omega) (by omega)) ?_
        refine tkJ 16 (.int .i64 (10 * (o : Int) + ((s[k].toNat : Int) - 48))) rfl (by intro w hSw; go_simp; exact wrap_id (by omega) (by omega)) ?_
        refine tkJ 17 (.pointer (some ⟨g, k, none⟩)) rfl (by intro w hSw; go_simp; all_goals (intro hx; exact absurd hx (by omega))) ?_
        refine rdI 18 rfl (fun K hK => ?_)
        go_wp2_with fail
        refine hK.out _ _ ?_ (fun hHeld => ?_)
        · trivial
        clear hK K
        (try simp only [Act.put, List.setIfInBounds_toArray, List.set_cons_zero, List.set_cons_succ])
        refine wpAnyH_done (by kernel_rfl) ?_ _
        go_wp2_with fail
        go_roundw
        case rel =>
          rw [show (10 * (o : Int) + ((s[k].toNat : Int) - 48)) = ((10 * o + (s[k].toNat - 48) : Nat) : Int) by omega]
          exact ⟨k + 1, by omega, by go_num, HD2, (BN.out _ rfl).below (below_drewN (Below.refl _ _) 1), below_drewN (BL.out _) 1⟩
        case measure => simp [intOf]; omega
      · have hal : s.data.toList.all digB = false := by
          rw [List.all_eq_false]
          exact ⟨s[k], List.getElem_mem hl, hb⟩
        clear HD B hgd
        have HAL : Hid (s.data.toList.all digB = false) := hal
        clear hal
        by_cases h48 : s[k].toNat < 48
        · have dA : decide ((s[k].toNat : Int) < 48) = true := decide_eq_true (by omega)
          go_wp2_with fail
          go_ret2
          subst hg
          exact ⟨bl, .inr ⟨HAL.out, rfl⟩⟩
        · have h57 : 57 < s[k].toNat := by
            rcases Nat.lt_or_ge 57 s[k].toNat with h | h
            · exact h
            · exact absurd (by unfold digB; rw [decide_eq_true (by omega), decide_eq_true (by omega)]; rfl) hb
          have dA : decide ((s[k].toNat : Int) < 48) = false := decide_eq_false (by omega)
          have dB : decide ((57 : Int) < (s[k].toNat : Int)) = true := decide_eq_true (by omega)
          go_wp2_with fail
          go_ret2
          subst hg
          exact ⟨bl, .inr ⟨HAL.out, rfl⟩⟩
    · have hkn : k = 2 := by omega
      have hal : s.data.toList.all digB = true := by
        rw [List.all_eq_true]
        intro x hx
        obtain ⟨j, hj⟩ := List.mem_iff_getElem?.1 hx
        have hjl := (List.getElem?_eq_some_iff.1 hj).1
        have := HD.out j (by simp at hjl; omega)
        rw [List.getD_eq_getElem?_getD, hj] at this
        exact this
      have HAL : Hid (s.data.toList.all digB = true) := hal
      have HB : Hid (Bx wr g (inV (nsP 1 2 s.data.toList 2))) := by rw [hkn] at B; exact B
      clear hal B HD
      go_wp2_with fail
      go_ret2
      subst hg
      exact ⟨bl, .inl ⟨HAL.out, rfl, HB.out⟩⟩
set_option maxHeartbeats 4000000 in
set_option maxRecDepth 100000 in
theorem numbers41_len (s : ByteArray) (w : World) (hs : s.size ≤ maxLen) (h : s.size ≠ 4) :
    Calls Tryz.prog 133 #[.string s, .int .i64 4, .int .i64 1] w fun e w' => e = .returned (.tuple #[.slice none 0 0, .bool false]) ∧ w' = w := by
  unfold maxLen at hs
  have d0 : ((s.size : Int) != 4) = true := by simp; omega
  go_enter Tryz.func133, Tryz.ntmps133
  go_wp2_with fail
  go_ret2
  exact ⟨rfl, rfl⟩
set_option maxHeartbeats 4000000 in
set_option maxRecDepth 100000 in
theorem numbers41_any (s : ByteArray) (w : World) (hs : s.size = 4) :
    Calls Tryz.prog 133 #[.string s, .int .i64 4, .int .i64 1] w fun e w' => Below w.heap.size w w' ∧ ((s.data.toList.all digB = true ∧ e = .returned (.tuple #[.slice (some ⟨w.heap.size, 0, none⟩) 1 1, .bool true]) ∧ Bx w' w.heap.size (inV (nsP 4 1 s.data.toList 4))) ∨ (s.data.toList.all digB = false ∧ e = .returned (.tuple #[.slice none 0 0, .bool false]))) := by
  have BO := Bx.new w (inV (List.replicate 1 0)) 3
  have ba := (Below.refl w.heap.size w).alloc (Nat.le_refl _) (.cells (inV (List.replicate 1 0)).toArray 3)
  have d0 : ((s.size : Int) != 4) = false := by simp; omega
  go_enter Tryz.func133, Tryz.ntmps133
  go_wp2_with (refine wpList_run (by rfl) (exec_makeInts _ _ (.tmp 16) 1 (by omega) _ (by rfl) (by rfl)) ?_)
  generalize hg : w.heap.size = g at *
  go_loopw [20] (fun i wr => ∃ k : Nat, k ≤ 4 ∧ i = .int .i64 k ∧ Hid (∀ j, j < k → digB (s.data.toList.getD j 0) = true) ∧ Bx wr g (inV (nsP 4 1 s.data.toList k)) ∧ Below g w wr) (fun i _ => 4 - (intOf i).toNat)
  case atStart => exact ⟨0, Nat.zero_le _, rfl, (show Hid _ from fun j hj => by omega), BO, ba⟩
  case round =>
    clear BO ba
    obtain ⟨k, hk, rfl, HD, B, bl⟩ := hrel
    by_cases hlt : k < s.size
    · have hl : k < s.data.toList.length := by simpa using hlt
      have hgd : s.data.toList.getD k 0 = s[k] := by rw [List.getD_eq_getElem?_getD, List.getElem?_eq_getElem hl]; rfl
      by_cases hb : digB s[k] = true
      · obtain ⟨b1, b2⟩ := digB_le hb
        have HD2 : Hid (∀ j, j < k + 1 → digB (s.data.toList.getD j 0) = true) := fun j hj => by
          by_cases h : j < k
          · exact HD.out j h
          · have e : j = k := by omega
            rw [e, hgd]; exact hb
        have hjm : k / 4 < 1 := by omega
        have hlen := nsP_len 4 1 s.data.toList k
        obtain ⟨o, ho⟩ : ∃ o, (nsP 4 1 s.data.toList k)[k / 4]? = some o := ⟨_, List.getElem?_eq_getElem (by rw [hlen]; exact hjm)⟩
        have hol := nsP_lt 4 1 s.data.toList k HD.out o (List.mem_of_getElem? ho)
        have hol2 : o < 10 ^ 16 := Nat.lt_of_lt_of_le hol (Nat.pow_le_pow_right (by decide) (by omega))
        have hc := B.2 (k / 4) (.int .i64 (o : Int)) (by unfold inV; rw [List.getElem?_map, ho]; rfl)
        have BN : Hid (∀ wr', wr' = wr.setCell ⟨g, k / 4, none⟩ (.int .i64 ((10 * o + (s[k].toNat - 48) : Nat) : Int)) → Bx wr' g (inV (nsP 4 1 s.data.toList (k + 1)))) := fun wr' e => by
          have h1 := B.set (k / 4) (.int .i64 ((10 * o + (s[k].toNat - 48) : Nat) : Int))
          have h2 : (inV (nsP 4 1 s.data.toList k)).set (k / 4) (.int .i64 ((10 * o + (s[k].toNat - 48) : Nat) : Int)) = inV (nsP 4 1 s.data.toList (k + 1)) := by
            show _ = inV (nst 4 _ k (s.data.toList.getD k 0))
            unfold nst inV
            rw [hgd, List.getD_eq_getElem?_getD, ho, List.map_set]
            rfl
          rw [e, ← h2]; exact h1
        have bl2 := fun (u : Value) => Tr.setCell (B := On g) wr rfl (k / 4) u
        have BL : Hid (∀ u : Value, Below g w (wr.setCell ⟨g, k / 4, none⟩ u)) := fun u => bl.trans ((bl2 u).to_below (fun k' hk' => by rw [show k' = g from hk']; exact Nat.le_refl _) (Nat.le_of_lt B.1))
        have hz := B.1
        obtain ⟨hc1, hc2⟩ := hc
        have hT : ((k : Int).tdiv 4) = ((k / 4 : Nat) : Int) := by rw [Int.tdiv_eq_ediv_of_nonneg (by omega)]; rfl
        have dA : decide ((s[k].toNat : Int) < 48) = false := decide_eq_false (by omega)
        have dB : decide ((57 : Int) < (s[k].toNat : Int)) = false := decide_eq_false (by omega)
        clear B bl bl2 ho hol hb hgd HD hlen
        generalize k / 4 = j at *
        go_wp2_with fail
        refine wp_region_held_drew (S := fun w' => True) (by kernel_rfl) ?_ (fun hHeld => ?_)
        · trivial
        refine tkI 0 (.slice (some ⟨g, 0, none⟩) 1 1) rfl ?_
        refine tkI 1 (.int .i64 (k : Int)) rfl ?_
        refine tkI 2 (.int .i64 4) rfl ?_
        refine tkJ 3 (.int .i64 (j : Int)) rfl (by intro w hSw; go_simp; exact wrap_id (by omega) (by omega)) ?_
        refine tkI 4 (.slice (some ⟨g, 0, none⟩) 1 1) rfl ?_
        refine tkI 5 (.int .i64 (k : Int)) rfl ?_
        refine tkI 6 (.int .i64 4) rfl ?_
        refine tkJ 7 (.int .i64 (j : Int)) rfl (by intro w hSw; go_simp; exact wrap_id (by omega) (by omega)) ?_
        refine tkJ 8 (.pointer (some ⟨g, j, none⟩)) rfl (by intro w hSw; go_simp; all_goals (intro hx; exact absurd hx (by omega))) ?_
        refine tkI 11 (.string s) rfl ?_
        refine tkI 12 (.int .i64 (k : Int)) rfl ?_
        refine tkJ 13 (.int .u8 (s[k].toNat : Int)) rfl (by intro w hSw; go_simp) ?_
        refine tkJ 14 (.int .u8 ((s[k].toNat : Int) - 48)) rfl (by intro w hSw; go_simp; exact wrap8 b1 b2) ?_
        refine tkJ 15 (.int .i64 (((s[k].toNat : Int) - 48))) rfl (by intro w hSw; go_simp; exact wrap_id (by omega) (by omega)) ?_
        refine rdI 9 rfl (fun K hK => ?_)
        go_wp2_with fail
        refine hK.out _ _ ?_ (fun hHeld => ?_)
        · trivial
        clear hK K
        (try simp only [Act.put, List.setIfInBounds_toArray, List.set_cons_zero, List.set_cons_succ])
        refine tkJ 10 (.int .i64 (10 * (o : Int))) rfl (by intro w hSw; go_simp; exact wrap_id (by omega) (by omega)) ?_
        refine tkJ 16 (.int .i64 (10 * (o : Int) + ((s[k].toNat : Int) - 48))) rfl (by intro w hSw; go_simp; exact wrap_id (by omega) (by omega)) ?_
        refine tkJ 17 (.pointer (some ⟨g, j, none⟩)) rfl (by intro w hSw; go_simp; all_goals (intro hx; exact absurd hx (by omega))) ?_
        refine rdI 18 rfl (fun K hK => ?_)
        go_wp2_with fail
        refine hK.out _ _ ?_ (fun hHeld => ?_)
        · trivial
        clear hK K
        (try simp only [Act.put, List.setIfInBounds_toArray, List.set_cons_zero, List.set_cons_succ])
        refine wpAnyH_done (by kernel_rfl) ?_ _
        go_wp2_with fail
        go_roundw
        case rel =>
          rw [show (10 * (o : Int) + ((s[k].toNat : Int) - 48)) = ((10 * o + (s[k].toNat - 48) : Nat) : Int) by omega]
          exact ⟨k + 1, by omega, by go_num, HD2, (BN.out _ rfl).below (below_drewN (Below.refl _ _) 1), below_drewN (BL.out _) 1⟩
        case measure => simp [intOf]; omega
      · have hal : s.data.toList.all digB = false := by
          rw [List.all_eq_false]
          exact ⟨s[k], List.getElem_mem hl, hb⟩
        clear HD B hgd
        have HAL : Hid (s.data.toList.all digB = false) := hal
        clear hal
        by_cases h48 : s[k].toNat < 48
        · have dA : decide ((s[k].toNat : Int) < 48) = true := decide_eq_true (by omega)
          go_wp2_with fail
          go_ret2
          subst hg
          exact ⟨bl, .inr ⟨HAL.out, rfl⟩⟩
        · have h57 : 57 < s[k].toNat := by
            rcases Nat.lt_or_ge 57 s[k].toNat with h | h
            · exact h
            · exact absurd (by unfold digB; rw [decide_eq_true (by omega), decide_eq_true (by omega)]; rfl) hb
          have dA : decide ((s[k].toNat : Int) < 48) = false := decide_eq_false (by omega)
          have dB : decide ((57 : Int) < (s[k].toNat : Int)) = true := decide_eq_true (by omega)
          go_wp2_with fail
          go_ret2
          subst hg
          exact ⟨bl, .inr ⟨HAL.out, rfl⟩⟩
    · have hkn : k = 4 := by omega
      have hal : s.data.toList.all digB = true := by
        rw [List.all_eq_true]
        intro x hx
        obtain ⟨j, hj⟩ := List.mem_iff_getElem?.1 hx
        have hjl := (List.getElem?_eq_some_iff.1 hj).1
        have := HD.out j (by simp at hjl; omega)
        rw [List.getD_eq_getElem?_getD, hj] at this
        exact this
      have HAL : Hid (s.data.toList.all digB = true) := hal
      have HB : Hid (Bx wr g (inV (nsP 4 1 s.data.toList 4))) := by rw [hkn] at B; exact B
      clear hal B HD
      go_wp2_with fail
      go_ret2
      subst hg
      exact ⟨bl, .inl ⟨HAL.out, rfl, HB.out⟩⟩
set_option maxHeartbeats 4000000 in
set_option maxRecDepth 100000 in
theorem numbers44_len (s : ByteArray) (w : World) (hs : s.size ≤ maxLen) (h : s.size ≠ 16) :
    Calls Tryz.prog 133 #[.string s, .int .i64 4, .int .i64 4] w fun e w' => e = .returned (.tuple #[.slice none 0 0, .bool false]) ∧ w' = w := by
  unfold maxLen at hs
  have d0 : ((s.size : Int) != 16) = true := by simp; omega
  go_enter Tryz.func133, Tryz.ntmps133
  go_wp2_with fail
  go_ret2
  exact ⟨rfl, rfl⟩
set_option maxHeartbeats 4000000 in
set_option maxRecDepth 100000 in
theorem numbers44_any (s : ByteArray) (w : World) (hs : s.size = 16) :
    Calls Tryz.prog 133 #[.string s, .int .i64 4, .int .i64 4] w fun e w' => Below w.heap.size w w' ∧ ((s.data.toList.all digB = true ∧ e = .returned (.tuple #[.slice (some ⟨w.heap.size, 0, none⟩) 4 4, .bool true]) ∧ Bx w' w.heap.size (inV (nsP 4 4 s.data.toList 16))) ∨ (s.data.toList.all digB = false ∧ e = .returned (.tuple #[.slice none 0 0, .bool false]))) := by
  have BO := Bx.new w (inV (List.replicate 4 0)) 3
  have ba := (Below.refl w.heap.size w).alloc (Nat.le_refl _) (.cells (inV (List.replicate 4 0)).toArray 3)
  have d0 : ((s.size : Int) != 16) = false := by simp; omega
  go_enter Tryz.func133, Tryz.ntmps133
  go_wp2_with (refine wpList_run (by rfl) (exec_makeInts _ _ (.tmp 16) 4 (by omega) _ (by rfl) (by rfl)) ?_)
  generalize hg : w.heap.size = g at *
  go_loopw [20] (fun i wr => ∃ k : Nat, k ≤ 16 ∧ i = .int .i64 k ∧ Hid (∀ j, j < k → digB (s.data.toList.getD j 0) = true) ∧ Bx wr g (inV (nsP 4 4 s.data.toList k)) ∧ Below g w wr) (fun i _ => 16 - (intOf i).toNat)
  case atStart => exact ⟨0, Nat.zero_le _, rfl, (show Hid _ from fun j hj => by omega), BO, ba⟩
  case round =>
    clear BO ba
    obtain ⟨k, hk, rfl, HD, B, bl⟩ := hrel
    by_cases hlt : k < s.size
    · have hl : k < s.data.toList.length := by simpa using hlt
      have hgd : s.data.toList.getD k 0 = s[k] := by rw [List.getD_eq_getElem?_getD, List.getElem?_eq_getElem hl]; rfl
      by_cases hb : digB s[k] = true
      · obtain ⟨b1, b2⟩ := digB_le hb
        have HD2 : Hid (∀ j, j < k + 1 → digB (s.data.toList.getD j 0) = true) := fun j hj => by
          by_cases h : j < k
          · exact HD.out j h
          · have e : j = k := by omega
            rw [e, hgd]; exact hb
        have hjm : k / 4 < 4 := by omega
        have hlen := nsP_len 4 4 s.data.toList k
        obtain ⟨o, ho⟩ : ∃ o, (nsP 4 4 s.data.toList k)[k / 4]? = some o := ⟨_, List.getElem?_eq_getElem (by rw [hlen]; exact hjm)⟩
        have hol := nsP_lt 4 4 s.data.toList k HD.out o (List.mem_of_getElem? ho)
        have hol2 : o < 10 ^ 16 := Nat.lt_of_lt_of_le hol (Nat.pow_le_pow_right (by decide) (by omega))
        have hc := B.2 (k / 4) (.int .i64 (o : Int)) (by unfold inV; rw [List.getElem?_map, ho]; rfl)
        have BN : Hid (∀ wr', wr' = wr.setCell ⟨g, k / 4, none⟩ (.int .i64 ((10 * o + (s[k].toNat - 48) : Nat) : Int)) → Bx wr' g (inV (nsP 4 4 s.data.toList (k + 1)))) := fun wr' e => by
          have h1 := B.set (k / 4) (.int .i64 ((10 * o + (s[k].toNat - 48) : Nat) : Int))
          have h2 : (inV (nsP 4 4 s.data.toList k)).set (k / 4) (.int .i64 ((10 * o + (s[k].toNat - 48) : Nat) : Int)) = inV (nsP 4 4 s.data.toList (k + 1)) := by
            show _ = inV (nst 4 _ k (s.data.toList.getD k 0))
            unfold nst inV
            rw [hgd, List.getD_eq_getElem?_getD, ho, List.map_set]
            rfl
          rw [e, ← h2]; exact h1
        have bl2 := fun (u : Value) => Tr.setCell (B := On g) wr rfl (k / 4) u
        have BL : Hid (∀ u : Value, Below g w (wr.setCell ⟨g, k / 4, none⟩ u)) := fun u => bl.trans ((bl2 u).to_below (fun k' hk' => by rw [show k' = g from hk']; exact Nat.le_refl _) (Nat.le_of_lt B.1))
        have hz := B.1
        obtain ⟨hc1, hc2⟩ := hc
        have hT : ((k : Int).tdiv 4) = ((k / 4 : Nat) : Int) := by rw [Int.tdiv_eq_ediv_of_nonneg (by omega)]; rfl
        have dA : decide ((s[k].toNat : Int) < 48) = false := decide_eq_false (by omega)
        have dB : decide ((57 : Int) < (s[k].toNat : Int)) = false := decide_eq_false (by omega)
        clear B bl bl2 ho hol hb hgd HD hlen
        generalize k / 4 = j at *
        go_wp2_with fail
        refine wp_region_held_drew (S := fun w' => True) (by kernel_rfl) ?_ (fun hHeld => ?_)
        · trivial
        refine tkI 0 (.slice (some ⟨g, 0, none⟩) 4 4) rfl ?_
        refine tkI 1 (.int .i64 (k : Int)) rfl ?_
        refine tkI 2 (.int .i64 4) rfl ?_
        refine tkJ 3 (.int .i64 (j : Int)) rfl (by intro w hSw; go_simp; exact wrap_id (by omega) (by omega)) ?_
        refine tkI 4 (.slice (some ⟨g, 0, none⟩) 4 4) rfl ?_
        refine tkI 5 (.int .i64 (k : Int)) rfl ?_
        refine tkI 6 (.int .i64 4) rfl ?_
        refine tkJ 7 (.int .i64 (j : Int)) rfl (by intro w hSw; go_simp; exact wrap_id (by omega) (by omega)) ?_
        refine tkJ 8 (.pointer (some ⟨g, j, none⟩)) rfl (by intro w hSw; go_simp; all_goals (intro hx; exact absurd hx (by omega))) ?_
        refine tkI 11 (.string s) rfl ?_
        refine tkI 12 (.int .i64 (k : Int)) rfl ?_
        refine tkJ 13 (.int .u8 (s[k].toNat : Int)) rfl (by intro w hSw; go_simp) ?_
        refine tkJ 14 (.int .u8 ((s[k].toNat : Int) - 48)) rfl (by intro w hSw; go_simp; exact wrap8 b1 b2) ?_
        refine tkJ 15 (.int .i64 (((s[k].toNat : Int) - 48))) rfl (by intro w hSw; go_simp; exact wrap_id (by omega) (by omega)) ?_
        refine rdI 9 rfl (fun K hK => ?_)
        go_wp2_with fail
        refine hK.out _ _ ?_ (fun hHeld => ?_)
        · trivial
        clear hK K
        (try simp only [Act.put, List.setIfInBounds_toArray, List.set_cons_zero, List.set_cons_succ])
        refine tkJ 10 (.int .i64 (10 * (o : Int))) rfl (by intro w hSw; go_simp; exact wrap_id (by omega) (by omega)) ?_
        refine tkJ 16 (.int .i64 (10 * (o : Int) + ((s[k].toNat : Int) - 48))) rfl (by intro w hSw; go_simp; exact wrap_id (by omega) (by omega)) ?_
        refine tkJ 17 (.pointer (some ⟨g, j, none⟩)) rfl (by intro w hSw; go_simp; all_goals (intro hx; exact absurd hx (by omega))) ?_
        refine rdI 18 rfl (fun K hK => ?_)
        go_wp2_with fail
        refine hK.out _ _ ?_ (fun hHeld => ?_)
        · trivial
        clear hK K
        (try simp only [Act.put, List.setIfInBounds_toArray, List.set_cons_zero, List.set_cons_succ])
        refine wpAnyH_done (by kernel_rfl) ?_ _
        go_wp2_with fail
        go_roundw
        case rel =>
          rw [show (10 * (o : Int) + ((s[k].toNat : Int) - 48)) = ((10 * o + (s[k].toNat - 48) : Nat) : Int) by omega]
          exact ⟨k + 1, by omega, by go_num, HD2, (BN.out _ rfl).below (below_drewN (Below.refl _ _) 1), below_drewN (BL.out _) 1⟩
        case measure => simp [intOf]; omega
      · have hal : s.data.toList.all digB = false := by
          rw [List.all_eq_false]
          exact ⟨s[k], List.getElem_mem hl, hb⟩
        clear HD B hgd
        have HAL : Hid (s.data.toList.all digB = false) := hal
        clear hal
        by_cases h48 : s[k].toNat < 48
        · have dA : decide ((s[k].toNat : Int) < 48) = true := decide_eq_true (by omega)
          go_wp2_with fail
          go_ret2
          subst hg
          exact ⟨bl, .inr ⟨HAL.out, rfl⟩⟩
        · have h57 : 57 < s[k].toNat := by
            rcases Nat.lt_or_ge 57 s[k].toNat with h | h
            · exact h
            · exact absurd (by unfold digB; rw [decide_eq_true (by omega), decide_eq_true (by omega)]; rfl) hb
          have dA : decide ((s[k].toNat : Int) < 48) = false := decide_eq_false (by omega)
          have dB : decide ((57 : Int) < (s[k].toNat : Int)) = true := decide_eq_true (by omega)
          go_wp2_with fail
          go_ret2
          subst hg
          exact ⟨bl, .inr ⟨HAL.out, rfl⟩⟩
    · have hkn : k = 16 := by omega
      have hal : s.data.toList.all digB = true := by
        rw [List.all_eq_true]
        intro x hx
        obtain ⟨j, hj⟩ := List.mem_iff_getElem?.1 hx
        have hjl := (List.getElem?_eq_some_iff.1 hj).1
        have := HD.out j (by simp at hjl; omega)
        rw [List.getD_eq_getElem?_getD, hj] at this
        exact this
      have HAL : Hid (s.data.toList.all digB = true) := hal
      have HB : Hid (Bx wr g (inV (nsP 4 4 s.data.toList 16))) := by rw [hkn] at B; exact B
      clear hal B HD
      go_wp2_with fail
      go_ret2
      subst hg
      exact ⟨bl, .inl ⟨HAL.out, rfl, HB.out⟩⟩
set_option maxHeartbeats 4000000 in
set_option maxRecDepth 100000 in
theorem numbers42_len (s : ByteArray) (w : World) (hs : s.size ≤ maxLen) (h : s.size ≠ 8) :
    Calls Tryz.prog 133 #[.string s, .int .i64 4, .int .i64 2] w fun e w' => e = .returned (.tuple #[.slice none 0 0, .bool false]) ∧ w' = w := by
  unfold maxLen at hs
  have d0 : ((s.size : Int) != 8) = true := by simp; omega
  go_enter Tryz.func133, Tryz.ntmps133
  go_wp2_with fail
  go_ret2
  exact ⟨rfl, rfl⟩
set_option maxHeartbeats 4000000 in
set_option maxRecDepth 100000 in
theorem numbers42_any (s : ByteArray) (w : World) (hs : s.size = 8) :
    Calls Tryz.prog 133 #[.string s, .int .i64 4, .int .i64 2] w fun e w' => Below w.heap.size w w' ∧ ((s.data.toList.all digB = true ∧ e = .returned (.tuple #[.slice (some ⟨w.heap.size, 0, none⟩) 2 2, .bool true]) ∧ Bx w' w.heap.size (inV (nsP 4 2 s.data.toList 8))) ∨ (s.data.toList.all digB = false ∧ e = .returned (.tuple #[.slice none 0 0, .bool false]))) := by
  have BO := Bx.new w (inV (List.replicate 2 0)) 3
  have ba := (Below.refl w.heap.size w).alloc (Nat.le_refl _) (.cells (inV (List.replicate 2 0)).toArray 3)
  have d0 : ((s.size : Int) != 8) = false := by simp; omega
  go_enter Tryz.func133, Tryz.ntmps133
  go_wp2_with (refine wpList_run (by rfl) (exec_makeInts _ _ (.tmp 16) 2 (by omega) _ (by rfl) (by rfl)) ?_)
  generalize hg : w.heap.size = g at *
  go_loopw [20] (fun i wr => ∃ k : Nat, k ≤ 8 ∧ i = .int .i64 k ∧ Hid (∀ j, j < k → digB (s.data.toList.getD j 0) = true) ∧ Bx wr g (inV (nsP 4 2 s.data.toList k)) ∧ Below g w wr) (fun i _ => 8 - (intOf i).toNat)
  case atStart => exact ⟨0, Nat.zero_le _, rfl, (show Hid _ from fun j hj => by omega), BO, ba⟩
  case round =>
    clear BO ba
    obtain ⟨k, hk, rfl, HD, B, bl⟩ := hrel
    by_cases hlt : k < s.size
    · have hl : k < s.data.toList.length := by simpa using hlt
      have hgd : s.data.toList.getD k 0 = s[k] := by rw [List.getD_eq_getElem?_getD, List.getElem?_eq_getElem hl]; rfl
      by_cases hb : digB s[k] = true
      · obtain ⟨b1, b2⟩ := digB_le hb
        have HD2 : Hid (∀ j, j < k + 1 → digB (s.data.toList.getD j 0) = true) := fun j hj => by
          by_cases h : j < k
          · exact HD.out j h
          · have e : j = k := by omega
            rw [e, hgd]; exact hb
        have hjm : k / 4 < 2 := by omega
        have hlen := nsP_len 4 2 s.data.toList k
        obtain ⟨o, ho⟩ : ∃ o, (nsP 4 2 s.data.toList k)[k / 4]? = some o := ⟨_, List.getElem?_eq_getElem (by rw [hlen]; exact hjm)⟩
        have hol := nsP_lt 4 2 s.data.toList k HD.out o (List.mem_of_getElem? ho)
        have hol2 : o < 10 ^ 16 := Nat.lt_of_lt_of_le hol (Nat.pow_le_pow_right (by decide) (by omega))
        have hc := B.2 (k / 4) (.int .i64 (o : Int)) (by unfold inV; rw [List.getElem?_map, ho]; rfl)
        have BN : Hid (∀ wr', wr' = wr.setCell ⟨g, k / 4, none⟩ (.int .i64 ((10 * o + (s[k].toNat - 48) : Nat) : Int)) → Bx wr' g (inV (nsP 4 2 s.data.toList (k + 1)))) := fun wr' e => by
          have h1 := B.set (k / 4) (.int .i64 ((10 * o + (s[k].toNat - 48) : Nat) : Int))
          have h2 : (inV (nsP 4 2 s.data.toList k)).set (k / 4) (.int .i64 ((10 * o + (s[k].toNat - 48) : Nat) : Int)) = inV (nsP 4 2 s.data.toList (k + 1)) := by
            show _ = inV (nst 4 _ k (s.data.toList.getD k 0))
            unfold nst inV
            rw [hgd, List.getD_eq_getElem?_getD, ho, List.map_set]
            rfl
          rw [e, ← h2]; exact h1
        have bl2 := fun (u : Value) => Tr.setCell (B := On g) wr rfl (k / 4) u
        have BL : Hid (∀ u : Value, Below g w (wr.setCell ⟨g, k / 4, none⟩ u)) := fun u => bl.trans ((bl2 u).to_below (fun k' hk' => by rw [show k' = g from hk']; exact Nat.le_refl _) (Nat.le_of_lt B.1))
        have hz := B.1
        obtain ⟨hc1, hc2⟩ := hc
        have hT : ((k : Int).tdiv 4) = ((k / 4 : Nat) : Int) := by rw [Int.tdiv_eq_ediv_of_nonneg (by omega)]; rfl
        have dA : decide ((s[k].toNat : Int) < 48) = false := decide_eq_false (by omega)
        have dB : decide ((57 : Int) < (s[k].toNat : Int)) = false := decide_eq_false (by omega)
        clear B bl bl2 ho hol hb hgd HD hlen
        generalize k / 4 = j at *
        go_wp2_with fail
        refine wp_region_held_drew (S := fun w' => True) (by kernel_rfl) ?_ (fun hHeld => ?_)
        · trivial
        refine tkI 0 (.slice (some ⟨g, 0, none⟩) 2 2) rfl ?_
        refine tkI 1 (.int .i64 (k : Int)) rfl ?_
        refine tkI 2 (.int .i64 4) rfl ?_
        refine tkJ 3 (.int .i64 (j : Int)) rfl (by intro w hSw; go_simp; exact wrap_id (by omega) (by omega)) ?_
        refine tkI 4 (.slice (some ⟨g, 0, none⟩) 2 2) rfl ?_
        refine tkI 5 (.int .i64 (k : Int)) rfl ?_
        refine tkI 6 (.int .i64 4) rfl ?_
        refine tkJ 7 (.int .i64 (j : Int)) rfl (by intro w hSw; go_simp; exact wrap_id (by omega) (by omega)) ?_
        refine tkJ 8 (.pointer (some ⟨g, j, none⟩)) rfl (by intro w hSw; go_simp; all_goals (intro hx; exact absurd hx (by omega))) ?_
        refine tkI 11 (.string s) rfl ?_
        refine tkI 12 (.int .i64 (k : Int)) rfl ?_
        refine tkJ 13 (.int .u8 (s[k].toNat : Int)) rfl (by intro w hSw; go_simp) ?_
        refine tkJ 14 (.int .u8 ((s[k].toNat : Int) - 48)) rfl (by intro w hSw; go_simp; exact wrap8 b1 b2) ?_
        refine tkJ 15 (.int .i64 (((s[k].toNat : Int) - 48))) rfl (by intro w hSw; go_simp; exact wrap_id (by omega) (by omega)) ?_
        refine rdI 9 rfl (fun K hK => ?_)
        go_wp2_with fail
        refine hK.out _ _ ?_ (fun hHeld => ?_)
        · trivial
        clear hK K
        (try simp only [Act.put, List.setIfInBounds_toArray, List.set_cons_zero, List.set_cons_succ])
        refine tkJ 10 (.int .i64 (10 * (o : Int))) rfl (by intro w hSw; go_simp; exact wrap_id (by omega) (by omega)) ?_
        refine tkJ 16 (.int .i64 (10 * (o : Int) + ((s[k].toNat : Int) - 48))) rfl (by intro w hSw; go_simp; exact wrap_id (by omega) (by omega)) ?_
        refine tkJ 17 (.pointer (some ⟨g, j, none⟩)) rfl (by intro w hSw; go_simp; all_goals (intro hx; exact absurd hx (by omega))) ?_
        refine rdI 18 rfl (fun K hK => ?_)
        go_wp2_with fail
        refine hK.out _ _ ?_ (fun hHeld => ?_)
        · trivial
        clear hK K
        (try simp only [Act.put, List.setIfInBounds_toArray, List.set_cons_zero, List.set_cons_succ])
        refine wpAnyH_done (by kernel_rfl) ?_ _
        go_wp2_with fail
        go_roundw
        case rel =>
          rw [show (10 * (o : Int) + ((s[k].toNat : Int) - 48)) = ((10 * o + (s[k].toNat - 48) : Nat) : Int) by omega]
          exact ⟨k + 1, by omega, by go_num, HD2, (BN.out _ rfl).below (below_drewN (Below.refl _ _) 1), below_drewN (BL.out _) 1⟩
        case measure => simp [intOf]; omega
      · have hal : s.data.toList.all digB = false := by
          rw [List.all_eq_false]
          exact ⟨s[k], List.getElem_mem hl, hb⟩
        clear HD B hgd
        have HAL : Hid (s.data.toList.all digB = false) := hal
        clear hal
        by_cases h48 : s[k].toNat < 48
        · have dA : decide ((s[k].toNat : Int) < 48) = true := decide_eq_true (by omega)
          go_wp2_with fail
          go_ret2
          subst hg
          exact ⟨bl, .inr ⟨HAL.out, rfl⟩⟩
        · have h57 : 57 < s[k].toNat := by
            rcases Nat.lt_or_ge 57 s[k].toNat with h | h
            · exact h
            · exact absurd (by unfold digB; rw [decide_eq_true (by omega), decide_eq_true (by omega)]; rfl) hb
          have dA : decide ((s[k].toNat : Int) < 48) = false := decide_eq_false (by omega)
          have dB : decide ((57 : Int) < (s[k].toNat : Int)) = true := decide_eq_true (by omega)
          go_wp2_with fail
          go_ret2
          subst hg
          exact ⟨bl, .inr ⟨HAL.out, rfl⟩⟩
    · have hkn : k = 8 := by omega
      have hal : s.data.toList.all digB = true := by
        rw [List.all_eq_true]
        intro x hx
        obtain ⟨j, hj⟩ := List.mem_iff_getElem?.1 hx
        have hjl := (List.getElem?_eq_some_iff.1 hj).1
        have := HD.out j (by simp at hjl; omega)
        rw [List.getD_eq_getElem?_getD, hj] at this
        exact this
      have HAL : Hid (s.data.toList.all digB = true) := hal
      have HB : Hid (Bx wr g (inV (nsP 4 2 s.data.toList 8))) := by rw [hkn] at B; exact B
      clear hal B HD
      go_wp2_with fail
      go_ret2
      subst hg
      exact ⟨bl, .inl ⟨HAL.out, rfl, HB.out⟩⟩
end Go.Proofs.YtddgpgldbekamaaGreatDoor
