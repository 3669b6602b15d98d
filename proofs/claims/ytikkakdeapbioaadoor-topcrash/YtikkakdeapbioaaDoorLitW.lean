/- Package little: numbers as bytes, as the landed code has it. -/
import Derived.Test.YtikkakdeapbioaaDoorDkAny
import Derived.Test.YtikkakdeapbioaaDoorFoot
set_option linter.unusedVariables false
set_option linter.unusedSimpArgs false
set_option linter.unnecessarySimpa false
namespace Go.Proofs.YtikkakdeapbioaaDoor
open Go.RowKit

/-- an operation met as a whole, in a list of operations -/
theorem wpList_run {P : Program} {ops : Array Oper} {rest : List Oper} {o : Oper} {a : Act} {w w' : World} {Q : Exit → Act → World → Prop} {v : Value} (hgd : o.guard = none) (h : (execOp a.eval o).run P w = .ok (.value v) w') (hk : wpList P ops Q rest (a.put o.dst v) w') : wpList P ops Q (o :: rest) a w := by
  refine wpList_plain hgd fun K hK => ?_
  exact wp_run h (hK _ _ hk)
theorem wpList_runs {P : Program} {ops : Array Oper} {rest : List Oper} {o : Oper} {a : Act} {w w' : World} {Q : Exit → Act → World → Prop} (hgd : o.guard = none) (h : (execOp a.eval o).run P w = .ok .skip w') (hk : wpList P ops Q rest (a.put o.dst undef) w') : wpList P ops Q (o :: rest) a w := by
  refine wpList_plain hgd fun K hK => ?_
  exact wp_runs h (hK _ _ hk)
theorem wrap_id {n : Int} (h1 : -9223372036854775808 ≤ n) (h2 : n ≤ 9223372036854775807) : IntKind.i64.wrap n = n := by
  simp [IntKind.wrap, IntKind.bits, IntKind.signed]; omega
/-- so many of a number's lowest bytes -/
def leL (n m : Nat) : List UInt8 := (List.range m).map fun i => UInt8.ofNat (n / 2 ^ (8 * i))
def leB (n m : Nat) : ByteArray := strOf (leL n m)
theorem leL_len (n m : Nat) : (leL n m).length = m := by simp [leL]
theorem infoU8 : (Tryd.prog.info? 5).map (fun i => (i.zero, i.size, i.bytes)) = some (some (.int .u8 0), 1, 1) := by kernel_rfl
def zeroL (n : Nat) : List UInt8 := List.replicate n 0
theorem made_bytes (n : Nat) : madeCells #[.int .u8 0] n = (secV (zeroL n)).toArray := by
  have h := made_rep 1 n (.int .u8 0) (by decide)
  simp only [zeroL, secV, List.map_replicate]
  exact h
theorem exec_makeBytes (ρ : Operand → Value) (o : Oper) (x : Operand) (n : Nat) (hn : n ≤ 100000) (w : World) (ho : o.op = .makeSlice 92 x x) (hx : ρ x = .int .i64 (n : Int)) : (execOp ρ o).run Tryd.prog w = .ok (.value (.slice (some ⟨w.heap.size, 0, none⟩) n n)) (w.alloc (.cells (secV (zeroL n)).toArray 5)) := by
  have hI := infoU8
  cases hq : Tryd.prog.info? 5 with
  | none => simp [hq] at hI
  | some inf =>
    obtain ⟨h1, h2, h3⟩ : inf.zero = some (.int .u8 0) ∧ inf.size = 1 ∧ inf.bytes = 1 := by simpa [hq] using hI
    have hr := run_make w 92 5 inf _ Tryd.underlying92 hq h1 .i64 .i64 (n : Int) (n : Int) (by omega) (Int.le_refl _) (by rw [h3]; omega) (by omega)
    simp only [Int.toNat_natCast, h2, Value.cells, Nat.mul_one, made_bytes] at hr
    unfold execOp
    simp only [ho, hx, Sem.run_bind, hr, Result.andThen_ok, Sem.run_pure]
/-- bytes lie there -/
def BysAt (w : World) (g : Nat) (l : List UInt8) : Prop := w.heap[g]? = some (.cells (secV l).toArray 5 (0, 0))
theorem BysAt.range {w : World} {g : Nat} {l : List UInt8} (h : BysAt w g l) : w.rangeAt g 0 (secV l) := fun j u hu => by
  rw [cell_of_row w g _ _ _ _ h, Nat.zero_add]; simpa using hu
theorem BysAt.set {w : World} {g : Nat} {l : List UInt8} (h : BysAt w g l) (k : Nat) (x : UInt8) : BysAt (w.setCell ⟨g, k, none⟩ (.int .u8 (x.toNat : Int))) g (l.set k x) := by
  unfold BysAt
  rw [setCell_eq_setRow w g k _ _ _ _ h, setRow_heap w g _ _ _ _ h]
  simp [secV, List.map_set]
theorem BysAt.free {w : World} {g : Nat} {l : List UInt8} (h : BysAt w g l) (k : Nat) : w.frozen? ⟨g, k, none⟩ = false := frozen_of_row w g k _ _ h
theorem BysAt.cell {w : World} {g : Nat} {l : List UInt8} (h : BysAt w g l) {k : Nat} {x : UInt8} (hk : l[k]? = some x) : w.cell? ⟨g, k, none⟩ = some (.int .u8 (x.toNat : Int)) := by
  rw [cell_of_row w g _ _ _ _ h]; simp [secV, hk]
theorem le_step (n m k : Nat) (hk : k < m) : ((leL n k) ++ zeroL (m - k)).set k (UInt8.ofNat (n / 2 ^ (8 * k))) = leL n (k + 1) ++ zeroL (m - (k + 1)) := by
  rw [List.set_append_right _ _ (by rw [leL_len]; omega), leL_len, Nat.sub_self]
  unfold leL zeroL
  rw [List.range_succ, List.map_append, show m - k = (m - (k + 1)) + 1 by omega, List.replicate_succ]
  simp
theorem u8_ofNat (n : Nat) : ((UInt8.ofNat n).toNat : Int) = (n : Int) % 256 := by simp
set_option maxHeartbeats 1000000 in
set_option maxRecDepth 100000 in
theorem bytes_any (n m : Nat) (w : World) (hm : m ≤ 8) (hn : n < 9223372036854775808) :
    Calls Tryd.prog 74 #[.int .i64 (n : Int), .int .i64 (m : Int)] w fun e w' => e = .returned (.string (leB n m)) ∧ Below w.heap.size w w' := by
  go_enter Tryd.func74, Tryd.ntmps74
  go_wp2_with (refine wpList_run (by rfl) (exec_makeBytes _ _ (.tmp 7) m (by omega) _ (by rfl) (by rfl)) ?_)
  have hB := heap_alloc_last w (.cells (secV (zeroL m)).toArray 5)
  have hbl := (Below.refl w.heap.size w).alloc (Nat.le_refl _) (.cells (secV (zeroL m)).toArray 5)
  generalize w.alloc (.cells (secV (zeroL m)).toArray 5) = w1 at *
  go_loopw [11, 6] (fun i _ wr => ∃ k : Nat, k ≤ m ∧ i = .int .i64 k ∧ BysAt wr w.heap.size (leL n k ++ zeroL (m - k)) ∧ Below w.heap.size w wr) (fun i _ _ => m - (intOf i).toNat)
  case atStart => exact ⟨0, Nat.zero_le _, rfl, hB, hbl⟩
  case round =>
    clear hB hbl
    obtain ⟨k, hk, rfl, hB, hbl⟩ := hrel
    by_cases hlt : k < m
    · have hS := hB.set k (UInt8.ofNat (n / 2 ^ (8 * k)))
      rw [le_step n m k hlt, u8_ofNat] at hS
      have hf := hB.free k
      have hz : w.heap.size < wr.heap.size := heap_lt hB
      have hlz : k < (leL n k ++ zeroL (m - k)).length := by simp [leL_len, zeroL]; omega
      have hc := hB.cell (k := k) (List.getElem?_eq_getElem hlz)
      have dlt : decide ((k : Int) < (m : Int)) = true := decide_eq_true (by omega)
      clear hB
      go_wp2_with fail
      go_roundw
      case rel => exact ⟨k + 1, by omega, by go_num, hS, hbl.setCell (p := ⟨w.heap.size, k, none⟩) (Nat.le_refl _) _⟩
      case measure => simp [intOf]; omega
    · obtain rfl : k = m := by omega
      have dlt : decide ((k : Int) < (k : Int)) = false := by simp
      have hcv := run_secString wr w.heap.size 0 (leL n k) k k (leL_len n k) (by have := hB.range; simpa [zeroL] using this)
      go_wp2_with fail
      go_ret
      exact ⟨rfl, hbl⟩
/-- the number of bytes, the lowest one first -/
def numL : List UInt8 → Nat
  | [] => 0
  | x :: r => x.toNat + 256 * numL r
theorem numL_snoc : ∀ (l : List UInt8) (x : UInt8), numL (l ++ [x]) = numL l + x.toNat * 2 ^ (8 * l.length)
  | [], x => by simp [numL]
  | y :: l, x => by
    rw [List.cons_append]
    unfold numL
    rw [numL_snoc l x, List.length_cons, Nat.mul_add, show 8 * (l.length + 1) = 8 * l.length + 8 by omega, Nat.pow_add]
    have : 256 * (x.toNat * 2 ^ (8 * l.length)) = x.toNat * (2 ^ (8 * l.length) * 2 ^ 8) := by
      rw [Nat.mul_comm 256, Nat.mul_assoc]
    rw [← this]; omega
theorem numL_lt : ∀ (l : List UInt8), numL l < 2 ^ (8 * l.length)
  | [] => by simp [numL]
  | x :: l => by
    have h1 := numL_lt l
    have h2 : x.toNat < 256 := x.toNat_lt
    unfold numL
    rw [List.length_cons, show 8 * (l.length + 1) = 8 * l.length + 8 by omega, Nat.pow_add]
    omega
theorem numL_take_le (l : List UInt8) : ∀ k, numL (l.take k) ≤ numL l := by
  induction l with
  | nil => intro k; simp
  | cons x l ih =>
    intro k
    cases k with
    | zero => simp [numL]
    | succ k => rw [List.take_succ_cons]; unfold numL; have := ih k; omega
theorem or_i64 (a b : Nat) (ha : a < 9223372036854775808) (hb : b < 9223372036854775808) : bits .or .i64 (a : Int) (b : Int) = ((a ||| b : Nat) : Int) := by
  have hx : a ||| b < 2 ^ 63 := Nat.or_lt_two_pow (by omega) (by omega)
  have h1 : (BitVec.ofInt 64 (a : Int)).toNat = a := by
    rw [BitVec.ofInt_natCast, BitVec.toNat_ofNat]; exact Nat.mod_eq_of_lt (by omega)
  have h2 : (BitVec.ofInt 64 (b : Int)).toNat = b := by
    rw [BitVec.ofInt_natCast, BitVec.toNat_ofNat]; exact Nat.mod_eq_of_lt (by omega)
  show IntKind.i64.wrap ((BitVec.ofInt 64 (a : Int) ||| BitVec.ofInt 64 (b : Int)).toNat : Int) = _
  rw [BitVec.toNat_or, h1, h2]
  simp [IntKind.wrap, IntKind.bits, IntKind.signed]
  omega
theorem or_add {a b k : Nat} (ha : a < 2 ^ k) : a ||| (b * 2 ^ k) = a + b * 2 ^ k := by
  have := Nat.shiftLeft_add_eq_or_of_lt ha b
  rw [Nat.shiftLeft_eq] at this
  rw [Nat.or_comm, ← this, Nat.add_comm]
set_option maxHeartbeats 1000000 in
set_option maxRecDepth 100000 in
theorem number_any (s : ByteArray) (w : World) (hm : s.size ≤ 8) (hn : numL s.data.toList < 9223372036854775808) :
    Calls Tryd.prog 41 #[.string s] w fun e w' => e = .returned (.int .i64 (numL s.data.toList : Int)) ∧ w' = w := by
  go_enter Tryd.func41, Tryd.ntmps41
  go_wp2_with fail
  go_loop [7, 3, 4] (fun i n _ => ∃ k : Nat, k ≤ s.size ∧ i = .int .i64 k ∧ n = .int .i64 (numL (s.data.toList.take k) : Int)) (fun i _ _ => s.size - (intOf i).toNat)
  case atStart => exact ⟨0, Nat.zero_le _, rfl, rfl⟩
  case round =>
    obtain ⟨k, hk, rfl, rfl⟩ := hrel
    by_cases hlt : k < s.size
    · have hl : k < s.data.toList.length := by simpa using hlt
      have e0 : s.data.toList.take (k + 1) = s.data.toList.take k ++ [s[k]] := by rw [List.take_succ_eq_append_getElem hl]; rfl
      have e1 := numL_snoc (s.data.toList.take k) s[k]
      rw [← e0, List.length_take, Nat.min_eq_left (Nat.le_of_lt hl)] at e1
      have e2 := numL_take_le s.data.toList (k + 1)
      have e3 := numL_lt (s.data.toList.take k)
      rw [List.length_take, Nat.min_eq_left (Nat.le_of_lt hl)] at e3
      have e4 := or_add (a := numL (s.data.toList.take k)) (b := s[k].toNat) e3
      have e5 := or_i64 (numL (s.data.toList.take k)) (s[k].toNat * 2 ^ (8 * k)) (by omega) (by omega)
      rw [e4, ← e1] at e5
      have e6 : wrap64 ((s[k].toNat : Int) * 2 ^ (8 * k)) = ((s[k].toNat * 2 ^ (8 * k) : Nat) : Int) := by
        rw [show ((s[k].toNat : Int) * 2 ^ (8 * k)) = ((s[k].toNat * 2 ^ (8 * k) : Nat) : Int) by push_cast; rfl]
        have h : s[k].toNat * 2 ^ (8 * k) < 9223372036854775808 := by omega
        generalize s[k].toNat * 2 ^ (8 * k) = z at *
        simp [wrap64, IntKind.wrap, IntKind.bits, IntKind.signed]
        omega
      have HE : Hid (_ = _) := e5
      have HE6 : Hid (_ = _) := e6
      have HE7 : Hid (wrap64 (s[k].toNat : Int) = (s[k].toNat : Int)) := by
        show _ = _
        have := s[k].toNat_lt
        simp [wrap64, IntKind.wrap, IntKind.bits, IntKind.signed]
        omega
      clear e0 e1 e2 e3 e4 e5 e6
      go_wp2_with fail
      go_round
      case rel => exact ⟨k + 1, by omega, by go_num, by rw [HE7.out, HE6.out, HE.out]⟩
      case measure => simp [intOf]; omega
    · go_wp2_with fail
      go_ret
      have : s.data.toList.take k = s.data.toList := List.take_of_length_le (by simp; omega)
      exact ⟨by rw [this]; rfl, rfl⟩
end Go.Proofs.YtikkakdeapbioaaDoor
