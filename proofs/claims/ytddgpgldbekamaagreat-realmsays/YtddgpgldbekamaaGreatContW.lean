/- slices.Contains at numbers and at notes; realm.withoutEnclosed, forget (E4). -/
import Derived.Test.YtddgpgldbekamaaGreatLeaveW
import Derived.Test.YtddgpgldbekamaaGreatFindW
import Derived.Test.YtddgpgldbekamaaGreatWithoutW
import Derived.Test.YtddgpgldbekamaaGreatBox
import Derived.Deep.QuietTactic
import Derived.BigQuiet
import Derived.WalkSmall
import Derived.Laws.StructEq
set_option linter.unusedSimpArgs false
set_option linter.unnecessarySimpa false
set_option linter.unusedVariables false
namespace Go.Proofs.YtddgpgldbekamaaGreat
open Go.RowKit Go.Lib


def isN (n z : Int) : Bool := n == z
theorem inB_idx (zs : List Int) (n : Int) : decide (0 ≤ idx (isN n) zs) = inB zs n := by
  rcases idx_cases (isN n) zs with ⟨h1, h2⟩ | ⟨j, x, h1, h2, h3, _⟩
  · rw [h1]
    have : ¬ n ∈ zs := fun hm => by have := List.find?_eq_none.1 h2 n hm; simp [isN] at this
    simp [inB, this]
  · rw [h1]
    have hx : n = x := by simpa [isN] using h3
    have : n ∈ zs := by rw [hx]; exact List.mem_of_getElem? h2
    simp [inB, this]
set_option maxHeartbeats 1000000 in
theorem indexI_some (b o c : Nat) (zs : List Int) (n : Int) (w : World) (hw : ∀ j, j < zs.length → w.cell? ⟨b, o + j, none⟩ = some (.int .i64 (zs.getD j 0))) (hm : zs.length ≤ 1000000) :
    Calls Tryz.prog 106 #[.slice (some ⟨b, o, none⟩) zs.length c, .int .i64 n] w fun e w' => e = .returned (.int .i64 (idx (isN n) zs)) ∧ w' = w := by
  go_enter Tryz.func106, Tryz.ntmps106
  go_wp2
  go_loopw [8] (fun i wr => ∃ k : Nat, k ≤ zs.length ∧ i = .int .i64 k ∧ Hid (idxFrom (isN n) (zs.drop k) k = idx (isN n) zs) ∧ wr = w) (fun i _ => zs.length - (intOf i).toNat)
  case atStart => exact ⟨0, Nat.zero_le _, rfl, show Hid _ from rfl, rfl⟩
  case round =>
    obtain ⟨k, hk, rfl, hn, rfl⟩ := hrel
    by_cases hlt : k < zs.length
    · have q := hw k hlt
      rw [getD_at hlt] at q
      have hx : zs[k]? = some zs[k] := List.getElem?_eq_getElem hlt
      have HX : Hid (zs[k]? = some zs[k]) := hx
      clear hw hx
      generalize zs[k] = z at *
      cases hq : isN n z with
      | true =>
        have d : (n == z) = true := hq
        have hf := idx_yes HX.out hq hn.out
        have HF : Hid (idx (isN n) zs = (k : Int)) := hf
        clear hf hq
        go_wp2
        go_ret
        exact ⟨retInt HF.out.symm, rfl⟩
      | false =>
        have d : (n == z) = false := hq
        have hf := idx_no HX.out hq hn.out
        have HF : Hid (idxFrom (isN n) (zs.drop (k + 1)) (k + 1) = idx (isN n) zs) := hf
        clear hf hq
        go_wp2
        go_roundw
        case rel => exact ⟨k + 1, by omega, by go_num, HF, trivial⟩
        case measure => simp [intOf]; omega
    · have HF : Hid (idx (isN n) zs = -1) := idx_end hlt hn.out
      clear hw
      go_wp2
      go_ret
      exact ⟨retInt HF.out.symm, rfl⟩
theorem contI_any (a : Option Addr) (c : Nat) (zs : List Int) (n : Int) (w : World) (hw : IntsAt w a zs) (hm : zs.length ≤ 1000000) :
    Calls Tryz.prog 83 #[.slice a zs.length c, .int .i64 n] w fun e w' => e = .returned (.bool (inB zs n)) ∧ w' = w := by
  have hI : Calls Tryz.prog 106 #[.slice a zs.length c, .int .i64 n] w fun e w' => e = .returned (.int .i64 (idx (isN n) zs)) ∧ w' = w := by
    rcases hw with rfl | ⟨b, o, rfl, hx⟩
    · go_enter Tryz.func106, Tryz.ntmps106
      go_wp2
      refine wp_loop_rounds 1 ?_
      rw [rounds_succ]
      go_wp2
      go_ret
      exact ⟨rfl, rfl⟩
    · exact indexI_some b o c zs n w hx hm
  have HB : Hid (decide (0 ≤ idx (isN n) zs) = inB zs n) := inB_idx zs n
  clear hw
  go_enter Tryz.func83, Tryz.ntmps83
  go_wp2_with fail
  refine hI.mono ?_
  rintro e w' ⟨rfl, hw'⟩
  rw [hw']
  clear hw' w' hI
  generalize hg : idx (isN n) zs = I at *
  clear hg
  go_wp2_with fail
  go_ret
  exact ⟨retBool HB.out, rfl⟩
/-! ### notes -/
def sameN (n x : Nt) : Bool := decide (n.port = x.port ∧ n.data.toList = x.data.toList ∧ n.badge = x.badge ∧ n.writ = x.writ)
theorem sameN_self (n : Nt) : sameN n n = true := by simp [sameN]
theorem sameN_port {n x : Nt} (h : sameN n x = true) : n.port = x.port := by
  unfold sameN at h
  exact (of_decide_eq_true h).1
theorem eqNt (x y : Nt) (w : World) : (binOp .eql 52 (.agg #[.int .i64 x.port, .string x.data, .int .i64 x.badge, .int .i64 x.writ]) (.agg #[.int .i64 y.port, .string y.data, .int .i64 y.badge, .int .i64 y.writ])).run Tryz.prog w = .ok (.bool (sameN x y)) w := by
  have u3 := Tryz.underlying3
  have a3 := Tryz.isAgg3
  have z3 := Tryz.sizeOf3
  have u9 := Tryz.underlying9
  have a9 := Tryz.isAgg9
  have z9 := Tryz.sizeOf9
  have hS : Tryz.prog.underlying 52 = some (.struct (Tryz.prog.fieldsOf 52)) := by kernel_rfl
  have hp : Tryz.prog.stoodInHeld 52 = false := by kernel_rfl
  rw [run_eql_struct, show (10000 : Nat) = 9999 + 1 from rfl, run_equalIn_agg w 9999 52 _ _ hS hp]
  simp only [Program.fieldsOf, Tryz.underlying52]
  go_simp
  unfold sameN
  by_cases h1 : x.port = y.port <;> by_cases h2 : x.data.toList = y.data.toList <;> by_cases h3 : x.badge = y.badge <;> by_cases h4 : x.writ = y.writ <;> simp [h1, h2, h3, h4]
set_option maxHeartbeats 1000000 in
set_option maxRecDepth 100000 in
theorem indexN_some (b o c : Nat) (l : List Nt) (n : Nt) (w : World) (hw : ∀ j x, l[j]? = some x → NtAt w b (o + j * 4) x) (hb : b < w.heap.size) (hm : l.length ≤ 1000000) :
    Calls Tryz.prog 102 #[.slice (some ⟨b, o, none⟩) l.length c, .agg #[.int .i64 n.port, .string n.data, .int .i64 n.badge, .int .i64 n.writ]] w fun e w' => e = .returned (.int .i64 (idx (sameN n) l)) ∧ Below w.heap.size w w' := by
  have bN := Bx.new w [.int .i64 n.port, .string n.data, .int .i64 n.badge, .int .i64 n.writ] 52
  have bl0 : Below w.heap.size w (w.alloc (.cells #[.int .i64 n.port, .string n.data, .int .i64 n.badge, .int .i64 n.writ] 52)) := (Below.refl _ _).alloc (Nat.le_refl _) _
  go_enter Tryz.func102, Tryz.ntmps102
  go_wp2
  go_loopw [8] (fun i wr => ∃ k : Nat, k ≤ l.length ∧ i = .int .i64 k ∧ Hid (idxFrom (sameN n) (l.drop k) k = idx (sameN n) l) ∧ Below w.heap.size w wr ∧ Bx wr w.heap.size [.int .i64 n.port, .string n.data, .int .i64 n.badge, .int .i64 n.writ]) (fun i _ => l.length - (intOf i).toNat)
  case atStart => exact ⟨0, Nat.zero_le _, rfl, show Hid _ from rfl, bl0, bN⟩
  case round =>
    obtain ⟨k, hk, rfl, hn, hbl, bx⟩ := hrel
    by_cases hlt : k < l.length
    · obtain ⟨x, hx⟩ : ∃ x, l[k]? = some x := ⟨l[k], List.getElem?_eq_getElem hlt⟩
      obtain ⟨q0, q1, q2, q3⟩ := (hw k x hx).below hbl hb
      obtain ⟨p0, p1, p2, p3⟩ := bx.four
      have hz := bx.1
      have hbz : b < wr.heap.size := Nat.lt_of_lt_of_le hb hbl.size
      have HX : Hid (l[k]? = some x) := hx
      clear hw hx
      have heq : Sem.run Tryz.prog (binOp .eql 52 (.agg #[.int .i64 n.port, .string n.data, .int .i64 n.badge, .int .i64 n.writ]) (.agg #[.int .i64 x.port, .string x.data, .int .i64 x.badge, .int .i64 x.writ])) = fun w => .ok (.bool (sameN n x)) w := funext fun w => eqNt n x w
      have heq' : ∀ w, Sem.run Tryz.prog (binOp .eql 52 (.agg #[.int .i64 n.port, .string n.data, .int .i64 n.badge, .int .i64 n.writ]) (.agg #[.int .i64 x.port, .string x.data, .int .i64 x.badge, .int .i64 x.writ])) w = .ok (.bool (sameN n x)) w := fun w => eqNt n x w
      clear heq
      cases hq : sameN n x with
      | true =>
        rw [hq] at heq'
        go_wp2_with fail
        go_quiet (fail)
        go_wp2_with fail
        go_ret
        exact ⟨retInt (idx_yes HX.out hq hn.out).symm, below_drewN hbl _⟩
      | false =>
        rw [hq] at heq'
        go_wp2_with fail
        go_quiet (fail)
        go_wp2_with fail
        go_roundw
        case rel => exact ⟨k + 1, by omega, by go_num, show Hid _ from idx_no HX.out hq hn.out, below_drewN hbl _, bx.below (below_drewN (Below.refl _ _) _)⟩
        case measure => simp [intOf]; omega
    · have HF : Hid (idx (sameN n) l = -1) := idx_end hlt hn.out
      clear hw
      go_wp2
      go_ret
      exact ⟨retInt HF.out.symm, hbl⟩
theorem any_idx {α : Type} (p : α → Bool) (l : List α) : decide (0 ≤ idx p l) = l.any p := by
  rcases idx_cases p l with ⟨h1, h2⟩ | ⟨j, x, h1, h2, h3, _⟩
  · rw [h1]
    have : l.any p = false := by
      rw [List.any_eq_false]
      intro x hx
      have := List.find?_eq_none.1 h2 x hx
      simpa using this
    rw [this]; rfl
  · rw [h1]
    have : l.any p = true := List.any_eq_true.2 ⟨x, List.mem_of_getElem? h2, h3⟩
    rw [this]; simp
theorem contN_any (a : Option Addr) (c : Nat) (l : List Nt) (n : Nt) (w : World) (hw : NtsAt w a l) (hm : l.length ≤ 1000000) :
    Calls Tryz.prog 79 #[.slice a l.length c, .agg #[.int .i64 n.port, .string n.data, .int .i64 n.badge, .int .i64 n.writ]] w fun e w' => e = .returned (.bool (l.any (sameN n))) ∧ Below w.heap.size w w' := by
  have hI : ∀ w, NtsAt w a l → Calls Tryz.prog 102 #[.slice a l.length c, .agg #[.int .i64 n.port, .string n.data, .int .i64 n.badge, .int .i64 n.writ]] w fun e w' => e = .returned (.int .i64 (idx (sameN n) l)) ∧ Below w.heap.size w w' := by
    intro w hw
    rcases hw with rfl | ⟨b, o, rfl, hb, hx⟩
    · go_enter Tryz.func102, Tryz.ntmps102
      go_wp2
      refine wp_loop_rounds 1 ?_
      rw [rounds_succ]
      go_wp2
      go_ret
      exact ⟨rfl, (Below.refl _ _).alloc (Nat.le_refl _) _⟩
    · exact indexN_some b o c l n w hx hb hm
  have HB : Hid (decide (0 ≤ idx (sameN n) l) = l.any (sameN n)) := any_idx _ l
  have bl0 : Below w.heap.size w (w.alloc (.cells #[.int .i64 n.port, .string n.data, .int .i64 n.badge, .int .i64 n.writ] 52)) := (Below.refl _ _).alloc (Nat.le_refl _) _
  have hI0 := hI _ (hw.below bl0)
  clear hw hI
  go_enter Tryz.func79, Tryz.ntmps79
  go_wp2_with fail
  refine hI0.mono ?_
  rintro e w1 ⟨rfl, hb1⟩
  clear hI0
  generalize hg : idx (sameN n) l = I at *
  clear hg
  go_wp2_with fail
  go_ret
  exact ⟨retBool HB.out, Below_after bl0 hb1⟩
end Go.Proofs.YtddgpgldbekamaaGreat
