/- store.cut: a text in pieces, and who ranges over them (a range over a function). -/
import Derived.RangeFuncNested
import Derived.RangeFuncBound
import Derived.RangeFuncCalls
import Derived.RangeFuncLeaves
import Derived.Shelf.Abstract
import Derived.Shelf.RegionOpen
import Derived.WalkKit
import Derived.OwnWalkIn
import Derived.TacticsInMore
import Derived.LoopNIn
import Derived.LoopIn
import Derived.Test.YtikkakdeapbioaaDoorLitW
import Derived.Test.YtikkakdeapbioaaDoorStPure
set_option linter.unusedVariables false
set_option linter.unusedSimpArgs false
set_option linter.unnecessarySimpa false
namespace Go.Proofs.YtikkakdeapbioaaDoor
open Go.RowKit Go.Shelf
attribute [local go_sem] Oper.semAt_some

/-- the pieces of a text, each as long as f says of what is left -/
def pcs (f : ByteArray → Nat) : Nat → ByteArray → List ByteArray
  | 0, _ => []
  | n + 1, r => if r.size = 0 then [] else r.extract 0 (min (f r) r.size) :: pcs f n (r.extract (min (f r) r.size) r.size)
/-- what is asked of who says how long -/
def LongP (M : Nat) (g : Nat) (f : ByteArray → Nat) : Prop :=
  ∀ (r : ByteArray) (W : World), 0 < r.size → r.size ≤ M → Calls Tryd.prog g #[.string r] W fun e w' => e = .returned (.int .i64 (f r : Int)) ∧ Below W.heap.size W w'
theorem isEmpty_size (s : ByteArray) : s.toList.isEmpty = decide (s.size = 0) := by
  obtain ⟨⟨l⟩⟩ := s
  rw [ByteArray.toList_eq]
  cases l <;> rfl
theorem pcs_end (f : ByteArray → Nat) (k : Nat) {r : ByteArray} (h : r.size = 0) : pcs f k r = [] := by
  cases k with
  | zero => rfl
  | succ k => unfold pcs; rw [if_pos h]
/-- what a round keeps for the next one: the box of who says how long -/
def KpC (Bl : Nat) (W W' : World) : Prop := W'.cell? ⟨Bl, 0, none⟩ = W.cell? ⟨Bl, 0, none⟩ ∧ W.heap.size ≤ W'.heap.size
set_option maxHeartbeats 2000000 in
set_option maxRecDepth 100000 in
theorem cut1_in (n : Nat) (hn : 1 ≤ n) (g : Nat) (eg : ∀ args w, (callFunc g args).run Tryd.prog w = .ok (.enter g args) w) (f : ByteArray → Nat) (M : Nat) (hM : M ≤ 100000) (hf : ∀ r, r.size ≤ M → 1 ≤ f r ∧ f r ≤ 100000) (hg : LongP M g f) (l Bt Bl : Nat) (t : ByteArray) (ht : t.size ≤ M) (J Jx : List ByteArray → World → Prop) (W : World)
    (hJ : AbidesFrom W.heap.size J)
    (hY : ∀ pre x W1, 1 ≤ x.size ∧ x.size ≤ M → J pre W1 → pre.length < (pcs f t.size t).length → YieldAt Fence.wide (n - 1) Tryd.prog l #[.string x] W1 fun e W' =>
      (e = .returned (.bool true) ∧ J (pre ++ [x]) W' ∧ KpC Bl W1 W') ∨ (e = .returned (.bool false) ∧ Jx (pre ++ [x]) W'))
    (hBt : W.cell? ⟨Bt, 0, none⟩ = some (.string t)) (hBl : W.cell? ⟨Bl, 0, none⟩ = some (.func (.func g) #[] #[])) (hlt : Bl < W.heap.size) (h0 : J [] W) :
    CallsIn Fence.wide n Tryd.prog 85 #[.func (.yield l) #[] #[], .pointer (some ⟨Bt, 0, none⟩), .pointer (some ⟨Bl, 0, none⟩)] W fun e W' => (∃ v, e = .returned v) ∧
      ((∃ ys, ys = pcs f t.size t ∧ J ys W') ∨ (∃ pre, pre <+: pcs f t.size t ∧ Jx pre W')) := by
  have HG : Hid (LongP M g f) := hg
  clear hg
  refine callsIn_of_wp Tryd.func85 rfl trivial ?_ rfl
  simp only [Tryd.ntmps85, List.size_toArray, List.length_cons, List.length_nil, Nat.reduceAdd, Nat.reduceSub, Array.replicate_succ, Array.replicate_zero, List.push_toArray, List.append_toArray, List.nil_append, List.cons_append]
  gi_wp2
  gi_loopw [4] (fun r wr => ∃ (pre : List ByteArray) (rest : ByteArray) (k : Nat), r = .string rest ∧ rest.size ≤ k ∧ k ≤ M ∧ pcs f t.size t = pre ++ pcs f k rest ∧ wr.cell? ⟨Bl, 0, none⟩ = some (.func (.func g) #[] #[]) ∧ Bl < wr.heap.size ∧ J pre wr)
    (fun r _ => match r with | .string s => s.size | _ => 0)
  case atStart => exact ⟨[], t, t.size, rfl, Nat.le_refl _, ht, rfl, hBl, hlt, h0⟩
  case round =>
    obtain ⟨pre, rest, k, rfl, hk, hkM, hp, hcl, hlt2, hJs⟩ := hrel
    by_cases hz : rest.size = 0
    · have hE : rest.toList.isEmpty = true := by rw [isEmpty_size]; simp [hz]
      gi_wp2
      go_end0
      exact ⟨⟨_, rfl⟩, .inl ⟨pre, by rw [hp, pcs_end f k hz, List.append_nil], hJs⟩⟩
    · have hE : rest.toList.isEmpty = false := by rw [isEmpty_size]; simp [hz]
      obtain ⟨k, rfl⟩ : ∃ j, k = j + 1 := ⟨k - 1, by omega⟩
      obtain ⟨f1, f2⟩ := hf rest (by omega)
      have hcon := (callsIn_wide (n := n - 1)).2 (HG.out rest wr (by omega) (by omega))
      have hpp : pcs f (k + 1) rest = rest.extract 0 (min (f rest) rest.size) :: pcs f k (rest.extract (min (f rest) rest.size) rest.size) := by
        conv => lhs; unfold pcs
        rw [if_neg hz]
      generalize hm : min (f rest) rest.size = m at hpp
      have hm1 : 1 ≤ m ∧ m ≤ rest.size := by omega
      have HP : Hid (pcs f t.size t = pre ++ pcs f (k + 1) rest) := hp
      have HPP : Hid (pcs f (k + 1) rest = rest.extract 0 m :: pcs f k (rest.extract m rest.size)) := hpp
      have HM : Hid (min (f rest) rest.size = m) := hm
      clear hp hpp hm
      generalize hfr : f rest = fr at *
      have hJ1 : ∀ w1, Below wr.heap.size wr w1 → J pre w1 := fun w1 hb => hJ pre wr w1 none hJs ⟨hb.os, hb.tape, hb.output, hb.size, fun b hlt _ => hb.block b hlt⟩ (fun r e => by cases e)
      have hlen : pre.length < (pcs f t.size t).length := by rw [HP.out, HPP.out]; simp
      have hk2 : (rest.extract m rest.size).size ≤ k := by rw [ByteArray.size_extract]; omega
      have hcase : (fr = m ∧ m < rest.size) ∨ (m = rest.size ∧ fr = m) ∨ (m = rest.size ∧ m < fr) := by have := HM.out; omega
      have hnext : ∀ W2, J (pre ++ [rest.extract 0 m]) W2 → KpC Bl wr W2 → ∃ (pre' : List ByteArray) (rest' : ByteArray) (k' : Nat), Value.string (rest.extract m rest.size) = Value.string rest' ∧ rest'.size ≤ k' ∧ k' ≤ M ∧ pcs f t.size t = pre' ++ pcs f k' rest' ∧ W2.cell? ⟨Bl, 0, none⟩ = some (.func (.func g) #[] #[]) ∧ Bl < W2.heap.size ∧ J pre' W2 :=
        fun W2 hj hk => ⟨_, _, k, rfl, hk2, by omega, by rw [HP.out, HPP.out, List.append_assoc]; rfl, hk.1.trans hcl, Nat.lt_of_lt_of_le hlt2 hk.2, hj⟩
      have hY' := fun w1 (hb : Below wr.heap.size wr w1) => hY pre (rest.extract 0 m) w1 (by rw [ByteArray.size_extract]; omega) (hJ1 w1 hb) hlen
      have hpre : pre ++ [rest.extract 0 m] <+: pcs f t.size t := ⟨pcs f k (rest.extract m rest.size), by rw [HP.out, HPP.out, List.append_assoc]; rfl⟩
      have hb2 : ∀ w1 W2, Below wr.heap.size wr w1 → KpC Bl w1 W2 → KpC Bl wr W2 := fun w1 W2 hb hk => ⟨hk.1.trans (hb.cell (p := ⟨Bl, 0, none⟩) hlt2), Nat.le_trans hb.size hk.2⟩
      have hms : (rest.extract m rest.size).size < rest.size := by rw [ByteArray.size_extract]; omega
      clear hJ hY hJ1
      rcases hcase with ⟨rfl, h2⟩ | ⟨h1, h2⟩ | ⟨h1, h2⟩
      · gi_wp2_with fail
        refine ⟨trivial, hcon.mono ?_⟩
        rintro e w1 ⟨rfl, hb1⟩
        obtain ⟨fn, tmps, assign, body, hy, hR⟩ := hY' w1 hb1
        gi_wp2
        refine hR.mono ?_
        rintro e W3 (⟨rfl, hJ3, hk3⟩ | ⟨rfl, hJx3⟩)
        · gi_wp2
          go_roundw
          case rel => exact hnext W3 hJ3 (hb2 _ _ hb1 hk3)
          case measure => exact hms
        · gi_wp2
          refine bodyPost_ret (results_none rfl _ _ _) rfl ?_
          exact ⟨⟨_, rfl⟩, .inr ⟨_, hpre, hJx3⟩⟩
      · subst h2
        subst h1
        have e0 : rest.extract 0 rest.size = rest := by simp
        have e1 : rest.extract rest.size rest.size = (⟨#[]⟩ : ByteArray) := ByteArray.ext (by rw [ByteArray.data_extract]; exact Array.extract_empty_of_stop_le_start (Nat.le_refl _))
        rw [e0] at hY' hnext hpre
        rw [e1] at hnext hms
        gi_wp2_with fail
        refine ⟨trivial, hcon.mono ?_⟩
        rintro e w1 ⟨rfl, hb1⟩
        obtain ⟨fn, tmps, assign, body, hy, hR⟩ := hY' w1 hb1
        gi_wp2
        refine hR.mono ?_
        rintro e W3 (⟨rfl, hJ3, hk3⟩ | ⟨rfl, hJx3⟩)
        · gi_wp2
          go_roundw
          case rel => exact hnext W3 hJ3 (hb2 _ _ hb1 hk3)
          case measure => exact hms
        · gi_wp2
          refine bodyPost_ret (results_none rfl _ _ _) rfl ?_
          exact ⟨⟨_, rfl⟩, .inr ⟨_, hpre, hJx3⟩⟩
      · subst h1
        have e0 : rest.extract 0 rest.size = rest := by simp
        have e1 : rest.extract rest.size rest.size = (⟨#[]⟩ : ByteArray) := ByteArray.ext (by rw [ByteArray.data_extract]; exact Array.extract_empty_of_stop_le_start (Nat.le_refl _))
        rw [e0] at hY' hnext hpre
        rw [e1] at hnext hms
        gi_wp2_with fail
        refine ⟨trivial, hcon.mono ?_⟩
        rintro e w1 ⟨rfl, hb1⟩
        obtain ⟨fn, tmps, assign, body, hy, hR⟩ := hY' w1 hb1
        gi_wp2
        refine hR.mono ?_
        rintro e W3 (⟨rfl, hJ3, hk3⟩ | ⟨rfl, hJx3⟩)
        · gi_wp2
          go_roundw
          case rel => exact hnext W3 hJ3 (hb2 _ _ hb1 hk3)
          case measure => exact hms
        · gi_wp2
          refine bodyPost_ret (results_none rfl _ _ _) rfl ?_
          exact ⟨⟨_, rfl⟩, .inr ⟨_, hpre, hJx3⟩⟩
end Go.Proofs.YtikkakdeapbioaaDoor
