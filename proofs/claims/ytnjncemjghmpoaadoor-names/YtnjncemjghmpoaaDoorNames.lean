/- The walk of Names over the landed code: the constants and the errors have the document's numbers. No condition. -/
import Derived.Test.YtnjncemjghmpoaaDoorProg
import Derived.WalkKit
import Derived.WalkSpells
import Derived.WalkLawsBesides
import Derived.Deep.QuietTactic
import Derived.BigQuiet
namespace Go.Proofs.YtnjncemjghmpoaaDoor
open Go.RowKit

theorem ret_bool {a b : Bool} (h : a = b) : Ending.returned (.bool a) = .returned (.bool b) := by rw [h]
/-- the slice's cells hold these numbers -/
def IntsAt (w : World) (a : Option Addr) (zs : List Int) : Prop :=
  zs = [] ∨ ∃ b o, a = some ⟨b, o, none⟩ ∧ ∀ j, j < zs.length → w.cell? ⟨b, o + j, none⟩ = some (.int .i64 (zs.getD j 0))

theorem eq_len_no {zs ys : List Int} (h : ¬ zs.length = ys.length) : (zs == ys) = false := by
  rw [beq_eq_false_iff_ne]; intro e; exact h (by rw [e])
theorem take_step {zs ys : List Int} {k : Nat} (h1 : k < zs.length) (h2 : zs.length = ys.length) (h : zs.take k = ys.take k) (he : (zs[k] != ys[k]) = false) : zs.take (k + 1) = ys.take (k + 1) := by
  simp at he
  rw [List.take_succ_eq_append_getElem h1, List.take_succ_eq_append_getElem (by omega), h, he]
theorem eq_at_no {zs ys : List Int} {k : Nat} (h1 : k < zs.length) (h2 : k < ys.length) (he : (zs[k] != ys[k]) = true) : (zs == ys) = false := by
  rw [beq_eq_false_iff_ne]; intro e; subst e; simp at he
theorem eq_all {zs ys : List Int} {k : Nat} (hk : ¬ k < zs.length) (h2 : zs.length = ys.length) (h : zs.take k = ys.take k) : (zs == ys) = true := by
  rw [List.take_of_length_le (by omega), List.take_of_length_le (by omega)] at h
  simp [h]

theorem sn_any (a1 a2 : Option Addr) (c1 c2 : Nat) (zs ys : List Int) (w : World) (h1 : IntsAt w a1 zs) (h2 : IntsAt w a2 ys) (m1 : zs.length ≤ 1000000) (m2 : ys.length ≤ 1000000) :
    Calls Tryd.prog 5 #[.slice a1 zs.length c1, .slice a2 ys.length c2] w fun e w' => e = .returned (.bool (zs == ys)) ∧ ∃ m, w' = w.drewN m := by
  by_cases hl : zs.length = ys.length
  · by_cases h0 : zs = []
    · subst h0
      have hy : ys = [] := by cases ys with | nil => rfl | cons => simp at hl
      subst hy
      go_enter Tryd.func5, Tryd.ntmps5
      go_wp2
      refine wp_loop_rounds 1 ?_
      rw [rounds_succ]
      go_wp2
      go_ret
      exact ⟨rfl, 0, rfl⟩
    · obtain ⟨b, o, rfl, hc1⟩ := h1.resolve_left h0
      obtain ⟨b', o', rfl, hc2⟩ := h2.resolve_left (by intro e; subst e; simp at hl; exact h0 hl)
      have hl' : ((zs.length : Int) == (ys.length : Int)) = true := by simp [hl]
      have HL : Hid (zs.length = ys.length) := hl
      clear hl
      go_enter Tryd.func5, Tryd.ntmps5
      go_wp2
      go_loopw [5] (fun i wr => ∃ k : Nat, k ≤ zs.length ∧ i = .int .i64 k ∧ Hid (zs.take k = ys.take k) ∧ ∃ m, wr = w.drewN m) (fun i _ => zs.length - (intOf i).toNat)
      case atStart => exact ⟨0, Nat.zero_le _, rfl, show Hid _ from rfl, 0, rfl⟩
      case round =>
        obtain ⟨k, hk, rfl, ht, m, rfl⟩ := hrel
        by_cases hlt : k < zs.length
        · have g1 := hc1 k hlt
          have g2 := hc2 k (by rw [← HL.out]; exact hlt)
          have hlt2 : k < ys.length := by rw [← HL.out]; exact hlt
          clear hc1 hc2
          go_wp2
          go_quiet (fail)
          go_wp2
          · go_ret
            exact ⟨ret_bool (eq_at_no hlt hlt2 ‹_›).symm, _, World.drewN_drewN ..⟩
          · go_roundw
            case rel => exact ⟨k + 1, by omega, by go_num, show Hid _ from take_step hlt HL.out ht.out ‹_›, _, rfl⟩
            case measure => simp [intOf]; omega
        · go_wp2
          go_ret
          exact ⟨ret_bool (eq_all hlt HL.out ht.out).symm, _, rfl⟩
  · have hl' : ((zs.length : Int) == (ys.length : Int)) = false := by simp; omega
    go_enter Tryd.func5, Tryd.ntmps5
    go_wp2
    go_ret
    exact ⟨by rw [eq_len_no hl]; rfl, 0, rfl⟩
@[go_sem] theorem as23 (v : Value) (w : World) : (Instr.typeAssert (.iface 23 v) 27 23 true).run Tryd.prog w = .ok (.tuple #[v, .bool true]) w := by kernel_rfl
theorem same_eq (n : Int) (w : World) (h : 0 < n) : Calls Tryd.prog 4 #[.iface 23 (.int .i64 n), .int .i64 n] w fun e w' => e = .returned (.bool true) ∧ w' = w := by
  go_enter Tryd.func4, Tryd.ntmps4
  go_wp2
  go_ret
  exact ⟨ret_bool (by simp), rfl⟩
theorem ret_str {a b : ByteArray} (h : a = b) : Ending.returned (.string a) = .returned (.string b) := by rw [h]
set_option maxRecDepth 100000 in
theorem small_10 (w : World) : Calls Tryd.prog 10 #[.int .i64 10] w fun e w' => e = .returned (.string ⟨#[49, 48]⟩) ∧ w' = w := by
  go_enter Tryd.func10, Tryd.ntmps10
  go_wp2
  go_ret
  refine ⟨?_, rfl⟩
  exact ret_str (by decide +kernel)
theorem error_10 (w : World) : Calls Tryd.prog 6 #[.int .i64 10] w fun e w' => e = .returned (.string ⟨#[119, 114, 105, 116, 107, 101, 101, 112, 58, 32, 101, 114, 114, 111, 114, 32, 49, 48]⟩) ∧ w' = w := by
  go_enter Tryd.func6, Tryd.ntmps6
  go_wp2_with (first | (go_at_call 10; refine (small_10 _).mono ?_; rintro e w' ⟨rfl, rfl⟩) | (go_at_call 7; go_in) | (go_at_call 8; go_in) | (go_at_call 9; go_in))
  go_ret
  refine ⟨?_, rfl⟩
  exact ret_str (by decide +kernel)
/-- a new block of numbers -/
theorem cell_new_ints (w : World) (l : List Int) (c : Array Value) (t : TypeId) (hc : c = (l.map (Value.int .i64)).toArray) (j : Nat) (h : j < l.length) : (w.alloc (.cells c t)).cell? ⟨w.heap.size, 0 + j, none⟩ = some (.int .i64 (l.getD j 0)) := by
  subst hc
  rw [World.cell?_alloc_new]
  simp [h]
def nums : List Int := [1, 2, 4, 7, 1, 2, 4, 5, 10, 999, 99, 8, 3, 8, 24, 62, 60, 48, 200, 80, 60]
set_option maxHeartbeats 1000000 in
theorem names_walk (w : World) : Calls Tryd.prog 3 #[] w fun e w' => e = .returned (.bool true) ∧ Below w.heap.size w w' := by
  go_enter Tryd.func3, Tryd.ntmps3
  go_wp2
  refine wp_loop_rounds 11 ?_
  rw [rounds_succ]
  go_wp2_with (go_at_call 4; refine (same_eq _ _ (by omega)).mono ?_; rintro e w' ⟨rfl, rfl⟩)
  rw [rounds_succ]
  go_wp2_with (go_at_call 4; refine (same_eq _ _ (by omega)).mono ?_; rintro e w' ⟨rfl, rfl⟩)
  rw [rounds_succ]
  go_wp2_with (go_at_call 4; refine (same_eq _ _ (by omega)).mono ?_; rintro e w' ⟨rfl, rfl⟩)
  rw [rounds_succ]
  go_wp2_with (go_at_call 4; refine (same_eq _ _ (by omega)).mono ?_; rintro e w' ⟨rfl, rfl⟩)
  rw [rounds_succ]
  go_wp2_with (go_at_call 4; refine (same_eq _ _ (by omega)).mono ?_; rintro e w' ⟨rfl, rfl⟩)
  rw [rounds_succ]
  go_wp2_with (go_at_call 4; refine (same_eq _ _ (by omega)).mono ?_; rintro e w' ⟨rfl, rfl⟩)
  rw [rounds_succ]
  go_wp2_with (go_at_call 4; refine (same_eq _ _ (by omega)).mono ?_; rintro e w' ⟨rfl, rfl⟩)
  rw [rounds_succ]
  go_wp2_with (go_at_call 4; refine (same_eq _ _ (by omega)).mono ?_; rintro e w' ⟨rfl, rfl⟩)
  rw [rounds_succ]
  go_wp2_with (go_at_call 4; refine (same_eq _ _ (by omega)).mono ?_; rintro e w' ⟨rfl, rfl⟩)
  rw [rounds_succ]
  go_wp2_with (go_at_call 4; refine (same_eq _ _ (by omega)).mono ?_; rintro e w' ⟨rfl, rfl⟩)
  rw [rounds_succ]
  go_wp2_with (go_at_call 4; refine (same_eq _ _ (by omega)).mono ?_; rintro e w' ⟨rfl, rfl⟩)
  refine (sn_any _ _ _ _ nums nums _ (.inr ⟨_, _, rfl, ?_⟩) (.inr ⟨_, _, rfl, ?_⟩) (by decide) (by decide)).mono ?_
  · intro j hj
    rw [World.cell?_alloc_past _ _ _ (by simp; omega), World.cell?_alloc_past _ _ _ (by simp)]
    exact cell_new_ints w nums _ 3 rfl j hj
  · intro j hj
    rw [World.cell?_alloc_past _ _ _ (by simp)]
    have h1 := cell_new_ints (w.alloc (.cells (nums.map (Value.int .i64)).toArray 3)) nums (nums.map (Value.int .i64)).toArray 3 rfl j hj
    rw [show (w.alloc (.cells (nums.map (Value.int .i64)).toArray 3)).heap.size = w.heap.size + 1 by simp] at h1
    exact h1
  rintro e w' ⟨rfl, m, rfl⟩
  go_wp2_with (go_at_call 6; refine (error_10 _).mono ?_; rintro e w' ⟨rfl, rfl⟩)
  go_ret

  exact ⟨rfl, below_drewN ((((Below.refl _ _).alloc (Nat.le_refl _) _).alloc (by simp) _).alloc (by simp; omega) _) _⟩
end Go.Proofs.YtnjncemjghmpoaaDoor
