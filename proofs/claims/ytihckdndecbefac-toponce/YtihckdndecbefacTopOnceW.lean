/- TopOnce, walked. -/
import Derived.Test.YtihckdndecbefacGrownB
import Derived.Test.YtihckdndecbefacMadeW
import Derived.Test.YtihckdndecbefacGetAny
import Derived.Test.YtihckdndecbefacGoodW
import Derived.Test.YtihckdndecbefacOnceLaw
import Derived.Deep.QuietTactic
import Derived.BigQuiet
import Derived.Deep.RegionHeld3
set_option linter.unusedSimpArgs false
set_option linter.unnecessarySimpa false
set_option linter.unusedVariables false
namespace Go.Proofs.Ytihckdndecbefac
open Go.RowKit

set_option maxHeartbeats 2000000 in
set_option maxRecDepth 100000 in
theorem tonce_no (a : Option Addr) (c : Nat) (l : List Ac) (w : World) (hw : AcsAt w a l) (hm : l.length ≤ maxLen) (hq : lacB l 80 = false) :
    Calls Try.prog 4 #[.slice a l.length c] w fun e w' => e = .returned (.bool true) ∧ Below w.heap.size w w' := by
  have bl := Below.refl w.heap.size w
  go_enter Try.func4, Try.ntmps4
  have hcon := made_any w
  go_wp2_with fail
  refine hcon.mono ?_
  rintro e w1 ⟨rfl, hb1⟩
  clear hcon
  replace bl := Below_after bl hb1
  have hcon := grown_no a c l w1 (hw.below bl) hm hq
  go_wp2_with fail
  refine hcon.mono ?_
  rintro e w2 ⟨rfl, hb2⟩
  clear hcon
  replace bl := Below_after bl hb2
  replace bl := bl.alloc bl.size (.cells #[.slice none 0 0, .slice none 0 0, .slice none 0 0, .slice none 0 0, .int .i64 0, .int .i64 0] 29)
  have BZ := Bx.new w2 [.slice none 0 0, .slice none 0 0, .slice none 0 0, .slice none 0 0, .int .i64 0, .int .i64 0] 29
  go_wp2_with fail
  go_ret
  exact ⟨rfl, bl⟩
set_option maxHeartbeats 2000000 in
set_option maxRecDepth 100000 in
theorem tonce_yes (a : Option Addr) (c : Nat) (l : List Ac) (w : World) (hw : AcsAt w a l) (hm : l.length ≤ maxLen) (hq : lacB l 80 = true) :
    Calls Try.prog 4 #[.slice a l.length c] w fun e w' => e = .returned (.bool true) ∧ Below w.heap.size w w' := by
  have bl := Below.refl w.heap.size w
  have hlen := lac_len hq
  have hi := inv_grow l l.length (by omega)
  rw [List.take_length] at hi
  have hI : RmI (growR l) := ⟨hi.sz (by omega), hi.put, hi.wf⟩
  have hW := whole_grow l
  have hk : InvK 80 (growR l) := hi.mono (by omega)
  clear hi
  go_enter Try.func4, Try.ntmps4
  have hcon := made_any w
  go_wp2_with fail
  refine hcon.mono ?_
  rintro e w1 ⟨rfl, hb1⟩
  clear hcon
  replace bl := Below_after bl hb1
  have hg := grown_yes a c l w1 (hw.below bl) hm hq
  generalize growR l = g at hg hI hW hk
  clear hq hw hm hlen
  have hcon := hg
  clear hg
  go_wp2_with fail
  refine hcon.mono ?_
  rintro e w2 ⟨a0, a1, a2, a3, N0, N1, N2, N3, c0, c1, c2, c3, M, N, rfl, ⟨l0, l1, l2, l3, l4, l5⟩, hat, -, hb2⟩
  clear hcon
  replace bl := Below_after bl hb2
  replace hat := hat.below ((Below.refl _ _).alloc (Nat.le_refl _) (.cells #[.slice a0 N0 c0, .slice a1 N1 c1, .slice a2 N2 c2, .slice a3 N3 c3, .int .i64 M, .int .i64 N] 29))
  replace bl := bl.alloc bl.size (.cells #[.slice a0 N0 c0, .slice a1 N1 c1, .slice a2 N2 c2, .slice a3 N3 c3, .int .i64 M, .int .i64 N] 29)
  have BR := Bx.new w2 [.slice a0 N0 c0, .slice a1 N1 c1, .slice a2 N2 c2, .slice a3 N3 c3, .int .i64 M, .int .i64 N] 29
  have hz0 := hI.sz.w
  have hz1 := hI.sz.t
  have hz2 := hI.sz.h
  have hz3 := hI.sz.n
  have hgh := hW.gh
  have hcon := good_any a2 c2 g.hs _ hat.h (by simp [maxLen]; omega)
  rw [l2] at hcon
  have cR0 := (BR.2 0 _ rfl).1
  have cR1 := (BR.2 1 _ rfl).1
  have cR2 := (BR.2 2 _ rfl).1
  have cR3 := (BR.2 3 _ rfl).1
  have cR4 := (BR.2 4 _ rfl).1
  have cR5 := (BR.2 5 _ rfl).1
  have zR := BR.1
  go_wp2_with fail
  refine hcon.mono ?_
  rintro e w3 ⟨rr, rfl, hr, hb3⟩
  clear cR0 cR1 cR2 cR3 cR4 cR5 zR hcon
  replace BR := BR.below hb3
  replace hat := hat.below hb3
  replace bl := Below_after bl hb3
  have yR := BR.1
  obtain rfl := hr.2 hgh
  clear hr
  have hN0 : N0 ≤ 1000 := by omega
  have hN1 : N1 ≤ 1000 := by omega
  have hN2 : N2 ≤ 100 := by omega
  have hN3 : N3 ≤ 1000 := by omega
  have hone := hW.one
  have hlw := hW.lw
  have hlt0 := hW.lt
  have htp := hW.tp
  have hhin := hW.hin
  rw [l4] at hlw
  rw [l5] at hlt0
  clear hW hk
  go_wp2_with fail
  go_loopw [5] (fun i wr => ∃ k : Nat, k ≤ N0 ∧ i = .int .i64 k ∧ Below w3.heap.size w3 wr) (fun i _ => N0 - (intOf i).toNat)
  case atStart => exact ⟨0, Nat.zero_le _, rfl, Below.refl _ _⟩
  case round =>
    obtain ⟨k, hk', rfl, hbl⟩ := hrel
    clear yR
    replace BR := BR.below hbl
    replace hat := hat.below hbl
    replace bl := Below_after bl hbl
    have yR := BR.1
    have cR0 := (BR.2 0 _ rfl).1
    have cR1 := (BR.2 1 _ rfl).1
    have cR2 := (BR.2 2 _ rfl).1
    have cR3 := (BR.2 3 _ rfl).1
    have cR4 := (BR.2 4 _ rfl).1
    have cR5 := (BR.2 5 _ rfl).1
    have zR := BR.1
    by_cases hlt : k < N0
    rotate_left
    · clear hone hlw hbl
      go_wp2_with fail
      clear cR0 cR1 cR2 cR3 cR4 cR5 zR
      go_loopw [9] (fun i wr => ∃ k : Nat, k ≤ N2 ∧ i = .int .i64 k ∧ Below w.heap.size w wr ∧ Bx wr w2.heap.size [.slice a0 N0 c0, .slice a1 N1 c1, .slice a2 N2 c2, .slice a3 N3 c3, .int .i64 M, .int .i64 N] ∧ Hid (RmAt wr a0 a1 a2 a3 c0 c1 c2 c3 g)) (fun i _ => N2 - (intOf i).toNat)
      case atStart => exact ⟨0, Nat.zero_le _, rfl, bl, BR, hat⟩
      case round =>
        clear bl BR hat
        obtain ⟨j, hj', rfl, bl, BR, HAT⟩ := hrel
        have hat := HAT.out
        clear HAT
        have cR0 := (BR.2 0 _ rfl).1
        have cR1 := (BR.2 1 _ rfl).1
        have cR2 := (BR.2 2 _ rfl).1
        have cR3 := (BR.2 3 _ rfl).1
        have cR4 := (BR.2 4 _ rfl).1
        have cR5 := (BR.2 5 _ rfl).1
        have zR := BR.1
        by_cases hlt2 : j < N2
        rotate_left
        · clear hhin
          go_wp2_with fail
          clear cR0 cR1 cR2 cR3 cR4 cR5 zR
          go_loopw [10] (fun i wr => ∃ k : Nat, k ≤ N1 ∧ i = .int .i64 k ∧ Below w.heap.size w wr ∧ Bx wr w2.heap.size [.slice a0 N0 c0, .slice a1 N1 c1, .slice a2 N2 c2, .slice a3 N3 c3, .int .i64 M, .int .i64 N] ∧ Hid (RmAt wr a0 a1 a2 a3 c0 c1 c2 c3 g)) (fun i _ => N1 - (intOf i).toNat)
          case atStart => exact ⟨0, Nat.zero_le _, rfl, bl, BR, hat⟩
          case round =>
            clear bl BR hat
            obtain ⟨q, hq', rfl, bl, BR, HAT⟩ := hrel
            have hat := HAT.out
            clear HAT
            have cR0 := (BR.2 0 _ rfl).1
            have cR1 := (BR.2 1 _ rfl).1
            have cR2 := (BR.2 2 _ rfl).1
            have cR3 := (BR.2 3 _ rfl).1
            have cR4 := (BR.2 4 _ rfl).1
            have cR5 := (BR.2 5 _ rfl).1
            have zR := BR.1
            by_cases hlt3 : q < N1
            rotate_left
            · go_wp2_with fail
              go_ret
              exact ⟨rfl, bl⟩
            obtain ⟨t, ht⟩ : ∃ t, g.ts[q]? = some t := ⟨g.ts[q], List.getElem?_eq_getElem (by omega)⟩
            have hd1 : decide (N ≤ t.id) = false := decide_eq_false (by have := hlt0 t (List.mem_of_getElem? ht); omega)
            obtain ⟨b, o, rfl, hb, hww⟩ := hat.t.resolve_left (by rintro e; rw [e] at l1; simp at l1; omega)
            obtain ⟨p1, p2, p3⟩ := hww q t ht
            cases q with
            | zero =>
              have hd2 : decide ((0 : Int) < ((0 : Nat) : Int)) = false := by simp
              clear hww
              simp only [Nat.zero_mul, Nat.add_zero] at p1 p2 p3
              go_wp2_with fail
              go_quiet (fail)
              go_wp2_with fail
              go_roundw
              case rel => exact ⟨0 + 1, by omega, by go_num, below_drewN bl _, BR.below (below_drewN (Below.refl _ _) _), hat.below (below_drewN (Below.refl _ _) _)⟩
              case measure => simp [intOf]; omega
            | succ q =>
              obtain ⟨t', ht'⟩ : ∃ t', g.ts[q]? = some t' := ⟨g.ts[q], List.getElem?_eq_getElem (by omega)⟩
              have hd3 : decide (t.id ≤ t'.id) = false := decide_eq_false (by have := th_lt htp ht' ht; omega)
              obtain ⟨s1, s2, s3⟩ := hww q t' ht'
              have hd2 : decide ((0 : Int) < (q : Int) + 1) = true := decide_eq_true (by omega)
              clear hww ht ht'
              go_wp2_with fail
              go_quiet (fail)
              go_wp2_with fail
              go_roundw
              case rel => exact ⟨q + 1 + 1, by omega, by go_num, below_drewN bl _, BR.below (below_drewN (Below.refl _ _) _), hat.below (below_drewN (Below.refl _ _) _)⟩
              case measure => simp [intOf]; omega
        · obtain ⟨y, hy⟩ : ∃ y, g.hs[j]? = some y := ⟨g.hs[j], List.getElem?_eq_getElem (by omega)⟩
          have hf := find_pos_iff.2 (hhin y (List.mem_of_getElem? hy))
          obtain ⟨b, o, rfl, hb, hww⟩ := hat.h.resolve_left (by rintro e; rw [e] at l2; simp at l2; omega)
          obtain ⟨p1, p2, p3⟩ := hww j y hy
          clear hww hy
          have hfa := fun (W : World) (h : Below wr.heap.size wr W) => find_any a0 c0 g.ws y.writ W (hat.w.below h) (by omega)
          rw [l0] at hfa
          generalize find g.ws y.writ = f at hfa hf
          have hd1 : decide (f < 0) = false := decide_eq_false (by omega)
          go_wp2_with fail
          have mk : ∀ w' : World, Below wr.heap.size wr w' → Below wr.heap.size wr w' ∧ w'.cell? ⟨w2.heap.size, 0, none⟩ = some (.slice a0 N0 c0) ∧ w'.cell? ⟨w2.heap.size, 2, none⟩ = some (.slice (some ⟨b, o, none⟩) N2 c2) ∧ w'.cell? ⟨b, o + j * 3 + 2, none⟩ = some (.int .i64 y.writ) := fun w' h => ⟨h, by rw [(bcell h).1 _ _ zR]; exact cR0, by rw [(bcell h).1 _ _ zR]; exact cR2, by rw [(bcell h).1 _ _ hb]; exact p3⟩
          have hB0 : Below wr.heap.size wr wr.drew := below_drewN (Below.refl _ _) 1
          refine wp_region_held_drew (S := fun w' => Below wr.heap.size wr w' ∧ w'.cell? ⟨w2.heap.size, 0, none⟩ = some (.slice a0 N0 c0) ∧ w'.cell? ⟨w2.heap.size, 2, none⟩ = some (.slice (some ⟨b, o, none⟩) N2 c2) ∧ w'.cell? ⟨b, o + j * 3 + 2, none⟩ = some (.int .i64 y.writ)) (by kernel_rfl) ?_ (fun hHeld => ?_)
          · exact mk _ hB0
          refine wpAnyH_take (i := 0) (oi := ({ dst := some 96, op := Op.fieldAddr 29 (Operand.tmp 4) 0, type := 0, pos := "parts.go:242", after := #[], guard := none } : Oper)) (v := .pointer (some ⟨w2.heap.size, 0, none⟩)) rfl (by kernel_rfl) (by kernel_rfl) (by kernel_rfl) (fun _ _ _ h => h) (Or.inl ⟨by rfl, ?_⟩) (by assumption) ?_
          · intro w hSw; (try dsimp only at hSw); go_simp
          (try simp only [Act.put, List.setIfInBounds_toArray, List.set_cons_zero, List.set_cons_succ])
          refine wpAnyH_take (i := 1) (oi := ({ dst := some 97, op := Op.load 24 (Operand.tmp 96), type := 24, pos := "parts.go:242", after := #[{ on := 0, ground := Ground.data }], guard := none } : Oper)) (v := .slice a0 N0 c0) rfl (by kernel_rfl) (by kernel_rfl) (by kernel_rfl) (fun _ _ _ h => h) (Or.inl ⟨by rfl, ?_⟩) (by assumption) ?_
          · intro w hSw; (try dsimp only at hSw); go_simp
          (try simp only [Act.put, List.setIfInBounds_toArray, List.set_cons_zero, List.set_cons_succ])
          refine wpAnyH_take (i := 2) (oi := ({ dst := some 98, op := Op.fieldAddr 29 (Operand.tmp 4) 2, type := 0, pos := "parts.go:242", after := #[], guard := none } : Oper)) (v := .pointer (some ⟨w2.heap.size, 2, none⟩)) rfl (by kernel_rfl) (by kernel_rfl) (by kernel_rfl) (fun _ _ _ h => h) (Or.inl ⟨by rfl, ?_⟩) (by assumption) ?_
          · intro w hSw; (try dsimp only at hSw); go_simp
          (try simp only [Act.put, List.setIfInBounds_toArray, List.set_cons_zero, List.set_cons_succ])
          refine wpAnyH_take (i := 3) (oi := ({ dst := some 99, op := Op.load 26 (Operand.tmp 98), type := 26, pos := "parts.go:242", after := #[{ on := 2, ground := Ground.data }], guard := none } : Oper)) (v := .slice (some ⟨b, o, none⟩) N2 c2) rfl (by kernel_rfl) (by kernel_rfl) (by kernel_rfl) (fun _ _ _ h => h) (Or.inl ⟨by rfl, ?_⟩) (by assumption) ?_
          · intro w hSw; (try dsimp only at hSw); go_simp
          (try simp only [Act.put, List.setIfInBounds_toArray, List.set_cons_zero, List.set_cons_succ])
          refine wpAnyH_take (i := 4) (oi := ({ dst := some 100, op := Op.move (Operand.tmp 9), type := 3, pos := "parts.go:242", after := #[], guard := none } : Oper)) (v := .int .i64 j) rfl (by kernel_rfl) (by kernel_rfl) (by kernel_rfl) (fun _ _ _ h => h) (Or.inl ⟨by rfl, ?_⟩) (by assumption) ?_
          · intro w hSw; (try dsimp only at hSw); go_simp
          (try simp only [Act.put, List.setIfInBounds_toArray, List.set_cons_zero, List.set_cons_succ])
          refine wpAnyH_take (i := 5) (oi := ({ dst := some 101, op := Op.indexAddr 26 (Operand.tmp 99) (Operand.tmp 100), type := 0, pos := "parts.go:242", after := #[{ on := 3, ground := Ground.data }, { on := 4, ground := Ground.data }], guard := none } : Oper)) (v := .pointer (some ⟨b, o + j * 3, none⟩)) rfl (by kernel_rfl) (by kernel_rfl) (by kernel_rfl) (fun _ _ _ h => h) (Or.inl ⟨by rfl, ?_⟩) (by assumption) ?_
          · intro w hSw; (try dsimp only at hSw); go_simp
          (try simp only [Act.put, List.setIfInBounds_toArray, List.set_cons_zero, List.set_cons_succ])
          refine wpAnyH_take (i := 6) (oi := ({ dst := some 102, op := Op.fieldAddr 46 (Operand.tmp 101) 1, type := 0, pos := "parts.go:242", after := #[{ on := 5, ground := Ground.data }], guard := none } : Oper)) (v := .pointer (some ⟨b, o + j * 3 + 2, none⟩)) rfl (by kernel_rfl) (by kernel_rfl) (by kernel_rfl) (fun _ _ _ h => h) (Or.inl ⟨by rfl, ?_⟩) (by assumption) ?_
          · intro w hSw; (try dsimp only at hSw); go_simp
          (try simp only [Act.put, List.setIfInBounds_toArray, List.set_cons_zero, List.set_cons_succ])
          refine wpAnyH_take (i := 7) (oi := ({ dst := some 103, op := Op.load 3 (Operand.tmp 102), type := 3, pos := "parts.go:242", after := #[{ on := 6, ground := Ground.data }], guard := none } : Oper)) (v := .int .i64 y.writ) rfl (by kernel_rfl) (by kernel_rfl) (by kernel_rfl) (fun _ _ _ h => h) (Or.inl ⟨by rfl, ?_⟩) (by assumption) ?_
          · intro w hSw; (try dsimp only at hSw); go_simp
          (try simp only [Act.put, List.setIfInBounds_toArray, List.set_cons_zero, List.set_cons_succ])
          refine wpAnyH_ready (rs := [8]) (by kernel_rfl) (by simp) ?_
          refine AllReadyH.cons (o := ({ dst := some 104, op := Op.call { callee := Callee.value (Operand.func 13), args := #[Operand.tmp 97, Operand.tmp 103], argTypes := #[24, 3] }, type := 3, pos := "parts.go:242", after := #[{ on := 1, ground := Ground.data }, { on := 7, ground := Ground.data }], guard := none } : Oper)) rfl (fun K hK => ?_) AllReadyH.nil
          rw [if_pos (by rfl)]
          go_wp2_with (first | (go_at_call 13; refine Calls.mono (hfa _ hB0) ?_; rintro e w6 ⟨rfl, hb6⟩; have hB6 := Below_after hB0 hb6))
          refine hK.out _ _ ?_ (fun hHeld => ?_)
          · exact mk _ hB6
          clear hK K
          (try simp only [Act.put, List.setIfInBounds_toArray, List.set_cons_zero, List.set_cons_succ])
          refine wpAnyH_take (i := 9) (oi := ({ dst := some 105, op := Op.binOp BinOp.lss 3 (Operand.tmp 104) (Operand.const (Value.int IntKind.i64 0)) 3, type := 4, pos := "parts.go:242", after := #[{ on := 8, ground := Ground.data }], guard := none } : Oper)) (v := .bool false) rfl (by kernel_rfl) (by kernel_rfl) (by kernel_rfl) (fun _ _ _ h => h) (Or.inl ⟨by rfl, ?_⟩) (by assumption) ?_
          · intro w hSw; (try dsimp only at hSw); go_simp
          (try simp only [Act.put, List.setIfInBounds_toArray, List.set_cons_zero, List.set_cons_succ])
          refine wpAnyH_done (by kernel_rfl) ?_ _
          go_wp2_with fail
          go_roundw
          case rel => exact ⟨j + 1, by omega, by go_num, Below_after bl hB6, BR.below hB6, hat.below hB6⟩
          case measure => simp [intOf]; omega
    · obtain ⟨x, hx⟩ : ∃ x, g.ws[k]? = some x := ⟨g.ws[k], List.getElem?_eq_getElem (by omega)⟩
      have hxm := List.mem_of_getElem? hx
      have hx1 := hone x hxm
      have hx2 := hlw x hxm
      clear hone hlw
      obtain ⟨b, o, rfl, hb, hww⟩ := hat.w.resolve_left (by rintro e; rw [e] at l0; simp at l0; omega)
      obtain ⟨q1, q2, q3, q4, q5⟩ := hww k x hx
      clear hww q2 q3 q4 q5
      have hh0 := fun j => cnt_take_le (fun y : Hd => y.writ == x.id) g.hs j
      have hn0 := fun j => cnt_take_le (fun y : Nt => y.writ == x.id) g.ns j
      go_wp2_with fail
      clear cR0 cR1 cR2 cR3 cR4 cR5 zR
      go_loopw [6, 7] (fun n i wr => ∃ j : Nat, j ≤ N2 ∧ i = .int .i64 j ∧ n = .int .i64 ((g.hs.take j).countP (fun y => y.writ == x.id) : Nat) ∧ Below w3.heap.size w3 wr ∧ Bx wr w2.heap.size [.slice (some ⟨b, o, none⟩) N0 c0, .slice a1 N1 c1, .slice a2 N2 c2, .slice a3 N3 c3, .int .i64 M, .int .i64 N] ∧ Hid (RmAt wr (some ⟨b, o, none⟩) a1 a2 a3 c0 c1 c2 c3 g) ∧ wr.cell? ⟨b, o + k * 5, none⟩ = some (.int .i64 x.id) ∧ b < wr.heap.size) (fun _ i _ => N2 - (intOf i).toNat)
      case atStart => exact ⟨0, Nat.zero_le _, rfl, rfl, hbl, BR, hat, q1, hb⟩
      case round =>
        clear hbl BR hat bl q1 hb
        obtain ⟨j, hj', rfl, rfl, hbl, BR, HAT, q1, hb⟩ := hrel
        have hat := HAT.out
        have hc1 := hh0 j
        have cR0 := (BR.2 0 _ rfl).1
        have cR1 := (BR.2 1 _ rfl).1
        have cR2 := (BR.2 2 _ rfl).1
        have cR3 := (BR.2 3 _ rfl).1
        have cR4 := (BR.2 4 _ rfl).1
        have cR5 := (BR.2 5 _ rfl).1
        have zR := BR.1
        by_cases hlt2 : j < N2
        rotate_left
        · have hfull : (g.hs.take j) = g.hs := List.take_of_length_le (by omega)
          rw [hfull] at hc1 ⊢
          clear hfull hh0
          unfold cnt at hx1
          generalize g.hs.countP (fun y => y.writ == x.id) = C at *
          go_wp2_with fail
          clear cR0 cR1 cR2 cR3 cR4 cR5 zR
          go_loopw [6, 8] (fun n i wr => ∃ j : Nat, j ≤ N3 ∧ i = .int .i64 j ∧ n = .int .i64 ((C + (g.ns.take j).countP (fun y => y.writ == x.id) : Nat) : Int) ∧ Below w3.heap.size w3 wr ∧ Bx wr w2.heap.size [.slice (some ⟨b, o, none⟩) N0 c0, .slice a1 N1 c1, .slice a2 N2 c2, .slice a3 N3 c3, .int .i64 M, .int .i64 N] ∧ Hid (RmAt wr (some ⟨b, o, none⟩) a1 a2 a3 c0 c1 c2 c3 g) ∧ wr.cell? ⟨b, o + k * 5, none⟩ = some (.int .i64 x.id) ∧ b < wr.heap.size) (fun _ i _ => N3 - (intOf i).toNat)
          case atStart => exact ⟨0, Nat.zero_le _, rfl, by simp, hbl, BR, HAT, q1, hb⟩
          case round =>
            clear hbl BR hat HAT q1 hb
            obtain ⟨m, hm', rfl, rfl, hbl, BR, HAT, q1, hb⟩ := hrel
            have hat := HAT.out
            have hc2 := hn0 m
            have cR0 := (BR.2 0 _ rfl).1
            have cR1 := (BR.2 1 _ rfl).1
            have cR2 := (BR.2 2 _ rfl).1
            have cR3 := (BR.2 3 _ rfl).1
            have cR4 := (BR.2 4 _ rfl).1
            have cR5 := (BR.2 5 _ rfl).1
            have zR := BR.1
            by_cases hlt3 : m < N3
            rotate_left
            · have hfull : (g.ns.take m) = g.ns := List.take_of_length_le (by omega)
              rw [hfull, hx1]
              clear hfull hn0 hx1 hc2 hc1 HAT
              have hd1 : decide (M ≤ x.id) = false := decide_eq_false (by omega)
              go_wp2_with fail
              go_quiet (fail)
              go_wp2_with fail
              go_roundw
              case rel => exact ⟨k + 1, by omega, by go_num, below_drewN hbl _⟩
              case measure => simp [intOf]; omega
            · obtain ⟨y, hy⟩ : ∃ y, g.ns[m]? = some y := ⟨g.ns[m], List.getElem?_eq_getElem (by omega)⟩
              have hst := cnt_step (p := fun y : Nt => y.writ == x.id) hy
              have HST : Hid (_ = _) := hst
              clear hst
              obtain ⟨b', o', rfl, hb', hww⟩ := hat.n.resolve_left (by rintro e; rw [e] at l3; simp at l3; omega)
              obtain ⟨p1, p2, p3, p4⟩ := hww m y hy
              clear hww hy p1 p2 p3 hn0 hx1
              have hcs : (y.writ == x.id) = true ∨ (y.writ == x.id) = false := by cases (y.writ == x.id) <;> simp
              rcases hcs with d1 | d1
              all_goals
                have hs2 := HST.out
                simp only [d1] at hs2
                have HS2 : Hid (_ = _) := hs2
                clear hs2 HST
                generalize hcp : (g.ns.take m).countP (fun y => y.writ == x.id) = cp at *
                clear hcp
                go_wp2_with fail
                go_quiet (fail)
                go_wp2_with fail
                go_roundw
                case rel => exact ⟨m + 1, by omega, by go_num, by have := HS2.out; simp at this; rw [this]; (try go_num), below_drewN hbl _, BR.below (below_drewN (Below.refl _ _) _), hat.below (below_drewN (Below.refl _ _) _), by simpa using q1, by simpa using hb⟩
                case measure => simp [intOf]; omega
        · obtain ⟨y, hy⟩ : ∃ y, g.hs[j]? = some y := ⟨g.hs[j], List.getElem?_eq_getElem (by omega)⟩
          have hst := cnt_step (p := fun y : Hd => y.writ == x.id) hy
          have HST : Hid (_ = _) := hst
          clear hst
          obtain ⟨b', o', rfl, hb', hww⟩ := hat.h.resolve_left (by rintro e; rw [e] at l2; simp at l2; omega)
          obtain ⟨p1, p2, p3⟩ := hww j y hy
          clear hww hy p1 p2 hn0 hx1 hh0
          have hcs : (y.writ == x.id) = true ∨ (y.writ == x.id) = false := by cases (y.writ == x.id) <;> simp
          rcases hcs with d1 | d1
          all_goals
            have hs2 := HST.out
            simp only [d1] at hs2
            have HS2 : Hid (_ = _) := hs2
            clear hs2 HST
            generalize hcp : (g.hs.take j).countP (fun y => y.writ == x.id) = cp at *
            clear hcp
            go_wp2_with fail
            go_quiet (fail)
            go_wp2_with fail
            go_roundw
            case rel => exact ⟨j + 1, by omega, by go_num, by have := HS2.out; simp at this; rw [this]; (try go_num), below_drewN hbl _, BR.below (below_drewN (Below.refl _ _) _), hat.below (below_drewN (Below.refl _ _) _), by simpa using q1, by simpa using hb⟩
            case measure => simp [intOf]; omega
theorem tonce_any (w : World) (a : Option Addr) (l : List Ac) (c : Nat) (hw : AcsAt w a l) (hm : l.length ≤ maxLen) :
    Calls Try.prog 4 #[.slice a l.length c] w fun e w' => e = .returned (.bool true) ∧ Below w.heap.size w w' := by
  cases hq : lacB l 80
  · exact tonce_no a c l w hw hm hq
  · exact tonce_yes a c l w hw hm hq
end Go.Proofs.Ytihckdndecbefac
