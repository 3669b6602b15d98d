/- TopNoMore, walked. -/
import Derived.Test.YtihckdndecbefacGrownB
import Derived.Test.YtihckdndecbefacMadeW
import Derived.Test.YtihckdndecbefacNumW
import Derived.Test.YtihckdndecbefacAboveW
import Derived.Test.YtihckdndecbefacCheckCW
import Derived.Deep.RegionHeld3
set_option linter.unusedSimpArgs false
set_option linter.unnecessarySimpa false
set_option linter.unusedVariables false
namespace Go.Proofs.Ytihckdndecbefac
open Go.RowKit

/-- what a region keeps: nothing older has turned; the cells that are read -/
@[reducible] def SNM (W : World) (bR ba oa b o : Nat) (v : Value) (n : Int) (y : Wr) (w : World) : Prop :=
  Below W.heap.size W w ∧ w.cell? ⟨bR, 0, none⟩ = some v ∧ w.cell? ⟨ba, oa, none⟩ = some (.int .i64 n) ∧ w.cell? ⟨b, o, none⟩ = some (.int .i64 y.id) ∧ w.cell? ⟨b, o + 1, none⟩ = some (.int .i64 y.thing) ∧ w.cell? ⟨b, o + 2, none⟩ = some (.int .i64 y.rights) ∧ w.cell? ⟨b, o + 3, none⟩ = some (.int .i64 y.badge) ∧ w.cell? ⟨b, o + 4, none⟩ = some (.int .i64 y.frm)
set_option maxHeartbeats 2000000 in
set_option maxRecDepth 100000 in
theorem tnm_no (a : Option Addr) (c : Nat) (l : List Ac) (w : World) (hw : AcsAt w a l) (hm : l.length ≤ maxLen) (hq : lacB l 80 = false) :
    Calls Try.prog 3 #[.slice a l.length c] w fun e w' => e = .returned (.bool true) ∧ Below w.heap.size w w' := by
  have bl := Below.refl w.heap.size w
  go_enter Try.func3, Try.ntmps3
  have hcon := made_any w
  go_wp2_with fail
  refine hcon.mono ?_
  rintro e w1 ⟨rfl, hb1⟩
  clear hcon
  replace bl := Below_after bl hb1
  have hcon := grown_no a c l w1 (hw.below bl) hm hq
  go_wp2_with fail
  refine hcon.mono ?_
  rintro e w2 ⟨rfl, hb2⟩
  clear hcon
  replace bl := Below_after bl hb2
  replace bl := bl.alloc bl.size (.cells #[.slice none 0 0, .slice none 0 0, .slice none 0 0, .slice none 0 0, .int .i64 0, .int .i64 0] 29)
  have BZ := Bx.new w2 [.slice none 0 0, .slice none 0 0, .slice none 0 0, .slice none 0 0, .int .i64 0, .int .i64 0] 29
  go_wp2_with fail
  go_ret
  exact ⟨rfl, bl⟩
set_option maxHeartbeats 2000000 in
set_option maxRecDepth 100000 in
theorem tnm_yes (a : Option Addr) (c : Nat) (l : List Ac) (w : World) (hw : AcsAt w a l) (hm : l.length ≤ maxLen) (hq : lacB l 80 = true) :
    Calls Try.prog 3 #[.slice a l.length c] w fun e w' => e = .returned (.bool true) ∧ Below w.heap.size w w' := by
  have bl := Below.refl w.heap.size w
  have hlen := lac_len hq
  have hi := inv_grow l l.length (by omega)
  rw [List.take_length] at hi
  have hI : RmI (growR l) := ⟨hi.sz (by omega), hi.put, hi.wf⟩
  have hW := whole_grow l
  have hk : InvK 80 (growR l) := hi.mono (by omega)
  clear hi
  go_enter Try.func3, Try.ntmps3
  have hcon := made_any w
  go_wp2_with fail
  refine hcon.mono ?_
  rintro e w1 ⟨rfl, hb1⟩
  clear hcon
  replace bl := Below_after bl hb1
  have hg := grown_yes a c l w1 (hw.below bl) hm hq
  generalize growR l = g at hg hI hW hk
  clear hq hw hm hlen
  have hcon := hg
  clear hg
  go_wp2_with fail
  refine hcon.mono ?_
  rintro e w2 ⟨a0, a1, a2, a3, N0, N1, N2, N3, c0, c1, c2, c3, M, N, rfl, ⟨l0, l1, l2, l3, l4, l5⟩, hat, -, hb2⟩
  clear hcon
  replace bl := Below_after bl hb2
  replace hat := hat.below ((Below.refl _ _).alloc (Nat.le_refl _) (.cells #[.slice a0 N0 c0, .slice a1 N1 c1, .slice a2 N2 c2, .slice a3 N3 c3, .int .i64 M, .int .i64 N] 29))
  replace bl := bl.alloc bl.size (.cells #[.slice a0 N0 c0, .slice a1 N1 c1, .slice a2 N2 c2, .slice a3 N3 c3, .int .i64 M, .int .i64 N] 29)
  have BR := Bx.new w2 [.slice a0 N0 c0, .slice a1 N1 c1, .slice a2 N2 c2, .slice a3 N3 c3, .int .i64 M, .int .i64 N] 29
  have hgw := hW.gw
  have hz0 := hI.sz.w
  have hcon := chk_good a0 c0 g.ws _ hat.w (by omega) hat.fw.1 hat.fw.2 (chk_of_good hgw)
  rw [l0] at hcon
  have cR0 := (BR.2 0 _ rfl).1
  have cR1 := (BR.2 1 _ rfl).1
  have cR2 := (BR.2 2 _ rfl).1
  have cR3 := (BR.2 3 _ rfl).1
  have cR4 := (BR.2 4 _ rfl).1
  have cR5 := (BR.2 5 _ rfl).1
  have zR := BR.1
  go_wp2_with fail
  refine hcon.mono ?_
  rintro e w3 ⟨rfl, hb3⟩
  clear cR0 cR1 cR2 cR3 cR4 cR5 zR hcon
  replace BR := BR.below hb3
  replace hat := hat.below hb3
  replace bl := Below_after bl hb3
  have yR := BR.1
  have hfw := hat.fw
  have hN0 : N0 ≤ 1000 := by omega
  go_wp2_with fail
  go_loopw [5] (fun i wr => ∃ k : Nat, k ≤ N0 ∧ i = .int .i64 k ∧ Below w3.heap.size w3 wr) (fun i _ => N0 - (intOf i).toNat)
  case atStart => exact ⟨0, Nat.zero_le _, rfl, Below.refl _ _⟩
  case round =>
    obtain ⟨k, hk', rfl, hbl⟩ := hrel
    clear yR
    replace BR := BR.below hbl
    replace hat := hat.below hbl
    replace bl := Below_after bl hbl
    have yR := BR.1
    have cR0 := (BR.2 0 _ rfl).1
    have cR1 := (BR.2 1 _ rfl).1
    have cR2 := (BR.2 2 _ rfl).1
    have cR3 := (BR.2 3 _ rfl).1
    have cR4 := (BR.2 4 _ rfl).1
    have cR5 := (BR.2 5 _ rfl).1
    have zR := BR.1
    by_cases hlt : k < N0
    rotate_left
    · go_wp2_with fail
      go_ret
      exact ⟨rfl, bl⟩
    obtain ⟨x, hx⟩ : ∃ x, g.ws[k]? = some x := ⟨g.ws[k], List.getElem?_eq_getElem (by omega)⟩
    have hxm : x ∈ g.ws := List.mem_of_getElem? hx
    obtain ⟨b, o, rfl, hb, hww⟩ := hat.w.resolve_left (by rintro e; rw [e] at l0; simp at l0; omega)
    obtain ⟨q1, q2, q3, q4, q5⟩ := hww k x hx
    replace BR := BR.alloc (.cells #[.int .i64 x.id, .int .i64 x.thing, .int .i64 x.rights, .int .i64 x.badge, .int .i64 x.frm] 36)
    replace hat := hat.below ((Below.refl _ _).alloc (Nat.le_refl _) (.cells #[.int .i64 x.id, .int .i64 x.thing, .int .i64 x.rights, .int .i64 x.badge, .int .i64 x.frm] 36))
    replace bl := bl.alloc bl.size (.cells #[.int .i64 x.id, .int .i64 x.thing, .int .i64 x.rights, .int .i64 x.badge, .int .i64 x.frm] 36)
    have BX := Bx.new wr [.int .i64 x.id, .int .i64 x.thing, .int .i64 x.rights, .int .i64 x.badge, .int .i64 x.frm] 36
    have hbl' := hbl.alloc hbl.size (.cells #[.int .i64 x.id, .int .i64 x.thing, .int .i64 x.rights, .int .i64 x.badge, .int .i64 x.frm] 36)
    have hcon := above_any (some ⟨b, o, none⟩) c0 g.ws x.id _ hat.w (by omega) hfw.1 hfw.2
    rw [l0] at hcon
    have hA := fun a ha => top_nomore hgw hxm (a := a) ha
    have hAl := aboveLen g.ws x.id
    generalize aboveL g.ws x.id = A at hcon hA hAl
    clear hww hx hxm
    go_wp2_with fail
    refine hcon.mono ?_
    rintro e w5 ⟨av, cv, rfl, hints, hav, hb5⟩
    clear cR0 cR1 cR2 cR3 cR4 cR5 zR hcon q1 q2 q3 q4 q5
    clear yR
    replace BR := BR.below hb5
    replace BX := BX.below hb5
    replace hat := hat.below hb5
    replace bl := Below_after bl hb5
    have yR := BR.1
    have yX := BX.1
    replace hbl' := Below_after hbl' hb5
    have hAs : A.length ≤ 1000 := by omega
    clear hbl
    generalize wr.heap.size = bX at *
    go_wp2_with fail
    go_loopw [8] (fun i wr => ∃ j : Nat, j ≤ A.length ∧ i = .int .i64 j ∧ Below w5.heap.size w5 wr) (fun i _ => A.length - (intOf i).toNat)
    case atStart => exact ⟨0, Nat.zero_le _, rfl, Below.refl _ _⟩
    case round =>
      obtain ⟨j, hj', rfl, hbq⟩ := hrel
      clear yR yX
      replace BR := BR.below hbq
      replace BX := BX.below hbq
      replace hat := hat.below hbq
      replace bl := Below_after bl hbq
      have yR := BR.1
      have yX := BX.1
      replace hbl' := Below_after hbl' hbq
      have cR0 := (BR.2 0 _ rfl).1
      have cR1 := (BR.2 1 _ rfl).1
      have cR2 := (BR.2 2 _ rfl).1
      have cR3 := (BR.2 3 _ rfl).1
      have cR4 := (BR.2 4 _ rfl).1
      have cR5 := (BR.2 5 _ rfl).1
      have zR := BR.1
      by_cases hlt2 : j < A.length
      rotate_left
      · go_wp2_with fail
        go_roundw
        case rel => exact ⟨k + 1, by omega, by go_num, hbl'⟩
        case measure => simp [intOf]; omega
      obtain ⟨m, y, hf, hy, h1, h2, h3⟩ := hA A[j] (List.getElem_mem hlt2)
      obtain ⟨ba, oa, rfl, hia⟩ := hints.resolve_left (by rintro rfl; simp at hlt2)
      have hba := hav ba oa rfl
      have hml : m < N0 := by have := (List.getElem?_eq_some_iff.1 hy).1; omega
      obtain ⟨b', o', e', hb', hww⟩ := hat.w.resolve_left (by rintro e; rw [e] at l0; simp at l0; omega)
      simp only [Option.some.injEq, Addr.mk.injEq, and_true] at e'
      obtain ⟨rfl, rfl⟩ := e'
      obtain ⟨q1, q2, q3, q4, q5⟩ := hww m y hy
      have qa : wr.cell? ⟨ba, oa + j, none⟩ = some (.int .i64 A[j]) := by rw [(bcell hbq).1 _ _ hba, hia j hlt2, getD_at hlt2]
      clear hww hA hints hav hia hy
      have hbz : ba < wr.heap.size := Nat.lt_of_lt_of_le hba hbq.size
      have cX0 := (BX.2 0 _ rfl).1
      have cX1 := (BX.2 1 _ rfl).1
      have cX2 := (BX.2 2 _ rfl).1
      have cX3 := (BX.2 3 _ rfl).1
      have cX4 := (BX.2 4 _ rfl).1
      have zX := BX.1
      have mk : ∀ w' : World, Below wr.heap.size wr w' → SNM wr w2.heap.size ba (oa + j) b (o + m * 5) (.slice (some ⟨b, o, none⟩) N0 c0) A[j] y w' := fun w' h => ⟨h, by rw [(bcell h).1 _ _ zR]; exact cR0, by rw [(bcell h).1 _ _ hbz]; exact qa, by rw [(bcell h).1 _ _ hb']; exact q1, by rw [(bcell h).1 _ _ hb']; exact q2, by rw [(bcell h).1 _ _ hb']; exact q3, by rw [(bcell h).1 _ _ hb']; exact q4, by rw [(bcell h).1 _ _ hb']; exact q5⟩
      have hfa := fun (W : World) (h : Below wr.heap.size wr W) => find_any (some ⟨b, o, none⟩) c0 g.ws A[j] W (hat.w.below h) (by omega)
      rw [l0, hf] at hfa
      go_wp2_with fail
      have hd1 : (y.thing != x.thing) = false := by simp [h2]
      have hd2 : (y.badge != 0) = false ∨ (y.badge != 0) = true ∧ (y.badge != x.badge) = false := by
        rcases h3 with e | e
        · exact .inl (by simp [e])
        · by_cases e0 : y.badge = 0
          · exact .inl (by simp [e0])
          · exact .inr ⟨by simp [e0], by simp [e]⟩
      clear h2 h3
      have hB0 : Below wr.heap.size wr wr.drew := below_drewN (Below.refl _ _) 1
      have hB1 := hB0.alloc hB0.size (.cells #[.int .i64 0, .int .i64 0, .int .i64 0, .int .i64 0, .int .i64 0] 36)
      have BN0 : Bx (wr.drew.alloc (.cells #[.int .i64 0, .int .i64 0, .int .i64 0, .int .i64 0, .int .i64 0] 36)) wr.heap.size [.int .i64 0, .int .i64 0, .int .i64 0, .int .i64 0, .int .i64 0] := Bx.new wr.drew [.int .i64 0, .int .i64 0, .int .i64 0, .int .i64 0, .int .i64 0] 36
      have hds : wr.heap.size ≤ wr.heap.size := Nat.le_refl _
      go_region_held3 (SNM wr w2.heap.size ba (oa + j) b (o + m * 5) (.slice (some ⟨b, o, none⟩) N0 c0) A[j] y) (first | exact mk _ hB0 | exact mk _ hB1 | exact mk _ hB6 | exact mk _ (hB6.alloc hB6.size _) | exact mk _ (below_set5 hB6 hds _ _ _ _ _)) (first | (go_at_call 13; refine Calls.mono (hfa _ hB0) ?_; rintro e w6 ⟨rfl, hb6⟩; have hB6 := Below_after hB0 hb6) | (go_at_call 13; refine Calls.mono (hfa _ hB1) ?_; rintro e w6 ⟨rfl, hb6⟩; have hB6 := Below_after hB1 hb6; have BN := BN0.below hb6; obtain ⟨n0, n1, n2, n3, n4⟩ := BN.five; obtain ⟨i0, i1, i2, i3, i4⟩ := BN.fiveF; have zN := BN.1))
      rotate_left
      · have hF := below_set5 hB6 hds (.int .i64 y.id) (.int .i64 y.thing) (.int .i64 y.rights) (.int .i64 y.badge) (.int .i64 y.frm)
        have BY := BN.put5 (.int .i64 y.id) (.int .i64 y.thing) (.int .i64 y.rights) (.int .i64 y.badge) (.int .i64 y.frm)
        clear n0 n1 n2 n3 n4 i0 i1 i2 i3 i4 zN BN
        generalize (((((w6.setCell ⟨wr.heap.size, 0, none⟩ (.int .i64 y.id)).setCell ⟨wr.heap.size, 1, none⟩ (.int .i64 y.thing)).setCell ⟨wr.heap.size, 2, none⟩ (.int .i64 y.rights)).setCell ⟨wr.heap.size, 3, none⟩ (.int .i64 y.badge)).setCell ⟨wr.heap.size, 4, none⟩ (.int .i64 y.frm)) = wf at hF BY ⊢
        clear hb6 hB6 BN0 hB1 hB0
        clear mk hfa q1 q2 q3 q4 q5 qa
        have BX' := BX.below hF
        clear BX cX0 cX1 cX2 cX3 cX4 zX
        have cX0 := (BX'.2 0 _ rfl).1
        have cY0 := (BY.2 0 _ rfl).1
        have cX1 := (BX'.2 1 _ rfl).1
        have cY1 := (BY.2 1 _ rfl).1
        have cX2 := (BX'.2 2 _ rfl).1
        have cY2 := (BY.2 2 _ rfl).1
        have cX3 := (BX'.2 3 _ rfl).1
        have cY3 := (BY.2 3 _ rfl).1
        have cX4 := (BX'.2 4 _ rfl).1
        have cY4 := (BY.2 4 _ rfl).1
        have zX := BX'.1
        have zY := BY.1
        have hcon := has_any y.rights x.rights wf
        rw [h1] at hcon
        clear h1
        rcases hd2 with hd2 | ⟨hd2, hd3⟩
        all_goals
          go_wp2_with fail
          refine hcon.mono ?_
          rintro e w' ⟨rfl, hw'⟩
          rw [hw']
          clear hw' w' hcon
          go_wp2_with fail
          go_roundw
          case rel => exact ⟨j + 1, by omega, by go_num, Below_after hbq hF⟩
          case measure => simp [intOf]; omega
      · have hF := hB6.alloc hB6.size (.cells #[.int .i64 y.id, .int .i64 y.thing, .int .i64 y.rights, .int .i64 y.badge, .int .i64 y.frm] 36)
        have BY := Bx.new w6 [.int .i64 y.id, .int .i64 y.thing, .int .i64 y.rights, .int .i64 y.badge, .int .i64 y.frm] 36
        generalize w6.alloc (.cells #[.int .i64 y.id, .int .i64 y.thing, .int .i64 y.rights, .int .i64 y.badge, .int .i64 y.frm] 36) = wf at hF BY ⊢
        clear hb6 hB6 BN0 hB1 hB0
        clear mk hfa q1 q2 q3 q4 q5 qa
        have BX' := BX.below hF
        clear BX cX0 cX1 cX2 cX3 cX4 zX
        have cX0 := (BX'.2 0 _ rfl).1
        have cY0 := (BY.2 0 _ rfl).1
        have cX1 := (BX'.2 1 _ rfl).1
        have cY1 := (BY.2 1 _ rfl).1
        have cX2 := (BX'.2 2 _ rfl).1
        have cY2 := (BY.2 2 _ rfl).1
        have cX3 := (BX'.2 3 _ rfl).1
        have cY3 := (BY.2 3 _ rfl).1
        have cX4 := (BX'.2 4 _ rfl).1
        have cY4 := (BY.2 4 _ rfl).1
        have zX := BX'.1
        have zY := BY.1
        have hcon := has_any y.rights x.rights wf
        rw [h1] at hcon
        clear h1
        rcases hd2 with hd2 | ⟨hd2, hd3⟩
        all_goals
          go_wp2_with fail
          refine hcon.mono ?_
          rintro e w' ⟨rfl, hw'⟩
          rw [hw']
          clear hw' w' hcon
          go_wp2_with fail
          go_roundw
          case rel => exact ⟨j + 1, by omega, by go_num, Below_after hbq hF⟩
          case measure => simp [intOf]; omega
theorem tnm_any (w : World) (a : Option Addr) (l : List Ac) (c : Nat) (hw : AcsAt w a l) (hm : l.length ≤ maxLen) :
    Calls Try.prog 3 #[.slice a l.length c] w fun e w' => e = .returned (.bool true) ∧ Below w.heap.size w w' := by
  cases hq : lacB l 80
  · exact tnm_no a c l w hw hm hq
  · exact tnm_yes a c l w hw hm hq
end Go.Proofs.Ytihckdndecbefac
