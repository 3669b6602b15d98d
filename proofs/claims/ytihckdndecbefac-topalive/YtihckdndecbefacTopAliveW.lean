/- TopAlive, walked. -/
import Derived.Test.YtihckdndecbefacGrownB
import Derived.Test.YtihckdndecbefacMadeW
import Derived.Test.YtihckdndecbefacGetAny
import Derived.Test.YtihckdndecbefacIntsW
import Derived.Test.YtihckdndecbefacAliveLaw
import Derived.Deep.QuietTactic
import Derived.BigQuiet
import Derived.Deep.RegionHeld3
set_option linter.unusedSimpArgs false
set_option linter.unnecessarySimpa false
set_option linter.unusedVariables false
namespace Go.Proofs.Ytihckdndecbefac
open Go.RowKit

set_option maxHeartbeats 2000000 in
set_option maxRecDepth 100000 in
theorem talive_no (a : Option Addr) (c : Nat) (l : List Ac) (w : World) (hw : AcsAt w a l) (hm : l.length ≤ maxLen) (hq : lacB l 80 = false) :
    Calls Try.prog 5 #[.slice a l.length c] w fun e w' => e = .returned (.bool true) ∧ Below w.heap.size w w' := by
  have bl := Below.refl w.heap.size w
  go_enter Try.func5, Try.ntmps5
  have hcon := made_any w
  go_wp2_with fail
  refine hcon.mono ?_
  rintro e w1 ⟨rfl, hb1⟩
  clear hcon
  replace bl := Below_after bl hb1
  have hcon := grown_no a c l w1 (hw.below bl) hm hq
  go_wp2_with fail
  refine hcon.mono ?_
  rintro e w2 ⟨rfl, hb2⟩
  clear hcon
  replace bl := Below_after bl hb2
  replace bl := bl.alloc bl.size (.cells #[.slice none 0 0, .slice none 0 0, .slice none 0 0, .slice none 0 0, .int .i64 0, .int .i64 0] 29)
  have BZ := Bx.new w2 [.slice none 0 0, .slice none 0 0, .slice none 0 0, .slice none 0 0, .int .i64 0, .int .i64 0] 29
  go_wp2_with fail
  go_ret
  exact ⟨rfl, bl⟩
set_option maxHeartbeats 2000000 in
set_option maxRecDepth 100000 in
theorem talive_yes (a : Option Addr) (c : Nat) (l : List Ac) (w : World) (hw : AcsAt w a l) (hm : l.length ≤ maxLen) (hq : lacB l 80 = true) :
    Calls Try.prog 5 #[.slice a l.length c] w fun e w' => e = .returned (.bool true) ∧ Below w.heap.size w w' := by
  have bl := Below.refl w.heap.size w
  have hlen := lac_len hq
  have hi := inv_grow l l.length (by omega)
  rw [List.take_length] at hi
  have hI : RmI (growR l) := ⟨hi.sz (by omega), hi.put, hi.wf⟩
  have hW := whole_grow l
  have hk : InvK 80 (growR l) := hi.mono (by omega)
  clear hi
  go_enter Try.func5, Try.ntmps5
  have hcon := made_any w
  go_wp2_with fail
  refine hcon.mono ?_
  rintro e w1 ⟨rfl, hb1⟩
  clear hcon
  replace bl := Below_after bl hb1
  have hg := grown_yes a c l w1 (hw.below bl) hm hq
  generalize growR l = g at hg hI hW hk
  clear hq hw hm hlen
  have hcon := hg
  clear hg
  go_wp2_with fail
  refine hcon.mono ?_
  rintro e w2 ⟨a0, a1, a2, a3, N0, N1, N2, N3, c0, c1, c2, c3, M, N, rfl, ⟨l0, l1, l2, l3, l4, l5⟩, hat, -, hb2⟩
  clear hcon
  replace bl := Below_after bl hb2
  replace hat := hat.below ((Below.refl _ _).alloc (Nat.le_refl _) (.cells #[.slice a0 N0 c0, .slice a1 N1 c1, .slice a2 N2 c2, .slice a3 N3 c3, .int .i64 M, .int .i64 N] 29))
  replace bl := bl.alloc bl.size (.cells #[.slice a0 N0 c0, .slice a1 N1 c1, .slice a2 N2 c2, .slice a3 N3 c3, .int .i64 M, .int .i64 N] 29)
  have BR := Bx.new w2 [.slice a0 N0 c0, .slice a1 N1 c1, .slice a2 N2 c2, .slice a3 N3 c3, .int .i64 M, .int .i64 N] 29
  have hz0 := hI.sz.w
  have hz1 := hI.sz.t
  have hz2 := hI.sz.h
  have hz3 := hI.sz.n
  have hN0 : N0 ≤ 1000 := by omega
  have hN1 : N1 ≤ 1000 := by omega
  have hN2 : N2 ≤ 100 := by omega
  have hN3 : N3 ≤ 1000 := by omega
  have hN10 : N1 ≤ 10 := by have := hW.tl; omega
  have htop := top_things hW
  have hport := fun n hn => top_port hW (n := n) hn
  have hwait := fun t => top_wait hW t
  have hnw := fun n hn => top_note_writ hW (n := n) hn
  clear hW hk
  obtain ⟨i0, hi, hi0, hi1, hi2⟩ := info_parts infoInt
  have cR0 := (BR.2 0 _ rfl).1
  have cR1 := (BR.2 1 _ rfl).1
  have cR2 := (BR.2 2 _ rfl).1
  have cR3 := (BR.2 3 _ rfl).1
  have cR4 := (BR.2 4 _ rfl).1
  have cR5 := (BR.2 5 _ rfl).1
  have zR := BR.1
  go_wp2_with fail
  clear cR0 cR1 cR2 cR3 cR4 cR5 zR
  generalize (w2.alloc (.cells #[.slice a0 N0 c0, .slice a1 N1 c1, .slice a2 N2 c2, .slice a3 N3 c3, .int .i64 M, .int .i64 N] 29)) = v0 at *
  go_loopw [5, 6] (fun v i wr => ∃ k : Nat, k ≤ N1 ∧ i = .int .i64 k ∧ wr.ownsRow v0.heap.size 3 1 v ((g.ts.take k).map (·.id)).length (((g.ts.take k).map (·.id)).flatMap icells) ∧ Below v0.heap.size v0 wr) (fun _ i _ => N1 - (intOf i).toNat)
  case atStart => exact ⟨0, Nat.zero_le _, rfl, by simpa using World.ownsRow_nil _ _ _ _, Below.refl _ _⟩
  case round =>
    obtain ⟨k, hk', rfl, hown, hbl⟩ := hrel
    replace BR := BR.below hbl
    replace hat := hat.below hbl
    replace bl := Below_after bl hbl
    have yR := BR.1
    have cR0 := (BR.2 0 _ rfl).1
    have cR1 := (BR.2 1 _ rfl).1
    have cR2 := (BR.2 2 _ rfl).1
    have cR3 := (BR.2 3 _ rfl).1
    have cR4 := (BR.2 4 _ rfl).1
    have cR5 := (BR.2 5 _ rfl).1
    have zR := BR.1
    by_cases hlt : k < N1
    · obtain ⟨t, ht⟩ : ∃ t, g.ts[k]? = some t := ⟨g.ts[k], List.getElem?_eq_getElem (by omega)⟩
      have HS : Hid (_ = _) := ids_step ht
      have hln : ((g.ts.take k).map (·.id)).length = k := by simp; omega
      obtain ⟨b, o, rfl, hb, hww⟩ := hat.t.resolve_left (by rintro e; rw [e] at l1; simp at l1; omega)
      obtain ⟨p1, p2, p3⟩ := hww k t ht
      clear hww ht htop hport hwait hnw
      generalize hU : (g.ts.take k).map (·.id) = U at hown hln HS
      clear hU
      go_wp2_with (at_builtin; refine wpList_append_own _ rfl _ _ 37 rfl v0.heap.size 3 i0 (.int .i64 0) 1 8 Try.underlying37 hi hi0 hi1 hi2 rfl (by decide) _ _ _ rfl (hown.alloc _) _ 1 1 [.int .i64 t.id] rfl rfl (new1 _ _ _) (one1 _) ?c3 ?c4 ?c5 ?_)
      case c3 => unfold maxLen; omega
      case c4 => omega
      case c5 => have := hbl.size; simp; omega
      intro v' w5 hown2' hgrow _
      have bl2 := app1_below hbl hown hgrow
      have hown2 := row1_snoc (l := U) (x := t.id) (by rw [hln]; exact hown2')
      clear hgrow hown2' hown
      go_wp2_with fail
      go_roundw
      case rel => exact ⟨k + 1, by omega, by go_num, by rw [HS.out]; exact hown2, bl2⟩
      case measure => simp [intOf]; omega
    · have hfull : g.ts.take k = g.ts := List.take_of_length_le (by omega)
      rw [hfull] at hown
      obtain ⟨ai, ci, rfl, hints, hai⟩ := ints_of_row hown
      clear hown hfull
      have hcon := things_any a0 c0 g.ws _ hat.w (by omega)
      rw [l0, ← htop] at hcon
      have hml : (g.ts.map (·.id)).length = N1 := by simp; omega
      generalize g.ts.map (·.id) = I at *
      rw [hml] at hcon ⊢
      go_wp2_with fail
      refine hcon.mono ?_
      rintro e w5 ⟨aj, cj, rfl, hints2, haj, hb5⟩
      clear cR0 cR1 cR2 cR3 cR4 cR5 zR hcon htop
      clear yR
      replace BR := BR.below hb5
      replace hat := hat.below hb5
      replace bl := Below_after bl hb5
      have yR := BR.1
      have hi2' := hints.below hb5 hai
      have hcon := sn_any ai aj ci cj I I _ hi2' hints2 (by omega) (by omega)
      rw [beq_self_eq_true, hml] at hcon
      clear hints hints2 hai haj hml hi2'
      have hd10 : decide ((10 : Int) < (N1 : Int)) = false := decide_eq_false (by omega)
      go_wp2_with fail
      refine hcon.mono ?_
      rintro e w' ⟨rfl, nq, hw'⟩
      rw [hw']
      clear hw' w' hcon
      replace BR := BR.below (below_drewN (Below.refl _ _) nq)
      replace hat := hat.below (below_drewN (Below.refl _ _) nq)
      replace bl := below_drewN bl nq
      generalize hwd : w5.drewN nq = w6 at *
      clear hwd hbl hb5 yR
      have cR0 := (BR.2 0 _ rfl).1
      have cR1 := (BR.2 1 _ rfl).1
      have cR2 := (BR.2 2 _ rfl).1
      have cR3 := (BR.2 3 _ rfl).1
      have cR4 := (BR.2 4 _ rfl).1
      have cR5 := (BR.2 5 _ rfl).1
      have zR := BR.1
      go_wp2_with fail
      clear cR0 cR1 cR2 cR3 cR4 cR5 zR
      go_loopw [7] (fun i wr => ∃ k : Nat, k ≤ N3 ∧ i = .int .i64 k ∧ Below w.heap.size w wr ∧ Bx wr w2.heap.size [.slice a0 N0 c0, .slice a1 N1 c1, .slice a2 N2 c2, .slice a3 N3 c3, .int .i64 M, .int .i64 N] ∧ Hid (RmAt wr a0 a1 a2 a3 c0 c1 c2 c3 g)) (fun i _ => N3 - (intOf i).toNat)
      case atStart => exact ⟨0, Nat.zero_le _, rfl, bl, BR, hat⟩
      case round =>
        clear bl BR hat
        obtain ⟨n, hn', rfl, bl, BR, HAT⟩ := hrel
        have hat := HAT.out
        clear HAT
        have cR0 := (BR.2 0 _ rfl).1
        have cR1 := (BR.2 1 _ rfl).1
        have cR2 := (BR.2 2 _ rfl).1
        have cR3 := (BR.2 3 _ rfl).1
        have cR4 := (BR.2 4 _ rfl).1
        have cR5 := (BR.2 5 _ rfl).1
        have zR := BR.1
        by_cases hlt2 : n < N3
        rotate_left
        · go_wp2_with fail
          go_ret
          exact ⟨rfl, bl⟩
        obtain ⟨y, hy⟩ : ∃ y, g.ns[n]? = some y := ⟨g.ns[n], List.getElem?_eq_getElem (by omega)⟩
        have hym := List.mem_of_getElem? hy
        have hp1 := hport y hym
        have hw1 := hwait y.port
        have hn1 := hnw y hym
        clear hport hwait hnw hym
        obtain ⟨b, o, rfl, hb, hww⟩ := hat.n.resolve_left (by rintro e; rw [e] at l3; simp at l3; omega)
        obtain ⟨y1, y2, y3, y4⟩ := hww n y hy
        clear hww hy y2 y3
        have hc0 := fun j => cnt_take_le (fun z : Nt => z.port == y.port) g.ns j
        go_wp2_with fail
        clear cR0 cR1 cR2 cR3 cR4 cR5 zR
        go_loopw [8, 10] (fun f i wr => ∃ j : Nat, j ≤ N1 ∧ i = .int .i64 j ∧ f = .bool ((g.ts.take j).any (portOf y.port)) ∧ Below w.heap.size w wr ∧ Bx wr w2.heap.size [.slice a0 N0 c0, .slice a1 N1 c1, .slice a2 N2 c2, .slice (some ⟨b, o, none⟩) N3 c3, .int .i64 M, .int .i64 N] ∧ Hid (RmAt wr a0 a1 a2 (some ⟨b, o, none⟩) c0 c1 c2 c3 g) ∧ wr.cell? ⟨b, o + n * 4, none⟩ = some (.int .i64 y.port) ∧ wr.cell? ⟨b, o + n * 4 + 3, none⟩ = some (.int .i64 y.writ) ∧ b < wr.heap.size) (fun _ i _ => N1 - (intOf i).toNat)
        case atStart => exact ⟨0, Nat.zero_le _, rfl, rfl, bl, BR, hat, y1, y4, hb⟩
        case round =>
          clear bl BR hat y1 y4 hb
          obtain ⟨j, hj', rfl, rfl, bl, BR, HAT, y1, y4, hb⟩ := hrel
          have hat := HAT.out
          have cR0 := (BR.2 0 _ rfl).1
          have cR1 := (BR.2 1 _ rfl).1
          have cR2 := (BR.2 2 _ rfl).1
          have cR3 := (BR.2 3 _ rfl).1
          have cR4 := (BR.2 4 _ rfl).1
          have cR5 := (BR.2 5 _ rfl).1
          have zR := BR.1
          by_cases hlt3 : j < N1
          · obtain ⟨t, ht⟩ : ∃ t, g.ts[j]? = some t := ⟨g.ts[j], List.getElem?_eq_getElem (by omega)⟩
            have hst := any_step (f := portOf y.port) ht
            obtain ⟨b', o', rfl, hb', hww⟩ := hat.t.resolve_left (by rintro e; rw [e] at l1; simp at l1; omega)
            obtain ⟨p1, p2, p3⟩ := hww j t ht
            clear hww ht p3 hp1 hw1 hn1 hc0 HAT
            unfold portOf at hst
            generalize hF : (g.ts.take j).any (portOf y.port) = F
            have hst2 : (g.ts.take (j + 1)).any (portOf y.port) = (F || (t.id == y.port && t.kind == 2)) := by rw [← hF]; exact hst
            have HST : Hid (_ = _) := hst2
            clear hst hst2 hF
            have hcs : F = true ∨ (F = false ∧ (t.id == y.port) = false) ∨ (F = false ∧ (t.id == y.port) = true ∧ (t.kind == 2) = true) ∨ (F = false ∧ (t.id == y.port) = true ∧ (t.kind == 2) = false) := by
              cases F <;> cases (t.id == y.port) <;> cases (t.kind == 2) <;> simp
            rcases hcs with rfl | ⟨rfl, d1⟩ | ⟨rfl, d1, d2⟩ | ⟨rfl, d1, d2⟩
            all_goals
              go_wp2_with fail
              go_quiet (fail)
              go_wp2_with fail
              go_roundw
              case rel => exact ⟨j + 1, by omega, by go_num, by rw [HST.out]; first | rfl | (rw [d1]; rfl) | (rw [d1, d2]; rfl), below_drewN bl _, BR.below (below_drewN (Below.refl _ _) _), hat.below (below_drewN (Below.refl _ _) _), by simpa using y1, by simpa using y4, by simpa using hb⟩
              case measure => simp [intOf]; omega
          · have hfull : g.ts.take j = g.ts := List.take_of_length_le (by omega)
            rw [hfull, hp1]
            clear hfull hp1
            go_wp2_with fail
            clear cR0 cR1 cR2 cR3 cR4 cR5 zR
            go_loopw [9, 11] (fun m i wr => ∃ j : Nat, j ≤ N3 ∧ i = .int .i64 j ∧ m = .int .i64 ((g.ns.take j).countP (fun z => z.port == y.port) : Nat) ∧ Below w.heap.size w wr ∧ Bx wr w2.heap.size [.slice a0 N0 c0, .slice a1 N1 c1, .slice a2 N2 c2, .slice (some ⟨b, o, none⟩) N3 c3, .int .i64 M, .int .i64 N] ∧ Hid (RmAt wr a0 a1 a2 (some ⟨b, o, none⟩) c0 c1 c2 c3 g) ∧ wr.cell? ⟨b, o + n * 4, none⟩ = some (.int .i64 y.port) ∧ wr.cell? ⟨b, o + n * 4 + 3, none⟩ = some (.int .i64 y.writ) ∧ b < wr.heap.size) (fun _ i _ => N3 - (intOf i).toNat)
            case atStart => exact ⟨0, Nat.zero_le _, rfl, rfl, bl, BR, hat, y1, y4, hb⟩
            case round =>
              clear bl BR hat HAT y1 y4 hb
              obtain ⟨m, hm', rfl, rfl, bl, BR, HAT, y1, y4, hb⟩ := hrel
              have hat := HAT.out
              have hcm := hc0 m
              clear HAT
              have cR0 := (BR.2 0 _ rfl).1
              have cR1 := (BR.2 1 _ rfl).1
              have cR2 := (BR.2 2 _ rfl).1
              have cR3 := (BR.2 3 _ rfl).1
              have cR4 := (BR.2 4 _ rfl).1
              have cR5 := (BR.2 5 _ rfl).1
              have zR := BR.1
              by_cases hlt4 : m < N3
              · obtain ⟨z, hz⟩ : ∃ z, g.ns[m]? = some z := ⟨g.ns[m], List.getElem?_eq_getElem (by omega)⟩
                have HST : Hid (_ = _) := cnt_step (p := fun z : Nt => z.port == y.port) hz
                obtain ⟨b', o', e', hb', hww⟩ := hat.n.resolve_left (by rintro e; rw [e] at l3; simp at l3; omega)
                simp only [Option.some.injEq, Addr.mk.injEq, and_true] at e'
                obtain ⟨rfl, rfl⟩ := e'
                obtain ⟨p1, p2, p3, p4⟩ := hww m z hz
                clear hww hz p2 p3 p4 hw1 hn1 hc0
                have hcs : (z.port == y.port) = true ∨ (z.port == y.port) = false := by cases (z.port == y.port) <;> simp
                rcases hcs with d1 | d1
                all_goals
                  have hs2 := HST.out
                  simp only [d1] at hs2
                  have HS2 : Hid (_ = _) := hs2
                  clear hs2 HST
                  generalize hcp : (g.ns.take m).countP (fun z => z.port == y.port) = cp at *
                  clear hcp
                  go_wp2_with fail
                  go_quiet (fail)
                  go_wp2_with fail
                  go_roundw
                  case rel => exact ⟨m + 1, by omega, by go_num, by have := HS2.out; simp at this; rw [this]; (try go_num), below_drewN bl _, BR.below (below_drewN (Below.refl _ _) _), hat.below (below_drewN (Below.refl _ _) _), by simpa using y1, by simpa using y4, by simpa using hb⟩
                  case measure => simp [intOf]; omega
              · have hfull : g.ns.take m = g.ns := List.take_of_length_le (by omega)
                rw [hfull] at hcm ⊢
                clear hfull hc0
                generalize g.ns.countP (fun z => z.port == y.port) = C at *
                have hd3 : decide ((3 : Int) < (C : Int)) = false := decide_eq_false (by omega)
                rcases hn1 with hn1 | ⟨hn1, hn2⟩
                · have hd4 : decide (0 < y.writ) = false := decide_eq_false (by omega)
                  clear hn1
                  go_wp2_with fail
                  go_quiet (fail)
                  go_wp2_with fail
                  go_roundw
                  case rel => exact ⟨n + 1, by omega, by go_num, below_drewN bl _, BR.below (below_drewN (Below.refl _ _) _), hat.below (below_drewN (Below.refl _ _) _)⟩
                  case measure => simp [intOf]; omega
                · have hd4 : decide (0 < y.writ) = true := decide_eq_true (by omega)
                  have hfa := fun (W : World) (h : Below wr.heap.size wr W) => find_any a0 c0 g.ws y.writ W (hat.w.below h) (by omega)
                  rw [l0] at hfa
                  generalize find g.ws y.writ = f at hfa hn2
                  have hd5 : decide (f < 0) = false := decide_eq_false (by omega)
                  go_wp2_with fail
                  have mk : ∀ w' : World, Below wr.heap.size wr w' → Below wr.heap.size wr w' ∧ w'.cell? ⟨w2.heap.size, 0, none⟩ = some (.slice a0 N0 c0) ∧ w'.cell? ⟨w2.heap.size, 3, none⟩ = some (.slice (some ⟨b, o, none⟩) N3 c3) ∧ w'.cell? ⟨b, o + n * 4 + 3, none⟩ = some (.int .i64 y.writ) := fun w' h => ⟨h, by rw [(bcell h).1 _ _ zR]; exact cR0, by rw [(bcell h).1 _ _ zR]; exact cR3, by rw [(bcell h).1 _ _ hb]; exact y4⟩
                  have hB0 : Below wr.heap.size wr wr.drew := below_drewN (Below.refl _ _) 1
                  refine wp_region_held_drew (S := fun w' => Below wr.heap.size wr w' ∧ w'.cell? ⟨w2.heap.size, 0, none⟩ = some (.slice a0 N0 c0) ∧ w'.cell? ⟨w2.heap.size, 3, none⟩ = some (.slice (some ⟨b, o, none⟩) N3 c3) ∧ w'.cell? ⟨b, o + n * 4 + 3, none⟩ = some (.int .i64 y.writ)) (by kernel_rfl) ?_ (fun hHeld => ?_)
                  · exact mk _ hB0
                  refine wpAnyH_take (i := 0) (oi := ({ dst := some 110, op := Op.move (Operand.tmp 8), type := 4, pos := "parts.go:282", after := #[], guard := none } : Oper)) (v := .bool true) rfl (by kernel_rfl) (by kernel_rfl) (by kernel_rfl) (fun _ _ _ h => h) (Or.inl ⟨by rfl, ?_⟩) (by assumption) ?_
                  · intro w hSw; (try dsimp only at hSw); go_simp
                  (try simp only [Act.put, List.setIfInBounds_toArray, List.set_cons_zero, List.set_cons_succ])
                  refine wpAnyH_take (i := 1) (oi := ({ dst := some 111, op := Op.unOp UnOp.not 4 (Operand.tmp 110), type := 4, pos := "parts.go:282", after := #[{ on := 0, ground := Ground.data }], guard := none } : Oper)) (v := .bool false) rfl (by kernel_rfl) (by kernel_rfl) (by kernel_rfl) (fun _ _ _ h => h) (Or.inl ⟨by rfl, ?_⟩) (by assumption) ?_
                  · intro w hSw; (try dsimp only at hSw); go_simp
                  (try simp only [Act.put, List.setIfInBounds_toArray, List.set_cons_zero, List.set_cons_succ])
                  refine wpAnyH_take (i := 2) (oi := ({ dst := some 112, op := Op.move (Operand.tmp 111), type := 4, pos := "parts.go:282", after := #[{ on := 1, ground := Ground.data }], guard := none } : Oper)) (v := .bool false) rfl (by kernel_rfl) (by kernel_rfl) (by kernel_rfl) (fun _ _ _ h => h) (Or.inl ⟨by rfl, ?_⟩) (by assumption) ?_
                  · intro w hSw; (try dsimp only at hSw); go_simp
                  (try simp only [Act.put, List.setIfInBounds_toArray, List.set_cons_zero, List.set_cons_succ])
                  refine wpAnyH_take (i := 3) (oi := ({ dst := some 113, op := Op.move (Operand.tmp 9), type := 3, pos := "parts.go:282", after := #[{ on := 2, ground := Ground.guard }], guard := some (2, false) } : Oper)) (v := .int .i64 C) rfl (by kernel_rfl) (by kernel_rfl) (by kernel_rfl) (fun _ _ _ h => h) (Or.inl ⟨by rfl, ?_⟩) (by assumption) ?_
                  · intro w hSw; (try dsimp only at hSw); go_simp
                  (try simp only [Act.put, List.setIfInBounds_toArray, List.set_cons_zero, List.set_cons_succ])
                  refine wpAnyH_take (i := 4) (oi := ({ dst := some 114, op := Op.binOp BinOp.gtr 3 (Operand.tmp 113) (Operand.const (Value.int IntKind.i64 3)) 3, type := 4, pos := "parts.go:282", after := #[{ on := 3, ground := Ground.data }, { on := 2, ground := Ground.guard }], guard := some (2, false) } : Oper)) (v := .bool false) rfl (by kernel_rfl) (by kernel_rfl) (by kernel_rfl) (fun _ _ _ h => h) (Or.inl ⟨by rfl, ?_⟩) (by assumption) ?_
                  · intro w hSw; (try dsimp only at hSw); go_simp
                  (try simp only [Act.put, List.setIfInBounds_toArray, List.set_cons_zero, List.set_cons_succ])
                  refine wpAnyH_take (i := 5) (oi := ({ dst := some 115, op := Op.pick (Operand.tmp 112) (Operand.const (Value.bool true)) (Operand.tmp 114), type := 4, pos := "parts.go:282", after := #[{ on := 2, ground := Ground.data }, { on := 4, ground := Ground.data }], guard := none } : Oper)) (v := .bool false) rfl (by kernel_rfl) (by kernel_rfl) (by kernel_rfl) (fun _ _ _ h => h) (Or.inl ⟨by rfl, ?_⟩) (by assumption) ?_
                  · intro w hSw; (try dsimp only at hSw); go_simp
                  (try simp only [Act.put, List.setIfInBounds_toArray, List.set_cons_zero, List.set_cons_succ])
                  refine wpAnyH_take (i := 6) (oi := ({ dst := some 116, op := Op.move (Operand.tmp 115), type := 4, pos := "parts.go:282", after := #[{ on := 5, ground := Ground.data }, { on := 2, ground := Ground.chain }], guard := none } : Oper)) (v := .bool false) rfl (by kernel_rfl) (by kernel_rfl) (by kernel_rfl) (fun _ _ _ h => h) (Or.inl ⟨by rfl, ?_⟩) (by assumption) ?_
                  · intro w hSw; (try dsimp only at hSw); go_simp
                  (try simp only [Act.put, List.setIfInBounds_toArray, List.set_cons_zero, List.set_cons_succ])
                  refine wpAnyH_take (i := 7) (oi := ({ dst := some 117, op := Op.fieldAddr 29 (Operand.tmp 4) 3, type := 0, pos := "parts.go:282", after := #[{ on := 6, ground := Ground.guard }], guard := some (6, false) } : Oper)) (v := .pointer (some ⟨w2.heap.size, 3, none⟩)) rfl (by kernel_rfl) (by kernel_rfl) (by kernel_rfl) (fun _ _ _ h => h) (Or.inl ⟨by rfl, ?_⟩) (by assumption) ?_
                  · intro w hSw; (try dsimp only at hSw); go_simp
                  (try simp only [Act.put, List.setIfInBounds_toArray, List.set_cons_zero, List.set_cons_succ])
                  refine wpAnyH_take (i := 8) (oi := ({ dst := some 118, op := Op.load 27 (Operand.tmp 117), type := 27, pos := "parts.go:282", after := #[{ on := 7, ground := Ground.data }, { on := 6, ground := Ground.guard }], guard := some (6, false) } : Oper)) (v := .slice (some ⟨b, o, none⟩) N3 c3) rfl (by kernel_rfl) (by kernel_rfl) (by kernel_rfl) (fun _ _ _ h => h) (Or.inl ⟨by rfl, ?_⟩) (by assumption) ?_
                  · intro w hSw; (try dsimp only at hSw); go_simp
                  (try simp only [Act.put, List.setIfInBounds_toArray, List.set_cons_zero, List.set_cons_succ])
                  refine wpAnyH_take (i := 9) (oi := ({ dst := some 119, op := Op.move (Operand.tmp 7), type := 3, pos := "parts.go:282", after := #[{ on := 6, ground := Ground.guard }], guard := some (6, false) } : Oper)) (v := .int .i64 n) rfl (by kernel_rfl) (by kernel_rfl) (by kernel_rfl) (fun _ _ _ h => h) (Or.inl ⟨by rfl, ?_⟩) (by assumption) ?_
                  · intro w hSw; (try dsimp only at hSw); go_simp
                  (try simp only [Act.put, List.setIfInBounds_toArray, List.set_cons_zero, List.set_cons_succ])
                  refine wpAnyH_take (i := 10) (oi := ({ dst := some 120, op := Op.indexAddr 27 (Operand.tmp 118) (Operand.tmp 119), type := 0, pos := "parts.go:282", after := #[{ on := 8, ground := Ground.data }, { on := 9, ground := Ground.data }, { on := 6, ground := Ground.guard }], guard := some (6, false) } : Oper)) (v := .pointer (some ⟨b, o + n * 4, none⟩)) rfl (by kernel_rfl) (by kernel_rfl) (by kernel_rfl) (fun _ _ _ h => h) (Or.inl ⟨by rfl, ?_⟩) (by assumption) ?_
                  · intro w hSw; (try dsimp only at hSw); go_simp
                  (try simp only [Act.put, List.setIfInBounds_toArray, List.set_cons_zero, List.set_cons_succ])
                  refine wpAnyH_take (i := 11) (oi := ({ dst := some 121, op := Op.fieldAddr 48 (Operand.tmp 120) 3, type := 0, pos := "parts.go:282", after := #[{ on := 10, ground := Ground.data }, { on := 6, ground := Ground.guard }], guard := some (6, false) } : Oper)) (v := .pointer (some ⟨b, o + n * 4 + 3, none⟩)) rfl (by kernel_rfl) (by kernel_rfl) (by kernel_rfl) (fun _ _ _ h => h) (Or.inl ⟨by rfl, ?_⟩) (by assumption) ?_
                  · intro w hSw; (try dsimp only at hSw); go_simp
                  (try simp only [Act.put, List.setIfInBounds_toArray, List.set_cons_zero, List.set_cons_succ])
                  refine wpAnyH_take (i := 12) (oi := ({ dst := some 122, op := Op.load 3 (Operand.tmp 121), type := 3, pos := "parts.go:282", after := #[{ on := 11, ground := Ground.data }, { on := 6, ground := Ground.guard }], guard := some (6, false) } : Oper)) (v := .int .i64 y.writ) rfl (by kernel_rfl) (by kernel_rfl) (by kernel_rfl) (fun _ _ _ h => h) (Or.inl ⟨by rfl, ?_⟩) (by assumption) ?_
                  · intro w hSw; (try dsimp only at hSw); go_simp
                  (try simp only [Act.put, List.setIfInBounds_toArray, List.set_cons_zero, List.set_cons_succ])
                  refine wpAnyH_take (i := 13) (oi := ({ dst := some 123, op := Op.binOp BinOp.gtr 3 (Operand.tmp 122) (Operand.const (Value.int IntKind.i64 0)) 3, type := 4, pos := "parts.go:282", after := #[{ on := 12, ground := Ground.data }, { on := 6, ground := Ground.guard }], guard := some (6, false) } : Oper)) (v := .bool true) rfl (by kernel_rfl) (by kernel_rfl) (by kernel_rfl) (fun _ _ _ h => h) (Or.inl ⟨by rfl, ?_⟩) (by assumption) ?_
                  · intro w hSw; (try dsimp only at hSw); go_simp
                  (try simp only [Act.put, List.setIfInBounds_toArray, List.set_cons_zero, List.set_cons_succ])
                  refine wpAnyH_take (i := 14) (oi := ({ dst := some 124, op := Op.move (Operand.tmp 123), type := 4, pos := "parts.go:282", after := #[{ on := 13, ground := Ground.data }, { on := 6, ground := Ground.chain }, { on := 6, ground := Ground.guard }], guard := some (6, false) } : Oper)) (v := .bool true) rfl (by kernel_rfl) (by kernel_rfl) (by kernel_rfl) (fun _ _ _ h => h) (Or.inl ⟨by rfl, ?_⟩) (by assumption) ?_
                  · intro w hSw; (try dsimp only at hSw); go_simp
                  (try simp only [Act.put, List.setIfInBounds_toArray, List.set_cons_zero, List.set_cons_succ])
                  refine wpAnyH_take (i := 15) (oi := ({ dst := some 125, op := Op.fieldAddr 29 (Operand.tmp 4) 0, type := 0, pos := "parts.go:282", after := #[{ on := 14, ground := Ground.guard }], guard := some (14, true) } : Oper)) (v := .pointer (some ⟨w2.heap.size, 0, none⟩)) rfl (by kernel_rfl) (by kernel_rfl) (by kernel_rfl) (fun _ _ _ h => h) (Or.inl ⟨by rfl, ?_⟩) (by assumption) ?_
                  · intro w hSw; (try dsimp only at hSw); go_simp
                  (try simp only [Act.put, List.setIfInBounds_toArray, List.set_cons_zero, List.set_cons_succ])
                  refine wpAnyH_take (i := 16) (oi := ({ dst := some 126, op := Op.load 24 (Operand.tmp 125), type := 24, pos := "parts.go:282", after := #[{ on := 15, ground := Ground.data }, { on := 14, ground := Ground.guard }], guard := some (14, true) } : Oper)) (v := .slice a0 N0 c0) rfl (by kernel_rfl) (by kernel_rfl) (by kernel_rfl) (fun _ _ _ h => h) (Or.inl ⟨by rfl, ?_⟩) (by assumption) ?_
                  · intro w hSw; (try dsimp only at hSw); go_simp
                  (try simp only [Act.put, List.setIfInBounds_toArray, List.set_cons_zero, List.set_cons_succ])
                  refine wpAnyH_take (i := 17) (oi := ({ dst := some 127, op := Op.fieldAddr 29 (Operand.tmp 4) 3, type := 0, pos := "parts.go:282", after := #[{ on := 14, ground := Ground.guard }], guard := some (14, true) } : Oper)) (v := .pointer (some ⟨w2.heap.size, 3, none⟩)) rfl (by kernel_rfl) (by kernel_rfl) (by kernel_rfl) (fun _ _ _ h => h) (Or.inl ⟨by rfl, ?_⟩) (by assumption) ?_
                  · intro w hSw; (try dsimp only at hSw); go_simp
                  (try simp only [Act.put, List.setIfInBounds_toArray, List.set_cons_zero, List.set_cons_succ])
                  refine wpAnyH_take (i := 18) (oi := ({ dst := some 128, op := Op.load 27 (Operand.tmp 127), type := 27, pos := "parts.go:282", after := #[{ on := 17, ground := Ground.data }, { on := 14, ground := Ground.guard }], guard := some (14, true) } : Oper)) (v := .slice (some ⟨b, o, none⟩) N3 c3) rfl (by kernel_rfl) (by kernel_rfl) (by kernel_rfl) (fun _ _ _ h => h) (Or.inl ⟨by rfl, ?_⟩) (by assumption) ?_
                  · intro w hSw; (try dsimp only at hSw); go_simp
                  (try simp only [Act.put, List.setIfInBounds_toArray, List.set_cons_zero, List.set_cons_succ])
                  refine wpAnyH_take (i := 19) (oi := ({ dst := some 129, op := Op.move (Operand.tmp 7), type := 3, pos := "parts.go:282", after := #[{ on := 14, ground := Ground.guard }], guard := some (14, true) } : Oper)) (v := .int .i64 n) rfl (by kernel_rfl) (by kernel_rfl) (by kernel_rfl) (fun _ _ _ h => h) (Or.inl ⟨by rfl, ?_⟩) (by assumption) ?_
                  · intro w hSw; (try dsimp only at hSw); go_simp
                  (try simp only [Act.put, List.setIfInBounds_toArray, List.set_cons_zero, List.set_cons_succ])
                  refine wpAnyH_take (i := 20) (oi := ({ dst := some 130, op := Op.indexAddr 27 (Operand.tmp 128) (Operand.tmp 129), type := 0, pos := "parts.go:282", after := #[{ on := 18, ground := Ground.data }, { on := 19, ground := Ground.data }, { on := 14, ground := Ground.guard }], guard := some (14, true) } : Oper)) (v := .pointer (some ⟨b, o + n * 4, none⟩)) rfl (by kernel_rfl) (by kernel_rfl) (by kernel_rfl) (fun _ _ _ h => h) (Or.inl ⟨by rfl, ?_⟩) (by assumption) ?_
                  · intro w hSw; (try dsimp only at hSw); go_simp
                  (try simp only [Act.put, List.setIfInBounds_toArray, List.set_cons_zero, List.set_cons_succ])
                  refine wpAnyH_take (i := 21) (oi := ({ dst := some 131, op := Op.fieldAddr 48 (Operand.tmp 130) 3, type := 0, pos := "parts.go:282", after := #[{ on := 20, ground := Ground.data }, { on := 14, ground := Ground.guard }], guard := some (14, true) } : Oper)) (v := .pointer (some ⟨b, o + n * 4 + 3, none⟩)) rfl (by kernel_rfl) (by kernel_rfl) (by kernel_rfl) (fun _ _ _ h => h) (Or.inl ⟨by rfl, ?_⟩) (by assumption) ?_
                  · intro w hSw; (try dsimp only at hSw); go_simp
                  (try simp only [Act.put, List.setIfInBounds_toArray, List.set_cons_zero, List.set_cons_succ])
                  refine wpAnyH_take (i := 22) (oi := ({ dst := some 132, op := Op.load 3 (Operand.tmp 131), type := 3, pos := "parts.go:282", after := #[{ on := 21, ground := Ground.data }, { on := 14, ground := Ground.guard }], guard := some (14, true) } : Oper)) (v := .int .i64 y.writ) rfl (by kernel_rfl) (by kernel_rfl) (by kernel_rfl) (fun _ _ _ h => h) (Or.inl ⟨by rfl, ?_⟩) (by assumption) ?_
                  · intro w hSw; (try dsimp only at hSw); go_simp
                  (try simp only [Act.put, List.setIfInBounds_toArray, List.set_cons_zero, List.set_cons_succ])
                  refine wpAnyH_ready (rs := [23]) (by kernel_rfl) (by simp) ?_
                  refine AllReadyH.cons (o := ({ dst := some 133, op := Op.call { callee := Callee.value (Operand.func 13), args := #[Operand.tmp 126, Operand.tmp 132], argTypes := #[24, 3] }, type := 3, pos := "parts.go:282", after := #[{ on := 16, ground := Ground.data }, { on := 22, ground := Ground.data }, { on := 14, ground := Ground.chain }, { on := 14, ground := Ground.guard }], guard := some (14, true) } : Oper)) rfl (fun K hK => ?_) AllReadyH.nil
                  rw [if_pos (by rfl)]
                  go_wp2_with (first | (go_at_call 13; refine Calls.mono (hfa _ hB0) ?_; rintro e w8 ⟨rfl, hb8⟩; have hB8 := Below_after hB0 hb8))
                  refine hK.out _ _ ?_ (fun hHeld => ?_)
                  · exact mk _ hB8
                  clear hK K
                  (try simp only [Act.put, List.setIfInBounds_toArray, List.set_cons_zero, List.set_cons_succ])
                  refine wpAnyH_take (i := 24) (oi := ({ dst := some 134, op := Op.binOp BinOp.lss 3 (Operand.tmp 133) (Operand.const (Value.int IntKind.i64 0)) 3, type := 4, pos := "parts.go:282", after := #[{ on := 23, ground := Ground.data }, { on := 14, ground := Ground.guard }], guard := some (14, true) } : Oper)) (v := .bool false) rfl (by kernel_rfl) (by kernel_rfl) (by kernel_rfl) (fun _ _ _ h => h) (Or.inl ⟨by rfl, ?_⟩) (by assumption) ?_
                  · intro w hSw; (try dsimp only at hSw); go_simp
                  (try simp only [Act.put, List.setIfInBounds_toArray, List.set_cons_zero, List.set_cons_succ])
                  refine wpAnyH_take (i := 25) (oi := ({ dst := some 135, op := Op.pick (Operand.tmp 124) (Operand.tmp 134) (Operand.const (Value.bool false)), type := 4, pos := "parts.go:282", after := #[{ on := 14, ground := Ground.data }, { on := 24, ground := Ground.data }, { on := 6, ground := Ground.guard }], guard := some (6, false) } : Oper)) (v := .bool false) rfl (by kernel_rfl) (by kernel_rfl) (by kernel_rfl) (fun _ _ _ h => h) (Or.inl ⟨by rfl, ?_⟩) (by assumption) ?_
                  · intro w hSw; (try dsimp only at hSw); go_simp
                  (try simp only [Act.put, List.setIfInBounds_toArray, List.set_cons_zero, List.set_cons_succ])
                  refine wpAnyH_take (i := 26) (oi := ({ dst := some 136, op := Op.pick (Operand.tmp 116) (Operand.const (Value.bool true)) (Operand.tmp 135), type := 4, pos := "parts.go:282", after := #[{ on := 6, ground := Ground.data }, { on := 25, ground := Ground.data }], guard := none } : Oper)) (v := .bool false) rfl (by kernel_rfl) (by kernel_rfl) (by kernel_rfl) (fun _ _ _ h => h) (Or.inl ⟨by rfl, ?_⟩) (by assumption) ?_
                  · intro w hSw; (try dsimp only at hSw); go_simp
                  (try simp only [Act.put, List.setIfInBounds_toArray, List.set_cons_zero, List.set_cons_succ])
                  refine wpAnyH_done (by kernel_rfl) ?_ _
                  go_wp2_with fail
                  go_roundw
                  case rel => exact ⟨n + 1, by omega, by go_num, Below_after bl hB8, BR.below hB8, hat.below hB8⟩
                  case measure => simp [intOf]; omega
theorem talive_any (w : World) (a : Option Addr) (l : List Ac) (c : Nat) (hw : AcsAt w a l) (hm : l.length ≤ maxLen) :
    Calls Try.prog 5 #[.slice a l.length c] w fun e w' => e = .returned (.bool true) ∧ Below w.heap.size w w' := by
  cases hq : lacB l 80
  · exact talive_no a c l w hw hm hq
  · exact talive_yes a c l w hw hm hq
end Go.Proofs.Ytihckdndecbefac
