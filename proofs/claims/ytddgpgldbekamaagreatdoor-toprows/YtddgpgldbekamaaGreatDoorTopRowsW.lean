/- TopRows, walked. -/
import Derived.Test.YtddgpgldbekamaaGreatDoorAllPure
import Derived.Test.YtddgpgldbekamaaGreatDoorGrownB
import Derived.Test.YtddgpgldbekamaaGreatDoorMadeW
import Derived.Test.YtddgpgldbekamaaGreatDoorQuietW
import Derived.Test.YtddgpgldbekamaaGreatDoorSameW
import Derived.Test.YtddgpgldbekamaaGreatDoorRealmTops2
import Derived.Test.YtddgpgldbekamaaGreatDoorGrowLaw
import Derived.Test.YtddgpgldbekamaaGreatDoorImAt
import Derived.Test.YtddgpgldbekamaaGreatDoorImPure
import Derived.Deep.RegionHeld3
set_option linter.unusedSimpArgs false
set_option linter.unnecessarySimpa false
set_option linter.unusedVariables false
namespace Go.Proofs.YtddgpgldbekamaaGreatDoor
open Go.RowKit

theorem quiet_szR {r : Rm} (hW : Whole r) (hz : RmSz r) : RmSz (quietR r) := by
  obtain ⟨h1, h2, h3, -⟩ := top_quiet hW
  have hQ := whole_quiet hW
  refine ⟨?_, ?_, ?_, ?_, hz.nw, hz.nt⟩
  · rw [← h3, h2]; have := hz.h; omega
  · have := hQ.tl; omega
  · rw [h2]; exact hz.h
  · rw [h1]; simp
set_option maxHeartbeats 2000000 in
set_option maxRecDepth 100000 in
theorem trows_no (a : Option Addr) (c : Nat) (l : List Ac) (w : World) (hw : AcsAt w a l) (hm : l.length ≤ maxLen) (hq : lacB l 80 = false) :
    Calls Tryz.prog 4 #[.slice a l.length c] w fun e w' => e = .returned (.bool true) ∧ Below w.heap.size w w' := by
  have bl := Below.refl w.heap.size w
  go_enter Tryz.func4, Tryz.ntmps4
  have hcon := made_any w
  go_wp2_with fail
  refine hcon.mono ?_
  rintro e w1 ⟨rfl, hb1⟩
  clear hcon
  replace bl := Below_after bl hb1
  have hcon := grown_no a c l w1 (hw.below bl) hm hq
  go_wp2_with fail
  refine hcon.mono ?_
  rintro e w2 ⟨rfl, hb2⟩
  clear hcon
  replace bl := Below_after bl hb2
  replace bl := bl.alloc bl.size (.cells #[.slice none 0 0, .slice none 0 0, .slice none 0 0, .slice none 0 0, .int .i64 0, .int .i64 0] 32)
  have BZ := Bx.new w2 [.slice none 0 0, .slice none 0 0, .slice none 0 0, .slice none 0 0, .int .i64 0, .int .i64 0] 32
  go_wp2_with fail
  go_ret
  exact ⟨rfl, bl⟩
set_option maxHeartbeats 2000000 in
set_option maxRecDepth 100000 in
theorem trows_yes (a : Option Addr) (c : Nat) (l : List Ac) (w : World) (hw : AcsAt w a l) (hm : l.length ≤ maxLen) (ht : Tab w) (hq : lacB l 80 = true) :
    Calls Tryz.prog 4 #[.slice a l.length c] w fun e w' => e = .returned (.bool true) ∧ Below w.heap.size w w' := by
  have bl := Below.refl w.heap.size w
  have hlen := lac_len hq
  have hi := inv_grow l l.length (by omega)
  rw [List.take_length] at hi
  have hI : RmI (growR l) := ⟨hi.sz (by omega), hi.put, hi.wf⟩
  have hW := whole_grow l
  have hk : InvK 80 (growR l) := hi.mono (by omega)
  clear hi
  go_enter Tryz.func4, Tryz.ntmps4
  have hcon := made_any w
  go_wp2_with fail
  refine hcon.mono ?_
  rintro e w1 ⟨rfl, hb1⟩
  clear hcon
  replace bl := Below_after bl hb1
  have hg := grown_yes a c l w1 (hw.below bl) hm hq
  generalize growR l = g at hg hI hW hk
  clear hq hw hm hlen
  have hcon := hg
  clear hg
  go_wp2_with fail
  refine hcon.mono ?_
  rintro e w2 ⟨a0, a1, a2, a3, N0, N1, N2, N3, c0, c1, c2, c3, M, N, rfl, ⟨l0, l1, l2, l3, l4, l5⟩, hat, -, hb2⟩
  clear hcon
  replace bl := Below_after bl hb2
  replace hat := hat.below ((Below.refl _ _).alloc (Nat.le_refl _) (.cells #[.slice a0 N0 c0, .slice a1 N1 c1, .slice a2 N2 c2, .slice a3 N3 c3, .int .i64 M, .int .i64 N] 32))
  replace bl := bl.alloc bl.size (.cells #[.slice a0 N0 c0, .slice a1 N1 c1, .slice a2 N2 c2, .slice a3 N3 c3, .int .i64 M, .int .i64 N] 32)
  have BR := Bx.new w2 [.slice a0 N0 c0, .slice a1 N1 c1, .slice a2 N2 c2, .slice a3 N3 c3, .int .i64 M, .int .i64 N] 32
  obtain ⟨q1, q2, q3, q4⟩ := top_quiet hW
  have hQ := whole_quiet hW
  have hQz := quiet_szR hW hI.sz
  have hok := whole_imok hQ
  have h60 := rows_sixty hQ q1
  have hpr := parse_rows hQ q1
  have hmx := rows_max hok
  have k2 : (quietR g).hs.length = N2 := by rw [q2, l2]
  have k0 : (quietR g).ws.length = N2 := by rw [← q3, k2]
  have k3 : (quietR g).ns.length = 0 := by rw [q1]; rfl
  have k4 : (quietR g).nw = M := by rw [← l4]; rfl
  have k5 : (quietR g).nt = N := by rw [← l5]; rfl
  have hrw := fun (W : World) (h : RmAt W a0 a1 a2 a3 c0 c1 c2 c3 g) (ht : Tab W) => rows_any a0 a1 a2 a3 c0 c1 c2 c3 g W h hI.sz hok (by have := hQz.h; omega) hQz.t hQz.w ht
  simp only [l0, l1, l2, l3, l4, l5] at hrw
  have hqu := fun (W : World) (h : RmAt W a0 a1 a2 a3 c0 c1 c2 c3 g) => quiet_any a0 a1 a2 a3 c0 c1 c2 c3 g W h hI.sz
  simp only [l0, l1, l2, l3, l4, l5, k0, k2, k3] at hqu
  have hss := fun (b0 b1 b2 b3 : Option Addr) (d0 d1 d2 d3 : Nat) (x0 x1 x2 x3 : Option Addr) (f0 f1 f2 f3 : Nat) (W : World) (h : RmAt W b0 b1 b2 b3 d0 d1 d2 d3 (quietR g)) (h' : RmAt W x0 x1 x2 x3 f0 f1 f2 f3 (quietR g)) => sr_same b0 b1 b2 b3 d0 d1 d2 d3 (quietR g) x0 x1 x2 x3 f0 f1 f2 f3 W h h' hQz
  simp only [k0, k2, k3, k4, k5] at hss
  have hpa := fun (a : Option Addr) (c : Nat) (W : World) (h : ChsAt W a (rowsL (quietR g))) => parse_any a c (rowsL (quietR g)) W h (by omega)
  have hd60 : decide (((rowsL (quietR g)).length : Int) ≤ 60) = true := decide_eq_true (by omega)
  generalize hn1 : (quietR g).ts.length = n1 at *
  have HK : Hid ((quietR g).ws.length = N2 ∧ (quietR g).hs.length = N2 ∧ (quietR g).ns.length = 0 ∧ (quietR g).nw = M ∧ (quietR g).nt = N ∧ (quietR g).ts.length = n1) := ⟨k0, k2, k3, k4, k5, hn1⟩
  have HP : Hid (parseR (rowsL (quietR g)) = some (quietR g)) := hpr
  clear hn1 q1 q2 q3 q4 k0 k2 k3 k4 k5 hQ hQz hok h60 hpr
  generalize quietR g = q at *
  generalize hrl : rowsL q = rl at *
  have HR : Hid (rowsL q = rl) := hrl
  clear hrl
  have cR0 := (BR.2 0 _ rfl).1
  have cR1 := (BR.2 1 _ rfl).1
  have cR2 := (BR.2 2 _ rfl).1
  have cR3 := (BR.2 3 _ rfl).1
  have cR4 := (BR.2 4 _ rfl).1
  have cR5 := (BR.2 5 _ rfl).1
  have zR := BR.1
  have hcon := hrw _ hat (ht.below bl)
  go_wp2_with fail
  refine hcon.mono ?_
  rintro e w3 ⟨v, rfl, hown, hb3⟩
  clear cR0 cR1 cR2 cR3 cR4 cR5 zR hcon
  replace BR := BR.below hb3
  replace hat := hat.below hb3
  replace bl := Below_after bl hb3
  have yR := BR.1
  obtain ⟨ra, rc, rfl, hch⟩ := chs_of_row hown hmx
  clear hown
  have hcon := hpa ra rc _ hch
  have cR0 := (BR.2 0 _ rfl).1
  have cR1 := (BR.2 1 _ rfl).1
  have cR2 := (BR.2 2 _ rfl).1
  have cR3 := (BR.2 3 _ rfl).1
  have cR4 := (BR.2 4 _ rfl).1
  have cR5 := (BR.2 5 _ rfl).1
  have zR := BR.1
  go_wp2_with fail
  refine hcon.mono ?_
  rintro e w4 ⟨hb4, hO⟩
  obtain ⟨x0, x1, x2, x3, f0, f1, f2, f3, he, hat2⟩ : ∃ b0 b1 b2 b3 d0 d1 d2 d3, e = .returned (.tuple #[.agg #[.slice b0 N2 d0, .slice b1 n1 d1, .slice b2 N2 d2, .slice b3 0 d3, .int .i64 M, .int .i64 N], .nilIface]) ∧ RmAt w4 b0 b1 b2 b3 d0 d1 d2 d3 q := by
    rcases hO with ⟨z, b0, b1, b2, b3, d0, d1, d2, d3, hz, he, hr⟩ | ⟨hz, -⟩
    · rw [HP.out] at hz
      cases hz
      obtain ⟨e0, e1, e2, e3, e4, e5⟩ := HK.out
      rw [e0, e1, e2, e3, e4, e5] at he
      exact ⟨_, _, _, _, _, _, _, _, he, hr⟩
    · rw [HP.out] at hz; cases hz
  subst he
  clear hO
  clear cR0 cR1 cR2 cR3 cR4 cR5 zR hcon hch
  clear yR
  replace BR := BR.below hb4
  replace hat := hat.below hb4
  replace bl := Below_after bl hb4
  have yR := BR.1
  replace BR := BR.alloc (.cells #[.slice x0 N2 f0, .slice x1 n1 f1, .slice x2 N2 f2, .slice x3 0 f3, .int .i64 M, .int .i64 N] 32)
  replace hat := hat.below ((Below.refl _ _).alloc (Nat.le_refl _) (.cells #[.slice x0 N2 f0, .slice x1 n1 f1, .slice x2 N2 f2, .slice x3 0 f3, .int .i64 M, .int .i64 N] 32))
  replace hat2 := hat2.below ((Below.refl _ _).alloc (Nat.le_refl _) (.cells #[.slice x0 N2 f0, .slice x1 n1 f1, .slice x2 N2 f2, .slice x3 0 f3, .int .i64 M, .int .i64 N] 32))
  replace bl := bl.alloc bl.size (.cells #[.slice x0 N2 f0, .slice x1 n1 f1, .slice x2 N2 f2, .slice x3 0 f3, .int .i64 M, .int .i64 N] 32)
  have BX := Bx.new w4 [.slice x0 N2 f0, .slice x1 n1 f1, .slice x2 N2 f2, .slice x3 0 f3, .int .i64 M, .int .i64 N] 32
  have cX0 := (BX.2 0 _ rfl).1
  have cX1 := (BX.2 1 _ rfl).1
  have cX2 := (BX.2 2 _ rfl).1
  have cX3 := (BX.2 3 _ rfl).1
  have cX4 := (BX.2 4 _ rfl).1
  have cX5 := (BX.2 5 _ rfl).1
  have zX := BX.1
  have cR0 := (BR.2 0 _ rfl).1
  have cR1 := (BR.2 1 _ rfl).1
  have cR2 := (BR.2 2 _ rfl).1
  have cR3 := (BR.2 3 _ rfl).1
  have cR4 := (BR.2 4 _ rfl).1
  have cR5 := (BR.2 5 _ rfl).1
  have zR := BR.1
  have htv := ht.below bl
  go_wp2_with fail
  generalize (w4.alloc (.cells #[.slice x0 N2 f0, .slice x1 n1 f1, .slice x2 N2 f2, .slice x3 0 f3, .int .i64 M, .int .i64 N] 32)) = vv at *
  have mk : ∀ w' : World, Below vv.heap.size vv w' → Below vv.heap.size vv w' ∧ w'.cell? ⟨w4.heap.size, 0, none⟩ = some (.slice x0 N2 f0) ∧ w'.cell? ⟨w4.heap.size, 1, none⟩ = some (.slice x1 n1 f1) ∧ w'.cell? ⟨w4.heap.size, 2, none⟩ = some (.slice x2 N2 f2) ∧ w'.cell? ⟨w4.heap.size, 3, none⟩ = some (.slice x3 0 f3) ∧ w'.cell? ⟨w4.heap.size, 4, none⟩ = some (.int .i64 M) ∧ w'.cell? ⟨w4.heap.size, 5, none⟩ = some (.int .i64 N) ∧ w'.cell? ⟨w2.heap.size, 0, none⟩ = some (.slice a0 N0 c0) ∧ w'.cell? ⟨w2.heap.size, 1, none⟩ = some (.slice a1 N1 c1) ∧ w'.cell? ⟨w2.heap.size, 2, none⟩ = some (.slice a2 N2 c2) ∧ w'.cell? ⟨w2.heap.size, 3, none⟩ = some (.slice a3 N3 c3) ∧ w'.cell? ⟨w2.heap.size, 4, none⟩ = some (.int .i64 M) ∧ w'.cell? ⟨w2.heap.size, 5, none⟩ = some (.int .i64 N) := fun w' h => ⟨h, by rw [(bcell h).1 _ _ zX]; exact cX0, by rw [(bcell h).1 _ _ zX]; exact cX1, by rw [(bcell h).1 _ _ zX]; exact cX2, by rw [(bcell h).1 _ _ zX]; exact cX3, by rw [(bcell h).1 _ _ zX]; exact cX4, by rw [(bcell h).1 _ _ zX]; exact cX5, by rw [(bcell h).1 _ _ zR]; exact cR0, by rw [(bcell h).1 _ _ zR]; exact cR1, by rw [(bcell h).1 _ _ zR]; exact cR2, by rw [(bcell h).1 _ _ zR]; exact cR3, by rw [(bcell h).1 _ _ zR]; exact cR4, by rw [(bcell h).1 _ _ zR]; exact cR5⟩
  have hB0 : Below vv.heap.size vv vv.drew := below_drewN (Below.refl _ _) 1
  refine wp_region_held_drew (S := fun w' => Below vv.heap.size vv w' ∧ w'.cell? ⟨w4.heap.size, 0, none⟩ = some (.slice x0 N2 f0) ∧ w'.cell? ⟨w4.heap.size, 1, none⟩ = some (.slice x1 n1 f1) ∧ w'.cell? ⟨w4.heap.size, 2, none⟩ = some (.slice x2 N2 f2) ∧ w'.cell? ⟨w4.heap.size, 3, none⟩ = some (.slice x3 0 f3) ∧ w'.cell? ⟨w4.heap.size, 4, none⟩ = some (.int .i64 M) ∧ w'.cell? ⟨w4.heap.size, 5, none⟩ = some (.int .i64 N) ∧ w'.cell? ⟨w2.heap.size, 0, none⟩ = some (.slice a0 N0 c0) ∧ w'.cell? ⟨w2.heap.size, 1, none⟩ = some (.slice a1 N1 c1) ∧ w'.cell? ⟨w2.heap.size, 2, none⟩ = some (.slice a2 N2 c2) ∧ w'.cell? ⟨w2.heap.size, 3, none⟩ = some (.slice a3 N3 c3) ∧ w'.cell? ⟨w2.heap.size, 4, none⟩ = some (.int .i64 M) ∧ w'.cell? ⟨w2.heap.size, 5, none⟩ = some (.int .i64 N)) (by kernel_rfl) ?_ (fun hHeld => ?_)
  · exact mk _ hB0
  refine tkI 0 (.nilIface) rfl ?_
  refine tkI 1 (.bool true) rfl ?_
  refine tkI 2 (.bool true) rfl ?_
  refine tkI 3 (.agg #[.slice x0 N2 f0, .slice x1 n1 f1, .slice x2 N2 f2, .slice x3 0 f3, .int .i64 M, .int .i64 N]) rfl ?_
  refine tkI 4 (.agg #[.slice a0 N0 c0, .slice a1 N1 c1, .slice a2 N2 c2, .slice a3 N3 c3, .int .i64 M, .int .i64 N]) rfl ?_
  refine rdI 5 rfl (fun K hK => ?_)
  go_wp2_with (first | (go_at_call 24; refine Calls.mono (hqu _ (hat.below hB0)) ?_; rintro e w6 ⟨y0, y1, y2, y3, g0, g1, g2, g3, rfl, hat3, hb6⟩; have hB6 := Below_after hB0 hb6))
  refine hK.out _ _ ?_ (fun hHeld => ?_)
  · exact mk _ hB6
  clear hK K
  (try simp only [Act.put, List.setIfInBounds_toArray, List.set_cons_zero, List.set_cons_succ])
  refine rdI 6 rfl (fun K hK => ?_)
  go_wp2_with (first | (go_at_call 18; refine Calls.mono (hss x0 x1 x2 x3 f0 f1 f2 f3 y0 y1 y2 y3 g0 g1 g2 g3 _ (hat2.below hB6) hat3) ?_; rintro e w7 ⟨rfl, hb7⟩; have hB7 := Below_after hB6 hb7))
  refine hK.out _ _ ?_ (fun hHeld => ?_)
  · exact mk _ hB7
  clear hK K
  (try simp only [Act.put, List.setIfInBounds_toArray, List.set_cons_zero, List.set_cons_succ])
  refine tkI 7 (.bool true) rfl ?_
  refine tkI 8 (.bool true) rfl ?_
  refine tkI 9 (.agg #[.slice a0 N0 c0, .slice a1 N1 c1, .slice a2 N2 c2, .slice a3 N3 c3, .int .i64 M, .int .i64 N]) rfl ?_
  refine rdI 10 rfl (fun K hK => ?_)
  go_wp2_with (first | (go_at_call 15; refine Calls.mono (hrw _ (hat.below hB7) (htv.below hB7)) ?_; rintro e w8 ⟨v8, rfl, ho8, hb8⟩; have hB8 := Below_after hB7 hb8))
  obtain ⟨r8, c8, rfl, -⟩ := chs_of_row ho8 hmx
  refine hK.out _ _ ?_ (fun hHeld => ?_)
  · exact mk _ hB8
  clear hK K
  (try simp only [Act.put, List.setIfInBounds_toArray, List.set_cons_zero, List.set_cons_succ])
  refine tkI 11 (.int .i64 rl.length) rfl ?_
  refine tkI 12 (.bool true) rfl ?_
  refine tkI 13 (.bool true) rfl ?_
  refine tkI 14 (.bool true) rfl ?_
  refine wpAnyH_done (by kernel_rfl) ?_ _
  replace bl := bl.trans (hB8.mono bl.size)
  go_wp2_with fail
  go_ret
  exact ⟨rfl, bl⟩
theorem trows_any (w : World) (a : Option Addr) (l : List Ac) (c : Nat) (hw : AcsAt w a l) (hm : l.length ≤ maxLen) (ht : Tab w) :
    Calls Tryz.prog 4 #[.slice a l.length c] w fun e w' => e = .returned (.bool true) ∧ Below w.heap.size w w' := by
  cases hq : lacB l 80
  · exact trows_no a c l w hw hm hq
  · exact trows_yes a c l w hw hm ht hq
end Go.Proofs.YtddgpgldbekamaaGreatDoor
