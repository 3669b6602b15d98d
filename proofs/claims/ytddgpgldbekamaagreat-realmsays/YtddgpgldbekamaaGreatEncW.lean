/- realm.enclose, Make, Give, Move (E2, E3, E8), as the landed code has them. -/
import Derived.Test.YtddgpgldbekamaaGreatBox
import Derived.Test.YtddgpgldbekamaaGreatDerW
import Derived.Test.YtddgpgldbekamaaGreatPutW
import Derived.Deep.RegionHeld3
import Derived.Deep.QuietTactic
import Derived.BigQuiet
import Derived.WalkSmall
set_option linter.unusedSimpArgs false
set_option linter.unusedVariables false
namespace Go.Proofs.YtddgpgldbekamaaGreat
open Go.RowKit


theorem WrsAt.ofRow {w : World} {base : Nat} {e : TypeId} {a : Option Addr} {n c : Nat} {l : List Wr} (h : w.ownsRow base e 5 (.slice a n c) l.length (l.flatMap wcells)) : WrsAt w a l ∧ n = l.length ∧ Fit l.length c := by
  obtain ⟨a', c', e1, h1, h2⟩ := wrow_at h
  cases e1; exact ⟨h1, rfl, h2⟩
theorem ThsAt.ofRow {w : World} {base : Nat} {e : TypeId} {a : Option Addr} {n c : Nat} {l : List Th} (h : w.ownsRow base e 3 (.slice a n c) l.length (l.flatMap tcells)) : ThsAt w a l ∧ n = l.length ∧ Fit l.length c := by
  obtain ⟨a', c', e1, h1, h2⟩ := trow_at h
  cases e1; exact ⟨h1, rfl, h2⟩
theorem HdsAt.ofRow {w : World} {base : Nat} {e : TypeId} {a : Option Addr} {n c : Nat} {l : List Hd} (h : w.ownsRow base e 3 (.slice a n c) l.length (l.flatMap hcells)) : HdsAt w a l ∧ n = l.length ∧ Fit l.length c := by
  obtain ⟨a', c', e1, h1, h2⟩ := hrow_at h
  cases e1; exact ⟨h1, rfl, h2⟩
theorem NtsAt.ofRow {w : World} {base : Nat} {e : TypeId} {a : Option Addr} {n c : Nat} {l : List Nt} (h : w.ownsRow base e 4 (.slice a n c) l.length (l.flatMap ncells)) : NtsAt w a l ∧ n = l.length ∧ Fit l.length c := by
  obtain ⟨a', c', e1, h1, h2⟩ := nrow_at h
  cases e1; exact ⟨h1, rfl, h2⟩
theorem OwnsR.rm {w : World} {base : Nat} {b0 b1 b2 b3 : Option Addr} {n0 n1 n2 n3 d0 d1 d2 d3 : Nat} {r : Rm} (h : OwnsR w base (.slice b0 n0 d0) (.slice b1 n1 d1) (.slice b2 n2 d2) (.slice b3 n3 d3) r) : RmAt w b0 b1 b2 b3 d0 d1 d2 d3 r :=
  ⟨(WrsAt.ofRow h.rw_).1, (ThsAt.ofRow h.rt).1, (HdsAt.ofRow h.rh).1, (NtsAt.ofRow h.rn).1, (WrsAt.ofRow h.rw_).2.2, (ThsAt.ofRow h.rt).2.2, (HdsAt.ofRow h.rh).2.2, (NtsAt.ofRow h.rn).2.2⟩
theorem put_row (a : Option Addr) (c : Nat) (l : List Hd) (h s id : Int) (w : World) (hw : HdsAt w a l) (hm : l.length ≤ 100) (H : Nat) (hH : (putL l h s id).length = H) :
    Calls Tryz.prog 35 #[.slice a l.length c, .agg #[.int .i64 h, .int .i64 s], .int .i64 id] w
      fun e w' => ∃ a' c', e = .returned (.slice a' H c') ∧ w'.ownsRow w.heap.size 93 3 (.slice a' H c') (putL l h s id).length ((putL l h s id).flatMap hcells) ∧ Below w.heap.size w w' := by
  rcases hw with rfl | ⟨b, o, rfl, hb, hx⟩
  · refine (put_nil a c h s id w).mono ?_
    rintro e w1 ⟨v, rfl, hrow, hbl⟩
    obtain ⟨a', c', rfl, -, -⟩ := hrow_at hrow
    subst hH
    exact ⟨a', c', rfl, ownsRow_mono hrow (by omega), hbl⟩
  · refine (put_some b o c l h s id w hx hb hm).mono ?_
    rintro e w1 ⟨v, rfl, hrow, hbl⟩
    obtain ⟨a', c', rfl, -, -⟩ := hrow_at hrow
    subst hH
    exact ⟨a', c', rfl, ownsRow_mono hrow (by omega), hbl⟩
theorem copy_at (aw at_ ah an : Option Addr) (cw ct ch cn : Nat) (r : Rm) (w : World) (hr : RmAt w aw at_ ah an cw ct ch cn r) (hs : RmSz r) :
    Calls Tryz.prog 18 #[.agg #[.slice aw r.ws.length cw, .slice at_ r.ts.length ct, .slice ah r.hs.length ch, .slice an r.ns.length cn, .int .i64 r.nw, .int .i64 r.nt]] w fun e w' => ∃ b0 b1 b2 b3 d0 d1 d2 d3, e = .returned (.agg #[.slice b0 r.ws.length d0, .slice b1 r.ts.length d1, .slice b2 r.hs.length d2, .slice b3 r.ns.length d3, .int .i64 r.nw, .int .i64 r.nt]) ∧ OwnsR w' w.heap.size (.slice b0 r.ws.length d0) (.slice b1 r.ts.length d1) (.slice b2 r.hs.length d2) (.slice b3 r.ns.length d3) r ∧ Below w.heap.size w w' := by
  refine (copy_any aw at_ ah an cw ct ch cn r w hr hs).mono ?_
  rintro e w1 ⟨v0, v1, v2, v3, rfl, hO, hb⟩
  obtain ⟨b0, b1, b2, b3, d0, d1, d2, d3, rfl, rfl, rfl, rfl, -⟩ := hO.at
  exact ⟨b0, b1, b2, b3, d0, d1, d2, d3, rfl, hO, hb⟩
theorem rderive_at (aw at_ ah an : Option Addr) (cw ct ch cn : Nat) (r : Rm) (x : Wr) (rights badge : Int) (w : World) (hr : RmAt w aw at_ ah an cw ct ch cn r) (hz : RmSz r) (hd : dC r x rights badge = 0) (L : Nat) (hL : (r.ws ++ [drvW x r.nw rights badge]).length = L) :
    Calls Tryz.prog 89 #[.agg #[.slice aw r.ws.length cw, .slice at_ r.ts.length ct, .slice ah r.hs.length ch, .slice an r.ns.length cn, .int .i64 r.nw, .int .i64 r.nt], .agg #[.int .i64 x.id, .int .i64 x.thing, .int .i64 x.rights, .int .i64 x.badge, .int .i64 x.frm], .int .i64 rights, .int .i64 badge] w fun e w' => ∃ b0 b1 b2 b3 d0 d1 d2 d3, e = .returned (.tuple #[.agg #[.slice b0 L d0, .slice b1 r.ts.length d1, .slice b2 r.hs.length d2, .slice b3 r.ns.length d3, .int .i64 (r.nw + 1), .int .i64 r.nt], .nilIface]) ∧ OwnsR w' w.heap.size (.slice b0 L d0) (.slice b1 r.ts.length d1) (.slice b2 r.hs.length d2) (.slice b3 r.ns.length d3) (addR r (drvW x r.nw rights badge)) ∧ Below w.heap.size w w' := by
  unfold dC at hd
  by_cases h : 999 < r.nw
  · rw [if_pos h] at hd; cases hd
  · rw [if_neg h] at hd
    refine (rderive_yes aw at_ ah an cw ct ch cn r x rights badge w hr hz h hd).mono ?_
    rintro e w1 ⟨v0, v1, v2, v3, rfl, hO, hb⟩
    obtain ⟨b0, b1, b2, b3, d0, d1, d2, d3, rfl, rfl, rfl, rfl, -⟩ := hO.at
    subst hL
    exact ⟨b0, b1, b2, b3, d0, d1, d2, d3, rfl, hO, hb⟩
theorem rderive_err (aw at_ ah an : Option Addr) (cw ct ch cn : Nat) (r : Rm) (x : Wr) (rights badge : Int) (w : World) (hr : RmAt w aw at_ ah an cw ct ch cn r) (hz : RmSz r) (hd : dC r x rights badge ≠ 0) :
    Calls Tryz.prog 89 #[.agg #[.slice aw r.ws.length cw, .slice at_ r.ts.length ct, .slice ah r.hs.length ch, .slice an r.ns.length cn, .int .i64 r.nw, .int .i64 r.nt], .agg #[.int .i64 x.id, .int .i64 x.thing, .int .i64 x.rights, .int .i64 x.badge, .int .i64 x.frm], .int .i64 rights, .int .i64 badge] w fun e w' => e = .returned (.tuple #[.agg #[.slice none 0 0, .slice none 0 0, .slice none 0 0, .slice none 0 0, .int .i64 0, .int .i64 0], .iface 69 (.int .i64 (dC r x rights badge))]) ∧ Below w.heap.size w w' := by
  unfold dC at hd ⊢
  by_cases h : 999 < r.nw
  · rw [if_pos h]
    exact rderive_full aw at_ ah an cw ct ch cn r x rights badge w hr hz h
  · rw [if_neg h] at hd ⊢
    exact rderive_no aw at_ ah an cw ct ch cn r x rights badge w hr hz h hd
set_option maxHeartbeats 2000000 in
set_option maxRecDepth 100000 in
theorem enc_no (aw at_ ah an : Option Addr) (cw ct ch cn : Nat) (r : Rm) (q : Wr) (h s rights : Int) (w : World) (hr : RmAt w aw at_ ah an cw ct ch cn r) (hz : RmSz r) (hg : hasB q.rights 4 = false) :
    Calls Tryz.prog 94 #[.agg #[.slice aw r.ws.length cw, .slice at_ r.ts.length ct, .slice ah r.hs.length ch, .slice an r.ns.length cn, .int .i64 r.nw, .int .i64 r.nt], .agg #[.int .i64 q.id, .int .i64 q.thing, .int .i64 q.rights, .int .i64 q.badge, .int .i64 q.frm], .agg #[.int .i64 h, .int .i64 s], .int .i64 rights] w fun e w' => e = .returned (.tuple #[.agg #[.slice none 0 0, .slice none 0 0, .slice none 0 0, .slice none 0 0, .int .i64 0, .int .i64 0], .iface 69 (.int .i64 7)]) ∧ Below w.heap.size w w' := by
  obtain ⟨BR0, BQ0, BP0, BZ0, bl0⟩ := boxes4 w [.slice aw r.ws.length cw, .slice at_ r.ts.length ct, .slice ah r.hs.length ch, .slice an r.ns.length cn, .int .i64 r.nw, .int .i64 r.nt] 30 [.int .i64 q.id, .int .i64 q.thing, .int .i64 q.rights, .int .i64 q.badge, .int .i64 q.frm] 39 [.int .i64 h, .int .i64 s] 33 [.slice none 0 0, .slice none 0 0, .slice none 0 0, .slice none 0 0, .int .i64 0, .int .i64 0] 30
  go_enter Tryz.func94, Tryz.ntmps94
  go_wp2_with fail
  refine (has_any q.rights 4 _).mono ?_
  rintro e w' ⟨rfl, rfl⟩
  rw [hg]
  go_wp2_with fail
  exact bodyPost_ret (v := .tuple #[.agg #[.slice none 0 0, .slice none 0 0, .slice none 0 0, .slice none 0 0, .int .i64 0, .int .i64 0], .iface 69 (.int .i64 7)]) (by simp [results, Tryz.results94, go_sem]) rfl ⟨rfl, bl0⟩
set_option maxHeartbeats 2000000 in
set_option maxRecDepth 100000 in
theorem enc_get (aw at_ ah an : Option Addr) (cw ct ch cn : Nat) (r : Rm) (q : Wr) (h s rights : Int) (w : World) (hr : RmAt w aw at_ ah an cw ct ch cn r) (hz : RmSz r) (hg : hasB q.rights 4 = true) (hc : getC r h s ≠ 0) :
    Calls Tryz.prog 94 #[.agg #[.slice aw r.ws.length cw, .slice at_ r.ts.length ct, .slice ah r.hs.length ch, .slice an r.ns.length cn, .int .i64 r.nw, .int .i64 r.nt], .agg #[.int .i64 q.id, .int .i64 q.thing, .int .i64 q.rights, .int .i64 q.badge, .int .i64 q.frm], .agg #[.int .i64 h, .int .i64 s], .int .i64 rights] w fun e w' => e = .returned (.tuple #[.agg #[.slice none 0 0, .slice none 0 0, .slice none 0 0, .slice none 0 0, .int .i64 0, .int .i64 0], .iface 69 (.int .i64 (getC r h s))]) ∧ Below w.heap.size w w' := by
  obtain ⟨BR0, BQ0, BP0, BZ0, bl0⟩ := boxes4 w [.slice aw r.ws.length cw, .slice at_ r.ts.length ct, .slice ah r.hs.length ch, .slice an r.ns.length cn, .int .i64 r.nw, .int .i64 r.nt] 30 [.int .i64 q.id, .int .i64 q.thing, .int .i64 q.rights, .int .i64 q.badge, .int .i64 q.frm] 39 [.int .i64 h, .int .i64 s] 33 [.slice none 0 0, .slice none 0 0, .slice none 0 0, .slice none 0 0, .int .i64 0, .int .i64 0] 30
  go_enter Tryz.func94, Tryz.ntmps94
  go_wp2_with fail
  refine (has_any q.rights 4 _).mono ?_
  rintro e w' ⟨rfl, rfl⟩
  rw [hg]
  go_wp2_with fail
  refine (get_err aw at_ ah an cw ct ch cn r h s _ (hr.below bl0) hz hc).mono ?_
  rintro e w1 ⟨rfl, hb1⟩
  have BR1 := BR0.below hb1
  have BQ1 := BQ0.below hb1
  have BP1 := BP0.below hb1
  have BZ1 := BZ0.below hb1
  have bl1 := Below_after bl0 hb1
  clear BR0 BQ0 BP0 BZ0 bl0
  generalize hD' : getC r h s = D at *
  have HD : Hid (getC r h s = D) := hD'
  clear hD'
  obtain ⟨cR0, cR1, cR2, cR3, cR4, cR5⟩ := BR1.c6
  have zR := BR1.1
  obtain ⟨cQ0, cQ1, cQ2, cQ3, cQ4⟩ := BQ1.c5
  have zQ := BQ1.1
  obtain ⟨cP0, cP1⟩ := BP1.c2
  have zP := BP1.1
  obtain ⟨cZ0, fZ0, cZ1, fZ1, cZ2, fZ2, cZ3, fZ3, cZ4, fZ4, cZ5, fZ5⟩ := BZ1.cf6
  have zZ := BZ1.1
  go_wp2_with fail
  obtain ⟨y0, y1, y2, y3, y4, y5⟩ := ((BZ1.put6 (.slice none 0 0) (.slice none 0 0) (.slice none 0 0) (.slice none 0 0) (.int .i64 0) (.int .i64 0)).alloc (.cells #[.int .i64 0, .int .i64 0, .int .i64 0, .int .i64 0, .int .i64 0] 39)).six
  have blF := ((below_set6 bl1 (b := w.heap.size + 1 + 1 + 1) (by omega) (.slice none 0 0) (.slice none 0 0) (.slice none 0 0) (.slice none 0 0) (.int .i64 0) (.int .i64 0)).alloc (below_set6 bl1 (b := w.heap.size + 1 + 1 + 1) (by omega) (.slice none 0 0) (.slice none 0 0) (.slice none 0 0) (.slice none 0 0) (.int .i64 0) (.int .i64 0)).size (.cells #[.int .i64 0, .int .i64 0, .int .i64 0, .int .i64 0, .int .i64 0] 39))
  refine bodyPost_ret (v := .tuple #[.agg #[.slice none 0 0, .slice none 0 0, .slice none 0 0, .slice none 0 0, .int .i64 0, .int .i64 0], .iface 69 (.int .i64 D)]) (by simp [results, Tryz.results94, go_sem, y0, y1, y2, y3, y4, y5]) rfl ?_
  exact ⟨by rw [HD.out], blF⟩
set_option maxHeartbeats 2000000 in
set_option maxRecDepth 100000 in
theorem enc_der (aw at_ ah an : Option Addr) (cw ct ch cn : Nat) (r : Rm) (q : Wr) (h s rights : Int) (w : World) (hr : RmAt w aw at_ ah an cw ct ch cn r) (hz : RmSz r) (hg : hasB q.rights 4 = true) (hc : getC r h s = 0) (hd : dC r (getW r h s) rights 0 ≠ 0) :
    Calls Tryz.prog 94 #[.agg #[.slice aw r.ws.length cw, .slice at_ r.ts.length ct, .slice ah r.hs.length ch, .slice an r.ns.length cn, .int .i64 r.nw, .int .i64 r.nt], .agg #[.int .i64 q.id, .int .i64 q.thing, .int .i64 q.rights, .int .i64 q.badge, .int .i64 q.frm], .agg #[.int .i64 h, .int .i64 s], .int .i64 rights] w fun e w' => e = .returned (.tuple #[.agg #[.slice none 0 0, .slice none 0 0, .slice none 0 0, .slice none 0 0, .int .i64 0, .int .i64 0], .iface 69 (.int .i64 (dC r (getW r h s) rights 0))]) ∧ Below w.heap.size w w' := by
  obtain ⟨BR0, BQ0, BP0, BZ0, bl0⟩ := boxes4 w [.slice aw r.ws.length cw, .slice at_ r.ts.length ct, .slice ah r.hs.length ch, .slice an r.ns.length cn, .int .i64 r.nw, .int .i64 r.nt] 30 [.int .i64 q.id, .int .i64 q.thing, .int .i64 q.rights, .int .i64 q.badge, .int .i64 q.frm] 39 [.int .i64 h, .int .i64 s] 33 [.slice none 0 0, .slice none 0 0, .slice none 0 0, .slice none 0 0, .int .i64 0, .int .i64 0] 30
  go_enter Tryz.func94, Tryz.ntmps94
  go_wp2_with fail
  refine (has_any q.rights 4 _).mono ?_
  rintro e w' ⟨rfl, rfl⟩
  rw [hg]
  go_wp2_with fail
  refine (get_ok aw at_ ah an cw ct ch cn r h s _ (hr.below bl0) hz hc).mono ?_
  rintro e w1 ⟨rfl, hb1⟩
  have BR1 := BR0.below hb1
  have BQ1 := BQ0.below hb1
  have BP1 := BP0.below hb1
  have BZ1 := BZ0.below hb1
  have bl1 := Below_after bl0 hb1
  clear BR0 BQ0 BP0 BZ0 bl0
  generalize hx' : getW r h s = x at *
  have Hx : Hid (getW r h s = x) := hx'
  clear hx'
  obtain ⟨cR0, cR1, cR2, cR3, cR4, cR5⟩ := BR1.c6
  have zR := BR1.1
  obtain ⟨cQ0, cQ1, cQ2, cQ3, cQ4⟩ := BQ1.c5
  have zQ := BQ1.1
  obtain ⟨cP0, cP1⟩ := BP1.c2
  have zP := BP1.1
  obtain ⟨cZ0, cZ1, cZ2, cZ3, cZ4, cZ5⟩ := BZ1.c6
  have zZ := BZ1.1
  go_wp2_with fail
  clear cR0 cR1 cR2 cR3 cR4 cR5 zR cQ0 cQ1 cQ2 cQ3 cQ4 zQ cP0 cP1 zP cZ0 cZ1 cZ2 cZ3 cZ4 cZ5 zZ
  have BR2 := BR1.alloc (.cells #[.int .i64 x.id, .int .i64 x.thing, .int .i64 x.rights, .int .i64 x.badge, .int .i64 x.frm] 39)
  have BQ2 := BQ1.alloc (.cells #[.int .i64 x.id, .int .i64 x.thing, .int .i64 x.rights, .int .i64 x.badge, .int .i64 x.frm] 39)
  have BP2 := BP1.alloc (.cells #[.int .i64 x.id, .int .i64 x.thing, .int .i64 x.rights, .int .i64 x.badge, .int .i64 x.frm] 39)
  have BZ2 := BZ1.alloc (.cells #[.int .i64 x.id, .int .i64 x.thing, .int .i64 x.rights, .int .i64 x.badge, .int .i64 x.frm] 39)
  have bl2 := bl1.alloc bl1.size (.cells #[.int .i64 x.id, .int .i64 x.thing, .int .i64 x.rights, .int .i64 x.badge, .int .i64 x.frm] 39)
  have BX2 := Bx.new w1 [.int .i64 x.id, .int .i64 x.thing, .int .i64 x.rights, .int .i64 x.badge, .int .i64 x.frm] 39
  clear BR1 BQ1 BP1 BZ1 bl1
  generalize hg2 : (w1.alloc (.cells #[.int .i64 x.id, .int .i64 x.thing, .int .i64 x.rights, .int .i64 x.badge, .int .i64 x.frm] 39)) = w2 at BR2 BQ2 BP2 BZ2 BX2 bl2 ⊢
  clear hg2
  refine (rderive_err aw at_ ah an cw ct ch cn r x rights 0 _ (hr.below bl2) hz hd).mono ?_
  rintro e w3 ⟨rfl, hb3⟩
  have BR3 := BR2.below hb3
  have BQ3 := BQ2.below hb3
  have BP3 := BP2.below hb3
  have BZ3 := BZ2.below hb3
  have BX3 := BX2.below hb3
  have bl3 := Below_after bl2 hb3
  clear BR2 BQ2 BP2 BZ2 BX2 bl2
  generalize hD' : dC r x rights 0 = D at *
  have HD : Hid (dC r x rights 0 = D) := hD'
  clear hD'
  obtain ⟨cR0, cR1, cR2, cR3, cR4, cR5⟩ := BR3.c6
  have zR := BR3.1
  obtain ⟨cQ0, cQ1, cQ2, cQ3, cQ4⟩ := BQ3.c5
  have zQ := BQ3.1
  obtain ⟨cP0, cP1⟩ := BP3.c2
  have zP := BP3.1
  obtain ⟨cZ0, fZ0, cZ1, fZ1, cZ2, fZ2, cZ3, fZ3, cZ4, fZ4, cZ5, fZ5⟩ := BZ3.cf6
  have zZ := BZ3.1
  obtain ⟨cX0, cX1, cX2, cX3, cX4⟩ := BX3.c5
  have zX := BX3.1
  go_wp2_with fail
  obtain ⟨y0, y1, y2, y3, y4, y5⟩ := (BZ3.put6 (.slice none 0 0) (.slice none 0 0) (.slice none 0 0) (.slice none 0 0) (.int .i64 0) (.int .i64 0)).six
  have blF := (below_set6 bl3 (b := w.heap.size + 1 + 1 + 1) (by omega) (.slice none 0 0) (.slice none 0 0) (.slice none 0 0) (.slice none 0 0) (.int .i64 0) (.int .i64 0))
  refine bodyPost_ret (v := .tuple #[.agg #[.slice none 0 0, .slice none 0 0, .slice none 0 0, .slice none 0 0, .int .i64 0, .int .i64 0], .iface 69 (.int .i64 D)]) (by simp [results, Tryz.results94, go_sem, y0, y1, y2, y3, y4, y5]) rfl ?_
  exact ⟨by rw [Hx.out, HD.out], blF⟩
set_option maxHeartbeats 2000000 in
set_option maxRecDepth 100000 in
theorem enc_yes (aw at_ ah an : Option Addr) (cw ct ch cn : Nat) (r : Rm) (q : Wr) (h s rights : Int) (w : World) (hr : RmAt w aw at_ ah an cw ct ch cn r) (hz : RmSz r) (hg : hasB q.rights 4 = true) (hc : getC r h s = 0) (hd : dC r (getW r h s) rights 0 = 0) :
    Calls Tryz.prog 94 #[.agg #[.slice aw r.ws.length cw, .slice at_ r.ts.length ct, .slice ah r.hs.length ch, .slice an r.ns.length cn, .int .i64 r.nw, .int .i64 r.nt], .agg #[.int .i64 q.id, .int .i64 q.thing, .int .i64 q.rights, .int .i64 q.badge, .int .i64 q.frm], .agg #[.int .i64 h, .int .i64 s], .int .i64 rights] w fun e w' => ∃ v0 v1 v2 v3, e = .returned (.tuple #[.agg #[v0, v1, v2, v3, .int .i64 (r.nw + 1), .int .i64 r.nt], .nilIface]) ∧ OwnsR w' w.heap.size v0 v1 v2 v3 (addR r (drvW (getW r h s) r.nw rights 0)) ∧ Below w.heap.size w w' := by
  obtain ⟨BR0, BQ0, BP0, BZ0, bl0⟩ := boxes4 w [.slice aw r.ws.length cw, .slice at_ r.ts.length ct, .slice ah r.hs.length ch, .slice an r.ns.length cn, .int .i64 r.nw, .int .i64 r.nt] 30 [.int .i64 q.id, .int .i64 q.thing, .int .i64 q.rights, .int .i64 q.badge, .int .i64 q.frm] 39 [.int .i64 h, .int .i64 s] 33 [.slice none 0 0, .slice none 0 0, .slice none 0 0, .slice none 0 0, .int .i64 0, .int .i64 0] 30
  go_enter Tryz.func94, Tryz.ntmps94
  go_wp2_with fail
  refine (has_any q.rights 4 _).mono ?_
  rintro e w' ⟨rfl, rfl⟩
  rw [hg]
  go_wp2_with fail
  refine (get_ok aw at_ ah an cw ct ch cn r h s _ (hr.below bl0) hz hc).mono ?_
  rintro e w1 ⟨rfl, hb1⟩
  have BR1 := BR0.below hb1
  have BQ1 := BQ0.below hb1
  have BP1 := BP0.below hb1
  have BZ1 := BZ0.below hb1
  have bl1 := Below_after bl0 hb1
  clear BR0 BQ0 BP0 BZ0 bl0
  generalize hx' : getW r h s = x at *
  have Hx : Hid (getW r h s = x) := hx'
  clear hx'
  obtain ⟨cR0, cR1, cR2, cR3, cR4, cR5⟩ := BR1.c6
  have zR := BR1.1
  obtain ⟨cQ0, cQ1, cQ2, cQ3, cQ4⟩ := BQ1.c5
  have zQ := BQ1.1
  obtain ⟨cP0, cP1⟩ := BP1.c2
  have zP := BP1.1
  obtain ⟨cZ0, cZ1, cZ2, cZ3, cZ4, cZ5⟩ := BZ1.c6
  have zZ := BZ1.1
  go_wp2_with fail
  clear cR0 cR1 cR2 cR3 cR4 cR5 zR cQ0 cQ1 cQ2 cQ3 cQ4 zQ cP0 cP1 zP cZ0 cZ1 cZ2 cZ3 cZ4 cZ5 zZ
  have BR2 := BR1.alloc (.cells #[.int .i64 x.id, .int .i64 x.thing, .int .i64 x.rights, .int .i64 x.badge, .int .i64 x.frm] 39)
  have BQ2 := BQ1.alloc (.cells #[.int .i64 x.id, .int .i64 x.thing, .int .i64 x.rights, .int .i64 x.badge, .int .i64 x.frm] 39)
  have BP2 := BP1.alloc (.cells #[.int .i64 x.id, .int .i64 x.thing, .int .i64 x.rights, .int .i64 x.badge, .int .i64 x.frm] 39)
  have BZ2 := BZ1.alloc (.cells #[.int .i64 x.id, .int .i64 x.thing, .int .i64 x.rights, .int .i64 x.badge, .int .i64 x.frm] 39)
  have bl2 := bl1.alloc bl1.size (.cells #[.int .i64 x.id, .int .i64 x.thing, .int .i64 x.rights, .int .i64 x.badge, .int .i64 x.frm] 39)
  have BX2 := Bx.new w1 [.int .i64 x.id, .int .i64 x.thing, .int .i64 x.rights, .int .i64 x.badge, .int .i64 x.frm] 39
  clear BR1 BQ1 BP1 BZ1 bl1
  generalize hg2 : (w1.alloc (.cells #[.int .i64 x.id, .int .i64 x.thing, .int .i64 x.rights, .int .i64 x.badge, .int .i64 x.frm] 39)) = w2 at BR2 BQ2 BP2 BZ2 BX2 bl2 ⊢
  clear hg2
  obtain ⟨L, hL⟩ : ∃ L, (r.ws ++ [drvW x r.nw rights 0]).length = L := ⟨_, rfl⟩
  have HL : Hid ((r.ws ++ [drvW x r.nw rights 0]).length = L) := hL
  clear hL
  have hlow := BZ2.1
  refine (rderive_at aw at_ ah an cw ct ch cn r x rights 0 _ (hr.below bl2) hz hd L HL.out).mono ?_
  rintro e w3 ⟨b0, b1, b2, b3, d0, d1, d2, d3, rfl, hO, hb3⟩
  have BR3 := BR2.below hb3
  have BQ3 := BQ2.below hb3
  have BP3 := BP2.below hb3
  have BZ3 := BZ2.below hb3
  have BX3 := BX2.below hb3
  have bl3 := Below_after bl2 hb3
  clear BR2 BQ2 BP2 BZ2 BX2 bl2
  have HO : Hid (OwnsR w3 _ _ _ _ _ _) := hO
  clear hO
  obtain ⟨cR0, cR1, cR2, cR3, cR4, cR5⟩ := BR3.c6
  have zR := BR3.1
  obtain ⟨cQ0, cQ1, cQ2, cQ3, cQ4⟩ := BQ3.c5
  have zQ := BQ3.1
  obtain ⟨cP0, cP1⟩ := BP3.c2
  have zP := BP3.1
  obtain ⟨cZ0, fZ0, cZ1, fZ1, cZ2, fZ2, cZ3, fZ3, cZ4, fZ4, cZ5, fZ5⟩ := BZ3.cf6
  have zZ := BZ3.1
  obtain ⟨cX0, cX1, cX2, cX3, cX4⟩ := BX3.c5
  have zX := BX3.1
  go_wp2_with fail
  obtain ⟨y0, y1, y2, y3, y4, y5⟩ := (BZ3.put6 (.slice b0 L d0) (.slice b1 r.ts.length d1) (.slice b2 r.hs.length d2) (.slice b3 r.ns.length d3) (.int .i64 (r.nw + 1)) (.int .i64 r.nt)).six
  have blF := (below_set6 bl3 (b := w.heap.size + 1 + 1 + 1) (by omega) (.slice b0 L d0) (.slice b1 r.ts.length d1) (.slice b2 r.hs.length d2) (.slice b3 r.ns.length d3) (.int .i64 (r.nw + 1)) (.int .i64 r.nt))
  refine bodyPost_ret (v := .tuple #[.agg #[.slice b0 L d0, .slice b1 r.ts.length d1, .slice b2 r.hs.length d2, .slice b3 r.ns.length d3, .int .i64 (r.nw + 1), .int .i64 r.nt], .nilIface]) (by simp [results, Tryz.results94, go_sem, y0, y1, y2, y3, y4, y5]) rfl ?_
  exact ⟨_, _, _, _, rfl, by rw [Hx.out]; exact (HO.out.set6 (by omega) _ _ _ _ _ _).mono (by omega), blF⟩
end Go.Proofs.YtddgpgldbekamaaGreat
