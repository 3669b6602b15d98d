/- realm.Send (E8), as the landed code has it. -/
import Derived.Test.YtddgpgldbekamaaGreatBox
import Derived.Test.YtddgpgldbekamaaGreatMakeW
set_option linter.unusedSimpArgs false
set_option linter.unnecessarySimpa false
set_option linter.unusedVariables false
namespace Go.Proofs.YtddgpgldbekamaaGreat
open Go.RowKit


def eC (r : Rm) (q : Wr) (h t rights : Int) : Int := if hasB q.rights 4 = false then 7 else if getC r h t ≠ 0 then getC r h t else dC r (getW r h t) rights 0
theorem enc_err (aw at_ ah an : Option Addr) (cw ct ch cn : Nat) (r : Rm) (q : Wr) (h s rights : Int) (w : World) (hr : RmAt w aw at_ ah an cw ct ch cn r) (hz : RmSz r) (he : eC r q h s rights ≠ 0) :
    Calls Tryz.prog 94 #[.agg #[.slice aw r.ws.length cw, .slice at_ r.ts.length ct, .slice ah r.hs.length ch, .slice an r.ns.length cn, .int .i64 r.nw, .int .i64 r.nt], .agg #[.int .i64 q.id, .int .i64 q.thing, .int .i64 q.rights, .int .i64 q.badge, .int .i64 q.frm], .agg #[.int .i64 h, .int .i64 s], .int .i64 rights] w fun e w' => e = .returned (.tuple #[.agg #[.slice none 0 0, .slice none 0 0, .slice none 0 0, .slice none 0 0, .int .i64 0, .int .i64 0], .iface 69 (.int .i64 (eC r q h s rights))]) ∧ Below w.heap.size w w' := by
  unfold eC at he ⊢
  cases hq : hasB q.rights 4 with
  | false => rw [if_pos rfl]; exact enc_no aw at_ ah an cw ct ch cn r q h s rights w hr hz hq
  | true =>
    rw [hq] at he
    rw [if_neg (by simp)] at he ⊢
    by_cases hg : getC r h s = 0
    · rw [if_neg (by simp [hg])] at he ⊢
      exact enc_der aw at_ ah an cw ct ch cn r q h s rights w hr hz hq hg he
    · rw [if_pos hg]
      exact enc_get aw at_ ah an cw ct ch cn r q h s rights w hr hz hq hg
theorem enc_at (aw at_ ah an : Option Addr) (cw ct ch cn : Nat) (r : Rm) (q : Wr) (h s rights : Int) (w : World) (hr : RmAt w aw at_ ah an cw ct ch cn r) (hz : RmSz r) (he : eC r q h s rights = 0) (L : Nat) (hL : (r.ws ++ [drvW (getW r h s) r.nw rights 0]).length = L) :
    Calls Tryz.prog 94 #[.agg #[.slice aw r.ws.length cw, .slice at_ r.ts.length ct, .slice ah r.hs.length ch, .slice an r.ns.length cn, .int .i64 r.nw, .int .i64 r.nt], .agg #[.int .i64 q.id, .int .i64 q.thing, .int .i64 q.rights, .int .i64 q.badge, .int .i64 q.frm], .agg #[.int .i64 h, .int .i64 s], .int .i64 rights] w fun e w' => ∃ b0 b1 b2 b3 d0 d1 d2 d3, e = .returned (.tuple #[.agg #[.slice b0 L d0, .slice b1 r.ts.length d1, .slice b2 r.hs.length d2, .slice b3 r.ns.length d3, .int .i64 (r.nw + 1), .int .i64 r.nt], .nilIface]) ∧ OwnsR w' w.heap.size (.slice b0 L d0) (.slice b1 r.ts.length d1) (.slice b2 r.hs.length d2) (.slice b3 r.ns.length d3) (addR r (drvW (getW r h s) r.nw rights 0)) ∧ Below w.heap.size w w' := by
  unfold eC at he
  cases hq : hasB q.rights 4 with
  | false => rw [if_pos hq] at he; cases he
  | true =>
    rw [if_neg (by simp [hq])] at he
    by_cases hg : getC r h s = 0
    · rw [if_neg (by simp [hg])] at he
      refine (enc_yes aw at_ ah an cw ct ch cn r q h s rights w hr hz hq hg he).mono ?_
      rintro e w1 ⟨v0, v1, v2, v3, rfl, hO, hb⟩
      obtain ⟨b0, b1, b2, b3, d0, d1, d2, d3, rfl, rfl, rfl, rfl, -⟩ := hO.at
      subst hL
      exact ⟨b0, b1, b2, b3, d0, d1, d2, d3, rfl, hO, hb⟩
    · rw [if_pos hg] at he; exact absurd he hg
theorem new4b (w : World) (ob : Obj) (t : TypeId) (x y z u : Value) : ∀ j q, [x, y, z, u][j]? = some q → ((w.alloc ob).alloc (.cells #[x, y, z, u] t)).cell? ((⟨w.heap.size + 1, 0, none⟩ : Addr).add j) = some q := by
  intro j q hj
  rw [← sz_alloc w ob, Addr.add_lit, World.cell?_alloc_new]
  simpa using hj
theorem new4g (w : World) (n : Nat) (hn : w.heap.size = n) (t : TypeId) (x y z u : Value) : ∀ j q, [x, y, z, u][j]? = some q → (w.alloc (.cells #[x, y, z, u] t)).cell? ((⟨n, 0, none⟩ : Addr).add j) = some q := by
  intro j q hj
  rw [← hn, Addr.add_lit, World.cell?_alloc_new]
  simpa using hj
theorem ncell_one (x : Nt) : ∀ u ∈ [Value.int .i64 x.port, .string x.data, .int .i64 x.badge, .int .i64 x.writ], u.oneCell' = true := by
  intro u hu
  simp at hu
  rcases hu with rfl | rfl | rfl | rfl <;> rfl
theorem OwnsR.grow3 {w w' : World} {base : Nat} {v0 v1 v2 v3 v3' : Value} {r : Rm} {x : Nt} (h : OwnsR w base v0 v1 v2 v3 r) (hg : w.grownBy w' v3.ownBlock) (ho : w'.ownsRow base 52 4 v3' (r.ns.length + 1) (r.ns.flatMap ncells ++ [.int .i64 x.port, .string x.data, .int .i64 x.badge, .int .i64 x.writ])) :
    OwnsR w' base v0 v1 v2 v3' ⟨r.ws, r.ts, r.hs, r.ns ++ [x], r.nw, r.nt⟩ :=
  OwnsR.of4 (Dist.kept h.rw_ hg h.d03) (Dist.kept h.rt hg h.d13) (Dist.kept h.rh hg h.d23) (by simpa [ncells] using ho)
set_option maxHeartbeats 2000000 in
set_option maxRecDepth 100000 in
theorem send_who (aw at_ ah an : Option Addr) (cw ct ch cn : Nat) (r : Rm) (h s : Int) (d : ByteArray) (t rights : Int) (w : World) (hr : RmAt w aw at_ ah an cw ct ch cn r) (hz : RmSz r) (hc : whoC r h s 2 2 ≠ 0) :
    Calls Tryz.prog 53 #[.agg #[.slice aw r.ws.length cw, .slice at_ r.ts.length ct, .slice ah r.hs.length ch, .slice an r.ns.length cn, .int .i64 r.nw, .int .i64 r.nt], .agg #[.int .i64 h, .int .i64 s], .string d, .int .i64 t, .int .i64 rights] w fun e w' => e = .returned (.tuple #[.agg #[.slice none 0 0, .slice none 0 0, .slice none 0 0, .slice none 0 0, .int .i64 0, .int .i64 0], .iface 69 (.int .i64 (whoC r h s 2 2))]) ∧ Below w.heap.size w w' := by
  obtain ⟨BR0, BP0, BZ0, bl0⟩ := boxes3 w [.slice aw r.ws.length cw, .slice at_ r.ts.length ct, .slice ah r.hs.length ch, .slice an r.ns.length cn, .int .i64 r.nw, .int .i64 r.nt] 30 [.int .i64 h, .int .i64 s] 33 [.slice none 0 0, .slice none 0 0, .slice none 0 0, .slice none 0 0, .int .i64 0, .int .i64 0] 30
  go_enter Tryz.func53, Tryz.ntmps53
  go_wp2_with fail
  refine (who_err aw at_ ah an cw ct ch cn r h s 2 2 _ (hr.below bl0) hz hc).mono ?_
  rintro e w1 ⟨rfl, hb1⟩
  have BR1 := BR0.below hb1
  have BP1 := BP0.below hb1
  have BZ1 := BZ0.below hb1
  have bl1 := Below_after bl0 hb1
  clear BR0 BP0 BZ0 bl0
  have lw1 := BZ1.1
  generalize hD' : whoC r h s 2 2 = D at *
  have HD : Hid (whoC r h s 2 2 = D) := hD'
  clear hD'
  obtain ⟨cR0, cR1, cR2, cR3, cR4, cR5⟩ := BR1.c6
  have zR := BR1.1
  obtain ⟨cP0, cP1⟩ := BP1.c2
  have zP := BP1.1
  obtain ⟨cZ0, fZ0, cZ1, fZ1, cZ2, fZ2, cZ3, fZ3, cZ4, fZ4, cZ5, fZ5⟩ := BZ1.cf6
  have zZ := BZ1.1
  go_wp2_with fail
  obtain ⟨y0, y1, y2, y3, y4, y5⟩ := ((BZ1.put6 (.slice none 0 0) (.slice none 0 0) (.slice none 0 0) (.slice none 0 0) (.int .i64 0) (.int .i64 0)).alloc (.cells #[.int .i64 0, .int .i64 0, .int .i64 0, .int .i64 0, .int .i64 0] 39)).six
  have blF := ((below_set6 bl1 (b := w.heap.size + 1 + 1) (by omega) (.slice none 0 0) (.slice none 0 0) (.slice none 0 0) (.slice none 0 0) (.int .i64 0) (.int .i64 0)).alloc (below_set6 bl1 (b := w.heap.size + 1 + 1) (by omega) (.slice none 0 0) (.slice none 0 0) (.slice none 0 0) (.slice none 0 0) (.int .i64 0) (.int .i64 0)).size (.cells #[.int .i64 0, .int .i64 0, .int .i64 0, .int .i64 0, .int .i64 0] 39))
  refine bodyPost_ret (v := .tuple #[.agg #[.slice none 0 0, .slice none 0 0, .slice none 0 0, .slice none 0 0, .int .i64 0, .int .i64 0], .iface 69 (.int .i64 D)]) (by simp [results, Tryz.results53, go_sem, y0, y1, y2, y3, y4, y5]) rfl ?_
  exact ⟨by rw [HD.out], blF⟩
set_option maxHeartbeats 2000000 in
set_option maxRecDepth 100000 in
theorem send_many (aw at_ ah an : Option Addr) (cw ct ch cn : Nat) (r : Rm) (h s : Int) (d : ByteArray) (t rights : Int) (w : World) (hr : RmAt w aw at_ ah an cw ct ch cn r) (hz : RmSz r) (hc : whoC r h s 2 2 = 0) (hd : 8 < d.size) (hd2 : d.size ≤ maxLen) :
    Calls Tryz.prog 53 #[.agg #[.slice aw r.ws.length cw, .slice at_ r.ts.length ct, .slice ah r.hs.length ch, .slice an r.ns.length cn, .int .i64 r.nw, .int .i64 r.nt], .agg #[.int .i64 h, .int .i64 s], .string d, .int .i64 t, .int .i64 rights] w fun e w' => e = .returned (.tuple #[.agg #[.slice none 0 0, .slice none 0 0, .slice none 0 0, .slice none 0 0, .int .i64 0, .int .i64 0], .iface 69 (.int .i64 2)]) ∧ Below w.heap.size w w' := by
  unfold maxLen at hd2
  obtain ⟨BR0, BP0, BZ0, bl0⟩ := boxes3 w [.slice aw r.ws.length cw, .slice at_ r.ts.length ct, .slice ah r.hs.length ch, .slice an r.ns.length cn, .int .i64 r.nw, .int .i64 r.nt] 30 [.int .i64 h, .int .i64 s] 33 [.slice none 0 0, .slice none 0 0, .slice none 0 0, .slice none 0 0, .int .i64 0, .int .i64 0] 30
  go_enter Tryz.func53, Tryz.ntmps53
  go_wp2_with fail
  refine (who_ok aw at_ ah an cw ct ch cn r h s 2 2 _ (hr.below bl0) hz hc).mono ?_
  rintro e w1 ⟨rfl, hb1⟩
  have BR1 := BR0.below hb1
  have BP1 := BP0.below hb1
  have BZ1 := BZ0.below hb1
  have bl1 := Below_after bl0 hb1
  clear BR0 BP0 BZ0 bl0
  have lw1 := BZ1.1
  generalize hx' : getW r h s = x at *
  have Hx : Hid (getW r h s = x) := hx'
  clear hx'
  obtain ⟨cR0, cR1, cR2, cR3, cR4, cR5⟩ := BR1.c6
  have zR := BR1.1
  obtain ⟨cP0, cP1⟩ := BP1.c2
  have zP := BP1.1
  obtain ⟨cZ0, fZ0, cZ1, fZ1, cZ2, fZ2, cZ3, fZ3, cZ4, fZ4, cZ5, fZ5⟩ := BZ1.cf6
  have zZ := BZ1.1
  go_wp2_with fail
  obtain ⟨y0, y1, y2, y3, y4, y5⟩ := ((BZ1.put6 (.slice none 0 0) (.slice none 0 0) (.slice none 0 0) (.slice none 0 0) (.int .i64 0) (.int .i64 0)).alloc (.cells #[.int .i64 x.id, .int .i64 x.thing, .int .i64 x.rights, .int .i64 x.badge, .int .i64 x.frm] 39)).six
  have blF := ((below_set6 bl1 (b := w.heap.size + 1 + 1) (by omega) (.slice none 0 0) (.slice none 0 0) (.slice none 0 0) (.slice none 0 0) (.int .i64 0) (.int .i64 0)).alloc (below_set6 bl1 (b := w.heap.size + 1 + 1) (by omega) (.slice none 0 0) (.slice none 0 0) (.slice none 0 0) (.slice none 0 0) (.int .i64 0) (.int .i64 0)).size (.cells #[.int .i64 x.id, .int .i64 x.thing, .int .i64 x.rights, .int .i64 x.badge, .int .i64 x.frm] 39))
  refine bodyPost_ret (v := .tuple #[.agg #[.slice none 0 0, .slice none 0 0, .slice none 0 0, .slice none 0 0, .int .i64 0, .int .i64 0], .iface 69 (.int .i64 2)]) (by simp [results, Tryz.results53, go_sem, y0, y1, y2, y3, y4, y5]) rfl ?_
  exact ⟨rfl, blF⟩
set_option maxHeartbeats 2000000 in
set_option maxRecDepth 100000 in
theorem send_full (aw at_ ah an : Option Addr) (cw ct ch cn : Nat) (r : Rm) (h s : Int) (d : ByteArray) (t rights : Int) (w : World) (hr : RmAt w aw at_ ah an cw ct ch cn r) (hz : RmSz r) (hc : whoC r h s 2 2 = 0) (hd : d.size ≤ 8) (hw3 : 3 ≤ (waitL r (getW r h s).thing).length) (hwm : (waitL r (getW r h s).thing).length ≤ 1000) :
    Calls Tryz.prog 53 #[.agg #[.slice aw r.ws.length cw, .slice at_ r.ts.length ct, .slice ah r.hs.length ch, .slice an r.ns.length cn, .int .i64 r.nw, .int .i64 r.nt], .agg #[.int .i64 h, .int .i64 s], .string d, .int .i64 t, .int .i64 rights] w fun e w' => e = .returned (.tuple #[.agg #[.slice none 0 0, .slice none 0 0, .slice none 0 0, .slice none 0 0, .int .i64 0, .int .i64 0], .iface 69 (.int .i64 9)]) ∧ Below w.heap.size w w' := by
  obtain ⟨BR0, BP0, BZ0, bl0⟩ := boxes3 w [.slice aw r.ws.length cw, .slice at_ r.ts.length ct, .slice ah r.hs.length ch, .slice an r.ns.length cn, .int .i64 r.nw, .int .i64 r.nt] 30 [.int .i64 h, .int .i64 s] 33 [.slice none 0 0, .slice none 0 0, .slice none 0 0, .slice none 0 0, .int .i64 0, .int .i64 0] 30
  go_enter Tryz.func53, Tryz.ntmps53
  go_wp2_with fail
  refine (who_ok aw at_ ah an cw ct ch cn r h s 2 2 _ (hr.below bl0) hz hc).mono ?_
  rintro e w1 ⟨rfl, hb1⟩
  have BR1 := BR0.below hb1
  have BP1 := BP0.below hb1
  have BZ1 := BZ0.below hb1
  have bl1 := Below_after bl0 hb1
  clear BR0 BP0 BZ0 bl0
  have lw1 := BZ1.1
  generalize hx' : getW r h s = x at *
  have Hx : Hid (getW r h s = x) := hx'
  clear hx'
  obtain ⟨cR0, cR1, cR2, cR3, cR4, cR5⟩ := BR1.c6
  have zR := BR1.1
  obtain ⟨cP0, cP1⟩ := BP1.c2
  have zP := BP1.1
  obtain ⟨cZ0, cZ1, cZ2, cZ3, cZ4, cZ5⟩ := BZ1.c6
  have zZ := BZ1.1
  go_wp2_with fail
  clear cR0 cR1 cR2 cR3 cR4 cR5 zR cP0 cP1 zP cZ0 cZ1 cZ2 cZ3 cZ4 cZ5 zZ
  have BR2 := BR1.alloc (.cells #[.int .i64 x.id, .int .i64 x.thing, .int .i64 x.rights, .int .i64 x.badge, .int .i64 x.frm] 39)
  have BP2 := BP1.alloc (.cells #[.int .i64 x.id, .int .i64 x.thing, .int .i64 x.rights, .int .i64 x.badge, .int .i64 x.frm] 39)
  have BZ2 := BZ1.alloc (.cells #[.int .i64 x.id, .int .i64 x.thing, .int .i64 x.rights, .int .i64 x.badge, .int .i64 x.frm] 39)
  have bl2 := bl1.alloc bl1.size (.cells #[.int .i64 x.id, .int .i64 x.thing, .int .i64 x.rights, .int .i64 x.badge, .int .i64 x.frm] 39)
  have BX2 := Bx.new w1 [.int .i64 x.id, .int .i64 x.thing, .int .i64 x.rights, .int .i64 x.badge, .int .i64 x.frm] 39
  clear BR1 BP1 BZ1 bl1
  generalize hg2 : (w1.alloc (.cells #[.int .i64 x.id, .int .i64 x.thing, .int .i64 x.rights, .int .i64 x.badge, .int .i64 x.frm] 39)) = w2 at BR2 BP2 BZ2 BX2 bl2 ⊢
  clear hg2
  have sg2X := BX2.1
  refine (waiting_any aw at_ ah an cw ct ch cn r x.thing _ (hr.below bl2) hz).mono ?_
  rintro e w3 ⟨rfl, hb3⟩
  have sz3 : w2.heap.size ≤ w3.heap.size := hb3.size
  have BR3 := BR2.below hb3
  have BP3 := BP2.below hb3
  have BZ3 := BZ2.below hb3
  have BX3 := BX2.below hb3
  have bl3 := Below_after bl2 hb3
  clear BR2 BP2 BZ2 BX2 bl2
  have lw3 := BZ3.1
  generalize (waitL r x.thing).length = m at *
  obtain ⟨cR0, cR1, cR2, cR3, cR4, cR5⟩ := BR3.c6
  have zR := BR3.1
  obtain ⟨cP0, cP1⟩ := BP3.c2
  have zP := BP3.1
  obtain ⟨cZ0, fZ0, cZ1, fZ1, cZ2, fZ2, cZ3, fZ3, cZ4, fZ4, cZ5, fZ5⟩ := BZ3.cf6
  have zZ := BZ3.1
  obtain ⟨cX0, cX1, cX2, cX3, cX4⟩ := BX3.c5
  have zX := BX3.1
  go_wp2_with fail
  obtain ⟨y0, y1, y2, y3, y4, y5⟩ := (BZ3.put6 (.slice none 0 0) (.slice none 0 0) (.slice none 0 0) (.slice none 0 0) (.int .i64 0) (.int .i64 0)).six
  have blF := (below_set6 bl3 (b := w.heap.size + 1 + 1) (by omega) (.slice none 0 0) (.slice none 0 0) (.slice none 0 0) (.slice none 0 0) (.int .i64 0) (.int .i64 0))
  refine bodyPost_ret (v := .tuple #[.agg #[.slice none 0 0, .slice none 0 0, .slice none 0 0, .slice none 0 0, .int .i64 0, .int .i64 0], .iface 69 (.int .i64 9)]) (by simp [results, Tryz.results53, go_sem, y0, y1, y2, y3, y4, y5]) rfl ?_
  exact ⟨rfl, blF⟩
set_option maxHeartbeats 2000000 in
set_option maxRecDepth 100000 in
theorem send_bare (aw at_ ah an : Option Addr) (cw ct ch cn : Nat) (r : Rm) (h s : Int) (d : ByteArray) (t rights : Int) (w : World) (hr : RmAt w aw at_ ah an cw ct ch cn r) (hz : RmSz r) (hc : whoC r h s 2 2 = 0) (hd : d.size ≤ 8) (hw3 : (waitL r (getW r h s).thing).length < 3) (ht : t < 0) :
    Calls Tryz.prog 53 #[.agg #[.slice aw r.ws.length cw, .slice at_ r.ts.length ct, .slice ah r.hs.length ch, .slice an r.ns.length cn, .int .i64 r.nw, .int .i64 r.nt], .agg #[.int .i64 h, .int .i64 s], .string d, .int .i64 t, .int .i64 rights] w fun e w' => ∃ v0 v1 v2 v3, e = .returned (.tuple #[.agg #[v0, v1, v2, v3, .int .i64 r.nw, .int .i64 r.nt], .nilIface]) ∧ OwnsR w' w.heap.size v0 v1 v2 v3 (sendR r h s d t rights) ∧ Below w.heap.size w w' := by
  obtain ⟨i0, hi, hi0, hi1, hi2⟩ := info_parts infoNote
  have mn := hz.n
  obtain ⟨BR0, BP0, BZ0, bl0⟩ := boxes3 w [.slice aw r.ws.length cw, .slice at_ r.ts.length ct, .slice ah r.hs.length ch, .slice an r.ns.length cn, .int .i64 r.nw, .int .i64 r.nt] 30 [.int .i64 h, .int .i64 s] 33 [.slice none 0 0, .slice none 0 0, .slice none 0 0, .slice none 0 0, .int .i64 0, .int .i64 0] 30
  go_enter Tryz.func53, Tryz.ntmps53
  go_wp2_with fail
  refine (who_ok aw at_ ah an cw ct ch cn r h s 2 2 _ (hr.below bl0) hz hc).mono ?_
  rintro e w1 ⟨rfl, hb1⟩
  have BR1 := BR0.below hb1
  have BP1 := BP0.below hb1
  have BZ1 := BZ0.below hb1
  have bl1 := Below_after bl0 hb1
  clear BR0 BP0 BZ0 bl0
  have lw1 := BZ1.1
  generalize hx' : getW r h s = x at *
  have Hx : Hid (getW r h s = x) := hx'
  clear hx'
  obtain ⟨cR0, cR1, cR2, cR3, cR4, cR5⟩ := BR1.c6
  have zR := BR1.1
  obtain ⟨cP0, cP1⟩ := BP1.c2
  have zP := BP1.1
  obtain ⟨cZ0, cZ1, cZ2, cZ3, cZ4, cZ5⟩ := BZ1.c6
  have zZ := BZ1.1
  go_wp2_with fail
  clear cR0 cR1 cR2 cR3 cR4 cR5 zR cP0 cP1 zP cZ0 cZ1 cZ2 cZ3 cZ4 cZ5 zZ
  have BR2 := BR1.alloc (.cells #[.int .i64 x.id, .int .i64 x.thing, .int .i64 x.rights, .int .i64 x.badge, .int .i64 x.frm] 39)
  have BP2 := BP1.alloc (.cells #[.int .i64 x.id, .int .i64 x.thing, .int .i64 x.rights, .int .i64 x.badge, .int .i64 x.frm] 39)
  have BZ2 := BZ1.alloc (.cells #[.int .i64 x.id, .int .i64 x.thing, .int .i64 x.rights, .int .i64 x.badge, .int .i64 x.frm] 39)
  have bl2 := bl1.alloc bl1.size (.cells #[.int .i64 x.id, .int .i64 x.thing, .int .i64 x.rights, .int .i64 x.badge, .int .i64 x.frm] 39)
  have BX2 := Bx.new w1 [.int .i64 x.id, .int .i64 x.thing, .int .i64 x.rights, .int .i64 x.badge, .int .i64 x.frm] 39
  clear BR1 BP1 BZ1 bl1
  generalize hg2 : (w1.alloc (.cells #[.int .i64 x.id, .int .i64 x.thing, .int .i64 x.rights, .int .i64 x.badge, .int .i64 x.frm] 39)) = w2 at BR2 BP2 BZ2 BX2 bl2 ⊢
  clear hg2
  have sg2X := BX2.1
  refine (waiting_any aw at_ ah an cw ct ch cn r x.thing _ (hr.below bl2) hz).mono ?_
  rintro e w3 ⟨rfl, hb3⟩
  have sz3 : w2.heap.size ≤ w3.heap.size := hb3.size
  have BR3 := BR2.below hb3
  have BP3 := BP2.below hb3
  have BZ3 := BZ2.below hb3
  have BX3 := BX2.below hb3
  have bl3 := Below_after bl2 hb3
  clear BR2 BP2 BZ2 BX2 bl2
  have lw3 := BZ3.1
  generalize (waitL r x.thing).length = m at *
  obtain ⟨cR0, cR1, cR2, cR3, cR4, cR5⟩ := BR3.c6
  have zR := BR3.1
  obtain ⟨cP0, cP1⟩ := BP3.c2
  have zP := BP3.1
  obtain ⟨cZ0, cZ1, cZ2, cZ3, cZ4, cZ5⟩ := BZ3.c6
  have zZ := BZ3.1
  obtain ⟨cX0, cX1, cX2, cX3, cX4⟩ := BX3.c5
  have zX := BX3.1
  go_wp2_with fail
  clear cR0 cR1 cR2 cR3 cR4 cR5 zR cP0 cP1 zP cZ0 cZ1 cZ2 cZ3 cZ4 cZ5 zZ cX0 cX1 cX2 cX3 cX4 zX
  have BR4 := BR3.alloc (.cells #[.int .i64 x.thing, .string d, .int .i64 x.badge, .int .i64 0] 52)
  have BP4 := BP3.alloc (.cells #[.int .i64 x.thing, .string d, .int .i64 x.badge, .int .i64 0] 52)
  have BZ4 := BZ3.alloc (.cells #[.int .i64 x.thing, .string d, .int .i64 x.badge, .int .i64 0] 52)
  have BX4 := BX3.alloc (.cells #[.int .i64 x.thing, .string d, .int .i64 x.badge, .int .i64 0] 52)
  have bl4 := bl3.alloc bl3.size (.cells #[.int .i64 x.thing, .string d, .int .i64 x.badge, .int .i64 0] 52)
  have BN4 := Bx.new w3 [.int .i64 x.thing, .string d, .int .i64 x.badge, .int .i64 0] 52
  clear BR3 BP3 BZ3 BX3 bl3
  generalize hg4 : (w3.alloc (.cells #[.int .i64 x.thing, .string d, .int .i64 x.badge, .int .i64 0] 52)) = w4 at BR4 BP4 BZ4 BX4 BN4 bl4 ⊢
  clear hg4
  have sg4N := BN4.1
  have hlow := BZ4.1
  have hs1 : w.heap.size ≤ w4.heap.size := bl4.size
  refine (copy_at aw at_ ah an cw ct ch cn r _ (hr.below bl4) hz).mono ?_
  rintro e w5 ⟨b0, b1, b2, b3, d0, d1, d2, d3, rfl, hO, hb5⟩
  have sz5 : w4.heap.size ≤ w5.heap.size := hb5.size
  have BR5 := BR4.below hb5
  have BP5 := BP4.below hb5
  have BZ5 := BZ4.below hb5
  have BX5 := BX4.below hb5
  have BN5 := BN4.below hb5
  have bl5 := Below_after bl4 hb5
  clear BR4 BP4 BZ4 BX4 BN4 bl4
  have lw5 := BZ5.1
  obtain ⟨cR0, cR1, cR2, cR3, cR4, cR5⟩ := BR5.c6
  have zR := BR5.1
  obtain ⟨cP0, cP1⟩ := BP5.c2
  have zP := BP5.1
  obtain ⟨cZ0, cZ1, cZ2, cZ3, cZ4, cZ5⟩ := BZ5.c6
  have zZ := BZ5.1
  obtain ⟨cX0, cX1, cX2, cX3, cX4⟩ := BX5.c5
  have zX := BX5.1
  obtain ⟨cN0, cN1, cN2, cN3⟩ := BN5.c4
  have zN := BN5.1
  have hO5 := hO.below (((Below.refl _ _).alloc (Nat.le_refl _) (.cells #[.slice b0 r.ws.length d0, .slice b1 r.ts.length d1, .slice b2 r.hs.length d2, .slice b3 r.ns.length d3, .int .i64 r.nw, .int .i64 r.nt] 30)).alloc (by simp) (.cells #[.int .i64 x.thing, .string d, .int .i64 x.badge, .int .i64 0] 52))
  have tag5 := (RTag.new w5 #[.slice b0 r.ws.length d0, .slice b1 r.ts.length d1, .slice b2 r.hs.length d2, .slice b3 r.ns.length d3, .int .i64 r.nw, .int .i64 r.nt]).below ((Below.refl _ _).alloc (Nat.le_refl _) (.cells #[.int .i64 x.thing, .string d, .int .i64 x.badge, .int .i64 0] 52))
  have HO5 : Hid (OwnsR _ _ _ _ _ _ _) := hO5
  have HT5 : Hid (RTag _ _) := tag5
  clear hO5 tag5 hO
  go_wp2_with (at_builtin; refine wpList_append_own _ rfl _ _ 28 rfl w4.heap.size 52 i0 (.agg #[.int .i64 0, .string ByteArray.empty, .int .i64 0, .int .i64 0]) 4 40 Tryz.underlying28 hi hi0 hi1 hi2 rfl (by decide) _ _ _ rfl HO5.out.rn _ 1 1 [.int .i64 x.thing, .string d, .int .i64 x.badge, .int .i64 0] rfl rfl (new4b _ _ _ _ _ _ _) (ncell_one ⟨x.thing, d, x.badge, 0⟩) ?c3 ?c4 ?c5 ?_)
  case c3 => have := hz.n; (try simp only [addR]); unfold maxLen; omega
  case c4 => have := hz.n; (try simp only [addR]); omega
  case c5 => (simp; try omega)
  intro v3' wA hownA' hgrow _
  clear cR0 cR1 cR2 cR3 cR4 cR5 zR cP0 cP1 zP cZ0 cZ1 cZ2 cZ3 cZ4 cZ5 zZ cX0 cX1 cX2 cX3 cX4 zX cN0 cN1 cN2 cN3 zN
  have BR6 := BR5.alloc (.cells #[.slice b0 r.ws.length d0, .slice b1 r.ts.length d1, .slice b2 r.hs.length d2, .slice b3 r.ns.length d3, .int .i64 r.nw, .int .i64 r.nt] 30)
  have BP6 := BP5.alloc (.cells #[.slice b0 r.ws.length d0, .slice b1 r.ts.length d1, .slice b2 r.hs.length d2, .slice b3 r.ns.length d3, .int .i64 r.nw, .int .i64 r.nt] 30)
  have BZ6 := BZ5.alloc (.cells #[.slice b0 r.ws.length d0, .slice b1 r.ts.length d1, .slice b2 r.hs.length d2, .slice b3 r.ns.length d3, .int .i64 r.nw, .int .i64 r.nt] 30)
  have BX6 := BX5.alloc (.cells #[.slice b0 r.ws.length d0, .slice b1 r.ts.length d1, .slice b2 r.hs.length d2, .slice b3 r.ns.length d3, .int .i64 r.nw, .int .i64 r.nt] 30)
  have BN6 := BN5.alloc (.cells #[.slice b0 r.ws.length d0, .slice b1 r.ts.length d1, .slice b2 r.hs.length d2, .slice b3 r.ns.length d3, .int .i64 r.nw, .int .i64 r.nt] 30)
  have bl6 := bl5.alloc bl5.size (.cells #[.slice b0 r.ws.length d0, .slice b1 r.ts.length d1, .slice b2 r.hs.length d2, .slice b3 r.ns.length d3, .int .i64 r.nw, .int .i64 r.nt] 30)
  have BO6 := Bx.new w5 [.slice b0 r.ws.length d0, .slice b1 r.ts.length d1, .slice b2 r.hs.length d2, .slice b3 r.ns.length d3, .int .i64 r.nw, .int .i64 r.nt] 30
  clear BR5 BP5 BZ5 BX5 BN5 bl5
  have BR7 := BR6.alloc (.cells #[.int .i64 x.thing, .string d, .int .i64 x.badge, .int .i64 0] 52)
  have BP7 := BP6.alloc (.cells #[.int .i64 x.thing, .string d, .int .i64 x.badge, .int .i64 0] 52)
  have BZ7 := BZ6.alloc (.cells #[.int .i64 x.thing, .string d, .int .i64 x.badge, .int .i64 0] 52)
  have BX7 := BX6.alloc (.cells #[.int .i64 x.thing, .string d, .int .i64 x.badge, .int .i64 0] 52)
  have BN7 := BN6.alloc (.cells #[.int .i64 x.thing, .string d, .int .i64 x.badge, .int .i64 0] 52)
  have BO7 := BO6.alloc (.cells #[.int .i64 x.thing, .string d, .int .i64 x.badge, .int .i64 0] 52)
  have bl7 := bl6.alloc bl6.size (.cells #[.int .i64 x.thing, .string d, .int .i64 x.badge, .int .i64 0] 52)
  have BS7 := Bx.new (w5.alloc (.cells #[.slice b0 r.ws.length d0, .slice b1 r.ts.length d1, .slice b2 r.hs.length d2, .slice b3 r.ns.length d3, .int .i64 r.nw, .int .i64 r.nt] 30)) [.int .i64 x.thing, .string d, .int .i64 x.badge, .int .i64 0] 52
  rw [show (w5.alloc (.cells #[.slice b0 r.ws.length d0, .slice b1 r.ts.length d1, .slice b2 r.hs.length d2, .slice b3 r.ns.length d3, .int .i64 r.nw, .int .i64 r.nt] 30)).heap.size = w5.heap.size + 1 by simp] at BS7
  clear BR6 BP6 BZ6 BX6 BN6 BO6 bl6
  have hne := own_ne_tag HO5.out.rn HT5.out (by decide)
  have hneZ := ownBlock_ne HO5.out.rn hlow
  have BO20 := BO7.grown hgrow hne.symm
  have BZ20 := BZ7.grown hgrow hneZ.symm
  have tag6 := HT5.out.grown hgrow hne.symm
  have bl20 := bl7.grown hgrow bl7.size (fun k hk => by have := (HO5.out.rn.lt k hk).1; omega)
  have hO6 := HO5.out.grow3 (x := ⟨x.thing, d, x.badge, 0⟩) hgrow hownA'
  clear hgrow hownA' HO5 HT5 hne hneZ bl7 BR7 BP7 BZ7 BX7 BN7 BO7 BS7
  obtain ⟨b3', d3', hv, -, -⟩ := nrow_at hO6.rn
  obtain ⟨T, hT⟩ : ∃ T, T = (r.ns ++ [(⟨x.thing, d, x.badge, 0⟩ : Nt)]).length := ⟨_, rfl⟩
  have hv' : v3' = .slice b3' T d3' := by subst hT; exact hv
  subst hv'
  clear hv hT
  have HO6 : Hid (OwnsR _ _ _ _ _ _ _) := hO6
  have HT6 : Hid (RTag _ _) := tag6
  clear hO6 tag6
  obtain ⟨cO0, fO0, cO1, fO1, cO2, fO2, cO3, fO3, cO4, fO4, cO5, fO5⟩ := BO20.cf6
  have zO := BO20.1
  obtain ⟨cZ0, fZ0, cZ1, fZ1, cZ2, fZ2, cZ3, fZ3, cZ4, fZ4, cZ5, fZ5⟩ := BZ20.cf6
  have zZ := BZ20.1
  go_wp2_with fail
  clear cO0 fO0 cO1 fO1 cO2 fO2 cO3 fO3 cO4 fO4 cO5 fO5 zO cZ0 fZ0 cZ1 fZ1 cZ2 fZ2 cZ3 fZ3 cZ4 fZ4 cZ5 fZ5 zZ
  have BO21 := BO20.set 3 (.slice b3' T d3')
  simp only [List.set_cons_zero, List.set_cons_succ] at BO21
  have BZ21 := BZ20.other (b' := w5.heap.size) (by first | omega | (have := BO20.1; have := BZ20.1; omega)) 3 (.slice b3' T d3')
  have bl21 := bl20.setCell (p := ⟨w5.heap.size, 3, none⟩) (by show w.heap.size ≤ w5.heap.size; omega) (.slice b3' T d3')
  clear BO20 BZ20 bl20
  have hO8 := HO6.out.setTag HT6.out 3 (.slice b3' T d3')
  obtain ⟨y0, y1, y2, y3, y4, y5⟩ := (BZ21.put6 (.slice b0 r.ws.length d0) (.slice b1 r.ts.length d1) (.slice b2 r.hs.length d2) (.slice b3' T d3') (.int .i64 r.nw) (.int .i64 r.nt)).six
  have blF := (below_set6 bl21 (b := w.heap.size + 1 + 1) (by omega) (.slice b0 r.ws.length d0) (.slice b1 r.ts.length d1) (.slice b2 r.hs.length d2) (.slice b3' T d3') (.int .i64 r.nw) (.int .i64 r.nt))
  refine bodyPost_ret (v := .tuple #[.agg #[.slice b0 r.ws.length d0, .slice b1 r.ts.length d1, .slice b2 r.hs.length d2, .slice b3' T d3', .int .i64 r.nw, .int .i64 r.nt], .nilIface]) (by simp [results, Tryz.results53, go_sem, y0, y1, y2, y3, y4, y5]) rfl ?_
  exact ⟨_, _, _, _, rfl, by unfold sendR; rw [if_pos (by omega), Hx.out]; exact (hO8.set6 (by omega) _ _ _ _ _ _).mono hs1, blF⟩
set_option maxHeartbeats 2000000 in
set_option maxRecDepth 100000 in
theorem send_err (aw at_ ah an : Option Addr) (cw ct ch cn : Nat) (r : Rm) (h s : Int) (d : ByteArray) (t rights : Int) (w : World) (hr : RmAt w aw at_ ah an cw ct ch cn r) (hz : RmSz r) (hc : whoC r h s 2 2 = 0) (hd : d.size ≤ 8) (hw3 : (waitL r (getW r h s).thing).length < 3) (ht : ¬ t < 0) (he : eC r (getW r h s) h t rights ≠ 0) :
    Calls Tryz.prog 53 #[.agg #[.slice aw r.ws.length cw, .slice at_ r.ts.length ct, .slice ah r.hs.length ch, .slice an r.ns.length cn, .int .i64 r.nw, .int .i64 r.nt], .agg #[.int .i64 h, .int .i64 s], .string d, .int .i64 t, .int .i64 rights] w fun e w' => e = .returned (.tuple #[.agg #[.slice none 0 0, .slice none 0 0, .slice none 0 0, .slice none 0 0, .int .i64 0, .int .i64 0], .iface 69 (.int .i64 (eC r (getW r h s) h t rights))]) ∧ Below w.heap.size w w' := by
  obtain ⟨BR0, BP0, BZ0, bl0⟩ := boxes3 w [.slice aw r.ws.length cw, .slice at_ r.ts.length ct, .slice ah r.hs.length ch, .slice an r.ns.length cn, .int .i64 r.nw, .int .i64 r.nt] 30 [.int .i64 h, .int .i64 s] 33 [.slice none 0 0, .slice none 0 0, .slice none 0 0, .slice none 0 0, .int .i64 0, .int .i64 0] 30
  go_enter Tryz.func53, Tryz.ntmps53
  go_wp2_with fail
  refine (who_ok aw at_ ah an cw ct ch cn r h s 2 2 _ (hr.below bl0) hz hc).mono ?_
  rintro e w1 ⟨rfl, hb1⟩
  have BR1 := BR0.below hb1
  have BP1 := BP0.below hb1
  have BZ1 := BZ0.below hb1
  have bl1 := Below_after bl0 hb1
  clear BR0 BP0 BZ0 bl0
  have lw1 := BZ1.1
  generalize hx' : getW r h s = x at *
  have Hx : Hid (getW r h s = x) := hx'
  clear hx'
  obtain ⟨cR0, cR1, cR2, cR3, cR4, cR5⟩ := BR1.c6
  have zR := BR1.1
  obtain ⟨cP0, cP1⟩ := BP1.c2
  have zP := BP1.1
  obtain ⟨cZ0, cZ1, cZ2, cZ3, cZ4, cZ5⟩ := BZ1.c6
  have zZ := BZ1.1
  go_wp2_with fail
  clear cR0 cR1 cR2 cR3 cR4 cR5 zR cP0 cP1 zP cZ0 cZ1 cZ2 cZ3 cZ4 cZ5 zZ
  have BR2 := BR1.alloc (.cells #[.int .i64 x.id, .int .i64 x.thing, .int .i64 x.rights, .int .i64 x.badge, .int .i64 x.frm] 39)
  have BP2 := BP1.alloc (.cells #[.int .i64 x.id, .int .i64 x.thing, .int .i64 x.rights, .int .i64 x.badge, .int .i64 x.frm] 39)
  have BZ2 := BZ1.alloc (.cells #[.int .i64 x.id, .int .i64 x.thing, .int .i64 x.rights, .int .i64 x.badge, .int .i64 x.frm] 39)
  have bl2 := bl1.alloc bl1.size (.cells #[.int .i64 x.id, .int .i64 x.thing, .int .i64 x.rights, .int .i64 x.badge, .int .i64 x.frm] 39)
  have BX2 := Bx.new w1 [.int .i64 x.id, .int .i64 x.thing, .int .i64 x.rights, .int .i64 x.badge, .int .i64 x.frm] 39
  clear BR1 BP1 BZ1 bl1
  generalize hg2 : (w1.alloc (.cells #[.int .i64 x.id, .int .i64 x.thing, .int .i64 x.rights, .int .i64 x.badge, .int .i64 x.frm] 39)) = w2 at BR2 BP2 BZ2 BX2 bl2 ⊢
  clear hg2
  have sg2X := BX2.1
  refine (waiting_any aw at_ ah an cw ct ch cn r x.thing _ (hr.below bl2) hz).mono ?_
  rintro e w3 ⟨rfl, hb3⟩
  have sz3 : w2.heap.size ≤ w3.heap.size := hb3.size
  have BR3 := BR2.below hb3
  have BP3 := BP2.below hb3
  have BZ3 := BZ2.below hb3
  have BX3 := BX2.below hb3
  have bl3 := Below_after bl2 hb3
  clear BR2 BP2 BZ2 BX2 bl2
  have lw3 := BZ3.1
  generalize (waitL r x.thing).length = m at *
  obtain ⟨cR0, cR1, cR2, cR3, cR4, cR5⟩ := BR3.c6
  have zR := BR3.1
  obtain ⟨cP0, cP1⟩ := BP3.c2
  have zP := BP3.1
  obtain ⟨cZ0, cZ1, cZ2, cZ3, cZ4, cZ5⟩ := BZ3.c6
  have zZ := BZ3.1
  obtain ⟨cX0, cX1, cX2, cX3, cX4⟩ := BX3.c5
  have zX := BX3.1
  go_wp2_with fail
  clear cR0 cR1 cR2 cR3 cR4 cR5 zR cP0 cP1 zP cZ0 cZ1 cZ2 cZ3 cZ4 cZ5 zZ cX0 cX1 cX2 cX3 cX4 zX
  have BR4 := BR3.alloc (.cells #[.int .i64 x.thing, .string d, .int .i64 x.badge, .int .i64 0] 52)
  have BP4 := BP3.alloc (.cells #[.int .i64 x.thing, .string d, .int .i64 x.badge, .int .i64 0] 52)
  have BZ4 := BZ3.alloc (.cells #[.int .i64 x.thing, .string d, .int .i64 x.badge, .int .i64 0] 52)
  have BX4 := BX3.alloc (.cells #[.int .i64 x.thing, .string d, .int .i64 x.badge, .int .i64 0] 52)
  have bl4 := bl3.alloc bl3.size (.cells #[.int .i64 x.thing, .string d, .int .i64 x.badge, .int .i64 0] 52)
  have BN4 := Bx.new w3 [.int .i64 x.thing, .string d, .int .i64 x.badge, .int .i64 0] 52
  clear BR3 BP3 BZ3 BX3 bl3
  generalize hg4 : (w3.alloc (.cells #[.int .i64 x.thing, .string d, .int .i64 x.badge, .int .i64 0] 52)) = w4 at BR4 BP4 BZ4 BX4 BN4 bl4 ⊢
  clear hg4
  have sg4N := BN4.1
  have hlow := BZ4.1
  have hs1 : w.heap.size ≤ w4.heap.size := bl4.size
  refine (copy_at aw at_ ah an cw ct ch cn r _ (hr.below bl4) hz).mono ?_
  rintro e w5 ⟨b0, b1, b2, b3, d0, d1, d2, d3, rfl, hO, hb5⟩
  have sz5 : w4.heap.size ≤ w5.heap.size := hb5.size
  have BR5 := BR4.below hb5
  have BP5 := BP4.below hb5
  have BZ5 := BZ4.below hb5
  have BX5 := BX4.below hb5
  have BN5 := BN4.below hb5
  have bl5 := Below_after bl4 hb5
  clear BR4 BP4 BZ4 BX4 BN4 bl4
  have lw5 := BZ5.1
  obtain ⟨cR0, cR1, cR2, cR3, cR4, cR5⟩ := BR5.c6
  have zR := BR5.1
  obtain ⟨cP0, cP1⟩ := BP5.c2
  have zP := BP5.1
  obtain ⟨cZ0, cZ1, cZ2, cZ3, cZ4, cZ5⟩ := BZ5.c6
  have zZ := BZ5.1
  obtain ⟨cX0, cX1, cX2, cX3, cX4⟩ := BX5.c5
  have zX := BX5.1
  obtain ⟨cN0, cN1, cN2, cN3⟩ := BN5.c4
  have zN := BN5.1
  clear hO
  go_wp2_with fail
  clear cR0 cR1 cR2 cR3 cR4 cR5 zR cP0 cP1 zP cZ0 cZ1 cZ2 cZ3 cZ4 cZ5 zZ cX0 cX1 cX2 cX3 cX4 zX cN0 cN1 cN2 cN3 zN
  have tag := RTag.new w5 #[.slice b0 r.ws.length d0, .slice b1 r.ts.length d1, .slice b2 r.hs.length d2, .slice b3 r.ns.length d3, .int .i64 r.nw, .int .i64 r.nt]
  have BR6 := BR5.alloc (.cells #[.slice b0 r.ws.length d0, .slice b1 r.ts.length d1, .slice b2 r.hs.length d2, .slice b3 r.ns.length d3, .int .i64 r.nw, .int .i64 r.nt] 30)
  have BP6 := BP5.alloc (.cells #[.slice b0 r.ws.length d0, .slice b1 r.ts.length d1, .slice b2 r.hs.length d2, .slice b3 r.ns.length d3, .int .i64 r.nw, .int .i64 r.nt] 30)
  have BZ6 := BZ5.alloc (.cells #[.slice b0 r.ws.length d0, .slice b1 r.ts.length d1, .slice b2 r.hs.length d2, .slice b3 r.ns.length d3, .int .i64 r.nw, .int .i64 r.nt] 30)
  have BX6 := BX5.alloc (.cells #[.slice b0 r.ws.length d0, .slice b1 r.ts.length d1, .slice b2 r.hs.length d2, .slice b3 r.ns.length d3, .int .i64 r.nw, .int .i64 r.nt] 30)
  have BN6 := BN5.alloc (.cells #[.slice b0 r.ws.length d0, .slice b1 r.ts.length d1, .slice b2 r.hs.length d2, .slice b3 r.ns.length d3, .int .i64 r.nw, .int .i64 r.nt] 30)
  have bl6 := bl5.alloc bl5.size (.cells #[.slice b0 r.ws.length d0, .slice b1 r.ts.length d1, .slice b2 r.hs.length d2, .slice b3 r.ns.length d3, .int .i64 r.nw, .int .i64 r.nt] 30)
  have BO6 := Bx.new w5 [.slice b0 r.ws.length d0, .slice b1 r.ts.length d1, .slice b2 r.hs.length d2, .slice b3 r.ns.length d3, .int .i64 r.nw, .int .i64 r.nt] 30
  clear BR5 BP5 BZ5 BX5 BN5 bl5
  generalize hg : (w5.alloc (.cells #[.slice b0 r.ws.length d0, .slice b1 r.ts.length d1, .slice b2 r.hs.length d2, .slice b3 r.ns.length d3, .int .i64 r.nw, .int .i64 r.nt] 30)) = w6 at BR6 BP6 BZ6 BX6 BN6 BO6 bl6 tag ⊢
  clear hg
  have hs3 : w5.heap.size < w6.heap.size := BO6.1
  refine (enc_err aw at_ ah an cw ct ch cn r x h t rights _ (hr.below bl6) hz he).mono ?_
  rintro e w7 ⟨rfl, hb7⟩
  have sz7 : w6.heap.size ≤ w7.heap.size := hb7.size
  have BR7 := BR6.below hb7
  have BP7 := BP6.below hb7
  have BZ7 := BZ6.below hb7
  have BX7 := BX6.below hb7
  have BN7 := BN6.below hb7
  have BO7 := BO6.below hb7
  have bl7 := Below_after bl6 hb7
  clear BR6 BP6 BZ6 BX6 BN6 BO6 bl6
  have lw7 := BZ7.1
  generalize hD' : eC r x h t rights = D at *
  have HD : Hid (eC r x h t rights = D) := hD'
  clear hD'
  obtain ⟨cR0, cR1, cR2, cR3, cR4, cR5⟩ := BR7.c6
  have zR := BR7.1
  obtain ⟨cP0, cP1⟩ := BP7.c2
  have zP := BP7.1
  obtain ⟨cZ0, fZ0, cZ1, fZ1, cZ2, fZ2, cZ3, fZ3, cZ4, fZ4, cZ5, fZ5⟩ := BZ7.cf6
  have zZ := BZ7.1
  obtain ⟨cX0, cX1, cX2, cX3, cX4⟩ := BX7.c5
  have zX := BX7.1
  obtain ⟨cN0, cN1, cN2, cN3⟩ := BN7.c4
  have zN := BN7.1
  obtain ⟨cO0, fO0, cO1, fO1, cO2, fO2, cO3, fO3, cO4, fO4, cO5, fO5⟩ := BO7.cf6
  have zO := BO7.1
  go_wp2_with fail
  clear cR0 cR1 cR2 cR3 cR4 cR5 zR cP0 cP1 zP cZ0 fZ0 cZ1 fZ1 cZ2 fZ2 cZ3 fZ3 cZ4 fZ4 cZ5 fZ5 zZ cX0 cX1 cX2 cX3 cX4 zX cN0 cN1 cN2 cN3 zN cO0 fO0 cO1 fO1 cO2 fO2 cO3 fO3 cO4 fO4 cO5 fO5 zO
  clear tag
  have BR8 := BR7.other (b' := w5.heap.size) (by first | omega | (have := BO7.1; have := BR7.1; omega)) 0 (.slice none 0 0)
  have BP8 := BP7.other (b' := w5.heap.size) (by first | omega | (have := BO7.1; have := BP7.1; omega)) 0 (.slice none 0 0)
  have BZ8 := BZ7.other (b' := w5.heap.size) (by first | omega | (have := BO7.1; have := BZ7.1; omega)) 0 (.slice none 0 0)
  have BX8 := BX7.other (b' := w5.heap.size) (by first | omega | (have := BO7.1; have := BX7.1; omega)) 0 (.slice none 0 0)
  have BN8 := BN7.other (b' := w5.heap.size) (by first | omega | (have := BO7.1; have := BN7.1; omega)) 0 (.slice none 0 0)
  have BO8 := BO7.set 0 (.slice none 0 0)
  simp only [List.set_cons_zero, List.set_cons_succ] at BO8
  have bl8 := bl7.setCell (p := ⟨w5.heap.size, 0, none⟩) (by show w.heap.size ≤ w5.heap.size; omega) (.slice none 0 0)
  clear BR7 BP7 BZ7 BX7 BN7 BO7 bl7
  have BR9 := BR8.other (b' := w5.heap.size) (by first | omega | (have := BO8.1; have := BR8.1; omega)) 1 (.slice none 0 0)
  have BP9 := BP8.other (b' := w5.heap.size) (by first | omega | (have := BO8.1; have := BP8.1; omega)) 1 (.slice none 0 0)
  have BZ9 := BZ8.other (b' := w5.heap.size) (by first | omega | (have := BO8.1; have := BZ8.1; omega)) 1 (.slice none 0 0)
  have BX9 := BX8.other (b' := w5.heap.size) (by first | omega | (have := BO8.1; have := BX8.1; omega)) 1 (.slice none 0 0)
  have BN9 := BN8.other (b' := w5.heap.size) (by first | omega | (have := BO8.1; have := BN8.1; omega)) 1 (.slice none 0 0)
  have BO9 := BO8.set 1 (.slice none 0 0)
  simp only [List.set_cons_zero, List.set_cons_succ] at BO9
  have bl9 := bl8.setCell (p := ⟨w5.heap.size, 1, none⟩) (by show w.heap.size ≤ w5.heap.size; omega) (.slice none 0 0)
  clear BR8 BP8 BZ8 BX8 BN8 BO8 bl8
  have BR10 := BR9.other (b' := w5.heap.size) (by first | omega | (have := BO9.1; have := BR9.1; omega)) 2 (.slice none 0 0)
  have BP10 := BP9.other (b' := w5.heap.size) (by first | omega | (have := BO9.1; have := BP9.1; omega)) 2 (.slice none 0 0)
  have BZ10 := BZ9.other (b' := w5.heap.size) (by first | omega | (have := BO9.1; have := BZ9.1; omega)) 2 (.slice none 0 0)
  have BX10 := BX9.other (b' := w5.heap.size) (by first | omega | (have := BO9.1; have := BX9.1; omega)) 2 (.slice none 0 0)
  have BN10 := BN9.other (b' := w5.heap.size) (by first | omega | (have := BO9.1; have := BN9.1; omega)) 2 (.slice none 0 0)
  have BO10 := BO9.set 2 (.slice none 0 0)
  simp only [List.set_cons_zero, List.set_cons_succ] at BO10
  have bl10 := bl9.setCell (p := ⟨w5.heap.size, 2, none⟩) (by show w.heap.size ≤ w5.heap.size; omega) (.slice none 0 0)
  clear BR9 BP9 BZ9 BX9 BN9 BO9 bl9
  have BR11 := BR10.other (b' := w5.heap.size) (by first | omega | (have := BO10.1; have := BR10.1; omega)) 3 (.slice none 0 0)
  have BP11 := BP10.other (b' := w5.heap.size) (by first | omega | (have := BO10.1; have := BP10.1; omega)) 3 (.slice none 0 0)
  have BZ11 := BZ10.other (b' := w5.heap.size) (by first | omega | (have := BO10.1; have := BZ10.1; omega)) 3 (.slice none 0 0)
  have BX11 := BX10.other (b' := w5.heap.size) (by first | omega | (have := BO10.1; have := BX10.1; omega)) 3 (.slice none 0 0)
  have BN11 := BN10.other (b' := w5.heap.size) (by first | omega | (have := BO10.1; have := BN10.1; omega)) 3 (.slice none 0 0)
  have BO11 := BO10.set 3 (.slice none 0 0)
  simp only [List.set_cons_zero, List.set_cons_succ] at BO11
  have bl11 := bl10.setCell (p := ⟨w5.heap.size, 3, none⟩) (by show w.heap.size ≤ w5.heap.size; omega) (.slice none 0 0)
  clear BR10 BP10 BZ10 BX10 BN10 BO10 bl10
  have BR12 := BR11.other (b' := w5.heap.size) (by first | omega | (have := BO11.1; have := BR11.1; omega)) 4 (.int .i64 0)
  have BP12 := BP11.other (b' := w5.heap.size) (by first | omega | (have := BO11.1; have := BP11.1; omega)) 4 (.int .i64 0)
  have BZ12 := BZ11.other (b' := w5.heap.size) (by first | omega | (have := BO11.1; have := BZ11.1; omega)) 4 (.int .i64 0)
  have BX12 := BX11.other (b' := w5.heap.size) (by first | omega | (have := BO11.1; have := BX11.1; omega)) 4 (.int .i64 0)
  have BN12 := BN11.other (b' := w5.heap.size) (by first | omega | (have := BO11.1; have := BN11.1; omega)) 4 (.int .i64 0)
  have BO12 := BO11.set 4 (.int .i64 0)
  simp only [List.set_cons_zero, List.set_cons_succ] at BO12
  have bl12 := bl11.setCell (p := ⟨w5.heap.size, 4, none⟩) (by show w.heap.size ≤ w5.heap.size; omega) (.int .i64 0)
  clear BR11 BP11 BZ11 BX11 BN11 BO11 bl11
  have BR13 := BR12.other (b' := w5.heap.size) (by first | omega | (have := BO12.1; have := BR12.1; omega)) 5 (.int .i64 0)
  have BP13 := BP12.other (b' := w5.heap.size) (by first | omega | (have := BO12.1; have := BP12.1; omega)) 5 (.int .i64 0)
  have BZ13 := BZ12.other (b' := w5.heap.size) (by first | omega | (have := BO12.1; have := BZ12.1; omega)) 5 (.int .i64 0)
  have BX13 := BX12.other (b' := w5.heap.size) (by first | omega | (have := BO12.1; have := BX12.1; omega)) 5 (.int .i64 0)
  have BN13 := BN12.other (b' := w5.heap.size) (by first | omega | (have := BO12.1; have := BN12.1; omega)) 5 (.int .i64 0)
  have BO13 := BO12.set 5 (.int .i64 0)
  simp only [List.set_cons_zero, List.set_cons_succ] at BO13
  have bl13 := bl12.setCell (p := ⟨w5.heap.size, 5, none⟩) (by show w.heap.size ≤ w5.heap.size; omega) (.int .i64 0)
  clear BR12 BP12 BZ12 BX12 BN12 BO12 bl12
  obtain ⟨y0, y1, y2, y3, y4, y5⟩ := (BZ13.put6 (.slice none 0 0) (.slice none 0 0) (.slice none 0 0) (.slice none 0 0) (.int .i64 0) (.int .i64 0)).six
  have blF := (below_set6 bl13 (b := w.heap.size + 1 + 1) (by omega) (.slice none 0 0) (.slice none 0 0) (.slice none 0 0) (.slice none 0 0) (.int .i64 0) (.int .i64 0))
  refine bodyPost_ret (v := .tuple #[.agg #[.slice none 0 0, .slice none 0 0, .slice none 0 0, .slice none 0 0, .int .i64 0, .int .i64 0], .iface 69 (.int .i64 D)]) (by simp [results, Tryz.results53, go_sem, y0, y1, y2, y3, y4, y5]) rfl ?_
  exact ⟨by rw [Hx.out, HD.out], blF⟩
set_option maxHeartbeats 2000000 in
set_option maxRecDepth 100000 in
theorem send_with (aw at_ ah an : Option Addr) (cw ct ch cn : Nat) (r : Rm) (h s : Int) (d : ByteArray) (t rights : Int) (w : World) (hr : RmAt w aw at_ ah an cw ct ch cn r) (hz : RmSz r) (hc : whoC r h s 2 2 = 0) (hd : d.size ≤ 8) (hw3 : (waitL r (getW r h s).thing).length < 3) (ht : ¬ t < 0) (he : eC r (getW r h s) h t rights = 0) :
    Calls Tryz.prog 53 #[.agg #[.slice aw r.ws.length cw, .slice at_ r.ts.length ct, .slice ah r.hs.length ch, .slice an r.ns.length cn, .int .i64 r.nw, .int .i64 r.nt], .agg #[.int .i64 h, .int .i64 s], .string d, .int .i64 t, .int .i64 rights] w fun e w' => ∃ v0 v1 v2 v3, e = .returned (.tuple #[.agg #[v0, v1, v2, v3, .int .i64 (r.nw + 1), .int .i64 r.nt], .nilIface]) ∧ OwnsR w' w.heap.size v0 v1 v2 v3 (sendR r h s d t rights) ∧ Below w.heap.size w w' := by
  obtain ⟨i0, hi, hi0, hi1, hi2⟩ := info_parts infoNote
  have mn := hz.n
  obtain ⟨BR0, BP0, BZ0, bl0⟩ := boxes3 w [.slice aw r.ws.length cw, .slice at_ r.ts.length ct, .slice ah r.hs.length ch, .slice an r.ns.length cn, .int .i64 r.nw, .int .i64 r.nt] 30 [.int .i64 h, .int .i64 s] 33 [.slice none 0 0, .slice none 0 0, .slice none 0 0, .slice none 0 0, .int .i64 0, .int .i64 0] 30
  go_enter Tryz.func53, Tryz.ntmps53
  go_wp2_with fail
  refine (who_ok aw at_ ah an cw ct ch cn r h s 2 2 _ (hr.below bl0) hz hc).mono ?_
  rintro e w1 ⟨rfl, hb1⟩
  have BR1 := BR0.below hb1
  have BP1 := BP0.below hb1
  have BZ1 := BZ0.below hb1
  have bl1 := Below_after bl0 hb1
  clear BR0 BP0 BZ0 bl0
  have lw1 := BZ1.1
  generalize hx' : getW r h s = x at *
  have Hx : Hid (getW r h s = x) := hx'
  clear hx'
  obtain ⟨cR0, cR1, cR2, cR3, cR4, cR5⟩ := BR1.c6
  have zR := BR1.1
  obtain ⟨cP0, cP1⟩ := BP1.c2
  have zP := BP1.1
  obtain ⟨cZ0, cZ1, cZ2, cZ3, cZ4, cZ5⟩ := BZ1.c6
  have zZ := BZ1.1
  go_wp2_with fail
  clear cR0 cR1 cR2 cR3 cR4 cR5 zR cP0 cP1 zP cZ0 cZ1 cZ2 cZ3 cZ4 cZ5 zZ
  have BR2 := BR1.alloc (.cells #[.int .i64 x.id, .int .i64 x.thing, .int .i64 x.rights, .int .i64 x.badge, .int .i64 x.frm] 39)
  have BP2 := BP1.alloc (.cells #[.int .i64 x.id, .int .i64 x.thing, .int .i64 x.rights, .int .i64 x.badge, .int .i64 x.frm] 39)
  have BZ2 := BZ1.alloc (.cells #[.int .i64 x.id, .int .i64 x.thing, .int .i64 x.rights, .int .i64 x.badge, .int .i64 x.frm] 39)
  have bl2 := bl1.alloc bl1.size (.cells #[.int .i64 x.id, .int .i64 x.thing, .int .i64 x.rights, .int .i64 x.badge, .int .i64 x.frm] 39)
  have BX2 := Bx.new w1 [.int .i64 x.id, .int .i64 x.thing, .int .i64 x.rights, .int .i64 x.badge, .int .i64 x.frm] 39
  clear BR1 BP1 BZ1 bl1
  generalize hg2 : (w1.alloc (.cells #[.int .i64 x.id, .int .i64 x.thing, .int .i64 x.rights, .int .i64 x.badge, .int .i64 x.frm] 39)) = w2 at BR2 BP2 BZ2 BX2 bl2 ⊢
  clear hg2
  have sg2X := BX2.1
  refine (waiting_any aw at_ ah an cw ct ch cn r x.thing _ (hr.below bl2) hz).mono ?_
  rintro e w3 ⟨rfl, hb3⟩
  have sz3 : w2.heap.size ≤ w3.heap.size := hb3.size
  have BR3 := BR2.below hb3
  have BP3 := BP2.below hb3
  have BZ3 := BZ2.below hb3
  have BX3 := BX2.below hb3
  have bl3 := Below_after bl2 hb3
  clear BR2 BP2 BZ2 BX2 bl2
  have lw3 := BZ3.1
  generalize (waitL r x.thing).length = m at *
  obtain ⟨cR0, cR1, cR2, cR3, cR4, cR5⟩ := BR3.c6
  have zR := BR3.1
  obtain ⟨cP0, cP1⟩ := BP3.c2
  have zP := BP3.1
  obtain ⟨cZ0, cZ1, cZ2, cZ3, cZ4, cZ5⟩ := BZ3.c6
  have zZ := BZ3.1
  obtain ⟨cX0, cX1, cX2, cX3, cX4⟩ := BX3.c5
  have zX := BX3.1
  go_wp2_with fail
  clear cR0 cR1 cR2 cR3 cR4 cR5 zR cP0 cP1 zP cZ0 cZ1 cZ2 cZ3 cZ4 cZ5 zZ cX0 cX1 cX2 cX3 cX4 zX
  have BR4 := BR3.alloc (.cells #[.int .i64 x.thing, .string d, .int .i64 x.badge, .int .i64 0] 52)
  have BP4 := BP3.alloc (.cells #[.int .i64 x.thing, .string d, .int .i64 x.badge, .int .i64 0] 52)
  have BZ4 := BZ3.alloc (.cells #[.int .i64 x.thing, .string d, .int .i64 x.badge, .int .i64 0] 52)
  have BX4 := BX3.alloc (.cells #[.int .i64 x.thing, .string d, .int .i64 x.badge, .int .i64 0] 52)
  have bl4 := bl3.alloc bl3.size (.cells #[.int .i64 x.thing, .string d, .int .i64 x.badge, .int .i64 0] 52)
  have BN4 := Bx.new w3 [.int .i64 x.thing, .string d, .int .i64 x.badge, .int .i64 0] 52
  clear BR3 BP3 BZ3 BX3 bl3
  generalize hg4 : (w3.alloc (.cells #[.int .i64 x.thing, .string d, .int .i64 x.badge, .int .i64 0] 52)) = w4 at BR4 BP4 BZ4 BX4 BN4 bl4 ⊢
  clear hg4
  have sg4N := BN4.1
  have hlow := BZ4.1
  have hs1 : w.heap.size ≤ w4.heap.size := bl4.size
  refine (copy_at aw at_ ah an cw ct ch cn r _ (hr.below bl4) hz).mono ?_
  rintro e w5 ⟨b0, b1, b2, b3, d0, d1, d2, d3, rfl, hO, hb5⟩
  have sz5 : w4.heap.size ≤ w5.heap.size := hb5.size
  have BR5 := BR4.below hb5
  have BP5 := BP4.below hb5
  have BZ5 := BZ4.below hb5
  have BX5 := BX4.below hb5
  have BN5 := BN4.below hb5
  have bl5 := Below_after bl4 hb5
  clear BR4 BP4 BZ4 BX4 BN4 bl4
  have lw5 := BZ5.1
  obtain ⟨cR0, cR1, cR2, cR3, cR4, cR5⟩ := BR5.c6
  have zR := BR5.1
  obtain ⟨cP0, cP1⟩ := BP5.c2
  have zP := BP5.1
  obtain ⟨cZ0, cZ1, cZ2, cZ3, cZ4, cZ5⟩ := BZ5.c6
  have zZ := BZ5.1
  obtain ⟨cX0, cX1, cX2, cX3, cX4⟩ := BX5.c5
  have zX := BX5.1
  obtain ⟨cN0, cN1, cN2, cN3⟩ := BN5.c4
  have zN := BN5.1
  clear hO
  go_wp2_with fail
  clear cR0 cR1 cR2 cR3 cR4 cR5 zR cP0 cP1 zP cZ0 cZ1 cZ2 cZ3 cZ4 cZ5 zZ cX0 cX1 cX2 cX3 cX4 zX cN0 cN1 cN2 cN3 zN
  have tag := RTag.new w5 #[.slice b0 r.ws.length d0, .slice b1 r.ts.length d1, .slice b2 r.hs.length d2, .slice b3 r.ns.length d3, .int .i64 r.nw, .int .i64 r.nt]
  have BR6 := BR5.alloc (.cells #[.slice b0 r.ws.length d0, .slice b1 r.ts.length d1, .slice b2 r.hs.length d2, .slice b3 r.ns.length d3, .int .i64 r.nw, .int .i64 r.nt] 30)
  have BP6 := BP5.alloc (.cells #[.slice b0 r.ws.length d0, .slice b1 r.ts.length d1, .slice b2 r.hs.length d2, .slice b3 r.ns.length d3, .int .i64 r.nw, .int .i64 r.nt] 30)
  have BZ6 := BZ5.alloc (.cells #[.slice b0 r.ws.length d0, .slice b1 r.ts.length d1, .slice b2 r.hs.length d2, .slice b3 r.ns.length d3, .int .i64 r.nw, .int .i64 r.nt] 30)
  have BX6 := BX5.alloc (.cells #[.slice b0 r.ws.length d0, .slice b1 r.ts.length d1, .slice b2 r.hs.length d2, .slice b3 r.ns.length d3, .int .i64 r.nw, .int .i64 r.nt] 30)
  have BN6 := BN5.alloc (.cells #[.slice b0 r.ws.length d0, .slice b1 r.ts.length d1, .slice b2 r.hs.length d2, .slice b3 r.ns.length d3, .int .i64 r.nw, .int .i64 r.nt] 30)
  have bl6 := bl5.alloc bl5.size (.cells #[.slice b0 r.ws.length d0, .slice b1 r.ts.length d1, .slice b2 r.hs.length d2, .slice b3 r.ns.length d3, .int .i64 r.nw, .int .i64 r.nt] 30)
  have BO6 := Bx.new w5 [.slice b0 r.ws.length d0, .slice b1 r.ts.length d1, .slice b2 r.hs.length d2, .slice b3 r.ns.length d3, .int .i64 r.nw, .int .i64 r.nt] 30
  clear BR5 BP5 BZ5 BX5 BN5 bl5
  generalize hg : (w5.alloc (.cells #[.slice b0 r.ws.length d0, .slice b1 r.ts.length d1, .slice b2 r.hs.length d2, .slice b3 r.ns.length d3, .int .i64 r.nw, .int .i64 r.nt] 30)) = w6 at BR6 BP6 BZ6 BX6 BN6 BO6 bl6 tag ⊢
  clear hg
  have hs3 : w5.heap.size < w6.heap.size := BO6.1
  obtain ⟨L, hL⟩ : ∃ L, (r.ws ++ [drvW (getW r h t) r.nw rights 0]).length = L := ⟨_, rfl⟩
  have HL : Hid ((r.ws ++ [drvW (getW r h t) r.nw rights 0]).length = L) := hL
  clear hL
  have hs5 : w.heap.size ≤ w6.heap.size := bl6.size
  have hlow5 := BZ6.1
  refine (enc_at aw at_ ah an cw ct ch cn r x h t rights _ (hr.below bl6) hz he L HL.out).mono ?_
  rintro e w7 ⟨e0, e1, e2, e3, f0, f1, f2, f3, rfl, hO, hb7⟩
  have sz7 : w6.heap.size ≤ w7.heap.size := hb7.size
  have BR7 := BR6.below hb7
  have BP7 := BP6.below hb7
  have BZ7 := BZ6.below hb7
  have BX7 := BX6.below hb7
  have BN7 := BN6.below hb7
  have BO7 := BO6.below hb7
  have bl7 := Below_after bl6 hb7
  clear BR6 BP6 BZ6 BX6 BN6 BO6 bl6
  have lw7 := BZ7.1
  replace tag := tag.below hb7
  obtain ⟨cR0, cR1, cR2, cR3, cR4, cR5⟩ := BR7.c6
  have zR := BR7.1
  obtain ⟨cP0, cP1⟩ := BP7.c2
  have zP := BP7.1
  obtain ⟨cZ0, cZ1, cZ2, cZ3, cZ4, cZ5⟩ := BZ7.c6
  have zZ := BZ7.1
  obtain ⟨cX0, cX1, cX2, cX3, cX4⟩ := BX7.c5
  have zX := BX7.1
  obtain ⟨cN0, fN0, cN1, fN1, cN2, fN2, cN3, fN3⟩ := BN7.cf4
  have zN := BN7.1
  obtain ⟨cO0, fO0, cO1, fO1, cO2, fO2, cO3, fO3, cO4, fO4, cO5, fO5⟩ := BO7.cf6
  have zO := BO7.1
  have hN1 : w3.heap.size < w7.heap.size := BN7.1
  have hON : ¬ w5.heap.size = w3.heap.size := by omega
  have hO4 := ((((((hO.setTag tag 0 (.slice e0 L f0)).setTag (tag.set 0 (.slice e0 L f0)) 1 (.slice e1 r.ts.length f1)).setTag ((tag.set 0 (.slice e0 L f0)).set 1 (.slice e1 r.ts.length f1)) 2 (.slice e2 r.hs.length f2)).setTag (((tag.set 0 (.slice e0 L f0)).set 1 (.slice e1 r.ts.length f1)).set 2 (.slice e2 r.hs.length f2)) 3 (.slice e3 r.ns.length f3)).setTag ((((tag.set 0 (.slice e0 L f0)).set 1 (.slice e1 r.ts.length f1)).set 2 (.slice e2 r.hs.length f2)).set 3 (.slice e3 r.ns.length f3)) 4 (.int .i64 (r.nw + 1))).setTag (((((tag.set 0 (.slice e0 L f0)).set 1 (.slice e1 r.ts.length f1)).set 2 (.slice e2 r.hs.length f2)).set 3 (.slice e3 r.ns.length f3)).set 4 (.int .i64 (r.nw + 1))) 5 (.int .i64 r.nt))
  have tag4 := ((((((tag.set 0 (.slice e0 L f0)).set 1 (.slice e1 r.ts.length f1)).set 2 (.slice e2 r.hs.length f2)).set 3 (.slice e3 r.ns.length f3)).set 4 (.int .i64 (r.nw + 1))).set 5 (.int .i64 r.nt))
  have hO4' := hO4.setLow (b := w3.heap.size) (by omega) 3 (.int .i64 r.nw)
  have tag4' : RTag (((((((w7.setCell ⟨w5.heap.size, 0, none⟩ (.slice e0 L f0)).setCell ⟨w5.heap.size, 1, none⟩ (.slice e1 r.ts.length f1)).setCell ⟨w5.heap.size, 2, none⟩ (.slice e2 r.hs.length f2)).setCell ⟨w5.heap.size, 3, none⟩ (.slice e3 r.ns.length f3)).setCell ⟨w5.heap.size, 4, none⟩ (.int .i64 (r.nw + 1))).setCell ⟨w5.heap.size, 5, none⟩ (.int .i64 r.nt)).setCell ⟨w3.heap.size, 3, none⟩ (.int .i64 r.nw)) (w5.heap.size) := by
    obtain ⟨cur, hcur⟩ := tag4
    exact ⟨cur, by rw [Below.heap_setCell _ _ _ _ hON]; exact hcur⟩
  have hO5 := hO4'.below ((Below.refl _ _).alloc (Nat.le_refl _) (.cells #[.int .i64 x.thing, .string d, .int .i64 x.badge, .int .i64 r.nw] 52))
  have tag5 := tag4'.below ((Below.refl _ _).alloc (Nat.le_refl _) (.cells #[.int .i64 x.thing, .string d, .int .i64 x.badge, .int .i64 r.nw] 52))
  have HO5 : Hid (OwnsR _ _ _ _ _ _ _) := hO5
  have HT5 : Hid (RTag _ _) := tag5
  clear hO5 tag5 hO hO4 hO4' tag4 tag4' tag
  go_wp2_with (at_builtin; refine wpList_append_own _ rfl _ _ 28 rfl w6.heap.size 52 i0 (.agg #[.int .i64 0, .string ByteArray.empty, .int .i64 0, .int .i64 0]) 4 40 Tryz.underlying28 hi hi0 hi1 hi2 rfl (by decide) _ _ _ rfl HO5.out.rn _ 1 1 [.int .i64 x.thing, .string d, .int .i64 x.badge, .int .i64 r.nw] rfl rfl (new4g _ _ (by simp) _ _ _ _ _) (ncell_one ⟨x.thing, d, x.badge, r.nw⟩) ?c3 ?c4 ?c5 ?_)
  case c3 => have := hz.n; (try simp only [addR]); unfold maxLen; omega
  case c4 => have := hz.n; (try simp only [addR]); omega
  case c5 => (simp; try omega)
  intro v3' wA hownA' hgrow _
  clear cR0 cR1 cR2 cR3 cR4 cR5 zR cP0 cP1 zP cZ0 cZ1 cZ2 cZ3 cZ4 cZ5 zZ cX0 cX1 cX2 cX3 cX4 zX cN0 fN0 cN1 fN1 cN2 fN2 cN3 fN3 zN cO0 fO0 cO1 fO1 cO2 fO2 cO3 fO3 cO4 fO4 cO5 fO5 zO
  have BR8 := BR7.other (b' := w5.heap.size) (by first | omega | (have := BO7.1; have := BR7.1; omega)) 0 (.slice e0 L f0)
  have BP8 := BP7.other (b' := w5.heap.size) (by first | omega | (have := BO7.1; have := BP7.1; omega)) 0 (.slice e0 L f0)
  have BZ8 := BZ7.other (b' := w5.heap.size) (by first | omega | (have := BO7.1; have := BZ7.1; omega)) 0 (.slice e0 L f0)
  have BX8 := BX7.other (b' := w5.heap.size) (by first | omega | (have := BO7.1; have := BX7.1; omega)) 0 (.slice e0 L f0)
  have BN8 := BN7.other (b' := w5.heap.size) (by first | omega | (have := BO7.1; have := BN7.1; omega)) 0 (.slice e0 L f0)
  have BO8 := BO7.set 0 (.slice e0 L f0)
  simp only [List.set_cons_zero, List.set_cons_succ] at BO8
  have bl8 := bl7.setCell (p := ⟨w5.heap.size, 0, none⟩) (by show w.heap.size ≤ w5.heap.size; omega) (.slice e0 L f0)
  clear BR7 BP7 BZ7 BX7 BN7 BO7 bl7
  have BR9 := BR8.other (b' := w5.heap.size) (by first | omega | (have := BO8.1; have := BR8.1; omega)) 1 (.slice e1 r.ts.length f1)
  have BP9 := BP8.other (b' := w5.heap.size) (by first | omega | (have := BO8.1; have := BP8.1; omega)) 1 (.slice e1 r.ts.length f1)
  have BZ9 := BZ8.other (b' := w5.heap.size) (by first | omega | (have := BO8.1; have := BZ8.1; omega)) 1 (.slice e1 r.ts.length f1)
  have BX9 := BX8.other (b' := w5.heap.size) (by first | omega | (have := BO8.1; have := BX8.1; omega)) 1 (.slice e1 r.ts.length f1)
  have BN9 := BN8.other (b' := w5.heap.size) (by first | omega | (have := BO8.1; have := BN8.1; omega)) 1 (.slice e1 r.ts.length f1)
  have BO9 := BO8.set 1 (.slice e1 r.ts.length f1)
  simp only [List.set_cons_zero, List.set_cons_succ] at BO9
  have bl9 := bl8.setCell (p := ⟨w5.heap.size, 1, none⟩) (by show w.heap.size ≤ w5.heap.size; omega) (.slice e1 r.ts.length f1)
  clear BR8 BP8 BZ8 BX8 BN8 BO8 bl8
  have BR10 := BR9.other (b' := w5.heap.size) (by first | omega | (have := BO9.1; have := BR9.1; omega)) 2 (.slice e2 r.hs.length f2)
  have BP10 := BP9.other (b' := w5.heap.size) (by first | omega | (have := BO9.1; have := BP9.1; omega)) 2 (.slice e2 r.hs.length f2)
  have BZ10 := BZ9.other (b' := w5.heap.size) (by first | omega | (have := BO9.1; have := BZ9.1; omega)) 2 (.slice e2 r.hs.length f2)
  have BX10 := BX9.other (b' := w5.heap.size) (by first | omega | (have := BO9.1; have := BX9.1; omega)) 2 (.slice e2 r.hs.length f2)
  have BN10 := BN9.other (b' := w5.heap.size) (by first | omega | (have := BO9.1; have := BN9.1; omega)) 2 (.slice e2 r.hs.length f2)
  have BO10 := BO9.set 2 (.slice e2 r.hs.length f2)
  simp only [List.set_cons_zero, List.set_cons_succ] at BO10
  have bl10 := bl9.setCell (p := ⟨w5.heap.size, 2, none⟩) (by show w.heap.size ≤ w5.heap.size; omega) (.slice e2 r.hs.length f2)
  clear BR9 BP9 BZ9 BX9 BN9 BO9 bl9
  have BR11 := BR10.other (b' := w5.heap.size) (by first | omega | (have := BO10.1; have := BR10.1; omega)) 3 (.slice e3 r.ns.length f3)
  have BP11 := BP10.other (b' := w5.heap.size) (by first | omega | (have := BO10.1; have := BP10.1; omega)) 3 (.slice e3 r.ns.length f3)
  have BZ11 := BZ10.other (b' := w5.heap.size) (by first | omega | (have := BO10.1; have := BZ10.1; omega)) 3 (.slice e3 r.ns.length f3)
  have BX11 := BX10.other (b' := w5.heap.size) (by first | omega | (have := BO10.1; have := BX10.1; omega)) 3 (.slice e3 r.ns.length f3)
  have BN11 := BN10.other (b' := w5.heap.size) (by first | omega | (have := BO10.1; have := BN10.1; omega)) 3 (.slice e3 r.ns.length f3)
  have BO11 := BO10.set 3 (.slice e3 r.ns.length f3)
  simp only [List.set_cons_zero, List.set_cons_succ] at BO11
  have bl11 := bl10.setCell (p := ⟨w5.heap.size, 3, none⟩) (by show w.heap.size ≤ w5.heap.size; omega) (.slice e3 r.ns.length f3)
  clear BR10 BP10 BZ10 BX10 BN10 BO10 bl10
  have BR12 := BR11.other (b' := w5.heap.size) (by first | omega | (have := BO11.1; have := BR11.1; omega)) 4 (.int .i64 (r.nw + 1))
  have BP12 := BP11.other (b' := w5.heap.size) (by first | omega | (have := BO11.1; have := BP11.1; omega)) 4 (.int .i64 (r.nw + 1))
  have BZ12 := BZ11.other (b' := w5.heap.size) (by first | omega | (have := BO11.1; have := BZ11.1; omega)) 4 (.int .i64 (r.nw + 1))
  have BX12 := BX11.other (b' := w5.heap.size) (by first | omega | (have := BO11.1; have := BX11.1; omega)) 4 (.int .i64 (r.nw + 1))
  have BN12 := BN11.other (b' := w5.heap.size) (by first | omega | (have := BO11.1; have := BN11.1; omega)) 4 (.int .i64 (r.nw + 1))
  have BO12 := BO11.set 4 (.int .i64 (r.nw + 1))
  simp only [List.set_cons_zero, List.set_cons_succ] at BO12
  have bl12 := bl11.setCell (p := ⟨w5.heap.size, 4, none⟩) (by show w.heap.size ≤ w5.heap.size; omega) (.int .i64 (r.nw + 1))
  clear BR11 BP11 BZ11 BX11 BN11 BO11 bl11
  have BR13 := BR12.other (b' := w5.heap.size) (by first | omega | (have := BO12.1; have := BR12.1; omega)) 5 (.int .i64 r.nt)
  have BP13 := BP12.other (b' := w5.heap.size) (by first | omega | (have := BO12.1; have := BP12.1; omega)) 5 (.int .i64 r.nt)
  have BZ13 := BZ12.other (b' := w5.heap.size) (by first | omega | (have := BO12.1; have := BZ12.1; omega)) 5 (.int .i64 r.nt)
  have BX13 := BX12.other (b' := w5.heap.size) (by first | omega | (have := BO12.1; have := BX12.1; omega)) 5 (.int .i64 r.nt)
  have BN13 := BN12.other (b' := w5.heap.size) (by first | omega | (have := BO12.1; have := BN12.1; omega)) 5 (.int .i64 r.nt)
  have BO13 := BO12.set 5 (.int .i64 r.nt)
  simp only [List.set_cons_zero, List.set_cons_succ] at BO13
  have bl13 := bl12.setCell (p := ⟨w5.heap.size, 5, none⟩) (by show w.heap.size ≤ w5.heap.size; omega) (.int .i64 r.nt)
  clear BR12 BP12 BZ12 BX12 BN12 BO12 bl12
  have BR14 := BR13.other (b' := w3.heap.size) (by first | omega | (have := BN13.1; have := BR13.1; omega)) 3 (.int .i64 r.nw)
  have BP14 := BP13.other (b' := w3.heap.size) (by first | omega | (have := BN13.1; have := BP13.1; omega)) 3 (.int .i64 r.nw)
  have BZ14 := BZ13.other (b' := w3.heap.size) (by first | omega | (have := BN13.1; have := BZ13.1; omega)) 3 (.int .i64 r.nw)
  have BX14 := BX13.other (b' := w3.heap.size) (by first | omega | (have := BN13.1; have := BX13.1; omega)) 3 (.int .i64 r.nw)
  have BN14 := BN13.set 3 (.int .i64 r.nw)
  simp only [List.set_cons_zero, List.set_cons_succ] at BN14
  have BO14 := BO13.other (b' := w3.heap.size) (by first | omega | (have := BN13.1; have := BO13.1; omega)) 3 (.int .i64 r.nw)
  have bl14 := bl13.setCell (p := ⟨w3.heap.size, 3, none⟩) (by show w.heap.size ≤ w3.heap.size; omega) (.int .i64 r.nw)
  clear BR13 BP13 BZ13 BX13 BN13 BO13 bl13
  have BR15 := BR14.alloc (.cells #[.int .i64 x.thing, .string d, .int .i64 x.badge, .int .i64 r.nw] 52)
  have BP15 := BP14.alloc (.cells #[.int .i64 x.thing, .string d, .int .i64 x.badge, .int .i64 r.nw] 52)
  have BZ15 := BZ14.alloc (.cells #[.int .i64 x.thing, .string d, .int .i64 x.badge, .int .i64 r.nw] 52)
  have BX15 := BX14.alloc (.cells #[.int .i64 x.thing, .string d, .int .i64 x.badge, .int .i64 r.nw] 52)
  have BN15 := BN14.alloc (.cells #[.int .i64 x.thing, .string d, .int .i64 x.badge, .int .i64 r.nw] 52)
  have BO15 := BO14.alloc (.cells #[.int .i64 x.thing, .string d, .int .i64 x.badge, .int .i64 r.nw] 52)
  have bl15 := bl14.alloc bl14.size (.cells #[.int .i64 x.thing, .string d, .int .i64 x.badge, .int .i64 r.nw] 52)
  have BS15 := Bx.new (((((((w7.setCell ⟨w5.heap.size, 0, none⟩ (.slice e0 L f0)).setCell ⟨w5.heap.size, 1, none⟩ (.slice e1 r.ts.length f1)).setCell ⟨w5.heap.size, 2, none⟩ (.slice e2 r.hs.length f2)).setCell ⟨w5.heap.size, 3, none⟩ (.slice e3 r.ns.length f3)).setCell ⟨w5.heap.size, 4, none⟩ (.int .i64 (r.nw + 1))).setCell ⟨w5.heap.size, 5, none⟩ (.int .i64 r.nt)).setCell ⟨w3.heap.size, 3, none⟩ (.int .i64 r.nw)) [.int .i64 x.thing, .string d, .int .i64 x.badge, .int .i64 r.nw] 52
  rw [show (((((((w7.setCell ⟨w5.heap.size, 0, none⟩ (.slice e0 L f0)).setCell ⟨w5.heap.size, 1, none⟩ (.slice e1 r.ts.length f1)).setCell ⟨w5.heap.size, 2, none⟩ (.slice e2 r.hs.length f2)).setCell ⟨w5.heap.size, 3, none⟩ (.slice e3 r.ns.length f3)).setCell ⟨w5.heap.size, 4, none⟩ (.int .i64 (r.nw + 1))).setCell ⟨w5.heap.size, 5, none⟩ (.int .i64 r.nt)).setCell ⟨w3.heap.size, 3, none⟩ (.int .i64 r.nw)).heap.size = w7.heap.size by simp] at BS15
  clear BR14 BP14 BZ14 BX14 BN14 BO14 bl14
  clear hs1 hlow
  have hs1 := hs5
  have hlow := hlow5
  have hne := own_ne_tag HO5.out.rn HT5.out (by decide)
  have hneZ := ownBlock_ne HO5.out.rn hlow
  have BO20 := BO15.grown hgrow hne.symm
  have BZ20 := BZ15.grown hgrow hneZ.symm
  have tag6 := HT5.out.grown hgrow hne.symm
  have bl20 := bl15.grown hgrow bl15.size (fun k hk => by have := (HO5.out.rn.lt k hk).1; omega)
  have hO6 := HO5.out.grow3 (x := ⟨x.thing, d, x.badge, r.nw⟩) hgrow hownA'
  clear hgrow hownA' HO5 HT5 hne hneZ bl15 BR15 BP15 BZ15 BX15 BN15 BO15 BS15
  obtain ⟨b3', d3', hv, -, -⟩ := nrow_at hO6.rn
  obtain ⟨T, hT⟩ : ∃ T, T = (r.ns ++ [(⟨x.thing, d, x.badge, r.nw⟩ : Nt)]).length := ⟨_, rfl⟩
  have hv' : v3' = .slice b3' T d3' := by subst hT; exact hv
  subst hv'
  clear hv hT
  have HO6 : Hid (OwnsR _ _ _ _ _ _ _) := hO6
  have HT6 : Hid (RTag _ _) := tag6
  clear hO6 tag6
  obtain ⟨cO0, fO0, cO1, fO1, cO2, fO2, cO3, fO3, cO4, fO4, cO5, fO5⟩ := BO20.cf6
  have zO := BO20.1
  obtain ⟨cZ0, fZ0, cZ1, fZ1, cZ2, fZ2, cZ3, fZ3, cZ4, fZ4, cZ5, fZ5⟩ := BZ20.cf6
  have zZ := BZ20.1
  go_wp2_with fail
  clear cO0 fO0 cO1 fO1 cO2 fO2 cO3 fO3 cO4 fO4 cO5 fO5 zO cZ0 fZ0 cZ1 fZ1 cZ2 fZ2 cZ3 fZ3 cZ4 fZ4 cZ5 fZ5 zZ
  have BO21 := BO20.set 3 (.slice b3' T d3')
  simp only [List.set_cons_zero, List.set_cons_succ] at BO21
  have BZ21 := BZ20.other (b' := w5.heap.size) (by first | omega | (have := BO20.1; have := BZ20.1; omega)) 3 (.slice b3' T d3')
  have bl21 := bl20.setCell (p := ⟨w5.heap.size, 3, none⟩) (by show w.heap.size ≤ w5.heap.size; omega) (.slice b3' T d3')
  clear BO20 BZ20 bl20
  have hO8 := HO6.out.setTag HT6.out 3 (.slice b3' T d3')
  obtain ⟨y0, y1, y2, y3, y4, y5⟩ := (BZ21.put6 (.slice e0 L f0) (.slice e1 r.ts.length f1) (.slice e2 r.hs.length f2) (.slice b3' T d3') (.int .i64 (r.nw + 1)) (.int .i64 r.nt)).six
  have blF := (below_set6 bl21 (b := w.heap.size + 1 + 1) (by omega) (.slice e0 L f0) (.slice e1 r.ts.length f1) (.slice e2 r.hs.length f2) (.slice b3' T d3') (.int .i64 (r.nw + 1)) (.int .i64 r.nt))
  refine bodyPost_ret (v := .tuple #[.agg #[.slice e0 L f0, .slice e1 r.ts.length f1, .slice e2 r.hs.length f2, .slice b3' T d3', .int .i64 (r.nw + 1), .int .i64 r.nt], .nilIface]) (by simp [results, Tryz.results53, go_sem, y0, y1, y2, y3, y4, y5]) rfl ?_
  exact ⟨_, _, _, _, rfl, by unfold sendR; rw [if_neg (by omega), Hx.out]; exact (hO8.set6 (by omega) _ _ _ _ _ _).mono hs1, blF⟩
end Go.Proofs.YtddgpgldbekamaaGreat
