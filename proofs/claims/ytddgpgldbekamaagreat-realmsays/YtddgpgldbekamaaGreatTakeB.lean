/- realm.Take (E9), as the landed code has it. -/
import Derived.Test.YtddgpgldbekamaaGreatAllPure
import Derived.Test.YtddgpgldbekamaaGreatBox
import Derived.Test.YtddgpgldbekamaaGreatTakeW
set_option linter.unusedSimpArgs false
set_option linter.unnecessarySimpa false
set_option linter.unusedVariables false
namespace Go.Proofs.YtddgpgldbekamaaGreat
open Go.RowKit


theorem takes_any (x : Wr) (b0 : Nat) (w : World) (hc : w.cell? ⟨b0, 1, none⟩ = some (.int .i64 x.thing)) (hlt : b0 < w.heap.size) : Predn w 33 #[.pointer (some ⟨b0, 0, none⟩)] (atPort x.thing) := by
  intro n W hb
  have q : W.cell? ⟨b0, 1, none⟩ = some (.int .i64 x.thing) := by rw [(bcell hb).1 _ _ hlt]; exact hc
  have hlt' : b0 < W.heap.size := Nat.lt_of_lt_of_le hlt hb.size
  show Calls Tryz.prog 33 #[.agg #[.int .i64 n.port, .string n.data, .int .i64 n.badge, .int .i64 n.writ], .pointer (some ⟨b0, 0, none⟩)] W _
  go_enter Tryz.func33, Tryz.ntmps33
  go_wp2
  go_ret
  exact ⟨rfl, (Below.refl _ _).alloc (Nat.le_refl _) _⟩
@[reducible] def STv (o n : Nat) (v0 v1 v2 v3 v4 v5 n0 n1 n2 n3 : Value) (w : World) : Prop :=
  w.cell? ⟨o, 0, none⟩ = some v0 ∧ w.cell? ⟨o, 1, none⟩ = some v1 ∧ w.cell? ⟨o, 2, none⟩ = some v2 ∧ w.cell? ⟨o, 3, none⟩ = some v3 ∧ w.cell? ⟨o, 4, none⟩ = some v4 ∧ w.cell? ⟨o, 5, none⟩ = some v5 ∧
  w.cell? ⟨n, 0, none⟩ = some n0 ∧ w.cell? ⟨n, 1, none⟩ = some n1 ∧ w.cell? ⟨n, 2, none⟩ = some n2 ∧ w.cell? ⟨n, 3, none⟩ = some n3
theorem STv_of {o n : Nat} {v0 v1 v2 v3 v4 v5 n0 n1 n2 n3 : Value} {w : World} (h : Bx w o [v0, v1, v2, v3, v4, v5]) (k : Bx w n [n0, n1, n2, n3]) : STv o n v0 v1 v2 v3 v4 v5 n0 n1 n2 n3 w :=
  ⟨(h.2 0 _ rfl).1, (h.2 1 _ rfl).1, (h.2 2 _ rfl).1, (h.2 3 _ rfl).1, (h.2 4 _ rfl).1, (h.2 5 _ rfl).1, (k.2 0 _ rfl).1, (k.2 1 _ rfl).1, (k.2 2 _ rfl).1, (k.2 3 _ rfl).1⟩
theorem OwnsR.cut3 {w w' : World} {base : Nat} {v0 v1 v2 v3 v3' : Value} {r : Rm} {l : List Nt} (h : OwnsR w base v0 v1 v2 v3 r) (hg : w.grownBy w' v3.ownBlock) (ho : w'.ownsRow base 52 4 v3' l.length (l.flatMap ncells)) :
    OwnsR w' base v0 v1 v2 v3' ⟨r.ws, r.ts, r.hs, l, r.nw, r.nt⟩ :=
  OwnsR.of4 (Dist.kept h.rw_ hg h.d03) (Dist.kept h.rt hg h.d13) (Dist.kept h.rh hg h.d23) ho
theorem OwnsR.setLow4 {w : World} {base : Nat} {v0 v1 v2 v3 : Value} {r : Rm} (h : OwnsR w base v0 v1 v2 v3 r) {b : Nat} (hb : b < base) (x0 x1 x2 x3 : Value) :
    OwnsR ((((w.setCell ⟨b, 0, none⟩ x0).setCell ⟨b, 1, none⟩ x1).setCell ⟨b, 2, none⟩ x2).setCell ⟨b, 3, none⟩ x3) base v0 v1 v2 v3 r := (((h.setLow hb 0 x0).setLow hb 1 x1).setLow hb 2 x2).setLow hb 3 x3
set_option maxHeartbeats 2000000 in
set_option maxRecDepth 100000 in
theorem take_who (aw at_ ah an : Option Addr) (cw ct ch cn : Nat) (r : Rm) (h s : Int) (w : World) (hr : RmAt w aw at_ ah an cw ct ch cn r) (hz : RmSz r) (hc : whoC r h s 2 1 ≠ 0) :
    Calls Tryz.prog 13 #[.agg #[.slice aw r.ws.length cw, .slice at_ r.ts.length ct, .slice ah r.hs.length ch, .slice an r.ns.length cn, .int .i64 r.nw, .int .i64 r.nt], .agg #[.int .i64 h, .int .i64 s]] w fun e w' => e = .returned (.tuple #[.agg #[.slice none 0 0, .slice none 0 0, .slice none 0 0, .slice none 0 0, .int .i64 0, .int .i64 0], .agg #[.int .i64 0, .string ⟨#[]⟩, .int .i64 0, .int .i64 0], .int .i64 0, .iface 69 (.int .i64 (whoC r h s 2 1))]) ∧ Below w.heap.size w w' := by
  have BR0 := Bx.new w [.slice aw r.ws.length cw, .slice at_ r.ts.length ct, .slice ah r.hs.length ch, .slice an r.ns.length cn, .int .i64 r.nw, .int .i64 r.nt] 30
  replace BR0 := BR0.alloc (.cells #[.int .i64 h, .int .i64 s] 33)
  replace BR0 := BR0.alloc (.cells #[.slice none 0 0, .slice none 0 0, .slice none 0 0, .slice none 0 0, .int .i64 0, .int .i64 0] 30)
  replace BR0 := BR0.alloc (.cells #[.int .i64 0, .string ⟨#[]⟩, .int .i64 0, .int .i64 0] 52)
  have BP0 := Bx.new (w.alloc (.cells #[.slice aw r.ws.length cw, .slice at_ r.ts.length ct, .slice ah r.hs.length ch, .slice an r.ns.length cn, .int .i64 r.nw, .int .i64 r.nt] 30)) [.int .i64 h, .int .i64 s] 33
  rw [sz_alloc] at BP0
  replace BP0 := BP0.alloc (.cells #[.slice none 0 0, .slice none 0 0, .slice none 0 0, .slice none 0 0, .int .i64 0, .int .i64 0] 30)
  replace BP0 := BP0.alloc (.cells #[.int .i64 0, .string ⟨#[]⟩, .int .i64 0, .int .i64 0] 52)
  have BZ0 := Bx.new ((w.alloc (.cells #[.slice aw r.ws.length cw, .slice at_ r.ts.length ct, .slice ah r.hs.length ch, .slice an r.ns.length cn, .int .i64 r.nw, .int .i64 r.nt] 30)).alloc (.cells #[.int .i64 h, .int .i64 s] 33)) [.slice none 0 0, .slice none 0 0, .slice none 0 0, .slice none 0 0, .int .i64 0, .int .i64 0] 30
  rw [sz_alloc, sz_alloc] at BZ0
  replace BZ0 := BZ0.alloc (.cells #[.int .i64 0, .string ⟨#[]⟩, .int .i64 0, .int .i64 0] 52)
  have BY0 := Bx.new (((w.alloc (.cells #[.slice aw r.ws.length cw, .slice at_ r.ts.length ct, .slice ah r.hs.length ch, .slice an r.ns.length cn, .int .i64 r.nw, .int .i64 r.nt] 30)).alloc (.cells #[.int .i64 h, .int .i64 s] 33)).alloc (.cells #[.slice none 0 0, .slice none 0 0, .slice none 0 0, .slice none 0 0, .int .i64 0, .int .i64 0] 30)) [.int .i64 0, .string ⟨#[]⟩, .int .i64 0, .int .i64 0] 52
  rw [sz_alloc, sz_alloc, sz_alloc] at BY0
  have bl0 := ((((Below.refl w.heap.size w).alloc (by first | exact Nat.le_refl _ | (simp <;> omega)) (.cells #[.slice aw r.ws.length cw, .slice at_ r.ts.length ct, .slice ah r.hs.length ch, .slice an r.ns.length cn, .int .i64 r.nw, .int .i64 r.nt] 30)).alloc (by first | exact Nat.le_refl _ | (simp <;> omega)) (.cells #[.int .i64 h, .int .i64 s] 33)).alloc (by first | exact Nat.le_refl _ | (simp <;> omega)) (.cells #[.slice none 0 0, .slice none 0 0, .slice none 0 0, .slice none 0 0, .int .i64 0, .int .i64 0] 30)).alloc (by first | exact Nat.le_refl _ | (simp <;> omega)) (.cells #[.int .i64 0, .string ⟨#[]⟩, .int .i64 0, .int .i64 0] 52)
  go_enter Tryz.func13, Tryz.ntmps13
  go_wp2_with fail
  refine (who_err aw at_ ah an cw ct ch cn r h s 2 1 _ (hr.below bl0) hz hc).mono ?_
  rintro e w1 ⟨rfl, hb1⟩
  have BR1 := BR0.below hb1
  have BP1 := BP0.below hb1
  have BZ1 := BZ0.below hb1
  have BY1 := BY0.below hb1
  have bl1 := Below_after bl0 hb1
  clear BR0 BP0 BZ0 BY0 bl0
  have lw1 := BY1.1
  generalize hD' : whoC r h s 2 1 = D at *
  have HD : Hid (whoC r h s 2 1 = D) := hD'
  clear hD'
  obtain ⟨cR0, cR1, cR2, cR3, cR4, cR5⟩ := BR1.c6
  have zR := BR1.1
  obtain ⟨cP0, cP1⟩ := BP1.c2
  have zP := BP1.1
  obtain ⟨cZ0, fZ0, cZ1, fZ1, cZ2, fZ2, cZ3, fZ3, cZ4, fZ4, cZ5, fZ5⟩ := BZ1.cf6
  have zZ := BZ1.1
  obtain ⟨cY0, fY0, cY1, fY1, cY2, fY2, cY3, fY3⟩ := BY1.cf4
  have zY := BY1.1
  go_wp2_with fail
  obtain ⟨y0, y1, y2, y3, y4, y5⟩ := (((BZ1.put6 (.slice none 0 0) (.slice none 0 0) (.slice none 0 0) (.slice none 0 0) (.int .i64 0) (.int .i64 0)).past4 (b' := w.heap.size + 1 + 1 + 1) (by omega) (.int .i64 0) (.string ⟨#[]⟩) (.int .i64 0) (.int .i64 0)).alloc (.cells #[.int .i64 0, .int .i64 0, .int .i64 0, .int .i64 0, .int .i64 0] 39)).six
  obtain ⟨u0, u1, u2, u3⟩ := (((BY1.past6 (b' := w.heap.size + 1 + 1) (by omega) (.slice none 0 0) (.slice none 0 0) (.slice none 0 0) (.slice none 0 0) (.int .i64 0) (.int .i64 0)).put4 (.int .i64 0) (.string ⟨#[]⟩) (.int .i64 0) (.int .i64 0)).alloc (.cells #[.int .i64 0, .int .i64 0, .int .i64 0, .int .i64 0, .int .i64 0] 39)).four
  have blF := ((below_set4 (below_set6 bl1 (b := w.heap.size + 1 + 1) (by omega) (.slice none 0 0) (.slice none 0 0) (.slice none 0 0) (.slice none 0 0) (.int .i64 0) (.int .i64 0)) (b := w.heap.size + 1 + 1 + 1) (by omega) (.int .i64 0) (.string ⟨#[]⟩) (.int .i64 0) (.int .i64 0)).alloc (below_set4 (below_set6 bl1 (b := w.heap.size + 1 + 1) (by omega) (.slice none 0 0) (.slice none 0 0) (.slice none 0 0) (.slice none 0 0) (.int .i64 0) (.int .i64 0)) (b := w.heap.size + 1 + 1 + 1) (by omega) (.int .i64 0) (.string ⟨#[]⟩) (.int .i64 0) (.int .i64 0)).size (.cells #[.int .i64 0, .int .i64 0, .int .i64 0, .int .i64 0, .int .i64 0] 39))
  generalize hgF : (((((((((((w1.setCell ⟨w.heap.size + 1 + 1, 0, none⟩ (.slice none 0 0)).setCell ⟨w.heap.size + 1 + 1, 1, none⟩ (.slice none 0 0)).setCell ⟨w.heap.size + 1 + 1, 2, none⟩ (.slice none 0 0)).setCell ⟨w.heap.size + 1 + 1, 3, none⟩ (.slice none 0 0)).setCell ⟨w.heap.size + 1 + 1, 4, none⟩ (.int .i64 0)).setCell ⟨w.heap.size + 1 + 1, 5, none⟩ (.int .i64 0)).setCell ⟨w.heap.size + 1 + 1 + 1, 0, none⟩ (.int .i64 0)).setCell ⟨w.heap.size + 1 + 1 + 1, 1, none⟩ (.string ⟨#[]⟩)).setCell ⟨w.heap.size + 1 + 1 + 1, 2, none⟩ (.int .i64 0)).setCell ⟨w.heap.size + 1 + 1 + 1, 3, none⟩ (.int .i64 0)).alloc (.cells #[.int .i64 0, .int .i64 0, .int .i64 0, .int .i64 0, .int .i64 0] 39)) = WF at y0 y1 y2 y3 y4 y5 u0 u1 u2 u3 blF  ⊢
  clear hgF
  refine bodyPost_ret (v := .tuple #[.agg #[.slice none 0 0, .slice none 0 0, .slice none 0 0, .slice none 0 0, .int .i64 0, .int .i64 0], .agg #[.int .i64 0, .string ⟨#[]⟩, .int .i64 0, .int .i64 0], .int .i64 0, .iface 69 (.int .i64 D)]) (by simp [results, Tryz.results13, go_sem, y0, y1, y2, y3, y4, y5, u0, u1, u2, u3]) rfl ?_
  exact ⟨by rw [HD.out], blF⟩
set_option maxHeartbeats 2000000 in
set_option maxRecDepth 100000 in
theorem take_none (aw at_ ah an : Option Addr) (cw ct ch cn : Nat) (r : Rm) (h s : Int) (w : World) (hr : RmAt w aw at_ ah an cw ct ch cn r) (hz : RmSz r) (hc : whoC r h s 2 1 = 0) (hi : idx (atPort (getW r h s).thing) r.ns = -1) :
    Calls Tryz.prog 13 #[.agg #[.slice aw r.ws.length cw, .slice at_ r.ts.length ct, .slice ah r.hs.length ch, .slice an r.ns.length cn, .int .i64 r.nw, .int .i64 r.nt], .agg #[.int .i64 h, .int .i64 s]] w fun e w' => e = .returned (.tuple #[.agg #[.slice none 0 0, .slice none 0 0, .slice none 0 0, .slice none 0 0, .int .i64 0, .int .i64 0], .agg #[.int .i64 0, .string ⟨#[]⟩, .int .i64 0, .int .i64 0], .int .i64 0, .iface 69 (.int .i64 5)]) ∧ Below w.heap.size w w' := by
  have hmf : ∀ (fn : Fn) (first cap : Array Value) (w : World), (Instr.makeFunc fn first cap).run Tryz.prog w = .ok (.func fn first cap) w := fun _ _ _ _ => rfl
  have eg : ∀ args w, (callFunc 33 args).run Tryz.prog w = .ok (.enter 33 args) w := enters_of Tryz.func33 (by kernel_rfl) rfl
  have mn := hz.n
  have BR0 := Bx.new w [.slice aw r.ws.length cw, .slice at_ r.ts.length ct, .slice ah r.hs.length ch, .slice an r.ns.length cn, .int .i64 r.nw, .int .i64 r.nt] 30
  replace BR0 := BR0.alloc (.cells #[.int .i64 h, .int .i64 s] 33)
  replace BR0 := BR0.alloc (.cells #[.slice none 0 0, .slice none 0 0, .slice none 0 0, .slice none 0 0, .int .i64 0, .int .i64 0] 30)
  replace BR0 := BR0.alloc (.cells #[.int .i64 0, .string ⟨#[]⟩, .int .i64 0, .int .i64 0] 52)
  have BP0 := Bx.new (w.alloc (.cells #[.slice aw r.ws.length cw, .slice at_ r.ts.length ct, .slice ah r.hs.length ch, .slice an r.ns.length cn, .int .i64 r.nw, .int .i64 r.nt] 30)) [.int .i64 h, .int .i64 s] 33
  rw [sz_alloc] at BP0
  replace BP0 := BP0.alloc (.cells #[.slice none 0 0, .slice none 0 0, .slice none 0 0, .slice none 0 0, .int .i64 0, .int .i64 0] 30)
  replace BP0 := BP0.alloc (.cells #[.int .i64 0, .string ⟨#[]⟩, .int .i64 0, .int .i64 0] 52)
  have BZ0 := Bx.new ((w.alloc (.cells #[.slice aw r.ws.length cw, .slice at_ r.ts.length ct, .slice ah r.hs.length ch, .slice an r.ns.length cn, .int .i64 r.nw, .int .i64 r.nt] 30)).alloc (.cells #[.int .i64 h, .int .i64 s] 33)) [.slice none 0 0, .slice none 0 0, .slice none 0 0, .slice none 0 0, .int .i64 0, .int .i64 0] 30
  rw [sz_alloc, sz_alloc] at BZ0
  replace BZ0 := BZ0.alloc (.cells #[.int .i64 0, .string ⟨#[]⟩, .int .i64 0, .int .i64 0] 52)
  have BY0 := Bx.new (((w.alloc (.cells #[.slice aw r.ws.length cw, .slice at_ r.ts.length ct, .slice ah r.hs.length ch, .slice an r.ns.length cn, .int .i64 r.nw, .int .i64 r.nt] 30)).alloc (.cells #[.int .i64 h, .int .i64 s] 33)).alloc (.cells #[.slice none 0 0, .slice none 0 0, .slice none 0 0, .slice none 0 0, .int .i64 0, .int .i64 0] 30)) [.int .i64 0, .string ⟨#[]⟩, .int .i64 0, .int .i64 0] 52
  rw [sz_alloc, sz_alloc, sz_alloc] at BY0
  have bl0 := ((((Below.refl w.heap.size w).alloc (by first | exact Nat.le_refl _ | (simp <;> omega)) (.cells #[.slice aw r.ws.length cw, .slice at_ r.ts.length ct, .slice ah r.hs.length ch, .slice an r.ns.length cn, .int .i64 r.nw, .int .i64 r.nt] 30)).alloc (by first | exact Nat.le_refl _ | (simp <;> omega)) (.cells #[.int .i64 h, .int .i64 s] 33)).alloc (by first | exact Nat.le_refl _ | (simp <;> omega)) (.cells #[.slice none 0 0, .slice none 0 0, .slice none 0 0, .slice none 0 0, .int .i64 0, .int .i64 0] 30)).alloc (by first | exact Nat.le_refl _ | (simp <;> omega)) (.cells #[.int .i64 0, .string ⟨#[]⟩, .int .i64 0, .int .i64 0] 52)
  go_enter Tryz.func13, Tryz.ntmps13
  go_wp2_with fail
  refine (who_ok aw at_ ah an cw ct ch cn r h s 2 1 _ (hr.below bl0) hz hc).mono ?_
  rintro e w1 ⟨rfl, hb1⟩
  have BR1 := BR0.below hb1
  have BP1 := BP0.below hb1
  have BZ1 := BZ0.below hb1
  have BY1 := BY0.below hb1
  have bl1 := Below_after bl0 hb1
  clear BR0 BP0 BZ0 BY0 bl0
  have lw1 := BY1.1
  generalize hx' : getW r h s = x at *
  have Hx : Hid (getW r h s = x) := hx'
  clear hx'
  obtain ⟨cR0, cR1, cR2, cR3, cR4, cR5⟩ := BR1.c6
  have zR := BR1.1
  obtain ⟨cP0, cP1⟩ := BP1.c2
  have zP := BP1.1
  obtain ⟨cZ0, cZ1, cZ2, cZ3, cZ4, cZ5⟩ := BZ1.c6
  have zZ := BZ1.1
  obtain ⟨cY0, cY1, cY2, cY3⟩ := BY1.c4
  have zY := BY1.1
  go_wp2_with fail
  clear cR0 cR1 cR2 cR3 cR4 cR5 zR cP0 cP1 zP cZ0 cZ1 cZ2 cZ3 cZ4 cZ5 zZ cY0 cY1 cY2 cY3 zY
  have BR2 := BR1.alloc (.cells #[.int .i64 x.id, .int .i64 x.thing, .int .i64 x.rights, .int .i64 x.badge, .int .i64 x.frm] 39)
  have BP2 := BP1.alloc (.cells #[.int .i64 x.id, .int .i64 x.thing, .int .i64 x.rights, .int .i64 x.badge, .int .i64 x.frm] 39)
  have BZ2 := BZ1.alloc (.cells #[.int .i64 x.id, .int .i64 x.thing, .int .i64 x.rights, .int .i64 x.badge, .int .i64 x.frm] 39)
  have BY2 := BY1.alloc (.cells #[.int .i64 x.id, .int .i64 x.thing, .int .i64 x.rights, .int .i64 x.badge, .int .i64 x.frm] 39)
  have bl2 := bl1.alloc bl1.size (.cells #[.int .i64 x.id, .int .i64 x.thing, .int .i64 x.rights, .int .i64 x.badge, .int .i64 x.frm] 39)
  have BX2 := Bx.new w1 [.int .i64 x.id, .int .i64 x.thing, .int .i64 x.rights, .int .i64 x.badge, .int .i64 x.frm] 39
  clear BR1 BP1 BZ1 BY1 bl1
  generalize hg2 : (w1.alloc (.cells #[.int .i64 x.id, .int .i64 x.thing, .int .i64 x.rights, .int .i64 x.badge, .int .i64 x.frm] 39)) = w2 at BR2 BP2 BZ2 BY2 BX2 bl2 ⊢
  clear hg2
  have sg2X := BX2.1
  refine (idx_anyn an cn r.ns (atPort x.thing) 33 _ eg _ _ (takes_any x (w1.heap.size) _ (BX2.2 1 _ rfl).1 BX2.1) (Below.refl _ _) (hr.n.below bl2) (by omega)).mono ?_
  rintro e w3 ⟨rfl, hb3⟩
  have sz3 : w2.heap.size ≤ w3.heap.size := hb3.size
  have BR3 := BR2.below hb3
  have BP3 := BP2.below hb3
  have BZ3 := BZ2.below hb3
  have BY3 := BY2.below hb3
  have BX3 := BX2.below hb3
  have bl3 := Below_after bl2 hb3
  clear BR2 BP2 BZ2 BY2 BX2 bl2
  have lw3 := BY3.1
  rw [hi]
  obtain ⟨cR0, cR1, cR2, cR3, cR4, cR5⟩ := BR3.c6
  have zR := BR3.1
  obtain ⟨cP0, cP1⟩ := BP3.c2
  have zP := BP3.1
  obtain ⟨cZ0, fZ0, cZ1, fZ1, cZ2, fZ2, cZ3, fZ3, cZ4, fZ4, cZ5, fZ5⟩ := BZ3.cf6
  have zZ := BZ3.1
  obtain ⟨cY0, fY0, cY1, fY1, cY2, fY2, cY3, fY3⟩ := BY3.cf4
  have zY := BY3.1
  obtain ⟨cX0, cX1, cX2, cX3, cX4⟩ := BX3.c5
  have zX := BX3.1
  go_wp2_with fail
  obtain ⟨y0, y1, y2, y3, y4, y5⟩ := ((BZ3.put6 (.slice none 0 0) (.slice none 0 0) (.slice none 0 0) (.slice none 0 0) (.int .i64 0) (.int .i64 0)).past4 (b' := w.heap.size + 1 + 1 + 1) (by omega) (.int .i64 0) (.string ⟨#[]⟩) (.int .i64 0) (.int .i64 0)).six
  obtain ⟨u0, u1, u2, u3⟩ := ((BY3.past6 (b' := w.heap.size + 1 + 1) (by omega) (.slice none 0 0) (.slice none 0 0) (.slice none 0 0) (.slice none 0 0) (.int .i64 0) (.int .i64 0)).put4 (.int .i64 0) (.string ⟨#[]⟩) (.int .i64 0) (.int .i64 0)).four
  have blF := (below_set4 (below_set6 bl3 (b := w.heap.size + 1 + 1) (by omega) (.slice none 0 0) (.slice none 0 0) (.slice none 0 0) (.slice none 0 0) (.int .i64 0) (.int .i64 0)) (b := w.heap.size + 1 + 1 + 1) (by omega) (.int .i64 0) (.string ⟨#[]⟩) (.int .i64 0) (.int .i64 0))
  generalize hgF : ((((((((((w3.setCell ⟨w.heap.size + 1 + 1, 0, none⟩ (.slice none 0 0)).setCell ⟨w.heap.size + 1 + 1, 1, none⟩ (.slice none 0 0)).setCell ⟨w.heap.size + 1 + 1, 2, none⟩ (.slice none 0 0)).setCell ⟨w.heap.size + 1 + 1, 3, none⟩ (.slice none 0 0)).setCell ⟨w.heap.size + 1 + 1, 4, none⟩ (.int .i64 0)).setCell ⟨w.heap.size + 1 + 1, 5, none⟩ (.int .i64 0)).setCell ⟨w.heap.size + 1 + 1 + 1, 0, none⟩ (.int .i64 0)).setCell ⟨w.heap.size + 1 + 1 + 1, 1, none⟩ (.string ⟨#[]⟩)).setCell ⟨w.heap.size + 1 + 1 + 1, 2, none⟩ (.int .i64 0)).setCell ⟨w.heap.size + 1 + 1 + 1, 3, none⟩ (.int .i64 0)) = WF at y0 y1 y2 y3 y4 y5 u0 u1 u2 u3 blF  ⊢
  clear hgF
  refine bodyPost_ret (v := .tuple #[.agg #[.slice none 0 0, .slice none 0 0, .slice none 0 0, .slice none 0 0, .int .i64 0, .int .i64 0], .agg #[.int .i64 0, .string ⟨#[]⟩, .int .i64 0, .int .i64 0], .int .i64 0, .iface 69 (.int .i64 5)]) (by simp [results, Tryz.results13, go_sem, y0, y1, y2, y3, y4, y5, u0, u1, u2, u3]) rfl ?_
  exact ⟨rfl, blF⟩
set_option maxHeartbeats 2000000 in
set_option maxRecDepth 100000 in
theorem take_bare (aw at_ ah an : Option Addr) (cw ct ch cn : Nat) (r : Rm) (h s : Int) (w : World) (hr : RmAt w aw at_ ah an cw ct ch cn r) (hz : RmSz r) (hc : whoC r h s 2 1 = 0) (j : Nat) (n : Nt) (hi : idx (atPort (getW r h s).thing) r.ns = (j : Int)) (hj : r.ns[j]? = some n) (hn : noteAt r h s = n) (hw : n.writ = 0) :
    Calls Tryz.prog 13 #[.agg #[.slice aw r.ws.length cw, .slice at_ r.ts.length ct, .slice ah r.hs.length ch, .slice an r.ns.length cn, .int .i64 r.nw, .int .i64 r.nt], .agg #[.int .i64 h, .int .i64 s]] w fun e w' => ∃ v0 v1 v2 v3, e = .returned (.tuple #[.agg #[v0, v1, v2, v3, .int .i64 r.nw, .int .i64 r.nt], .agg #[.int .i64 (noteAt r h s).port, .string (noteAt r h s).data, .int .i64 (noteAt r h s).badge, .int .i64 (noteAt r h s).writ], .int .i64 (takeSlot r h s), .nilIface]) ∧ OwnsR w' w.heap.size v0 v1 v2 v3 (takeR r h s) ∧ Below w.heap.size w w' := by
  have hmf : ∀ (fn : Fn) (first cap : Array Value) (w : World), (Instr.makeFunc fn first cap).run Tryz.prog w = .ok (.func fn first cap) w := fun _ _ _ _ => rfl
  have eg : ∀ args w, (callFunc 33 args).run Tryz.prog w = .ok (.enter 33 args) w := enters_of Tryz.func33 (by kernel_rfl) rfl
  have HSl : Hid (takeSlot r h s = -1) := by show _ = _; unfold takeSlot; rw [hn, if_pos hw]
  have HW : Hid (n.writ = 0) := hw
  have dw : (n.writ != 0) = false := by simp [hw]
  have HN : Hid (noteAt r h s = n) := hn
  have HIX : Hid ((idx (atPort (getW r h s).thing) r.ns).toNat = j) := by show _ = _; rw [hi]; rfl
  clear hn
  clear hw
  have mn := hz.n
  have mh := hz.h
  have hjl : j < r.ns.length := (List.getElem?_eq_some_iff.1 hj).1
  obtain ⟨bn, on, ha, hbn, hcn⟩ := hr.n.resolve_left (by intro e; rw [e] at hjl; simp at hjl)
  subst ha
  have Q : Hid (NtAt w bn (on + j * 4) n) := hcn j n hj
  have fn1 := hr.fn.1
  have fn2 := hr.fn.2
  unfold maxLen at fn2
  have HI : Hid (idx (atPort (getW r h s).thing) r.ns = (j : Int)) := hi
  clear hcn hj hi
  have BR0 := Bx.new w [.slice aw r.ws.length cw, .slice at_ r.ts.length ct, .slice ah r.hs.length ch, .slice (some ⟨bn, on, none⟩) r.ns.length cn, .int .i64 r.nw, .int .i64 r.nt] 30
  replace BR0 := BR0.alloc (.cells #[.int .i64 h, .int .i64 s] 33)
  replace BR0 := BR0.alloc (.cells #[.slice none 0 0, .slice none 0 0, .slice none 0 0, .slice none 0 0, .int .i64 0, .int .i64 0] 30)
  replace BR0 := BR0.alloc (.cells #[.int .i64 0, .string ⟨#[]⟩, .int .i64 0, .int .i64 0] 52)
  have BP0 := Bx.new (w.alloc (.cells #[.slice aw r.ws.length cw, .slice at_ r.ts.length ct, .slice ah r.hs.length ch, .slice (some ⟨bn, on, none⟩) r.ns.length cn, .int .i64 r.nw, .int .i64 r.nt] 30)) [.int .i64 h, .int .i64 s] 33
  rw [sz_alloc] at BP0
  replace BP0 := BP0.alloc (.cells #[.slice none 0 0, .slice none 0 0, .slice none 0 0, .slice none 0 0, .int .i64 0, .int .i64 0] 30)
  replace BP0 := BP0.alloc (.cells #[.int .i64 0, .string ⟨#[]⟩, .int .i64 0, .int .i64 0] 52)
  have BZ0 := Bx.new ((w.alloc (.cells #[.slice aw r.ws.length cw, .slice at_ r.ts.length ct, .slice ah r.hs.length ch, .slice (some ⟨bn, on, none⟩) r.ns.length cn, .int .i64 r.nw, .int .i64 r.nt] 30)).alloc (.cells #[.int .i64 h, .int .i64 s] 33)) [.slice none 0 0, .slice none 0 0, .slice none 0 0, .slice none 0 0, .int .i64 0, .int .i64 0] 30
  rw [sz_alloc, sz_alloc] at BZ0
  replace BZ0 := BZ0.alloc (.cells #[.int .i64 0, .string ⟨#[]⟩, .int .i64 0, .int .i64 0] 52)
  have BY0 := Bx.new (((w.alloc (.cells #[.slice aw r.ws.length cw, .slice at_ r.ts.length ct, .slice ah r.hs.length ch, .slice (some ⟨bn, on, none⟩) r.ns.length cn, .int .i64 r.nw, .int .i64 r.nt] 30)).alloc (.cells #[.int .i64 h, .int .i64 s] 33)).alloc (.cells #[.slice none 0 0, .slice none 0 0, .slice none 0 0, .slice none 0 0, .int .i64 0, .int .i64 0] 30)) [.int .i64 0, .string ⟨#[]⟩, .int .i64 0, .int .i64 0] 52
  rw [sz_alloc, sz_alloc, sz_alloc] at BY0
  have bl0 := ((((Below.refl w.heap.size w).alloc (by first | exact Nat.le_refl _ | (simp <;> omega)) (.cells #[.slice aw r.ws.length cw, .slice at_ r.ts.length ct, .slice ah r.hs.length ch, .slice (some ⟨bn, on, none⟩) r.ns.length cn, .int .i64 r.nw, .int .i64 r.nt] 30)).alloc (by first | exact Nat.le_refl _ | (simp <;> omega)) (.cells #[.int .i64 h, .int .i64 s] 33)).alloc (by first | exact Nat.le_refl _ | (simp <;> omega)) (.cells #[.slice none 0 0, .slice none 0 0, .slice none 0 0, .slice none 0 0, .int .i64 0, .int .i64 0] 30)).alloc (by first | exact Nat.le_refl _ | (simp <;> omega)) (.cells #[.int .i64 0, .string ⟨#[]⟩, .int .i64 0, .int .i64 0] 52)
  go_enter Tryz.func13, Tryz.ntmps13
  go_wp2_with fail
  refine (who_ok aw at_ ah (some ⟨bn, on, none⟩) cw ct ch cn r h s 2 1 _ (hr.below bl0) hz hc).mono ?_
  rintro e w1 ⟨rfl, hb1⟩
  have BR1 := BR0.below hb1
  have BP1 := BP0.below hb1
  have BZ1 := BZ0.below hb1
  have BY1 := BY0.below hb1
  have bl1 := Below_after bl0 hb1
  clear BR0 BP0 BZ0 BY0 bl0
  have lw1 := BY1.1
  generalize hx' : getW r h s = x at *
  have Hx : Hid (getW r h s = x) := hx'
  clear hx'
  obtain ⟨cR0, cR1, cR2, cR3, cR4, cR5⟩ := BR1.c6
  have zR := BR1.1
  obtain ⟨cP0, cP1⟩ := BP1.c2
  have zP := BP1.1
  obtain ⟨cZ0, cZ1, cZ2, cZ3, cZ4, cZ5⟩ := BZ1.c6
  have zZ := BZ1.1
  obtain ⟨cY0, cY1, cY2, cY3⟩ := BY1.c4
  have zY := BY1.1
  go_wp2_with fail
  clear cR0 cR1 cR2 cR3 cR4 cR5 zR cP0 cP1 zP cZ0 cZ1 cZ2 cZ3 cZ4 cZ5 zZ cY0 cY1 cY2 cY3 zY
  have BR2 := BR1.alloc (.cells #[.int .i64 x.id, .int .i64 x.thing, .int .i64 x.rights, .int .i64 x.badge, .int .i64 x.frm] 39)
  have BP2 := BP1.alloc (.cells #[.int .i64 x.id, .int .i64 x.thing, .int .i64 x.rights, .int .i64 x.badge, .int .i64 x.frm] 39)
  have BZ2 := BZ1.alloc (.cells #[.int .i64 x.id, .int .i64 x.thing, .int .i64 x.rights, .int .i64 x.badge, .int .i64 x.frm] 39)
  have BY2 := BY1.alloc (.cells #[.int .i64 x.id, .int .i64 x.thing, .int .i64 x.rights, .int .i64 x.badge, .int .i64 x.frm] 39)
  have bl2 := bl1.alloc bl1.size (.cells #[.int .i64 x.id, .int .i64 x.thing, .int .i64 x.rights, .int .i64 x.badge, .int .i64 x.frm] 39)
  have BX2 := Bx.new w1 [.int .i64 x.id, .int .i64 x.thing, .int .i64 x.rights, .int .i64 x.badge, .int .i64 x.frm] 39
  clear BR1 BP1 BZ1 BY1 bl1
  generalize hg2 : (w1.alloc (.cells #[.int .i64 x.id, .int .i64 x.thing, .int .i64 x.rights, .int .i64 x.badge, .int .i64 x.frm] 39)) = w2 at BR2 BP2 BZ2 BY2 BX2 bl2 ⊢
  clear hg2
  have sg2X := BX2.1
  refine (idx_anyn (some ⟨bn, on, none⟩) cn r.ns (atPort x.thing) 33 _ eg _ _ (takes_any x (w1.heap.size) _ (BX2.2 1 _ rfl).1 BX2.1) (Below.refl _ _) (hr.n.below bl2) (by omega)).mono ?_
  rintro e w3 ⟨rfl, hb3⟩
  have sz3 : w2.heap.size ≤ w3.heap.size := hb3.size
  have BR3 := BR2.below hb3
  have BP3 := BP2.below hb3
  have BZ3 := BZ2.below hb3
  have BY3 := BY2.below hb3
  have BX3 := BX2.below hb3
  have bl3 := Below_after bl2 hb3
  clear BR2 BP2 BZ2 BY2 BX2 bl2
  have lw3 := BY3.1
  rw [HI.out]
  obtain ⟨q0, q1, q2, q3⟩ := Q.out.below bl3 hbn
  have hbz : bn < w3.heap.size := Nat.lt_of_lt_of_le hbn bl3.size
  obtain ⟨cR0, cR1, cR2, cR3, cR4, cR5⟩ := BR3.c6
  have zR := BR3.1
  obtain ⟨cP0, cP1⟩ := BP3.c2
  have zP := BP3.1
  obtain ⟨cZ0, cZ1, cZ2, cZ3, cZ4, cZ5⟩ := BZ3.c6
  have zZ := BZ3.1
  obtain ⟨cY0, cY1, cY2, cY3⟩ := BY3.c4
  have zY := BY3.1
  obtain ⟨cX0, cX1, cX2, cX3, cX4⟩ := BX3.c5
  have zX := BX3.1
  go_wp2_with fail
  clear cR0 cR1 cR2 cR3 cR4 cR5 zR cP0 cP1 zP cZ0 cZ1 cZ2 cZ3 cZ4 cZ5 zZ cY0 cY1 cY2 cY3 zY cX0 cX1 cX2 cX3 cX4 zX
  clear q0 q1 q2 q3 hbz
  have BR4 := BR3.alloc (.cells #[.int .i64 n.port, .string n.data, .int .i64 n.badge, .int .i64 n.writ] 52)
  have BP4 := BP3.alloc (.cells #[.int .i64 n.port, .string n.data, .int .i64 n.badge, .int .i64 n.writ] 52)
  have BZ4 := BZ3.alloc (.cells #[.int .i64 n.port, .string n.data, .int .i64 n.badge, .int .i64 n.writ] 52)
  have BY4 := BY3.alloc (.cells #[.int .i64 n.port, .string n.data, .int .i64 n.badge, .int .i64 n.writ] 52)
  have BX4 := BX3.alloc (.cells #[.int .i64 n.port, .string n.data, .int .i64 n.badge, .int .i64 n.writ] 52)
  have bl4 := bl3.alloc bl3.size (.cells #[.int .i64 n.port, .string n.data, .int .i64 n.badge, .int .i64 n.writ] 52)
  have BN4 := Bx.new w3 [.int .i64 n.port, .string n.data, .int .i64 n.badge, .int .i64 n.writ] 52
  clear BR3 BP3 BZ3 BY3 BX3 bl3
  generalize hg4 : (w3.alloc (.cells #[.int .i64 n.port, .string n.data, .int .i64 n.badge, .int .i64 n.writ] 52)) = w4 at BR4 BP4 BZ4 BY4 BX4 BN4 bl4 ⊢
  clear hg4
  have sg4N := BN4.1
  have hlow := BY4.1
  have hs1 : w.heap.size ≤ w4.heap.size := bl4.size
  refine (copy_at aw at_ ah (some ⟨bn, on, none⟩) cw ct ch cn r _ (hr.below bl4) hz).mono ?_
  rintro e w5 ⟨b0, b1, b2, b3, d0, d1, d2, d3, rfl, hO, hb5⟩
  have sz5 : w4.heap.size ≤ w5.heap.size := hb5.size
  have BR5 := BR4.below hb5
  have BP5 := BP4.below hb5
  have BZ5 := BZ4.below hb5
  have BY5 := BY4.below hb5
  have BX5 := BX4.below hb5
  have BN5 := BN4.below hb5
  have bl5 := Below_after bl4 hb5
  clear BR4 BP4 BZ4 BY4 BX4 BN4 bl4
  have lw5 := BY5.1
  obtain ⟨cR0, cR1, cR2, cR3, cR4, cR5⟩ := BR5.c6
  have zR := BR5.1
  obtain ⟨cP0, cP1⟩ := BP5.c2
  have zP := BP5.1
  obtain ⟨cZ0, cZ1, cZ2, cZ3, cZ4, cZ5⟩ := BZ5.c6
  have zZ := BZ5.1
  obtain ⟨cY0, cY1, cY2, cY3⟩ := BY5.c4
  have zY := BY5.1
  obtain ⟨cX0, cX1, cX2, cX3, cX4⟩ := BX5.c5
  have zX := BX5.1
  obtain ⟨cN0, cN1, cN2, cN3⟩ := BN5.c4
  have zN := BN5.1
  have HO : Hid (OwnsR w5 _ _ _ _ _ _) := hO
  clear hO
  go_wp2_with fail
  clear cR0 cR1 cR2 cR3 cR4 cR5 zR cP0 cP1 zP cZ0 cZ1 cZ2 cZ3 cZ4 cZ5 zZ cY0 cY1 cY2 cY3 zY cX0 cX1 cX2 cX3 cX4 zX cN0 cN1 cN2 cN3 zN
  have tag := RTag.new w5 #[.slice b0 r.ws.length d0, .slice b1 r.ts.length d1, .slice b2 r.hs.length d2, .slice b3 r.ns.length d3, .int .i64 r.nw, .int .i64 r.nt]
  have hO3 := HO.out.below ((Below.refl _ _).alloc (Nat.le_refl _) (.cells #[.slice b0 r.ws.length d0, .slice b1 r.ts.length d1, .slice b2 r.hs.length d2, .slice b3 r.ns.length d3, .int .i64 r.nw, .int .i64 r.nt] 30))
  clear HO
  have BR6 := BR5.alloc (.cells #[.slice b0 r.ws.length d0, .slice b1 r.ts.length d1, .slice b2 r.hs.length d2, .slice b3 r.ns.length d3, .int .i64 r.nw, .int .i64 r.nt] 30)
  have BP6 := BP5.alloc (.cells #[.slice b0 r.ws.length d0, .slice b1 r.ts.length d1, .slice b2 r.hs.length d2, .slice b3 r.ns.length d3, .int .i64 r.nw, .int .i64 r.nt] 30)
  have BZ6 := BZ5.alloc (.cells #[.slice b0 r.ws.length d0, .slice b1 r.ts.length d1, .slice b2 r.hs.length d2, .slice b3 r.ns.length d3, .int .i64 r.nw, .int .i64 r.nt] 30)
  have BY6 := BY5.alloc (.cells #[.slice b0 r.ws.length d0, .slice b1 r.ts.length d1, .slice b2 r.hs.length d2, .slice b3 r.ns.length d3, .int .i64 r.nw, .int .i64 r.nt] 30)
  have BX6 := BX5.alloc (.cells #[.slice b0 r.ws.length d0, .slice b1 r.ts.length d1, .slice b2 r.hs.length d2, .slice b3 r.ns.length d3, .int .i64 r.nw, .int .i64 r.nt] 30)
  have BN6 := BN5.alloc (.cells #[.slice b0 r.ws.length d0, .slice b1 r.ts.length d1, .slice b2 r.hs.length d2, .slice b3 r.ns.length d3, .int .i64 r.nw, .int .i64 r.nt] 30)
  have bl6 := bl5.alloc bl5.size (.cells #[.slice b0 r.ws.length d0, .slice b1 r.ts.length d1, .slice b2 r.hs.length d2, .slice b3 r.ns.length d3, .int .i64 r.nw, .int .i64 r.nt] 30)
  have BO6 := Bx.new w5 [.slice b0 r.ws.length d0, .slice b1 r.ts.length d1, .slice b2 r.hs.length d2, .slice b3 r.ns.length d3, .int .i64 r.nw, .int .i64 r.nt] 30
  clear BR5 BP5 BZ5 BY5 BX5 BN5 bl5
  generalize hg : (w5.alloc (.cells #[.slice b0 r.ws.length d0, .slice b1 r.ts.length d1, .slice b2 r.hs.length d2, .slice b3 r.ns.length d3, .int .i64 r.nw, .int .i64 r.nt] 30)) = w6 at BR6 BP6 BZ6 BY6 BX6 BN6 BO6 bl6 tag hO3 ⊢
  clear hg
  have hs3 : w5.heap.size < w6.heap.size := BO6.1
  have hlowZ : w.heap.size + 1 + 1 < w4.heap.size := by omega
  have hlowN : w3.heap.size < w4.heap.size := by omega
  refine (cut_n (.slice b3 r.ns.length d3) r.ns j hjl _ w4.heap.size hO3.rn mn).mono ?_
  rintro e wC ⟨v3', rfl, hoC, hgC⟩
  have hneO := own_ne_tag hO3.rn tag (by decide)
  have hsC := hgC.size
  have BZ40 := BZ6.grown hgC (ownBlock_ne hO3.rn hlowZ).symm
  have BY40 := BY6.grown hgC (ownBlock_ne hO3.rn hlow).symm
  have BN40 := BN6.grown hgC (ownBlock_ne hO3.rn hlowN).symm
  have BO40 := BO6.grown hgC hneO.symm
  have tagC := tag.grown hgC hneO.symm
  have bl40 := bl6.grown hgC bl6.size (fun k hk => by have := (hO3.rn.lt k hk).1; omega)
  have hOC := hO3.cut3 hgC hoC
  clear hgC hoC hneO hO3 tag bl6 BR6 BP6 BZ6 BY6 BX6 BN6 BO6
  obtain ⟨b3', d3', hv, -, -⟩ := nrow_at hOC.rn
  obtain ⟨T, hT⟩ : ∃ T, T = (r.ns.eraseIdx j).length := ⟨_, rfl⟩
  have hv' : v3' = .slice b3' T d3' := by subst hT; exact hv
  subst hv'
  clear hv hT
  have HOC : Hid (OwnsR _ _ _ _ _ _ _) := hOC
  have HTC : Hid (RTag _ _) := tagC
  clear hOC tagC
  obtain ⟨cZ0, cZ1, cZ2, cZ3, cZ4, cZ5⟩ := BZ40.c6
  have zZ := BZ40.1
  obtain ⟨cY0, cY1, cY2, cY3⟩ := BY40.c4
  have zY := BY40.1
  obtain ⟨cN0, cN1, cN2, cN3⟩ := BN40.c4
  have zN := BN40.1
  obtain ⟨cO0, fO0, cO1, fO1, cO2, fO2, cO3, fO3, cO4, fO4, cO5, fO5⟩ := BO40.cf6
  have zO := BO40.1
  go_wp2_with fail
  clear cZ0 cZ1 cZ2 cZ3 cZ4 cZ5 zZ cY0 cY1 cY2 cY3 zY cN0 cN1 cN2 cN3 zN cO0 fO0 cO1 fO1 cO2 fO2 cO3 fO3 cO4 fO4 cO5 fO5 zO
  have BZ41 := BZ40.other (b' := w5.heap.size) (by first | omega | (have := BO40.1; have := BZ40.1; omega)) 3 (.slice b3' T d3')
  have BY41 := BY40.other (b' := w5.heap.size) (by first | omega | (have := BO40.1; have := BY40.1; omega)) 3 (.slice b3' T d3')
  have BN41 := BN40.other (b' := w5.heap.size) (by first | omega | (have := BO40.1; have := BN40.1; omega)) 3 (.slice b3' T d3')
  have BO41 := BO40.set 3 (.slice b3' T d3')
  simp only [List.set_cons_zero, List.set_cons_succ] at BO41
  have bl41 := bl40.setCell (p := ⟨w5.heap.size, 3, none⟩) (by show w.heap.size ≤ w5.heap.size; omega) (.slice b3' T d3')
  clear BZ40 BY40 BN40 BO40 bl40
  have hO8 := HOC.out.setTag HTC.out 3 (.slice b3' T d3')
  have HO8 : Hid (OwnsR _ _ _ _ _ _ _) := hO8
  clear hO8 HOC HTC
  generalize hg : wC.setCell ⟨w5.heap.size, 3, none⟩ (.slice b3' T d3') = wF at BZ41 BY41 BN41 BO41 bl41 HO8 ⊢
  clear hg
  have BZ50 := BZ41.below ((Below.refl _ _).drew)
  have BY50 := BY41.below ((Below.refl _ _).drew)
  have BO50 := BO41.below ((Below.refl _ _).drew)
  have BN50 := BN41.below ((Below.refl _ _).drew)
  have bl50 := bl41.drew
  have HO50 : Hid (OwnsR _ _ _ _ _ _ _) := HO8.out.below ((Below.refl _ _).drew)
  have srp : STv (w5.heap.size) (w3.heap.size) (.slice b0 r.ws.length d0) (.slice b1 r.ts.length d1) (.slice b2 r.hs.length d2) (.slice b3' T d3') (.int .i64 r.nw) (.int .i64 r.nt) (.int .i64 n.port) (.string n.data) (.int .i64 n.badge) (.int .i64 n.writ) wF.drew := STv_of BO50 BN50
  refine wp_region_held_drew (S := STv (w5.heap.size) (w3.heap.size) (.slice b0 r.ws.length d0) (.slice b1 r.ts.length d1) (.slice b2 r.hs.length d2) (.slice b3' T d3') (.int .i64 r.nw) (.int .i64 r.nt) (.int .i64 n.port) (.string n.data) (.int .i64 n.badge) (.int .i64 n.writ)) (by kernel_rfl) ?_ (fun hHeld => ?_)
  · exact srp
  generalize hg : wF.drew = wG at BZ50 BY50 BO50 BN50 bl50 HO50 hHeld ⊢
  clear hg srp HO8 BZ41 BY41 BN41 BO41 bl41
  refine tkI 0 (.agg #[.slice b0 r.ws.length d0, .slice b1 r.ts.length d1, .slice b2 r.hs.length d2, .slice b3' T d3', .int .i64 r.nw, .int .i64 r.nt]) rfl ?_
  refine tkI 1 (.agg #[.int .i64 n.port, .string n.data, .int .i64 n.badge, .int .i64 n.writ]) rfl ?_
  refine tkI 2 (.int .i64 (-1)) rfl ?_
  obtain ⟨cZ0, fZ0, cZ1, fZ1, cZ2, fZ2, cZ3, fZ3, cZ4, fZ4, cZ5, fZ5⟩ := BZ50.cf6
  have zZ := BZ50.1
  obtain ⟨cY0, fY0, cY1, fY1, cY2, fY2, cY3, fY3⟩ := BY50.cf4
  have zY := BY50.1
  have hnO : ¬ w5.heap.size = w.heap.size + 1 + 1 := by omega
  have hnO2 : ¬ w5.heap.size = w.heap.size + 1 + 1 + 1 := by omega
  have hnN : ¬ w3.heap.size = w.heap.size + 1 + 1 := by omega
  have hnN2 : ¬ w3.heap.size = w.heap.size + 1 + 1 + 1 := by omega
  refine rdI 3 rfl (fun K hK => ?_)
  go_wp2_with fail
  refine hK.out _ _ ?_ (fun hHeld => ?_)
  · exact STv_of (BO50.past6 hnO (.slice b0 r.ws.length d0) (.slice b1 r.ts.length d1) (.slice b2 r.hs.length d2) (.slice b3' T d3') (.int .i64 r.nw) (.int .i64 r.nt)) (BN50.past6 hnN (.slice b0 r.ws.length d0) (.slice b1 r.ts.length d1) (.slice b2 r.hs.length d2) (.slice b3' T d3') (.int .i64 r.nw) (.int .i64 r.nt))
  clear hK K
  (try simp only [Act.put, List.setIfInBounds_toArray, List.set_cons_zero, List.set_cons_succ])
  refine rdI 4 rfl (fun K hK => ?_)
  go_wp2_with fail
  refine hK.out _ _ ?_ (fun hHeld => ?_)
  · exact STv_of ((BO50.past6 hnO (.slice b0 r.ws.length d0) (.slice b1 r.ts.length d1) (.slice b2 r.hs.length d2) (.slice b3' T d3') (.int .i64 r.nw) (.int .i64 r.nt)).past4 hnO2 (.int .i64 n.port) (.string n.data) (.int .i64 n.badge) (.int .i64 n.writ)) ((BN50.past6 hnN (.slice b0 r.ws.length d0) (.slice b1 r.ts.length d1) (.slice b2 r.hs.length d2) (.slice b3' T d3') (.int .i64 r.nw) (.int .i64 r.nt)).past4 hnN2 (.int .i64 n.port) (.string n.data) (.int .i64 n.badge) (.int .i64 n.writ))
  clear hK K
  (try simp only [Act.put, List.setIfInBounds_toArray, List.set_cons_zero, List.set_cons_succ])
  refine rdI 5 rfl (fun K hK => ?_)
  go_wp2_with fail
  refine hK.out _ _ ?_ (fun hHeld => ?_)
  · assumption
  clear hK K
  (try simp only [Act.put, List.setIfInBounds_toArray, List.set_cons_zero, List.set_cons_succ])
  refine rdI 6 rfl (fun K hK => ?_)
  go_wp2_with fail
  refine hK.out _ _ ?_ (fun hHeld => ?_)
  · assumption
  clear hK K
  (try simp only [Act.put, List.setIfInBounds_toArray, List.set_cons_zero, List.set_cons_succ])
  refine wpAnyH_done (by kernel_rfl) ?_ _
  go_wp2_with fail
  obtain ⟨y0, y1, y2, y3, y4, y5⟩ := ((BZ50.put6 (.slice b0 r.ws.length d0) (.slice b1 r.ts.length d1) (.slice b2 r.hs.length d2) (.slice b3' T d3') (.int .i64 r.nw) (.int .i64 r.nt)).past4 (b' := w.heap.size + 1 + 1 + 1) (by omega) (.int .i64 n.port) (.string n.data) (.int .i64 n.badge) (.int .i64 n.writ)).six
  obtain ⟨u0, u1, u2, u3⟩ := ((BY50.past6 (b' := w.heap.size + 1 + 1) (by omega) (.slice b0 r.ws.length d0) (.slice b1 r.ts.length d1) (.slice b2 r.hs.length d2) (.slice b3' T d3') (.int .i64 r.nw) (.int .i64 r.nt)).put4 (.int .i64 n.port) (.string n.data) (.int .i64 n.badge) (.int .i64 n.writ)).four
  have blF := (below_set4 (below_set6 bl50 (b := w.heap.size + 1 + 1) (by omega) (.slice b0 r.ws.length d0) (.slice b1 r.ts.length d1) (.slice b2 r.hs.length d2) (.slice b3' T d3') (.int .i64 r.nw) (.int .i64 r.nt)) (b := w.heap.size + 1 + 1 + 1) (by omega) (.int .i64 n.port) (.string n.data) (.int .i64 n.badge) (.int .i64 n.writ))
  have hOF := ((HO50.out.set6 (b := w.heap.size + 1 + 1) (by omega) (.slice b0 r.ws.length d0) (.slice b1 r.ts.length d1) (.slice b2 r.hs.length d2) (.slice b3' T d3') (.int .i64 r.nw) (.int .i64 r.nt)).setLow4 (b := w.heap.size + 1 + 1 + 1) (by omega) (.int .i64 n.port) (.string n.data) (.int .i64 n.badge) (.int .i64 n.writ)).mono hs1
  generalize hgF : ((((((((((wG.setCell ⟨w.heap.size + 1 + 1, 0, none⟩ (.slice b0 r.ws.length d0)).setCell ⟨w.heap.size + 1 + 1, 1, none⟩ (.slice b1 r.ts.length d1)).setCell ⟨w.heap.size + 1 + 1, 2, none⟩ (.slice b2 r.hs.length d2)).setCell ⟨w.heap.size + 1 + 1, 3, none⟩ (.slice b3' T d3')).setCell ⟨w.heap.size + 1 + 1, 4, none⟩ (.int .i64 r.nw)).setCell ⟨w.heap.size + 1 + 1, 5, none⟩ (.int .i64 r.nt)).setCell ⟨w.heap.size + 1 + 1 + 1, 0, none⟩ (.int .i64 n.port)).setCell ⟨w.heap.size + 1 + 1 + 1, 1, none⟩ (.string n.data)).setCell ⟨w.heap.size + 1 + 1 + 1, 2, none⟩ (.int .i64 n.badge)).setCell ⟨w.heap.size + 1 + 1 + 1, 3, none⟩ (.int .i64 n.writ)) = WF at y0 y1 y2 y3 y4 y5 u0 u1 u2 u3 blF hOF ⊢
  clear hgF
  refine bodyPost_ret (v := .tuple #[.agg #[.slice b0 r.ws.length d0, .slice b1 r.ts.length d1, .slice b2 r.hs.length d2, .slice b3' T d3', .int .i64 r.nw, .int .i64 r.nt], .agg #[.int .i64 n.port, .string n.data, .int .i64 n.badge, .int .i64 n.writ], .int .i64 (-1), .nilIface]) (by simp [results, Tryz.results13, go_sem, y0, y1, y2, y3, y4, y5, u0, u1, u2, u3]) rfl ?_
  exact ⟨_, _, _, _, by rw [HN.out, HSl.out], by unfold takeR; rw [HN.out, Hx.out, HIX.out, if_pos HW.out]; exact hOF, blF⟩
set_option maxHeartbeats 2000000 in
set_option maxRecDepth 100000 in
theorem take_full (aw at_ ah an : Option Addr) (cw ct ch cn : Nat) (r : Rm) (h s : Int) (w : World) (hr : RmAt w aw at_ ah an cw ct ch cn r) (hz : RmSz r) (hc : whoC r h s 2 1 = 0) (j : Nat) (n : Nt) (hi : idx (atPort (getW r h s).thing) r.ns = (j : Int)) (hj : r.ns[j]? = some n) (hw : ¬ n.writ = 0) (hfr : freeP r.hs h < 0) :
    Calls Tryz.prog 13 #[.agg #[.slice aw r.ws.length cw, .slice at_ r.ts.length ct, .slice ah r.hs.length ch, .slice an r.ns.length cn, .int .i64 r.nw, .int .i64 r.nt], .agg #[.int .i64 h, .int .i64 s]] w fun e w' => e = .returned (.tuple #[.agg #[.slice none 0 0, .slice none 0 0, .slice none 0 0, .slice none 0 0, .int .i64 0, .int .i64 0], .agg #[.int .i64 0, .string ⟨#[]⟩, .int .i64 0, .int .i64 0], .int .i64 0, .iface 69 (.int .i64 9)]) ∧ Below w.heap.size w w' := by
  have hmf : ∀ (fn : Fn) (first cap : Array Value) (w : World), (Instr.makeFunc fn first cap).run Tryz.prog w = .ok (.func fn first cap) w := fun _ _ _ _ => rfl
  have eg : ∀ args w, (callFunc 33 args).run Tryz.prog w = .ok (.enter 33 args) w := enters_of Tryz.func33 (by kernel_rfl) rfl
  have dw : (n.writ != 0) = true := by simpa using hw
  clear hw
  have mn := hz.n
  have mh := hz.h
  have hjl : j < r.ns.length := (List.getElem?_eq_some_iff.1 hj).1
  obtain ⟨bn, on, ha, hbn, hcn⟩ := hr.n.resolve_left (by intro e; rw [e] at hjl; simp at hjl)
  subst ha
  have Q : Hid (NtAt w bn (on + j * 4) n) := hcn j n hj
  have fn1 := hr.fn.1
  have fn2 := hr.fn.2
  unfold maxLen at fn2
  have HI : Hid (idx (atPort (getW r h s).thing) r.ns = (j : Int)) := hi
  clear hcn hj hi
  have BR0 := Bx.new w [.slice aw r.ws.length cw, .slice at_ r.ts.length ct, .slice ah r.hs.length ch, .slice (some ⟨bn, on, none⟩) r.ns.length cn, .int .i64 r.nw, .int .i64 r.nt] 30
  replace BR0 := BR0.alloc (.cells #[.int .i64 h, .int .i64 s] 33)
  replace BR0 := BR0.alloc (.cells #[.slice none 0 0, .slice none 0 0, .slice none 0 0, .slice none 0 0, .int .i64 0, .int .i64 0] 30)
  replace BR0 := BR0.alloc (.cells #[.int .i64 0, .string ⟨#[]⟩, .int .i64 0, .int .i64 0] 52)
  have BP0 := Bx.new (w.alloc (.cells #[.slice aw r.ws.length cw, .slice at_ r.ts.length ct, .slice ah r.hs.length ch, .slice (some ⟨bn, on, none⟩) r.ns.length cn, .int .i64 r.nw, .int .i64 r.nt] 30)) [.int .i64 h, .int .i64 s] 33
  rw [sz_alloc] at BP0
  replace BP0 := BP0.alloc (.cells #[.slice none 0 0, .slice none 0 0, .slice none 0 0, .slice none 0 0, .int .i64 0, .int .i64 0] 30)
  replace BP0 := BP0.alloc (.cells #[.int .i64 0, .string ⟨#[]⟩, .int .i64 0, .int .i64 0] 52)
  have BZ0 := Bx.new ((w.alloc (.cells #[.slice aw r.ws.length cw, .slice at_ r.ts.length ct, .slice ah r.hs.length ch, .slice (some ⟨bn, on, none⟩) r.ns.length cn, .int .i64 r.nw, .int .i64 r.nt] 30)).alloc (.cells #[.int .i64 h, .int .i64 s] 33)) [.slice none 0 0, .slice none 0 0, .slice none 0 0, .slice none 0 0, .int .i64 0, .int .i64 0] 30
  rw [sz_alloc, sz_alloc] at BZ0
  replace BZ0 := BZ0.alloc (.cells #[.int .i64 0, .string ⟨#[]⟩, .int .i64 0, .int .i64 0] 52)
  have BY0 := Bx.new (((w.alloc (.cells #[.slice aw r.ws.length cw, .slice at_ r.ts.length ct, .slice ah r.hs.length ch, .slice (some ⟨bn, on, none⟩) r.ns.length cn, .int .i64 r.nw, .int .i64 r.nt] 30)).alloc (.cells #[.int .i64 h, .int .i64 s] 33)).alloc (.cells #[.slice none 0 0, .slice none 0 0, .slice none 0 0, .slice none 0 0, .int .i64 0, .int .i64 0] 30)) [.int .i64 0, .string ⟨#[]⟩, .int .i64 0, .int .i64 0] 52
  rw [sz_alloc, sz_alloc, sz_alloc] at BY0
  have bl0 := ((((Below.refl w.heap.size w).alloc (by first | exact Nat.le_refl _ | (simp <;> omega)) (.cells #[.slice aw r.ws.length cw, .slice at_ r.ts.length ct, .slice ah r.hs.length ch, .slice (some ⟨bn, on, none⟩) r.ns.length cn, .int .i64 r.nw, .int .i64 r.nt] 30)).alloc (by first | exact Nat.le_refl _ | (simp <;> omega)) (.cells #[.int .i64 h, .int .i64 s] 33)).alloc (by first | exact Nat.le_refl _ | (simp <;> omega)) (.cells #[.slice none 0 0, .slice none 0 0, .slice none 0 0, .slice none 0 0, .int .i64 0, .int .i64 0] 30)).alloc (by first | exact Nat.le_refl _ | (simp <;> omega)) (.cells #[.int .i64 0, .string ⟨#[]⟩, .int .i64 0, .int .i64 0] 52)
  go_enter Tryz.func13, Tryz.ntmps13
  go_wp2_with fail
  refine (who_ok aw at_ ah (some ⟨bn, on, none⟩) cw ct ch cn r h s 2 1 _ (hr.below bl0) hz hc).mono ?_
  rintro e w1 ⟨rfl, hb1⟩
  have BR1 := BR0.below hb1
  have BP1 := BP0.below hb1
  have BZ1 := BZ0.below hb1
  have BY1 := BY0.below hb1
  have bl1 := Below_after bl0 hb1
  clear BR0 BP0 BZ0 BY0 bl0
  have lw1 := BY1.1
  generalize hx' : getW r h s = x at *
  have Hx : Hid (getW r h s = x) := hx'
  clear hx'
  obtain ⟨cR0, cR1, cR2, cR3, cR4, cR5⟩ := BR1.c6
  have zR := BR1.1
  obtain ⟨cP0, cP1⟩ := BP1.c2
  have zP := BP1.1
  obtain ⟨cZ0, cZ1, cZ2, cZ3, cZ4, cZ5⟩ := BZ1.c6
  have zZ := BZ1.1
  obtain ⟨cY0, cY1, cY2, cY3⟩ := BY1.c4
  have zY := BY1.1
  go_wp2_with fail
  clear cR0 cR1 cR2 cR3 cR4 cR5 zR cP0 cP1 zP cZ0 cZ1 cZ2 cZ3 cZ4 cZ5 zZ cY0 cY1 cY2 cY3 zY
  have BR2 := BR1.alloc (.cells #[.int .i64 x.id, .int .i64 x.thing, .int .i64 x.rights, .int .i64 x.badge, .int .i64 x.frm] 39)
  have BP2 := BP1.alloc (.cells #[.int .i64 x.id, .int .i64 x.thing, .int .i64 x.rights, .int .i64 x.badge, .int .i64 x.frm] 39)
  have BZ2 := BZ1.alloc (.cells #[.int .i64 x.id, .int .i64 x.thing, .int .i64 x.rights, .int .i64 x.badge, .int .i64 x.frm] 39)
  have BY2 := BY1.alloc (.cells #[.int .i64 x.id, .int .i64 x.thing, .int .i64 x.rights, .int .i64 x.badge, .int .i64 x.frm] 39)
  have bl2 := bl1.alloc bl1.size (.cells #[.int .i64 x.id, .int .i64 x.thing, .int .i64 x.rights, .int .i64 x.badge, .int .i64 x.frm] 39)
  have BX2 := Bx.new w1 [.int .i64 x.id, .int .i64 x.thing, .int .i64 x.rights, .int .i64 x.badge, .int .i64 x.frm] 39
  clear BR1 BP1 BZ1 BY1 bl1
  generalize hg2 : (w1.alloc (.cells #[.int .i64 x.id, .int .i64 x.thing, .int .i64 x.rights, .int .i64 x.badge, .int .i64 x.frm] 39)) = w2 at BR2 BP2 BZ2 BY2 BX2 bl2 ⊢
  clear hg2
  have sg2X := BX2.1
  refine (idx_anyn (some ⟨bn, on, none⟩) cn r.ns (atPort x.thing) 33 _ eg _ _ (takes_any x (w1.heap.size) _ (BX2.2 1 _ rfl).1 BX2.1) (Below.refl _ _) (hr.n.below bl2) (by omega)).mono ?_
  rintro e w3 ⟨rfl, hb3⟩
  have sz3 : w2.heap.size ≤ w3.heap.size := hb3.size
  have BR3 := BR2.below hb3
  have BP3 := BP2.below hb3
  have BZ3 := BZ2.below hb3
  have BY3 := BY2.below hb3
  have BX3 := BX2.below hb3
  have bl3 := Below_after bl2 hb3
  clear BR2 BP2 BZ2 BY2 BX2 bl2
  have lw3 := BY3.1
  rw [HI.out]
  obtain ⟨q0, q1, q2, q3⟩ := Q.out.below bl3 hbn
  have hbz : bn < w3.heap.size := Nat.lt_of_lt_of_le hbn bl3.size
  obtain ⟨cR0, cR1, cR2, cR3, cR4, cR5⟩ := BR3.c6
  have zR := BR3.1
  obtain ⟨cP0, cP1⟩ := BP3.c2
  have zP := BP3.1
  obtain ⟨cZ0, cZ1, cZ2, cZ3, cZ4, cZ5⟩ := BZ3.c6
  have zZ := BZ3.1
  obtain ⟨cY0, cY1, cY2, cY3⟩ := BY3.c4
  have zY := BY3.1
  obtain ⟨cX0, cX1, cX2, cX3, cX4⟩ := BX3.c5
  have zX := BX3.1
  go_wp2_with fail
  clear cR0 cR1 cR2 cR3 cR4 cR5 zR cP0 cP1 zP cZ0 cZ1 cZ2 cZ3 cZ4 cZ5 zZ cY0 cY1 cY2 cY3 zY cX0 cX1 cX2 cX3 cX4 zX
  clear q0 q1 q2 q3 hbz
  have BR4 := BR3.alloc (.cells #[.int .i64 n.port, .string n.data, .int .i64 n.badge, .int .i64 n.writ] 52)
  have BP4 := BP3.alloc (.cells #[.int .i64 n.port, .string n.data, .int .i64 n.badge, .int .i64 n.writ] 52)
  have BZ4 := BZ3.alloc (.cells #[.int .i64 n.port, .string n.data, .int .i64 n.badge, .int .i64 n.writ] 52)
  have BY4 := BY3.alloc (.cells #[.int .i64 n.port, .string n.data, .int .i64 n.badge, .int .i64 n.writ] 52)
  have BX4 := BX3.alloc (.cells #[.int .i64 n.port, .string n.data, .int .i64 n.badge, .int .i64 n.writ] 52)
  have bl4 := bl3.alloc bl3.size (.cells #[.int .i64 n.port, .string n.data, .int .i64 n.badge, .int .i64 n.writ] 52)
  have BN4 := Bx.new w3 [.int .i64 n.port, .string n.data, .int .i64 n.badge, .int .i64 n.writ] 52
  clear BR3 BP3 BZ3 BY3 BX3 bl3
  generalize hg4 : (w3.alloc (.cells #[.int .i64 n.port, .string n.data, .int .i64 n.badge, .int .i64 n.writ] 52)) = w4 at BR4 BP4 BZ4 BY4 BX4 BN4 bl4 ⊢
  clear hg4
  have sg4N := BN4.1
  have hlow := BY4.1
  have hs1 : w.heap.size ≤ w4.heap.size := bl4.size
  refine (copy_at aw at_ ah (some ⟨bn, on, none⟩) cw ct ch cn r _ (hr.below bl4) hz).mono ?_
  rintro e w5 ⟨b0, b1, b2, b3, d0, d1, d2, d3, rfl, hO, hb5⟩
  have sz5 : w4.heap.size ≤ w5.heap.size := hb5.size
  have BR5 := BR4.below hb5
  have BP5 := BP4.below hb5
  have BZ5 := BZ4.below hb5
  have BY5 := BY4.below hb5
  have BX5 := BX4.below hb5
  have BN5 := BN4.below hb5
  have bl5 := Below_after bl4 hb5
  clear BR4 BP4 BZ4 BY4 BX4 BN4 bl4
  have lw5 := BY5.1
  obtain ⟨cR0, cR1, cR2, cR3, cR4, cR5⟩ := BR5.c6
  have zR := BR5.1
  obtain ⟨cP0, cP1⟩ := BP5.c2
  have zP := BP5.1
  obtain ⟨cZ0, cZ1, cZ2, cZ3, cZ4, cZ5⟩ := BZ5.c6
  have zZ := BZ5.1
  obtain ⟨cY0, cY1, cY2, cY3⟩ := BY5.c4
  have zY := BY5.1
  obtain ⟨cX0, cX1, cX2, cX3, cX4⟩ := BX5.c5
  have zX := BX5.1
  obtain ⟨cN0, cN1, cN2, cN3⟩ := BN5.c4
  have zN := BN5.1
  have HO : Hid (OwnsR w5 _ _ _ _ _ _) := hO
  clear hO
  go_wp2_with fail
  clear cR0 cR1 cR2 cR3 cR4 cR5 zR cP0 cP1 zP cZ0 cZ1 cZ2 cZ3 cZ4 cZ5 zZ cY0 cY1 cY2 cY3 zY cX0 cX1 cX2 cX3 cX4 zX cN0 cN1 cN2 cN3 zN
  have tag := RTag.new w5 #[.slice b0 r.ws.length d0, .slice b1 r.ts.length d1, .slice b2 r.hs.length d2, .slice b3 r.ns.length d3, .int .i64 r.nw, .int .i64 r.nt]
  have hO3 := HO.out.below ((Below.refl _ _).alloc (Nat.le_refl _) (.cells #[.slice b0 r.ws.length d0, .slice b1 r.ts.length d1, .slice b2 r.hs.length d2, .slice b3 r.ns.length d3, .int .i64 r.nw, .int .i64 r.nt] 30))
  clear HO
  have BR6 := BR5.alloc (.cells #[.slice b0 r.ws.length d0, .slice b1 r.ts.length d1, .slice b2 r.hs.length d2, .slice b3 r.ns.length d3, .int .i64 r.nw, .int .i64 r.nt] 30)
  have BP6 := BP5.alloc (.cells #[.slice b0 r.ws.length d0, .slice b1 r.ts.length d1, .slice b2 r.hs.length d2, .slice b3 r.ns.length d3, .int .i64 r.nw, .int .i64 r.nt] 30)
  have BZ6 := BZ5.alloc (.cells #[.slice b0 r.ws.length d0, .slice b1 r.ts.length d1, .slice b2 r.hs.length d2, .slice b3 r.ns.length d3, .int .i64 r.nw, .int .i64 r.nt] 30)
  have BY6 := BY5.alloc (.cells #[.slice b0 r.ws.length d0, .slice b1 r.ts.length d1, .slice b2 r.hs.length d2, .slice b3 r.ns.length d3, .int .i64 r.nw, .int .i64 r.nt] 30)
  have BX6 := BX5.alloc (.cells #[.slice b0 r.ws.length d0, .slice b1 r.ts.length d1, .slice b2 r.hs.length d2, .slice b3 r.ns.length d3, .int .i64 r.nw, .int .i64 r.nt] 30)
  have BN6 := BN5.alloc (.cells #[.slice b0 r.ws.length d0, .slice b1 r.ts.length d1, .slice b2 r.hs.length d2, .slice b3 r.ns.length d3, .int .i64 r.nw, .int .i64 r.nt] 30)
  have bl6 := bl5.alloc bl5.size (.cells #[.slice b0 r.ws.length d0, .slice b1 r.ts.length d1, .slice b2 r.hs.length d2, .slice b3 r.ns.length d3, .int .i64 r.nw, .int .i64 r.nt] 30)
  have BO6 := Bx.new w5 [.slice b0 r.ws.length d0, .slice b1 r.ts.length d1, .slice b2 r.hs.length d2, .slice b3 r.ns.length d3, .int .i64 r.nw, .int .i64 r.nt] 30
  clear BR5 BP5 BZ5 BY5 BX5 BN5 bl5
  generalize hg : (w5.alloc (.cells #[.slice b0 r.ws.length d0, .slice b1 r.ts.length d1, .slice b2 r.hs.length d2, .slice b3 r.ns.length d3, .int .i64 r.nw, .int .i64 r.nt] 30)) = w6 at BR6 BP6 BZ6 BY6 BX6 BN6 BO6 bl6 tag hO3 ⊢
  clear hg
  have hs3 : w5.heap.size < w6.heap.size := BO6.1
  have hlowZ : w.heap.size + 1 + 1 < w4.heap.size := by omega
  have hlowN : w3.heap.size < w4.heap.size := by omega
  refine (free_any ah ch r.hs h _ (hr.h.below bl6) (by unfold maxLen; omega)).mono ?_
  rintro e w7 ⟨rfl, hb7⟩
  have sz7 : w6.heap.size ≤ w7.heap.size := hb7.size
  replace hO3 := hO3.below hb7
  replace tag := tag.below hb7
  have BR7 := BR6.below hb7
  have BP7 := BP6.below hb7
  have BZ7 := BZ6.below hb7
  have BY7 := BY6.below hb7
  have BX7 := BX6.below hb7
  have BN7 := BN6.below hb7
  have BO7 := BO6.below hb7
  have bl7 := Below_after bl6 hb7
  clear BR6 BP6 BZ6 BY6 BX6 BN6 BO6 bl6
  have lw7 := BY7.1
  generalize hF' : freeP r.hs h = F at *
  have HFr : Hid (freeP r.hs h = F) := hF'
  clear hF'
  clear hO3 tag
  obtain ⟨cR0, cR1, cR2, cR3, cR4, cR5⟩ := BR7.c6
  have zR := BR7.1
  obtain ⟨cP0, cP1⟩ := BP7.c2
  have zP := BP7.1
  obtain ⟨cZ0, fZ0, cZ1, fZ1, cZ2, fZ2, cZ3, fZ3, cZ4, fZ4, cZ5, fZ5⟩ := BZ7.cf6
  have zZ := BZ7.1
  obtain ⟨cY0, fY0, cY1, fY1, cY2, fY2, cY3, fY3⟩ := BY7.cf4
  have zY := BY7.1
  obtain ⟨cX0, cX1, cX2, cX3, cX4⟩ := BX7.c5
  have zX := BX7.1
  obtain ⟨cN0, cN1, cN2, cN3⟩ := BN7.c4
  have zN := BN7.1
  obtain ⟨cO0, cO1, cO2, cO3, cO4, cO5⟩ := BO7.c6
  have zO := BO7.1
  go_wp2_with fail
  obtain ⟨y0, y1, y2, y3, y4, y5⟩ := ((BZ7.put6 (.slice none 0 0) (.slice none 0 0) (.slice none 0 0) (.slice none 0 0) (.int .i64 0) (.int .i64 0)).past4 (b' := w.heap.size + 1 + 1 + 1) (by omega) (.int .i64 0) (.string ⟨#[]⟩) (.int .i64 0) (.int .i64 0)).six
  obtain ⟨u0, u1, u2, u3⟩ := ((BY7.past6 (b' := w.heap.size + 1 + 1) (by omega) (.slice none 0 0) (.slice none 0 0) (.slice none 0 0) (.slice none 0 0) (.int .i64 0) (.int .i64 0)).put4 (.int .i64 0) (.string ⟨#[]⟩) (.int .i64 0) (.int .i64 0)).four
  have blF := (below_set4 (below_set6 bl7 (b := w.heap.size + 1 + 1) (by omega) (.slice none 0 0) (.slice none 0 0) (.slice none 0 0) (.slice none 0 0) (.int .i64 0) (.int .i64 0)) (b := w.heap.size + 1 + 1 + 1) (by omega) (.int .i64 0) (.string ⟨#[]⟩) (.int .i64 0) (.int .i64 0))
  generalize hgF : ((((((((((w7.setCell ⟨w.heap.size + 1 + 1, 0, none⟩ (.slice none 0 0)).setCell ⟨w.heap.size + 1 + 1, 1, none⟩ (.slice none 0 0)).setCell ⟨w.heap.size + 1 + 1, 2, none⟩ (.slice none 0 0)).setCell ⟨w.heap.size + 1 + 1, 3, none⟩ (.slice none 0 0)).setCell ⟨w.heap.size + 1 + 1, 4, none⟩ (.int .i64 0)).setCell ⟨w.heap.size + 1 + 1, 5, none⟩ (.int .i64 0)).setCell ⟨w.heap.size + 1 + 1 + 1, 0, none⟩ (.int .i64 0)).setCell ⟨w.heap.size + 1 + 1 + 1, 1, none⟩ (.string ⟨#[]⟩)).setCell ⟨w.heap.size + 1 + 1 + 1, 2, none⟩ (.int .i64 0)).setCell ⟨w.heap.size + 1 + 1 + 1, 3, none⟩ (.int .i64 0)) = WF at y0 y1 y2 y3 y4 y5 u0 u1 u2 u3 blF  ⊢
  clear hgF
  refine bodyPost_ret (v := .tuple #[.agg #[.slice none 0 0, .slice none 0 0, .slice none 0 0, .slice none 0 0, .int .i64 0, .int .i64 0], .agg #[.int .i64 0, .string ⟨#[]⟩, .int .i64 0, .int .i64 0], .int .i64 0, .iface 69 (.int .i64 9)]) (by simp [results, Tryz.results13, go_sem, y0, y1, y2, y3, y4, y5, u0, u1, u2, u3]) rfl ?_
  exact ⟨rfl, blF⟩
set_option maxHeartbeats 2000000 in
set_option maxRecDepth 100000 in
theorem take_with (aw at_ ah an : Option Addr) (cw ct ch cn : Nat) (r : Rm) (h s : Int) (w : World) (hr : RmAt w aw at_ ah an cw ct ch cn r) (hz : RmSz r) (hc : whoC r h s 2 1 = 0) (j : Nat) (n : Nt) (hi : idx (atPort (getW r h s).thing) r.ns = (j : Int)) (hj : r.ns[j]? = some n) (hn : noteAt r h s = n) (hw : ¬ n.writ = 0) (hfr : ¬ freeP r.hs h < 0) :
    Calls Tryz.prog 13 #[.agg #[.slice aw r.ws.length cw, .slice at_ r.ts.length ct, .slice ah r.hs.length ch, .slice an r.ns.length cn, .int .i64 r.nw, .int .i64 r.nt], .agg #[.int .i64 h, .int .i64 s]] w fun e w' => ∃ v0 v1 v2 v3, e = .returned (.tuple #[.agg #[v0, v1, v2, v3, .int .i64 r.nw, .int .i64 r.nt], .agg #[.int .i64 (noteAt r h s).port, .string (noteAt r h s).data, .int .i64 (noteAt r h s).badge, .int .i64 (noteAt r h s).writ], .int .i64 (takeSlot r h s), .nilIface]) ∧ OwnsR w' w.heap.size v0 v1 v2 v3 (takeR r h s) ∧ Below w.heap.size w w' := by
  have hmf : ∀ (fn : Fn) (first cap : Array Value) (w : World), (Instr.makeFunc fn first cap).run Tryz.prog w = .ok (.func fn first cap) w := fun _ _ _ _ => rfl
  have eg : ∀ args w, (callFunc 33 args).run Tryz.prog w = .ok (.enter 33 args) w := enters_of Tryz.func33 (by kernel_rfl) rfl
  have HSl : Hid (takeSlot r h s = freeP r.hs h) := by show _ = _; unfold takeSlot; rw [hn, if_neg hw]
  have HW : Hid (¬ n.writ = 0) := hw
  have dw : (n.writ != 0) = true := by simpa using hw
  have HN : Hid (noteAt r h s = n) := hn
  have HIX : Hid ((idx (atPort (getW r h s).thing) r.ns).toNat = j) := by show _ = _; rw [hi]; rfl
  clear hn
  clear hw
  have mn := hz.n
  have mh := hz.h
  have hjl : j < r.ns.length := (List.getElem?_eq_some_iff.1 hj).1
  obtain ⟨bn, on, ha, hbn, hcn⟩ := hr.n.resolve_left (by intro e; rw [e] at hjl; simp at hjl)
  subst ha
  have Q : Hid (NtAt w bn (on + j * 4) n) := hcn j n hj
  have fn1 := hr.fn.1
  have fn2 := hr.fn.2
  unfold maxLen at fn2
  have HI : Hid (idx (atPort (getW r h s).thing) r.ns = (j : Int)) := hi
  clear hcn hj hi
  have BR0 := Bx.new w [.slice aw r.ws.length cw, .slice at_ r.ts.length ct, .slice ah r.hs.length ch, .slice (some ⟨bn, on, none⟩) r.ns.length cn, .int .i64 r.nw, .int .i64 r.nt] 30
  replace BR0 := BR0.alloc (.cells #[.int .i64 h, .int .i64 s] 33)
  replace BR0 := BR0.alloc (.cells #[.slice none 0 0, .slice none 0 0, .slice none 0 0, .slice none 0 0, .int .i64 0, .int .i64 0] 30)
  replace BR0 := BR0.alloc (.cells #[.int .i64 0, .string ⟨#[]⟩, .int .i64 0, .int .i64 0] 52)
  have BP0 := Bx.new (w.alloc (.cells #[.slice aw r.ws.length cw, .slice at_ r.ts.length ct, .slice ah r.hs.length ch, .slice (some ⟨bn, on, none⟩) r.ns.length cn, .int .i64 r.nw, .int .i64 r.nt] 30)) [.int .i64 h, .int .i64 s] 33
  rw [sz_alloc] at BP0
  replace BP0 := BP0.alloc (.cells #[.slice none 0 0, .slice none 0 0, .slice none 0 0, .slice none 0 0, .int .i64 0, .int .i64 0] 30)
  replace BP0 := BP0.alloc (.cells #[.int .i64 0, .string ⟨#[]⟩, .int .i64 0, .int .i64 0] 52)
  have BZ0 := Bx.new ((w.alloc (.cells #[.slice aw r.ws.length cw, .slice at_ r.ts.length ct, .slice ah r.hs.length ch, .slice (some ⟨bn, on, none⟩) r.ns.length cn, .int .i64 r.nw, .int .i64 r.nt] 30)).alloc (.cells #[.int .i64 h, .int .i64 s] 33)) [.slice none 0 0, .slice none 0 0, .slice none 0 0, .slice none 0 0, .int .i64 0, .int .i64 0] 30
  rw [sz_alloc, sz_alloc] at BZ0
  replace BZ0 := BZ0.alloc (.cells #[.int .i64 0, .string ⟨#[]⟩, .int .i64 0, .int .i64 0] 52)
  have BY0 := Bx.new (((w.alloc (.cells #[.slice aw r.ws.length cw, .slice at_ r.ts.length ct, .slice ah r.hs.length ch, .slice (some ⟨bn, on, none⟩) r.ns.length cn, .int .i64 r.nw, .int .i64 r.nt] 30)).alloc (.cells #[.int .i64 h, .int .i64 s] 33)).alloc (.cells #[.slice none 0 0, .slice none 0 0, .slice none 0 0, .slice none 0 0, .int .i64 0, .int .i64 0] 30)) [.int .i64 0, .string ⟨#[]⟩, .int .i64 0, .int .i64 0] 52
  rw [sz_alloc, sz_alloc, sz_alloc] at BY0
  have bl0 := ((((Below.refl w.heap.size w).alloc (by first | exact Nat.le_refl _ | (simp <;> omega)) (.cells #[.slice aw r.ws.length cw, .slice at_ r.ts.length ct, .slice ah r.hs.length ch, .slice (some ⟨bn, on, none⟩) r.ns.length cn, .int .i64 r.nw, .int .i64 r.nt] 30)).alloc (by first | exact Nat.le_refl _ | (simp <;> omega)) (.cells #[.int .i64 h, .int .i64 s] 33)).alloc (by first | exact Nat.le_refl _ | (simp <;> omega)) (.cells #[.slice none 0 0, .slice none 0 0, .slice none 0 0, .slice none 0 0, .int .i64 0, .int .i64 0] 30)).alloc (by first | exact Nat.le_refl _ | (simp <;> omega)) (.cells #[.int .i64 0, .string ⟨#[]⟩, .int .i64 0, .int .i64 0] 52)
  go_enter Tryz.func13, Tryz.ntmps13
  go_wp2_with fail
  refine (who_ok aw at_ ah (some ⟨bn, on, none⟩) cw ct ch cn r h s 2 1 _ (hr.below bl0) hz hc).mono ?_
  rintro e w1 ⟨rfl, hb1⟩
  have BR1 := BR0.below hb1
  have BP1 := BP0.below hb1
  have BZ1 := BZ0.below hb1
  have BY1 := BY0.below hb1
  have bl1 := Below_after bl0 hb1
  clear BR0 BP0 BZ0 BY0 bl0
  have lw1 := BY1.1
  generalize hx' : getW r h s = x at *
  have Hx : Hid (getW r h s = x) := hx'
  clear hx'
  obtain ⟨cR0, cR1, cR2, cR3, cR4, cR5⟩ := BR1.c6
  have zR := BR1.1
  obtain ⟨cP0, cP1⟩ := BP1.c2
  have zP := BP1.1
  obtain ⟨cZ0, cZ1, cZ2, cZ3, cZ4, cZ5⟩ := BZ1.c6
  have zZ := BZ1.1
  obtain ⟨cY0, cY1, cY2, cY3⟩ := BY1.c4
  have zY := BY1.1
  go_wp2_with fail
  clear cR0 cR1 cR2 cR3 cR4 cR5 zR cP0 cP1 zP cZ0 cZ1 cZ2 cZ3 cZ4 cZ5 zZ cY0 cY1 cY2 cY3 zY
  have BR2 := BR1.alloc (.cells #[.int .i64 x.id, .int .i64 x.thing, .int .i64 x.rights, .int .i64 x.badge, .int .i64 x.frm] 39)
  have BP2 := BP1.alloc (.cells #[.int .i64 x.id, .int .i64 x.thing, .int .i64 x.rights, .int .i64 x.badge, .int .i64 x.frm] 39)
  have BZ2 := BZ1.alloc (.cells #[.int .i64 x.id, .int .i64 x.thing, .int .i64 x.rights, .int .i64 x.badge, .int .i64 x.frm] 39)
  have BY2 := BY1.alloc (.cells #[.int .i64 x.id, .int .i64 x.thing, .int .i64 x.rights, .int .i64 x.badge, .int .i64 x.frm] 39)
  have bl2 := bl1.alloc bl1.size (.cells #[.int .i64 x.id, .int .i64 x.thing, .int .i64 x.rights, .int .i64 x.badge, .int .i64 x.frm] 39)
  have BX2 := Bx.new w1 [.int .i64 x.id, .int .i64 x.thing, .int .i64 x.rights, .int .i64 x.badge, .int .i64 x.frm] 39
  clear BR1 BP1 BZ1 BY1 bl1
  generalize hg2 : (w1.alloc (.cells #[.int .i64 x.id, .int .i64 x.thing, .int .i64 x.rights, .int .i64 x.badge, .int .i64 x.frm] 39)) = w2 at BR2 BP2 BZ2 BY2 BX2 bl2 ⊢
  clear hg2
  have sg2X := BX2.1
  refine (idx_anyn (some ⟨bn, on, none⟩) cn r.ns (atPort x.thing) 33 _ eg _ _ (takes_any x (w1.heap.size) _ (BX2.2 1 _ rfl).1 BX2.1) (Below.refl _ _) (hr.n.below bl2) (by omega)).mono ?_
  rintro e w3 ⟨rfl, hb3⟩
  have sz3 : w2.heap.size ≤ w3.heap.size := hb3.size
  have BR3 := BR2.below hb3
  have BP3 := BP2.below hb3
  have BZ3 := BZ2.below hb3
  have BY3 := BY2.below hb3
  have BX3 := BX2.below hb3
  have bl3 := Below_after bl2 hb3
  clear BR2 BP2 BZ2 BY2 BX2 bl2
  have lw3 := BY3.1
  rw [HI.out]
  obtain ⟨q0, q1, q2, q3⟩ := Q.out.below bl3 hbn
  have hbz : bn < w3.heap.size := Nat.lt_of_lt_of_le hbn bl3.size
  obtain ⟨cR0, cR1, cR2, cR3, cR4, cR5⟩ := BR3.c6
  have zR := BR3.1
  obtain ⟨cP0, cP1⟩ := BP3.c2
  have zP := BP3.1
  obtain ⟨cZ0, cZ1, cZ2, cZ3, cZ4, cZ5⟩ := BZ3.c6
  have zZ := BZ3.1
  obtain ⟨cY0, cY1, cY2, cY3⟩ := BY3.c4
  have zY := BY3.1
  obtain ⟨cX0, cX1, cX2, cX3, cX4⟩ := BX3.c5
  have zX := BX3.1
  go_wp2_with fail
  clear cR0 cR1 cR2 cR3 cR4 cR5 zR cP0 cP1 zP cZ0 cZ1 cZ2 cZ3 cZ4 cZ5 zZ cY0 cY1 cY2 cY3 zY cX0 cX1 cX2 cX3 cX4 zX
  clear q0 q1 q2 q3 hbz
  have BR4 := BR3.alloc (.cells #[.int .i64 n.port, .string n.data, .int .i64 n.badge, .int .i64 n.writ] 52)
  have BP4 := BP3.alloc (.cells #[.int .i64 n.port, .string n.data, .int .i64 n.badge, .int .i64 n.writ] 52)
  have BZ4 := BZ3.alloc (.cells #[.int .i64 n.port, .string n.data, .int .i64 n.badge, .int .i64 n.writ] 52)
  have BY4 := BY3.alloc (.cells #[.int .i64 n.port, .string n.data, .int .i64 n.badge, .int .i64 n.writ] 52)
  have BX4 := BX3.alloc (.cells #[.int .i64 n.port, .string n.data, .int .i64 n.badge, .int .i64 n.writ] 52)
  have bl4 := bl3.alloc bl3.size (.cells #[.int .i64 n.port, .string n.data, .int .i64 n.badge, .int .i64 n.writ] 52)
  have BN4 := Bx.new w3 [.int .i64 n.port, .string n.data, .int .i64 n.badge, .int .i64 n.writ] 52
  clear BR3 BP3 BZ3 BY3 BX3 bl3
  generalize hg4 : (w3.alloc (.cells #[.int .i64 n.port, .string n.data, .int .i64 n.badge, .int .i64 n.writ] 52)) = w4 at BR4 BP4 BZ4 BY4 BX4 BN4 bl4 ⊢
  clear hg4
  have sg4N := BN4.1
  have hlow := BY4.1
  have hs1 : w.heap.size ≤ w4.heap.size := bl4.size
  refine (copy_at aw at_ ah (some ⟨bn, on, none⟩) cw ct ch cn r _ (hr.below bl4) hz).mono ?_
  rintro e w5 ⟨b0, b1, b2, b3, d0, d1, d2, d3, rfl, hO, hb5⟩
  have sz5 : w4.heap.size ≤ w5.heap.size := hb5.size
  have BR5 := BR4.below hb5
  have BP5 := BP4.below hb5
  have BZ5 := BZ4.below hb5
  have BY5 := BY4.below hb5
  have BX5 := BX4.below hb5
  have BN5 := BN4.below hb5
  have bl5 := Below_after bl4 hb5
  clear BR4 BP4 BZ4 BY4 BX4 BN4 bl4
  have lw5 := BY5.1
  obtain ⟨cR0, cR1, cR2, cR3, cR4, cR5⟩ := BR5.c6
  have zR := BR5.1
  obtain ⟨cP0, cP1⟩ := BP5.c2
  have zP := BP5.1
  obtain ⟨cZ0, cZ1, cZ2, cZ3, cZ4, cZ5⟩ := BZ5.c6
  have zZ := BZ5.1
  obtain ⟨cY0, cY1, cY2, cY3⟩ := BY5.c4
  have zY := BY5.1
  obtain ⟨cX0, cX1, cX2, cX3, cX4⟩ := BX5.c5
  have zX := BX5.1
  obtain ⟨cN0, cN1, cN2, cN3⟩ := BN5.c4
  have zN := BN5.1
  have HO : Hid (OwnsR w5 _ _ _ _ _ _) := hO
  clear hO
  go_wp2_with fail
  clear cR0 cR1 cR2 cR3 cR4 cR5 zR cP0 cP1 zP cZ0 cZ1 cZ2 cZ3 cZ4 cZ5 zZ cY0 cY1 cY2 cY3 zY cX0 cX1 cX2 cX3 cX4 zX cN0 cN1 cN2 cN3 zN
  have tag := RTag.new w5 #[.slice b0 r.ws.length d0, .slice b1 r.ts.length d1, .slice b2 r.hs.length d2, .slice b3 r.ns.length d3, .int .i64 r.nw, .int .i64 r.nt]
  have hO3 := HO.out.below ((Below.refl _ _).alloc (Nat.le_refl _) (.cells #[.slice b0 r.ws.length d0, .slice b1 r.ts.length d1, .slice b2 r.hs.length d2, .slice b3 r.ns.length d3, .int .i64 r.nw, .int .i64 r.nt] 30))
  clear HO
  have BR6 := BR5.alloc (.cells #[.slice b0 r.ws.length d0, .slice b1 r.ts.length d1, .slice b2 r.hs.length d2, .slice b3 r.ns.length d3, .int .i64 r.nw, .int .i64 r.nt] 30)
  have BP6 := BP5.alloc (.cells #[.slice b0 r.ws.length d0, .slice b1 r.ts.length d1, .slice b2 r.hs.length d2, .slice b3 r.ns.length d3, .int .i64 r.nw, .int .i64 r.nt] 30)
  have BZ6 := BZ5.alloc (.cells #[.slice b0 r.ws.length d0, .slice b1 r.ts.length d1, .slice b2 r.hs.length d2, .slice b3 r.ns.length d3, .int .i64 r.nw, .int .i64 r.nt] 30)
  have BY6 := BY5.alloc (.cells #[.slice b0 r.ws.length d0, .slice b1 r.ts.length d1, .slice b2 r.hs.length d2, .slice b3 r.ns.length d3, .int .i64 r.nw, .int .i64 r.nt] 30)
  have BX6 := BX5.alloc (.cells #[.slice b0 r.ws.length d0, .slice b1 r.ts.length d1, .slice b2 r.hs.length d2, .slice b3 r.ns.length d3, .int .i64 r.nw, .int .i64 r.nt] 30)
  have BN6 := BN5.alloc (.cells #[.slice b0 r.ws.length d0, .slice b1 r.ts.length d1, .slice b2 r.hs.length d2, .slice b3 r.ns.length d3, .int .i64 r.nw, .int .i64 r.nt] 30)
  have bl6 := bl5.alloc bl5.size (.cells #[.slice b0 r.ws.length d0, .slice b1 r.ts.length d1, .slice b2 r.hs.length d2, .slice b3 r.ns.length d3, .int .i64 r.nw, .int .i64 r.nt] 30)
  have BO6 := Bx.new w5 [.slice b0 r.ws.length d0, .slice b1 r.ts.length d1, .slice b2 r.hs.length d2, .slice b3 r.ns.length d3, .int .i64 r.nw, .int .i64 r.nt] 30
  clear BR5 BP5 BZ5 BY5 BX5 BN5 bl5
  generalize hg : (w5.alloc (.cells #[.slice b0 r.ws.length d0, .slice b1 r.ts.length d1, .slice b2 r.hs.length d2, .slice b3 r.ns.length d3, .int .i64 r.nw, .int .i64 r.nt] 30)) = w6 at BR6 BP6 BZ6 BY6 BX6 BN6 BO6 bl6 tag hO3 ⊢
  clear hg
  have hs3 : w5.heap.size < w6.heap.size := BO6.1
  have hlowZ : w.heap.size + 1 + 1 < w4.heap.size := by omega
  have hlowN : w3.heap.size < w4.heap.size := by omega
  refine (free_any ah ch r.hs h _ (hr.h.below bl6) (by unfold maxLen; omega)).mono ?_
  rintro e w7 ⟨rfl, hb7⟩
  have sz7 : w6.heap.size ≤ w7.heap.size := hb7.size
  replace hO3 := hO3.below hb7
  replace tag := tag.below hb7
  have BR7 := BR6.below hb7
  have BP7 := BP6.below hb7
  have BZ7 := BZ6.below hb7
  have BY7 := BY6.below hb7
  have BX7 := BX6.below hb7
  have BN7 := BN6.below hb7
  have BO7 := BO6.below hb7
  have bl7 := Below_after bl6 hb7
  clear BR6 BP6 BZ6 BY6 BX6 BN6 BO6 bl6
  have lw7 := BY7.1
  generalize hF' : freeP r.hs h = F at *
  have HFr : Hid (freeP r.hs h = F) := hF'
  clear hF'
  obtain ⟨H, hH⟩ : ∃ H, (putL r.hs h F n.writ).length = H := ⟨_, rfl⟩
  have HH : Hid ((putL r.hs h F n.writ).length = H) := hH
  clear hH
  obtain ⟨cR0, cR1, cR2, cR3, cR4, cR5⟩ := BR7.c6
  have zR := BR7.1
  obtain ⟨cP0, cP1⟩ := BP7.c2
  have zP := BP7.1
  obtain ⟨cZ0, cZ1, cZ2, cZ3, cZ4, cZ5⟩ := BZ7.c6
  have zZ := BZ7.1
  obtain ⟨cY0, cY1, cY2, cY3⟩ := BY7.c4
  have zY := BY7.1
  obtain ⟨cX0, cX1, cX2, cX3, cX4⟩ := BX7.c5
  have zX := BX7.1
  obtain ⟨cN0, cN1, cN2, cN3⟩ := BN7.c4
  have zN := BN7.1
  obtain ⟨cO0, cO1, cO2, cO3, cO4, cO5⟩ := BO7.c6
  have zO := BO7.1
  have HO3 : Hid (OwnsR _ _ _ _ _ _ _) := hO3
  have HT3 : Hid (RTag _ _) := tag
  clear hO3 tag
  go_wp2_with fail
  clear cR0 cR1 cR2 cR3 cR4 cR5 zR cP0 cP1 zP cZ0 cZ1 cZ2 cZ3 cZ4 cZ5 zZ cY0 cY1 cY2 cY3 zY cX0 cX1 cX2 cX3 cX4 zX cN0 cN1 cN2 cN3 zN cO0 cO1 cO2 cO3 cO4 cO5 zO
  refine (put_row b2 d2 r.hs h F n.writ _ (HdsAt.ofRow HO3.out.rh).1 mh H HH.out).mono ?_
  rintro e w8 ⟨b2', d2', rfl, hrow, hb8⟩
  have sz8 : w7.heap.size ≤ w8.heap.size := hb8.size
  have hO4 := (HO3.out.below hb8).put2 hrow (by omega)
  have tag4 := HT3.out.below hb8
  clear HO3 HT3 hrow
  have BR8 := BR7.below hb8
  have BP8 := BP7.below hb8
  have BZ8 := BZ7.below hb8
  have BY8 := BY7.below hb8
  have BX8 := BX7.below hb8
  have BN8 := BN7.below hb8
  have BO8 := BO7.below hb8
  have bl8 := Below_after bl7 hb8
  clear BR7 BP7 BZ7 BY7 BX7 BN7 BO7 bl7
  have lw8 := BY8.1
  have HO4 : Hid (OwnsR _ _ _ _ _ _ _) := hO4
  have HT4 : Hid (RTag _ _) := tag4
  clear hO4 tag4
  obtain ⟨cR0, cR1, cR2, cR3, cR4, cR5⟩ := BR8.c6
  have zR := BR8.1
  obtain ⟨cP0, cP1⟩ := BP8.c2
  have zP := BP8.1
  obtain ⟨cZ0, cZ1, cZ2, cZ3, cZ4, cZ5⟩ := BZ8.c6
  have zZ := BZ8.1
  obtain ⟨cY0, cY1, cY2, cY3⟩ := BY8.c4
  have zY := BY8.1
  obtain ⟨cX0, cX1, cX2, cX3, cX4⟩ := BX8.c5
  have zX := BX8.1
  obtain ⟨cN0, cN1, cN2, cN3⟩ := BN8.c4
  have zN := BN8.1
  obtain ⟨cO0, fO0, cO1, fO1, cO2, fO2, cO3, fO3, cO4, fO4, cO5, fO5⟩ := BO8.cf6
  have zO := BO8.1
  go_wp2_with fail
  clear cR0 cR1 cR2 cR3 cR4 cR5 zR cP0 cP1 zP cZ0 cZ1 cZ2 cZ3 cZ4 cZ5 zZ cY0 cY1 cY2 cY3 zY cX0 cX1 cX2 cX3 cX4 zX cN0 cN1 cN2 cN3 zN cO0 fO0 cO1 fO1 cO2 fO2 cO3 fO3 cO4 fO4 cO5 fO5 zO
  have BR9 := BR8.other (b' := w5.heap.size) (by first | omega | (have := BO8.1; have := BR8.1; omega)) 2 (.slice b2' H d2')
  have BP9 := BP8.other (b' := w5.heap.size) (by first | omega | (have := BO8.1; have := BP8.1; omega)) 2 (.slice b2' H d2')
  have BZ9 := BZ8.other (b' := w5.heap.size) (by first | omega | (have := BO8.1; have := BZ8.1; omega)) 2 (.slice b2' H d2')
  have BY9 := BY8.other (b' := w5.heap.size) (by first | omega | (have := BO8.1; have := BY8.1; omega)) 2 (.slice b2' H d2')
  have BX9 := BX8.other (b' := w5.heap.size) (by first | omega | (have := BO8.1; have := BX8.1; omega)) 2 (.slice b2' H d2')
  have BN9 := BN8.other (b' := w5.heap.size) (by first | omega | (have := BO8.1; have := BN8.1; omega)) 2 (.slice b2' H d2')
  have BO9 := BO8.set 2 (.slice b2' H d2')
  simp only [List.set_cons_zero, List.set_cons_succ] at BO9
  have bl9 := bl8.setCell (p := ⟨w5.heap.size, 2, none⟩) (by show w.heap.size ≤ w5.heap.size; omega) (.slice b2' H d2')
  clear BR8 BP8 BZ8 BY8 BX8 BN8 BO8 bl8
  have hO5 := HO4.out.setTag HT4.out 2 (.slice b2' H d2')
  have tag5 := HT4.out.set 2 (.slice b2' H d2')
  clear HO4 HT4
  generalize hg : w8.setCell ⟨w5.heap.size, 2, none⟩ (.slice b2' H d2') = wK at BR9 BP9 BZ9 BY9 BX9 BN9 BO9 bl9 hO5 tag5 ⊢
  clear hg
  refine (cut_n (.slice b3 r.ns.length d3) r.ns j hjl _ w4.heap.size hO5.rn mn).mono ?_
  rintro e wC ⟨v3', rfl, hoC, hgC⟩
  have hneO := own_ne_tag hO5.rn tag5 (by decide)
  have hsC := hgC.size
  have BZ40 := BZ9.grown hgC (ownBlock_ne hO5.rn hlowZ).symm
  have BY40 := BY9.grown hgC (ownBlock_ne hO5.rn hlow).symm
  have BN40 := BN9.grown hgC (ownBlock_ne hO5.rn hlowN).symm
  have BO40 := BO9.grown hgC hneO.symm
  have tagC := tag5.grown hgC hneO.symm
  have bl40 := bl9.grown hgC bl9.size (fun k hk => by have := (hO5.rn.lt k hk).1; omega)
  have hOC := hO5.cut3 hgC hoC
  clear hgC hoC hneO hO5 tag5 bl9 BR9 BP9 BZ9 BY9 BX9 BN9 BO9
  obtain ⟨b3', d3', hv, -, -⟩ := nrow_at hOC.rn
  obtain ⟨T, hT⟩ : ∃ T, T = (r.ns.eraseIdx j).length := ⟨_, rfl⟩
  have hv' : v3' = .slice b3' T d3' := by subst hT; exact hv
  subst hv'
  clear hv hT
  have HOC : Hid (OwnsR _ _ _ _ _ _ _) := hOC
  have HTC : Hid (RTag _ _) := tagC
  clear hOC tagC
  obtain ⟨cZ0, cZ1, cZ2, cZ3, cZ4, cZ5⟩ := BZ40.c6
  have zZ := BZ40.1
  obtain ⟨cY0, cY1, cY2, cY3⟩ := BY40.c4
  have zY := BY40.1
  obtain ⟨cN0, cN1, cN2, cN3⟩ := BN40.c4
  have zN := BN40.1
  obtain ⟨cO0, fO0, cO1, fO1, cO2, fO2, cO3, fO3, cO4, fO4, cO5, fO5⟩ := BO40.cf6
  have zO := BO40.1
  go_wp2_with fail
  clear cZ0 cZ1 cZ2 cZ3 cZ4 cZ5 zZ cY0 cY1 cY2 cY3 zY cN0 cN1 cN2 cN3 zN cO0 fO0 cO1 fO1 cO2 fO2 cO3 fO3 cO4 fO4 cO5 fO5 zO
  have BZ41 := BZ40.other (b' := w5.heap.size) (by first | omega | (have := BO40.1; have := BZ40.1; omega)) 3 (.slice b3' T d3')
  have BY41 := BY40.other (b' := w5.heap.size) (by first | omega | (have := BO40.1; have := BY40.1; omega)) 3 (.slice b3' T d3')
  have BN41 := BN40.other (b' := w5.heap.size) (by first | omega | (have := BO40.1; have := BN40.1; omega)) 3 (.slice b3' T d3')
  have BO41 := BO40.set 3 (.slice b3' T d3')
  simp only [List.set_cons_zero, List.set_cons_succ] at BO41
  have bl41 := bl40.setCell (p := ⟨w5.heap.size, 3, none⟩) (by show w.heap.size ≤ w5.heap.size; omega) (.slice b3' T d3')
  clear BZ40 BY40 BN40 BO40 bl40
  have hO8 := HOC.out.setTag HTC.out 3 (.slice b3' T d3')
  have HO8 : Hid (OwnsR _ _ _ _ _ _ _) := hO8
  clear hO8 HOC HTC
  generalize hg : wC.setCell ⟨w5.heap.size, 3, none⟩ (.slice b3' T d3') = wF at BZ41 BY41 BN41 BO41 bl41 HO8 ⊢
  clear hg
  have BZ50 := BZ41.below ((Below.refl _ _).drew)
  have BY50 := BY41.below ((Below.refl _ _).drew)
  have BO50 := BO41.below ((Below.refl _ _).drew)
  have BN50 := BN41.below ((Below.refl _ _).drew)
  have bl50 := bl41.drew
  have HO50 : Hid (OwnsR _ _ _ _ _ _ _) := HO8.out.below ((Below.refl _ _).drew)
  have srp : STv (w5.heap.size) (w3.heap.size) (.slice b0 r.ws.length d0) (.slice b1 r.ts.length d1) (.slice b2' H d2') (.slice b3' T d3') (.int .i64 r.nw) (.int .i64 r.nt) (.int .i64 n.port) (.string n.data) (.int .i64 n.badge) (.int .i64 n.writ) wF.drew := STv_of BO50 BN50
  refine wp_region_held_drew (S := STv (w5.heap.size) (w3.heap.size) (.slice b0 r.ws.length d0) (.slice b1 r.ts.length d1) (.slice b2' H d2') (.slice b3' T d3') (.int .i64 r.nw) (.int .i64 r.nt) (.int .i64 n.port) (.string n.data) (.int .i64 n.badge) (.int .i64 n.writ)) (by kernel_rfl) ?_ (fun hHeld => ?_)
  · exact srp
  generalize hg : wF.drew = wG at BZ50 BY50 BO50 BN50 bl50 HO50 hHeld ⊢
  clear hg srp HO8 BZ41 BY41 BN41 BO41 bl41
  refine tkI 0 (.agg #[.slice b0 r.ws.length d0, .slice b1 r.ts.length d1, .slice b2' H d2', .slice b3' T d3', .int .i64 r.nw, .int .i64 r.nt]) rfl ?_
  refine tkI 1 (.agg #[.int .i64 n.port, .string n.data, .int .i64 n.badge, .int .i64 n.writ]) rfl ?_
  refine tkI 2 (.int .i64 F) rfl ?_
  obtain ⟨cZ0, fZ0, cZ1, fZ1, cZ2, fZ2, cZ3, fZ3, cZ4, fZ4, cZ5, fZ5⟩ := BZ50.cf6
  have zZ := BZ50.1
  obtain ⟨cY0, fY0, cY1, fY1, cY2, fY2, cY3, fY3⟩ := BY50.cf4
  have zY := BY50.1
  have hnO : ¬ w5.heap.size = w.heap.size + 1 + 1 := by omega
  have hnO2 : ¬ w5.heap.size = w.heap.size + 1 + 1 + 1 := by omega
  have hnN : ¬ w3.heap.size = w.heap.size + 1 + 1 := by omega
  have hnN2 : ¬ w3.heap.size = w.heap.size + 1 + 1 + 1 := by omega
  refine rdI 3 rfl (fun K hK => ?_)
  go_wp2_with fail
  refine hK.out _ _ ?_ (fun hHeld => ?_)
  · exact STv_of (BO50.past6 hnO (.slice b0 r.ws.length d0) (.slice b1 r.ts.length d1) (.slice b2' H d2') (.slice b3' T d3') (.int .i64 r.nw) (.int .i64 r.nt)) (BN50.past6 hnN (.slice b0 r.ws.length d0) (.slice b1 r.ts.length d1) (.slice b2' H d2') (.slice b3' T d3') (.int .i64 r.nw) (.int .i64 r.nt))
  clear hK K
  (try simp only [Act.put, List.setIfInBounds_toArray, List.set_cons_zero, List.set_cons_succ])
  refine rdI 4 rfl (fun K hK => ?_)
  go_wp2_with fail
  refine hK.out _ _ ?_ (fun hHeld => ?_)
  · exact STv_of ((BO50.past6 hnO (.slice b0 r.ws.length d0) (.slice b1 r.ts.length d1) (.slice b2' H d2') (.slice b3' T d3') (.int .i64 r.nw) (.int .i64 r.nt)).past4 hnO2 (.int .i64 n.port) (.string n.data) (.int .i64 n.badge) (.int .i64 n.writ)) ((BN50.past6 hnN (.slice b0 r.ws.length d0) (.slice b1 r.ts.length d1) (.slice b2' H d2') (.slice b3' T d3') (.int .i64 r.nw) (.int .i64 r.nt)).past4 hnN2 (.int .i64 n.port) (.string n.data) (.int .i64 n.badge) (.int .i64 n.writ))
  clear hK K
  (try simp only [Act.put, List.setIfInBounds_toArray, List.set_cons_zero, List.set_cons_succ])
  refine rdI 5 rfl (fun K hK => ?_)
  go_wp2_with fail
  refine hK.out _ _ ?_ (fun hHeld => ?_)
  · assumption
  clear hK K
  (try simp only [Act.put, List.setIfInBounds_toArray, List.set_cons_zero, List.set_cons_succ])
  refine rdI 6 rfl (fun K hK => ?_)
  go_wp2_with fail
  refine hK.out _ _ ?_ (fun hHeld => ?_)
  · assumption
  clear hK K
  (try simp only [Act.put, List.setIfInBounds_toArray, List.set_cons_zero, List.set_cons_succ])
  refine wpAnyH_done (by kernel_rfl) ?_ _
  go_wp2_with fail
  obtain ⟨y0, y1, y2, y3, y4, y5⟩ := ((BZ50.put6 (.slice b0 r.ws.length d0) (.slice b1 r.ts.length d1) (.slice b2' H d2') (.slice b3' T d3') (.int .i64 r.nw) (.int .i64 r.nt)).past4 (b' := w.heap.size + 1 + 1 + 1) (by omega) (.int .i64 n.port) (.string n.data) (.int .i64 n.badge) (.int .i64 n.writ)).six
  obtain ⟨u0, u1, u2, u3⟩ := ((BY50.past6 (b' := w.heap.size + 1 + 1) (by omega) (.slice b0 r.ws.length d0) (.slice b1 r.ts.length d1) (.slice b2' H d2') (.slice b3' T d3') (.int .i64 r.nw) (.int .i64 r.nt)).put4 (.int .i64 n.port) (.string n.data) (.int .i64 n.badge) (.int .i64 n.writ)).four
  have blF := (below_set4 (below_set6 bl50 (b := w.heap.size + 1 + 1) (by omega) (.slice b0 r.ws.length d0) (.slice b1 r.ts.length d1) (.slice b2' H d2') (.slice b3' T d3') (.int .i64 r.nw) (.int .i64 r.nt)) (b := w.heap.size + 1 + 1 + 1) (by omega) (.int .i64 n.port) (.string n.data) (.int .i64 n.badge) (.int .i64 n.writ))
  have hOF := ((HO50.out.set6 (b := w.heap.size + 1 + 1) (by omega) (.slice b0 r.ws.length d0) (.slice b1 r.ts.length d1) (.slice b2' H d2') (.slice b3' T d3') (.int .i64 r.nw) (.int .i64 r.nt)).setLow4 (b := w.heap.size + 1 + 1 + 1) (by omega) (.int .i64 n.port) (.string n.data) (.int .i64 n.badge) (.int .i64 n.writ)).mono hs1
  generalize hgF : ((((((((((wG.setCell ⟨w.heap.size + 1 + 1, 0, none⟩ (.slice b0 r.ws.length d0)).setCell ⟨w.heap.size + 1 + 1, 1, none⟩ (.slice b1 r.ts.length d1)).setCell ⟨w.heap.size + 1 + 1, 2, none⟩ (.slice b2' H d2')).setCell ⟨w.heap.size + 1 + 1, 3, none⟩ (.slice b3' T d3')).setCell ⟨w.heap.size + 1 + 1, 4, none⟩ (.int .i64 r.nw)).setCell ⟨w.heap.size + 1 + 1, 5, none⟩ (.int .i64 r.nt)).setCell ⟨w.heap.size + 1 + 1 + 1, 0, none⟩ (.int .i64 n.port)).setCell ⟨w.heap.size + 1 + 1 + 1, 1, none⟩ (.string n.data)).setCell ⟨w.heap.size + 1 + 1 + 1, 2, none⟩ (.int .i64 n.badge)).setCell ⟨w.heap.size + 1 + 1 + 1, 3, none⟩ (.int .i64 n.writ)) = WF at y0 y1 y2 y3 y4 y5 u0 u1 u2 u3 blF hOF ⊢
  clear hgF
  refine bodyPost_ret (v := .tuple #[.agg #[.slice b0 r.ws.length d0, .slice b1 r.ts.length d1, .slice b2' H d2', .slice b3' T d3', .int .i64 r.nw, .int .i64 r.nt], .agg #[.int .i64 n.port, .string n.data, .int .i64 n.badge, .int .i64 n.writ], .int .i64 F, .nilIface]) (by simp [results, Tryz.results13, go_sem, y0, y1, y2, y3, y4, y5, u0, u1, u2, u3]) rfl ?_
  exact ⟨_, _, _, _, by rw [HN.out, HSl.out], by unfold takeR; rw [HN.out, Hx.out, HIX.out, if_neg HW.out, HFr.out]; exact hOF, blF⟩
end Go.Proofs.YtddgpgldbekamaaGreat
