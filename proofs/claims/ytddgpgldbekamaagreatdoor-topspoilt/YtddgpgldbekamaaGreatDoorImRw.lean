/- image.Rows: a realm as rows. -/
import Derived.Test.YtddgpgldbekamaaGreatDoorAllPure
import Derived.Test.YtddgpgldbekamaaGreatDoorImTxt
import Derived.Test.YtddgpgldbekamaaGreatDoorImRd
import Derived.Test.YtddgpgldbekamaaGreatDoorQuietW
set_option linter.unusedVariables false
set_option linter.unusedSimpArgs false
set_option linter.unnecessarySimpa false
namespace Go.Proofs.YtddgpgldbekamaaGreatDoor
open Go.RowKit

theorem Tab.pos {w : World} (h : Tab w) : 0 < w.heap.size := by
  unfold Tab Lib.TabIs World.var? at h
  cases hg : Tryz.prog.globalNamed "internal/strconv.uint64pow10" with
  | none => rw [hg] at h; cases h
  | some g =>
    rw [hg] at h
    simp only [Option.bind_some] at h
    rcases Nat.lt_or_ge g w.heap.size with h' | h'
    · omega
    · rw [Array.getElem?_eq_none h'] at h; cases h
theorem infoChI : (Tryz.prog.info? 52).map (fun i => (i.zero, i.size, i.bytes)) = some (some (.agg #[.string ByteArray.empty, .string ByteArray.empty, .bool false]), 3, 40) := by kernel_rfl
def chI (c : Ch) : List Value := [.string c.key, .string c.val, .bool c.gone]
theorem oneC (a b : ByteArray) (g : Bool) : ∀ u ∈ [Value.string a, .string b, .bool g], u.oneCell' = true := by
  intro u hu
  simp at hu
  rcases hu with rfl | rfl | rfl <;> rfl
theorem tx1 (g c : Nat) (a b : Int) (ha : 0 ≤ a ∧ a ≤ 9) (hb : 0 ≤ b ∧ b ≤ 9) (w : World) (hw : Bx w g [.int .i64 a, .int .i64 b]) (ht : Tab w) :
    Calls Tryz.prog 46 #[.int .i64 1, .slice (some ⟨g, 0, none⟩) 2 c] w fun e w' => e = .returned (.string (bsO [dg a.toNat, dg b.toNat])) ∧ Below w.heap.size w w' := by
  refine text1 g c a.toNat b.toNat (by omega) (by omega) w ?_ ht
  rw [show inV [a.toNat, b.toNat] = [.int .i64 ((a.toNat : Nat) : Int), .int .i64 ((b.toNat : Nat) : Int)] from rfl, Int.toNat_of_nonneg ha.1, Int.toNat_of_nonneg hb.1]
  exact hw
theorem tx41 (g c : Nat) (a : Int) (ha : N4 a) (w : World) (hw : Bx w g [.int .i64 a]) (ht : Tab w) :
    Calls Tryz.prog 46 #[.int .i64 4, .slice (some ⟨g, 0, none⟩) 1 c] w fun e w' => e = .returned (.string (bsO (d4 a.toNat))) ∧ Below w.heap.size w w' := by
  have h2 : Bx w g (inV [a.toNat]) := by
    rw [show inV [a.toNat] = [.int .i64 ((a.toNat : Nat) : Int)] from rfl, Int.toNat_of_nonneg ha.1]; exact hw
  have := text4 g c [a.toNat] (fun n hn => by rw [List.mem_singleton.1 hn]; have := ha.2; omega) (by simp) w h2 ht
  simpa using this
theorem tx42 (g c : Nat) (a b : Int) (ha : N4 a) (hb : N4 b) (w : World) (hw : Bx w g [.int .i64 a, .int .i64 b]) (ht : Tab w) :
    Calls Tryz.prog 46 #[.int .i64 4, .slice (some ⟨g, 0, none⟩) 2 c] w fun e w' => e = .returned (.string (bsO (d4 a.toNat ++ d4 b.toNat))) ∧ Below w.heap.size w w' := by
  have h2 : Bx w g (inV [a.toNat, b.toNat]) := by
    rw [show inV [a.toNat, b.toNat] = [.int .i64 ((a.toNat : Nat) : Int), .int .i64 ((b.toNat : Nat) : Int)] from rfl, Int.toNat_of_nonneg ha.1, Int.toNat_of_nonneg hb.1]; exact hw
  have := text4 g c [a.toNat, b.toNat] (fun n hn => by have := ha.2; have := hb.2; simp at hn; omega) (by simp) w h2 ht
  simpa using this
theorem tx44 (g c : Nat) (a b d f : Int) (ha : N4 a) (hb : N4 b) (hd : N4 d) (hf : N4 f) (w : World) (hw : Bx w g [.int .i64 a, .int .i64 b, .int .i64 d, .int .i64 f]) (ht : Tab w) :
    Calls Tryz.prog 46 #[.int .i64 4, .slice (some ⟨g, 0, none⟩) 4 c] w fun e w' => e = .returned (.string (bsO (d4 a.toNat ++ d4 b.toNat ++ d4 d.toNat ++ d4 f.toNat))) ∧ Below w.heap.size w w' := by
  have h2 : Bx w g (inV [a.toNat, b.toNat, d.toNat, f.toNat]) := by
    rw [show inV [a.toNat, b.toNat, d.toNat, f.toNat] = [.int .i64 ((a.toNat : Nat) : Int), .int .i64 ((b.toNat : Nat) : Int), .int .i64 ((d.toNat : Nat) : Int), .int .i64 ((f.toNat : Nat) : Int)] from rfl, Int.toNat_of_nonneg ha.1, Int.toNat_of_nonneg hb.1, Int.toNat_of_nonneg hd.1, Int.toNat_of_nonneg hf.1]; exact hw
  have := text4 g c [a.toNat, b.toNat, d.toNat, f.toNat] (fun n hn => by have := ha.2; have := hb.2; have := hd.2; have := hf.2; simp at hn; omega) (by simp) w h2 ht
  have e : [a.toNat, b.toNat, d.toNat, f.toNat].flatMap d4 = d4 a.toNat ++ d4 b.toNat ++ d4 d.toNat ++ d4 f.toNat := by simp
  rw [e] at this
  exact this
theorem cat1 (b : UInt8) (l : List UInt8) : ({ data := #[b] } : ByteArray) ++ bsO l = bsO (b :: l) := bsO_app [b] l
theorem cat2 (a : List UInt8) (s : ByteArray) : bsO a ++ s = bsO (a ++ s.data.toList) := by rw [← bsO_app, bsO_of]
/-- rows that were made, in a world behind another -/
structure RwI (V W : World) (v : Value) (l : List Ch) : Prop where
  bl : Below V.heap.size V W
  own : W.ownsRow V.heap.size 52 3 v l.length (l.flatMap chI)
theorem RwI.below {V W W' : World} {v : Value} {l : List Ch} (h : RwI V W v l) (hb : Below W.heap.size W W') : RwI V W' v l := ⟨h.bl.trans (hb.mono h.bl.size), ownsRow_after h.own hb⟩
theorem RwI.app {V W W' : World} {v v' : Value} {l : List Ch} {c : Ch} (h : RwI V W v l) (ho : W'.ownsRow V.heap.size 52 3 v' (l.length + 1) (l.flatMap chI ++ [.string c.key, .string c.val, .bool c.gone])) (hg : W.grownBy W' v.ownBlock) : RwI V W' v' (l ++ [c]) :=
  ⟨h.bl.grown hg h.bl.size (fun k hk => (h.own.lt k hk).1), by simpa [chI] using ho⟩
theorem RwI.run {V W : World} {v : Value} {l : List Ch} (h : RwI V W v l) (hl : l.length ≤ 10000) (c : Ch) (g : Nat) (hn : Bx W g [.string c.key, .string c.val, .bool c.gone]) : ∃ a n k W', (Builtin.append_ #[23, 23] 23 #[v, .slice (some ⟨g, 0, none⟩) 1 1]).run Tryz.prog W = .ok (.slice a n k) W' ∧ RwI V W' (.slice a n k) (l ++ [c]) ∧ W.grownBy W' v.ownBlock := by
  obtain ⟨i0, hi, hi0, hi1, hi2⟩ := info_parts infoChI
  obtain ⟨v', W', r1, hown, hgrow, -⟩ := run_append_own (P := Tryz.prog) W V.heap.size 23 23 52 i0 (.agg #[.string ByteArray.empty, .string ByteArray.empty, .bool false]) 3 40 Tryz.underlying23 hi hi0 hi1 hi2 rfl (by decide) v _ _ h.own ⟨g, 0, none⟩ 1 1 [.string c.key, .string c.val, .bool c.gone] rfl (fun j u hu => by rw [Addr.add_lit, Nat.zero_add]; exact (hn.2 j u hu).1) (oneC _ _ _) (by unfold maxLen; omega) (by omega) h.bl.size
  obtain ⟨a, n, k, rfl⟩ : ∃ a n k, v' = .slice a n k := by rcases hown.2 with ⟨rfl, _⟩ | ⟨g', cap, cur, rfl, _⟩ <;> exact ⟨_, _, _, rfl⟩
  exact ⟨a, n, k, W', r1, h.app hown hgrow, hgrow⟩
set_option maxHeartbeats 4000000 in
set_option maxRecDepth 100000 in
theorem rows_any (aw at_ ah an : Option Addr) (cw ct ch cn : Nat) (r : Rm) (w : World) (hr : RmAt w aw at_ ah an cw ct ch cn r) (hz : RmSz r) (hq : ImOk (quietR r)) (s1 : (quietR r).hs.length ≤ 1000) (s2 : (quietR r).ts.length ≤ 1000) (s3 : (quietR r).ws.length ≤ 1000) (ht : Tab w) :
    Calls Tryz.prog 15 #[.agg #[.slice aw r.ws.length cw, .slice at_ r.ts.length ct, .slice ah r.hs.length ch, .slice an r.ns.length cn, .int .i64 r.nw, .int .i64 r.nt]] w fun e w' => ∃ v, e = .returned v ∧ w'.ownsRow w.heap.size 52 3 v (rowsL (quietR r)).length ((rowsL (quietR r)).flatMap chI) ∧ Below w.heap.size w w' := by
  have ba : Below w.heap.size w (w.alloc (.cells #[.slice aw r.ws.length cw, .slice at_ r.ts.length ct, .slice ah r.hs.length ch, .slice an r.ns.length cn, .int .i64 r.nw, .int .i64 r.nt] 32)) := (Below.refl _ w).alloc (Nat.le_refl _) _
  have B0 := Bx.new w [.slice aw r.ws.length cw, .slice at_ r.ts.length ct, .slice ah r.hs.length ch, .slice an r.ns.length cn, .int .i64 r.nw, .int .i64 r.nt] 32
  have hpos := ht.pos
  obtain ⟨c0, c1, c2, c3, c4, c5⟩ := B0.c6
  have hz0 := B0.1
  have hcon := quiet_hi aw at_ ah an cw ct ch cn r _ (hr.below ba) hz
  have e1 : r.nw = (quietR r).nw := rfl
  have e2 : r.nt = (quietR r).nt := rfl
  go_enter Tryz.func15, Tryz.ntmps15
  go_wp2_with fail
  refine hcon.mono ?_
  rintro e w1 ⟨b0, b1, b2, b3, d0, d1, d2, d3, rfl, hR, ⟨i0, i1, i2, i3⟩, hb1⟩
  rw [e1, e2]
  clear hcon e1 e2 c0 c1 c2 c3 c4 c5 hz0
  generalize hQQ : quietR r = q at *
  have HQ : Hid (quietR r = q) := hQQ
  clear hQQ
  have B1 := B0.below hb1
  have bl1 := Below_after ba hb1
  rw [sz_alloc] at i0 i1 i2 i3
  have hRV : RmAt ((((((w1.setCell ⟨w.heap.size, 0, none⟩ (.slice b0 q.ws.length d0)).setCell ⟨w.heap.size, 1, none⟩ (.slice b1 q.ts.length d1)).setCell ⟨w.heap.size, 2, none⟩ (.slice b2 q.hs.length d2)).setCell ⟨w.heap.size, 3, none⟩ (.slice b3 q.ns.length d3)).setCell ⟨w.heap.size, 4, none⟩ (.int .i64 q.nw)).setCell ⟨w.heap.size, 5, none⟩ (.int .i64 q.nt)) b0 b1 b2 b3 d0 d1 d2 d3 q := hR.setB6 (off_hi (n := 0) (m := w.heap.size) i0 (by omega) (by omega)) (off_hi (n := 0) (m := w.heap.size) i1 (by omega) (by omega)) (off_hi (n := 0) (m := w.heap.size) i2 (by omega) (by omega)) (off_hi (n := 0) (m := w.heap.size) i3 (by omega) (by omega)) (b := w.heap.size) (.inr (.inr rfl)) (.slice b0 q.ws.length d0) (.slice b1 q.ts.length d1) (.slice b2 q.hs.length d2) (.slice b3 q.ns.length d3) (.int .i64 q.nw) (.int .i64 q.nt)
  have BV : Bx ((((((w1.setCell ⟨w.heap.size, 0, none⟩ (.slice b0 q.ws.length d0)).setCell ⟨w.heap.size, 1, none⟩ (.slice b1 q.ts.length d1)).setCell ⟨w.heap.size, 2, none⟩ (.slice b2 q.hs.length d2)).setCell ⟨w.heap.size, 3, none⟩ (.slice b3 q.ns.length d3)).setCell ⟨w.heap.size, 4, none⟩ (.int .i64 q.nw)).setCell ⟨w.heap.size, 5, none⟩ (.int .i64 q.nt)) w.heap.size _ := B1.put6 (.slice b0 q.ws.length d0) (.slice b1 q.ts.length d1) (.slice b2 q.hs.length d2) (.slice b3 q.ns.length d3) (.int .i64 q.nw) (.int .i64 q.nt)
  have blV : Below w.heap.size w ((((((w1.setCell ⟨w.heap.size, 0, none⟩ (.slice b0 q.ws.length d0)).setCell ⟨w.heap.size, 1, none⟩ (.slice b1 q.ts.length d1)).setCell ⟨w.heap.size, 2, none⟩ (.slice b2 q.hs.length d2)).setCell ⟨w.heap.size, 3, none⟩ (.slice b3 q.ns.length d3)).setCell ⟨w.heap.size, 4, none⟩ (.int .i64 q.nw)).setCell ⟨w.heap.size, 5, none⟩ (.int .i64 q.nt)) := below_set6 bl1 (Nat.le_refl _) (.slice b0 q.ws.length d0) (.slice b1 q.ts.length d1) (.slice b2 q.hs.length d2) (.slice b3 q.ns.length d3) (.int .i64 q.nw) (.int .i64 q.nt)
  have tab := ht.below blV
  obtain ⟨c0, f0, c1, f1, c2, f2, c3, f3, c4, f4, c5, f5⟩ := B1.cf6
  have hz0 := B1.1
  clear hb1 bl1 hR i0 i1 i2 i3 B0 ba hr ht B1
  go_wp2_with fail
  clear c0 f0 c1 f1 c2 f2 c3 f3 c4 f4 c5 f5 hz0
  generalize hV : ((((((w1.setCell ⟨w.heap.size, 0, none⟩ (.slice b0 q.ws.length d0)).setCell ⟨w.heap.size, 1, none⟩ (.slice b1 q.ts.length d1)).setCell ⟨w.heap.size, 2, none⟩ (.slice b2 q.hs.length d2)).setCell ⟨w.heap.size, 3, none⟩ (.slice b3 q.ns.length d3)).setCell ⟨w.heap.size, 4, none⟩ (.int .i64 q.nw)).setCell ⟨w.heap.size, 5, none⟩ (.int .i64 q.nt)) = V at *
  clear hV
  go_loopw [15, 3] (fun i v wr => ∃ k : Nat, k ≤ q.hs.length ∧ i = .int .i64 k ∧ RwI V wr v ((q.hs.take k).map hRow)) (fun i _ _ => q.hs.length - (intOf i).toNat)
  case atStart => exact ⟨0, Nat.zero_le _, rfl, ⟨Below.refl _ _, World.ownsRow_nil _ _ _ _⟩⟩
  case round =>
    obtain ⟨k, hk, rfl, hI⟩ := hrel
    by_cases hlt : k < q.hs.length
    · obtain ⟨x, hx⟩ : ∃ x, q.hs[k]? = some x := ⟨q.hs[k], List.getElem?_eq_getElem hlt⟩
      obtain ⟨b, o, rfl, hb, hxs⟩ := hRV.h.resolve_left (fun e => by rw [e] at hlt; simp at hlt)
      obtain ⟨q1, q2, q3⟩ := (hxs k x hx).below hI.bl hb
      obtain ⟨hx1, hx2, hx3⟩ := hq.h x (List.mem_of_getElem? hx)
      have hbz : b < wr.heap.size := Nat.lt_of_lt_of_le hb hI.bl.size
      have HT : Hid ((q.hs.take (k + 1)).map hRow = (q.hs.take k).map hRow ++ [hRow x]) := (show (q.hs.take (k + 1)).map hRow = _ from by rw [List.take_add_one, hx]; simp)
      have hL0 : ((q.hs.take k).map hRow).length ≤ 10000 := by simp; omega
      generalize (q.hs.take k).map hRow = L0 at *
      clear hxs hx hRV
      have bq : Below wr.heap.size wr (wr.alloc (.cells #[.int .i64 x.holder, .int .i64 x.slot, .int .i64 x.writ] 85)).drew := ((Below.refl _ wr).alloc (Nat.le_refl _) _).drew
      have BV : Bx (wr.alloc (.cells #[.int .i64 x.holder, .int .i64 x.slot, .int .i64 x.writ] 85)).drew wr.heap.size [.int .i64 x.holder, .int .i64 x.slot, .int .i64 x.writ] := (Bx.new wr [.int .i64 x.holder, .int .i64 x.slot, .int .i64 x.writ] 85).below (below_drewN (Below.refl _ _) 1)
      have RV := hI.below bq
      have hNE : some wr.heap.size ≠ u3.ownBlock := fun e => by have := (hI.own.lt _ e.symm).2; omega
      clear bq hI
      go_wp2_with fail
      refine wp_region_held_drew (S := fun w' => Bx w' wr.heap.size [.int .i64 x.holder, .int .i64 x.slot, .int .i64 x.writ]) (by kernel_rfl) ?_ (fun hHeld => ?_)
      · exact BV
      generalize (wr.alloc (.cells #[.int .i64 x.holder, .int .i64 x.slot, .int .i64 x.writ] 85)).drew = V5 at *
      refine tkJ 0 (u3) rfl (by intro w hSw; (try dsimp only at hSw); clear hSw; go_simp) ?_
      refine tkJ 1 (.pointer (some ⟨wr.heap.size, 0, none⟩)) rfl (by intro w hSw; (try dsimp only at hSw); clear hSw; go_simp) ?_
      refine tkJ 2 (.pointer (some ⟨wr.heap.size, 0, none⟩)) rfl (by intro w hSw; (try dsimp only at hSw); clear hSw; go_simp) ?_
      refine tkJ 3 (.int .i64 x.holder) rfl (by intro w hSw; (try dsimp only at hSw); have z := (hSw.2 0 _ rfl).1; clear hSw; go_simp) ?_
      refine tkJ 4 (.pointer (some ⟨wr.heap.size, 0, none⟩)) rfl (by intro w hSw; (try dsimp only at hSw); clear hSw; go_simp) ?_
      refine tkJ 5 (.pointer (some ⟨wr.heap.size, 1, none⟩)) rfl (by intro w hSw; (try dsimp only at hSw); clear hSw; go_simp) ?_
      refine tkJ 6 (.int .i64 x.slot) rfl (by intro w hSw; (try dsimp only at hSw); have z := (hSw.2 1 _ rfl).1; clear hSw; go_simp) ?_
      refine tkJ 10 (.pointer (some ⟨wr.heap.size, 2, none⟩)) rfl (by intro w hSw; (try dsimp only at hSw); clear hSw; go_simp) ?_
      refine tkJ 11 (.int .i64 x.writ) rfl (by intro w hSw; (try dsimp only at hSw); have z := (hSw.2 2 _ rfl).1; clear hSw; go_simp) ?_
      refine rdJ 7 12 rfl rfl (fun K hK => ?_) (fun K hK => ?_)
      · go_wp2_with fail
        refine hK.out _ _ ?_ (fun hHeld => ?_)
        · exact BV.alloc _
        clear hK K
        (try simp only [Act.put, List.setIfInBounds_toArray, List.set_cons_zero, List.set_cons_succ])
        change wpAnyH _ _ _ _ _ _ _ _ (V5.alloc (.cells #[.int .i64 x.holder, .int .i64 x.slot] 3))
        have b1 : Below V5.heap.size V5 (V5.alloc (.cells #[.int .i64 x.holder, .int .i64 x.slot] 3)) := (Below.refl _ _).alloc (Nat.le_refl _) _
        have g1 := Bx.new V5 [.int .i64 x.holder, .int .i64 x.slot] 3
        refine rdJ 8 12 rfl rfl (fun K hK => ?_) (fun K hK => ?_)
        · go_wp2_with (go_at_call 46; refine Calls.mono (tx1 (V5.heap.size) _ x.holder x.slot hx1 hx2 _ g1 (tab.below (RV.bl.trans (b1.mono RV.bl.size)))) ?_; rintro e w1 ⟨rfl, hb1⟩)
          have n1 : Below V5.heap.size V5 w1 := Below_after b1 hb1
          refine hK.out _ _ ?_ (fun hHeld => ?_)
          · exact BV.below n1
          clear hK K
          (try simp only [Act.put, List.setIfInBounds_toArray, List.set_cons_zero, List.set_cons_succ])
          refine tkJ 9 (.string (bsO (104 :: [dg x.holder.toNat, dg x.slot.toNat]))) rfl (by intro w hSw; clear hSw; go_simp; rw [if_neg (by rw [bsO_size]; simp [d4]), cat1]) ?_
          refine rdI 12 rfl (fun K hK => ?_)
          go_wp2_with fail
          refine hK.out _ _ ?_ (fun hHeld => ?_)
          · exact (BV.below n1).alloc _
          clear hK K
          (try simp only [Act.put, List.setIfInBounds_toArray, List.set_cons_zero, List.set_cons_succ])
          change wpAnyH _ _ _ _ _ _ _ _ (w1.alloc (.cells #[.int .i64 x.writ] 3))
          have b2 : Below V5.heap.size V5 (w1.alloc (.cells #[.int .i64 x.writ] 3)) := n1.alloc n1.size _
          have g2 := Bx.new w1 [.int .i64 x.writ] 3
          refine rdI 13 rfl (fun K hK => ?_)
          go_wp2_with (go_at_call 46; refine Calls.mono (tx41 (w1.heap.size) _ x.writ hx3 _ g2 (tab.below (RV.bl.trans (b2.mono RV.bl.size)))) ?_; rintro e w2 ⟨rfl, hb2⟩)
          have n2 : Below V5.heap.size V5 w2 := Below_after b2 hb2
          refine hK.out _ _ ?_ (fun hHeld => ?_)
          · exact BV.below n2
          clear hK K
          (try simp only [Act.put, List.setIfInBounds_toArray, List.set_cons_zero, List.set_cons_succ])
          have BY := BV.below n2
          have RY := RV.below n2
          clear BV RV
          have RY2 := RY.below ((Below.refl w2.heap.size w2).alloc (Nat.le_refl _) (.cells #[.string (bsO (104 :: [dg x.holder.toNat, dg x.slot.toNat])), .string (bsO (d4 x.writ.toNat)), .bool false] 52))
          obtain ⟨qa, qn, qk, Y2, r1, RZ, hgr⟩ := RY2.run hL0 (hRow x) w2.heap.size (Bx.new w2 [.string (bsO (104 :: [dg x.holder.toNat, dg x.slot.toNat])), .string (bsO (d4 x.writ.toNat)), .bool false] 52)
          have BZ := (BY.alloc (.cells #[.string (bsO (104 :: [dg x.holder.toNat, dg x.slot.toNat])), .string (bsO (d4 x.writ.toNat)), .bool false] 52)).grown hgr hNE
          refine tkJ 14 (.agg #[.string (bsO (104 :: [dg x.holder.toNat, dg x.slot.toNat])), .string (bsO (d4 x.writ.toNat)), .bool false]) rfl (by intro w hSw; (try dsimp only at hSw); clear hSw; go_simp) ?_
          refine rdI 15 rfl (fun K hK => ?_)
          go_wp2_with fail
          refine hK.out _ _ ?_ (fun hHeld => ?_)
          · exact BY.alloc _
          clear hK K
          (try simp only [Act.put, List.setIfInBounds_toArray, List.set_cons_zero, List.set_cons_succ])
          change wpAnyH _ _ _ _ _ _ _ _ (w2.alloc (.cells #[.string (bsO (104 :: [dg x.holder.toNat, dg x.slot.toNat])), .string (bsO (d4 x.writ.toNat)), .bool false] 52))
          refine rdI 16 rfl (fun K hK => ?_)
          refine wp_run (exec_appI _ _ _ _ (by rfl) (by rfl) (by rfl) (by rfl) (by rfl) (by rfl) r1) ?_
          refine hK.out _ _ ?_ (fun hHeld => ?_)
          · exact BZ
          clear hK K
          (try simp only [Act.put, List.setIfInBounds_toArray, List.set_cons_zero, List.set_cons_succ])
          refine tkJ 17 (.slice qa qn qk) rfl (by intro w hSw; (try dsimp only at hSw); clear hSw; go_simp) ?_
          refine wpAnyH_done (by kernel_rfl) ?_ _
          clear BY BZ RY RY2 r1 hgr
          go_wp2_with fail
          go_roundw
          case rel => exact ⟨k + 1, by omega, by go_num, by rw [HT.out]; exact RZ⟩
          case measure => simp [intOf]; omega
        · go_wp2_with fail
          refine hK.out _ _ ?_ (fun hHeld => ?_)
          · exact (BV.below b1).alloc _
          clear hK K
          (try simp only [Act.put, List.setIfInBounds_toArray, List.set_cons_zero, List.set_cons_succ])
          change wpAnyH _ _ _ _ _ _ _ _ ((V5.alloc (.cells #[.int .i64 x.holder, .int .i64 x.slot] 3)).alloc (.cells #[.int .i64 x.writ] 3))
          have b2 : Below V5.heap.size V5 ((V5.alloc (.cells #[.int .i64 x.holder, .int .i64 x.slot] 3)).alloc (.cells #[.int .i64 x.writ] 3)) := b1.alloc b1.size _
          have g1' := g1.alloc (.cells #[.int .i64 x.writ] 3)
          have g2 := Bx.new (V5.alloc (.cells #[.int .i64 x.holder, .int .i64 x.slot] 3)) [.int .i64 x.writ] 3
          rw [sz_alloc] at g2
          refine rdI 8 rfl (fun K hK => ?_)
          go_wp2_with (go_at_call 46; refine Calls.mono (tx1 (V5.heap.size) _ x.holder x.slot hx1 hx2 _ g1' (tab.below (RV.bl.trans (b2.mono RV.bl.size)))) ?_; rintro e w1 ⟨rfl, hb1⟩)
          have n1 : Below V5.heap.size V5 w1 := Below_after b2 hb1
          refine hK.out _ _ ?_ (fun hHeld => ?_)
          · exact BV.below n1
          clear hK K
          (try simp only [Act.put, List.setIfInBounds_toArray, List.set_cons_zero, List.set_cons_succ])
          have g2' := g2.below hb1
          refine tkJ 9 (.string (bsO (104 :: [dg x.holder.toNat, dg x.slot.toNat]))) rfl (by intro w hSw; clear hSw; go_simp; rw [if_neg (by rw [bsO_size]; simp [d4]), cat1]) ?_
          refine rdI 13 rfl (fun K hK => ?_)
          go_wp2_with (go_at_call 46; refine Calls.mono (tx41 (V5.heap.size + 1) _ x.writ hx3 _ g2' (tab.below (RV.bl.trans (n1.mono RV.bl.size)))) ?_; rintro e w2 ⟨rfl, hb2⟩)
          have n2 : Below V5.heap.size V5 w2 := Below_after n1 hb2
          refine hK.out _ _ ?_ (fun hHeld => ?_)
          · exact BV.below n2
          clear hK K
          (try simp only [Act.put, List.setIfInBounds_toArray, List.set_cons_zero, List.set_cons_succ])
          have BY := BV.below n2
          have RY := RV.below n2
          clear BV RV
          have RY2 := RY.below ((Below.refl w2.heap.size w2).alloc (Nat.le_refl _) (.cells #[.string (bsO (104 :: [dg x.holder.toNat, dg x.slot.toNat])), .string (bsO (d4 x.writ.toNat)), .bool false] 52))
          obtain ⟨qa, qn, qk, Y2, r1, RZ, hgr⟩ := RY2.run hL0 (hRow x) w2.heap.size (Bx.new w2 [.string (bsO (104 :: [dg x.holder.toNat, dg x.slot.toNat])), .string (bsO (d4 x.writ.toNat)), .bool false] 52)
          have BZ := (BY.alloc (.cells #[.string (bsO (104 :: [dg x.holder.toNat, dg x.slot.toNat])), .string (bsO (d4 x.writ.toNat)), .bool false] 52)).grown hgr hNE
          refine tkJ 14 (.agg #[.string (bsO (104 :: [dg x.holder.toNat, dg x.slot.toNat])), .string (bsO (d4 x.writ.toNat)), .bool false]) rfl (by intro w hSw; (try dsimp only at hSw); clear hSw; go_simp) ?_
          refine rdI 15 rfl (fun K hK => ?_)
          go_wp2_with fail
          refine hK.out _ _ ?_ (fun hHeld => ?_)
          · exact BY.alloc _
          clear hK K
          (try simp only [Act.put, List.setIfInBounds_toArray, List.set_cons_zero, List.set_cons_succ])
          change wpAnyH _ _ _ _ _ _ _ _ (w2.alloc (.cells #[.string (bsO (104 :: [dg x.holder.toNat, dg x.slot.toNat])), .string (bsO (d4 x.writ.toNat)), .bool false] 52))
          refine rdI 16 rfl (fun K hK => ?_)
          refine wp_run (exec_appI _ _ _ _ (by rfl) (by rfl) (by rfl) (by rfl) (by rfl) (by rfl) r1) ?_
          refine hK.out _ _ ?_ (fun hHeld => ?_)
          · exact BZ
          clear hK K
          (try simp only [Act.put, List.setIfInBounds_toArray, List.set_cons_zero, List.set_cons_succ])
          refine tkJ 17 (.slice qa qn qk) rfl (by intro w hSw; (try dsimp only at hSw); clear hSw; go_simp) ?_
          refine wpAnyH_done (by kernel_rfl) ?_ _
          clear BY BZ RY RY2 r1 hgr
          go_wp2_with fail
          go_roundw
          case rel => exact ⟨k + 1, by omega, by go_num, by rw [HT.out]; exact RZ⟩
          case measure => simp [intOf]; omega
      · go_wp2_with fail
        refine hK.out _ _ ?_ (fun hHeld => ?_)
        · exact BV.alloc _
        clear hK K
        (try simp only [Act.put, List.setIfInBounds_toArray, List.set_cons_zero, List.set_cons_succ])
        change wpAnyH _ _ _ _ _ _ _ _ (V5.alloc (.cells #[.int .i64 x.writ] 3))
        have b1 : Below V5.heap.size V5 (V5.alloc (.cells #[.int .i64 x.writ] 3)) := (Below.refl _ _).alloc (Nat.le_refl _) _
        refine rdI 7 rfl (fun K hK => ?_)
        go_wp2_with fail
        refine hK.out _ _ ?_ (fun hHeld => ?_)
        · exact (BV.below b1).alloc _
        clear hK K
        (try simp only [Act.put, List.setIfInBounds_toArray, List.set_cons_zero, List.set_cons_succ])
        change wpAnyH _ _ _ _ _ _ _ _ ((V5.alloc (.cells #[.int .i64 x.writ] 3)).alloc (.cells #[.int .i64 x.holder, .int .i64 x.slot] 3))
        have b2 : Below V5.heap.size V5 ((V5.alloc (.cells #[.int .i64 x.writ] 3)).alloc (.cells #[.int .i64 x.holder, .int .i64 x.slot] 3)) := b1.alloc b1.size _
        have g2 := (Bx.new V5 [.int .i64 x.writ] 3).alloc (.cells #[.int .i64 x.holder, .int .i64 x.slot] 3)
        have g1 := Bx.new (V5.alloc (.cells #[.int .i64 x.writ] 3)) [.int .i64 x.holder, .int .i64 x.slot] 3
        rw [sz_alloc] at g1
        refine rdI 8 rfl (fun K hK => ?_)
        go_wp2_with (go_at_call 46; refine Calls.mono (tx1 (V5.heap.size + 1) _ x.holder x.slot hx1 hx2 _ g1 (tab.below (RV.bl.trans (b2.mono RV.bl.size)))) ?_; rintro e w1 ⟨rfl, hb1⟩)
        have n1 : Below V5.heap.size V5 w1 := Below_after b2 hb1
        refine hK.out _ _ ?_ (fun hHeld => ?_)
        · exact BV.below n1
        clear hK K
        (try simp only [Act.put, List.setIfInBounds_toArray, List.set_cons_zero, List.set_cons_succ])
        have g2' := g2.below hb1
        refine tkJ 9 (.string (bsO (104 :: [dg x.holder.toNat, dg x.slot.toNat]))) rfl (by intro w hSw; clear hSw; go_simp; rw [if_neg (by rw [bsO_size]; simp [d4]), cat1]) ?_
        refine rdI 13 rfl (fun K hK => ?_)
        go_wp2_with (go_at_call 46; refine Calls.mono (tx41 (V5.heap.size) _ x.writ hx3 _ g2' (tab.below (RV.bl.trans (n1.mono RV.bl.size)))) ?_; rintro e w2 ⟨rfl, hb2⟩)
        have n2 : Below V5.heap.size V5 w2 := Below_after n1 hb2
        refine hK.out _ _ ?_ (fun hHeld => ?_)
        · exact BV.below n2
        clear hK K
        (try simp only [Act.put, List.setIfInBounds_toArray, List.set_cons_zero, List.set_cons_succ])
        have BY := BV.below n2
        have RY := RV.below n2
        clear BV RV
        have RY2 := RY.below ((Below.refl w2.heap.size w2).alloc (Nat.le_refl _) (.cells #[.string (bsO (104 :: [dg x.holder.toNat, dg x.slot.toNat])), .string (bsO (d4 x.writ.toNat)), .bool false] 52))
        obtain ⟨qa, qn, qk, Y2, r1, RZ, hgr⟩ := RY2.run hL0 (hRow x) w2.heap.size (Bx.new w2 [.string (bsO (104 :: [dg x.holder.toNat, dg x.slot.toNat])), .string (bsO (d4 x.writ.toNat)), .bool false] 52)
        have BZ := (BY.alloc (.cells #[.string (bsO (104 :: [dg x.holder.toNat, dg x.slot.toNat])), .string (bsO (d4 x.writ.toNat)), .bool false] 52)).grown hgr hNE
        refine tkJ 14 (.agg #[.string (bsO (104 :: [dg x.holder.toNat, dg x.slot.toNat])), .string (bsO (d4 x.writ.toNat)), .bool false]) rfl (by intro w hSw; (try dsimp only at hSw); clear hSw; go_simp) ?_
        refine rdI 15 rfl (fun K hK => ?_)
        go_wp2_with fail
        refine hK.out _ _ ?_ (fun hHeld => ?_)
        · exact BY.alloc _
        clear hK K
        (try simp only [Act.put, List.setIfInBounds_toArray, List.set_cons_zero, List.set_cons_succ])
        change wpAnyH _ _ _ _ _ _ _ _ (w2.alloc (.cells #[.string (bsO (104 :: [dg x.holder.toNat, dg x.slot.toNat])), .string (bsO (d4 x.writ.toNat)), .bool false] 52))
        refine rdI 16 rfl (fun K hK => ?_)
        refine wp_run (exec_appI _ _ _ _ (by rfl) (by rfl) (by rfl) (by rfl) (by rfl) (by rfl) r1) ?_
        refine hK.out _ _ ?_ (fun hHeld => ?_)
        · exact BZ
        clear hK K
        (try simp only [Act.put, List.setIfInBounds_toArray, List.set_cons_zero, List.set_cons_succ])
        refine tkJ 17 (.slice qa qn qk) rfl (by intro w hSw; (try dsimp only at hSw); clear hSw; go_simp) ?_
        refine wpAnyH_done (by kernel_rfl) ?_ _
        clear BY BZ RY RY2 r1 hgr
        go_wp2_with fail
        go_roundw
        case rel => exact ⟨k + 1, by omega, by go_num, by rw [HT.out]; exact RZ⟩
        case measure => simp [intOf]; omega
    · have hkn : k = q.hs.length := by omega
      rw [hkn, List.take_length] at hI
      have hIn := hI
      clear hI hk hkn
      have BW := BV.below hIn.bl
      obtain ⟨c0, c1, c2, c3, c4, c5⟩ := BW.c6
      have hz0 := BW.1
      go_wp2_with fail
      clear c0 c1 c2 c3 c4 c5 hz0 BW
      go_loopw [40, 3] (fun i v wr => ∃ k2 : Nat, k2 ≤ q.ts.length ∧ i = .int .i64 k2 ∧ RwI V wr v (q.hs.map hRow ++ (q.ts.take k2).map tRow)) (fun i _ _ => q.ts.length - (intOf i).toNat)
      case atStart => exact ⟨0, Nat.zero_le _, rfl, by rw [List.take_zero, List.map_nil, List.append_nil]; exact hIn⟩
      case round =>
        clear hIn
        obtain ⟨k2, hk, rfl, hI⟩ := hrel
        by_cases hlt : k2 < q.ts.length
        · obtain ⟨x, hx⟩ : ∃ x, q.ts[k2]? = some x := ⟨q.ts[k2], List.getElem?_eq_getElem hlt⟩
          obtain ⟨b, o, rfl, hb, hxs⟩ := hRV.t.resolve_left (fun e => by rw [e] at hlt; simp at hlt)
          obtain ⟨q1, q2, q3⟩ := (hxs k2 x hx).below hI.bl hb
          obtain ⟨hx1, hx2, hx3⟩ := hq.t x (List.mem_of_getElem? hx)
          have hbz : b < wr.heap.size := Nat.lt_of_lt_of_le hb hI.bl.size
          have HT : Hid ((q.ts.take (k2 + 1)).map tRow = (q.ts.take k2).map tRow ++ [tRow x]) := (show (q.ts.take (k2 + 1)).map tRow = _ from by rw [List.take_add_one, hx]; simp)
          have hL0 : (q.hs.map hRow ++ (q.ts.take k2).map tRow).length ≤ 10000 := by simp; omega
          generalize (q.ts.take k2).map tRow = L0 at *
          clear hxs hx hRV BV
          have bq : Below wr.heap.size wr (wr.alloc (.cells #[.int .i64 x.id, .int .i64 x.kind, .string x.data] 62)).drew := ((Below.refl _ wr).alloc (Nat.le_refl _) _).drew
          have BV : Bx (wr.alloc (.cells #[.int .i64 x.id, .int .i64 x.kind, .string x.data] 62)).drew wr.heap.size [.int .i64 x.id, .int .i64 x.kind, .string x.data] := (Bx.new wr [.int .i64 x.id, .int .i64 x.kind, .string x.data] 62).below (below_drewN (Below.refl _ _) 1)
          have RV := hI.below bq
          have hNE : some wr.heap.size ≠ u3.ownBlock := fun e => by have := (hI.own.lt _ e.symm).2; omega
          clear bq hI
          go_wp2_with fail
          refine wp_region_held_drew (S := fun w' => Bx w' wr.heap.size [.int .i64 x.id, .int .i64 x.kind, .string x.data]) (by kernel_rfl) ?_ (fun hHeld => ?_)
          · exact BV
          generalize (wr.alloc (.cells #[.int .i64 x.id, .int .i64 x.kind, .string x.data] 62)).drew = V5 at *
          refine tkJ 0 (u3) rfl (by intro w hSw; (try dsimp only at hSw); clear hSw; go_simp) ?_
          refine tkJ 1 (.pointer (some ⟨wr.heap.size, 0, none⟩)) rfl (by intro w hSw; (try dsimp only at hSw); clear hSw; go_simp) ?_
          refine tkJ 2 (.int .i64 x.id) rfl (by intro w hSw; (try dsimp only at hSw); have z := (hSw.2 0 _ rfl).1; clear hSw; go_simp) ?_
          refine tkJ 6 (.pointer (some ⟨wr.heap.size, 1, none⟩)) rfl (by intro w hSw; (try dsimp only at hSw); clear hSw; go_simp) ?_
          refine tkJ 7 (.int .i64 x.kind) rfl (by intro w hSw; (try dsimp only at hSw); have z := (hSw.2 1 _ rfl).1; clear hSw; go_simp) ?_
          refine tkJ 10 (.pointer (some ⟨wr.heap.size, 2, none⟩)) rfl (by intro w hSw; (try dsimp only at hSw); clear hSw; go_simp) ?_
          refine tkJ 11 (.string x.data) rfl (by intro w hSw; (try dsimp only at hSw); have z := (hSw.2 2 _ rfl).1; clear hSw; go_simp) ?_
          refine rdJ 3 8 rfl rfl (fun K hK => ?_) (fun K hK => ?_)
          · go_wp2_with fail
            refine hK.out _ _ ?_ (fun hHeld => ?_)
            · exact BV.alloc _
            clear hK K
            (try simp only [Act.put, List.setIfInBounds_toArray, List.set_cons_zero, List.set_cons_succ])
            change wpAnyH _ _ _ _ _ _ _ _ (V5.alloc (.cells #[.int .i64 x.id] 3))
            have b1 : Below V5.heap.size V5 (V5.alloc (.cells #[.int .i64 x.id] 3)) := (Below.refl _ _).alloc (Nat.le_refl _) _
            have g1 := Bx.new V5 [.int .i64 x.id] 3
            refine rdJ 4 8 rfl rfl (fun K hK => ?_) (fun K hK => ?_)
            · go_wp2_with (go_at_call 46; refine Calls.mono (tx41 (V5.heap.size) _ x.id hx1 _ g1 (tab.below (RV.bl.trans (b1.mono RV.bl.size)))) ?_; rintro e w1 ⟨rfl, hb1⟩)
              have n1 : Below V5.heap.size V5 w1 := Below_after b1 hb1
              refine hK.out _ _ ?_ (fun hHeld => ?_)
              · exact BV.below n1
              clear hK K
              (try simp only [Act.put, List.setIfInBounds_toArray, List.set_cons_zero, List.set_cons_succ])
              refine tkJ 5 (.string (bsO (116 :: d4 x.id.toNat))) rfl (by intro w hSw; clear hSw; go_simp; rw [if_neg (by rw [bsO_size]; simp [d4]), cat1]) ?_
              refine rdI 8 rfl (fun K hK => ?_)
              go_wp2_with fail
              refine hK.out _ _ ?_ (fun hHeld => ?_)
              · exact (BV.below n1).alloc _
              clear hK K
              (try simp only [Act.put, List.setIfInBounds_toArray, List.set_cons_zero, List.set_cons_succ])
              change wpAnyH _ _ _ _ _ _ _ _ (w1.alloc (.cells #[.int .i64 x.kind] 3))
              have b2 : Below V5.heap.size V5 (w1.alloc (.cells #[.int .i64 x.kind] 3)) := n1.alloc n1.size _
              have g2 := Bx.new w1 [.int .i64 x.kind] 3
              refine rdI 9 rfl (fun K hK => ?_)
              go_wp2_with (go_at_call 46; refine Calls.mono (tx41 (w1.heap.size) _ x.kind hx2 _ g2 (tab.below (RV.bl.trans (b2.mono RV.bl.size)))) ?_; rintro e w2 ⟨rfl, hb2⟩)
              have n2 : Below V5.heap.size V5 w2 := Below_after b2 hb2
              refine hK.out _ _ ?_ (fun hHeld => ?_)
              · exact BV.below n2
              clear hK K
              (try simp only [Act.put, List.setIfInBounds_toArray, List.set_cons_zero, List.set_cons_succ])
              have BY := BV.below n2
              have RY := RV.below n2
              clear BV RV
              have RY2 := RY.below ((Below.refl w2.heap.size w2).alloc (Nat.le_refl _) (.cells #[.string (bsO (116 :: d4 x.id.toNat)), .string (bsO (d4 x.kind.toNat ++ x.data.data.toList)), .bool false] 52))
              obtain ⟨qa, qn, qk, Y2, r1, RZ, hgr⟩ := RY2.run hL0 (tRow x) w2.heap.size (Bx.new w2 [.string (bsO (116 :: d4 x.id.toNat)), .string (bsO (d4 x.kind.toNat ++ x.data.data.toList)), .bool false] 52)
              have BZ := (BY.alloc (.cells #[.string (bsO (116 :: d4 x.id.toNat)), .string (bsO (d4 x.kind.toNat ++ x.data.data.toList)), .bool false] 52)).grown hgr hNE
              refine tkJ 12 (.string (bsO (d4 x.kind.toNat ++ x.data.data.toList))) rfl (by intro w hSw; clear hSw; go_simp; rw [if_neg (by rw [bsO_size, d4_len]; have := hx3; omega), cat2]) ?_
              refine tkJ 13 (.agg #[.string (bsO (116 :: d4 x.id.toNat)), .string (bsO (d4 x.kind.toNat ++ x.data.data.toList)), .bool false]) rfl (by intro w hSw; (try dsimp only at hSw); clear hSw; go_simp) ?_
              refine rdI 14 rfl (fun K hK => ?_)
              go_wp2_with fail
              refine hK.out _ _ ?_ (fun hHeld => ?_)
              · exact BY.alloc _
              clear hK K
              (try simp only [Act.put, List.setIfInBounds_toArray, List.set_cons_zero, List.set_cons_succ])
              change wpAnyH _ _ _ _ _ _ _ _ (w2.alloc (.cells #[.string (bsO (116 :: d4 x.id.toNat)), .string (bsO (d4 x.kind.toNat ++ x.data.data.toList)), .bool false] 52))
              refine rdI 15 rfl (fun K hK => ?_)
              refine wp_run (exec_appI _ _ _ _ (by rfl) (by rfl) (by rfl) (by rfl) (by rfl) (by rfl) r1) ?_
              refine hK.out _ _ ?_ (fun hHeld => ?_)
              · exact BZ
              clear hK K
              (try simp only [Act.put, List.setIfInBounds_toArray, List.set_cons_zero, List.set_cons_succ])
              refine tkJ 16 (.slice qa qn qk) rfl (by intro w hSw; (try dsimp only at hSw); clear hSw; go_simp) ?_
              refine wpAnyH_done (by kernel_rfl) ?_ _
              clear BY BZ RY RY2 r1 hgr
              go_wp2_with fail
              go_roundw
              case rel => exact ⟨k2 + 1, by omega, by go_num, by rw [HT.out, ← List.append_assoc]; exact RZ⟩
              case measure => simp [intOf]; omega
            · go_wp2_with fail
              refine hK.out _ _ ?_ (fun hHeld => ?_)
              · exact (BV.below b1).alloc _
              clear hK K
              (try simp only [Act.put, List.setIfInBounds_toArray, List.set_cons_zero, List.set_cons_succ])
              change wpAnyH _ _ _ _ _ _ _ _ ((V5.alloc (.cells #[.int .i64 x.id] 3)).alloc (.cells #[.int .i64 x.kind] 3))
              have b2 : Below V5.heap.size V5 ((V5.alloc (.cells #[.int .i64 x.id] 3)).alloc (.cells #[.int .i64 x.kind] 3)) := b1.alloc b1.size _
              have g1' := g1.alloc (.cells #[.int .i64 x.kind] 3)
              have g2 := Bx.new (V5.alloc (.cells #[.int .i64 x.id] 3)) [.int .i64 x.kind] 3
              rw [sz_alloc] at g2
              refine rdI 4 rfl (fun K hK => ?_)
              go_wp2_with (go_at_call 46; refine Calls.mono (tx41 (V5.heap.size) _ x.id hx1 _ g1' (tab.below (RV.bl.trans (b2.mono RV.bl.size)))) ?_; rintro e w1 ⟨rfl, hb1⟩)
              have n1 : Below V5.heap.size V5 w1 := Below_after b2 hb1
              refine hK.out _ _ ?_ (fun hHeld => ?_)
              · exact BV.below n1
              clear hK K
              (try simp only [Act.put, List.setIfInBounds_toArray, List.set_cons_zero, List.set_cons_succ])
              have g2' := g2.below hb1
              refine tkJ 5 (.string (bsO (116 :: d4 x.id.toNat))) rfl (by intro w hSw; clear hSw; go_simp; rw [if_neg (by rw [bsO_size]; simp [d4]), cat1]) ?_
              refine rdI 9 rfl (fun K hK => ?_)
              go_wp2_with (go_at_call 46; refine Calls.mono (tx41 (V5.heap.size + 1) _ x.kind hx2 _ g2' (tab.below (RV.bl.trans (n1.mono RV.bl.size)))) ?_; rintro e w2 ⟨rfl, hb2⟩)
              have n2 : Below V5.heap.size V5 w2 := Below_after n1 hb2
              refine hK.out _ _ ?_ (fun hHeld => ?_)
              · exact BV.below n2
              clear hK K
              (try simp only [Act.put, List.setIfInBounds_toArray, List.set_cons_zero, List.set_cons_succ])
              have BY := BV.below n2
              have RY := RV.below n2
              clear BV RV
              have RY2 := RY.below ((Below.refl w2.heap.size w2).alloc (Nat.le_refl _) (.cells #[.string (bsO (116 :: d4 x.id.toNat)), .string (bsO (d4 x.kind.toNat ++ x.data.data.toList)), .bool false] 52))
              obtain ⟨qa, qn, qk, Y2, r1, RZ, hgr⟩ := RY2.run hL0 (tRow x) w2.heap.size (Bx.new w2 [.string (bsO (116 :: d4 x.id.toNat)), .string (bsO (d4 x.kind.toNat ++ x.data.data.toList)), .bool false] 52)
              have BZ := (BY.alloc (.cells #[.string (bsO (116 :: d4 x.id.toNat)), .string (bsO (d4 x.kind.toNat ++ x.data.data.toList)), .bool false] 52)).grown hgr hNE
              refine tkJ 12 (.string (bsO (d4 x.kind.toNat ++ x.data.data.toList))) rfl (by intro w hSw; clear hSw; go_simp; rw [if_neg (by rw [bsO_size, d4_len]; have := hx3; omega), cat2]) ?_
              refine tkJ 13 (.agg #[.string (bsO (116 :: d4 x.id.toNat)), .string (bsO (d4 x.kind.toNat ++ x.data.data.toList)), .bool false]) rfl (by intro w hSw; (try dsimp only at hSw); clear hSw; go_simp) ?_
              refine rdI 14 rfl (fun K hK => ?_)
              go_wp2_with fail
              refine hK.out _ _ ?_ (fun hHeld => ?_)
              · exact BY.alloc _
              clear hK K
              (try simp only [Act.put, List.setIfInBounds_toArray, List.set_cons_zero, List.set_cons_succ])
              change wpAnyH _ _ _ _ _ _ _ _ (w2.alloc (.cells #[.string (bsO (116 :: d4 x.id.toNat)), .string (bsO (d4 x.kind.toNat ++ x.data.data.toList)), .bool false] 52))
              refine rdI 15 rfl (fun K hK => ?_)
              refine wp_run (exec_appI _ _ _ _ (by rfl) (by rfl) (by rfl) (by rfl) (by rfl) (by rfl) r1) ?_
              refine hK.out _ _ ?_ (fun hHeld => ?_)
              · exact BZ
              clear hK K
              (try simp only [Act.put, List.setIfInBounds_toArray, List.set_cons_zero, List.set_cons_succ])
              refine tkJ 16 (.slice qa qn qk) rfl (by intro w hSw; (try dsimp only at hSw); clear hSw; go_simp) ?_
              refine wpAnyH_done (by kernel_rfl) ?_ _
              clear BY BZ RY RY2 r1 hgr
              go_wp2_with fail
              go_roundw
              case rel => exact ⟨k2 + 1, by omega, by go_num, by rw [HT.out, ← List.append_assoc]; exact RZ⟩
              case measure => simp [intOf]; omega
          · go_wp2_with fail
            refine hK.out _ _ ?_ (fun hHeld => ?_)
            · exact BV.alloc _
            clear hK K
            (try simp only [Act.put, List.setIfInBounds_toArray, List.set_cons_zero, List.set_cons_succ])
            change wpAnyH _ _ _ _ _ _ _ _ (V5.alloc (.cells #[.int .i64 x.kind] 3))
            have b1 : Below V5.heap.size V5 (V5.alloc (.cells #[.int .i64 x.kind] 3)) := (Below.refl _ _).alloc (Nat.le_refl _) _
            refine rdI 3 rfl (fun K hK => ?_)
            go_wp2_with fail
            refine hK.out _ _ ?_ (fun hHeld => ?_)
            · exact (BV.below b1).alloc _
            clear hK K
            (try simp only [Act.put, List.setIfInBounds_toArray, List.set_cons_zero, List.set_cons_succ])
            change wpAnyH _ _ _ _ _ _ _ _ ((V5.alloc (.cells #[.int .i64 x.kind] 3)).alloc (.cells #[.int .i64 x.id] 3))
            have b2 : Below V5.heap.size V5 ((V5.alloc (.cells #[.int .i64 x.kind] 3)).alloc (.cells #[.int .i64 x.id] 3)) := b1.alloc b1.size _
            have g2 := (Bx.new V5 [.int .i64 x.kind] 3).alloc (.cells #[.int .i64 x.id] 3)
            have g1 := Bx.new (V5.alloc (.cells #[.int .i64 x.kind] 3)) [.int .i64 x.id] 3
            rw [sz_alloc] at g1
            refine rdI 4 rfl (fun K hK => ?_)
            go_wp2_with (go_at_call 46; refine Calls.mono (tx41 (V5.heap.size + 1) _ x.id hx1 _ g1 (tab.below (RV.bl.trans (b2.mono RV.bl.size)))) ?_; rintro e w1 ⟨rfl, hb1⟩)
            have n1 : Below V5.heap.size V5 w1 := Below_after b2 hb1
            refine hK.out _ _ ?_ (fun hHeld => ?_)
            · exact BV.below n1
            clear hK K
            (try simp only [Act.put, List.setIfInBounds_toArray, List.set_cons_zero, List.set_cons_succ])
            have g2' := g2.below hb1
            refine tkJ 5 (.string (bsO (116 :: d4 x.id.toNat))) rfl (by intro w hSw; clear hSw; go_simp; rw [if_neg (by rw [bsO_size]; simp [d4]), cat1]) ?_
            refine rdI 9 rfl (fun K hK => ?_)
            go_wp2_with (go_at_call 46; refine Calls.mono (tx41 (V5.heap.size) _ x.kind hx2 _ g2' (tab.below (RV.bl.trans (n1.mono RV.bl.size)))) ?_; rintro e w2 ⟨rfl, hb2⟩)
            have n2 : Below V5.heap.size V5 w2 := Below_after n1 hb2
            refine hK.out _ _ ?_ (fun hHeld => ?_)
            · exact BV.below n2
            clear hK K
            (try simp only [Act.put, List.setIfInBounds_toArray, List.set_cons_zero, List.set_cons_succ])
            have BY := BV.below n2
            have RY := RV.below n2
            clear BV RV
            have RY2 := RY.below ((Below.refl w2.heap.size w2).alloc (Nat.le_refl _) (.cells #[.string (bsO (116 :: d4 x.id.toNat)), .string (bsO (d4 x.kind.toNat ++ x.data.data.toList)), .bool false] 52))
            obtain ⟨qa, qn, qk, Y2, r1, RZ, hgr⟩ := RY2.run hL0 (tRow x) w2.heap.size (Bx.new w2 [.string (bsO (116 :: d4 x.id.toNat)), .string (bsO (d4 x.kind.toNat ++ x.data.data.toList)), .bool false] 52)
            have BZ := (BY.alloc (.cells #[.string (bsO (116 :: d4 x.id.toNat)), .string (bsO (d4 x.kind.toNat ++ x.data.data.toList)), .bool false] 52)).grown hgr hNE
            refine tkJ 12 (.string (bsO (d4 x.kind.toNat ++ x.data.data.toList))) rfl (by intro w hSw; clear hSw; go_simp; rw [if_neg (by rw [bsO_size, d4_len]; have := hx3; omega), cat2]) ?_
            refine tkJ 13 (.agg #[.string (bsO (116 :: d4 x.id.toNat)), .string (bsO (d4 x.kind.toNat ++ x.data.data.toList)), .bool false]) rfl (by intro w hSw; (try dsimp only at hSw); clear hSw; go_simp) ?_
            refine rdI 14 rfl (fun K hK => ?_)
            go_wp2_with fail
            refine hK.out _ _ ?_ (fun hHeld => ?_)
            · exact BY.alloc _
            clear hK K
            (try simp only [Act.put, List.setIfInBounds_toArray, List.set_cons_zero, List.set_cons_succ])
            change wpAnyH _ _ _ _ _ _ _ _ (w2.alloc (.cells #[.string (bsO (116 :: d4 x.id.toNat)), .string (bsO (d4 x.kind.toNat ++ x.data.data.toList)), .bool false] 52))
            refine rdI 15 rfl (fun K hK => ?_)
            refine wp_run (exec_appI _ _ _ _ (by rfl) (by rfl) (by rfl) (by rfl) (by rfl) (by rfl) r1) ?_
            refine hK.out _ _ ?_ (fun hHeld => ?_)
            · exact BZ
            clear hK K
            (try simp only [Act.put, List.setIfInBounds_toArray, List.set_cons_zero, List.set_cons_succ])
            refine tkJ 16 (.slice qa qn qk) rfl (by intro w hSw; (try dsimp only at hSw); clear hSw; go_simp) ?_
            refine wpAnyH_done (by kernel_rfl) ?_ _
            clear BY BZ RY RY2 r1 hgr
            go_wp2_with fail
            go_roundw
            case rel => exact ⟨k2 + 1, by omega, by go_num, by rw [HT.out, ← List.append_assoc]; exact RZ⟩
            case measure => simp [intOf]; omega
        · have hkn : k2 = q.ts.length := by omega
          rw [hkn, List.take_length] at hI
          have hIn := hI
          clear hI hk hkn
          have BW := BV.below hIn.bl
          obtain ⟨c0, c1, c2, c3, c4, c5⟩ := BW.c6
          have hz0 := BW.1
          go_wp2_with fail
          clear c0 c1 c2 c3 c4 c5 hz0 BW
          go_loopw [64, 3] (fun i v wr => ∃ k3 : Nat, k3 ≤ q.ws.length ∧ i = .int .i64 k3 ∧ RwI V wr v (q.hs.map hRow ++ q.ts.map tRow ++ (q.ws.take k3).map wRow)) (fun i _ _ => q.ws.length - (intOf i).toNat)
          case atStart => exact ⟨0, Nat.zero_le _, rfl, by rw [List.take_zero, List.map_nil, List.append_nil]; exact hIn⟩
          case round =>
            clear hIn
            obtain ⟨k3, hk, rfl, hI⟩ := hrel
            by_cases hlt : k3 < q.ws.length
            · obtain ⟨x, hx⟩ : ∃ x, q.ws[k3]? = some x := ⟨q.ws[k3], List.getElem?_eq_getElem hlt⟩
              obtain ⟨b, o, rfl, hb, hxs⟩ := hRV.w.resolve_left (fun e => by rw [e] at hlt; simp at hlt)
              obtain ⟨q1, q2, q3, q4, q5⟩ := (hxs k3 x hx).below hI.bl hb
              obtain ⟨hx1, hx2, hx3, hx4, hx5⟩ := hq.w x (List.mem_of_getElem? hx)
              have hbz : b < wr.heap.size := Nat.lt_of_lt_of_le hb hI.bl.size
              have HT : Hid ((q.ws.take (k3 + 1)).map wRow = (q.ws.take k3).map wRow ++ [wRow x]) := (show (q.ws.take (k3 + 1)).map wRow = _ from by rw [List.take_add_one, hx]; simp)
              have hL0 : (q.hs.map hRow ++ q.ts.map tRow ++ (q.ws.take k3).map wRow).length ≤ 10000 := by simp; omega
              generalize (q.ws.take k3).map wRow = L0 at *
              clear hxs hx hRV BV
              have bq : Below wr.heap.size wr (wr.alloc (.cells #[.int .i64 x.id, .int .i64 x.thing, .int .i64 x.rights, .int .i64 x.badge, .int .i64 x.frm] 88)).drew := ((Below.refl _ wr).alloc (Nat.le_refl _) _).drew
              have BV : Bx (wr.alloc (.cells #[.int .i64 x.id, .int .i64 x.thing, .int .i64 x.rights, .int .i64 x.badge, .int .i64 x.frm] 88)).drew wr.heap.size [.int .i64 x.id, .int .i64 x.thing, .int .i64 x.rights, .int .i64 x.badge, .int .i64 x.frm] := (Bx.new wr [.int .i64 x.id, .int .i64 x.thing, .int .i64 x.rights, .int .i64 x.badge, .int .i64 x.frm] 88).below (below_drewN (Below.refl _ _) 1)
              have RV := hI.below bq
              have hNE : some wr.heap.size ≠ u3.ownBlock := fun e => by have := (hI.own.lt _ e.symm).2; omega
              clear bq hI
              go_wp2_with fail
              refine wp_region_held_drew (S := fun w' => Bx w' wr.heap.size [.int .i64 x.id, .int .i64 x.thing, .int .i64 x.rights, .int .i64 x.badge, .int .i64 x.frm]) (by kernel_rfl) ?_ (fun hHeld => ?_)
              · exact BV
              generalize (wr.alloc (.cells #[.int .i64 x.id, .int .i64 x.thing, .int .i64 x.rights, .int .i64 x.badge, .int .i64 x.frm] 88)).drew = V5 at *
              refine tkJ 0 (u3) rfl (by intro w hSw; (try dsimp only at hSw); clear hSw; go_simp) ?_
              refine tkJ 1 (.pointer (some ⟨wr.heap.size, 0, none⟩)) rfl (by intro w hSw; (try dsimp only at hSw); clear hSw; go_simp) ?_
              refine tkJ 2 (.int .i64 x.id) rfl (by intro w hSw; (try dsimp only at hSw); have z := (hSw.2 0 _ rfl).1; clear hSw; go_simp) ?_
              refine tkJ 6 (.pointer (some ⟨wr.heap.size, 1, none⟩)) rfl (by intro w hSw; (try dsimp only at hSw); clear hSw; go_simp) ?_
              refine tkJ 7 (.int .i64 x.thing) rfl (by intro w hSw; (try dsimp only at hSw); have z := (hSw.2 1 _ rfl).1; clear hSw; go_simp) ?_
              refine tkJ 8 (.pointer (some ⟨wr.heap.size, 2, none⟩)) rfl (by intro w hSw; (try dsimp only at hSw); clear hSw; go_simp) ?_
              refine tkJ 9 (.int .i64 x.rights) rfl (by intro w hSw; (try dsimp only at hSw); have z := (hSw.2 2 _ rfl).1; clear hSw; go_simp) ?_
              refine tkJ 10 (.pointer (some ⟨wr.heap.size, 3, none⟩)) rfl (by intro w hSw; (try dsimp only at hSw); clear hSw; go_simp) ?_
              refine tkJ 11 (.int .i64 x.badge) rfl (by intro w hSw; (try dsimp only at hSw); have z := (hSw.2 3 _ rfl).1; clear hSw; go_simp) ?_
              refine tkJ 12 (.pointer (some ⟨wr.heap.size, 4, none⟩)) rfl (by intro w hSw; (try dsimp only at hSw); clear hSw; go_simp) ?_
              refine tkJ 13 (.int .i64 x.frm) rfl (by intro w hSw; (try dsimp only at hSw); have z := (hSw.2 4 _ rfl).1; clear hSw; go_simp) ?_
              refine rdJ 3 14 rfl rfl (fun K hK => ?_) (fun K hK => ?_)
              · go_wp2_with fail
                refine hK.out _ _ ?_ (fun hHeld => ?_)
                · exact BV.alloc _
                clear hK K
                (try simp only [Act.put, List.setIfInBounds_toArray, List.set_cons_zero, List.set_cons_succ])
                change wpAnyH _ _ _ _ _ _ _ _ (V5.alloc (.cells #[.int .i64 x.id] 3))
                have b1 : Below V5.heap.size V5 (V5.alloc (.cells #[.int .i64 x.id] 3)) := (Below.refl _ _).alloc (Nat.le_refl _) _
                have g1 := Bx.new V5 [.int .i64 x.id] 3
                refine rdJ 4 14 rfl rfl (fun K hK => ?_) (fun K hK => ?_)
                · go_wp2_with (go_at_call 46; refine Calls.mono (tx41 (V5.heap.size) _ x.id hx1 _ g1 (tab.below (RV.bl.trans (b1.mono RV.bl.size)))) ?_; rintro e w1 ⟨rfl, hb1⟩)
                  have n1 : Below V5.heap.size V5 w1 := Below_after b1 hb1
                  refine hK.out _ _ ?_ (fun hHeld => ?_)
                  · exact BV.below n1
                  clear hK K
                  (try simp only [Act.put, List.setIfInBounds_toArray, List.set_cons_zero, List.set_cons_succ])
                  refine tkJ 5 (.string (bsO (119 :: d4 x.id.toNat))) rfl (by intro w hSw; clear hSw; go_simp; rw [if_neg (by rw [bsO_size]; simp [d4]), cat1]) ?_
                  refine rdI 14 rfl (fun K hK => ?_)
                  go_wp2_with fail
                  refine hK.out _ _ ?_ (fun hHeld => ?_)
                  · exact (BV.below n1).alloc _
                  clear hK K
                  (try simp only [Act.put, List.setIfInBounds_toArray, List.set_cons_zero, List.set_cons_succ])
                  change wpAnyH _ _ _ _ _ _ _ _ (w1.alloc (.cells #[.int .i64 x.thing, .int .i64 x.rights, .int .i64 x.badge, .int .i64 x.frm] 3))
                  have b2 : Below V5.heap.size V5 (w1.alloc (.cells #[.int .i64 x.thing, .int .i64 x.rights, .int .i64 x.badge, .int .i64 x.frm] 3)) := n1.alloc n1.size _
                  have g2 := Bx.new w1 [.int .i64 x.thing, .int .i64 x.rights, .int .i64 x.badge, .int .i64 x.frm] 3
                  refine rdI 15 rfl (fun K hK => ?_)
                  go_wp2_with (go_at_call 46; refine Calls.mono (tx44 (w1.heap.size) _ x.thing x.rights x.badge x.frm hx2 hx3 hx4 hx5 _ g2 (tab.below (RV.bl.trans (b2.mono RV.bl.size)))) ?_; rintro e w2 ⟨rfl, hb2⟩)
                  have n2 : Below V5.heap.size V5 w2 := Below_after b2 hb2
                  refine hK.out _ _ ?_ (fun hHeld => ?_)
                  · exact BV.below n2
                  clear hK K
                  (try simp only [Act.put, List.setIfInBounds_toArray, List.set_cons_zero, List.set_cons_succ])
                  have BY := BV.below n2
                  have RY := RV.below n2
                  clear BV RV
                  have RY2 := RY.below ((Below.refl w2.heap.size w2).alloc (Nat.le_refl _) (.cells #[.string (bsO (119 :: d4 x.id.toNat)), .string (bsO (d4 x.thing.toNat ++ d4 x.rights.toNat ++ d4 x.badge.toNat ++ d4 x.frm.toNat)), .bool false] 52))
                  obtain ⟨qa, qn, qk, Y2, r1, RZ, hgr⟩ := RY2.run hL0 (wRow x) w2.heap.size (Bx.new w2 [.string (bsO (119 :: d4 x.id.toNat)), .string (bsO (d4 x.thing.toNat ++ d4 x.rights.toNat ++ d4 x.badge.toNat ++ d4 x.frm.toNat)), .bool false] 52)
                  have BZ := (BY.alloc (.cells #[.string (bsO (119 :: d4 x.id.toNat)), .string (bsO (d4 x.thing.toNat ++ d4 x.rights.toNat ++ d4 x.badge.toNat ++ d4 x.frm.toNat)), .bool false] 52)).grown hgr hNE
                  refine tkJ 16 (.agg #[.string (bsO (119 :: d4 x.id.toNat)), .string (bsO (d4 x.thing.toNat ++ d4 x.rights.toNat ++ d4 x.badge.toNat ++ d4 x.frm.toNat)), .bool false]) rfl (by intro w hSw; (try dsimp only at hSw); clear hSw; go_simp) ?_
                  refine rdI 17 rfl (fun K hK => ?_)
                  go_wp2_with fail
                  refine hK.out _ _ ?_ (fun hHeld => ?_)
                  · exact BY.alloc _
                  clear hK K
                  (try simp only [Act.put, List.setIfInBounds_toArray, List.set_cons_zero, List.set_cons_succ])
                  change wpAnyH _ _ _ _ _ _ _ _ (w2.alloc (.cells #[.string (bsO (119 :: d4 x.id.toNat)), .string (bsO (d4 x.thing.toNat ++ d4 x.rights.toNat ++ d4 x.badge.toNat ++ d4 x.frm.toNat)), .bool false] 52))
                  refine rdI 18 rfl (fun K hK => ?_)
                  refine wp_run (exec_appI _ _ _ _ (by rfl) (by rfl) (by rfl) (by rfl) (by rfl) (by rfl) r1) ?_
                  refine hK.out _ _ ?_ (fun hHeld => ?_)
                  · exact BZ
                  clear hK K
                  (try simp only [Act.put, List.setIfInBounds_toArray, List.set_cons_zero, List.set_cons_succ])
                  refine tkJ 19 (.slice qa qn qk) rfl (by intro w hSw; (try dsimp only at hSw); clear hSw; go_simp) ?_
                  refine wpAnyH_done (by kernel_rfl) ?_ _
                  clear BY BZ RY RY2 r1 hgr
                  go_wp2_with fail
                  go_roundw
                  case rel => exact ⟨k3 + 1, by omega, by go_num, by rw [HT.out, ← List.append_assoc]; exact RZ⟩
                  case measure => simp [intOf]; omega
                · go_wp2_with fail
                  refine hK.out _ _ ?_ (fun hHeld => ?_)
                  · exact (BV.below b1).alloc _
                  clear hK K
                  (try simp only [Act.put, List.setIfInBounds_toArray, List.set_cons_zero, List.set_cons_succ])
                  change wpAnyH _ _ _ _ _ _ _ _ ((V5.alloc (.cells #[.int .i64 x.id] 3)).alloc (.cells #[.int .i64 x.thing, .int .i64 x.rights, .int .i64 x.badge, .int .i64 x.frm] 3))
                  have b2 : Below V5.heap.size V5 ((V5.alloc (.cells #[.int .i64 x.id] 3)).alloc (.cells #[.int .i64 x.thing, .int .i64 x.rights, .int .i64 x.badge, .int .i64 x.frm] 3)) := b1.alloc b1.size _
                  have g1' := g1.alloc (.cells #[.int .i64 x.thing, .int .i64 x.rights, .int .i64 x.badge, .int .i64 x.frm] 3)
                  have g2 := Bx.new (V5.alloc (.cells #[.int .i64 x.id] 3)) [.int .i64 x.thing, .int .i64 x.rights, .int .i64 x.badge, .int .i64 x.frm] 3
                  rw [sz_alloc] at g2
                  refine rdI 4 rfl (fun K hK => ?_)
                  go_wp2_with (go_at_call 46; refine Calls.mono (tx41 (V5.heap.size) _ x.id hx1 _ g1' (tab.below (RV.bl.trans (b2.mono RV.bl.size)))) ?_; rintro e w1 ⟨rfl, hb1⟩)
                  have n1 : Below V5.heap.size V5 w1 := Below_after b2 hb1
                  refine hK.out _ _ ?_ (fun hHeld => ?_)
                  · exact BV.below n1
                  clear hK K
                  (try simp only [Act.put, List.setIfInBounds_toArray, List.set_cons_zero, List.set_cons_succ])
                  have g2' := g2.below hb1
                  refine tkJ 5 (.string (bsO (119 :: d4 x.id.toNat))) rfl (by intro w hSw; clear hSw; go_simp; rw [if_neg (by rw [bsO_size]; simp [d4]), cat1]) ?_
                  refine rdI 15 rfl (fun K hK => ?_)
                  go_wp2_with (go_at_call 46; refine Calls.mono (tx44 (V5.heap.size + 1) _ x.thing x.rights x.badge x.frm hx2 hx3 hx4 hx5 _ g2' (tab.below (RV.bl.trans (n1.mono RV.bl.size)))) ?_; rintro e w2 ⟨rfl, hb2⟩)
                  have n2 : Below V5.heap.size V5 w2 := Below_after n1 hb2
                  refine hK.out _ _ ?_ (fun hHeld => ?_)
                  · exact BV.below n2
                  clear hK K
                  (try simp only [Act.put, List.setIfInBounds_toArray, List.set_cons_zero, List.set_cons_succ])
                  have BY := BV.below n2
                  have RY := RV.below n2
                  clear BV RV
                  have RY2 := RY.below ((Below.refl w2.heap.size w2).alloc (Nat.le_refl _) (.cells #[.string (bsO (119 :: d4 x.id.toNat)), .string (bsO (d4 x.thing.toNat ++ d4 x.rights.toNat ++ d4 x.badge.toNat ++ d4 x.frm.toNat)), .bool false] 52))
                  obtain ⟨qa, qn, qk, Y2, r1, RZ, hgr⟩ := RY2.run hL0 (wRow x) w2.heap.size (Bx.new w2 [.string (bsO (119 :: d4 x.id.toNat)), .string (bsO (d4 x.thing.toNat ++ d4 x.rights.toNat ++ d4 x.badge.toNat ++ d4 x.frm.toNat)), .bool false] 52)
                  have BZ := (BY.alloc (.cells #[.string (bsO (119 :: d4 x.id.toNat)), .string (bsO (d4 x.thing.toNat ++ d4 x.rights.toNat ++ d4 x.badge.toNat ++ d4 x.frm.toNat)), .bool false] 52)).grown hgr hNE
                  refine tkJ 16 (.agg #[.string (bsO (119 :: d4 x.id.toNat)), .string (bsO (d4 x.thing.toNat ++ d4 x.rights.toNat ++ d4 x.badge.toNat ++ d4 x.frm.toNat)), .bool false]) rfl (by intro w hSw; (try dsimp only at hSw); clear hSw; go_simp) ?_
                  refine rdI 17 rfl (fun K hK => ?_)
                  go_wp2_with fail
                  refine hK.out _ _ ?_ (fun hHeld => ?_)
                  · exact BY.alloc _
                  clear hK K
                  (try simp only [Act.put, List.setIfInBounds_toArray, List.set_cons_zero, List.set_cons_succ])
                  change wpAnyH _ _ _ _ _ _ _ _ (w2.alloc (.cells #[.string (bsO (119 :: d4 x.id.toNat)), .string (bsO (d4 x.thing.toNat ++ d4 x.rights.toNat ++ d4 x.badge.toNat ++ d4 x.frm.toNat)), .bool false] 52))
                  refine rdI 18 rfl (fun K hK => ?_)
                  refine wp_run (exec_appI _ _ _ _ (by rfl) (by rfl) (by rfl) (by rfl) (by rfl) (by rfl) r1) ?_
                  refine hK.out _ _ ?_ (fun hHeld => ?_)
                  · exact BZ
                  clear hK K
                  (try simp only [Act.put, List.setIfInBounds_toArray, List.set_cons_zero, List.set_cons_succ])
                  refine tkJ 19 (.slice qa qn qk) rfl (by intro w hSw; (try dsimp only at hSw); clear hSw; go_simp) ?_
                  refine wpAnyH_done (by kernel_rfl) ?_ _
                  clear BY BZ RY RY2 r1 hgr
                  go_wp2_with fail
                  go_roundw
                  case rel => exact ⟨k3 + 1, by omega, by go_num, by rw [HT.out, ← List.append_assoc]; exact RZ⟩
                  case measure => simp [intOf]; omega
              · go_wp2_with fail
                refine hK.out _ _ ?_ (fun hHeld => ?_)
                · exact BV.alloc _
                clear hK K
                (try simp only [Act.put, List.setIfInBounds_toArray, List.set_cons_zero, List.set_cons_succ])
                change wpAnyH _ _ _ _ _ _ _ _ (V5.alloc (.cells #[.int .i64 x.thing, .int .i64 x.rights, .int .i64 x.badge, .int .i64 x.frm] 3))
                have b1 : Below V5.heap.size V5 (V5.alloc (.cells #[.int .i64 x.thing, .int .i64 x.rights, .int .i64 x.badge, .int .i64 x.frm] 3)) := (Below.refl _ _).alloc (Nat.le_refl _) _
                refine rdI 3 rfl (fun K hK => ?_)
                go_wp2_with fail
                refine hK.out _ _ ?_ (fun hHeld => ?_)
                · exact (BV.below b1).alloc _
                clear hK K
                (try simp only [Act.put, List.setIfInBounds_toArray, List.set_cons_zero, List.set_cons_succ])
                change wpAnyH _ _ _ _ _ _ _ _ ((V5.alloc (.cells #[.int .i64 x.thing, .int .i64 x.rights, .int .i64 x.badge, .int .i64 x.frm] 3)).alloc (.cells #[.int .i64 x.id] 3))
                have b2 : Below V5.heap.size V5 ((V5.alloc (.cells #[.int .i64 x.thing, .int .i64 x.rights, .int .i64 x.badge, .int .i64 x.frm] 3)).alloc (.cells #[.int .i64 x.id] 3)) := b1.alloc b1.size _
                have g2 := (Bx.new V5 [.int .i64 x.thing, .int .i64 x.rights, .int .i64 x.badge, .int .i64 x.frm] 3).alloc (.cells #[.int .i64 x.id] 3)
                have g1 := Bx.new (V5.alloc (.cells #[.int .i64 x.thing, .int .i64 x.rights, .int .i64 x.badge, .int .i64 x.frm] 3)) [.int .i64 x.id] 3
                rw [sz_alloc] at g1
                refine rdI 4 rfl (fun K hK => ?_)
                go_wp2_with (go_at_call 46; refine Calls.mono (tx41 (V5.heap.size + 1) _ x.id hx1 _ g1 (tab.below (RV.bl.trans (b2.mono RV.bl.size)))) ?_; rintro e w1 ⟨rfl, hb1⟩)
                have n1 : Below V5.heap.size V5 w1 := Below_after b2 hb1
                refine hK.out _ _ ?_ (fun hHeld => ?_)
                · exact BV.below n1
                clear hK K
                (try simp only [Act.put, List.setIfInBounds_toArray, List.set_cons_zero, List.set_cons_succ])
                have g2' := g2.below hb1
                refine tkJ 5 (.string (bsO (119 :: d4 x.id.toNat))) rfl (by intro w hSw; clear hSw; go_simp; rw [if_neg (by rw [bsO_size]; simp [d4]), cat1]) ?_
                refine rdI 15 rfl (fun K hK => ?_)
                go_wp2_with (go_at_call 46; refine Calls.mono (tx44 (V5.heap.size) _ x.thing x.rights x.badge x.frm hx2 hx3 hx4 hx5 _ g2' (tab.below (RV.bl.trans (n1.mono RV.bl.size)))) ?_; rintro e w2 ⟨rfl, hb2⟩)
                have n2 : Below V5.heap.size V5 w2 := Below_after n1 hb2
                refine hK.out _ _ ?_ (fun hHeld => ?_)
                · exact BV.below n2
                clear hK K
                (try simp only [Act.put, List.setIfInBounds_toArray, List.set_cons_zero, List.set_cons_succ])
                have BY := BV.below n2
                have RY := RV.below n2
                clear BV RV
                have RY2 := RY.below ((Below.refl w2.heap.size w2).alloc (Nat.le_refl _) (.cells #[.string (bsO (119 :: d4 x.id.toNat)), .string (bsO (d4 x.thing.toNat ++ d4 x.rights.toNat ++ d4 x.badge.toNat ++ d4 x.frm.toNat)), .bool false] 52))
                obtain ⟨qa, qn, qk, Y2, r1, RZ, hgr⟩ := RY2.run hL0 (wRow x) w2.heap.size (Bx.new w2 [.string (bsO (119 :: d4 x.id.toNat)), .string (bsO (d4 x.thing.toNat ++ d4 x.rights.toNat ++ d4 x.badge.toNat ++ d4 x.frm.toNat)), .bool false] 52)
                have BZ := (BY.alloc (.cells #[.string (bsO (119 :: d4 x.id.toNat)), .string (bsO (d4 x.thing.toNat ++ d4 x.rights.toNat ++ d4 x.badge.toNat ++ d4 x.frm.toNat)), .bool false] 52)).grown hgr hNE
                refine tkJ 16 (.agg #[.string (bsO (119 :: d4 x.id.toNat)), .string (bsO (d4 x.thing.toNat ++ d4 x.rights.toNat ++ d4 x.badge.toNat ++ d4 x.frm.toNat)), .bool false]) rfl (by intro w hSw; (try dsimp only at hSw); clear hSw; go_simp) ?_
                refine rdI 17 rfl (fun K hK => ?_)
                go_wp2_with fail
                refine hK.out _ _ ?_ (fun hHeld => ?_)
                · exact BY.alloc _
                clear hK K
                (try simp only [Act.put, List.setIfInBounds_toArray, List.set_cons_zero, List.set_cons_succ])
                change wpAnyH _ _ _ _ _ _ _ _ (w2.alloc (.cells #[.string (bsO (119 :: d4 x.id.toNat)), .string (bsO (d4 x.thing.toNat ++ d4 x.rights.toNat ++ d4 x.badge.toNat ++ d4 x.frm.toNat)), .bool false] 52))
                refine rdI 18 rfl (fun K hK => ?_)
                refine wp_run (exec_appI _ _ _ _ (by rfl) (by rfl) (by rfl) (by rfl) (by rfl) (by rfl) r1) ?_
                refine hK.out _ _ ?_ (fun hHeld => ?_)
                · exact BZ
                clear hK K
                (try simp only [Act.put, List.setIfInBounds_toArray, List.set_cons_zero, List.set_cons_succ])
                refine tkJ 19 (.slice qa qn qk) rfl (by intro w hSw; (try dsimp only at hSw); clear hSw; go_simp) ?_
                refine wpAnyH_done (by kernel_rfl) ?_ _
                clear BY BZ RY RY2 r1 hgr
                go_wp2_with fail
                go_roundw
                case rel => exact ⟨k3 + 1, by omega, by go_num, by rw [HT.out, ← List.append_assoc]; exact RZ⟩
                case measure => simp [intOf]; omega
            · have hkn : k3 = q.ws.length := by omega
              rw [hkn, List.take_length] at hI
              have hIn := hI
              clear hI hk hkn
              have BW := BV.below hIn.bl
              obtain ⟨c0, c1, c2, c3, c4, c5⟩ := BW.c6
              have hz0 := BW.1
              have ba : Below wr.heap.size wr (wr.alloc (.cells #[.int .i64 q.nw, .int .i64 q.nt] 3)) := (Below.refl _ wr).alloc (Nat.le_refl _) _
              have hcon := tx42 wr.heap.size 2 q.nw q.nt hq.n.1 hq.n.2 _ (Bx.new wr [.int .i64 q.nw, .int .i64 q.nt] 3) (tab.below (hIn.bl.trans (ba.mono hIn.bl.size)))
              go_wp2_with fail
              refine hcon.mono ?_
              rintro e w2 ⟨rfl, hb2⟩
              have R2 := hIn.below (Below_after ba hb2)
              have R3 := R2.below ((Below.refl w2.heap.size w2).alloc (Nat.le_refl _) (.cells #[.string (bsO [120]), .string (bsO (d4 q.nw.toNat ++ d4 q.nt.toNat)), .bool false] 52))
              obtain ⟨qa, qn, qk, Y2, r1, RZ, -⟩ := R3.run (by simp; omega) (xRow q.nw q.nt) w2.heap.size (Bx.new w2 [.string (bsO [120]), .string (bsO (d4 q.nw.toNat ++ d4 q.nt.toNat)), .bool false] 52)
              have hF : Y2.ownsRow w.heap.size 52 3 (.slice qa qn qk) (rowsL q).length ((rowsL q).flatMap chI) ∧ Below w.heap.size w Y2 := ⟨ownsRow_mono RZ.own blV.size, blV.trans (RZ.bl.mono blV.size)⟩
              clear hcon R2 R3 RZ hb2 ba c0 c1 c2 c3 c4 c5 hz0 hIn BW
              go_wp2_with (refine wpList_run (by rfl) (exec_appI _ _ _ _ (by rfl) (by rfl) (by rfl) (by rfl) (by rfl) (by rfl) r1) ?_)
              go_ret
              exact ⟨.slice qa qn qk, rfl, by rw [HQ.out]; exact hF⟩
end Go.Proofs.YtddgpgldbekamaaGreatDoor
