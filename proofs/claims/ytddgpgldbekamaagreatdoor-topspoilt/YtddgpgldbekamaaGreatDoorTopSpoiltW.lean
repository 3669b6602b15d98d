/- TopSpoilt, walked. -/
import Derived.Test.YtddgpgldbekamaaGreatDoorGrownB
import Derived.Test.YtddgpgldbekamaaGreatDoorSameW
import Derived.Test.YtddgpgldbekamaaGreatDoorGrownW
import Derived.Test.YtddgpgldbekamaaGreatDoorImSp
import Derived.Test.YtddgpgldbekamaaGreatDoorGoodW
import Derived.Deep.RegionHeld3
set_option linter.unusedSimpArgs false
set_option linter.unnecessarySimpa false
set_option linter.unusedVariables false
namespace Go.Proofs.YtddgpgldbekamaaGreatDoor
open Go.RowKit

theorem quiet_szR {r : Rm} (hW : Whole r) (hz : RmSz r) : RmSz (quietR r) := by
  obtain ⟨h1, h2, h3, -⟩ := top_quiet hW
  have hQ := whole_quiet hW
  refine ⟨?_, ?_, ?_, ?_, hz.nw, hz.nt⟩
  · rw [← h3, h2]; have := hz.h; omega
  · have := hQ.tl; omega
  · rw [h2]; exact hz.h
  · rw [h1]; simp
theorem tog_quiet {z : Rm} (h : Tog z) (hn : z.ns = []) : quietR z = z := by
  obtain ⟨ws, ts, hs, ns, nw, nt⟩ := z
  dsimp only at hn
  subst hn
  have h1 : ts.filter (fun t => hasT ws t.id) = ts := by
    rw [List.filter_eq_self]
    intro t ht
    have hm : t.id ∈ thingsL ws := by rw [← h.tt]; exact List.mem_map.2 ⟨t, ht, rfl⟩
    rw [things_of_good h.gw] at hm
    obtain ⟨-, -, x, hx, e⟩ := thUp_mem.1 hm
    exact List.any_eq_true.2 ⟨x, hx, by simp [e]⟩
  have h2 : hs.filter (fun y => decide (0 ≤ find ws y.writ)) = hs := by
    rw [List.filter_eq_self]
    intro a ha
    obtain ⟨x, hx, e⟩ := h.hw a ha
    exact decide_eq_true (find_pos_iff.2 ⟨x, hx, e⟩)
  show Rm.mk ws (ts.filter (fun t => hasT ws t.id)) (hs.filter (fun y => decide (0 ≤ find ws y.writ))) [] nw nt = _
  rw [h1, h2]
theorem tog_sz {z : Rm} (h : Tog z) (hn : z.ns = []) (hl : (rowsL z).length ≤ 100) : RmSz z := by
  rw [rows_len] at hl
  have := h.nw
  have := h.nt
  exact ⟨by omega, by omega, by omega, by rw [hn]; simp, by omega, by omega⟩
theorem chs_oneI {w : World} {g : Nat} {x : Ch} (h : Bx w g [.string x.key, .string x.val, .bool x.gone]) (hf : x.key.size ≤ maxLen ∧ x.val.size ≤ maxLen) : ∀ (j : Nat) (y : Ch), [x][j]? = some y → ChAt w g (0 + j * 3) y := by
  intro j y hy
  match j, hy with
  | 0, hy =>
    cases Option.some.inj hy
    exact ⟨⟨(h.2 0 _ rfl).1, (h.2 1 _ rfl).1, (h.2 2 _ rfl).1⟩, hf⟩
  | j + 1, hy => simp at hy
theorem chs_at {w : World} {b o : Nat} {l : List Ch} (h : ChsAt w (some ⟨b, o, none⟩) l) (h0 : ¬ l = []) : ∀ j x, l[j]? = some x → ChAt w b (o + j * 3) x := by
  rcases h with h | ⟨b', o', e, -, h⟩
  · exact absurd h h0
  · cases e; exact h
theorem chs_lt {w : World} {b o : Nat} {l : List Ch} (h : ChsAt w (some ⟨b, o, none⟩) l) (h0 : ¬ l = []) : b < w.heap.size := by
  rcases h with h | ⟨b', o', e, h, -⟩
  · exact absurd h h0
  · cases e; exact h
theorem rmZ_at (w : World) : RmAt w none none none none 0 0 0 0 rmZ := ⟨.inl rfl, .inl rfl, .inl rfl, .inl rfl, by simp [Fit, rmZ], by simp [Fit, rmZ], by simp [Fit, rmZ], by simp [Fit, rmZ]⟩
theorem rmZ_sz : RmSz rmZ := ⟨by simp [rmZ], by simp [rmZ], by simp [rmZ], by simp [rmZ], by simp [rmZ], by simp [rmZ]⟩
theorem and_pos (a : Int) : ∃ n : Nat, bits .and .i64 a 1023 = (n : Int) := by
  have h : (BitVec.ofInt 64 a &&& BitVec.ofInt 64 1023).toNat ≤ 1023 := by
    rw [BitVec.toNat_and]
    exact Nat.le_trans Nat.and_le_right (by decide)
  refine ⟨(BitVec.ofInt 64 a &&& BitVec.ofInt 64 1023).toNat, ?_⟩
  show IntKind.i64.wrap (((BitVec.ofInt 64 a &&& BitVec.ofInt 64 1023).toNat : Nat) : Int) = _
  exact wrap_id (by omega) (by omega)
theorem and_rem (a : Int) {n : Nat} (h : 0 < n) : ∃ k : Nat, k < n ∧ (bits .and .i64 a 1023).tmod (n : Int) = (k : Int) := by
  obtain ⟨m, hm⟩ := and_pos a
  refine ⟨m % n, Nat.mod_lt _ h, ?_⟩
  rw [hm]
  rfl
theorem ChsAt.setHi {w : World} {k b : Nat} {a : Option Addr} {l : List Ch} (h : ChsAt w a l) (hh : HiA k a) (hb : b < k) (j : Nat) (u : Value) : ChsAt (w.setCell ⟨b, j, none⟩ u) a l := by
  rcases h with h | ⟨g, o, rfl, hg, hx⟩
  · exact .inl h
  · have hk := hh _ rfl
    have hne : ¬ g = b := by
      intro e
      have : k ≤ g := hk
      omega
    refine .inr ⟨g, o, rfl, by simpa using hg, fun i x hi => ?_⟩
    obtain ⟨⟨h0, h1, h2⟩, h3⟩ := hx i x hi
    have key : ∀ m, (w.setCell ⟨b, j, none⟩ u).cell? ⟨g, m, none⟩ = w.cell? ⟨g, m, none⟩ := fun m => World.cell?_setCell_other _ _ _ _ (by simpa using fun e => absurd e.symm hne)
    exact ⟨⟨(key _).trans h0, (key _).trans h1, (key _).trans h2⟩, h3⟩
set_option maxHeartbeats 2000000 in
set_option maxRecDepth 100000 in
theorem tspoilt_no (a : Option Addr) (c : Nat) (l : List Ac) (cc : Ch) (at_ : Int) (gn : Bool) (w : World) (hw : AcsAt w a l) (hm : l.length ≤ maxLen) (hcf : cc.key.size ≤ maxLen ∧ cc.val.size ≤ maxLen) (hq : lacB l 80 = false) :
    Calls Tryz.prog 5 #[.slice a l.length c, .agg #[.string cc.key, .string cc.val, .bool cc.gone], .int .i64 at_, .bool gn] w fun e w' => e = .returned (.bool true) ∧ Below w.heap.size w w' := by
  have BC := Bx.new w [.string cc.key, .string cc.val, .bool cc.gone] 52
  have bl := (Below.refl w.heap.size w).alloc (by first | exact Nat.le_refl _ | (simp <;> omega)) (.cells #[.string cc.key, .string cc.val, .bool cc.gone] 52)
  go_enter Tryz.func5, Tryz.ntmps5
  have hcon := made_any (w.alloc (.cells #[.string cc.key, .string cc.val, .bool cc.gone] 52))
  go_wp2_with fail
  refine hcon.mono ?_
  rintro e w1 ⟨rfl, hb1⟩
  clear hcon
  replace BC := BC.below hb1
  replace bl := Below_after bl hb1
  have yC := BC.1
  have hcon := grown_no a c l w1 (hw.below bl) hm hq
  go_wp2_with fail
  refine hcon.mono ?_
  rintro e w2 ⟨rfl, hb2⟩
  clear hcon
  clear yC
  replace BC := BC.below hb2
  replace bl := Below_after bl hb2
  have yC := BC.1
  replace BC := BC.alloc (.cells #[.slice none 0 0, .slice none 0 0, .slice none 0 0, .slice none 0 0, .int .i64 0, .int .i64 0] 32)
  replace bl := bl.alloc bl.size (.cells #[.slice none 0 0, .slice none 0 0, .slice none 0 0, .slice none 0 0, .int .i64 0, .int .i64 0] 32)
  have BZ := Bx.new w2 [.slice none 0 0, .slice none 0 0, .slice none 0 0, .slice none 0 0, .int .i64 0, .int .i64 0] 32
  go_wp2_with fail
  go_ret
  exact ⟨rfl, bl⟩
set_option maxHeartbeats 40000000 in
set_option maxRecDepth 100000 in
theorem tspoilt_yes (a : Option Addr) (c : Nat) (l : List Ac) (cc : Ch) (at_ : Int) (gn : Bool) (w : World) (hw : AcsAt w a l) (hm : l.length ≤ maxLen) (hcf : cc.key.size ≤ maxLen ∧ cc.val.size ≤ maxLen) (ht : Tab w) (hq : lacB l 80 = true) :
    Calls Tryz.prog 5 #[.slice a l.length c, .agg #[.string cc.key, .string cc.val, .bool cc.gone], .int .i64 at_, .bool gn] w fun e w' => e = .returned (.bool true) ∧ Below w.heap.size w w' := by
  have BC := Bx.new w [.string cc.key, .string cc.val, .bool cc.gone] 52
  have bl := (Below.refl w.heap.size w).alloc (by first | exact Nat.le_refl _ | (simp <;> omega)) (.cells #[.string cc.key, .string cc.val, .bool cc.gone] 52)
  have hlen := lac_len hq
  have hi := inv_grow l l.length (by omega)
  rw [List.take_length] at hi
  have hI : RmI (growR l) := ⟨hi.sz (by omega), hi.put, hi.wf⟩
  have hW := whole_grow l
  have hk : InvK 80 (growR l) := hi.mono (by omega)
  clear hi
  go_enter Tryz.func5, Tryz.ntmps5
  have hcon := made_any (w.alloc (.cells #[.string cc.key, .string cc.val, .bool cc.gone] 52))
  go_wp2_with fail
  refine hcon.mono ?_
  rintro e w1 ⟨rfl, hb1⟩
  clear hcon
  replace BC := BC.below hb1
  replace bl := Below_after bl hb1
  have yC := BC.1
  have hg := grown_yes a c l w1 (hw.below bl) hm hq
  generalize growR l = g at hg hI hW hk
  clear hq hw hm hlen
  have hcon := hg
  clear hg
  go_wp2_with fail
  refine hcon.mono ?_
  rintro e w2 ⟨a0, a1, a2, a3, N0, N1, N2, N3, c0, c1, c2, c3, M, N, rfl, ⟨l0, l1, l2, l3, l4, l5⟩, hat, -, hb2⟩
  clear hcon
  clear yC
  replace BC := BC.below hb2
  replace bl := Below_after bl hb2
  have yC := BC.1
  replace BC := BC.alloc (.cells #[.slice a0 N0 c0, .slice a1 N1 c1, .slice a2 N2 c2, .slice a3 N3 c3, .int .i64 M, .int .i64 N] 32)
  replace hat := hat.below ((Below.refl _ _).alloc (Nat.le_refl _) (.cells #[.slice a0 N0 c0, .slice a1 N1 c1, .slice a2 N2 c2, .slice a3 N3 c3, .int .i64 M, .int .i64 N] 32))
  replace bl := bl.alloc bl.size (.cells #[.slice a0 N0 c0, .slice a1 N1 c1, .slice a2 N2 c2, .slice a3 N3 c3, .int .i64 M, .int .i64 N] 32)
  have BR := Bx.new w2 [.slice a0 N0 c0, .slice a1 N1 c1, .slice a2 N2 c2, .slice a3 N3 c3, .int .i64 M, .int .i64 N] 32
  obtain ⟨q1, q2, q3, q4⟩ := top_quiet hW
  have hQ := whole_quiet hW
  have hQz := quiet_szR hW hI.sz
  have hok := whole_imok hQ
  have h60 := rows_sixty hQ q1
  have hmx := rows_max hok
  have hpos : 0 < (rowsL (quietR g)).length := by rw [rows_len]; omega
  have hrw := fun (W : World) (h : RmAt W a0 a1 a2 a3 c0 c1 c2 c3 g) (ht : Tab W) => rows_any a0 a1 a2 a3 c0 c1 c2 c3 g W h hI.sz hok (by have := hQz.h; omega) hQz.t hQz.w ht
  simp only [l0, l1, l2, l3, l4, l5] at hrw
  clear q1 q2 q3 q4 hQ hQz hok hI hW hk l0 l1 l2 l3 l4 l5
  generalize rowsL (quietR g) = rl at *
  have htv := ht.below bl
  have cC0 := (BC.2 0 _ rfl).1
  have cC1 := (BC.2 1 _ rfl).1
  have cC2 := (BC.2 2 _ rfl).1
  have zC := BC.1
  have cR0 := (BR.2 0 _ rfl).1
  have cR1 := (BR.2 1 _ rfl).1
  have cR2 := (BR.2 2 _ rfl).1
  have cR3 := (BR.2 3 _ rfl).1
  have cR4 := (BR.2 4 _ rfl).1
  have cR5 := (BR.2 5 _ rfl).1
  have zR := BR.1
  replace BC := BC.alloc (.cells #[.string cc.key, .string cc.val, .bool cc.gone] 52)
  replace BR := BR.alloc (.cells #[.string cc.key, .string cc.val, .bool cc.gone] 52)
  replace hat := hat.below ((Below.refl _ _).alloc (Nat.le_refl _) (.cells #[.string cc.key, .string cc.val, .bool cc.gone] 52))
  replace bl := bl.alloc bl.size (.cells #[.string cc.key, .string cc.val, .bool cc.gone] 52)
  have BD := Bx.new (w2.alloc (.cells #[.slice a0 N0 c0, .slice a1 N1 c1, .slice a2 N2 c2, .slice a3 N3 c3, .int .i64 M, .int .i64 N] 32)) [.string cc.key, .string cc.val, .bool cc.gone] 52
  have zz : (w2.alloc (.cells #[.slice a0 N0 c0, .slice a1 N1 c1, .slice a2 N2 c2, .slice a3 N3 c3, .int .i64 M, .int .i64 N] 32)).heap.size = w2.heap.size + 1 := sz_alloc _ _
  rw [zz] at BD
  have hcon := lch_any (some ⟨w2.heap.size + 1, 0, none⟩) 1 [cc] 1 _ (.inr ⟨_, 0, rfl, BD.1, chs_oneI BD hcf⟩) (by unfold maxLen; simp) (by omega) (by omega)
  clear zz
  go_wp2_with fail
  refine hcon.mono ?_
  rintro e w' ⟨rfl, hw'⟩
  rw [hw']
  clear hw' w' hcon
  clear cC0 cC1 cC2 zC cR0 cR1 cR2 cR3 cR4 cR5 zR
  have cC0 := (BC.2 0 _ rfl).1
  have cC1 := (BC.2 1 _ rfl).1
  have cC2 := (BC.2 2 _ rfl).1
  have zC := BC.1
  have cR0 := (BR.2 0 _ rfl).1
  have cR1 := (BR.2 1 _ rfl).1
  have cR2 := (BR.2 2 _ rfl).1
  have cR3 := (BR.2 3 _ rfl).1
  have cR4 := (BR.2 4 _ rfl).1
  have cR5 := (BR.2 5 _ rfl).1
  have zR := BR.1
  by_cases hlc : lchB [cc] 1 = true
  rotate_left
  · have hlc' : lchB [cc] 1 = false := by simpa using hlc
    rw [hlc']
    clear hlc hlc' hrw
    go_wp2_with fail
    go_ret
    exact ⟨rfl, bl⟩
  rw [hlc]
  clear hlc
  have hzW := BC.1
  have hcon := hrw _ hat (ht.below bl)
  clear hrw
  go_wp2_with fail
  refine hcon.mono ?_
  clear cC0 cC1 cC2 zC cR0 cR1 cR2 cR3 cR4 cR5 zR hcon
  rintro e w3 ⟨v, rfl, hown, hb3⟩
  clear BD
  clear yC
  replace BC := BC.below hb3
  replace BR := BR.below hb3
  replace hat := hat.below hb3
  replace bl := Below_after bl hb3
  have yC := BC.1
  have yR := BR.1
  obtain ⟨ra, rc, rfl, hch⟩ := chs_of_row hown hmx
  have hhi := hi_of_row hown
  have htw0 := ht
  have hblw := bl
  clear hown hat BR htv ht
  obtain ⟨n, hnl, hK⟩ := and_rem at_ hpos
  obtain ⟨y, hy⟩ : ∃ y, rl[n]? = some y := ⟨rl[n], List.getElem?_eq_getElem hnl⟩
  obtain ⟨b1, o1, rfl, hb1, hx1⟩ := hch.resolve_left (fun e => by rw [e] at hpos; simp at hpos)
  have hlo : w.heap.size < b1 := Nat.lt_of_lt_of_le hzW (hhi _ rfl)
  obtain ⟨⟨p0, -, -⟩, s1, s2⟩ := hx1 n y hy
  have hne : ¬ b1 = w.heap.size := by omega
  have hne' : ¬ w.heap.size = b1 := by omega
  have ChRow : ChsAt w3 (some ⟨b1, o1, none⟩) rl := .inr ⟨b1, o1, rfl, hb1, hx1⟩
  have HY : Hid (rl[n]? = some y) := hy
  clear hx1 hy hch
  have cC0 := (BC.2 0 _ rfl).1
  have fC0 := (BC.2 0 _ rfl).2
  have cC1 := (BC.2 1 _ rfl).1
  have fC1 := (BC.2 1 _ rfl).2
  have cC2 := (BC.2 2 _ rfl).1
  have fC2 := (BC.2 2 _ rfl).2
  have zC := BC.1
  cases hbit : (bits BinOp.and IntKind.i64 at_ 1024 != 0) with
  | false =>
    cases gn with
    | false =>
      obtain ⟨V0, eV0⟩ : ∃ V, w3.setCell ⟨w.heap.size, 2, none⟩ (.bool false) = V := ⟨_, rfl⟩
      have BV0 : Bx V0 w.heap.size [.string cc.key, .string cc.val, .bool false] := by rw [← eV0]; exact BC.set 2 (.bool false)
      have CV0 : ChsAt V0 (some ⟨b1, o1, none⟩) rl := by rw [← eV0]; exact ChRow.setHi (k := b1) (fun ad had => by cases had; exact Nat.le_refl _) hlo 2 (.bool false)
      have bV0 : Below w.heap.size w V0 := by rw [← eV0]; exact bl.setCell (p := ⟨w.heap.size, 2, none⟩) (Nat.le_refl _) (.bool false)
      have hV0 : V0.heap.size = w3.heap.size := by rw [← eV0]; simp
      have a0V0 := (BV0.2 0 _ rfl).1
      have a1V0 := (BV0.2 0 _ rfl).2
      have a2V0 := (BV0.2 1 _ rfl).1
      have a3V0 := (BV0.2 1 _ rfl).2
      have a4V0 := (BV0.2 2 _ rfl).1
      have a5V0 := (BV0.2 2 _ rfl).2
      have rV0 := (chs_at CV0 (by intro e; rw [e] at hpos; simp at hpos) n y HY.out).1.1
      have BV := BV0
      have CV := CV0
      have bV := bV0
      have hVs := hV0
      clear BC ChRow bl BV0 CV0 bV0
      have hfd : (cc.key : ByteArray).size ≤ maxLen ∧ (cc.val : ByteArray).size ≤ maxLen := ⟨hcf.1, hcf.2⟩
      go_wp2_with fail
      clear eV0 a0V0 a1V0 a2V0 a3V0 a4V0 a5V0 rV0
      generalize V0 = V at *
      have bd : Below V.heap.size V (V.alloc (.cells #[.string cc.key, .string cc.val, .bool false] 52)) := (Below.refl _ V).alloc (Nat.le_refl _) _
      have BD := Bx.new V [.string cc.key, .string cc.val, .bool false] 52
      rw [hVs] at BD
      refine (applied_end b1 o1 rc w3.heap.size 0 1 rl [⟨cc.key, cc.val, false⟩] (V.alloc (.cells #[.string cc.key, .string cc.val, .bool false] 52)) (chs_at (CV.below bd) (by intro e; rw [e] at hpos; simp at hpos)) (Nat.lt_of_lt_of_le (chs_lt CV (by intro e; rw [e] at hpos; simp at hpos)) bd.size) (chs_oneI BD hfd) BD.1 (by omega) (by simp)).mono ?_
      rintro e w4 ⟨L, a6, c6, rfl, hch, hL, hb4⟩
      have b4 := Below_after bV (Below_after bd hb4)
      clear BV CV bV hfd bd BD hb4
      have ht4 := htw0.below b4
      have hcon := parse_any a6 c6 L w4 hch hL
      go_wp2_with fail
      refine hcon.mono ?_
      rintro e w5 ⟨hb5, hO⟩
      have b5 := Below_after b4 hb5
      replace hch := hch.below hb5
      replace ht4 := ht4.below hb5
      clear hcon hb5 b4
      rcases hO with ⟨z, x0, x1, x2, x3, f0, f1, f2, f3, hz, rfl, hat⟩ | ⟨hz, rfl⟩
      rotate_left
      · clear hz hch
        have BZ := Bx.new w5 [.slice none 0 0, .slice none 0 0, .slice none 0 0, .slice none 0 0, .int .i64 0, .int .i64 0] 32
        have bz : Below w5.heap.size w5 (w5.alloc (.cells #[.slice none 0 0, .slice none 0 0, .slice none 0 0, .slice none 0 0, .int .i64 0, .int .i64 0] 32)) := (Below.refl _ w5).alloc (Nat.le_refl _) _
        obtain ⟨c0, c1, c2, c3, c4, c5⟩ := BZ.c6
        have zz := BZ.1
        have hcon := sr_same none none none none 0 0 0 0 rmZ none none none none 0 0 0 0 (w5.alloc (.cells #[.slice none 0 0, .slice none 0 0, .slice none 0 0, .slice none 0 0, .int .i64 0, .int .i64 0] 32)) (rmZ_at _) (rmZ_at _) rmZ_sz
        go_wp2_with fail
        refine hcon.mono ?_
        rintro e w6 ⟨rfl, hb6⟩
        have b6 := Below_after b5 (Below_after bz hb6)
        clear c0 c1 c2 c3 c4 c5 zz hcon
        go_wp2_with fail
        go_ret
        exact ⟨rfl, b6⟩
      obtain ⟨e1, e2, e3, e4⟩ := parse_inv hz
      have hT := tog_of e3
      have hq := tog_quiet hT e2
      have hz1 : RmSz z := tog_sz hT e2 (by rw [e1]; exact hL)
      have hok := hT.ok
      have hgood := hT.good (by rw [e1]; exact e4)
      have hll := hT.hl
      have hgw := chk_of_good hT.gw
      have htt := hT.tt
      have hnn : z.ns.length = 0 := by rw [e2]; rfl
      have hrl : rowsL z = L := e1
      have s0 := hT.nw
      have BZ := Bx.new w5 [.slice x0 z.ws.length f0, .slice x1 z.ts.length f1, .slice x2 z.hs.length f2, .slice x3 z.ns.length f3, .int .i64 z.nw, .int .i64 z.nt] 32
      have bz : Below w5.heap.size w5 (w5.alloc (.cells #[.slice x0 z.ws.length f0, .slice x1 z.ts.length f1, .slice x2 z.hs.length f2, .slice x3 z.ns.length f3, .int .i64 z.nw, .int .i64 z.nt] 32)) := (Below.refl _ w5).alloc (Nat.le_refl _) _
      have hat6 := hat.below bz
      have ht6 := ht4.below bz
      have hch6 := hch.below bz
      have b6 := Below_after b5 bz
      have hcon := rows_any x0 x1 x2 x3 f0 f1 f2 f3 z _ hat6 hz1 (by rw [hq]; exact hok) (by rw [hq]; have := hz1.h; omega) (by rw [hq]; exact hz1.t) (by rw [hq]; exact hz1.w) ht6
      rw [hq, hrl] at hcon
      clear e1 e2 e3 e4 hq hT hz hat ht4 hch bz b5 ht6
      have HLL : Hid (z.hs.length = z.ws.length) := hll
      have HNN : Hid (z.ns.length = 0) := hnn
      have HRL : Hid (rowsL z = L ∧ chk z.ws = 0 ∧ z.ts.map (·.id) = thingsL z.ws ∧ Good z.hs) := ⟨hrl, hgw, htt, hgood⟩
      clear hll hnn hrl hgw htt hgood
      obtain ⟨c0, c1, c2, c3, c4, c5⟩ := BZ.c6
      have zz := BZ.1
      go_wp2_with fail
      refine hcon.mono ?_
      rintro e w7 ⟨v7, rfl, ho7, hb7⟩
      obtain ⟨ra7, rc7, rfl, hch7⟩ := chs_of_row ho7 (chs_fitI hch6)
      have BZ7 := BZ.below hb7
      have hat7 := hat6.below hb7
      have b7 := Below_after b6 hb7
      have hchL := hch6.below hb7
      clear c0 c1 c2 c3 c4 c5 zz hcon ho7 hb7 BZ hat6 b6 hch6
      go_wp2_with fail
      refine (samech_any ra7 a6 rc7 c6 L L w7 hch7 hchL (by unfold maxLen; omega) (by unfold maxLen; omega)).mono ?_
      rintro e w8 ⟨⟨r8, rfl, hr8⟩, hb8⟩
      obtain rfl : r8 = true := hr8.2 rfl
      have BZ8 := BZ7.below hb8
      have hat8 := hat7.below hb8
      have b8 := Below_after b7 hb8
      clear hr8 hb8 BZ7 hat7 b7 hch7 hchL
      obtain ⟨c0, c1, c2, c3, c4, c5⟩ := BZ8.c6
      have zz := BZ8.1
      have hcon := chk_any x0 f0 z.ws w8 hat8.w hz1.w hat8.fw.1 hat8.fw.2
      go_wp2_with fail
      refine hcon.mono ?_
      rintro e w9 ⟨v9, rfl, hE, hb9⟩
      obtain rfl : v9 = .nilIface := by rcases hE with ⟨-, h⟩ | ⟨h, -⟩; exact h; exact absurd HRL.out.2.1 h
      have BZ9 := BZ8.below hb9
      have hat9 := hat8.below hb9
      have b9 := Below_after b8 hb9
      clear c0 c1 c2 c3 c4 c5 zz hcon hE hb9 BZ8 hat8 b8
      have hcon := good_any x2 f2 z.hs w9 hat9.h (by have := hz1.h; unfold maxLen; omega)
      obtain ⟨c0, c1, c2, c3, c4, c5⟩ := BZ9.c6
      have zz := BZ9.1
      have hle : ((z.hs.length : Int) != (z.ws.length : Int)) = false := by rw [HLL.out]; simp
      go_wp2_with fail
      refine hcon.mono ?_
      rintro e w10 ⟨r10, rfl, hr10, hb10⟩
      obtain rfl : r10 = true := hr10.2 HRL.out.2.2.2
      have BZ10 := BZ9.below hb10
      have hat10 := hat9.below hb10
      have b10 := Below_after b9 hb10
      clear c0 c1 c2 c3 c4 c5 zz hcon hr10 hb10 BZ9 hat9 b9
      obtain ⟨c0, c1, c2, c3, c4, c5⟩ := BZ10.c6
      have zz := BZ10.1
      have hn0 : ((z.ns.length : Int) != 0) = false := by rw [HNN.out]; rfl
      go_wp2_with fail
      clear c0 c1 c2 c3 c4 c5 zz
      obtain ⟨ii, hi, hi0, hi1, hi2⟩ := info_parts infoInt
      have hzt := hz1.t
      have HT2 := hat10.t
      have HW2 := hat10.w
      have hzw := hz1.w
      have zlo : w5.heap.size < w10.heap.size := BZ10.1
      clear hz1 hok s0
      go_loopw [16, 17] (fun v i wr => ∃ q : Nat, q ≤ z.ts.length ∧ i = .int .i64 q ∧ wr.ownsRow w10.heap.size 3 1 v ((z.ts.take q).map (·.id)).length (((z.ts.take q).map (·.id)).flatMap icells) ∧ Below w10.heap.size w10 wr) (fun _ i _ => z.ts.length - (intOf i).toNat)
      case atStart => exact ⟨0, Nat.zero_le _, rfl, by simpa using World.ownsRow_nil _ _ _ _, Below.refl _ _⟩
      case round =>
        obtain ⟨q, hq, rfl, hown, hbl⟩ := hrel
        have BW := BZ10.below hbl
        obtain ⟨c0, c1, c2, c3, c4, c5⟩ := BW.c6
        have zz := BW.1
        by_cases hlt : q < z.ts.length
        · obtain ⟨x, hx⟩ : ∃ x, z.ts[q]? = some x := ⟨z.ts[q], List.getElem?_eq_getElem hlt⟩
          obtain ⟨bt, ot, rfl, hbt, hxt⟩ := HT2.resolve_left (fun e => by rw [e] at hlt; simp at hlt)
          obtain ⟨g1, g2, g3⟩ := (hxt q x hx).below hbl hbt
          have HTk : Hid ((z.ts.take (q + 1)).map (·.id) = (z.ts.take q).map (·.id) ++ [x.id]) := (show (z.ts.take (q + 1)).map (·.id) = _ from by rw [List.take_add_one, hx]; simp)
          have hle2 : ((z.ts.take q).map (·.id)).length ≤ z.ts.length := by simp; omega
          have hbz : bt < wr.heap.size := Nat.lt_of_lt_of_le hbt hbl.size
          have dlt : decide ((q : Int) < (z.ts.length : Int)) = true := decide_eq_true (by omega)
          generalize hM : (z.ts.take q).map (·.id) = M' at hown hle2
          have HM : Hid ((z.ts.take q).map (·.id) = M') := hM
          clear hM hxt HT2 hx
          go_wp2_with (at_builtin; refine wpList_append_own _ rfl _ _ 60 rfl w10.heap.size 3 ii (.int .i64 0) 1 8 Tryz.underlying60 hi hi0 hi1 hi2 rfl (by decide) _ _ _ rfl (hown.alloc _) _ 1 1 [.int .i64 x.id] rfl rfl (new1 _ _ _) (one1 _) ?c3 ?c4 ?c5 ?_)
          case c3 => unfold maxLen; omega
          case c4 => omega
          case c5 => have := hbl.size; simp; omega
          intro v' w12 hown' hgrow _
          have hown2 := row1_snoc hown'
          have hbl2 : Below w10.heap.size w10 w12 := (hbl.alloc hbl.size _).grown hgrow (by have := hbl.size; simp; omega) (fun m hm => (hown.lt m hm).1)
          clear hown' hgrow hown hbl c0 c1 c2 c3 c4 c5 zz g1 g2 g3 BW
          go_wp2_with fail
          go_roundw
          case rel => exact ⟨q + 1, by omega, by go_num, by rw [HTk.out, HM.out]; exact hown2, hbl2⟩
          case measure => simp [intOf]; omega
        · have hqn : q = z.ts.length := by omega
          rw [hqn, List.take_length, HRL.out.2.2.1] at hown
          obtain ⟨at1, ct1, rfl, hI1, hIz1⟩ := ints_of_row hown
          have dlt : decide ((q : Int) < (z.ts.length : Int)) = false := decide_eq_false (by omega)
          have hcon := things_any x0 f0 z.ws wr (HW2.below hbl) hzw
          have hth : (thingsL z.ws).length ≤ 1000000 := by have := th_le z.ws; omega
          clear hown hqn HT2
          go_wp2_with fail
          refine hcon.mono ?_
          rintro e w13 ⟨at2, ct2, rfl, hI2, hIz2, hb13⟩
          have hI1' := hI1.below hb13 hIz1
          have hIz1' : ∀ b o, at1 = some ⟨b, o, none⟩ → b < w13.heap.size := fun b o e => Nat.lt_of_lt_of_le (hIz1 b o e) hb13.size
          have b13 := Below_after (b10.trans (hbl.mono b10.size)) hb13
          clear hcon hb13 hI1 hIz1 c0 c1 c2 c3 c4 c5 zz
          go_wp2_with fail
          refine (sameN_any at1 at2 ct1 ct2 (thingsL z.ws) w13 hI1' hI2 hIz1' hIz2 hth).mono ?_
          rintro e w14 ⟨rfl, hb14⟩
          have b14 := Below_after b13 hb14
          go_wp2_with fail
          go_ret
          exact ⟨rfl, b14⟩
    | true =>
      obtain ⟨V0, eV0⟩ : ∃ V, w3.setCell ⟨w.heap.size, 2, none⟩ (.bool false) = V := ⟨_, rfl⟩
      have BV0 : Bx V0 w.heap.size [.string cc.key, .string cc.val, .bool false] := by rw [← eV0]; exact BC.set 2 (.bool false)
      have CV0 : ChsAt V0 (some ⟨b1, o1, none⟩) rl := by rw [← eV0]; exact ChRow.setHi (k := b1) (fun ad had => by cases had; exact Nat.le_refl _) hlo 2 (.bool false)
      have bV0 : Below w.heap.size w V0 := by rw [← eV0]; exact bl.setCell (p := ⟨w.heap.size, 2, none⟩) (Nat.le_refl _) (.bool false)
      have hV0 : V0.heap.size = w3.heap.size := by rw [← eV0]; simp
      have a0V0 := (BV0.2 0 _ rfl).1
      have a1V0 := (BV0.2 0 _ rfl).2
      have a2V0 := (BV0.2 1 _ rfl).1
      have a3V0 := (BV0.2 1 _ rfl).2
      have a4V0 := (BV0.2 2 _ rfl).1
      have a5V0 := (BV0.2 2 _ rfl).2
      have rV0 := (chs_at CV0 (by intro e; rw [e] at hpos; simp at hpos) n y HY.out).1.1
      obtain ⟨V1, eV1⟩ : ∃ V, V0.setCell ⟨w.heap.size, 0, none⟩ (.string y.key) = V := ⟨_, rfl⟩
      have BV1 : Bx V1 w.heap.size [.string y.key, .string cc.val, .bool false] := by rw [← eV1]; exact BV0.set 0 (.string y.key)
      have CV1 : ChsAt V1 (some ⟨b1, o1, none⟩) rl := by rw [← eV1]; exact CV0.setHi (k := b1) (fun ad had => by cases had; exact Nat.le_refl _) hlo 0 (.string y.key)
      have bV1 : Below w.heap.size w V1 := by rw [← eV1]; exact bV0.setCell (p := ⟨w.heap.size, 0, none⟩) (Nat.le_refl _) (.string y.key)
      have hV1 : V1.heap.size = w3.heap.size := by rw [← eV1]; simp [hV0]
      have a0V1 := (BV1.2 0 _ rfl).1
      have a1V1 := (BV1.2 0 _ rfl).2
      have a2V1 := (BV1.2 1 _ rfl).1
      have a3V1 := (BV1.2 1 _ rfl).2
      have a4V1 := (BV1.2 2 _ rfl).1
      have a5V1 := (BV1.2 2 _ rfl).2
      have rV1 := (chs_at CV1 (by intro e; rw [e] at hpos; simp at hpos) n y HY.out).1.1
      obtain ⟨V2, eV2⟩ : ∃ V, V1.setCell ⟨w.heap.size, 1, none⟩ (.string ⟨#[]⟩) = V := ⟨_, rfl⟩
      have BV2 : Bx V2 w.heap.size [.string y.key, .string ⟨#[]⟩, .bool false] := by rw [← eV2]; exact BV1.set 1 (.string ⟨#[]⟩)
      have CV2 : ChsAt V2 (some ⟨b1, o1, none⟩) rl := by rw [← eV2]; exact CV1.setHi (k := b1) (fun ad had => by cases had; exact Nat.le_refl _) hlo 1 (.string ⟨#[]⟩)
      have bV2 : Below w.heap.size w V2 := by rw [← eV2]; exact bV1.setCell (p := ⟨w.heap.size, 1, none⟩) (Nat.le_refl _) (.string ⟨#[]⟩)
      have hV2 : V2.heap.size = w3.heap.size := by rw [← eV2]; simp [hV1]
      have a0V2 := (BV2.2 0 _ rfl).1
      have a1V2 := (BV2.2 0 _ rfl).2
      have a2V2 := (BV2.2 1 _ rfl).1
      have a3V2 := (BV2.2 1 _ rfl).2
      have a4V2 := (BV2.2 2 _ rfl).1
      have a5V2 := (BV2.2 2 _ rfl).2
      have rV2 := (chs_at CV2 (by intro e; rw [e] at hpos; simp at hpos) n y HY.out).1.1
      obtain ⟨V3, eV3⟩ : ∃ V, V2.setCell ⟨w.heap.size, 2, none⟩ (.bool true) = V := ⟨_, rfl⟩
      have BV3 : Bx V3 w.heap.size [.string y.key, .string ⟨#[]⟩, .bool true] := by rw [← eV3]; exact BV2.set 2 (.bool true)
      have CV3 : ChsAt V3 (some ⟨b1, o1, none⟩) rl := by rw [← eV3]; exact CV2.setHi (k := b1) (fun ad had => by cases had; exact Nat.le_refl _) hlo 2 (.bool true)
      have bV3 : Below w.heap.size w V3 := by rw [← eV3]; exact bV2.setCell (p := ⟨w.heap.size, 2, none⟩) (Nat.le_refl _) (.bool true)
      have hV3 : V3.heap.size = w3.heap.size := by rw [← eV3]; simp [hV2]
      have a0V3 := (BV3.2 0 _ rfl).1
      have a1V3 := (BV3.2 0 _ rfl).2
      have a2V3 := (BV3.2 1 _ rfl).1
      have a3V3 := (BV3.2 1 _ rfl).2
      have a4V3 := (BV3.2 2 _ rfl).1
      have a5V3 := (BV3.2 2 _ rfl).2
      have rV3 := (chs_at CV3 (by intro e; rw [e] at hpos; simp at hpos) n y HY.out).1.1
      have BV := BV3
      have CV := CV3
      have bV := bV3
      have hVs := hV3
      clear BC ChRow bl BV0 CV0 bV0 BV1 CV1 bV1 BV2 CV2 bV2 BV3 CV3 bV3
      have hfd : (y.key : ByteArray).size ≤ maxLen ∧ (⟨#[]⟩ : ByteArray).size ≤ maxLen := ⟨s1, by decide⟩
      go_wp2_with fail
      clear eV0 a0V0 a1V0 a2V0 a3V0 a4V0 a5V0 rV0 eV1 a0V1 a1V1 a2V1 a3V1 a4V1 a5V1 rV1 eV2 a0V2 a1V2 a2V2 a3V2 a4V2 a5V2 rV2 eV3 a0V3 a1V3 a2V3 a3V3 a4V3 a5V3 rV3
      generalize V3 = V at *
      have bd : Below V.heap.size V (V.alloc (.cells #[.string y.key, .string ⟨#[]⟩, .bool true] 52)) := (Below.refl _ V).alloc (Nat.le_refl _) _
      have BD := Bx.new V [.string y.key, .string ⟨#[]⟩, .bool true] 52
      rw [hVs] at BD
      refine (applied_end b1 o1 rc w3.heap.size 0 1 rl [⟨y.key, ⟨#[]⟩, true⟩] (V.alloc (.cells #[.string y.key, .string ⟨#[]⟩, .bool true] 52)) (chs_at (CV.below bd) (by intro e; rw [e] at hpos; simp at hpos)) (Nat.lt_of_lt_of_le (chs_lt CV (by intro e; rw [e] at hpos; simp at hpos)) bd.size) (chs_oneI BD hfd) BD.1 (by omega) (by simp)).mono ?_
      rintro e w4 ⟨L, a6, c6, rfl, hch, hL, hb4⟩
      have b4 := Below_after bV (Below_after bd hb4)
      clear BV CV bV hfd bd BD hb4
      have ht4 := htw0.below b4
      have hcon := parse_any a6 c6 L w4 hch hL
      go_wp2_with fail
      refine hcon.mono ?_
      rintro e w5 ⟨hb5, hO⟩
      have b5 := Below_after b4 hb5
      replace hch := hch.below hb5
      replace ht4 := ht4.below hb5
      clear hcon hb5 b4
      rcases hO with ⟨z, x0, x1, x2, x3, f0, f1, f2, f3, hz, rfl, hat⟩ | ⟨hz, rfl⟩
      rotate_left
      · clear hz hch
        have BZ := Bx.new w5 [.slice none 0 0, .slice none 0 0, .slice none 0 0, .slice none 0 0, .int .i64 0, .int .i64 0] 32
        have bz : Below w5.heap.size w5 (w5.alloc (.cells #[.slice none 0 0, .slice none 0 0, .slice none 0 0, .slice none 0 0, .int .i64 0, .int .i64 0] 32)) := (Below.refl _ w5).alloc (Nat.le_refl _) _
        obtain ⟨c0, c1, c2, c3, c4, c5⟩ := BZ.c6
        have zz := BZ.1
        have hcon := sr_same none none none none 0 0 0 0 rmZ none none none none 0 0 0 0 (w5.alloc (.cells #[.slice none 0 0, .slice none 0 0, .slice none 0 0, .slice none 0 0, .int .i64 0, .int .i64 0] 32)) (rmZ_at _) (rmZ_at _) rmZ_sz
        go_wp2_with fail
        refine hcon.mono ?_
        rintro e w6 ⟨rfl, hb6⟩
        have b6 := Below_after b5 (Below_after bz hb6)
        clear c0 c1 c2 c3 c4 c5 zz hcon
        go_wp2_with fail
        go_ret
        exact ⟨rfl, b6⟩
      obtain ⟨e1, e2, e3, e4⟩ := parse_inv hz
      have hT := tog_of e3
      have hq := tog_quiet hT e2
      have hz1 : RmSz z := tog_sz hT e2 (by rw [e1]; exact hL)
      have hok := hT.ok
      have hgood := hT.good (by rw [e1]; exact e4)
      have hll := hT.hl
      have hgw := chk_of_good hT.gw
      have htt := hT.tt
      have hnn : z.ns.length = 0 := by rw [e2]; rfl
      have hrl : rowsL z = L := e1
      have s0 := hT.nw
      have BZ := Bx.new w5 [.slice x0 z.ws.length f0, .slice x1 z.ts.length f1, .slice x2 z.hs.length f2, .slice x3 z.ns.length f3, .int .i64 z.nw, .int .i64 z.nt] 32
      have bz : Below w5.heap.size w5 (w5.alloc (.cells #[.slice x0 z.ws.length f0, .slice x1 z.ts.length f1, .slice x2 z.hs.length f2, .slice x3 z.ns.length f3, .int .i64 z.nw, .int .i64 z.nt] 32)) := (Below.refl _ w5).alloc (Nat.le_refl _) _
      have hat6 := hat.below bz
      have ht6 := ht4.below bz
      have hch6 := hch.below bz
      have b6 := Below_after b5 bz
      have hcon := rows_any x0 x1 x2 x3 f0 f1 f2 f3 z _ hat6 hz1 (by rw [hq]; exact hok) (by rw [hq]; have := hz1.h; omega) (by rw [hq]; exact hz1.t) (by rw [hq]; exact hz1.w) ht6
      rw [hq, hrl] at hcon
      clear e1 e2 e3 e4 hq hT hz hat ht4 hch bz b5 ht6
      have HLL : Hid (z.hs.length = z.ws.length) := hll
      have HNN : Hid (z.ns.length = 0) := hnn
      have HRL : Hid (rowsL z = L ∧ chk z.ws = 0 ∧ z.ts.map (·.id) = thingsL z.ws ∧ Good z.hs) := ⟨hrl, hgw, htt, hgood⟩
      clear hll hnn hrl hgw htt hgood
      obtain ⟨c0, c1, c2, c3, c4, c5⟩ := BZ.c6
      have zz := BZ.1
      go_wp2_with fail
      refine hcon.mono ?_
      rintro e w7 ⟨v7, rfl, ho7, hb7⟩
      obtain ⟨ra7, rc7, rfl, hch7⟩ := chs_of_row ho7 (chs_fitI hch6)
      have BZ7 := BZ.below hb7
      have hat7 := hat6.below hb7
      have b7 := Below_after b6 hb7
      have hchL := hch6.below hb7
      clear c0 c1 c2 c3 c4 c5 zz hcon ho7 hb7 BZ hat6 b6 hch6
      go_wp2_with fail
      refine (samech_any ra7 a6 rc7 c6 L L w7 hch7 hchL (by unfold maxLen; omega) (by unfold maxLen; omega)).mono ?_
      rintro e w8 ⟨⟨r8, rfl, hr8⟩, hb8⟩
      obtain rfl : r8 = true := hr8.2 rfl
      have BZ8 := BZ7.below hb8
      have hat8 := hat7.below hb8
      have b8 := Below_after b7 hb8
      clear hr8 hb8 BZ7 hat7 b7 hch7 hchL
      obtain ⟨c0, c1, c2, c3, c4, c5⟩ := BZ8.c6
      have zz := BZ8.1
      have hcon := chk_any x0 f0 z.ws w8 hat8.w hz1.w hat8.fw.1 hat8.fw.2
      go_wp2_with fail
      refine hcon.mono ?_
      rintro e w9 ⟨v9, rfl, hE, hb9⟩
      obtain rfl : v9 = .nilIface := by rcases hE with ⟨-, h⟩ | ⟨h, -⟩; exact h; exact absurd HRL.out.2.1 h
      have BZ9 := BZ8.below hb9
      have hat9 := hat8.below hb9
      have b9 := Below_after b8 hb9
      clear c0 c1 c2 c3 c4 c5 zz hcon hE hb9 BZ8 hat8 b8
      have hcon := good_any x2 f2 z.hs w9 hat9.h (by have := hz1.h; unfold maxLen; omega)
      obtain ⟨c0, c1, c2, c3, c4, c5⟩ := BZ9.c6
      have zz := BZ9.1
      have hle : ((z.hs.length : Int) != (z.ws.length : Int)) = false := by rw [HLL.out]; simp
      go_wp2_with fail
      refine hcon.mono ?_
      rintro e w10 ⟨r10, rfl, hr10, hb10⟩
      obtain rfl : r10 = true := hr10.2 HRL.out.2.2.2
      have BZ10 := BZ9.below hb10
      have hat10 := hat9.below hb10
      have b10 := Below_after b9 hb10
      clear c0 c1 c2 c3 c4 c5 zz hcon hr10 hb10 BZ9 hat9 b9
      obtain ⟨c0, c1, c2, c3, c4, c5⟩ := BZ10.c6
      have zz := BZ10.1
      have hn0 : ((z.ns.length : Int) != 0) = false := by rw [HNN.out]; rfl
      go_wp2_with fail
      clear c0 c1 c2 c3 c4 c5 zz
      obtain ⟨ii, hi, hi0, hi1, hi2⟩ := info_parts infoInt
      have hzt := hz1.t
      have HT2 := hat10.t
      have HW2 := hat10.w
      have hzw := hz1.w
      have zlo : w5.heap.size < w10.heap.size := BZ10.1
      clear hz1 hok s0
      go_loopw [16, 17] (fun v i wr => ∃ q : Nat, q ≤ z.ts.length ∧ i = .int .i64 q ∧ wr.ownsRow w10.heap.size 3 1 v ((z.ts.take q).map (·.id)).length (((z.ts.take q).map (·.id)).flatMap icells) ∧ Below w10.heap.size w10 wr) (fun _ i _ => z.ts.length - (intOf i).toNat)
      case atStart => exact ⟨0, Nat.zero_le _, rfl, by simpa using World.ownsRow_nil _ _ _ _, Below.refl _ _⟩
      case round =>
        obtain ⟨q, hq, rfl, hown, hbl⟩ := hrel
        have BW := BZ10.below hbl
        obtain ⟨c0, c1, c2, c3, c4, c5⟩ := BW.c6
        have zz := BW.1
        by_cases hlt : q < z.ts.length
        · obtain ⟨x, hx⟩ : ∃ x, z.ts[q]? = some x := ⟨z.ts[q], List.getElem?_eq_getElem hlt⟩
          obtain ⟨bt, ot, rfl, hbt, hxt⟩ := HT2.resolve_left (fun e => by rw [e] at hlt; simp at hlt)
          obtain ⟨g1, g2, g3⟩ := (hxt q x hx).below hbl hbt
          have HTk : Hid ((z.ts.take (q + 1)).map (·.id) = (z.ts.take q).map (·.id) ++ [x.id]) := (show (z.ts.take (q + 1)).map (·.id) = _ from by rw [List.take_add_one, hx]; simp)
          have hle2 : ((z.ts.take q).map (·.id)).length ≤ z.ts.length := by simp; omega
          have hbz : bt < wr.heap.size := Nat.lt_of_lt_of_le hbt hbl.size
          have dlt : decide ((q : Int) < (z.ts.length : Int)) = true := decide_eq_true (by omega)
          generalize hM : (z.ts.take q).map (·.id) = M' at hown hle2
          have HM : Hid ((z.ts.take q).map (·.id) = M') := hM
          clear hM hxt HT2 hx
          go_wp2_with (at_builtin; refine wpList_append_own _ rfl _ _ 60 rfl w10.heap.size 3 ii (.int .i64 0) 1 8 Tryz.underlying60 hi hi0 hi1 hi2 rfl (by decide) _ _ _ rfl (hown.alloc _) _ 1 1 [.int .i64 x.id] rfl rfl (new1 _ _ _) (one1 _) ?c3 ?c4 ?c5 ?_)
          case c3 => unfold maxLen; omega
          case c4 => omega
          case c5 => have := hbl.size; simp; omega
          intro v' w12 hown' hgrow _
          have hown2 := row1_snoc hown'
          have hbl2 : Below w10.heap.size w10 w12 := (hbl.alloc hbl.size _).grown hgrow (by have := hbl.size; simp; omega) (fun m hm => (hown.lt m hm).1)
          clear hown' hgrow hown hbl c0 c1 c2 c3 c4 c5 zz g1 g2 g3 BW
          go_wp2_with fail
          go_roundw
          case rel => exact ⟨q + 1, by omega, by go_num, by rw [HTk.out, HM.out]; exact hown2, hbl2⟩
          case measure => simp [intOf]; omega
        · have hqn : q = z.ts.length := by omega
          rw [hqn, List.take_length, HRL.out.2.2.1] at hown
          obtain ⟨at1, ct1, rfl, hI1, hIz1⟩ := ints_of_row hown
          have dlt : decide ((q : Int) < (z.ts.length : Int)) = false := decide_eq_false (by omega)
          have hcon := things_any x0 f0 z.ws wr (HW2.below hbl) hzw
          have hth : (thingsL z.ws).length ≤ 1000000 := by have := th_le z.ws; omega
          clear hown hqn HT2
          go_wp2_with fail
          refine hcon.mono ?_
          rintro e w13 ⟨at2, ct2, rfl, hI2, hIz2, hb13⟩
          have hI1' := hI1.below hb13 hIz1
          have hIz1' : ∀ b o, at1 = some ⟨b, o, none⟩ → b < w13.heap.size := fun b o e => Nat.lt_of_lt_of_le (hIz1 b o e) hb13.size
          have b13 := Below_after (b10.trans (hbl.mono b10.size)) hb13
          clear hcon hb13 hI1 hIz1 c0 c1 c2 c3 c4 c5 zz
          go_wp2_with fail
          refine (sameN_any at1 at2 ct1 ct2 (thingsL z.ws) w13 hI1' hI2 hIz1' hIz2 hth).mono ?_
          rintro e w14 ⟨rfl, hb14⟩
          have b14 := Below_after b13 hb14
          go_wp2_with fail
          go_ret
          exact ⟨rfl, b14⟩
  | true =>
    cases gn with
    | false =>
      obtain ⟨V0, eV0⟩ : ∃ V, w3.setCell ⟨w.heap.size, 2, none⟩ (.bool false) = V := ⟨_, rfl⟩
      have BV0 : Bx V0 w.heap.size [.string cc.key, .string cc.val, .bool false] := by rw [← eV0]; exact BC.set 2 (.bool false)
      have CV0 : ChsAt V0 (some ⟨b1, o1, none⟩) rl := by rw [← eV0]; exact ChRow.setHi (k := b1) (fun ad had => by cases had; exact Nat.le_refl _) hlo 2 (.bool false)
      have bV0 : Below w.heap.size w V0 := by rw [← eV0]; exact bl.setCell (p := ⟨w.heap.size, 2, none⟩) (Nat.le_refl _) (.bool false)
      have hV0 : V0.heap.size = w3.heap.size := by rw [← eV0]; simp
      have a0V0 := (BV0.2 0 _ rfl).1
      have a1V0 := (BV0.2 0 _ rfl).2
      have a2V0 := (BV0.2 1 _ rfl).1
      have a3V0 := (BV0.2 1 _ rfl).2
      have a4V0 := (BV0.2 2 _ rfl).1
      have a5V0 := (BV0.2 2 _ rfl).2
      have rV0 := (chs_at CV0 (by intro e; rw [e] at hpos; simp at hpos) n y HY.out).1.1
      obtain ⟨V1, eV1⟩ : ∃ V, V0.setCell ⟨w.heap.size, 0, none⟩ (.string y.key) = V := ⟨_, rfl⟩
      have BV1 : Bx V1 w.heap.size [.string y.key, .string cc.val, .bool false] := by rw [← eV1]; exact BV0.set 0 (.string y.key)
      have CV1 : ChsAt V1 (some ⟨b1, o1, none⟩) rl := by rw [← eV1]; exact CV0.setHi (k := b1) (fun ad had => by cases had; exact Nat.le_refl _) hlo 0 (.string y.key)
      have bV1 : Below w.heap.size w V1 := by rw [← eV1]; exact bV0.setCell (p := ⟨w.heap.size, 0, none⟩) (Nat.le_refl _) (.string y.key)
      have hV1 : V1.heap.size = w3.heap.size := by rw [← eV1]; simp [hV0]
      have a0V1 := (BV1.2 0 _ rfl).1
      have a1V1 := (BV1.2 0 _ rfl).2
      have a2V1 := (BV1.2 1 _ rfl).1
      have a3V1 := (BV1.2 1 _ rfl).2
      have a4V1 := (BV1.2 2 _ rfl).1
      have a5V1 := (BV1.2 2 _ rfl).2
      have rV1 := (chs_at CV1 (by intro e; rw [e] at hpos; simp at hpos) n y HY.out).1.1
      have BV := BV1
      have CV := CV1
      have bV := bV1
      have hVs := hV1
      clear BC ChRow bl BV0 CV0 bV0 BV1 CV1 bV1
      have hfd : (y.key : ByteArray).size ≤ maxLen ∧ (cc.val : ByteArray).size ≤ maxLen := ⟨s1, hcf.2⟩
      go_wp2_with fail
      clear eV0 a0V0 a1V0 a2V0 a3V0 a4V0 a5V0 rV0 eV1 a0V1 a1V1 a2V1 a3V1 a4V1 a5V1 rV1
      generalize V1 = V at *
      have bd : Below V.heap.size V (V.alloc (.cells #[.string y.key, .string cc.val, .bool false] 52)) := (Below.refl _ V).alloc (Nat.le_refl _) _
      have BD := Bx.new V [.string y.key, .string cc.val, .bool false] 52
      rw [hVs] at BD
      refine (applied_end b1 o1 rc w3.heap.size 0 1 rl [⟨y.key, cc.val, false⟩] (V.alloc (.cells #[.string y.key, .string cc.val, .bool false] 52)) (chs_at (CV.below bd) (by intro e; rw [e] at hpos; simp at hpos)) (Nat.lt_of_lt_of_le (chs_lt CV (by intro e; rw [e] at hpos; simp at hpos)) bd.size) (chs_oneI BD hfd) BD.1 (by omega) (by simp)).mono ?_
      rintro e w4 ⟨L, a6, c6, rfl, hch, hL, hb4⟩
      have b4 := Below_after bV (Below_after bd hb4)
      clear BV CV bV hfd bd BD hb4
      have ht4 := htw0.below b4
      have hcon := parse_any a6 c6 L w4 hch hL
      go_wp2_with fail
      refine hcon.mono ?_
      rintro e w5 ⟨hb5, hO⟩
      have b5 := Below_after b4 hb5
      replace hch := hch.below hb5
      replace ht4 := ht4.below hb5
      clear hcon hb5 b4
      rcases hO with ⟨z, x0, x1, x2, x3, f0, f1, f2, f3, hz, rfl, hat⟩ | ⟨hz, rfl⟩
      rotate_left
      · clear hz hch
        have BZ := Bx.new w5 [.slice none 0 0, .slice none 0 0, .slice none 0 0, .slice none 0 0, .int .i64 0, .int .i64 0] 32
        have bz : Below w5.heap.size w5 (w5.alloc (.cells #[.slice none 0 0, .slice none 0 0, .slice none 0 0, .slice none 0 0, .int .i64 0, .int .i64 0] 32)) := (Below.refl _ w5).alloc (Nat.le_refl _) _
        obtain ⟨c0, c1, c2, c3, c4, c5⟩ := BZ.c6
        have zz := BZ.1
        have hcon := sr_same none none none none 0 0 0 0 rmZ none none none none 0 0 0 0 (w5.alloc (.cells #[.slice none 0 0, .slice none 0 0, .slice none 0 0, .slice none 0 0, .int .i64 0, .int .i64 0] 32)) (rmZ_at _) (rmZ_at _) rmZ_sz
        go_wp2_with fail
        refine hcon.mono ?_
        rintro e w6 ⟨rfl, hb6⟩
        have b6 := Below_after b5 (Below_after bz hb6)
        clear c0 c1 c2 c3 c4 c5 zz hcon
        go_wp2_with fail
        go_ret
        exact ⟨rfl, b6⟩
      obtain ⟨e1, e2, e3, e4⟩ := parse_inv hz
      have hT := tog_of e3
      have hq := tog_quiet hT e2
      have hz1 : RmSz z := tog_sz hT e2 (by rw [e1]; exact hL)
      have hok := hT.ok
      have hgood := hT.good (by rw [e1]; exact e4)
      have hll := hT.hl
      have hgw := chk_of_good hT.gw
      have htt := hT.tt
      have hnn : z.ns.length = 0 := by rw [e2]; rfl
      have hrl : rowsL z = L := e1
      have s0 := hT.nw
      have BZ := Bx.new w5 [.slice x0 z.ws.length f0, .slice x1 z.ts.length f1, .slice x2 z.hs.length f2, .slice x3 z.ns.length f3, .int .i64 z.nw, .int .i64 z.nt] 32
      have bz : Below w5.heap.size w5 (w5.alloc (.cells #[.slice x0 z.ws.length f0, .slice x1 z.ts.length f1, .slice x2 z.hs.length f2, .slice x3 z.ns.length f3, .int .i64 z.nw, .int .i64 z.nt] 32)) := (Below.refl _ w5).alloc (Nat.le_refl _) _
      have hat6 := hat.below bz
      have ht6 := ht4.below bz
      have hch6 := hch.below bz
      have b6 := Below_after b5 bz
      have hcon := rows_any x0 x1 x2 x3 f0 f1 f2 f3 z _ hat6 hz1 (by rw [hq]; exact hok) (by rw [hq]; have := hz1.h; omega) (by rw [hq]; exact hz1.t) (by rw [hq]; exact hz1.w) ht6
      rw [hq, hrl] at hcon
      clear e1 e2 e3 e4 hq hT hz hat ht4 hch bz b5 ht6
      have HLL : Hid (z.hs.length = z.ws.length) := hll
      have HNN : Hid (z.ns.length = 0) := hnn
      have HRL : Hid (rowsL z = L ∧ chk z.ws = 0 ∧ z.ts.map (·.id) = thingsL z.ws ∧ Good z.hs) := ⟨hrl, hgw, htt, hgood⟩
      clear hll hnn hrl hgw htt hgood
      obtain ⟨c0, c1, c2, c3, c4, c5⟩ := BZ.c6
      have zz := BZ.1
      go_wp2_with fail
      refine hcon.mono ?_
      rintro e w7 ⟨v7, rfl, ho7, hb7⟩
      obtain ⟨ra7, rc7, rfl, hch7⟩ := chs_of_row ho7 (chs_fitI hch6)
      have BZ7 := BZ.below hb7
      have hat7 := hat6.below hb7
      have b7 := Below_after b6 hb7
      have hchL := hch6.below hb7
      clear c0 c1 c2 c3 c4 c5 zz hcon ho7 hb7 BZ hat6 b6 hch6
      go_wp2_with fail
      refine (samech_any ra7 a6 rc7 c6 L L w7 hch7 hchL (by unfold maxLen; omega) (by unfold maxLen; omega)).mono ?_
      rintro e w8 ⟨⟨r8, rfl, hr8⟩, hb8⟩
      obtain rfl : r8 = true := hr8.2 rfl
      have BZ8 := BZ7.below hb8
      have hat8 := hat7.below hb8
      have b8 := Below_after b7 hb8
      clear hr8 hb8 BZ7 hat7 b7 hch7 hchL
      obtain ⟨c0, c1, c2, c3, c4, c5⟩ := BZ8.c6
      have zz := BZ8.1
      have hcon := chk_any x0 f0 z.ws w8 hat8.w hz1.w hat8.fw.1 hat8.fw.2
      go_wp2_with fail
      refine hcon.mono ?_
      rintro e w9 ⟨v9, rfl, hE, hb9⟩
      obtain rfl : v9 = .nilIface := by rcases hE with ⟨-, h⟩ | ⟨h, -⟩; exact h; exact absurd HRL.out.2.1 h
      have BZ9 := BZ8.below hb9
      have hat9 := hat8.below hb9
      have b9 := Below_after b8 hb9
      clear c0 c1 c2 c3 c4 c5 zz hcon hE hb9 BZ8 hat8 b8
      have hcon := good_any x2 f2 z.hs w9 hat9.h (by have := hz1.h; unfold maxLen; omega)
      obtain ⟨c0, c1, c2, c3, c4, c5⟩ := BZ9.c6
      have zz := BZ9.1
      have hle : ((z.hs.length : Int) != (z.ws.length : Int)) = false := by rw [HLL.out]; simp
      go_wp2_with fail
      refine hcon.mono ?_
      rintro e w10 ⟨r10, rfl, hr10, hb10⟩
      obtain rfl : r10 = true := hr10.2 HRL.out.2.2.2
      have BZ10 := BZ9.below hb10
      have hat10 := hat9.below hb10
      have b10 := Below_after b9 hb10
      clear c0 c1 c2 c3 c4 c5 zz hcon hr10 hb10 BZ9 hat9 b9
      obtain ⟨c0, c1, c2, c3, c4, c5⟩ := BZ10.c6
      have zz := BZ10.1
      have hn0 : ((z.ns.length : Int) != 0) = false := by rw [HNN.out]; rfl
      go_wp2_with fail
      clear c0 c1 c2 c3 c4 c5 zz
      obtain ⟨ii, hi, hi0, hi1, hi2⟩ := info_parts infoInt
      have hzt := hz1.t
      have HT2 := hat10.t
      have HW2 := hat10.w
      have hzw := hz1.w
      have zlo : w5.heap.size < w10.heap.size := BZ10.1
      clear hz1 hok s0
      go_loopw [16, 17] (fun v i wr => ∃ q : Nat, q ≤ z.ts.length ∧ i = .int .i64 q ∧ wr.ownsRow w10.heap.size 3 1 v ((z.ts.take q).map (·.id)).length (((z.ts.take q).map (·.id)).flatMap icells) ∧ Below w10.heap.size w10 wr) (fun _ i _ => z.ts.length - (intOf i).toNat)
      case atStart => exact ⟨0, Nat.zero_le _, rfl, by simpa using World.ownsRow_nil _ _ _ _, Below.refl _ _⟩
      case round =>
        obtain ⟨q, hq, rfl, hown, hbl⟩ := hrel
        have BW := BZ10.below hbl
        obtain ⟨c0, c1, c2, c3, c4, c5⟩ := BW.c6
        have zz := BW.1
        by_cases hlt : q < z.ts.length
        · obtain ⟨x, hx⟩ : ∃ x, z.ts[q]? = some x := ⟨z.ts[q], List.getElem?_eq_getElem hlt⟩
          obtain ⟨bt, ot, rfl, hbt, hxt⟩ := HT2.resolve_left (fun e => by rw [e] at hlt; simp at hlt)
          obtain ⟨g1, g2, g3⟩ := (hxt q x hx).below hbl hbt
          have HTk : Hid ((z.ts.take (q + 1)).map (·.id) = (z.ts.take q).map (·.id) ++ [x.id]) := (show (z.ts.take (q + 1)).map (·.id) = _ from by rw [List.take_add_one, hx]; simp)
          have hle2 : ((z.ts.take q).map (·.id)).length ≤ z.ts.length := by simp; omega
          have hbz : bt < wr.heap.size := Nat.lt_of_lt_of_le hbt hbl.size
          have dlt : decide ((q : Int) < (z.ts.length : Int)) = true := decide_eq_true (by omega)
          generalize hM : (z.ts.take q).map (·.id) = M' at hown hle2
          have HM : Hid ((z.ts.take q).map (·.id) = M') := hM
          clear hM hxt HT2 hx
          go_wp2_with (at_builtin; refine wpList_append_own _ rfl _ _ 60 rfl w10.heap.size 3 ii (.int .i64 0) 1 8 Tryz.underlying60 hi hi0 hi1 hi2 rfl (by decide) _ _ _ rfl (hown.alloc _) _ 1 1 [.int .i64 x.id] rfl rfl (new1 _ _ _) (one1 _) ?c3 ?c4 ?c5 ?_)
          case c3 => unfold maxLen; omega
          case c4 => omega
          case c5 => have := hbl.size; simp; omega
          intro v' w12 hown' hgrow _
          have hown2 := row1_snoc hown'
          have hbl2 : Below w10.heap.size w10 w12 := (hbl.alloc hbl.size _).grown hgrow (by have := hbl.size; simp; omega) (fun m hm => (hown.lt m hm).1)
          clear hown' hgrow hown hbl c0 c1 c2 c3 c4 c5 zz g1 g2 g3 BW
          go_wp2_with fail
          go_roundw
          case rel => exact ⟨q + 1, by omega, by go_num, by rw [HTk.out, HM.out]; exact hown2, hbl2⟩
          case measure => simp [intOf]; omega
        · have hqn : q = z.ts.length := by omega
          rw [hqn, List.take_length, HRL.out.2.2.1] at hown
          obtain ⟨at1, ct1, rfl, hI1, hIz1⟩ := ints_of_row hown
          have dlt : decide ((q : Int) < (z.ts.length : Int)) = false := decide_eq_false (by omega)
          have hcon := things_any x0 f0 z.ws wr (HW2.below hbl) hzw
          have hth : (thingsL z.ws).length ≤ 1000000 := by have := th_le z.ws; omega
          clear hown hqn HT2
          go_wp2_with fail
          refine hcon.mono ?_
          rintro e w13 ⟨at2, ct2, rfl, hI2, hIz2, hb13⟩
          have hI1' := hI1.below hb13 hIz1
          have hIz1' : ∀ b o, at1 = some ⟨b, o, none⟩ → b < w13.heap.size := fun b o e => Nat.lt_of_lt_of_le (hIz1 b o e) hb13.size
          have b13 := Below_after (b10.trans (hbl.mono b10.size)) hb13
          clear hcon hb13 hI1 hIz1 c0 c1 c2 c3 c4 c5 zz
          go_wp2_with fail
          refine (sameN_any at1 at2 ct1 ct2 (thingsL z.ws) w13 hI1' hI2 hIz1' hIz2 hth).mono ?_
          rintro e w14 ⟨rfl, hb14⟩
          have b14 := Below_after b13 hb14
          go_wp2_with fail
          go_ret
          exact ⟨rfl, b14⟩
    | true =>
      obtain ⟨V0, eV0⟩ : ∃ V, w3.setCell ⟨w.heap.size, 2, none⟩ (.bool false) = V := ⟨_, rfl⟩
      have BV0 : Bx V0 w.heap.size [.string cc.key, .string cc.val, .bool false] := by rw [← eV0]; exact BC.set 2 (.bool false)
      have CV0 : ChsAt V0 (some ⟨b1, o1, none⟩) rl := by rw [← eV0]; exact ChRow.setHi (k := b1) (fun ad had => by cases had; exact Nat.le_refl _) hlo 2 (.bool false)
      have bV0 : Below w.heap.size w V0 := by rw [← eV0]; exact bl.setCell (p := ⟨w.heap.size, 2, none⟩) (Nat.le_refl _) (.bool false)
      have hV0 : V0.heap.size = w3.heap.size := by rw [← eV0]; simp
      have a0V0 := (BV0.2 0 _ rfl).1
      have a1V0 := (BV0.2 0 _ rfl).2
      have a2V0 := (BV0.2 1 _ rfl).1
      have a3V0 := (BV0.2 1 _ rfl).2
      have a4V0 := (BV0.2 2 _ rfl).1
      have a5V0 := (BV0.2 2 _ rfl).2
      have rV0 := (chs_at CV0 (by intro e; rw [e] at hpos; simp at hpos) n y HY.out).1.1
      obtain ⟨V1, eV1⟩ : ∃ V, V0.setCell ⟨w.heap.size, 0, none⟩ (.string y.key) = V := ⟨_, rfl⟩
      have BV1 : Bx V1 w.heap.size [.string y.key, .string cc.val, .bool false] := by rw [← eV1]; exact BV0.set 0 (.string y.key)
      have CV1 : ChsAt V1 (some ⟨b1, o1, none⟩) rl := by rw [← eV1]; exact CV0.setHi (k := b1) (fun ad had => by cases had; exact Nat.le_refl _) hlo 0 (.string y.key)
      have bV1 : Below w.heap.size w V1 := by rw [← eV1]; exact bV0.setCell (p := ⟨w.heap.size, 0, none⟩) (Nat.le_refl _) (.string y.key)
      have hV1 : V1.heap.size = w3.heap.size := by rw [← eV1]; simp [hV0]
      have a0V1 := (BV1.2 0 _ rfl).1
      have a1V1 := (BV1.2 0 _ rfl).2
      have a2V1 := (BV1.2 1 _ rfl).1
      have a3V1 := (BV1.2 1 _ rfl).2
      have a4V1 := (BV1.2 2 _ rfl).1
      have a5V1 := (BV1.2 2 _ rfl).2
      have rV1 := (chs_at CV1 (by intro e; rw [e] at hpos; simp at hpos) n y HY.out).1.1
      obtain ⟨V2, eV2⟩ : ∃ V, V1.setCell ⟨w.heap.size, 0, none⟩ (.string y.key) = V := ⟨_, rfl⟩
      have BV2 : Bx V2 w.heap.size [.string y.key, .string cc.val, .bool false] := by rw [← eV2]; exact BV1.set 0 (.string y.key)
      have CV2 : ChsAt V2 (some ⟨b1, o1, none⟩) rl := by rw [← eV2]; exact CV1.setHi (k := b1) (fun ad had => by cases had; exact Nat.le_refl _) hlo 0 (.string y.key)
      have bV2 : Below w.heap.size w V2 := by rw [← eV2]; exact bV1.setCell (p := ⟨w.heap.size, 0, none⟩) (Nat.le_refl _) (.string y.key)
      have hV2 : V2.heap.size = w3.heap.size := by rw [← eV2]; simp [hV1]
      have a0V2 := (BV2.2 0 _ rfl).1
      have a1V2 := (BV2.2 0 _ rfl).2
      have a2V2 := (BV2.2 1 _ rfl).1
      have a3V2 := (BV2.2 1 _ rfl).2
      have a4V2 := (BV2.2 2 _ rfl).1
      have a5V2 := (BV2.2 2 _ rfl).2
      have rV2 := (chs_at CV2 (by intro e; rw [e] at hpos; simp at hpos) n y HY.out).1.1
      obtain ⟨V3, eV3⟩ : ∃ V, V2.setCell ⟨w.heap.size, 1, none⟩ (.string ⟨#[]⟩) = V := ⟨_, rfl⟩
      have BV3 : Bx V3 w.heap.size [.string y.key, .string ⟨#[]⟩, .bool false] := by rw [← eV3]; exact BV2.set 1 (.string ⟨#[]⟩)
      have CV3 : ChsAt V3 (some ⟨b1, o1, none⟩) rl := by rw [← eV3]; exact CV2.setHi (k := b1) (fun ad had => by cases had; exact Nat.le_refl _) hlo 1 (.string ⟨#[]⟩)
      have bV3 : Below w.heap.size w V3 := by rw [← eV3]; exact bV2.setCell (p := ⟨w.heap.size, 1, none⟩) (Nat.le_refl _) (.string ⟨#[]⟩)
      have hV3 : V3.heap.size = w3.heap.size := by rw [← eV3]; simp [hV2]
      have a0V3 := (BV3.2 0 _ rfl).1
      have a1V3 := (BV3.2 0 _ rfl).2
      have a2V3 := (BV3.2 1 _ rfl).1
      have a3V3 := (BV3.2 1 _ rfl).2
      have a4V3 := (BV3.2 2 _ rfl).1
      have a5V3 := (BV3.2 2 _ rfl).2
      have rV3 := (chs_at CV3 (by intro e; rw [e] at hpos; simp at hpos) n y HY.out).1.1
      obtain ⟨V4, eV4⟩ : ∃ V, V3.setCell ⟨w.heap.size, 2, none⟩ (.bool true) = V := ⟨_, rfl⟩
      have BV4 : Bx V4 w.heap.size [.string y.key, .string ⟨#[]⟩, .bool true] := by rw [← eV4]; exact BV3.set 2 (.bool true)
      have CV4 : ChsAt V4 (some ⟨b1, o1, none⟩) rl := by rw [← eV4]; exact CV3.setHi (k := b1) (fun ad had => by cases had; exact Nat.le_refl _) hlo 2 (.bool true)
      have bV4 : Below w.heap.size w V4 := by rw [← eV4]; exact bV3.setCell (p := ⟨w.heap.size, 2, none⟩) (Nat.le_refl _) (.bool true)
      have hV4 : V4.heap.size = w3.heap.size := by rw [← eV4]; simp [hV3]
      have a0V4 := (BV4.2 0 _ rfl).1
      have a1V4 := (BV4.2 0 _ rfl).2
      have a2V4 := (BV4.2 1 _ rfl).1
      have a3V4 := (BV4.2 1 _ rfl).2
      have a4V4 := (BV4.2 2 _ rfl).1
      have a5V4 := (BV4.2 2 _ rfl).2
      have rV4 := (chs_at CV4 (by intro e; rw [e] at hpos; simp at hpos) n y HY.out).1.1
      have BV := BV4
      have CV := CV4
      have bV := bV4
      have hVs := hV4
      clear BC ChRow bl BV0 CV0 bV0 BV1 CV1 bV1 BV2 CV2 bV2 BV3 CV3 bV3 BV4 CV4 bV4
      have hfd : (y.key : ByteArray).size ≤ maxLen ∧ (⟨#[]⟩ : ByteArray).size ≤ maxLen := ⟨s1, by decide⟩
      go_wp2_with fail
      clear eV0 a0V0 a1V0 a2V0 a3V0 a4V0 a5V0 rV0 eV1 a0V1 a1V1 a2V1 a3V1 a4V1 a5V1 rV1 eV2 a0V2 a1V2 a2V2 a3V2 a4V2 a5V2 rV2 eV3 a0V3 a1V3 a2V3 a3V3 a4V3 a5V3 rV3 eV4 a0V4 a1V4 a2V4 a3V4 a4V4 a5V4 rV4
      generalize V4 = V at *
      have bd : Below V.heap.size V (V.alloc (.cells #[.string y.key, .string ⟨#[]⟩, .bool true] 52)) := (Below.refl _ V).alloc (Nat.le_refl _) _
      have BD := Bx.new V [.string y.key, .string ⟨#[]⟩, .bool true] 52
      rw [hVs] at BD
      refine (applied_end b1 o1 rc w3.heap.size 0 1 rl [⟨y.key, ⟨#[]⟩, true⟩] (V.alloc (.cells #[.string y.key, .string ⟨#[]⟩, .bool true] 52)) (chs_at (CV.below bd) (by intro e; rw [e] at hpos; simp at hpos)) (Nat.lt_of_lt_of_le (chs_lt CV (by intro e; rw [e] at hpos; simp at hpos)) bd.size) (chs_oneI BD hfd) BD.1 (by omega) (by simp)).mono ?_
      rintro e w4 ⟨L, a6, c6, rfl, hch, hL, hb4⟩
      have b4 := Below_after bV (Below_after bd hb4)
      clear BV CV bV hfd bd BD hb4
      have ht4 := htw0.below b4
      have hcon := parse_any a6 c6 L w4 hch hL
      go_wp2_with fail
      refine hcon.mono ?_
      rintro e w5 ⟨hb5, hO⟩
      have b5 := Below_after b4 hb5
      replace hch := hch.below hb5
      replace ht4 := ht4.below hb5
      clear hcon hb5 b4
      rcases hO with ⟨z, x0, x1, x2, x3, f0, f1, f2, f3, hz, rfl, hat⟩ | ⟨hz, rfl⟩
      rotate_left
      · clear hz hch
        have BZ := Bx.new w5 [.slice none 0 0, .slice none 0 0, .slice none 0 0, .slice none 0 0, .int .i64 0, .int .i64 0] 32
        have bz : Below w5.heap.size w5 (w5.alloc (.cells #[.slice none 0 0, .slice none 0 0, .slice none 0 0, .slice none 0 0, .int .i64 0, .int .i64 0] 32)) := (Below.refl _ w5).alloc (Nat.le_refl _) _
        obtain ⟨c0, c1, c2, c3, c4, c5⟩ := BZ.c6
        have zz := BZ.1
        have hcon := sr_same none none none none 0 0 0 0 rmZ none none none none 0 0 0 0 (w5.alloc (.cells #[.slice none 0 0, .slice none 0 0, .slice none 0 0, .slice none 0 0, .int .i64 0, .int .i64 0] 32)) (rmZ_at _) (rmZ_at _) rmZ_sz
        go_wp2_with fail
        refine hcon.mono ?_
        rintro e w6 ⟨rfl, hb6⟩
        have b6 := Below_after b5 (Below_after bz hb6)
        clear c0 c1 c2 c3 c4 c5 zz hcon
        go_wp2_with fail
        go_ret
        exact ⟨rfl, b6⟩
      obtain ⟨e1, e2, e3, e4⟩ := parse_inv hz
      have hT := tog_of e3
      have hq := tog_quiet hT e2
      have hz1 : RmSz z := tog_sz hT e2 (by rw [e1]; exact hL)
      have hok := hT.ok
      have hgood := hT.good (by rw [e1]; exact e4)
      have hll := hT.hl
      have hgw := chk_of_good hT.gw
      have htt := hT.tt
      have hnn : z.ns.length = 0 := by rw [e2]; rfl
      have hrl : rowsL z = L := e1
      have s0 := hT.nw
      have BZ := Bx.new w5 [.slice x0 z.ws.length f0, .slice x1 z.ts.length f1, .slice x2 z.hs.length f2, .slice x3 z.ns.length f3, .int .i64 z.nw, .int .i64 z.nt] 32
      have bz : Below w5.heap.size w5 (w5.alloc (.cells #[.slice x0 z.ws.length f0, .slice x1 z.ts.length f1, .slice x2 z.hs.length f2, .slice x3 z.ns.length f3, .int .i64 z.nw, .int .i64 z.nt] 32)) := (Below.refl _ w5).alloc (Nat.le_refl _) _
      have hat6 := hat.below bz
      have ht6 := ht4.below bz
      have hch6 := hch.below bz
      have b6 := Below_after b5 bz
      have hcon := rows_any x0 x1 x2 x3 f0 f1 f2 f3 z _ hat6 hz1 (by rw [hq]; exact hok) (by rw [hq]; have := hz1.h; omega) (by rw [hq]; exact hz1.t) (by rw [hq]; exact hz1.w) ht6
      rw [hq, hrl] at hcon
      clear e1 e2 e3 e4 hq hT hz hat ht4 hch bz b5 ht6
      have HLL : Hid (z.hs.length = z.ws.length) := hll
      have HNN : Hid (z.ns.length = 0) := hnn
      have HRL : Hid (rowsL z = L ∧ chk z.ws = 0 ∧ z.ts.map (·.id) = thingsL z.ws ∧ Good z.hs) := ⟨hrl, hgw, htt, hgood⟩
      clear hll hnn hrl hgw htt hgood
      obtain ⟨c0, c1, c2, c3, c4, c5⟩ := BZ.c6
      have zz := BZ.1
      go_wp2_with fail
      refine hcon.mono ?_
      rintro e w7 ⟨v7, rfl, ho7, hb7⟩
      obtain ⟨ra7, rc7, rfl, hch7⟩ := chs_of_row ho7 (chs_fitI hch6)
      have BZ7 := BZ.below hb7
      have hat7 := hat6.below hb7
      have b7 := Below_after b6 hb7
      have hchL := hch6.below hb7
      clear c0 c1 c2 c3 c4 c5 zz hcon ho7 hb7 BZ hat6 b6 hch6
      go_wp2_with fail
      refine (samech_any ra7 a6 rc7 c6 L L w7 hch7 hchL (by unfold maxLen; omega) (by unfold maxLen; omega)).mono ?_
      rintro e w8 ⟨⟨r8, rfl, hr8⟩, hb8⟩
      obtain rfl : r8 = true := hr8.2 rfl
      have BZ8 := BZ7.below hb8
      have hat8 := hat7.below hb8
      have b8 := Below_after b7 hb8
      clear hr8 hb8 BZ7 hat7 b7 hch7 hchL
      obtain ⟨c0, c1, c2, c3, c4, c5⟩ := BZ8.c6
      have zz := BZ8.1
      have hcon := chk_any x0 f0 z.ws w8 hat8.w hz1.w hat8.fw.1 hat8.fw.2
      go_wp2_with fail
      refine hcon.mono ?_
      rintro e w9 ⟨v9, rfl, hE, hb9⟩
      obtain rfl : v9 = .nilIface := by rcases hE with ⟨-, h⟩ | ⟨h, -⟩; exact h; exact absurd HRL.out.2.1 h
      have BZ9 := BZ8.below hb9
      have hat9 := hat8.below hb9
      have b9 := Below_after b8 hb9
      clear c0 c1 c2 c3 c4 c5 zz hcon hE hb9 BZ8 hat8 b8
      have hcon := good_any x2 f2 z.hs w9 hat9.h (by have := hz1.h; unfold maxLen; omega)
      obtain ⟨c0, c1, c2, c3, c4, c5⟩ := BZ9.c6
      have zz := BZ9.1
      have hle : ((z.hs.length : Int) != (z.ws.length : Int)) = false := by rw [HLL.out]; simp
      go_wp2_with fail
      refine hcon.mono ?_
      rintro e w10 ⟨r10, rfl, hr10, hb10⟩
      obtain rfl : r10 = true := hr10.2 HRL.out.2.2.2
      have BZ10 := BZ9.below hb10
      have hat10 := hat9.below hb10
      have b10 := Below_after b9 hb10
      clear c0 c1 c2 c3 c4 c5 zz hcon hr10 hb10 BZ9 hat9 b9
      obtain ⟨c0, c1, c2, c3, c4, c5⟩ := BZ10.c6
      have zz := BZ10.1
      have hn0 : ((z.ns.length : Int) != 0) = false := by rw [HNN.out]; rfl
      go_wp2_with fail
      clear c0 c1 c2 c3 c4 c5 zz
      obtain ⟨ii, hi, hi0, hi1, hi2⟩ := info_parts infoInt
      have hzt := hz1.t
      have HT2 := hat10.t
      have HW2 := hat10.w
      have hzw := hz1.w
      have zlo : w5.heap.size < w10.heap.size := BZ10.1
      clear hz1 hok s0
      go_loopw [16, 17] (fun v i wr => ∃ q : Nat, q ≤ z.ts.length ∧ i = .int .i64 q ∧ wr.ownsRow w10.heap.size 3 1 v ((z.ts.take q).map (·.id)).length (((z.ts.take q).map (·.id)).flatMap icells) ∧ Below w10.heap.size w10 wr) (fun _ i _ => z.ts.length - (intOf i).toNat)
      case atStart => exact ⟨0, Nat.zero_le _, rfl, by simpa using World.ownsRow_nil _ _ _ _, Below.refl _ _⟩
      case round =>
        obtain ⟨q, hq, rfl, hown, hbl⟩ := hrel
        have BW := BZ10.below hbl
        obtain ⟨c0, c1, c2, c3, c4, c5⟩ := BW.c6
        have zz := BW.1
        by_cases hlt : q < z.ts.length
        · obtain ⟨x, hx⟩ : ∃ x, z.ts[q]? = some x := ⟨z.ts[q], List.getElem?_eq_getElem hlt⟩
          obtain ⟨bt, ot, rfl, hbt, hxt⟩ := HT2.resolve_left (fun e => by rw [e] at hlt; simp at hlt)
          obtain ⟨g1, g2, g3⟩ := (hxt q x hx).below hbl hbt
          have HTk : Hid ((z.ts.take (q + 1)).map (·.id) = (z.ts.take q).map (·.id) ++ [x.id]) := (show (z.ts.take (q + 1)).map (·.id) = _ from by rw [List.take_add_one, hx]; simp)
          have hle2 : ((z.ts.take q).map (·.id)).length ≤ z.ts.length := by simp; omega
          have hbz : bt < wr.heap.size := Nat.lt_of_lt_of_le hbt hbl.size
          have dlt : decide ((q : Int) < (z.ts.length : Int)) = true := decide_eq_true (by omega)
          generalize hM : (z.ts.take q).map (·.id) = M' at hown hle2
          have HM : Hid ((z.ts.take q).map (·.id) = M') := hM
          clear hM hxt HT2 hx
          go_wp2_with (at_builtin; refine wpList_append_own _ rfl _ _ 60 rfl w10.heap.size 3 ii (.int .i64 0) 1 8 Tryz.underlying60 hi hi0 hi1 hi2 rfl (by decide) _ _ _ rfl (hown.alloc _) _ 1 1 [.int .i64 x.id] rfl rfl (new1 _ _ _) (one1 _) ?c3 ?c4 ?c5 ?_)
          case c3 => unfold maxLen; omega
          case c4 => omega
          case c5 => have := hbl.size; simp; omega
          intro v' w12 hown' hgrow _
          have hown2 := row1_snoc hown'
          have hbl2 : Below w10.heap.size w10 w12 := (hbl.alloc hbl.size _).grown hgrow (by have := hbl.size; simp; omega) (fun m hm => (hown.lt m hm).1)
          clear hown' hgrow hown hbl c0 c1 c2 c3 c4 c5 zz g1 g2 g3 BW
          go_wp2_with fail
          go_roundw
          case rel => exact ⟨q + 1, by omega, by go_num, by rw [HTk.out, HM.out]; exact hown2, hbl2⟩
          case measure => simp [intOf]; omega
        · have hqn : q = z.ts.length := by omega
          rw [hqn, List.take_length, HRL.out.2.2.1] at hown
          obtain ⟨at1, ct1, rfl, hI1, hIz1⟩ := ints_of_row hown
          have dlt : decide ((q : Int) < (z.ts.length : Int)) = false := decide_eq_false (by omega)
          have hcon := things_any x0 f0 z.ws wr (HW2.below hbl) hzw
          have hth : (thingsL z.ws).length ≤ 1000000 := by have := th_le z.ws; omega
          clear hown hqn HT2
          go_wp2_with fail
          refine hcon.mono ?_
          rintro e w13 ⟨at2, ct2, rfl, hI2, hIz2, hb13⟩
          have hI1' := hI1.below hb13 hIz1
          have hIz1' : ∀ b o, at1 = some ⟨b, o, none⟩ → b < w13.heap.size := fun b o e => Nat.lt_of_lt_of_le (hIz1 b o e) hb13.size
          have b13 := Below_after (b10.trans (hbl.mono b10.size)) hb13
          clear hcon hb13 hI1 hIz1 c0 c1 c2 c3 c4 c5 zz
          go_wp2_with fail
          refine (sameN_any at1 at2 ct1 ct2 (thingsL z.ws) w13 hI1' hI2 hIz1' hIz2 hth).mono ?_
          rintro e w14 ⟨rfl, hb14⟩
          have b14 := Below_after b13 hb14
          go_wp2_with fail
          go_ret
          exact ⟨rfl, b14⟩
theorem tspoilt_any (w : World) (a : Option Addr) (l : List Ac) (c : Nat) (cc : Ch) (at_ : Int) (gn : Bool) (hw : AcsAt w a l) (hm : l.length ≤ maxLen) (hcf : cc.key.size ≤ maxLen ∧ cc.val.size ≤ maxLen) (ht : Tab w) :
    Calls Tryz.prog 5 #[.slice a l.length c, .agg #[.string cc.key, .string cc.val, .bool cc.gone], .int .i64 at_, .bool gn] w fun e w' => e = .returned (.bool true) ∧ Below w.heap.size w w' := by
  cases hq : lacB l 80
  · exact tspoilt_no a c l cc at_ gn w hw hm hcf hq
  · exact tspoilt_yes a c l cc at_ gn w hw hm hcf ht hq
end Go.Proofs.YtddgpgldbekamaaGreatDoor
