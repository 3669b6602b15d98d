/- realm.Quiet (E6), as the landed code has it. -/
import Derived.Test.YtddgpgldbekamaaGreatBox
import Derived.Test.YtddgpgldbekamaaGreatGrownW
set_option linter.unusedSimpArgs false
set_option linter.unnecessarySimpa false
set_option linter.unusedVariables false
namespace Go.Proofs.YtddgpgldbekamaaGreat
open Go.RowKit Go.Shelf


theorem wrs_off {w : World} {m : Nat} {a : Option Addr} {l : List Wr} (h : WrsAt w a l) (hne : l = [] ∨ ∀ ad, a = some ad → ¬ ad.block = m) : l = [] ∨ OffA w.heap.size m a := by
  rcases hne with rfl | hne
  · exact .inl rfl
  rcases h with rfl | ⟨b, o, rfl, hb, -⟩
  · exact .inl rfl
  · exact .inr (fun ad had => by cases had; exact ⟨.inl hb, hne _ rfl⟩)
theorem ths_off {w : World} {m : Nat} {a : Option Addr} {l : List Th} (h : ThsAt w a l) (hne : l = [] ∨ ∀ ad, a = some ad → ¬ ad.block = m) : l = [] ∨ OffA w.heap.size m a := by
  rcases hne with rfl | hne
  · exact .inl rfl
  rcases h with rfl | ⟨b, o, rfl, hb, -⟩
  · exact .inl rfl
  · exact .inr (fun ad had => by cases had; exact ⟨.inl hb, hne _ rfl⟩)
theorem hds_off {w : World} {m : Nat} {a : Option Addr} {l : List Hd} (h : HdsAt w a l) (hne : l = [] ∨ ∀ ad, a = some ad → ¬ ad.block = m) : l = [] ∨ OffA w.heap.size m a := by
  rcases hne with rfl | hne
  · exact .inl rfl
  rcases h with rfl | ⟨b, o, rfl, hb, -⟩
  · exact .inl rfl
  · exact .inr (fun ad had => by cases had; exact ⟨.inl hb, hne _ rfl⟩)
theorem wrs_not {w : World} {a : Option Addr} {l : List Wr} (h : WrsAt w a l) : l = [] ∨ ∀ ad, a = some ad → ¬ ad.block = w.heap.size := by
  rcases h with rfl | ⟨b, o, rfl, hb, -⟩
  · exact .inl rfl
  · exact .inr (fun ad had => by cases had; show ¬ b = _; omega)
theorem ths_not {w : World} {a : Option Addr} {l : List Th} (h : ThsAt w a l) : l = [] ∨ ∀ ad, a = some ad → ¬ ad.block = w.heap.size := by
  rcases h with rfl | ⟨b, o, rfl, hb, -⟩
  · exact .inl rfl
  · exact .inr (fun ad had => by cases had; show ¬ b = _; omega)
theorem hds_not {w : World} {a : Option Addr} {l : List Hd} (h : HdsAt w a l) : l = [] ∨ ∀ ad, a = some ad → ¬ ad.block = w.heap.size := by
  rcases h with rfl | ⟨b, o, rfl, hb, -⟩
  · exact .inl rfl
  · exact .inr (fun ad had => by cases had; show ¬ b = _; omega)
theorem woAll_nil (ns : List Nt) : woAll [] ns = [] := by
  have := woAll_len ns []
  exact List.length_eq_zero_iff.1 (by simpa using this)
set_option maxHeartbeats 2000000 in
set_option maxRecDepth 100000 in
theorem quiet_hi (aw at_ ah an : Option Addr) (cw ct ch cn : Nat) (r : Rm) (w : World) (hr : RmAt w aw at_ ah an cw ct ch cn r) (hz : RmSz r) :
    Calls Tryz.prog 16 #[.agg #[.slice aw r.ws.length cw, .slice at_ r.ts.length ct, .slice ah r.hs.length ch, .slice an r.ns.length cn, .int .i64 r.nw, .int .i64 r.nt]] w fun e w' => ∃ b0 b1 b2 b3 d0 d1 d2 d3, e = .returned (.agg #[.slice b0 (quietR r).ws.length d0, .slice b1 (quietR r).ts.length d1, .slice b2 (quietR r).hs.length d2, .slice b3 (quietR r).ns.length d3, .int .i64 r.nw, .int .i64 r.nt]) ∧ RmAt w' b0 b1 b2 b3 d0 d1 d2 d3 (quietR r) ∧ (HiA w.heap.size b0 ∧ HiA w.heap.size b1 ∧ HiA w.heap.size b2 ∧ HiA w.heap.size b3) ∧ Below w.heap.size w w' := by
  obtain ⟨BR0, BZ0, bl0⟩ := boxes2 w [.slice aw r.ws.length cw, .slice at_ r.ts.length ct, .slice ah r.hs.length ch, .slice an r.ns.length cn, .int .i64 r.nw, .int .i64 r.nt] 30 [.slice none 0 0, .slice none 0 0, .slice none 0 0, .slice none 0 0, .int .i64 0, .int .i64 0] 30
  go_enter Tryz.func16, Tryz.ntmps16
  obtain ⟨cR0, cR1, cR2, cR3, cR4, cR5⟩ := BR0.c6
  have zR := BR0.1
  obtain ⟨cZ0, cZ1, cZ2, cZ3, cZ4, cZ5⟩ := BZ0.c6
  have zZ := BZ0.1
  go_wp2_with fail
  clear cR0 cR1 cR2 cR3 cR4 cR5 zR cZ0 cZ1 cZ2 cZ3 cZ4 cZ5 zZ
  have hlow := BZ0.1
  have hzl : w.heap.size + 1 + 1 < ((w.alloc (.cells #[.slice aw r.ws.length cw, .slice at_ r.ts.length ct, .slice ah r.hs.length ch, .slice an r.ns.length cn, .int .i64 r.nw, .int .i64 r.nt] 30)).alloc (.cells #[.slice none 0 0, .slice none 0 0, .slice none 0 0, .slice none 0 0, .int .i64 0, .int .i64 0] 30)).heap.size + 1 := by omega
  refine (copy_at aw at_ ah an cw ct ch cn r _ (hr.below bl0) hz).mono ?_
  rintro e w1 ⟨b0, b1, b2, b3, d0, d1, d2, d3, rfl, hO, hb1⟩
  have BR1 := BR0.below hb1
  have BZ1 := BZ0.below hb1
  have bl1 := Below_after bl0 hb1
  clear BR0 BZ0 bl0
  have lw1 := BZ1.1
  have j0 := hi_of_row hO.rw_
  have j1 := hi_of_row hO.rt
  have j2 := hi_of_row hO.rh
  have hO3 := hO.rm
  clear hO
  rw [sz_alloc, sz_alloc] at j0 j1 j2
  have n0 := wrs_not hO3.w
  have n1 := ths_not hO3.t
  have n2 := hds_not hO3.h
  have HO : Hid (RmAt w1 b0 b1 b2 b3 d0 d1 d2 d3 r) := hO3
  clear hO3
  obtain ⟨cR0, cR1, cR2, cR3, cR4, cR5⟩ := BR1.c6
  have zR := BR1.1
  obtain ⟨cZ0, cZ1, cZ2, cZ3, cZ4, cZ5⟩ := BZ1.c6
  have zZ := BZ1.1
  go_wp2_with fail
  clear cR0 cR1 cR2 cR3 cR4 cR5 zR cZ0 cZ1 cZ2 cZ3 cZ4 cZ5 zZ
  have hO3 := HO.out.below ((Below.refl _ _).alloc (Nat.le_refl _) (.cells #[.slice b0 r.ws.length d0, .slice b1 r.ts.length d1, .slice b2 r.hs.length d2, .slice b3 r.ns.length d3, .int .i64 r.nw, .int .i64 r.nt] 30))
  clear HO
  have BR2 := BR1.alloc (.cells #[.slice b0 r.ws.length d0, .slice b1 r.ts.length d1, .slice b2 r.hs.length d2, .slice b3 r.ns.length d3, .int .i64 r.nw, .int .i64 r.nt] 30)
  have BZ2 := BZ1.alloc (.cells #[.slice b0 r.ws.length d0, .slice b1 r.ts.length d1, .slice b2 r.hs.length d2, .slice b3 r.ns.length d3, .int .i64 r.nw, .int .i64 r.nt] 30)
  have bl2 := bl1.alloc bl1.size (.cells #[.slice b0 r.ws.length d0, .slice b1 r.ts.length d1, .slice b2 r.hs.length d2, .slice b3 r.ns.length d3, .int .i64 r.nw, .int .i64 r.nt] 30)
  have BO2 := Bx.new w1 [.slice b0 r.ws.length d0, .slice b1 r.ts.length d1, .slice b2 r.hs.length d2, .slice b3 r.ns.length d3, .int .i64 r.nw, .int .i64 r.nt] 30
  clear BR1 BZ1 bl1
  generalize hg : (w1.alloc (.cells #[.slice b0 r.ws.length d0, .slice b1 r.ts.length d1, .slice b2 r.hs.length d2, .slice b3 r.ns.length d3, .int .i64 r.nw, .int .i64 r.nt] 30)) = w2 at BR2 BZ2 BO2 bl2 hO3 ⊢
  clear hg
  have hs3 : w1.heap.size < w2.heap.size := BO2.1
  obtain ⟨M, hM⟩ : ∃ M, (woAll r.ws r.ns).length = M := ⟨_, rfl⟩
  have HM : Hid ((woAll r.ws r.ns).length = M) := hM
  clear hM
  refine (woE_any b0 d0 r.ws b3 d3 r.ns _ hO3.w hO3.fw hO3.n hz.w hz.n).mono ?_
  rintro e w3 ⟨a5, c5, rfl, hW5, hF5, hi5, hb3⟩
  have sz3 : w2.heap.size ≤ w3.heap.size := hb3.size
  have hO4 := hO3.below hb3
  clear hO3
  rw [HM.out]
  have BR3 := BR2.below hb3
  have BZ3 := BZ2.below hb3
  have BO3 := BO2.below hb3
  have bl3 := Below_after bl2 hb3
  clear BR2 BZ2 BO2 bl2
  have lw3 := BZ3.1
  have m0 : woAll r.ws r.ns = [] ∨ ∀ ad, a5 = some ad → ¬ ad.block = w1.heap.size := by
    rcases hi5 with rfl | h
    · rcases n0 with h0 | h0
      · exact .inl (by rw [h0]; exact woAll_nil _)
      · exact .inr h0
    · exact .inr (fun ad had => by have := h ad had; omega)
  have i5 : HiA (w.heap.size + 1 + 1) a5 := by
    rcases hi5 with rfl | h
    · exact j0
    · exact fun ad had => by have := h ad had; omega
  clear hi5
  have o0 := wrs_off hW5 m0
  have o1 := ths_off hO4.t n1
  have o2 := hds_off hO4.h n2
  have HW : Hid (WrsAt w3 a5 (woAll r.ws r.ns)) := hW5
  have HO4 : Hid (RmAt w3 b0 b1 b2 b3 d0 d1 d2 d3 r) := hO4
  clear hW5 hO4 n0 n1 n2 m0
  obtain ⟨cR0, cR1, cR2, cR3, cR4, cR5⟩ := BR3.c6
  have zR := BR3.1
  obtain ⟨cZ0, cZ1, cZ2, cZ3, cZ4, cZ5⟩ := BZ3.c6
  have zZ := BZ3.1
  obtain ⟨cO0, fO0, cO1, fO1, cO2, fO2, cO3, fO3, cO4, fO4, cO5, fO5⟩ := BO3.cf6
  have zO := BO3.1
  go_wp2_with fail
  clear cR0 cR1 cR2 cR3 cR4 cR5 zR cZ0 cZ1 cZ2 cZ3 cZ4 cZ5 zZ cO0 fO0 cO1 fO1 cO2 fO2 cO3 fO3 cO4 fO4 cO5 fO5 zO
  have pW := ((HW.out.setOff o0 (n := w3.heap.size) (m := w1.heap.size) (b := w1.heap.size) (.inr (.inr rfl)) 0 (.slice a5 M c5)).setOff o0 (n := w3.heap.size) (m := w1.heap.size) (b := w1.heap.size) (.inr (.inr rfl)) 3 (.slice none 0 0))
  have pT := ((HO4.out.t.setOff o1 (n := w3.heap.size) (m := w1.heap.size) (b := w1.heap.size) (.inr (.inr rfl)) 0 (.slice a5 M c5)).setOff o1 (n := w3.heap.size) (m := w1.heap.size) (b := w1.heap.size) (.inr (.inr rfl)) 3 (.slice none 0 0))
  have pH := ((HO4.out.h.setOff o2 (n := w3.heap.size) (m := w1.heap.size) (b := w1.heap.size) (.inr (.inr rfl)) 0 (.slice a5 M c5)).setOff o2 (n := w3.heap.size) (m := w1.heap.size) (b := w1.heap.size) (.inr (.inr rfl)) 3 (.slice none 0 0))
  have fT := HO4.out.ft
  have fH := HO4.out.fh
  clear HW HO4 o0 o1 o2
  have BR4 := BR3.other (b' := w1.heap.size) (by first | omega | (have := BO3.1; have := BR3.1; omega)) 0 (.slice a5 M c5)
  have BZ4 := BZ3.other (b' := w1.heap.size) (by first | omega | (have := BO3.1; have := BZ3.1; omega)) 0 (.slice a5 M c5)
  have BO4 := BO3.set 0 (.slice a5 M c5)
  simp only [List.set_cons_zero, List.set_cons_succ] at BO4
  have bl4 := bl3.setCell (p := ⟨w1.heap.size, 0, none⟩) (by show w.heap.size ≤ w1.heap.size; omega) (.slice a5 M c5)
  clear BR3 BZ3 BO3 bl3
  have BR5 := BR4.other (b' := w1.heap.size) (by first | omega | (have := BO4.1; have := BR4.1; omega)) 3 (.slice none 0 0)
  have BZ5 := BZ4.other (b' := w1.heap.size) (by first | omega | (have := BO4.1; have := BZ4.1; omega)) 3 (.slice none 0 0)
  have BO5 := BO4.set 3 (.slice none 0 0)
  simp only [List.set_cons_zero, List.set_cons_succ] at BO5
  have bl5 := bl4.setCell (p := ⟨w1.heap.size, 3, none⟩) (by show w.heap.size ≤ w1.heap.size; omega) (.slice none 0 0)
  clear BR4 BZ4 BO4 bl4
  generalize hg : ((w3.setCell ⟨w1.heap.size, 0, none⟩ (.slice a5 M c5)).setCell ⟨w1.heap.size, 3, none⟩ (.slice none 0 0)) = w4 at BR5 BZ5 BO5 bl5 pW pT pH ⊢
  clear hg
  have gz4 := BO5.1
  obtain ⟨K0, hK0⟩ : ∃ K, (sweepR (⟨woAll r.ws r.ns, r.ts, r.hs, [], r.nw, r.nt⟩ : Rm)).ws.length = K := ⟨_, rfl⟩
  have HK0 : Hid ((sweepR (⟨woAll r.ws r.ns, r.ts, r.hs, [], r.nw, r.nt⟩ : Rm)).ws.length = K0) := hK0
  clear hK0
  obtain ⟨K1, hK1⟩ : ∃ K, (sweepR (⟨woAll r.ws r.ns, r.ts, r.hs, [], r.nw, r.nt⟩ : Rm)).ts.length = K := ⟨_, rfl⟩
  have HK1 : Hid ((sweepR (⟨woAll r.ws r.ns, r.ts, r.hs, [], r.nw, r.nt⟩ : Rm)).ts.length = K1) := hK1
  clear hK1
  obtain ⟨K2, hK2⟩ : ∃ K, (sweepR (⟨woAll r.ws r.ns, r.ts, r.hs, [], r.nw, r.nt⟩ : Rm)).hs.length = K := ⟨_, rfl⟩
  have HK2 : Hid ((sweepR (⟨woAll r.ws r.ns, r.ts, r.hs, [], r.nw, r.nt⟩ : Rm)).hs.length = K2) := hK2
  clear hK2
  obtain ⟨K3, hK3⟩ : ∃ K, (sweepR (⟨woAll r.ws r.ns, r.ts, r.hs, [], r.nw, r.nt⟩ : Rm)).ns.length = K := ⟨_, rfl⟩
  have HK3 : Hid ((sweepR (⟨woAll r.ws r.ns, r.ts, r.hs, [], r.nw, r.nt⟩ : Rm)).ns.length = K3) := hK3
  clear hK3
  have hz5 : RmSz (⟨woAll r.ws r.ns, r.ts, r.hs, [], r.nw, r.nt⟩ : Rm) := ⟨Nat.le_trans (woAll_len r.ns r.ws) hz.w, hz.t, hz.h, by simp, hz.nw, hz.nt⟩
  have hr5 : RmAt w4 a5 b1 b2 none c5 d1 d2 0 (⟨woAll r.ws r.ns, r.ts, r.hs, [], r.nw, r.nt⟩ : Rm) := ⟨pW, pT, pH, .inl rfl, hF5, fT, fH, by simp [Fit]⟩
  have hcon := sweep_at a5 b1 b2 none c5 d1 d2 0 (⟨woAll r.ws r.ns, r.ts, r.hs, [], r.nw, r.nt⟩ : Rm) w4 hr5 hz5 K0 K1 K2 K3 HK0.out HK1.out HK2.out HK3.out
  dsimp only [List.length_nil] at hcon
  rw [HM.out] at hcon
  clear hr5 hz5 pW pT pH
  obtain ⟨cR0, cR1, cR2, cR3, cR4, cR5⟩ := BR5.c6
  have zR := BR5.1
  obtain ⟨cZ0, cZ1, cZ2, cZ3, cZ4, cZ5⟩ := BZ5.c6
  have zZ := BZ5.1
  obtain ⟨cO0, cO1, cO2, cO3, cO4, cO5⟩ := BO5.c6
  have zO := BO5.1
  go_wp2_with fail
  clear cR0 cR1 cR2 cR3 cR4 cR5 zR cZ0 cZ1 cZ2 cZ3 cZ4 cZ5 zZ cO0 cO1 cO2 cO3 cO4 cO5 zO
  refine (hcon).mono ?_
  rintro e w5 ⟨s0, s1, s2, s3, t0, t1, t2, t3, rfl, hrm, ⟨i0, i1, i2, i3⟩, hb5⟩
  have sz5 : w4.heap.size ≤ w5.heap.size := hb5.size
  clear hcon
  have BR6 := BR5.below hb5
  have BZ6 := BZ5.below hb5
  have BO6 := BO5.below hb5
  have bl6 := Below_after bl5 hb5
  clear BR5 BZ5 BO5 bl5
  have lw5 := BZ6.1
  have q0 : HiA (w.heap.size + 1 + 1) s0 := by
    rcases i0 with rfl | h
    · exact i5
    · exact fun ad had => by have := h ad had; omega
  have q1 : HiA (w.heap.size + 1 + 1) s1 := fun ad had => by have := i1 ad had; omega
  have q2 : HiA (w.heap.size + 1 + 1) s2 := fun ad had => by have := i2 ad had; omega
  have q3 : HiA (w.heap.size + 1 + 1) s3 := fun ad had => by have := i3 ad had; omega
  clear i0 i1 i2 i3 i5 j0 j1 j2
  have HRM : Hid (RmAt _ _ _ _ _ _ _ _ _ _) := hrm
  clear hrm
  obtain ⟨cR0, cR1, cR2, cR3, cR4, cR5⟩ := BR6.c6
  have zR := BR6.1
  obtain ⟨cZ0, fZ0, cZ1, fZ1, cZ2, fZ2, cZ3, fZ3, cZ4, fZ4, cZ5, fZ5⟩ := BZ6.cf6
  have zZ := BZ6.1
  obtain ⟨cO0, cO1, cO2, cO3, cO4, cO5⟩ := BO6.c6
  have zO := BO6.1
  go_wp2_with fail
  have hfin := HRM.out.setB6 (off_hi (n := 0) (m := w.heap.size + 1) q0 (by omega) (by omega)) (off_hi (n := 0) (m := w.heap.size + 1) q1 (by omega) (by omega)) (off_hi (n := 0) (m := w.heap.size + 1) q2 (by omega) (by omega)) (off_hi (n := 0) (m := w.heap.size + 1) q3 (by omega) (by omega)) (b := w.heap.size + 1) (.inr (.inr rfl)) (.slice s0 K0 t0) (.slice s1 K1 t1) (.slice s2 K2 t2) (.slice s3 K3 t3) (.int .i64 r.nw) (.int .i64 r.nt)
  obtain ⟨y0, y1, y2, y3, y4, y5⟩ := (BZ6.put6 (.slice s0 K0 t0) (.slice s1 K1 t1) (.slice s2 K2 t2) (.slice s3 K3 t3) (.int .i64 r.nw) (.int .i64 r.nt)).six
  have blF := (below_set6 bl6 (b := w.heap.size + 1) (by omega) (.slice s0 K0 t0) (.slice s1 K1 t1) (.slice s2 K2 t2) (.slice s3 K3 t3) (.int .i64 r.nw) (.int .i64 r.nt))
  refine bodyPost_ret (v := .agg #[.slice s0 K0 t0, .slice s1 K1 t1, .slice s2 K2 t2, .slice s3 K3 t3, .int .i64 r.nw, .int .i64 r.nt]) (by simp [results, Tryz.results16, go_sem, y0, y1, y2, y3, y4, y5]) rfl ?_
  exact ⟨s0, s1, s2, s3, t0, t1, t2, t3, by unfold quietR; rw [HK0.out, HK1.out, HK2.out, HK3.out], by unfold quietR; exact hfin, ⟨fun ad had => by have := q0 ad had; omega, fun ad had => by have := q1 ad had; omega, fun ad had => by have := q2 ad had; omega, fun ad had => by have := q3 ad had; omega⟩, blF⟩
theorem quiet_any (aw at_ ah an : Option Addr) (cw ct ch cn : Nat) (r : Rm) (w : World) (hr : RmAt w aw at_ ah an cw ct ch cn r) (hz : RmSz r) :
    Calls Tryz.prog 16 #[.agg #[.slice aw r.ws.length cw, .slice at_ r.ts.length ct, .slice ah r.hs.length ch, .slice an r.ns.length cn, .int .i64 r.nw, .int .i64 r.nt]] w fun e w' => ∃ b0 b1 b2 b3 d0 d1 d2 d3, e = .returned (.agg #[.slice b0 (quietR r).ws.length d0, .slice b1 (quietR r).ts.length d1, .slice b2 (quietR r).hs.length d2, .slice b3 (quietR r).ns.length d3, .int .i64 r.nw, .int .i64 r.nt]) ∧ RmAt w' b0 b1 b2 b3 d0 d1 d2 d3 (quietR r) ∧ Below w.heap.size w w' := by
  refine (quiet_hi aw at_ ah an cw ct ch cn r w hr hz).mono ?_
  rintro e w' ⟨b0, b1, b2, b3, d0, d1, d2, d3, h1, h2, -, h3⟩
  exact ⟨b0, b1, b2, b3, d0, d1, d2, d3, h1, h2, h3⟩
end Go.Proofs.YtddgpgldbekamaaGreat
