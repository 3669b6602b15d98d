/- RealmSays, walked. -/
import Derived.Test.YtddgpgldbekamaaGreatRefE
import Derived.Test.YtddgpgldbekamaaGreatLightW
import Derived.Test.YtddgpgldbekamaaGreatQuietW
set_option linter.unusedSimpArgs false
set_option linter.unnecessarySimpa false
set_option linter.unusedVariables false
namespace Go.Proofs.YtddgpgldbekamaaGreat
open Go.RowKit

theorem lac_len {l : List Ac} {most : Int} (h : lacB l most = true) : (l.length : Int) ≤ most := by
  unfold lacB at h
  rw [Bool.and_eq_true] at h
  exact of_decide_eq_true h.1
theorem made_c : makeC rm0 1 0 1 = 0 := by decide
theorem made_g : getC (makeR rm0 1 0 1) 1 0 = 0 := by decide
theorem made_w : getW (makeR rm0 1 0 1) 1 0 = ⟨1, 1, 7, 0, 0⟩ := rfl
theorem made_i : InvK 0 rm0 := inv_new
theorem nilrm (w : World) (m n : Int) : RmAt w none none none none 0 0 0 0 ⟨[], [], [], [], m, n⟩ := ⟨.inl rfl, .inl rfl, .inl rfl, .inl rfl, by simp [Fit], by simp [Fit], by simp [Fit], by simp [Fit]⟩
theorem rnew_any (w : World) : Calls Tryz.prog 7 #[] w fun e w' => e = .returned (.agg #[.slice none 0 0, .slice none 0 0, .slice none 0 0, .slice none 0 0, .int .i64 1, .int .i64 1]) ∧ Below w.heap.size w w' := by
  go_enter Tryz.func7, Tryz.ntmps7
  go_wp2
  exact bodyPost_ret (v := .agg #[.slice none 0 0, .slice none 0 0, .slice none 0 0, .slice none 0 0, .int .i64 1, .int .i64 1]) (by simp [results, Tryz.results7, go_sem]) rfl ⟨rfl, (Below.refl _ _).alloc (Nat.le_refl _) _⟩
/-- where a realm's lists lie: away from two boxes -/
def OffR4 (n m : Nat) (a0 a1 a2 a3 : Option Addr) : Prop := OffA n m a0 ∧ OffA n m a1 ∧ OffA n m a2 ∧ OffA n m a3
theorem offR4_none (n m : Nat) : OffR4 n m none none none none := ⟨(fun _ h => by cases h), (fun _ h => by cases h), (fun _ h => by cases h), (fun _ h => by cases h)⟩
theorem quiet_szS {r : Rm} (hW : Whole r) (hz : RmSz r) : RmSz (quietR r) := by
  obtain ⟨h1, h2, h3, -⟩ := top_quiet hW
  have hQ := whole_quiet hW
  refine ⟨?_, ?_, ?_, ?_, hz.nw, hz.nt⟩
  · rw [← h3, h2]; have := hz.h; omega
  · have := hQ.tl; omega
  · rw [h2]; exact hz.h
  · rw [h1]; simp
theorem takeC_pos (r : Rm) (h s : Int) : 0 ≤ takeC r h s := by
  have := whoC_pos r h s 2 1
  unfold takeC
  repeat' split
  all_goals omega
theorem doC_pos (r : Rm) (x : Ac) : 0 ≤ doC r x := by
  have g1 := getC_pos r x.ph x.ps
  have g2 := whoC_pos r x.ph x.ps 1 2
  have g3 := whoC_pos r x.ph x.ps 2 2
  have g4 := freeC_pos r x.ph x.ps
  have g5 := freeC_pos r x.qh x.qs
  have g6 := freeC_pos r x.ph x.aa
  have g7 := getC_pos r x.ph x.aa
  have g8 := drvCode_pos (getW r x.ph x.ps) x.aa x.bb
  have g9 := drvCode_pos (getW r x.ph x.aa) x.bb 0
  have gA := takeC_pos r x.ph x.ps
  unfold doC makeC giveC moveC dropC writeC sendC
  repeat' split
  all_goals omega
theorem doP_at {aw at_ ah an : Option Addr} {cw ct ch cn : Nat} {g : Rm} {base : Nat} {x : Ac} {w : World} {p0 p1 p2 p3 : Option Addr} {n0 n1 n2 n3 r0 r1 r2 r3 : Nat} {m n : Int} {ev : Value} {C : Int} {nR nM : Nat} (h : DoP aw at_ ah an cw ct ch cn g base x w p0 p1 p2 p3 n0 n1 n2 n3 r0 r1 r2 r3 m n ev) (hc : doC g x = C) (ho : OffR4 nR nM aw at_ ah an) (h1 : nR + 1 < base) (h2 : nM < base) :
    EvIs C ev ∧ ∃ gx, gx = (if C = 0 then doR g x else ⟨[], [], [], [], 0, 0⟩) ∧ RmAt w p0 p1 p2 p3 r0 r1 r2 r3 gx ∧ OffR4 nR nM p0 p1 p2 p3 ∧ gx.ws.length = n0 ∧ gx.ts.length = n1 ∧ gx.hs.length = n2 ∧ gx.ns.length = n3 ∧ gx.nw = m ∧ gx.nt = n := by
  have hp := doC_pos g x
  subst hc
  rcases h with (⟨h0, rfl, rfl, rfl, rfl, rfl, rfl, rfl, hat, k0, k1, k2, k3⟩ | ⟨hne, rfl, rfl, rfl, rfl, rfl, rfl, rfl, rfl, rfl, rfl, rfl, rfl, rfl, rfl, rfl⟩) | ⟨h0, e0, rfl, rfl, rfl, rfl, rfl, rfl, rfl, rfl, rfl, rfl, rfl, rfl, rfl, rfl, rfl, hat⟩
  · exact ⟨.inl ⟨h0, rfl⟩, doR g x, by rw [if_pos h0], hat, ⟨off_hi k0 h1 h2, off_hi k1 h1 h2, off_hi k2 h1 h2, off_hi k3 h1 h2⟩, rfl, rfl, rfl, rfl, rfl, rfl⟩
  · exact ⟨.inr ⟨by omega, rfl⟩, _, by rw [if_neg hne], nilrm w 0 0, offR4_none _ _, rfl, rfl, rfl, rfl, rfl, rfl⟩
  · exact ⟨.inl ⟨h0, rfl⟩, g, by rw [if_pos h0, e0], hat, ho, rfl, rfl, rfl, rfl, rfl, rfl⟩
set_option maxHeartbeats 2000000 in
set_option maxRecDepth 100000 in
theorem realms_any (w : World) : Calls Tryz.prog 4 #[] w fun e w' => e = .returned (.bool true) ∧ Below w.heap.size w w' := by
  have hI : RmI rm0 := ⟨made_i.sz (by omega), made_i.put, made_i.wf⟩
  have hI1 := inv_make made_i made_c
  go_enter Tryz.func4, Tryz.ntmps4
  go_wp2_with fail
  refine (new_any _).mono ?_
  rintro e w1 ⟨rfl, hb1⟩
  have hcon := act_make none none none none 0 0 0 0 rm0 1 0 1 w1 (nilrm w1 1 1) hI
  rw [made_c] at hcon
  change Calls _ _ #[.agg #[.slice none 0 0, .slice none 0 0, .slice none 0 0, .slice none 0 0, .int .i64 1, .int .i64 1], .agg #[.int .i64 1, .int .i64 0], .int .i64 1] _ _ at hcon
  go_wp2_with fail
  refine hcon.mono ?_
  rintro e w2 ⟨b0, b1, b2, b3, m0, m1, m2, m3, e0, e1, e2, e3, mm, nn, ev, rfl, hA, hb2⟩
  rcases hA with ⟨-, rfl, d0, d1, d2, d3, d4, d5, hat, -⟩ | ⟨hne, -⟩
  · have bl2 := Below_after hb1 hb2
    have hg := get_ok b0 b1 b2 b3 e0 e1 e2 e3 (makeR rm0 1 0 1) 1 0 (w2.alloc (.cells #[.slice b0 m0 e0, .slice b1 m1 e1, .slice b2 m2 e2, .slice b3 m3 e3, .int .i64 mm, .int .i64 nn] 30)) (hat.below ((Below.refl _ _).alloc (Nat.le_refl _) _)) (hI1.sz (by omega)) made_g
    rw [← d0, ← d1, ← d2, ← d3, ← d4, ← d5, made_w] at hg
    clear hcon hat d0 d1 d2 d3 d4 d5 hb1 hb2 hI hI1
    go_wp2_with fail
    refine hg.mono ?_
    rintro e w3 ⟨rfl, hb3⟩
    have bl3 := (Below_after (bl2.alloc bl2.size _) hb3).alloc (Below_after (bl2.alloc bl2.size _) hb3).size (.cells #[.int .i64 1, .int .i64 1, .int .i64 7, .int .i64 0, .int .i64 0] 39)
    clear hg
    go_wp2_with (first | (go_at_call 12; refine (sm_any 0 .nilIface _ (.inl ⟨rfl, rfl⟩)).mono ?_; rintro e w' ⟨rfl, hw'⟩; obtain rfl := hw'.symm))
    go_ret
    exact ⟨rfl, bl3⟩
  · exact absurd rfl hne
set_option maxHeartbeats 2000000 in
set_option maxRecDepth 100000 in
theorem rsays_no (a : Option Addr) (c : Nat) (l : List Ac) (w : World) (hw : AcsAt w a l) (hm : l.length ≤ maxLen) (hq : lacB l 80 = false) :
    Calls Tryz.prog 3 #[.slice a l.length c] w fun e w' => e = .returned (.bool true) ∧ Below w.heap.size w w' := by
  go_enter Tryz.func3, Tryz.ntmps3
  go_wp2_with fail
  refine (realms_any w).mono ?_
  rintro e w1 ⟨rfl, hb1⟩
  have hcon := lac_any a c l 80 w1 (hw.below hb1) hm (by omega) (by omega)
  rw [hq] at hcon
  go_wp2_with fail
  refine hcon.mono ?_
  rintro e w2 ⟨rfl, hw2⟩
  obtain rfl := hw2.symm
  clear hcon
  go_wp2_with fail
  go_ret
  exact ⟨rfl, hb1⟩
set_option maxHeartbeats 4000000 in
set_option maxRecDepth 100000 in
theorem rsays_yes (a : Option Addr) (c : Nat) (l : List Ac) (w : World) (hw : AcsAt w a l) (hm : l.length ≤ maxLen) (hq : lacB l 80 = true) :
    Calls Tryz.prog 3 #[.slice a l.length c] w fun e w' => e = .returned (.bool true) ∧ Below w.heap.size w w' := by
  have hlen := lac_len hq
  go_enter Tryz.func3, Tryz.ntmps3
  go_wp2_with fail
  refine (realms_any w).mono ?_
  rintro e w1 ⟨rfl, hb1⟩
  have hcon := lac_any a c l 80 w1 (hw.below hb1) hm (by omega) (by omega)
  rw [hq] at hcon
  go_wp2_with fail
  refine hcon.mono ?_
  rintro e w2 ⟨rfl, hw2⟩
  obtain rfl := hw2.symm
  clear hcon hm hq hw2
  have F := (Fr.new w).below hb1
  clear hb1
  go_wp2_with fail
  refine (new_any _).mono ?_
  rintro e w3 ⟨rfl, hb⟩
  replace F := F.below hb
  clear hb
  go_wp2_with fail
  replace F := F.al [.slice none 0 0, .slice none 0 0, .slice none 0 0, .slice none 0 0, .int .i64 1, .int .i64 1] 30
  refine (rnew_any _).mono ?_
  rintro e w4 ⟨rfl, hb⟩
  replace F := F.below hb
  clear hb
  have u := F.u1
  go_wp2_with fail
  obtain ⟨V, eV, G⟩ := (F.al [.slice none 0 0, .slice none 0 0, .slice none 0 0, .slice none 0 0, .int .i64 1, .int .i64 1] 30).nm
  rw [eV]
  clear eV u
  replace F := G
  clear G
  obtain ⟨nR, hnR⟩ : ∃ n, w3.heap.size = n := ⟨_, rfl⟩
  obtain ⟨nM, hnM⟩ : ∃ n, w4.heap.size = n := ⟨_, rfl⟩
  rw [hnR, hnM] at F
  rw [hnR, hnM]
  clear hnR hnM
  go_loopw [6] (fun i wr => ∃ (k : Nat) (g : Rm) (a0 a1 a2 a3 : Option Addr) (c0 c1 c2 c3 : Nat) (b0 b1 b2 b3 : Option Addr) (d0 d1 d2 d3 : Nat), k ≤ l.length ∧ i = .int .i64 k ∧ Hid (growR (l.take k) = g) ∧ Hid (RmAt wr a0 a1 a2 a3 c0 c1 c2 c3 g) ∧ Hid (RmAt wr b0 b1 b2 b3 d0 d1 d2 d3 g) ∧ Hid (OffR4 nR nM a0 a1 a2 a3 ∧ OffR4 nR nM b0 b1 b2 b3) ∧ Fr w wr [(nM, [.slice b0 g.ws.length d0, .slice b1 g.ts.length d1, .slice b2 g.hs.length d2, .slice b3 g.ns.length d3, .int .i64 g.nw, .int .i64 g.nt]), (nR, [.slice a0 g.ws.length c0, .slice a1 g.ts.length c1, .slice a2 g.hs.length c2, .slice a3 g.ns.length c3, .int .i64 g.nw, .int .i64 g.nt])]) (fun i _ => l.length - (intOf i).toNat)
  case atStart => exact ⟨0, rm0, none, none, none, none, 0, 0, 0, 0, none, none, none, none, 0, 0, 0, 0, Nat.zero_le _, rfl, (show _ = _ from rfl), (show Hid _ from nilrm V 1 1), (show Hid _ from nilrm V 1 1), (show Hid _ from ⟨offR4_none _ _, offR4_none _ _⟩), F⟩
  case round =>
    clear F
    obtain ⟨k, g, a0, a1, a2, a3, c0, c1, c2, c3, b0, b1, b2, b3, d0, d1, d2, d3, hk, rfl, HG, HR, HM, HO, F⟩ := hrel
    have u := F.u2
    have B := Fr.new wr
    have hbw := F.bl
    by_cases hlt : k < l.length
    rotate_left
    · have dlt : decide ((k : Int) < (l.length : Int)) = false := decide_eq_false (by omega)
      clear HG HR HM HO hw hlen
      go_wp2_with fail
      go_ret
      exact ⟨rfl, F.bl⟩
    obtain ⟨b, o, rfl, hbb, hx⟩ := hw.resolve_left (fun e => by rw [e] at hlt; simp at hlt)
    obtain ⟨x, hxl⟩ : ∃ x, l[k]? = some x := ⟨_, List.getElem?_eq_getElem hlt⟩
    obtain ⟨⟨q0, q1, q2, q3, q4, q5, q6, q7, q8, q9, q10⟩, hsd, -, -, -⟩ := (hx k x hxl).below hbw hbb
    have HX : Hid (l[k]? = some x) := hxl
    have hinv := inv_grow l k (by omega)
    have hW := whole_grow (l.take k)
    rw [HG.out] at hinv hW
    have hI : RmI g := ⟨hinv.sz (by omega), hinv.put, hinv.wf⟩
    have hz := hI.sz
    have hR := HR.out
    have hM := HM.out
    have dlt : decide ((k : Int) < (l.length : Int)) = true := decide_eq_true (by omega)
    have hinvk : InvK k g := hinv
    clear hxl hx hinv hbw
    go_wp2_with fail
    clear q0 q1 q2 q3 q4 q5 q6 q7 q8 q9 q10
    replace F := F.al [.string x.kd, .string x.sd, .int .i64 x.ph, .int .i64 x.ps, .int .i64 x.qh, .int .i64 x.qs, .int .i64 x.aa, .int .i64 x.bb, .int .i64 x.nn, .int .u64 x.kk, .slice x.xc x.lc x.cc] 37
    replace B := B.by (.cells #[.string x.kd, .string x.sd, .int .i64 x.ph, .int .i64 x.ps, .int .i64 x.qh, .int .i64 x.qs, .int .i64 x.aa, .int .i64 x.bb, .int .i64 x.nn, .int .u64 x.kk, .slice x.xc x.lc x.cc] 37)
    replace u := F.u3
    obtain ⟨y, hy⟩ : ∃ v, wAt g x.ph x.ps = v := ⟨_, rfl⟩
    obtain ⟨C1, hC1⟩ : ∃ v, getC g x.ph x.ps = v := ⟨_, rfl⟩
    refine (get_c a0 a1 a2 a3 c0 c1 c2 c3 g x.ph x.ps _ (hR.below B.bl) hz y C1 hy hC1).mono ?_
    rintro e w1 ⟨e1, rfl, hE1, hb⟩
    replace F := F.below hb
    replace B := B.below hb
    clear hb
    replace u := F.u3
    go_wp2_with fail
    replace F := F.al [.int .i64 y.id, .int .i64 y.thing, .int .i64 y.rights, .int .i64 y.badge, .int .i64 y.frm] 39
    replace B := B.by (.cells #[.int .i64 y.id, .int .i64 y.thing, .int .i64 y.rights, .int .i64 y.badge, .int .i64 y.frm] 39)
    replace u := F.u4
    have hcon := rwritAt_any b0 b1 b2 b3 d0 d1 d2 d3 g x.ph x.ps _ (hM.below B.bl) hz
    rw [hy, hC1] at hcon
    refine hcon.mono ?_
    clear hcon
    rintro e w2 ⟨rfl, hb⟩
    replace F := F.below hb
    replace B := B.below hb
    replace u := F.u4
    clear hb hy hC1
    go_wp2_with fail
    replace F := F.al [.int .i64 y.id, .int .i64 y.thing, .int .i64 y.rights, .int .i64 y.badge, .int .i64 y.frm] 39
    replace B := B.by (.cells #[.int .i64 y.id, .int .i64 y.thing, .int .i64 y.rights, .int .i64 y.badge, .int .i64 y.frm] 39)
    obtain ⟨D, hD⟩ : ∃ v, (if whoC g x.ph x.ps 1 1 = 0 then readD g x.ph x.ps else ⟨#[]⟩) = v := ⟨_, rfl⟩
    obtain ⟨C2, hC2⟩ : ∃ v, whoC g x.ph x.ps 1 1 = v := ⟨_, rfl⟩
    refine (read_c a0 a1 a2 a3 c0 c1 c2 c3 g x.ph x.ps _ (hR.below B.bl) hz D C2 hD hC2).mono ?_
    rintro e w3 ⟨e2, rfl, hE2, hb⟩
    replace F := F.below hb
    replace B := B.below hb
    clear hb
    replace u := F.u5
    go_wp2_with fail
    refine (rread_any b0 b1 b2 b3 d0 d1 d2 d3 g x.ph x.ps _ (hM.below B.bl) hz (hW.rt _ _) D C2 hD hC2).mono ?_
    rintro e w4 ⟨rfl, hb⟩
    replace F := F.below hb
    replace B := B.below hb
    clear hb
    replace u := F.u5
    clear hD hC2
    have HE : Hid (EvIs C1 e1 ∧ EvIs C2 e2) := ⟨hE1, hE2⟩
    clear hE1 hE2
    go_wp2_with fail
    refine (sm_any C1 e1 _ HE.out.1).mono ?_
    rintro e w' ⟨rfl, hw'⟩
    obtain rfl := hw'.symm
    clear hw'
    go_wp2_with fail
    refine (sm_any C2 e2 _ HE.out.2).mono ?_
    rintro e w' ⟨rfl, hw'⟩
    obtain rfl := hw'.symm
    clear hw' HE
    go_wp2_with fail
    replace F := F.tl.tl
    replace u := F.u3
    obtain ⟨C3, hC3⟩ : ∃ v, takeC g x.ph x.ps = v := ⟨_, rfl⟩
    have hcon := act_take a0 a1 a2 a3 c0 c1 c2 c3 g x.ph x.ps _ (hR.below B.bl) hI
    rw [hC3] at hcon
    refine hcon.mono ?_
    clear hcon
    rintro e w5 ⟨p0, p1, p2, p3, N0, N1, N2, N3, r0, r1, r2, r3, m, n, e3, q, sl, rfl, hA, hq, hb⟩
    have hE3 : Hid (EvIs C3 e3) := (show _ ∨ _ from by
      rcases hA with ⟨h1, h2, _⟩ | ⟨h1, h2, _⟩
      · exact .inl ⟨h1, h2⟩
      · have := takeC_pos g x.ph x.ps; exact .inr ⟨by omega, h2⟩)
    have HQ1 : Hid _ := hq
    replace F := F.below hb
    replace B := B.below hb
    replace u := F.u3
    clear hb hA hq
    go_wp2_with fail
    replace F := F.al [.slice p0 N0 r0, .slice p1 N1 r1, .slice p2 N2 r2, .slice p3 N3 r3, .int .i64 m, .int .i64 n] 30
    replace B := B.by (.cells #[.slice p0 N0 r0, .slice p1 N1 r1, .slice p2 N2 r2, .slice p3 N3 r3, .int .i64 m, .int .i64 n] 30)
    replace F := F.al (n := w5.heap.size + 1) [.int .i64 q.port, .string q.data, .int .i64 q.badge, .int .i64 q.writ] 52 (by simp)
    replace B := B.by (.cells #[.int .i64 q.port, .string q.data, .int .i64 q.badge, .int .i64 q.writ] 52)
    have hcon := rnote_any b0 b1 b2 b3 d0 d1 d2 d3 g x.ph x.ps _ (hM.below B.bl) hI hW C3 hC3
    refine hcon.mono ?_
    clear hcon hC3
    rintro e w6 ⟨q2, sl2, rfl, hq2, hb⟩
    replace F := F.below hb
    replace B := B.below hb
    clear hb
    obtain ⟨rfl, rfl⟩ : q2 = q ∧ sl2 = sl := by
      rcases hq2 with ⟨h1, h2, h3⟩ | ⟨h1, h2, h3⟩ <;> rcases HQ1.out with ⟨g1, g2, g3⟩ | ⟨g1, g2, g3⟩
      · exact ⟨h2.trans g2.symm, h3.trans g3.symm⟩
      · exact absurd h1 g1
      · exact absurd g1 h1
      · exact ⟨h2.trans g2.symm, h3.trans g3.symm⟩
    clear hq2 HQ1
    have u := F.u5
    go_wp2_with fail
    obtain ⟨V0, eV, G⟩ := (F.al [.int .i64 q2.port, .string q2.data, .int .i64 q2.badge, .int .i64 q2.writ] 52).nm
    replace B := B.by (.cells #[.int .i64 q2.port, .string q2.data, .int .i64 q2.badge, .int .i64 q2.writ] 52)
    rw [eV] at B ⊢
    clear eV
    replace F := G
    replace u := F.u6
    clear G
    refine wp_region_held_drew (S := fun w' => Below V0.drew.heap.size V0.drew w') (by kernel_rfl) (Below.refl _ _) (fun hS0 => ?_)
    obtain ⟨X, eX, G⟩ := F.drew.nm
    replace B := B.drew
    rw [eX] at B hS0 ⊢
    clear eX
    replace F := G
    replace u := F.u6
    clear G
    have F0 := F
    refine tkJ 0 (.agg #[.int .i64 q2.port, .string q2.data, .int .i64 q2.badge, .int .i64 q2.writ]) rfl (by intro w' hS; have z := (F.below hS).u6; clear hS u; go_simp) ?_
    refine tkJ 1 (.agg #[.int .i64 q2.port, .string q2.data, .int .i64 q2.badge, .int .i64 q2.writ]) rfl (by intro w' hS; have z := (F.below hS).u6; clear hS u; go_simp) ?_
    refine tkI 2 (.bool false) rfl ?_
    refine tkI 3 (.bool false) rfl ?_
    refine tkI 4 (.int .i64 sl2) rfl ?_
    refine tkI 5 (.int .i64 sl2) rfl ?_
    refine tkI 6 (.bool false) rfl ?_
    refine tkI 7 (.bool false) rfl ?_
    refine tkI 8 (.bool false) rfl ?_
    refine tkI 9 e3 rfl ?_
    refine tkI 10 (.int .i64 C3) rfl ?_
    refine rdI 11 rfl (fun K hK => ?_)
    go_wp2_with (go_at_call 12; refine (sm_any C3 e3 _ hE3.out).mono ?_; rintro e w' ⟨rfl, hw'⟩; obtain rfl := hw'.symm)
    refine hK.out _ _ hS0 (fun hS0 => ?_)
    clear hK K
    refine tkI 12 (.bool false) rfl ?_
    refine tkI 13 (.bool false) rfl ?_
    refine tkI 14 (.bool false) rfl ?_
    refine tkJ 15 (.agg #[.slice a0 g.ws.length c0, .slice a1 g.ts.length c1, .slice a2 g.hs.length c2, .slice a3 g.ns.length c3, .int .i64 g.nw, .int .i64 g.nt]) rfl (by intro w' hS; have z := (F.below hS).u6; clear hS u; go_simp) ?_
    refine tkJ 17 (.agg #[.slice b0 g.ws.length d0, .slice b1 g.ts.length d1, .slice b2 g.hs.length d2, .slice b3 g.ns.length d3, .int .i64 g.nw, .int .i64 g.nt]) rfl (by intro w' hS; have z := (F.below hS).u6; clear hS u; go_simp) ?_
    obtain ⟨Q, hQ⟩ : ∃ Q, quietR g = Q := ⟨_, rfl⟩
    have hQz : RmSz Q := by rw [← hQ]; exact quiet_szS hW hz
    have hQn : Q.nw = g.nw := by rw [← hQ]; rfl
    have hQt : Q.nt = g.nt := by rw [← hQ]; rfl
    have hc1 := quiet_any a0 a1 a2 a3 c0 c1 c2 c3 g X (hR.below B.bl) hz
    have hc2 := fun W h => rquieted_any b0 b1 b2 b3 d0 d1 d2 d3 g W h hz hW.num hW.wt
    simp only [hQ] at hc1 hc2
    rw [hQn, hQt] at hc2
    have hc3 := fun a0 a1 a2 a3 c0 c1 c2 c3 b0 b1 b2 b3 d0 d1 d2 d3 W h1 h2 => sr_same a0 a1 a2 a3 c0 c1 c2 c3 Q b0 b1 b2 b3 d0 d1 d2 d3 W h1 h2 hQz
    rw [hQn, hQt] at hc3
    have HC2 : Hid _ := hc2
    have HC3 : Hid _ := hc3
    clear hc2 hc3 hQn hQt hQz hQ
    refine rdI 16 rfl (fun K hK => ?_)
    go_wp2_with (go_at_call 16; refine hc1.mono ?_; rintro e w7 ⟨z0, z1, z2, z3, y0, y1, y2, y3, rfl, hQ1, hb⟩)
    clear hc1
    replace F := F.below hb
    replace B := B.below hb
    have hS1 := Below_after hS0 hb
    refine hK.out _ _ hS1 (fun _ => ?_)
    clear hK K hb hS0
    refine rdI 18 rfl (fun K hK => ?_)
    go_wp2_with (go_at_call 17; refine (HC2.out w7 (hM.below B.bl)).mono ?_; rintro e w8 ⟨⟨v0, v1, v2, v3, s0, s1, s2, s3, rfl, hQ2⟩, hb⟩)
    replace F := F.below hb
    replace B := B.below hb
    have hS2 := Below_after hS1 hb
    replace hQ1 := hQ1.below hb
    refine hK.out _ _ hS2 (fun _ => ?_)
    clear hK K hb hS1 HC2
    refine rdI 19 rfl (fun K hK => ?_)
    go_wp2_with (go_at_call 15; refine (HC3.out z0 z1 z2 z3 y0 y1 y2 y3 v0 v1 v2 v3 s0 s1 s2 s3 w8 hQ1 hQ2).mono ?_; rintro e w9 ⟨rfl, hb⟩)
    replace F := F.below hb
    replace B := B.below hb
    have hS3 := Below_after hS2 hb
    refine hK.out _ _ hS3 (fun _ => ?_)
    clear hK K hb hS2 HC3 hQ1 hQ2
    refine tkI 20 (.bool false) rfl ?_
    refine tkI 21 (.bool false) rfl ?_
    refine tkI 22 (.bool false) rfl ?_
    refine tkJ 23 (.agg #[.slice a0 g.ws.length c0, .slice a1 g.ts.length c1, .slice a2 g.hs.length c2, .slice a3 g.ns.length c3, .int .i64 g.nw, .int .i64 g.nt]) rfl (by intro w' hS; have z := (F0.below hS).u6; clear hS u; go_simp) ?_
    refine tkJ 25 (.agg #[.slice b0 g.ws.length d0, .slice b1 g.ts.length d1, .slice b2 g.hs.length d2, .slice b3 g.ns.length d3, .int .i64 g.nw, .int .i64 g.nt]) rfl (by intro w' hS; have z := (F0.below hS).u6; clear hS u; go_simp) ?_
    refine rdI 24 rfl (fun K hK => ?_)
    go_wp2_with (go_at_call 18; refine (copy_any a0 a1 a2 a3 c0 c1 c2 c3 g w9 (hR.below B.bl) hz).mono ?_; rintro e wA ⟨v0, v1, v2, v3, rfl, hO, hb⟩)
    obtain ⟨f0, f1, f2, f3, h0, h1, h2, h3, rfl, rfl, rfl, rfl, hC⟩ := hO.at
    replace F := F.below hb
    replace B := B.below hb
    have hS4 := Below_after hS3 hb
    refine hK.out _ _ hS4 (fun _ => ?_)
    clear hK K hb hS3 hO
    refine rdI 26 rfl (fun K hK => ?_)
    go_wp2_with (go_at_call 15; refine (sr_same f0 f1 f2 f3 h0 h1 h2 h3 g b0 b1 b2 b3 d0 d1 d2 d3 wA hC (hM.below B.bl) hz).mono ?_; rintro e wB ⟨rfl, hb⟩)
    replace F := F.below hb
    replace B := B.below hb
    have hS5 := Below_after hS4 hb
    refine hK.out _ _ hS5 (fun _ => ?_)
    clear hK K hb hS4 hC
    refine tkI 27 (.bool false) rfl ?_
    refine tkI 28 (.bool false) rfl ?_
    refine wpAnyH_done (by kernel_rfl) ?_ _
    replace F := F.tl.tl.tl
    replace u := F.u3
    clear F0 hS5
    go_wp2_with fail
    obtain ⟨C4, hC4⟩ : ∃ v, doC g x = v := ⟨_, rfl⟩
    have HC4 : Hid (doC g x = C4) := hC4
    have hlo : nR + 1 < wB.heap.size ∧ nM < wB.heap.size := by have h1 := u.1.1; have h2 := u.2.2.2; omega
    refine (do_any a0 a1 a2 a3 c0 c1 c2 c3 g x _ (hR.below B.bl) hI hsd).mono ?_
    rintro e wD ⟨p0, p1, p2, p3, N0, N1, N2, N3, r0, r1, r2, r3, m, n, e4, rfl, hD, hb⟩
    obtain ⟨hE4, gx, hgx, hxa, hxo, l0, l1, l2, l3, l4, l5⟩ := doP_at hD hC4 HO.out.1 hlo.1 hlo.2
    have HL : Hid (gx.ws.length = N0 ∧ gx.ts.length = N1 ∧ gx.hs.length = N2 ∧ gx.ns.length = N3 ∧ gx.nw = m ∧ gx.nt = n) := ⟨l0, l1, l2, l3, l4, l5⟩
    replace F := F.below hb
    replace B := B.below hb
    have hlo2 : nR + 1 < wD.heap.size ∧ nM < wD.heap.size := by have := hb.size; omega
    clear hb hD l0 l1 l2 l3 l4 l5
    replace u := F.u3
    go_wp2_with fail
    replace F := F.al [.slice p0 N0 r0, .slice p1 N1 r1, .slice p2 N2 r2, .slice p3 N3 r3, .int .i64 m, .int .i64 n] 30
    replace B := B.by (.cells #[.slice p0 N0 r0, .slice p1 N1 r1, .slice p2 N2 r2, .slice p3 N3 r3, .int .i64 m, .int .i64 n] 30)
    replace hxa := hxa.below ((Below.refl _ _).alloc (Nat.le_refl _) (.cells #[.slice p0 N0 r0, .slice p1 N1 r1, .slice p2 N2 r2, .slice p3 N3 r3, .int .i64 m, .int .i64 n] 30))
    refine (rdone_any b0 b1 b2 b3 d0 d1 d2 d3 g x _ (hM.below B.bl) hI hW hsd C4 HC4).mono ?_
    rintro e wE ⟨v0, v1, v2, v3, S0, S1, S2, S3, s0, s1, s2, s3, m2, n2, e5, rfl, hD, hb⟩
    obtain ⟨-, gy, hgy, hya, hyo, l0, l1, l2, l3, l4, l5⟩ := doP_at hD hC4 HO.out.2 (Nat.lt_of_lt_of_le hlo2.1 (by simp)) (Nat.lt_of_lt_of_le hlo2.2 (by simp))
    obtain rfl : gx = gy := hgx.trans hgy.symm
    obtain ⟨rfl, rfl, rfl, rfl, rfl, rfl⟩ : N0 = S0 ∧ N1 = S1 ∧ N2 = S2 ∧ N3 = S3 ∧ m = m2 ∧ n = n2 := by
      obtain ⟨g0, g1, g2, g3, g4, g5⟩ := HL.out
      exact ⟨g0.symm.trans l0, g1.symm.trans l1, g2.symm.trans l2, g3.symm.trans l3, g4.symm.trans l4, g5.symm.trans l5⟩
    replace hxa := hxa.below hb
    replace F := F.below hb
    replace B := B.below hb
    have HGX : Hid (_ = _) := hgx
    clear hb hD l0 l1 l2 l3 l4 l5 hgy hgx
    replace u := F.u4
    go_wp2_with fail
    replace F := F.al [.slice v0 N0 s0, .slice v1 N1 s1, .slice v2 N2 s2, .slice v3 N3 s3, .int .i64 m, .int .i64 n] 30
    replace B := B.by (.cells #[.slice v0 N0 s0, .slice v1 N1 s1, .slice v2 N2 s2, .slice v3 N3 s3, .int .i64 m, .int .i64 n] 30)
    obtain ⟨W, eW, G⟩ := F.nm
    replace hxa := hxa.below ((Below.refl _ _).alloc (Nat.le_refl _) (.cells #[.slice v0 N0 s0, .slice v1 N1 s1, .slice v2 N2 s2, .slice v3 N3 s3, .int .i64 m, .int .i64 n] 30))
    replace hya := hya.below ((Below.refl _ _).alloc (Nat.le_refl _) (.cells #[.slice v0 N0 s0, .slice v1 N1 s1, .slice v2 N2 s2, .slice v3 N3 s3, .int .i64 m, .int .i64 n] 30))
    rw [eW] at hxa hya B ⊢
    clear eW
    replace F := G
    replace u := F.u5
    clear G
    refine (sm_any C4 e4 _ hE4).mono ?_
    rintro e w' ⟨rfl, hw'⟩
    obtain rfl := hw'.symm
    clear hw' hE4
    have hgz : RmSz gx := by
      rw [HGX.out]
      split
      · rename_i h0
        exact (inv_do hinvk (HC4.out.trans h0)).sz (by omega)
      · exact ⟨by decide, by decide, by decide, by decide, by decide, by decide⟩
    have hcon := sr_same p0 p1 p2 p3 r0 r1 r2 r3 gx v0 v1 v2 v3 s0 s1 s2 s3 W hxa hya hgz
    obtain ⟨g0, g1, g2, g3, g4, g5⟩ := HL.out
    rw [g0, g1, g2, g3, g4, g5] at hcon
    clear g0 g1 g2 g3 g4 g5 hgz
    go_wp2_with fail
    refine hcon.mono ?_
    clear hcon
    rintro e wF ⟨rfl, hb⟩
    replace F := F.below hb
    replace B := B.below hb
    replace hxa := hxa.below hb
    replace hya := hya.below hb
    replace u := F.u5
    clear hb
    have HXA : Hid (RmAt _ _ _ _ _ _ _ _ _ _ ∧ RmAt _ _ _ _ _ _ _ _ _ _) := ⟨hxa, hya⟩
    clear hxa hya
    go_wp2_with fail
    refine (sr_same a0 a1 a2 a3 c0 c1 c2 c3 g b0 b1 b2 b3 d0 d1 d2 d3 _ (hR.below B.bl) (hM.below B.bl) hz).mono ?_
    rintro e wG ⟨rfl, hb⟩
    replace F := F.below hb
    replace B := B.below hb
    have HXB : Hid (RmAt _ _ _ _ _ _ _ _ _ _ ∧ RmAt _ _ _ _ _ _ _ _ _ _) := ⟨HXA.out.1.below hb, HXA.out.2.below hb⟩
    replace u := F.u5
    clear hb HXA
    by_cases h0 : C4 = 0
    · have dc0 : (C4 == 0) = true := by simp [h0]
      have HGN : Hid (growR (l.take (k + 1)) = gx) := (show _ = _ from by rw [grow_snoc l k x HX.out, HG.out, HGX.out, if_pos h0]; unfold stepR; rw [if_pos (HC4.out.trans h0)])
      clear h0
      go_wp2_with fail
      have FS := (F.set6 4 (.slice p0 N0 r0) (.slice p1 N1 r1) (.slice p2 N2 r2) (.slice p3 N3 r3) (.int .i64 m) (.int .i64 n)).set6 3 (.slice v0 N0 s0) (.slice v1 N1 s1) (.slice v2 N2 s2) (.slice v3 N3 s3) (.int .i64 m) (.int .i64 n)
      simp only [List.set_cons_zero, List.set_cons_succ] at FS
      have hy1 : Boxy nR nM nR := .inl rfl
      have hy2 : Boxy nR nM nM := .inr (.inr rfl)
      have hxs : RmAt _ _ _ _ _ _ _ _ _ _ := (HXB.out.1.setB6 hxo.1 hxo.2.1 hxo.2.2.1 hxo.2.2.2 hy1 (.slice p0 N0 r0) (.slice p1 N1 r1) (.slice p2 N2 r2) (.slice p3 N3 r3) (.int .i64 m) (.int .i64 n)).setB6 hxo.1 hxo.2.1 hxo.2.2.1 hxo.2.2.2 hy2 (.slice v0 N0 s0) (.slice v1 N1 s1) (.slice v2 N2 s2) (.slice v3 N3 s3) (.int .i64 m) (.int .i64 n)
      have hys : RmAt _ _ _ _ _ _ _ _ _ _ := (HXB.out.2.setB6 hyo.1 hyo.2.1 hyo.2.2.1 hyo.2.2.2 hy1 (.slice p0 N0 r0) (.slice p1 N1 r1) (.slice p2 N2 r2) (.slice p3 N3 r3) (.int .i64 m) (.int .i64 n)).setB6 hyo.1 hyo.2.1 hyo.2.2.1 hyo.2.2.2 hy2 (.slice v0 N0 s0) (.slice v1 N1 s1) (.slice v2 N2 s2) (.slice v3 N3 s3) (.int .i64 m) (.int .i64 n)
      obtain ⟨g0, g1, g2, g3, g4, g5⟩ := HL.out
      have ce1 : ([.slice v0 N0 s0, .slice v1 N1 s1, .slice v2 N2 s2, .slice v3 N3 s3, .int .i64 m, .int .i64 n] : List Value) = [.slice v0 gx.ws.length s0, .slice v1 gx.ts.length s1, .slice v2 gx.hs.length s2, .slice v3 gx.ns.length s3, .int .i64 gx.nw, .int .i64 gx.nt] := by rw [g0, g1, g2, g3, g4, g5]
      have ce2 : ([.slice p0 N0 r0, .slice p1 N1 r1, .slice p2 N2 r2, .slice p3 N3 r3, .int .i64 m, .int .i64 n] : List Value) = [.slice p0 gx.ws.length r0, .slice p1 gx.ts.length r1, .slice p2 gx.hs.length r2, .slice p3 gx.ns.length r3, .int .i64 gx.nw, .int .i64 gx.nt] := by rw [g0, g1, g2, g3, g4, g5]
      have FT := (FS.tl.tl.tl.c0 ce1).c1 ce2
      clear g0 g1 g2 g3 g4 g5 ce1 ce2 FS
      go_roundw
      case rel => exact ⟨k + 1, gx, p0, p1, p2, p3, r0, r1, r2, r3, v0, v1, v2, v3, s0, s1, s2, s3, by omega, by go_num, HGN, (show Hid _ from hxs), (show Hid _ from hys), (show Hid _ from ⟨hxo, hyo⟩), FT⟩
      case measure => simp [intOf]; omega
    · have dc0 : (C4 == 0) = false := by simp [h0]
      have HGN : Hid (growR (l.take (k + 1)) = g) := (show _ = _ from by rw [grow_snoc l k x HX.out, HG.out]; unfold stepR; rw [if_neg (by rw [HC4.out]; exact h0)])
      clear h0
      go_wp2_with fail
      have FT := F.tl.tl.tl
      have hRn := hR.below B.bl
      have hMn := hM.below B.bl
      go_roundw
      case rel => exact ⟨k + 1, g, a0, a1, a2, a3, c0, c1, c2, c3, b0, b1, b2, b3, d0, d1, d2, d3, by omega, by go_num, HGN, (show Hid _ from hRn), (show Hid _ from hMn), HO, FT⟩
      case measure => simp [intOf]; omega
theorem rsays_any (w : World) (a : Option Addr) (l : List Ac) (c : Nat) (hw : AcsAt w a l) (hm : l.length ≤ maxLen) :
    Calls Tryz.prog 3 #[.slice a l.length c] w fun e w' => e = .returned (.bool true) ∧ Below w.heap.size w w' := by
  cases hq : lacB l 80 with
  | true => exact rsays_yes a c l w hw hm hq
  | false => exact rsays_no a c l w hw hm hq
end Go.Proofs.YtddgpgldbekamaaGreat
