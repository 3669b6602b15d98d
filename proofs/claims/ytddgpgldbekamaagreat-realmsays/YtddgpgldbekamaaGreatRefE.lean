/- The document's Dropped, Revoked, Quieted, ReadAt, walked (E5, E6). -/
/- The law's doneRef, note, same, and what a whole realm gives. -/
import Derived.Test.YtddgpgldbekamaaGreatRefD
import Derived.Test.YtddgpgldbekamaaGreatRfN
import Derived.Test.YtddgpgldbekamaaGreatDropW
import Derived.Test.YtddgpgldbekamaaGreatReadW
import Derived.Test.YtddgpgldbekamaaGreatRfF
import Derived.Test.YtddgpgldbekamaaGreatGrownW
set_option linter.unusedSimpArgs false
set_option linter.unnecessarySimpa false
set_option linter.unusedVariables false
namespace Go.Proofs.YtddgpgldbekamaaGreat
open Go.RowKit

theorem swept_q (aw at_ ah an : Option Addr) (cw ct ch cn : Nat) (q : Rm) (V : World) (hr : RmAt V aw at_ ah an cw ct ch cn q) (hz : RmSz q) (hp : ∀ x ∈ q.ws, 0 < x.id ∧ 1 ≤ x.thing ∧ x.thing ≤ 999) (P : Option Addr → Prop) (hP : P aw) (hPn : ∀ a, HiA V.heap.size a → P a) {n0 n1 n2 n3 : Nat} {m n : Int} (h0 : q.ws.length = n0) (h1 : q.ts.length = n1) (h2 : q.hs.length = n2) (h3 : q.ns.length = n3) (h4 : q.nw = m) (h5 : q.nt = n) :
    Calls Tryz.prog 43 #[.agg #[.slice aw n0 cw, .slice at_ n1 ct, .slice ah n2 ch, .slice an n3 cn, .int .i64 m, .int .i64 n]] V fun e w' => (∃ a0 a1 a2 a3 c0 c1 c2 c3 m0 m1 m2 m3, e = .returned (.agg #[.slice a0 m0 c0, .slice a1 m1 c1, .slice a2 m2 c2, .slice a3 m3 c3, .int .i64 m, .int .i64 n]) ∧ Hid ((sweepR q).ws.length = m0 ∧ (sweepR q).ts.length = m1 ∧ (sweepR q).hs.length = m2 ∧ (sweepR q).ns.length = m3) ∧ Hid (RmAt w' a0 a1 a2 a3 c0 c1 c2 c3 (sweepR q) ∧ P a0 ∧ HiA V.heap.size a1 ∧ HiA V.heap.size a2 ∧ HiA V.heap.size a3)) ∧ Below V.heap.size V w' := by
  subst h0 h1 h2 h3 h4 h5
  refine (rswept_any aw at_ ah an cw ct ch cn q V hr hz hp P hP hPn).mono ?_
  rintro e w' ⟨⟨a0, a1, a2, a3, c0, c1, c2, c3, rfl, h⟩, hb⟩
  exact ⟨⟨a0, a1, a2, a3, c0, c1, c2, c3, _, _, _, _, rfl, ⟨rfl, rfl, rfl, rfl⟩, h⟩, hb⟩
theorem rm_off6 {V : World} {n b : Nat} {a0 a1 a2 a3 : Option Addr} {c0 c1 c2 c3 : Nat} {q : Rm} (h : RmAt V a0 a1 a2 a3 c0 c1 c2 c3 q) (h0 : q.ws = [] ∨ OffA n n a0) (h1 : OffA n n a1) (h2 : OffA n n a2) (h3 : OffA n n a3) (hb : Boxy n n b) (x0 x1 x2 x3 x4 x5 : Value) :
    RmAt ((((((V.setCell ⟨b, 0, none⟩ x0).setCell ⟨b, 1, none⟩ x1).setCell ⟨b, 2, none⟩ x2).setCell ⟨b, 3, none⟩ x3).setCell ⟨b, 4, none⟩ x4).setCell ⟨b, 5, none⟩ x5) a0 a1 a2 a3 c0 c1 c2 c3 q :=
  ⟨(((((h.w.setOff h0 hb 0 _).setOff h0 hb 1 _).setOff h0 hb 2 _).setOff h0 hb 3 _).setOff h0 hb 4 _).setOff h0 hb 5 _, (((((h.t.setOff (.inr h1) hb 0 _).setOff (.inr h1) hb 1 _).setOff (.inr h1) hb 2 _).setOff (.inr h1) hb 3 _).setOff (.inr h1) hb 4 _).setOff (.inr h1) hb 5 _,
    (((((h.h.setOff (.inr h2) hb 0 _).setOff (.inr h2) hb 1 _).setOff (.inr h2) hb 2 _).setOff (.inr h2) hb 3 _).setOff (.inr h2) hb 4 _).setOff (.inr h2) hb 5 _, (((((h.n.setOff (.inr h3) hb 0 _).setOff (.inr h3) hb 1 _).setOff (.inr h3) hb 2 _).setOff (.inr h3) hb 3 _).setOff (.inr h3) hb 4 _).setOff (.inr h3) hb 5 _, h.fw, h.ft, h.fh, h.fn⟩
theorem filt_sz (r : Rm) (ws : List Wr) (hl : ws.length ≤ r.ws.length) (hz : RmSz r) : RmSz ⟨ws, r.ts, r.hs, r.ns, r.nw, r.nt⟩ := ⟨Nat.le_trans hl hz.w, hz.t, hz.h, hz.n, hz.nw, hz.nt⟩
set_option maxHeartbeats 4000000 in
set_option maxRecDepth 100000 in
theorem rdropped_any (aw at_ ah an : Option Addr) (cw ct ch cn : Nat) (r : Rm) (h s : Int) (w : World) (hr : RmAt w aw at_ ah an cw ct ch cn r) (hz : RmSz r) (hp : ∀ x ∈ r.ws, 0 < x.id ∧ 1 ≤ x.thing ∧ x.thing ≤ 999) :
    Calls Tryz.prog 57 #[.agg #[.slice aw r.ws.length cw, .slice at_ r.ts.length ct, .slice ah r.hs.length ch, .slice an r.ns.length cn, .int .i64 r.nw, .int .i64 r.nt], .agg #[.int .i64 h, .int .i64 s]] w fun e w' => OutP w w' e (getC r h s) (dropR r h s) := by
  have F := fr3 w [.slice aw r.ws.length cw, .slice at_ r.ts.length ct, .slice ah r.hs.length ch, .slice an r.ns.length cn, .int .i64 r.nw, .int .i64 r.nt] 30 [.int .i64 h, .int .i64 s] 33 [.slice none 0 0, .slice none 0 0, .slice none 0 0, .slice none 0 0, .int .i64 0, .int .i64 0] 30
  have u := F.u3
  go_enter Tryz.func57, Tryz.ntmps57
  go_wp2_with fail
  refine (rwritAt_any aw at_ ah an cw ct ch cn r h s _ (hr.below F.bl) hz).mono ?_
  rintro e w1 ⟨rfl, hb⟩
  replace F := F.below hb
  replace u := F.u3
  clear hb
  by_cases hc : getC r h s = 0
  rotate_left
  · have hw0 : wAt r h s = zeroW := by unfold wAt; rw [if_neg hc]
    obtain ⟨C, hC⟩ : ∃ C, getC r h s = C := ⟨_, rfl⟩
    have hp0 := getC_pos r h s
    rw [hw0, hC]
    rw [hC] at hc hp0
    have HC : Hid (getC r h s = C) := hC
    have hd : decide (0 < C) = true := decide_eq_true (by omega)
    clear hw0 hC hp0
    go_wp2_with fail
    refine bodyPost_ret (v := .tuple #[.agg #[.slice none 0 0, .slice none 0 0, .slice none 0 0, .slice none 0 0, .int .i64 0, .int .i64 0], .int .i64 C]) (by simp [results, Tryz.results57, go_sem, u]) rfl ?_
    rw [HC.out]
    exact ⟨.inl ⟨hc, rfl⟩, ((F.set6 0 _ _ _ _ _ _).al _ _).bl⟩
  have hw0 : wAt r h s = getW r h s := by unfold wAt; rw [if_pos hc]
  have HC : Hid (getC r h s = 0) := hc
  have HQ : Hid (dropR r h s = sweepR ⟨withoutL r.ws (getW r h s).id, r.ts, r.hs, r.ns, r.nw, r.nt⟩) := (show _ = _ from rfl)
  rw [hw0, hc]
  clear hw0 hc
  generalize getW r h s = x at *
  go_wp2_with fail
  obtain ⟨V0, eV, G⟩ := (F.al [.int .i64 x.id, .int .i64 x.thing, .int .i64 x.rights, .int .i64 x.badge, .int .i64 x.frm] 39).nm
  rw [eV]
  clear eV
  replace F := G
  replace u := F.u4
  have hlx : w.heap.size + 1 + 1 + 1 < V0.heap.size := by have h1 := u.1.1; have h2 := u.2.2.2.2; omega
  clear G
  refine (rwithout_any aw cw r.ws x.id V0 (hr.below F.bl).w hz.w).mono ?_
  rintro e w2 ⟨v5, rfl, hr5, hb⟩
  replace F := F.below hb
  replace u := F.u4
  obtain ⟨a5, c5, hv5, -, -⟩ := wrow_at hr5
  obtain ⟨n5, hn5⟩ : ∃ n5, (withoutL r.ws x.id).length = n5 := ⟨_, rfl⟩
  rw [hn5] at hv5
  subst hv5
  have hl2 := hb.size
  clear hb hn5
  go_wp2_with fail
  obtain ⟨V, eV, G⟩ := (F.set 3 0 (.slice a5 n5 c5)).nm
  have hr6 := ownsRow_setCell_below hr5 (a := ⟨w.heap.size, 0, none⟩) (show w.heap.size < V0.heap.size by omega) (.slice a5 n5 c5)
  have hlV : V0.heap.size ≤ V.heap.size := by rw [← eV]; simpa using hl2
  rw [eV] at hr6 ⊢
  clear eV hl2
  simp only [List.set_cons_zero, List.set_cons_succ] at G
  replace F := G
  replace u := F.u4
  clear G
  have hrV := hr.below F.bl
  obtain ⟨hW6, hn6, hf6⟩ := WrsAt.ofRow hr6
  refine (swept_q a5 at_ ah an c5 ct ch cn ⟨withoutL r.ws x.id, r.ts, r.hs, r.ns, r.nw, r.nt⟩ V ⟨hW6, hrV.t, hrV.h, hrV.n, hf6, hrV.ft, hrV.fh, hrV.fn⟩ (filt_sz r _ (withoutLen _ _) hz) (fun y hy => by obtain ⟨z, hz', -, e1, e2, -⟩ := wo_mem' hy; rw [e1, e2]; exact hp z hz') (HiA V0.heap.size) (hi_of_row hr6) (fun a ha => ha.mono (by omega)) hn6.symm rfl rfl rfl rfl rfl).mono ?_
  rintro e w6 ⟨⟨b0, b1, b2, b3, d0, d1, d2, d3, m0, m1, m2, m3, rfl, HM, HR⟩, hb⟩
  replace F := F.below hb
  clear u hb hr5 hr6 hrV hW6 hn6 hf6
  have u := F.u4
  go_wp2_with fail
  refine bodyPost_ret (v := .tuple #[.agg #[.slice b0 m0 d0, .slice b1 m1 d1, .slice b2 m2 d2, .slice b3 m3 d3, .int .i64 r.nw, .int .i64 r.nt], .int .i64 0]) (by simp [results, Tryz.results57, go_sem, u]) rfl ?_
  obtain ⟨e0, e1, e2, e3⟩ := HM.out
  obtain ⟨hm, k0, k1, k2, k3⟩ := HR.out
  rw [HQ.out, HC.out]
  refine ⟨.inr ⟨rfl, b0, b1, b2, b3, d0, d1, d2, d3, ?_, hm.set6 k0 (k1.mono hlV) (k2.mono hlV) (k3.mono hlV) (by omega) _ _ _ _ _ _, k0.mono (by omega), (k1.mono hlV).mono (by omega), (k2.mono hlV).mono (by omega), (k3.mono hlV).mono (by omega)⟩, (F.set6 1 _ _ _ _ _ _).bl⟩
  rw [e0, e1, e2, e3]
  rfl
set_option maxHeartbeats 4000000 in
set_option maxRecDepth 100000 in
theorem rrevoked_any (aw at_ ah an : Option Addr) (cw ct ch cn : Nat) (r : Rm) (h s : Int) (w : World) (hr : RmAt w aw at_ ah an cw ct ch cn r) (hz : RmSz r) (hg : GoodW r.ws) (hp : ∀ x ∈ r.ws, 0 < x.id ∧ 1 ≤ x.thing ∧ x.thing ≤ 999) :
    Calls Tryz.prog 58 #[.agg #[.slice aw r.ws.length cw, .slice at_ r.ts.length ct, .slice ah r.hs.length ch, .slice an r.ns.length cn, .int .i64 r.nw, .int .i64 r.nt], .agg #[.int .i64 h, .int .i64 s]] w fun e w' => OutP w w' e (getC r h s) (revokeR r h s) := by
  have F := fr3 w [.slice aw r.ws.length cw, .slice at_ r.ts.length ct, .slice ah r.hs.length ch, .slice an r.ns.length cn, .int .i64 r.nw, .int .i64 r.nt] 30 [.int .i64 h, .int .i64 s] 33 [.slice none 0 0, .slice none 0 0, .slice none 0 0, .slice none 0 0, .int .i64 0, .int .i64 0] 30
  have u := F.u3
  go_enter Tryz.func58, Tryz.ntmps58
  go_wp2_with fail
  refine (rwritAt_any aw at_ ah an cw ct ch cn r h s _ (hr.below F.bl) hz).mono ?_
  rintro e w1 ⟨rfl, hb⟩
  replace F := F.below hb
  replace u := F.u3
  clear hb
  by_cases hc : getC r h s = 0
  rotate_left
  · have hw0 : wAt r h s = zeroW := by unfold wAt; rw [if_neg hc]
    obtain ⟨C, hC⟩ : ∃ C, getC r h s = C := ⟨_, rfl⟩
    have hp0 := getC_pos r h s
    rw [hw0, hC]
    rw [hC] at hc hp0
    have HC : Hid (getC r h s = C) := hC
    have hd : decide (0 < C) = true := decide_eq_true (by omega)
    clear hw0 hC hp0
    go_wp2_with fail
    refine bodyPost_ret (v := .tuple #[.agg #[.slice none 0 0, .slice none 0 0, .slice none 0 0, .slice none 0 0, .int .i64 0, .int .i64 0], .int .i64 C]) (by simp [results, Tryz.results58, go_sem, u]) rfl ?_
    rw [HC.out]
    exact ⟨.inl ⟨hc, rfl⟩, ((F.set6 0 _ _ _ _ _ _).al _ _).bl⟩
  have hw0 : wAt r h s = getW r h s := by unfold wAt; rw [if_pos hc]
  have HC : Hid (getC r h s = 0) := hc
  have HQ : Hid (revokeR r h s = sweepR ⟨r.ws.filter (fun y => !inB (beneathL r.ws (getW r h s).id) y.id), r.ts, r.hs, r.ns, r.nw, r.nt⟩) := (show _ = _ from rfl)
  rw [hw0, hc]
  clear hw0 hc
  generalize getW r h s = x at *
  go_wp2_with fail
  obtain ⟨V0, eV, G⟩ := (F.al [.int .i64 x.id, .int .i64 x.thing, .int .i64 x.rights, .int .i64 x.badge, .int .i64 x.frm] 39).nm
  rw [eV]
  clear eV
  replace F := G
  replace u := F.u4
  have hlx : w.heap.size + 1 + 1 + 1 < V0.heap.size := by have h1 := u.1.1; have h2 := u.2.2.2.2; omega
  clear G
  refine (rbeneath_any aw cw r.ws x.id V0 (hr.below F.bl).w hz.w hg).mono ?_
  rintro e w2 ⟨az, cz, rfl, hI, hIl, hb⟩
  have mZ : (beneathL r.ws x.id).length ≤ 1000000 := Nat.le_trans (beneathLen r.ws x.id) (by have := hz.w; omega)
  generalize beneathL r.ws x.id = Z at *
  replace F := F.below hb
  replace u := F.u4
  have hl3 := hb.size
  have mw := hz.w
  clear hb
  go_wp2_with fail
  have hrW := (hr.below F.bl).w
  go_loopw [9, 10] (fun v i wr => ∃ (k n5 c5 : Nat) (a5 : Option Addr), k ≤ r.ws.length ∧ i = .int .i64 k ∧ v = .slice a5 n5 c5 ∧ Hid (wr.ownsRow w2.heap.size 39 5 (.slice a5 n5 c5) ((r.ws.take k).filter (fun y => !inB Z y.id)).length (((r.ws.take k).filter (fun y => !inB Z y.id)).flatMap wcells)) ∧ Below w2.heap.size w2 wr) (fun _ i _ => r.ws.length - (intOf i).toNat)
  case atStart => exact ⟨0, 0, 0, none, Nat.zero_le _, rfl, rfl, (by simpa [Hid] using World.ownsRow_nil _ _ _ _), Below.refl _ _⟩
  case round =>
    obtain ⟨k, n5, c5, a5, hk, rfl, rfl, HR, hbl⟩ := hrel
    replace F := F.below hbl
    replace u := F.u4
    have hle := filt_le (fun y => !inB Z y.id) r.ws k
    have hsz := hbl.size
    by_cases hlt : k < r.ws.length
    · obtain ⟨b, o, rfl, hbb, hx⟩ := hrW.resolve_left (fun e => by rw [e] at hlt; simp at hlt)
      obtain ⟨y, hy⟩ : ∃ y, r.ws[k]? = some y := ⟨_, List.getElem?_eq_getElem hlt⟩
      obtain ⟨q0, q1, q2, q3, q4⟩ := (hx k y hy).below hbl hbb
      have dlt : decide ((k : Int) < (r.ws.length : Int)) = true := decide_eq_true (by omega)
      go_wp2_with fail
      refine (rhasN_any az cz Z y.id wr (hI.below hbl hIl) mZ).mono ?_
      rintro e w' ⟨rfl, hw'⟩
      obtain rfl := hw'.symm
      clear hw'
      cases hp : inB Z y.id
      · have HN : Hid (_ = _) := filt_yes (p := fun y => !inB Z y.id) hy (by simp [hp])
        have hoY := ownsRow_after HR.out ((Below.refl _ _).alloc (Nat.le_refl _) (.cells #[.int .i64 y.id, .int .i64 y.thing, .int .i64 y.rights, .int .i64 y.badge, .int .i64 y.frm] 39))
        obtain ⟨i0, hi, hi0, hi1, hi2⟩ := info_parts infoWrit
        clear hx hy
        go_wp2_with (at_builtin; refine wpList_append_own _ rfl _ _ 25 rfl w2.heap.size 39 i0 (.agg #[.int .i64 0, .int .i64 0, .int .i64 0, .int .i64 0, .int .i64 0]) 5 40 Tryz.underlying25 hi hi0 hi1 hi2 rfl (by decide) _ _ _ rfl hoY _ 1 1 [.int .i64 y.id, .int .i64 y.thing, .int .i64 y.rights, .int .i64 y.badge, .int .i64 y.frm] rfl rfl (new5' wr rfl _ _ _ _ _ _) (one5 _ _ _ _ _) ?c3 ?c4 ?c5 ?_)
        case c3 => show ((r.ws.take k).filter (fun y => !inB Z y.id)).length + 1 ≤ maxLen; unfold maxLen; omega
        case c4 => show (((r.ws.take k).filter (fun y => !inB Z y.id)).length + 1) * 40 ≤ 140737488355328; omega
        case c5 => simp; omega
        intro v6 w6 ho6 hg6 _
        have HoB : Hid (w6.ownsRow w2.heap.size 39 5 v6 ((r.ws.take (k + 1)).filter (fun y => !inB Z y.id)).length (((r.ws.take (k + 1)).filter (fun y => !inB Z y.id)).flatMap wcells)) := (show _ from by rw [HN.out, List.length_append, List.flatMap_append]; exact ho6)
        obtain ⟨a6, c6, hv6, -, -⟩ := wrow_at HoB.out
        obtain ⟨n6, hn6⟩ : ∃ n6, ((r.ws.take (k + 1)).filter (fun y => !inB Z y.id)).length = n6 := ⟨_, rfl⟩
        rw [hn6] at hv6
        subst hv6
        have hb6 : Below w2.heap.size w2 w6 := (hbl.alloc hbl.size _).grown hg6 (by simp; omega) (fun k hk => (hoY.lt k hk).1)
        clear hn6 ho6 hg6 hoY HN
        go_wp2_with fail
        go_roundw
        case rel => exact ⟨k + 1, n6, c6, a6, by omega, by go_num, rfl, HoB, hb6⟩
        case measure => simp [intOf]; omega
      · have HN := filt_no (p := fun y => !inB Z y.id) hy (by simp [hp])
        rw [← HN] at HR
        clear HN hx hy
        go_wp2_with fail
        go_roundw
        case rel => exact ⟨k + 1, n5, c5, a5, by omega, by go_num, rfl, HR, hbl⟩
        case measure => simp [intOf]; omega
    have dlt : decide ((k : Int) < (r.ws.length : Int)) = false := decide_eq_false (by omega)
    have hr5 : wr.ownsRow V0.heap.size 39 5 (.slice a5 n5 c5) (r.ws.filter (fun y => !inB Z y.id)).length ((r.ws.filter (fun y => !inB Z y.id)).flatMap wcells) := by
      have := HR.out
      rw [List.take_of_length_le (by omega)] at this
      exact ownsRow_mono this hl3
    have HR5 : Hid (World.ownsRow _ _ _ _ _ _ _) := hr5
    have hl2 : V0.heap.size ≤ wr.heap.size := by omega
    clear hr5 HR hbl hle hsz hI hIl hrW
    go_wp2_with fail
    have hr5 := HR5.out
    obtain ⟨V, eV, G⟩ := (F.set 3 0 (.slice a5 n5 c5)).nm
    have hr6 := ownsRow_setCell_below hr5 (a := ⟨w.heap.size, 0, none⟩) (show w.heap.size < V0.heap.size by omega) (.slice a5 n5 c5)
    have hlV : V0.heap.size ≤ V.heap.size := by rw [← eV]; simpa using hl2
    rw [eV] at hr6 ⊢
    clear eV hl2
    simp only [List.set_cons_zero, List.set_cons_succ] at G
    replace F := G
    replace u := F.u4
    clear G
    have hrV := hr.below F.bl
    obtain ⟨hW6, hn6, hf6⟩ := WrsAt.ofRow hr6
    refine (swept_q a5 at_ ah an c5 ct ch cn ⟨r.ws.filter (fun y => !inB Z y.id), r.ts, r.hs, r.ns, r.nw, r.nt⟩ V ⟨hW6, hrV.t, hrV.h, hrV.n, hf6, hrV.ft, hrV.fh, hrV.fn⟩ (filt_sz r _ (List.length_filter_le _ _) hz) (fun y hy => hp y (List.mem_filter.1 hy).1) (HiA V0.heap.size) (hi_of_row hr6) (fun a ha => ha.mono (by omega)) hn6.symm rfl rfl rfl rfl rfl).mono ?_
    rintro e w6 ⟨⟨b0, b1, b2, b3, d0, d1, d2, d3, m0, m1, m2, m3, rfl, HM, HR⟩, hb⟩
    replace F := F.below hb
    clear u hb hr5 hr6 hrV hW6 hn6 hf6
    have u := F.u4
    go_wp2_with fail
    refine bodyPost_ret (v := .tuple #[.agg #[.slice b0 m0 d0, .slice b1 m1 d1, .slice b2 m2 d2, .slice b3 m3 d3, .int .i64 r.nw, .int .i64 r.nt], .int .i64 0]) (by simp [results, Tryz.results58, go_sem, u]) rfl ?_
    obtain ⟨e0, e1, e2, e3⟩ := HM.out
    obtain ⟨hm, k0, k1, k2, k3⟩ := HR.out
    rw [HQ.out, HC.out]
    refine ⟨.inr ⟨rfl, b0, b1, b2, b3, d0, d1, d2, d3, ?_, hm.set6 k0 (k1.mono hlV) (k2.mono hlV) (k3.mono hlV) (by omega) _ _ _ _ _ _, k0.mono (by omega), (k1.mono hlV).mono (by omega), (k2.mono hlV).mono (by omega), (k3.mono hlV).mono (by omega)⟩, (F.set6 1 _ _ _ _ _ _).bl⟩
    rw [e0, e1, e2, e3]
    rfl
set_option maxHeartbeats 4000000 in
set_option maxRecDepth 100000 in
theorem rquieted_any (aw at_ ah an : Option Addr) (cw ct ch cn : Nat) (r : Rm) (w : World) (hr : RmAt w aw at_ ah an cw ct ch cn r) (hz : RmSz r) (hp : ∀ x ∈ r.ws, 0 < x.id ∧ 1 ≤ x.thing ∧ x.thing ≤ 999) (hn : ∀ n ∈ r.ns, 0 ≤ n.writ) :
    Calls Tryz.prog 17 #[.agg #[.slice aw r.ws.length cw, .slice at_ r.ts.length ct, .slice ah r.hs.length ch, .slice an r.ns.length cn, .int .i64 r.nw, .int .i64 r.nt]] w fun e w' => (∃ a0 a1 a2 a3 c0 c1 c2 c3, e = .returned (.agg #[.slice a0 (quietR r).ws.length c0, .slice a1 (quietR r).ts.length c1, .slice a2 (quietR r).hs.length c2, .slice a3 (quietR r).ns.length c3, .int .i64 (quietR r).nw, .int .i64 (quietR r).nt]) ∧ RmAt w' a0 a1 a2 a3 c0 c1 c2 c3 (quietR r)) ∧ Below w.heap.size w w' := by
  have F := fr2 w [.slice aw r.ws.length cw, .slice at_ r.ts.length ct, .slice ah r.hs.length ch, .slice an r.ns.length cn, .int .i64 r.nw, .int .i64 r.nt] 30 [.slice none 0 0, .slice none 0 0, .slice none 0 0, .slice none 0 0, .int .i64 0, .int .i64 0] 30
  have u := F.u2
  have HQ : Hid (quietR r = sweepR ⟨woAll r.ws r.ns, r.ts, r.hs, [], r.nw, r.nt⟩) := (show _ = _ from rfl)
  have hpw : PosW r.ws := fun x hx => (hp x hx).1
  have ho := off_wrs hr.w (Nat.le_refl _)
  obtain ⟨P, hPd⟩ : ∃ P : Option Addr → Prop, P = fun a => r.ws = [] ∨ OffA w.heap.size w.heap.size a := ⟨_, rfl⟩
  have hP : P aw := by rw [hPd]; exact ho
  have hPn : ∀ a, HiA (w.heap.size + 2) a → P a := fun a ha => by rw [hPd]; exact .inr (off_hi ha (by omega) (by omega))
  have HPd : Hid (_ = _) := hPd
  clear hPd
  have mw := hz.w
  have mn := hz.n
  go_enter Tryz.func17, Tryz.ntmps17
  go_wp2_with fail
  obtain ⟨V1, eV, G⟩ := F.nm
  have hs1 : V1.heap.size = w.heap.size + 2 := by rw [← eV]; simp
  rw [eV]
  clear eV
  replace F := G
  clear G u
  go_loopw [3] (fun i wr => ∃ (k n0 c0 : Nat) (a0 : Option Addr), k ≤ r.ns.length ∧ i = .int .i64 k ∧ Hid (SwA P w.heap.size w V1 wr a0 n0 c0 (woAll r.ws (r.ns.take k))) ∧ Hid (V1.heap.size ≤ wr.heap.size) ∧ Fr w wr [(w.heap.size + 1, [.slice none 0 0, .slice none 0 0, .slice none 0 0, .slice none 0 0, .int .i64 0, .int .i64 0]), (w.heap.size, [.slice a0 n0 c0, .slice at_ r.ts.length ct, .slice ah r.hs.length ch, .slice an r.ns.length cn, .int .i64 r.nw, .int .i64 r.nt])]) (fun i _ => r.ns.length - (intOf i).toNat)
  case atStart => exact ⟨0, r.ws.length, cw, aw, Nat.zero_le _, rfl, (show Hid _ from .inl ⟨hr.w, rfl, hr.fw, ho, hP⟩), (show Hid _ from Nat.le_refl _), F⟩
  case round =>
    clear F
    obtain ⟨k, n0, c0, a0, hk, rfl, HS, HL, F⟩ := hrel
    have u := F.u2
    obtain ⟨hW, hW2, hW3, hW4, -⟩ := HS.out.at F.bl (by omega) hPn
    have hlW : (woAll r.ws (r.ns.take k)).length ≤ 1000 := Nat.le_trans (woAll_len _ _) mw
    by_cases hlt : k < r.ns.length
    · obtain ⟨b, o, rfl, hbb, hx⟩ := hr.n.resolve_left (fun e => by rw [e] at hlt; simp at hlt)
      obtain ⟨y, hy⟩ : ∃ y, r.ns[k]? = some y := ⟨_, List.getElem?_eq_getElem hlt⟩
      obtain ⟨q0, q1, q2, q3⟩ := (hx k y hy).below F.bl hbb
      have hy0 := hn y (List.mem_of_getElem? hy)
      have s1 := woAll_snoc r.ws r.ns k y hy
      have dlt : decide ((k : Int) < (r.ns.length : Int)) = true := decide_eq_true (by omega)
      by_cases h0 : 0 < y.writ
      · have d0 : decide (0 < y.writ) = true := decide_eq_true h0
        have HS1 : Hid (_ = _) := s1
        have hy3 : Hid (NtAt w b (o + k * 4) y) := hx k y hy
        clear s1 hx hy
        go_wp2_with fail
        refine wp_region_held_drew (S := fun w' => w'.cell? ⟨w.heap.size, 3, none⟩ = some (.slice (some ⟨b, o, none⟩) r.ns.length cn) ∧ w'.cell? ⟨b, o + k * 4 + 3, none⟩ = some (.int .i64 y.writ)) (by kernel_rfl) ⟨((F.drew.b 1).2 3 _ rfl).1, (hy3.out.below F.drew.bl hbb).2.2.2⟩ (fun hS0 => ?_)
        obtain ⟨X, eX, G⟩ := F.drew.nm
        have hWX := WrsAt.below (below_drewN (Below.refl _ _) 1) hW
        have hlX : V1.heap.size ≤ X.heap.size := by rw [← eX]; exact HL.out
        have eX' : wr.drewN 1 = X := eX
        rw [eX'] at hWX
        rw [eX] at hS0 ⊢
        replace F := G
        replace u := F.u2
        have hcon := rwithout_any a0 c0 (woAll r.ws (r.ns.take k)) y.writ X hWX hlW
        rw [hW2, ← HS1.out] at hcon
        have hlX2 : Hid (V1.heap.size ≤ X.heap.size) := hlX
        clear eX eX' G HS HL hW hW2 hW3 hW4 hWX q0 q1 q2 q3 hlX
        refine tkI 0 (.pointer (some ⟨w.heap.size, 0, none⟩)) rfl ?_
        refine tkI 2 (.pointer (some ⟨w.heap.size, 3, none⟩)) rfl ?_
        refine tkJ 3 (.slice (some ⟨b, o, none⟩) r.ns.length cn) rfl (by intro w' hS; have z := hS.1; clear hS u; go_simp) ?_
        refine tkI 4 (.int .i64 k) rfl ?_
        refine tkJ 5 (.pointer (some ⟨b, o + k * 4, none⟩)) rfl (by intro w' hS; clear hS u; go_simp) ?_
        refine tkI 6 (.pointer (some ⟨b, o + k * 4 + 3, none⟩)) rfl ?_
        refine tkJ 7 (.int .i64 y.writ) rfl (by intro w' hS; have z := hS.2; clear hS u; go_simp) ?_
        refine rdI 1 rfl (fun K hK => ?_)
        go_wp2_with fail
        refine hK.out _ _ hS0 (fun _ => ?_)
        clear hK K
        refine rdI 8 rfl (fun K hK => ?_)
        go_wp2_with (go_at_call 42; refine hcon.mono ?_; rintro e w5 ⟨v5, rfl, hr5, hb5⟩)
        obtain ⟨a5, c5, hv5, -, -⟩ := wrow_at hr5
        obtain ⟨n5, hn5⟩ : ∃ n5, (woAll r.ws (r.ns.take (k + 1))).length = n5 := ⟨_, rfl⟩
        rw [hn5] at hv5
        subst hv5
        replace F := F.below hb5
        replace u := F.u2
        refine hK.out _ _ ⟨((F.b 1).2 3 _ rfl).1, (hy3.out.below F.bl hbb).2.2.2⟩ (fun _ => ?_)
        clear hK K hS0
        have hS5 : Hid (SwA P w.heap.size w V1 (w5.setCell ⟨w.heap.size, 0, none⟩ (.slice a5 n5 c5)) a5 n5 c5 (woAll r.ws (r.ns.take (k + 1)))) := (show _ ∨ _ from .inr (ownsRow_setCell_below (ownsRow_mono hr5 hlX2.out) (a := ⟨w.heap.size, 0, none⟩) (show w.heap.size < V1.heap.size by omega) _))
        have hL5 : Hid (V1.heap.size ≤ (w5.setCell ⟨w.heap.size, 0, none⟩ (.slice a5 n5 c5)).heap.size) := (show _ ≤ _ from by have := hlX2.out; have := hb5.size; simp; omega)
        clear hcon hr5 hb5 hn5
        refine tkI 9 (.pointer (some ⟨w.heap.size, 0, none⟩)) rfl ?_
        refine rdI 10 rfl (fun K hK => ?_)
        go_wp2_with fail
        have FS := F.set 1 0 (.slice a5 n5 c5)
        simp only [List.set_cons_zero, List.set_cons_succ] at FS
        refine hK.out _ _ ⟨((FS.b 1).2 3 _ rfl).1, (hy3.out.below FS.bl hbb).2.2.2⟩ (fun _ => ?_)
        clear hK K
        refine wpAnyH_done (by kernel_rfl) ?_ _
        go_wp2_with fail
        go_roundw
        case rel => exact ⟨k + 1, n5, c5, a5, by omega, by go_num, hS5, hL5, FS⟩
        case measure => simp [intOf]; omega
      · have d0 : decide (0 < y.writ) = false := decide_eq_false h0
        have e0 : y.writ = 0 := by omega
        have hp2 : PosW (woAll r.ws (r.ns.take k)) := hpw.sub (subW_all _ _)
        rw [e0, wo_miss hp2.zero] at s1
        rw [← s1] at HS
        clear s1 hx hy hW hW2 hW3 hW4 hlW hp2 e0
        go_wp2_with fail
        go_roundw
        case rel => exact ⟨k + 1, n0, c0, a0, by omega, by go_num, HS, HL, F⟩
        case measure => simp [intOf]; omega
    have dlt : decide ((k : Int) < (r.ns.length : Int)) = false := decide_eq_false (by omega)
    have hS := HS.out
    rw [show r.ns.take k = r.ns from List.take_of_length_le (by omega)] at hS
    have HS9 : Hid (SwA _ _ _ _ _ _ _ _ _) := hS
    clear hS HS hW hW2 hW3 hW4 hlW
    go_wp2_with fail
    obtain ⟨V, eV, G⟩ := (F.set 1 3 (.slice none 0 0)).nm
    have hsV : V1.heap.size ≤ V.heap.size := by rw [← eV]; simpa using HL.out
    have hSV := HS9.out.set (b := w.heap.size) (by omega) 3 (.slice none 0 0)
    rw [eV] at hSV ⊢
    clear eV HS9 HL
    simp only [List.set_cons_zero, List.set_cons_succ] at G
    replace F := G
    replace u := F.u2
    clear G
    obtain ⟨hW, hW2, hW3, hW4, hWp⟩ := hSV.at F.bl (by omega) hPn
    have hrV := hr.below F.bl
    refine (swept_q a0 at_ ah none c0 ct ch 0 ⟨woAll r.ws r.ns, r.ts, r.hs, [], r.nw, r.nt⟩ V ⟨hW, hrV.t, hrV.h, .inl rfl, hW2 ▸ hW3, hrV.ft, hrV.fh, ⟨Nat.le_refl _, by simp [maxLen]⟩⟩ ⟨Nat.le_trans (woAll_len _ _) mw, hz.t, hz.h, Nat.zero_le _, hz.nw, hz.nt⟩ (fun y hy => by obtain ⟨z, hz', e1, e2⟩ := subW_all r.ns r.ws y hy; rw [e1, e2]; exact hp z hz') P hWp (fun a ha => hPn a (ha.mono (by omega))) hW2 rfl rfl rfl rfl rfl).mono ?_
    rintro e w6 ⟨⟨b0, b1, b2, b3, d0, d1, d2, d3, m0, m1, m2, m3, rfl, HM, HR⟩, hb⟩
    replace F := F.below hb
    clear u hb hSV hW hW2 hW3 hW4 hWp hrV hlt dlt
    have u := F.u2
    go_wp2_with fail
    refine bodyPost_ret (v := .agg #[.slice b0 m0 d0, .slice b1 m1 d1, .slice b2 m2 d2, .slice b3 m3 d3, .int .i64 r.nw, .int .i64 r.nt]) (by simp [results, Tryz.results17, go_sem, u]) rfl ?_
    obtain ⟨e0, e1, e2, e3⟩ := HM.out
    obtain ⟨hm, k0, k1, k2, k3⟩ := HR.out
    rw [HPd.out] at k0
    have hb6 : Boxy w.heap.size w.heap.size (w.heap.size + 1) := .inr (.inl rfl)
    have ofh : ∀ a, HiA V.heap.size a → OffA w.heap.size w.heap.size a := fun a ha => off_hi ha (by omega) (by omega)
    have hk0 : (sweepR ⟨woAll r.ws r.ns, r.ts, r.hs, [], r.nw, r.nt⟩).ws = [] ∨ OffA w.heap.size w.heap.size b0 := by
      rcases k0 with h | h
      · left
        have hsub : SubW (sweepR ⟨woAll r.ws r.ns, r.ts, r.hs, [], r.nw, r.nt⟩).ws r.ws := (subW_sweepN _ _ _).trans (subW_all _ _)
        exact List.eq_nil_iff_forall_not_mem.2 (fun z hz' => by obtain ⟨x, hx, _⟩ := hsub z hz'; rw [h] at hx; cases hx)
      · exact .inr h
    rw [HQ.out]
    refine ⟨⟨b0, b1, b2, b3, d0, d1, d2, d3, ?_, rm_off6 hm hk0 (ofh _ k1) (ofh _ k2) (ofh _ k3) hb6 _ _ _ _ _ _⟩, (F.set6 0 _ _ _ _ _ _).bl⟩
    rw [e0, e1, e2, e3]
    rfl
set_option maxHeartbeats 4000000 in
set_option maxRecDepth 100000 in
theorem rread_any (aw at_ ah an : Option Addr) (cw ct ch cn : Nat) (r : Rm) (h s : Int) (w : World) (hr : RmAt w aw at_ ah an cw ct ch cn r) (hz : RmSz r) (hxr : getC r h s = 0 → 0 ≤ (getW r h s).rights ∧ (getW r h s).rights ≤ 7) (D : ByteArray) (C : Int) (HD : Hid ((if whoC r h s 1 1 = 0 then readD r h s else ⟨#[]⟩) = D)) (HC : Hid (whoC r h s 1 1 = C)) :
    Calls Tryz.prog 11 #[.agg #[.slice aw r.ws.length cw, .slice at_ r.ts.length ct, .slice ah r.hs.length ch, .slice an r.ns.length cn, .int .i64 r.nw, .int .i64 r.nt], .agg #[.int .i64 h, .int .i64 s]] w fun e w' => e = .returned (.tuple #[.string D, .int .i64 C]) ∧ Below w.heap.size w w' := by
  have F := fr2 w [.slice aw r.ws.length cw, .slice at_ r.ts.length ct, .slice ah r.hs.length ch, .slice an r.ns.length cn, .int .i64 r.nw, .int .i64 r.nt] 30 [.int .i64 h, .int .i64 s] 33
  have u := F.u2
  go_enter Tryz.func11, Tryz.ntmps11
  go_wp2_with fail
  refine (rmay_any aw at_ ah an cw ct ch cn r h s 1 1 _ (hr.below F.bl) hz hxr (by decide)).mono ?_
  rintro e w1 ⟨rfl, hb⟩
  replace F := F.below hb
  replace u := F.u2
  clear hb
  by_cases hw : whoC r h s 1 1 = 0
  rotate_left
  · have e1 : mayW r h s 1 1 = zeroW := if_neg hw
    have e2 : mayI r h s 1 1 = 0 := if_neg hw
    have hp0 := whoC_pos r h s 1 1
    obtain rfl : ⟨#[]⟩ = D := by rw [← HD.out, if_neg hw]
    rw [e1, e2, HC.out]
    rw [HC.out] at hw hp0
    have hd : decide (0 < C) = true := decide_eq_true (by omega)
    clear e1 e2 hxr HD HC
    go_wp2_with fail
    refine bodyPost_ret (v := .tuple #[.string ⟨#[]⟩, .int .i64 C]) (by simp [results, Tryz.results11, go_sem, u]) rfl ?_
    exact ⟨rfl, (F.al _ _).bl⟩
  have e1 : mayW r h s 1 1 = getW r h s := if_pos hw
  have e2 : mayI r h s 1 1 = thAt r (getW r h s).thing := if_pos hw
  obtain ⟨j, tt, hj, hjx, hf⟩ : ∃ (j : Nat) (t : Th), thAt r (getW r h s).thing = (j : Int) ∧ r.ts[j]? = some t ∧ r.ts.find? (thIs (getW r h s).thing) = some t := by
    rcases whoC_cases r h s 1 1 with ⟨_, _, ⟨j, t, h1, h2, h3, h4⟩, _⟩ | ⟨e, _⟩ | ⟨e, _⟩ | ⟨e, h1⟩
    · exact ⟨j, t, h1, h2, h4⟩
    · rw [hw] at e; cases e
    · rw [hw] at e; cases e
    · rw [hw] at e; exact absurd e.symm h1
  obtain rfl : tt.data = D := by rw [← HD.out, if_pos hw]; unfold readD; rw [hf]
  obtain rfl : C = 0 := by rw [← HC.out]; exact hw
  rw [e1, e2, hw, hj]
  have hjl : j < r.ts.length := (List.getElem?_eq_some_iff.1 hjx).1
  obtain ⟨b, o, rfl, hbb, hx⟩ := hr.t.resolve_left (fun e => by rw [e] at hjl; simp at hjl)
  have hft := hr.ft.2
  have mt := hz.t
  unfold maxLen at hft
  obtain ⟨q0, q1, q2⟩ := (hx j tt hjx).below F.bl hbb
  have hb1 : b < w1.heap.size := Nat.lt_of_lt_of_le hbb F.bl.size
  generalize getW r h s = x at *
  clear e1 e2 hw hj hf hjx hx hxr HD HC
  go_wp2_with fail
  refine bodyPost_ret (v := .tuple #[.string tt.data, .int .i64 0]) (by simp [results, Tryz.results11, go_sem, u]) rfl ?_
  exact ⟨rfl, (F.al _ _).bl⟩
end Go.Proofs.YtddgpgldbekamaaGreat
set_option linter.unusedSimpArgs false
set_option linter.unnecessarySimpa false
set_option linter.unusedVariables false
namespace Go.Proofs.YtddgpgldbekamaaGreat
open Go.RowKit

@[go_sem] theorem asErrR (v : Value) (w : World) : (Instr.typeAssert (.iface 69 v) 41 69 true).run Tryz.prog w = .ok (.tuple #[v, .bool true]) w := by kernel_rfl
/-- an error as a value -/
def EvIs (C : Int) (ev : Value) : Prop := C = 0 ∧ ev = .nilIface ∨ 0 < C ∧ ev = .iface 69 (.int .i64 C)
set_option maxHeartbeats 1000000 in
set_option maxRecDepth 100000 in
theorem sm_any (C : Int) (ev : Value) (w : World) (h : EvIs C ev) : Calls Tryz.prog 12 #[ev, .int .i64 C] w fun e w' => e = .returned (.bool true) ∧ w' = w := by
  rcases h with ⟨rfl, rfl⟩ | ⟨h1, rfl⟩
  · go_enter Tryz.func12, Tryz.ntmps12
    go_wp2_with fail
    go_ret
    exact ⟨rfl, rfl⟩
  · have d1 : decide (0 < C) = true := decide_eq_true h1
    go_enter Tryz.func12, Tryz.ntmps12
    go_wp2_with fail
    go_ret
    exact ⟨rfl, rfl⟩
theorem get_c (aw at_ ah an : Option Addr) (cw ct ch cn : Nat) (r : Rm) (h s : Int) (w : World) (hr : RmAt w aw at_ ah an cw ct ch cn r) (hz : RmSz r) (x : Wr) (C : Int) (Hx : Hid (wAt r h s = x)) (HC : Hid (getC r h s = C)) :
    Calls Tryz.prog 8 #[.agg #[.slice aw r.ws.length cw, .slice at_ r.ts.length ct, .slice ah r.hs.length ch, .slice an r.ns.length cn, .int .i64 r.nw, .int .i64 r.nt], .agg #[.int .i64 h, .int .i64 s]] w fun e w' => ∃ ev, e = .returned (.tuple #[.agg #[.int .i64 x.id, .int .i64 x.thing, .int .i64 x.rights, .int .i64 x.badge, .int .i64 x.frm], ev]) ∧ EvIs C ev ∧ Below w.heap.size w w' := by
  obtain rfl := Hx.out
  obtain rfl := HC.out
  by_cases hc : getC r h s = 0
  · refine (get_ok aw at_ ah an cw ct ch cn r h s w hr hz hc).mono ?_
    rintro e w' ⟨rfl, hb⟩
    exact ⟨_, by rw [show wAt r h s = getW r h s from if_pos hc], .inl ⟨hc, rfl⟩, hb⟩
  · refine (get_err aw at_ ah an cw ct ch cn r h s w hr hz hc).mono ?_
    rintro e w' ⟨rfl, hb⟩
    have := getC_pos r h s
    exact ⟨_, by rw [show wAt r h s = zeroW from if_neg hc]; rfl, .inr ⟨by omega, rfl⟩, hb⟩
theorem read_c (aw at_ ah an : Option Addr) (cw ct ch cn : Nat) (r : Rm) (h s : Int) (w : World) (hr : RmAt w aw at_ ah an cw ct ch cn r) (hz : RmSz r) (D : ByteArray) (C : Int) (HD : Hid ((if whoC r h s 1 1 = 0 then readD r h s else ⟨#[]⟩) = D)) (HC : Hid (whoC r h s 1 1 = C)) :
    Calls Tryz.prog 10 #[.agg #[.slice aw r.ws.length cw, .slice at_ r.ts.length ct, .slice ah r.hs.length ch, .slice an r.ns.length cn, .int .i64 r.nw, .int .i64 r.nt], .agg #[.int .i64 h, .int .i64 s]] w fun e w' => ∃ ev, e = .returned (.tuple #[.string D, ev]) ∧ EvIs C ev ∧ Below w.heap.size w w' := by
  obtain rfl := HC.out
  obtain rfl := HD.out
  by_cases hc : whoC r h s 1 1 = 0
  · refine (read_ok aw at_ ah an cw ct ch cn r h s w hr hz hc).mono ?_
    rintro e w' ⟨rfl, hb⟩
    exact ⟨_, by rw [if_pos hc], .inl ⟨hc, rfl⟩, hb⟩
  · refine (read_err aw at_ ah an cw ct ch cn r h s w hr hz hc).mono ?_
    rintro e w' ⟨rfl, hb⟩
    have := whoC_pos r h s 1 1
    exact ⟨_, by rw [if_neg hc], .inr ⟨by omega, rfl⟩, hb⟩
/-! ### What a whole realm gives -/
theorem Whole.num {r : Rm} (h : Whole r) : ∀ x ∈ r.ws, 0 < x.id ∧ 1 ≤ x.thing ∧ x.thing ≤ 999 := fun x hx => by
  have := h.gw.1 x hx; unfold wrOk at this; omega
theorem Whole.rt {r : Rm} (h : Whole r) : ∀ a b, getC r a b = 0 → 0 ≤ (getW r a b).rights ∧ (getW r a b).rights ≤ 7 := fun a b hc => by
  have := h.gw.1 _ (getW_mem hc); unfold wrOk at this; omega
theorem Whole.wt {r : Rm} (h : Whole r) : ∀ n ∈ r.ns, 0 ≤ n.writ := fun n hn => by
  rcases h.nin n hn with e | ⟨x, hx, e⟩
  · omega
  · have := (h.num x hx).1; omega
theorem Whole.w3 {r : Rm} (h : Whole r) : ∀ t, (waitL r t).length ≤ 3 := fun t => by
  have := h.nl t; rw [List.countP_eq_length_filter] at this; exact this
theorem outP_act {w w' : World} {e : Ending} {C : Int} {R : Rm} (h : OutP w w' e C R) : ∃ (a0 a1 a2 a3 : Option Addr) (n0 n1 n2 n3 c0 c1 c2 c3 : Nat) (m n : Int) (ev : Value), e = .returned (.tuple #[.agg #[.slice a0 n0 c0, .slice a1 n1 c1, .slice a2 n2 c2, .slice a3 n3 c3, .int .i64 m, .int .i64 n], .int .i64 C]) ∧ ActP 69 w.heap.size C R w' a0 a1 a2 a3 n0 n1 n2 n3 c0 c1 c2 c3 m n ev ∧ Below w.heap.size w w' := by
  rcases h with ⟨⟨hne, rfl⟩ | ⟨rfl, a0, a1, a2, a3, c0, c1, c2, c3, rfl, hm, k0, k1, k2, k3⟩, hb⟩
  · exact ⟨none, none, none, none, 0, 0, 0, 0, 0, 0, 0, 0, 0, 0, _, rfl, .inr ⟨hne, rfl, rfl, rfl, rfl, rfl, rfl, rfl, rfl, rfl, rfl, rfl, rfl, rfl, rfl, rfl⟩, hb⟩
  · exact ⟨a0, a1, a2, a3, _, _, _, _, c0, c1, c2, c3, _, _, _, rfl, .inl ⟨rfl, rfl, rfl, rfl, rfl, rfl, rfl, rfl, hm, k0, k1, k2, k3⟩, hb⟩
theorem rmoved_any (aw at_ ah an : Option Addr) (cw ct ch cn : Nat) (r : Rm) (h s t : Int) (w : World) (hr : RmAt w aw at_ ah an cw ct ch cn r) (hz : RmSz r) (hg : Good r.hs) (mh2 : (putL r.hs h s 0).length ≤ 100) :
    Calls Tryz.prog 56 #[.agg #[.slice aw r.ws.length cw, .slice at_ r.ts.length ct, .slice ah r.hs.length ch, .slice an r.ns.length cn, .int .i64 r.nw, .int .i64 r.nt], .agg #[.int .i64 h, .int .i64 s], .int .i64 t] w fun e w' => OutP w w' e (moveC r h s t) (moveR r h s t) := by
  by_cases hc : getC r h s = 0
  · have hw0 : wAt r h s = getW r h s := if_pos hc
    by_cases hf : freeC r h t = 0
    · have e : moveC r h s t = 0 := by unfold moveC; rw [if_neg (fun h' => h' hc)]; exact hf
      rw [e]
      refine (rmoved_yes aw at_ ah an cw ct ch cn r h s t w hr hz hg (good_put hg (getC_pl hc)) mh2 (getW r h s) (show _ = _ from rfl) hw0 hc hf).mono ?_
      rintro e w' ⟨v0, v1, v2, v3, rfl, ho, hb⟩
      exact OutP.ok rfl ho hb (Nat.le_refl _)
    · have e : moveC r h s t = freeC r h t := by unfold moveC; rw [if_neg (fun h' => h' hc)]
      rw [e]
      refine (rmoved_free aw at_ ah an cw ct ch cn r h s t w hr hz _ hw0 hc hf _ rfl).mono ?_
      rintro e w' ⟨rfl, hb⟩
      exact ⟨.inl ⟨hf, rfl⟩, hb⟩
  · have e : moveC r h s t = getC r h s := by unfold moveC; rw [if_pos hc]
    rw [e]
    refine (rmoved_get aw at_ ah an cw ct ch cn r h s t w hr hz hc _ rfl).mono ?_
    rintro e w' ⟨rfl, hb⟩
    exact ⟨.inl ⟨hc, rfl⟩, hb⟩
theorem Whole.rt2 {r : Rm} (h : Whole r) (a b : Int) : 0 ≤ (getW r a b).rights ∧ (getW r a b).rights ≤ 7 := by
  unfold getW
  split
  · rename_i x hx
    have := h.gw.1 x (List.mem_of_getElem? hx); unfold wrOk at this; omega
  · exact ⟨by decide, by decide⟩
theorem rmoved_c (aw at_ ah an : Option Addr) (cw ct ch cn : Nat) (r : Rm) (h s t : Int) (w : World) (hr : RmAt w aw at_ ah an cw ct ch cn r) (hz : RmSz r) (hg : Good r.hs) (mh2 : (putL r.hs h s 0).length ≤ 100) (C : Int) (HC : Hid (moveC r h s t = C)) :
    Calls Tryz.prog 56 #[.agg #[.slice aw r.ws.length cw, .slice at_ r.ts.length ct, .slice ah r.hs.length ch, .slice an r.ns.length cn, .int .i64 r.nw, .int .i64 r.nt], .agg #[.int .i64 h, .int .i64 s], .int .i64 t] w fun e w' => OutP w w' e C (moveR r h s t) := HC.out ▸ rmoved_any aw at_ ah an cw ct ch cn r h s t w hr hz hg mh2
theorem rdropped_c (aw at_ ah an : Option Addr) (cw ct ch cn : Nat) (r : Rm) (h s : Int) (w : World) (hr : RmAt w aw at_ ah an cw ct ch cn r) (hz : RmSz r) (hp : ∀ x ∈ r.ws, 0 < x.id ∧ 1 ≤ x.thing ∧ x.thing ≤ 999) (C : Int) (HC : Hid (dropC r h s = C)) :
    Calls Tryz.prog 57 #[.agg #[.slice aw r.ws.length cw, .slice at_ r.ts.length ct, .slice ah r.hs.length ch, .slice an r.ns.length cn, .int .i64 r.nw, .int .i64 r.nt], .agg #[.int .i64 h, .int .i64 s]] w fun e w' => OutP w w' e C (dropR r h s) := HC.out ▸ rdropped_any aw at_ ah an cw ct ch cn r h s w hr hz hp
theorem rrevoked_c (aw at_ ah an : Option Addr) (cw ct ch cn : Nat) (r : Rm) (h s : Int) (w : World) (hr : RmAt w aw at_ ah an cw ct ch cn r) (hz : RmSz r) (hg : GoodW r.ws) (hp : ∀ x ∈ r.ws, 0 < x.id ∧ 1 ≤ x.thing ∧ x.thing ≤ 999) (C : Int) (HC : Hid (dropC r h s = C)) :
    Calls Tryz.prog 58 #[.agg #[.slice aw r.ws.length cw, .slice at_ r.ts.length ct, .slice ah r.hs.length ch, .slice an r.ns.length cn, .int .i64 r.nw, .int .i64 r.nt], .agg #[.int .i64 h, .int .i64 s]] w fun e w' => OutP w w' e C (revokeR r h s) := HC.out ▸ rrevoked_any aw at_ ah an cw ct ch cn r h s w hr hz hg hp
set_option maxHeartbeats 4000000 in
set_option maxRecDepth 100000 in
theorem rdone_make (aw at_ ah an : Option Addr) (cw ct ch cn : Nat) (r : Rm) (x : Ac) (w : World) (hr : RmAt w aw at_ ah an cw ct ch cn r) (hI : RmI r) (hW : Whole r) (hsd : x.sd.size ≤ maxLen)  (k0 : (x.kd.toList == [109, 97, 107, 101]) = true) (C : Int) (HC : Hid (makeC r x.ph x.ps x.aa = C)) :
    Calls Tryz.prog 20 #[.agg #[.slice aw r.ws.length cw, .slice at_ r.ts.length ct, .slice ah r.hs.length ch, .slice an r.ns.length cn, .int .i64 r.nw, .int .i64 r.nt], .agg #[.string x.kd, .string x.sd, .int .i64 x.ph, .int .i64 x.ps, .int .i64 x.qh, .int .i64 x.qs, .int .i64 x.aa, .int .i64 x.bb, .int .i64 x.nn, .int .u64 x.kk, .slice x.xc x.lc x.cc]] w fun e w' => ∃ (a0 a1 a2 a3 : Option Addr) (n0 n1 n2 n3 c0 c1 c2 c3 : Nat) (m n : Int) (ev : Value), e = .returned (.tuple #[.agg #[.slice a0 n0 c0, .slice a1 n1 c1, .slice a2 n2 c2, .slice a3 n3 c3, .int .i64 m, .int .i64 n], .int .i64 C]) ∧ ActP 69 w.heap.size C (makeR r x.ph x.ps x.aa) w' a0 a1 a2 a3 n0 n1 n2 n3 c0 c1 c2 c3 m n ev ∧ Below w.heap.size w w' := by
  have hz := hI.sz
  have F := fr3 w [.slice aw r.ws.length cw, .slice at_ r.ts.length ct, .slice ah r.hs.length ch, .slice an r.ns.length cn, .int .i64 r.nw, .int .i64 r.nt] 30 [.string x.kd, .string x.sd, .int .i64 x.ph, .int .i64 x.ps, .int .i64 x.qh, .int .i64 x.qs, .int .i64 x.aa, .int .i64 x.bb, .int .i64 x.nn, .int .u64 x.kk, .slice x.xc x.lc x.cc] 37 [.slice none 0 0, .slice none 0 0, .slice none 0 0, .slice none 0 0, .int .i64 0, .int .i64 0] 30
  have u := F.u3
  go_enter Tryz.func20, Tryz.ntmps20
  go_wp2_with fail
  refine (rmade_any aw at_ ah an cw ct ch cn r x.ph x.ps x.aa _ (hr.below F.bl) hz hW.gh hW.tl C HC).mono ?_
  intro e w1 h
  obtain ⟨a0, a1, a2, a3, n0, n1, n2, n3, c0, c1, c2, c3, m, n, ev, rfl, hA, hb⟩ := outP_act h
  replace F := F.below hb
  replace u := F.u3
  have HA : Hid (ActP _ _ _ _ _ _ _ _ _ _ _ _ _ _ _ _ _ _ _ _) := hA
  clear h hb hA hI hW hz hr HC
  go_wp2_with fail
  refine bodyPost_ret (v := .tuple #[.agg #[.slice a0 n0 c0, .slice a1 n1 c1, .slice a2 n2 c2, .slice a3 n3 c3, .int .i64 m, .int .i64 n], .int .i64 C]) (by simp [results, Tryz.results20, go_sem, u]) rfl ?_
  exact ⟨a0, a1, a2, a3, n0, n1, n2, n3, c0, c1, c2, c3, m, n, ev, rfl, HA.out.set6 (by simp) (by omega) (by simp <;> omega) _ _ _ _ _ _, (F.set6 0 _ _ _ _ _ _).bl⟩
set_option maxHeartbeats 4000000 in
set_option maxRecDepth 100000 in
theorem rdone_give (aw at_ ah an : Option Addr) (cw ct ch cn : Nat) (r : Rm) (x : Ac) (w : World) (hr : RmAt w aw at_ ah an cw ct ch cn r) (hI : RmI r) (hW : Whole r) (hsd : x.sd.size ≤ maxLen) (k0 : (x.kd.toList == [109, 97, 107, 101]) = false) (k1 : (x.kd.toList == [103, 105, 118, 101]) = true) (C : Int) (HC : Hid (giveC r x.ph x.ps x.qh x.qs x.aa x.bb = C)) :
    Calls Tryz.prog 20 #[.agg #[.slice aw r.ws.length cw, .slice at_ r.ts.length ct, .slice ah r.hs.length ch, .slice an r.ns.length cn, .int .i64 r.nw, .int .i64 r.nt], .agg #[.string x.kd, .string x.sd, .int .i64 x.ph, .int .i64 x.ps, .int .i64 x.qh, .int .i64 x.qs, .int .i64 x.aa, .int .i64 x.bb, .int .i64 x.nn, .int .u64 x.kk, .slice x.xc x.lc x.cc]] w fun e w' => ∃ (a0 a1 a2 a3 : Option Addr) (n0 n1 n2 n3 c0 c1 c2 c3 : Nat) (m n : Int) (ev : Value), e = .returned (.tuple #[.agg #[.slice a0 n0 c0, .slice a1 n1 c1, .slice a2 n2 c2, .slice a3 n3 c3, .int .i64 m, .int .i64 n], .int .i64 C]) ∧ ActP 69 w.heap.size C (giveR r x.ph x.ps x.qh x.qs x.aa x.bb) w' a0 a1 a2 a3 n0 n1 n2 n3 c0 c1 c2 c3 m n ev ∧ Below w.heap.size w w' := by
  have hz := hI.sz
  have F := fr3 w [.slice aw r.ws.length cw, .slice at_ r.ts.length ct, .slice ah r.hs.length ch, .slice an r.ns.length cn, .int .i64 r.nw, .int .i64 r.nt] 30 [.string x.kd, .string x.sd, .int .i64 x.ph, .int .i64 x.ps, .int .i64 x.qh, .int .i64 x.qs, .int .i64 x.aa, .int .i64 x.bb, .int .i64 x.nn, .int .u64 x.kk, .slice x.xc x.lc x.cc] 37 [.slice none 0 0, .slice none 0 0, .slice none 0 0, .slice none 0 0, .int .i64 0, .int .i64 0] 30
  have u := F.u3
  go_enter Tryz.func20, Tryz.ntmps20
  go_wp2_with fail
  refine (rgiven_any aw at_ ah an cw ct ch cn r x.ph x.ps x.qh x.qs x.aa x.bb _ (hr.below F.bl) hz hW.gh _ _ rfl (hW.rt2 _ _) rfl C HC).mono ?_
  intro e w1 h
  obtain ⟨a0, a1, a2, a3, n0, n1, n2, n3, c0, c1, c2, c3, m, n, ev, rfl, hA, hb⟩ := outP_act h
  replace F := F.below hb
  replace u := F.u3
  have HA : Hid (ActP _ _ _ _ _ _ _ _ _ _ _ _ _ _ _ _ _ _ _ _) := hA
  clear h hb hA hI hW hz hr HC
  go_wp2_with fail
  refine bodyPost_ret (v := .tuple #[.agg #[.slice a0 n0 c0, .slice a1 n1 c1, .slice a2 n2 c2, .slice a3 n3 c3, .int .i64 m, .int .i64 n], .int .i64 C]) (by simp [results, Tryz.results20, go_sem, u]) rfl ?_
  exact ⟨a0, a1, a2, a3, n0, n1, n2, n3, c0, c1, c2, c3, m, n, ev, rfl, HA.out.set6 (by simp) (by omega) (by simp <;> omega) _ _ _ _ _ _, (F.set6 0 _ _ _ _ _ _).bl⟩
set_option maxHeartbeats 4000000 in
set_option maxRecDepth 100000 in
theorem rdone_move (aw at_ ah an : Option Addr) (cw ct ch cn : Nat) (r : Rm) (x : Ac) (w : World) (hr : RmAt w aw at_ ah an cw ct ch cn r) (hI : RmI r) (hW : Whole r) (hsd : x.sd.size ≤ maxLen) (k0 : (x.kd.toList == [109, 97, 107, 101]) = false) (k1 : (x.kd.toList == [103, 105, 118, 101]) = false) (k2 : (x.kd.toList == [109, 111, 118, 101]) = true) (C : Int) (HC : Hid (moveC r x.ph x.ps x.aa = C)) :
    Calls Tryz.prog 20 #[.agg #[.slice aw r.ws.length cw, .slice at_ r.ts.length ct, .slice ah r.hs.length ch, .slice an r.ns.length cn, .int .i64 r.nw, .int .i64 r.nt], .agg #[.string x.kd, .string x.sd, .int .i64 x.ph, .int .i64 x.ps, .int .i64 x.qh, .int .i64 x.qs, .int .i64 x.aa, .int .i64 x.bb, .int .i64 x.nn, .int .u64 x.kk, .slice x.xc x.lc x.cc]] w fun e w' => ∃ (a0 a1 a2 a3 : Option Addr) (n0 n1 n2 n3 c0 c1 c2 c3 : Nat) (m n : Int) (ev : Value), e = .returned (.tuple #[.agg #[.slice a0 n0 c0, .slice a1 n1 c1, .slice a2 n2 c2, .slice a3 n3 c3, .int .i64 m, .int .i64 n], .int .i64 C]) ∧ ActP 69 w.heap.size C (moveR r x.ph x.ps x.aa) w' a0 a1 a2 a3 n0 n1 n2 n3 c0 c1 c2 c3 m n ev ∧ Below w.heap.size w w' := by
  have hz := hI.sz
  have F := fr3 w [.slice aw r.ws.length cw, .slice at_ r.ts.length ct, .slice ah r.hs.length ch, .slice an r.ns.length cn, .int .i64 r.nw, .int .i64 r.nt] 30 [.string x.kd, .string x.sd, .int .i64 x.ph, .int .i64 x.ps, .int .i64 x.qh, .int .i64 x.qs, .int .i64 x.aa, .int .i64 x.bb, .int .i64 x.nn, .int .u64 x.kk, .slice x.xc x.lc x.cc] 37 [.slice none 0 0, .slice none 0 0, .slice none 0 0, .slice none 0 0, .int .i64 0, .int .i64 0] 30
  have u := F.u3
  go_enter Tryz.func20, Tryz.ntmps20
  go_wp2_with fail
  refine (rmoved_c aw at_ ah an cw ct ch cn r x.ph x.ps x.aa _ (hr.below F.bl) hz hW.gh (hI.put _ _) C HC).mono ?_
  intro e w1 h
  obtain ⟨a0, a1, a2, a3, n0, n1, n2, n3, c0, c1, c2, c3, m, n, ev, rfl, hA, hb⟩ := outP_act h
  replace F := F.below hb
  replace u := F.u3
  have HA : Hid (ActP _ _ _ _ _ _ _ _ _ _ _ _ _ _ _ _ _ _ _ _) := hA
  clear h hb hA hI hW hz hr HC
  go_wp2_with fail
  refine bodyPost_ret (v := .tuple #[.agg #[.slice a0 n0 c0, .slice a1 n1 c1, .slice a2 n2 c2, .slice a3 n3 c3, .int .i64 m, .int .i64 n], .int .i64 C]) (by simp [results, Tryz.results20, go_sem, u]) rfl ?_
  exact ⟨a0, a1, a2, a3, n0, n1, n2, n3, c0, c1, c2, c3, m, n, ev, rfl, HA.out.set6 (by simp) (by omega) (by simp <;> omega) _ _ _ _ _ _, (F.set6 0 _ _ _ _ _ _).bl⟩
set_option maxHeartbeats 4000000 in
set_option maxRecDepth 100000 in
theorem rdone_drop (aw at_ ah an : Option Addr) (cw ct ch cn : Nat) (r : Rm) (x : Ac) (w : World) (hr : RmAt w aw at_ ah an cw ct ch cn r) (hI : RmI r) (hW : Whole r) (hsd : x.sd.size ≤ maxLen) (k0 : (x.kd.toList == [109, 97, 107, 101]) = false) (k1 : (x.kd.toList == [103, 105, 118, 101]) = false) (k2 : (x.kd.toList == [109, 111, 118, 101]) = false) (k3 : (x.kd.toList == [100, 114, 111, 112]) = true) (C : Int) (HC : Hid (dropC r x.ph x.ps = C)) :
    Calls Tryz.prog 20 #[.agg #[.slice aw r.ws.length cw, .slice at_ r.ts.length ct, .slice ah r.hs.length ch, .slice an r.ns.length cn, .int .i64 r.nw, .int .i64 r.nt], .agg #[.string x.kd, .string x.sd, .int .i64 x.ph, .int .i64 x.ps, .int .i64 x.qh, .int .i64 x.qs, .int .i64 x.aa, .int .i64 x.bb, .int .i64 x.nn, .int .u64 x.kk, .slice x.xc x.lc x.cc]] w fun e w' => ∃ (a0 a1 a2 a3 : Option Addr) (n0 n1 n2 n3 c0 c1 c2 c3 : Nat) (m n : Int) (ev : Value), e = .returned (.tuple #[.agg #[.slice a0 n0 c0, .slice a1 n1 c1, .slice a2 n2 c2, .slice a3 n3 c3, .int .i64 m, .int .i64 n], .int .i64 C]) ∧ ActP 69 w.heap.size C (dropR r x.ph x.ps) w' a0 a1 a2 a3 n0 n1 n2 n3 c0 c1 c2 c3 m n ev ∧ Below w.heap.size w w' := by
  have hz := hI.sz
  have F := fr3 w [.slice aw r.ws.length cw, .slice at_ r.ts.length ct, .slice ah r.hs.length ch, .slice an r.ns.length cn, .int .i64 r.nw, .int .i64 r.nt] 30 [.string x.kd, .string x.sd, .int .i64 x.ph, .int .i64 x.ps, .int .i64 x.qh, .int .i64 x.qs, .int .i64 x.aa, .int .i64 x.bb, .int .i64 x.nn, .int .u64 x.kk, .slice x.xc x.lc x.cc] 37 [.slice none 0 0, .slice none 0 0, .slice none 0 0, .slice none 0 0, .int .i64 0, .int .i64 0] 30
  have u := F.u3
  go_enter Tryz.func20, Tryz.ntmps20
  go_wp2_with fail
  refine (rdropped_c aw at_ ah an cw ct ch cn r x.ph x.ps _ (hr.below F.bl) hz hW.num C HC).mono ?_
  intro e w1 h
  obtain ⟨a0, a1, a2, a3, n0, n1, n2, n3, c0, c1, c2, c3, m, n, ev, rfl, hA, hb⟩ := outP_act h
  replace F := F.below hb
  replace u := F.u3
  have HA : Hid (ActP _ _ _ _ _ _ _ _ _ _ _ _ _ _ _ _ _ _ _ _) := hA
  clear h hb hA hI hW hz hr HC
  go_wp2_with fail
  refine bodyPost_ret (v := .tuple #[.agg #[.slice a0 n0 c0, .slice a1 n1 c1, .slice a2 n2 c2, .slice a3 n3 c3, .int .i64 m, .int .i64 n], .int .i64 C]) (by simp [results, Tryz.results20, go_sem, u]) rfl ?_
  exact ⟨a0, a1, a2, a3, n0, n1, n2, n3, c0, c1, c2, c3, m, n, ev, rfl, HA.out.set6 (by simp) (by omega) (by simp <;> omega) _ _ _ _ _ _, (F.set6 0 _ _ _ _ _ _).bl⟩
set_option maxHeartbeats 4000000 in
set_option maxRecDepth 100000 in
theorem rdone_revoke (aw at_ ah an : Option Addr) (cw ct ch cn : Nat) (r : Rm) (x : Ac) (w : World) (hr : RmAt w aw at_ ah an cw ct ch cn r) (hI : RmI r) (hW : Whole r) (hsd : x.sd.size ≤ maxLen) (k0 : (x.kd.toList == [109, 97, 107, 101]) = false) (k1 : (x.kd.toList == [103, 105, 118, 101]) = false) (k2 : (x.kd.toList == [109, 111, 118, 101]) = false) (k3 : (x.kd.toList == [100, 114, 111, 112]) = false) (k4 : (x.kd.toList == [114, 101, 118, 111, 107, 101]) = true) (C : Int) (HC : Hid (dropC r x.ph x.ps = C)) :
    Calls Tryz.prog 20 #[.agg #[.slice aw r.ws.length cw, .slice at_ r.ts.length ct, .slice ah r.hs.length ch, .slice an r.ns.length cn, .int .i64 r.nw, .int .i64 r.nt], .agg #[.string x.kd, .string x.sd, .int .i64 x.ph, .int .i64 x.ps, .int .i64 x.qh, .int .i64 x.qs, .int .i64 x.aa, .int .i64 x.bb, .int .i64 x.nn, .int .u64 x.kk, .slice x.xc x.lc x.cc]] w fun e w' => ∃ (a0 a1 a2 a3 : Option Addr) (n0 n1 n2 n3 c0 c1 c2 c3 : Nat) (m n : Int) (ev : Value), e = .returned (.tuple #[.agg #[.slice a0 n0 c0, .slice a1 n1 c1, .slice a2 n2 c2, .slice a3 n3 c3, .int .i64 m, .int .i64 n], .int .i64 C]) ∧ ActP 69 w.heap.size C (revokeR r x.ph x.ps) w' a0 a1 a2 a3 n0 n1 n2 n3 c0 c1 c2 c3 m n ev ∧ Below w.heap.size w w' := by
  have hz := hI.sz
  have F := fr3 w [.slice aw r.ws.length cw, .slice at_ r.ts.length ct, .slice ah r.hs.length ch, .slice an r.ns.length cn, .int .i64 r.nw, .int .i64 r.nt] 30 [.string x.kd, .string x.sd, .int .i64 x.ph, .int .i64 x.ps, .int .i64 x.qh, .int .i64 x.qs, .int .i64 x.aa, .int .i64 x.bb, .int .i64 x.nn, .int .u64 x.kk, .slice x.xc x.lc x.cc] 37 [.slice none 0 0, .slice none 0 0, .slice none 0 0, .slice none 0 0, .int .i64 0, .int .i64 0] 30
  have u := F.u3
  go_enter Tryz.func20, Tryz.ntmps20
  go_wp2_with fail
  refine (rrevoked_c aw at_ ah an cw ct ch cn r x.ph x.ps _ (hr.below F.bl) hz hW.gw hW.num C HC).mono ?_
  intro e w1 h
  obtain ⟨a0, a1, a2, a3, n0, n1, n2, n3, c0, c1, c2, c3, m, n, ev, rfl, hA, hb⟩ := outP_act h
  replace F := F.below hb
  replace u := F.u3
  have HA : Hid (ActP _ _ _ _ _ _ _ _ _ _ _ _ _ _ _ _ _ _ _ _) := hA
  clear h hb hA hI hW hz hr HC
  go_wp2_with fail
  refine bodyPost_ret (v := .tuple #[.agg #[.slice a0 n0 c0, .slice a1 n1 c1, .slice a2 n2 c2, .slice a3 n3 c3, .int .i64 m, .int .i64 n], .int .i64 C]) (by simp [results, Tryz.results20, go_sem, u]) rfl ?_
  exact ⟨a0, a1, a2, a3, n0, n1, n2, n3, c0, c1, c2, c3, m, n, ev, rfl, HA.out.set6 (by simp) (by omega) (by simp <;> omega) _ _ _ _ _ _, (F.set6 0 _ _ _ _ _ _).bl⟩
set_option maxHeartbeats 4000000 in
set_option maxRecDepth 100000 in
theorem rdone_write (aw at_ ah an : Option Addr) (cw ct ch cn : Nat) (r : Rm) (x : Ac) (w : World) (hr : RmAt w aw at_ ah an cw ct ch cn r) (hI : RmI r) (hW : Whole r) (hsd : x.sd.size ≤ maxLen) (k0 : (x.kd.toList == [109, 97, 107, 101]) = false) (k1 : (x.kd.toList == [103, 105, 118, 101]) = false) (k2 : (x.kd.toList == [109, 111, 118, 101]) = false) (k3 : (x.kd.toList == [100, 114, 111, 112]) = false) (k4 : (x.kd.toList == [114, 101, 118, 111, 107, 101]) = false) (k5 : (x.kd.toList == [119, 114, 105, 116, 101]) = true) (C : Int) (HC : Hid (writeC r x.ph x.ps x.sd = C)) :
    Calls Tryz.prog 20 #[.agg #[.slice aw r.ws.length cw, .slice at_ r.ts.length ct, .slice ah r.hs.length ch, .slice an r.ns.length cn, .int .i64 r.nw, .int .i64 r.nt], .agg #[.string x.kd, .string x.sd, .int .i64 x.ph, .int .i64 x.ps, .int .i64 x.qh, .int .i64 x.qs, .int .i64 x.aa, .int .i64 x.bb, .int .i64 x.nn, .int .u64 x.kk, .slice x.xc x.lc x.cc]] w fun e w' => ∃ (a0 a1 a2 a3 : Option Addr) (n0 n1 n2 n3 c0 c1 c2 c3 : Nat) (m n : Int) (ev : Value), e = .returned (.tuple #[.agg #[.slice a0 n0 c0, .slice a1 n1 c1, .slice a2 n2 c2, .slice a3 n3 c3, .int .i64 m, .int .i64 n], .int .i64 C]) ∧ ActP 69 w.heap.size C (writeR r x.ph x.ps x.sd) w' a0 a1 a2 a3 n0 n1 n2 n3 c0 c1 c2 c3 m n ev ∧ Below w.heap.size w w' := by
  have hz := hI.sz
  have F := fr3 w [.slice aw r.ws.length cw, .slice at_ r.ts.length ct, .slice ah r.hs.length ch, .slice an r.ns.length cn, .int .i64 r.nw, .int .i64 r.nt] 30 [.string x.kd, .string x.sd, .int .i64 x.ph, .int .i64 x.ps, .int .i64 x.qh, .int .i64 x.qs, .int .i64 x.aa, .int .i64 x.bb, .int .i64 x.nn, .int .u64 x.kk, .slice x.xc x.lc x.cc] 37 [.slice none 0 0, .slice none 0 0, .slice none 0 0, .slice none 0 0, .int .i64 0, .int .i64 0] 30
  have u := F.u3
  go_enter Tryz.func20, Tryz.ntmps20
  go_wp2_with fail
  refine (rwritten_any aw at_ ah an cw ct ch cn r x.ph x.ps x.sd _ (hr.below F.bl) hz hsd (hW.rt _ _) C HC).mono ?_
  intro e w1 h
  obtain ⟨a0, a1, a2, a3, n0, n1, n2, n3, c0, c1, c2, c3, m, n, ev, rfl, hA, hb⟩ := outP_act h
  replace F := F.below hb
  replace u := F.u3
  have HA : Hid (ActP _ _ _ _ _ _ _ _ _ _ _ _ _ _ _ _ _ _ _ _) := hA
  clear h hb hA hI hW hz hr HC
  go_wp2_with fail
  refine bodyPost_ret (v := .tuple #[.agg #[.slice a0 n0 c0, .slice a1 n1 c1, .slice a2 n2 c2, .slice a3 n3 c3, .int .i64 m, .int .i64 n], .int .i64 C]) (by simp [results, Tryz.results20, go_sem, u]) rfl ?_
  exact ⟨a0, a1, a2, a3, n0, n1, n2, n3, c0, c1, c2, c3, m, n, ev, rfl, HA.out.set6 (by simp) (by omega) (by simp <;> omega) _ _ _ _ _ _, (F.set6 0 _ _ _ _ _ _).bl⟩
set_option maxHeartbeats 4000000 in
set_option maxRecDepth 100000 in
theorem rdone_send (aw at_ ah an : Option Addr) (cw ct ch cn : Nat) (r : Rm) (x : Ac) (w : World) (hr : RmAt w aw at_ ah an cw ct ch cn r) (hI : RmI r) (hW : Whole r) (hsd : x.sd.size ≤ maxLen) (k0 : (x.kd.toList == [109, 97, 107, 101]) = false) (k1 : (x.kd.toList == [103, 105, 118, 101]) = false) (k2 : (x.kd.toList == [109, 111, 118, 101]) = false) (k3 : (x.kd.toList == [100, 114, 111, 112]) = false) (k4 : (x.kd.toList == [114, 101, 118, 111, 107, 101]) = false) (k5 : (x.kd.toList == [119, 114, 105, 116, 101]) = false) (k6 : (x.kd.toList == [115, 101, 110, 100]) = true) (C : Int) (HC : Hid (sendC r x.ph x.ps x.sd x.aa x.bb = C)) :
    Calls Tryz.prog 20 #[.agg #[.slice aw r.ws.length cw, .slice at_ r.ts.length ct, .slice ah r.hs.length ch, .slice an r.ns.length cn, .int .i64 r.nw, .int .i64 r.nt], .agg #[.string x.kd, .string x.sd, .int .i64 x.ph, .int .i64 x.ps, .int .i64 x.qh, .int .i64 x.qs, .int .i64 x.aa, .int .i64 x.bb, .int .i64 x.nn, .int .u64 x.kk, .slice x.xc x.lc x.cc]] w fun e w' => ∃ (a0 a1 a2 a3 : Option Addr) (n0 n1 n2 n3 c0 c1 c2 c3 : Nat) (m n : Int) (ev : Value), e = .returned (.tuple #[.agg #[.slice a0 n0 c0, .slice a1 n1 c1, .slice a2 n2 c2, .slice a3 n3 c3, .int .i64 m, .int .i64 n], .int .i64 C]) ∧ ActP 69 w.heap.size C (sendR r x.ph x.ps x.sd x.aa x.bb) w' a0 a1 a2 a3 n0 n1 n2 n3 c0 c1 c2 c3 m n ev ∧ Below w.heap.size w w' := by
  have hz := hI.sz
  have F := fr3 w [.slice aw r.ws.length cw, .slice at_ r.ts.length ct, .slice ah r.hs.length ch, .slice an r.ns.length cn, .int .i64 r.nw, .int .i64 r.nt] 30 [.string x.kd, .string x.sd, .int .i64 x.ph, .int .i64 x.ps, .int .i64 x.qh, .int .i64 x.qs, .int .i64 x.aa, .int .i64 x.bb, .int .i64 x.nn, .int .u64 x.kk, .slice x.xc x.lc x.cc] 37 [.slice none 0 0, .slice none 0 0, .slice none 0 0, .slice none 0 0, .int .i64 0, .int .i64 0] 30
  have u := F.u3
  go_enter Tryz.func20, Tryz.ntmps20
  go_wp2_with fail
  refine (rsent_any aw at_ ah an cw ct ch cn r x.ph x.ps x.sd x.aa x.bb _ (hr.below F.bl) hz hsd hW.rt hW.w3 C HC).mono ?_
  intro e w1 h
  obtain ⟨a0, a1, a2, a3, n0, n1, n2, n3, c0, c1, c2, c3, m, n, ev, rfl, hA, hb⟩ := outP_act h
  replace F := F.below hb
  replace u := F.u3
  have HA : Hid (ActP _ _ _ _ _ _ _ _ _ _ _ _ _ _ _ _ _ _ _ _) := hA
  clear h hb hA hI hW hz hr HC
  go_wp2_with fail
  refine bodyPost_ret (v := .tuple #[.agg #[.slice a0 n0 c0, .slice a1 n1 c1, .slice a2 n2 c2, .slice a3 n3 c3, .int .i64 m, .int .i64 n], .int .i64 C]) (by simp [results, Tryz.results20, go_sem, u]) rfl ?_
  exact ⟨a0, a1, a2, a3, n0, n1, n2, n3, c0, c1, c2, c3, m, n, ev, rfl, HA.out.set6 (by simp) (by omega) (by simp <;> omega) _ _ _ _ _ _, (F.set6 0 _ _ _ _ _ _).bl⟩
theorem outT_act {w w' : World} {e : Ending} {C : Int} {R : Rm} {N : Nt} {S : Int} (h : OutT w w' e C R N S) : ∃ (a0 a1 a2 a3 : Option Addr) (n0 n1 n2 n3 c0 c1 c2 c3 : Nat) (m n : Int) (ev : Value) (q : Nt) (sl : Int), e = .returned (.tuple #[.agg #[.slice a0 n0 c0, .slice a1 n1 c1, .slice a2 n2 c2, .slice a3 n3 c3, .int .i64 m, .int .i64 n], .agg #[.int .i64 q.port, .string q.data, .int .i64 q.badge, .int .i64 q.writ], .int .i64 sl, .int .i64 C]) ∧ ActP 69 w.heap.size C R w' a0 a1 a2 a3 n0 n1 n2 n3 c0 c1 c2 c3 m n ev ∧ (C = 0 ∧ q = N ∧ sl = S ∨ C ≠ 0 ∧ q = zeroN ∧ sl = 0) ∧ Below w.heap.size w w' := by
  rcases h with ⟨⟨hne, rfl⟩ | ⟨rfl, a0, a1, a2, a3, c0, c1, c2, c3, rfl, hm, k0, k1, k2, k3⟩, hb⟩
  · exact ⟨none, none, none, none, 0, 0, 0, 0, 0, 0, 0, 0, 0, 0, _, zeroN, 0, rfl, .inr ⟨hne, rfl, rfl, rfl, rfl, rfl, rfl, rfl, rfl, rfl, rfl, rfl, rfl, rfl, rfl, rfl⟩, .inr ⟨hne, rfl, rfl⟩, hb⟩
  · exact ⟨a0, a1, a2, a3, _, _, _, _, c0, c1, c2, c3, _, _, _, N, S, rfl, .inl ⟨rfl, rfl, rfl, rfl, rfl, rfl, rfl, rfl, hm, k0, k1, k2, k3⟩, .inl ⟨rfl, rfl, rfl⟩, hb⟩
set_option maxHeartbeats 4000000 in
set_option maxRecDepth 100000 in
theorem rdone_take (aw at_ ah an : Option Addr) (cw ct ch cn : Nat) (r : Rm) (x : Ac) (w : World) (hr : RmAt w aw at_ ah an cw ct ch cn r) (hI : RmI r) (hW : Whole r) (k0 : (x.kd.toList == [109, 97, 107, 101]) = false) (k1 : (x.kd.toList == [103, 105, 118, 101]) = false) (k2 : (x.kd.toList == [109, 111, 118, 101]) = false) (k3 : (x.kd.toList == [100, 114, 111, 112]) = false) (k4 : (x.kd.toList == [114, 101, 118, 111, 107, 101]) = false) (k5 : (x.kd.toList == [119, 114, 105, 116, 101]) = false) (k6 : (x.kd.toList == [115, 101, 110, 100]) = false) (k7 : (x.kd.toList == [116, 97, 107, 101]) = true) (C : Int) (HC : Hid (takeC r x.ph x.ps = C)) :
    Calls Tryz.prog 20 #[.agg #[.slice aw r.ws.length cw, .slice at_ r.ts.length ct, .slice ah r.hs.length ch, .slice an r.ns.length cn, .int .i64 r.nw, .int .i64 r.nt], .agg #[.string x.kd, .string x.sd, .int .i64 x.ph, .int .i64 x.ps, .int .i64 x.qh, .int .i64 x.qs, .int .i64 x.aa, .int .i64 x.bb, .int .i64 x.nn, .int .u64 x.kk, .slice x.xc x.lc x.cc]] w fun e w' => ∃ (a0 a1 a2 a3 : Option Addr) (n0 n1 n2 n3 c0 c1 c2 c3 : Nat) (m n : Int) (ev : Value), e = .returned (.tuple #[.agg #[.slice a0 n0 c0, .slice a1 n1 c1, .slice a2 n2 c2, .slice a3 n3 c3, .int .i64 m, .int .i64 n], .int .i64 C]) ∧ ActP 69 w.heap.size C (takeR r x.ph x.ps) w' a0 a1 a2 a3 n0 n1 n2 n3 c0 c1 c2 c3 m n ev ∧ Below w.heap.size w w' := by
  have hz := hI.sz
  have F := fr3 w [.slice aw r.ws.length cw, .slice at_ r.ts.length ct, .slice ah r.hs.length ch, .slice an r.ns.length cn, .int .i64 r.nw, .int .i64 r.nt] 30 [.string x.kd, .string x.sd, .int .i64 x.ph, .int .i64 x.ps, .int .i64 x.qh, .int .i64 x.qs, .int .i64 x.aa, .int .i64 x.bb, .int .i64 x.nn, .int .u64 x.kk, .slice x.xc x.lc x.cc] 37 [.slice none 0 0, .slice none 0 0, .slice none 0 0, .slice none 0 0, .int .i64 0, .int .i64 0] 30
  have u := F.u3
  go_enter Tryz.func20, Tryz.ntmps20
  go_wp2_with fail
  refine (rtaken_any aw at_ ah an cw ct ch cn r x.ph x.ps _ (hr.below F.bl) hz hW.gh hW.wt (hW.rt _ _) C HC).mono ?_
  intro e w1 h
  obtain ⟨a0, a1, a2, a3, n0, n1, n2, n3, c0, c1, c2, c3, m, n, ev, q, sl, rfl, hA, -, hb⟩ := outT_act h
  replace F := F.below hb
  replace u := F.u3
  have hlw : w.heap.size + 3 ≤ w1.heap.size := by have h1 := u.1.1; omega
  have hbs : w.heap.size ≤ w1.heap.size := by omega
  have HA : Hid (ActP _ _ _ _ _ _ _ _ _ _ _ _ _ _ _ _ _ _ _ _) := hA
  clear h hb hA hI hW hz hr HC
  go_wp2_with fail
  refine bodyPost_ret (v := .tuple #[.agg #[.slice a0 n0 c0, .slice a1 n1 c1, .slice a2 n2 c2, .slice a3 n3 c3, .int .i64 m, .int .i64 n], .int .i64 C]) (by simp [results, Tryz.results20, go_sem, u]) rfl ?_
  exact ⟨a0, a1, a2, a3, n0, n1, n2, n3, c0, c1, c2, c3, m, n, ev, rfl, ((HA.out.set6 (by simp) (by omega) (by simp <;> omega) _ _ _ _ _ _).below ((Below.refl _ _).alloc (Nat.le_refl _) _)).below ((Below.refl _ _).alloc (Nat.le_refl _) _), (((F.set6 0 _ _ _ _ _ _).by _).by _).bl⟩
set_option maxHeartbeats 4000000 in
set_option maxRecDepth 100000 in
theorem rdone_none (aw at_ ah an : Option Addr) (cw ct ch cn : Nat) (r : Rm) (x : Ac) (w : World) (k0 : (x.kd.toList == [109, 97, 107, 101]) = false) (k1 : (x.kd.toList == [103, 105, 118, 101]) = false) (k2 : (x.kd.toList == [109, 111, 118, 101]) = false) (k3 : (x.kd.toList == [100, 114, 111, 112]) = false) (k4 : (x.kd.toList == [114, 101, 118, 111, 107, 101]) = false) (k5 : (x.kd.toList == [119, 114, 105, 116, 101]) = false) (k6 : (x.kd.toList == [115, 101, 110, 100]) = false) (k7 : (x.kd.toList == [116, 97, 107, 101]) = false) :
    Calls Tryz.prog 20 #[.agg #[.slice aw r.ws.length cw, .slice at_ r.ts.length ct, .slice ah r.hs.length ch, .slice an r.ns.length cn, .int .i64 r.nw, .int .i64 r.nt], .agg #[.string x.kd, .string x.sd, .int .i64 x.ph, .int .i64 x.ps, .int .i64 x.qh, .int .i64 x.qs, .int .i64 x.aa, .int .i64 x.bb, .int .i64 x.nn, .int .u64 x.kk, .slice x.xc x.lc x.cc]] w fun e w' => e = .returned (.tuple #[.agg #[.slice aw r.ws.length cw, .slice at_ r.ts.length ct, .slice ah r.hs.length ch, .slice an r.ns.length cn, .int .i64 r.nw, .int .i64 r.nt], .int .i64 0]) ∧ Below w.heap.size w w' := by
  have F := fr3 w [.slice aw r.ws.length cw, .slice at_ r.ts.length ct, .slice ah r.hs.length ch, .slice an r.ns.length cn, .int .i64 r.nw, .int .i64 r.nt] 30 [.string x.kd, .string x.sd, .int .i64 x.ph, .int .i64 x.ps, .int .i64 x.qh, .int .i64 x.qs, .int .i64 x.aa, .int .i64 x.bb, .int .i64 x.nn, .int .u64 x.kk, .slice x.xc x.lc x.cc] 37 [.slice none 0 0, .slice none 0 0, .slice none 0 0, .slice none 0 0, .int .i64 0, .int .i64 0] 30
  have u := F.u3
  go_enter Tryz.func20, Tryz.ntmps20
  go_wp2_with fail
  refine bodyPost_ret (v := .tuple #[.agg #[.slice aw r.ws.length cw, .slice at_ r.ts.length ct, .slice ah r.hs.length ch, .slice an r.ns.length cn, .int .i64 r.nw, .int .i64 r.nt], .int .i64 0]) (by simp [results, Tryz.results20, go_sem]) rfl ?_
  exact ⟨rfl, (((Below.refl w.heap.size w).alloc (Nat.le_refl _) _).alloc (by simp) _).alloc (by simp <;> omega) _⟩
theorem rdone_any (aw at_ ah an : Option Addr) (cw ct ch cn : Nat) (r : Rm) (x : Ac) (w : World) (hr : RmAt w aw at_ ah an cw ct ch cn r) (hI : RmI r) (hW : Whole r) (hsd : x.sd.size ≤ maxLen) (C : Int) (HC : Hid (doC r x = C)) :
    Calls Tryz.prog 20 #[.agg #[.slice aw r.ws.length cw, .slice at_ r.ts.length ct, .slice ah r.hs.length ch, .slice an r.ns.length cn, .int .i64 r.nw, .int .i64 r.nt], .agg #[.string x.kd, .string x.sd, .int .i64 x.ph, .int .i64 x.ps, .int .i64 x.qh, .int .i64 x.qs, .int .i64 x.aa, .int .i64 x.bb, .int .i64 x.nn, .int .u64 x.kk, .slice x.xc x.lc x.cc]] w fun e w' => ∃ (a0 a1 a2 a3 : Option Addr) (n0 n1 n2 n3 c0 c1 c2 c3 : Nat) (m n : Int) (ev : Value), e = .returned (.tuple #[.agg #[.slice a0 n0 c0, .slice a1 n1 c1, .slice a2 n2 c2, .slice a3 n3 c3, .int .i64 m, .int .i64 n], .int .i64 C]) ∧ DoP aw at_ ah an cw ct ch cn r w.heap.size x w' a0 a1 a2 a3 n0 n1 n2 n3 c0 c1 c2 c3 m n ev ∧ Below w.heap.size w w' := by
  have fin : ∀ {R : Rm}, doR r x = R → (Calls Tryz.prog 20 #[.agg #[.slice aw r.ws.length cw, .slice at_ r.ts.length ct, .slice ah r.hs.length ch, .slice an r.ns.length cn, .int .i64 r.nw, .int .i64 r.nt], .agg #[.string x.kd, .string x.sd, .int .i64 x.ph, .int .i64 x.ps, .int .i64 x.qh, .int .i64 x.qs, .int .i64 x.aa, .int .i64 x.bb, .int .i64 x.nn, .int .u64 x.kk, .slice x.xc x.lc x.cc]] w fun e w' => ∃ (a0 a1 a2 a3 : Option Addr) (n0 n1 n2 n3 c0 c1 c2 c3 : Nat) (m n : Int) (ev : Value), e = .returned (.tuple #[.agg #[.slice a0 n0 c0, .slice a1 n1 c1, .slice a2 n2 c2, .slice a3 n3 c3, .int .i64 m, .int .i64 n], .int .i64 C]) ∧ ActP 69 w.heap.size C R w' a0 a1 a2 a3 n0 n1 n2 n3 c0 c1 c2 c3 m n ev ∧ Below w.heap.size w w') → Calls Tryz.prog 20 #[.agg #[.slice aw r.ws.length cw, .slice at_ r.ts.length ct, .slice ah r.hs.length ch, .slice an r.ns.length cn, .int .i64 r.nw, .int .i64 r.nt], .agg #[.string x.kd, .string x.sd, .int .i64 x.ph, .int .i64 x.ps, .int .i64 x.qh, .int .i64 x.qs, .int .i64 x.aa, .int .i64 x.bb, .int .i64 x.nn, .int .u64 x.kk, .slice x.xc x.lc x.cc]] w fun e w' => ∃ (a0 a1 a2 a3 : Option Addr) (n0 n1 n2 n3 c0 c1 c2 c3 : Nat) (m n : Int) (ev : Value), e = .returned (.tuple #[.agg #[.slice a0 n0 c0, .slice a1 n1 c1, .slice a2 n2 c2, .slice a3 n3 c3, .int .i64 m, .int .i64 n], .int .i64 C]) ∧ DoP aw at_ ah an cw ct ch cn r w.heap.size x w' a0 a1 a2 a3 n0 n1 n2 n3 c0 c1 c2 c3 m n ev ∧ Below w.heap.size w w' := by
    intro R h2 h
    refine h.mono ?_
    rintro e w1 ⟨a0, a1, a2, a3, n0, n1, n2, n3, c0, c1, c2, c3, m, n, ev, rfl, hA, hb⟩
    subst h2
    rw [← HC.out] at hA ⊢
    exact ⟨a0, a1, a2, a3, n0, n1, n2, n3, c0, c1, c2, c3, m, n, ev, rfl, .inl hA, hb⟩
  cases k0 : (x.kd.toList == [109, 97, 107, 101]) with
  | true => exact fin (by unfold doR; rw [if_pos k0]) (rdone_make aw at_ ah an cw ct ch cn r x w hr hI hW hsd k0 C (show _ = _ from by rw [← HC.out]; unfold doC; rw [if_pos k0]))
  | false =>
    cases k1 : (x.kd.toList == [103, 105, 118, 101]) with
    | true => exact fin (by unfold doR; rw [if_neg (by simp [k0])]; rw [if_pos k1]) (rdone_give aw at_ ah an cw ct ch cn r x w hr hI hW hsd k0 k1 C (show _ = _ from by rw [← HC.out]; unfold doC; rw [if_neg (by simp [k0])]; rw [if_pos k1]))
    | false =>
      cases k2 : (x.kd.toList == [109, 111, 118, 101]) with
      | true => exact fin (by unfold doR; rw [if_neg (by simp [k0])]; rw [if_neg (by simp [k1])]; rw [if_pos k2]) (rdone_move aw at_ ah an cw ct ch cn r x w hr hI hW hsd k0 k1 k2 C (show _ = _ from by rw [← HC.out]; unfold doC; rw [if_neg (by simp [k0])]; rw [if_neg (by simp [k1])]; rw [if_pos k2]))
      | false =>
        cases k3 : (x.kd.toList == [100, 114, 111, 112]) with
        | true => exact fin (by unfold doR; rw [if_neg (by simp [k0])]; rw [if_neg (by simp [k1])]; rw [if_neg (by simp [k2])]; rw [if_pos k3]) (rdone_drop aw at_ ah an cw ct ch cn r x w hr hI hW hsd k0 k1 k2 k3 C (show _ = _ from by rw [← HC.out]; unfold doC; rw [if_neg (by simp [k0])]; rw [if_neg (by simp [k1])]; rw [if_neg (by simp [k2])]; rw [if_pos k3]))
        | false =>
          cases k4 : (x.kd.toList == [114, 101, 118, 111, 107, 101]) with
          | true => exact fin (by unfold doR; rw [if_neg (by simp [k0])]; rw [if_neg (by simp [k1])]; rw [if_neg (by simp [k2])]; rw [if_neg (by simp [k3])]; rw [if_pos k4]) (rdone_revoke aw at_ ah an cw ct ch cn r x w hr hI hW hsd k0 k1 k2 k3 k4 C (show _ = _ from by rw [← HC.out]; unfold doC; rw [if_neg (by simp [k0])]; rw [if_neg (by simp [k1])]; rw [if_neg (by simp [k2])]; rw [if_neg (by simp [k3])]; rw [if_pos k4]))
          | false =>
            cases k5 : (x.kd.toList == [119, 114, 105, 116, 101]) with
            | true => exact fin (by unfold doR; rw [if_neg (by simp [k0])]; rw [if_neg (by simp [k1])]; rw [if_neg (by simp [k2])]; rw [if_neg (by simp [k3])]; rw [if_neg (by simp [k4])]; rw [if_pos k5]) (rdone_write aw at_ ah an cw ct ch cn r x w hr hI hW hsd k0 k1 k2 k3 k4 k5 C (show _ = _ from by rw [← HC.out]; unfold doC; rw [if_neg (by simp [k0])]; rw [if_neg (by simp [k1])]; rw [if_neg (by simp [k2])]; rw [if_neg (by simp [k3])]; rw [if_neg (by simp [k4])]; rw [if_pos k5]))
            | false =>
              cases k6 : (x.kd.toList == [115, 101, 110, 100]) with
              | true => exact fin (by unfold doR; rw [if_neg (by simp [k0])]; rw [if_neg (by simp [k1])]; rw [if_neg (by simp [k2])]; rw [if_neg (by simp [k3])]; rw [if_neg (by simp [k4])]; rw [if_neg (by simp [k5])]; rw [if_pos k6]) (rdone_send aw at_ ah an cw ct ch cn r x w hr hI hW hsd k0 k1 k2 k3 k4 k5 k6 C (show _ = _ from by rw [← HC.out]; unfold doC; rw [if_neg (by simp [k0])]; rw [if_neg (by simp [k1])]; rw [if_neg (by simp [k2])]; rw [if_neg (by simp [k3])]; rw [if_neg (by simp [k4])]; rw [if_neg (by simp [k5])]; rw [if_pos k6]))
              | false =>
                cases k7 : (x.kd.toList == [116, 97, 107, 101]) with
                | true => exact fin (by unfold doR; rw [if_neg (by simp [k0])]; rw [if_neg (by simp [k1])]; rw [if_neg (by simp [k2])]; rw [if_neg (by simp [k3])]; rw [if_neg (by simp [k4])]; rw [if_neg (by simp [k5])]; rw [if_neg (by simp [k6])]; rw [if_pos k7]) (rdone_take aw at_ ah an cw ct ch cn r x w hr hI hW k0 k1 k2 k3 k4 k5 k6 k7 C (show _ = _ from by rw [← HC.out]; unfold doC; rw [if_neg (by simp [k0])]; rw [if_neg (by simp [k1])]; rw [if_neg (by simp [k2])]; rw [if_neg (by simp [k3])]; rw [if_neg (by simp [k4])]; rw [if_neg (by simp [k5])]; rw [if_neg (by simp [k6])]; rw [if_pos k7]))
                | false =>
                  have e1 : doC r x = 0 := by unfold doC; rw [if_neg (by simp [k0])]; rw [if_neg (by simp [k1])]; rw [if_neg (by simp [k2])]; rw [if_neg (by simp [k3])]; rw [if_neg (by simp [k4])]; rw [if_neg (by simp [k5])]; rw [if_neg (by simp [k6])]; rw [if_neg (by simp [k7])]
                  have e2 : doR r x = r := by unfold doR; rw [if_neg (by simp [k0])]; rw [if_neg (by simp [k1])]; rw [if_neg (by simp [k2])]; rw [if_neg (by simp [k3])]; rw [if_neg (by simp [k4])]; rw [if_neg (by simp [k5])]; rw [if_neg (by simp [k6])]; rw [if_neg (by simp [k7])]
                  refine (rdone_none aw at_ ah an cw ct ch cn r x w k0 k1 k2 k3 k4 k5 k6 k7).mono ?_
                  rintro e w1 ⟨rfl, hb⟩
                  exact ⟨aw, at_, ah, an, _, _, _, _, cw, ct, ch, cn, _, _, .nilIface, by rw [← HC.out, e1], .inr ⟨e1, e2, rfl, rfl, rfl, rfl, rfl, rfl, rfl, rfl, rfl, rfl, rfl, rfl, rfl, rfl, rfl, hr.below hb⟩, hb⟩
set_option maxHeartbeats 4000000 in
set_option maxRecDepth 100000 in
theorem rnote_any (aw at_ ah an : Option Addr) (cw ct ch cn : Nat) (r : Rm) (h s : Int) (w : World) (hr : RmAt w aw at_ ah an cw ct ch cn r) (hI : RmI r) (hW : Whole r) (C : Int) (HC : Hid (takeC r h s = C)) :
    Calls Tryz.prog 14 #[.agg #[.slice aw r.ws.length cw, .slice at_ r.ts.length ct, .slice ah r.hs.length ch, .slice an r.ns.length cn, .int .i64 r.nw, .int .i64 r.nt], .agg #[.int .i64 h, .int .i64 s]] w fun e w' => ∃ (q : Nt) (sl : Int), e = .returned (.tuple #[.agg #[.int .i64 q.port, .string q.data, .int .i64 q.badge, .int .i64 q.writ], .int .i64 sl, .int .i64 C]) ∧ (C = 0 ∧ q = noteAt r h s ∧ sl = takeSlot r h s ∨ C ≠ 0 ∧ q = zeroN ∧ sl = 0) ∧ Below w.heap.size w w' := by
  have hz := hI.sz
  have F := fr3 w [.slice aw r.ws.length cw, .slice at_ r.ts.length ct, .slice ah r.hs.length ch, .slice an r.ns.length cn, .int .i64 r.nw, .int .i64 r.nt] 30 [.int .i64 h, .int .i64 s] 33 [.int .i64 0, .string ⟨#[]⟩, .int .i64 0, .int .i64 0] 52
  have u := F.u3
  go_enter Tryz.func14, Tryz.ntmps14
  go_wp2_with fail
  refine (rtaken_any aw at_ ah an cw ct ch cn r h s _ (hr.below F.bl) hz hW.gh hW.wt (hW.rt _ _) C HC).mono ?_
  intro e w1 h
  obtain ⟨a0, a1, a2, a3, n0, n1, n2, n3, c0, c1, c2, c3, m, n, ev, q, sl, rfl, hA, hq, hb⟩ := outT_act h
  replace F := F.below hb
  replace u := F.u3
  have HQ : Hid _ := hq
  clear h hb hA hI hW hz hr HC hq
  go_wp2_with fail
  refine bodyPost_ret (v := .tuple #[.agg #[.int .i64 q.port, .string q.data, .int .i64 q.badge, .int .i64 q.writ], .int .i64 sl, .int .i64 C]) (by simp [results, Tryz.results14, go_sem, u]) rfl ?_
  exact ⟨q, sl, rfl, HQ.out, (((F.set4 0 _ _ _ _).by _).by _).bl⟩
end Go.Proofs.YtddgpgldbekamaaGreat
