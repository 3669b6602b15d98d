/- TopLog, walked. -/
import Derived.Test.YtjhkabhhlpdpaaaDds
set_option linter.unusedVariables false
set_option linter.unusedSimpArgs false
set_option linter.unnecessarySimpa false
namespace Go.Proofs.Ytjhkabhhlpdpaaa
open Go.RowKit

theorem lg_zeros (first n : Nat) : lgOf first (List.replicate n zsec) = ⟨[], [], 0⟩ := by
  unfold lgOf
  cases n with
  | zero => rfl
  | succ n =>
    rw [List.replicate_succ]
    exact rd_none rfl (by unfold lstep; rw [secP_zero])
theorem new_secs (n frm many : Nat) (h : frm + many ≤ n) : ((newD n).now.drop frm).take many = List.replicate many zsec := by
  simp only [newD, List.drop_replicate, List.take_replicate]
  congr 1; omega
theorem ld_len {L : List (List Ch)} {m : Int} (h : ldB L m = true) : (L.length : Int) ≤ m := by
  unfold ldB at h; rw [Bool.and_eq_true] at h; exact of_decide_eq_true h.1
theorem ld_each {L : List (List Ch)} {m : Int} (h : ldB L m = true) : ∀ x ∈ L, x.length ≤ 14 := by
  unfold ldB at h
  rw [Bool.and_eq_true, List.all_eq_true] at h
  intro x hx
  have := h.2 x hx
  unfold lchB at this
  rw [Bool.and_eq_true] at this
  have := of_decide_eq_true this.1
  omega
/-- whatever of what was written is kept, these deeds are there, or those -/
def FF (d : Dk) (want last : List (List Ch)) : Prop := ∀ keep : Nat, (lgOf 5 (((landW keep d.kept d.wr 0).drop 1).take 59)).deeds = want ∨ (lgOf 5 (((landW keep d.kept d.wr 0).drop 1).take 59)).deeds = last
theorem FF.quiet {d : Dk} {l : List Ch} {want last : List (List Ch)} {u : Nat} (h : AddPre d ⟨1, 59, 5, u⟩ l want) : FF d want last := fun keep => by
  left
  rw [h.q.wr, h.q.kept]
  exact h.inv.read.1
def mxI (a b : Int) : Int := if b > a then b else a
def mnI (a b : Int) : Int := if b < a then b else a
theorem exec_maxI (ρ : Operand → Value) (o : Oper) (x y : Operand) {c : Call} (a b : Int) (w : World) (ho : o.op = .call c) (hc : c.callee = .builtin .max) (hca : c.args = #[x, y]) (hx : ρ x = .int .i64 a) (hy : ρ y = .int .i64 b) : (execOp ρ o).run Try.prog w = .ok (.value (.int .i64 (mxI a b))) w := by
  unfold execOp
  simp only [ho, resolve, hc, hca, List.map_toArray, List.map_cons, List.map_nil, hx, hy, Sem.run_bind, Sem.run_pure, Result.andThen_ok, invoke, builtin, run_max_int2, mxI]
theorem exec_minI (ρ : Operand → Value) (o : Oper) (x y : Operand) {c : Call} (a b : Int) (w : World) (ho : o.op = .call c) (hc : c.callee = .builtin .min) (hca : c.args = #[x, y]) (hx : ρ x = .int .i64 a) (hy : ρ y = .int .i64 b) : (execOp ρ o).run Try.prog w = .ok (.value (.int .i64 (mnI a b))) w := by
  unfold execOp
  simp only [ho, resolve, hc, hca, List.map_toArray, List.map_cons, List.map_nil, hx, hy, Sem.run_bind, Sem.run_pure, Result.andThen_ok, invoke, builtin, run_min_int2, mnI]
/-- a guarded operation, met as a whole -/
theorem wpList_runW {P : Program} {ops : Array Oper} {rest : List Oper} {o : Oper} {a : Act} {w w' : World} {Q : Exit → Act → World → Prop} {v : Value} (h : (execOp a.eval o).run P w = .ok (.value v) w') (hw : Region.wanted o (yielded ops a.tmps) = true) (hk : wpList P ops Q rest (a.put o.dst v) w') : wpList P ops Q (o :: rest) a w := by
  refine BigFrame.wpList_want hw fun K hK => ?_
  exact wp_run h (hK _ _ hk)
theorem add_wr {d : Dk} {u : Nat} {l x : List Ch} {want : List (List Ch)} (h : AddPre d ⟨1, 59, 5, u⟩ l want) : (addR d ⟨1, 59, 5, u⟩ x).1.wr.length ≤ 100000 := by
  have h0 : d.wr.length = 0 := by rw [h.q.wr]; rfl
  rcases add_cases d ⟨1, 59, 5, u⟩ x with ⟨-, e⟩ | ⟨-, e⟩ | ⟨-, e⟩ | ⟨h1, h2, h3, e⟩
  · rw [e]; dsimp only; omega
  · rw [e]; dsimp only; omega
  · rw [e]; dsimp only; omega
  · have w1 := lgW_wr d (1 + u) (List.replicate (addN ⟨1, 59, 5, u⟩ x) ⟨#[]⟩)
    rw [List.length_replicate] at w1
    have hA : addN ⟨1, 59, 5, u⟩ x ≤ 59 := by unfold addN; dsimp only; omega
    have w2 := lgW_wr (lgW d (1 + u) (List.replicate (addN ⟨1, 59, 5, u⟩ x) ⟨#[]⟩)).1 (1 + u) (deedS (5 + u) x)
    have hdl : (deedS (5 + u) x).length = x.length + 1 := by unfold deedS; rw [List.length_map, deedL_len]
    rw [e]
    dsimp only
    split
    · dsimp only; omega
    · split
      · dsimp only; omega
      · dsimp only; omega
theorem Un.l {B C : Nat → Prop} {k : Nat} (h : B k) : Un B C k := .inl h
set_option maxHeartbeats 8000000 in
set_option maxRecDepth 100000 in
theorem tlog_no (a : Option Addr) (L : List (List Ch)) (c : Nat) (fuse : Int) (keep : Nat) (w : World) (hin : DdsB (fun _ => False) w a L) (hm : L.length ≤ maxLen) (hs : ∀ x ∈ L, x.length ≤ maxLen) (hf0 : -9223372036854775808 ≤ fuse) (hf1 : fuse ≤ 9223372036854775807) (hkp : keep < 18446744073709551616) (hq : ldB L 8 = false) :
    Calls Try.prog 7 #[.slice a L.length c, .int .i64 fuse, .int .u64 (keep : Int)] w fun e w' => e = .returned (.bool true) ∧ Below w.heap.size w w' := by
  have hcon := new_o 60 w (by decide) (by decide)
  rw [show ((60 : Nat) : Int) = 60 from rfl] at hcon
  go_enter Try.func7, Try.ntmps7
  go_wp2_with fail
  refine hcon.mono ?_
  rintro e w1 ⟨p, B, rfl, hD, hB, hb1⟩
  clear hcon
  have hnl : (newD 60).now.length = 60 := by simp [newD]
  have hcon := lopen_any B p (newD 60) 1 59 5 w1 hD rfl (by decide) (by decide) (by rw [hnl]; decide) (by decide)
  rw [new_secs 60 1 59 (by decide), lg_zeros, show ((1 : Nat) : Int) = 1 from rfl, show ((59 : Nat) : Int) = 59 from rfl, show ((5 : Nat) : Int) = 5 from rfl] at hcon
  dsimp only at hcon
  rw [List.length_nil] at hcon
  go_wp2_with fail
  refine hcon.mono ?_
  rintro e w2 ⟨q, a2, c2, rfl, hL, -, hq, hb2⟩
  clear hcon
  have hnq : ¬ B q := fun e => by have := hD.lt q e; omega
  have hD2 := hD.below hb2
  have bl2 : Below w.heap.size w w2 := Below_after hb1 hb2
  have hbase : ∀ k, Un B (On q) k → w.heap.size ≤ k := fun k hk => by
    rcases hk with hk | hk
    · exact hB k hk
    · have := hb1.size; unfold On at hk; omega
  clear hD hB hb1 hb2 hq
  have hrm := room_any p q ⟨1, 59, 5, 0⟩ w2 hL (by decide) (by decide)
  have hrv : (((⟨1, 59, 5, 0⟩ : Lg).many : Int) - ((⟨1, 59, 5, 0⟩ : Lg).used : Int)) = 59 := rfl
  rw [hrv] at hrm
  clear hrv
  go_wp2_with fail
  refine hrm.mono ?_
  rintro e w3 ⟨rfl, hb3⟩
  clear hrm
  have hD3 := hD2.below hb3
  have hL3 := hL.below hb3
  have bl3 := Below_after bl2 hb3
  clear hD2 hL bl2 hb3
  have hld := light_any (fun _ => False) a c L 8 w3 (hin.outside bl3 (fun _ h => h.elim)) hm hs (by decide) (by decide)
  rw [hq] at hld
  go_wp2_with fail
  refine hld.mono ?_
  rintro e w4 ⟨rfl, rfl⟩
  go_wp2_with fail
  go_ret
  exact ⟨rfl, bl3⟩
set_option maxHeartbeats 8000000 in
set_option maxRecDepth 100000 in
theorem tlog_yes (a : Option Addr) (L : List (List Ch)) (c : Nat) (fuse : Int) (keep : Nat) (w : World) (hin : DdsB (fun _ => False) w a L) (hm : L.length ≤ maxLen) (hs : ∀ x ∈ L, x.length ≤ maxLen) (hf0 : -9223372036854775808 ≤ fuse) (hf1 : fuse ≤ 9223372036854775807) (hkp : keep < 18446744073709551616) (hq : ldB L 8 = true) :
    Calls Try.prog 7 #[.slice a L.length c, .int .i64 fuse, .int .u64 (keep : Int)] w fun e w' => e = .returned (.bool true) ∧ Below w.heap.size w w' := by
  have hL8 : L.length ≤ 8 := by have := ld_len hq; omega
  have hL14 := ld_each hq
  have hcon := new_o 60 w (by decide) (by decide)
  rw [show ((60 : Nat) : Int) = 60 from rfl] at hcon
  go_enter Try.func7, Try.ntmps7
  go_wp2_with fail
  refine hcon.mono ?_
  rintro e w1 ⟨p, B, rfl, hD, hB, hb1⟩
  clear hcon
  have hnl : (newD 60).now.length = 60 := by simp [newD]
  have hcon := lopen_any B p (newD 60) 1 59 5 w1 hD rfl (by decide) (by decide) (by rw [hnl]; decide) (by decide)
  rw [new_secs 60 1 59 (by decide), lg_zeros, show ((1 : Nat) : Int) = 1 from rfl, show ((59 : Nat) : Int) = 59 from rfl, show ((5 : Nat) : Int) = 5 from rfl] at hcon
  dsimp only at hcon
  rw [List.length_nil] at hcon
  go_wp2_with fail
  refine hcon.mono ?_
  rintro e w2 ⟨q, a2, c2, rfl, hL, -, hq, hb2⟩
  clear hcon
  have hnq : ¬ B q := fun e => by have := hD.lt q e; omega
  have hD2 := hD.below hb2
  have bl2 : Below w.heap.size w w2 := Below_after hb1 hb2
  have hbase : ∀ k, Un B (On q) k → w.heap.size ≤ k := fun k hk => by
    rcases hk with hk | hk
    · exact hB k hk
    · have := hb1.size; unfold On at hk; omega
  clear hD hB hb1 hb2 hq
  have hrm := room_any p q ⟨1, 59, 5, 0⟩ w2 hL (by decide) (by decide)
  have hrv : (((⟨1, 59, 5, 0⟩ : Lg).many : Int) - ((⟨1, 59, 5, 0⟩ : Lg).used : Int)) = 59 := rfl
  rw [hrv] at hrm
  clear hrv
  go_wp2_with fail
  refine hrm.mono ?_
  rintro e w3 ⟨rfl, hb3⟩
  clear hrm
  have hD3 := hD2.below hb3
  have hL3 := hL.below hb3
  have bl3 := Below_after bl2 hb3
  clear hD2 hL bl2 hb3
  have hld := light_any (fun _ => False) a c L 8 w3 (hin.outside bl3 (fun _ h => h.elim)) hm hs (by decide) (by decide)
  rw [hq] at hld
  clear hq
  have hf2 : -9223372036854775808 ≤ mnI (mxI fuse (-1)) 200 ∧ mnI (mxI fuse (-1)) 200 ≤ 9223372036854775807 := by unfold mnI mxI; omega
  go_wp2_with fail
  refine hld.mono ?_
  rintro e w4 ⟨rfl, rfl⟩
  clear hld
  have harm := arm_o B p (newD 60) (mnI (mxI fuse (-1)) 200) w4 hD3 hf2.1 hf2.2
  have hpre0 : AddPre (armR (newD 60) (mnI (mxI fuse (-1)) 200)) ⟨1, 59, 5, 0⟩ [] [] := by
    refine ⟨⟨rfl, rfl, rfl⟩, by show 1 + 59 ≤ (newD 60).now.length; rw [hnl]; decide, by decide, ?_⟩
    have := LogInv.of 5 (List.replicate 59 zsec)
    rw [lg_zeros] at this
    show LogInv 5 (((newD 60).now.drop 1).take 59) [] 0
    rw [new_secs 60 1 59 (by decide)]
    exact this
  have hd0 : (armR (newD 60) (mnI (mxI fuse (-1)) 200)).now.length = 60 := hnl
  generalize hfz : armR (newD 60) (mnI (mxI fuse (-1)) 200) = d0 at *
  clear hfz
  go_wp2_with (first | (refine wpList_run (by rfl) (exec_maxI _ _ _ _ fuse (-1) _ (by rfl) (by rfl) (by rfl) (by rfl) (by rfl)) ?_) | (refine wpList_run (by rfl) (exec_minI _ _ _ _ (mxI fuse (-1)) 200 _ (by rfl) (by rfl) (by rfl) (by rfl) (by rfl)) ?_))
  refine harm.mono ?_
  rintro e w5 ⟨B5, rfl, hD5, hT5⟩
  clear harm hD3
  obtain ⟨hL5, hnq5⟩ := hL3.tr hT5 hnq
  have bl5 : Below w.heap.size w w5 := bl3.trans (hT5.to_below (fun k hk => hbase k (.inl hk)) bl3.size)
  have hbase5 : ∀ k, Un B5 (On q) k → w.heap.size ≤ k := (hT5.frame (On q)).base hbase bl3.size
  clear hT5 hL3 hnq bl3 hbase
  go_wp2_with fail
  go_loopw [13, 11, 12, 14] (fun i xw xl _ wr => ∃ (k : Nat) (B : Nat → Prop) (d : Dk) (u : Nat) (aw al : Option Addr) (cw cl : Nat) (want last : List (List Ch)), k ≤ L.length ∧ i = .int .i64 k ∧ xw = .slice aw want.length cw ∧ xl = .slice al last.length cl ∧ DkO wr B p d ∧ LgAt wr q p ⟨1, 59, 5, u⟩ ∧ ¬ B q ∧ (∀ k, Un B (On q) k → w.heap.size ≤ k) ∧ Below w.heap.size w wr ∧ DdsB (Un B (On q)) wr aw want ∧ DdsB (Un B (On q)) wr al last ∧ AddPre d ⟨1, 59, 5, u⟩ [] want ∧ d.now.length = 60 ∧ (want.length ≤ k ∧ ∀ x ∈ want, x.length ≤ 14) ∧ (last.length ≤ k ∧ ∀ x ∈ last, x.length ≤ 14)) (fun i _ _ _ _ => L.length - (intOf i).toNat)
  case atStart => exact ⟨0, B5, d0, 0, none, none, 0, 0, [], [], Nat.zero_le _, rfl, rfl, rfl, hD5, hL5, hnq5, hbase5, bl5, .inl rfl, .inl rfl, hpre0, hd0, ⟨Nat.le_refl _, (fun x hx => nomatch hx)⟩, ⟨Nat.le_refl _, (fun x hx => nomatch hx)⟩⟩
  case round =>
    clear hD5 hL5 hnq5 hbase5 bl5 hpre0 hd0
    obtain ⟨k, B, d, u, aw, al, cw, cl, want, last, hk, rfl, rfl, rfl, hD, hLr, hnq, hbase, hbl, hw, hl, hpre, hd60, hwl, hll⟩ := hrel
    by_cases hlt : k < L.length
    rotate_left
    · have dlt : decide ((k : Int) < (L.length : Int)) = false := decide_eq_false (by omega)
      have hF : FF d want last := FF.quiet hpre
      have hwr0 : d.wr.length = 0 := by rw [hpre.q.wr]; rfl
      clear hpre hLr
      replace hwl : want.length ≤ 9 ∧ ∀ x ∈ want, x.length ≤ 14 := ⟨by omega, hwl.2⟩
      replace hll : last.length ≤ 9 ∧ ∀ x ∈ last, x.length ≤ 14 := ⟨by omega, hll.2⟩
      have hrs := restart_o B p d keep wr hD (by omega) hkp
      go_wp2_with fail
      refine hrs.mono ?_
      rintro e wa ⟨Ba, rfl, hDa, hTa⟩
      clear hrs
      have hFF := hF keep
      have hnow : (reR d keep).now = landW keep d.kept d.wr 0 := rfl
      rw [← hnow] at hFF
      have hdl : (reR d keep).now.length = 60 := by rw [hnow, land_len, hD.ok.len]; exact hd60
      have hQ : QD (reR d keep) := ⟨rfl, rfl, rfl⟩
      have hlf : (reR d keep).left < 0 := by show (-1 : Int) < 0; decide
      have hwa := hw.tr (hTa.frame (On q))
      have hla := hl.tr (hTa.frame (On q))
      have hbT : Below w.heap.size wr wa := hTa.to_below (fun k hk => hbase k (.inl hk)) hbl.size
      have hbla : Below w.heap.size w wa := hbl.trans hbT
      have hba : ∀ k, Ba k → w.heap.size ≤ k := hTa.base (fun k hk => hbase k (.inl hk)) hbl.size
      clear hTa hD hF hnow hw hl hbT hbl hbase
      generalize reR d keep = d1 at *
      have hop := lopen_any Ba p d1 1 59 5 wa hDa hQ.down (by decide) (by decide) (by omega) (by decide)
      rw [show ((1 : Nat) : Int) = 1 from rfl, show ((59 : Nat) : Int) = 59 from rfl, show ((5 : Nat) : Int) = 5 from rfl] at hop
      have hInv := LogInv.of 5 ((d1.now.drop 1).take 59)
      generalize hR : lgOf 5 ((d1.now.drop 1).take 59) = R at *
      clear hR
      go_wp2_with fail
      refine hop.mono ?_
      rintro e wb ⟨q2, ag, cg, rfl, hLb, hgot, hq2, hbb⟩
      clear hop
      have hDb := hDa.below hbb
      have hltB := hDa.lt
      have hwb := hwa.below hbb
      have hlb := hla.below hbb
      have blb := Below_after hbla hbb
      have hub : R.used ≤ 59 := by have := hInv.le; rw [sec_len (by omega)] at this; exact this
      have hbase2 : ∀ k, Un Ba (On q2) k → w.heap.size ≤ k := fun k hk => by
        rcases hk with hk | hk
        · exact hba k hk
        · have := hbla.size; unfold On at hk; omega
      have hgot2 : DdsB (Un Ba (On q2)) wb ag R.deeds := hgot.mono (fun k _ hk => by
        rcases hk with hk | hk
        · have := hltB k hk; omega
        · unfold On at hk; omega)
      have hnq2 : ¬ Ba q2 := fun e => by have := hltB q2 e; omega
      have hgb : R.deeds.length ≤ 9 ∧ ∀ x ∈ R.deeds, x.length ≤ 14 := by
        rcases hFF with h | h <;> rw [h]
        · exact hwl
        · exact hll
      have hbig : ∀ (z : List (List Ch)), (∀ x ∈ z, x.length ≤ 14) → ∀ x ∈ z, x.length ≤ maxLen := fun z h x hx => by have := h x hx; simp [maxLen]; omega
      have hs1 := samedd_any _ _ ag aw cg cw R.deeds want wb hgot2 hwb (by omega) (by omega) (hbig _ hgb.2) (hbig _ hwl.2)
      clear hgot hwa hla hDa hba hbla hbb hltB hq2
      have hrest : ∀ (W : World), Below wb.heap.size wb W → DkO W Ba p d1 ∧ LgAt W q2 p ⟨1, 59, 5, R.used⟩ ∧ DdsB (Un Ba (On q2)) W ag R.deeds ∧ Below w.heap.size w W := fun W hW => ⟨hDb.below hW, hLb.below hW, hgot2.below hW, Below_after blb hW⟩
      go_wp2_with fail
      refine hs1.mono ?_
      rintro e wc ⟨⟨r1, rfl, hr1⟩, hbc⟩
      clear hs1
      have hlc := hlb.below hbc
      have hs2 := samedd_any _ _ ag al cg cl R.deeds last wc (hgot2.below hbc) hlc (by omega) (by omega) (hbig _ hgb.2) (hbig _ hll.2)
      clear hwb hlb hgot2 hDb hLb blb hbig
      cases r1
      · have HGL : Hid (R.deeds = last) := by
          show _ = _
          rcases hFF with h | h
          · exact absurd (hr1.2 h) (by decide)
          · exact h
        clear hFF hr1
        go_wp2_with fail
        refine hs2.mono ?_
        rintro e wd ⟨⟨r2, rfl, hr2⟩, hbd⟩
        clear hs2
        obtain rfl : r2 = true := hr2.2 HGL.out
        clear HGL hr2 hlc
        have hk := hrest wd (Below_after hbc hbd)
        clear hrest hbc hbd
        obtain ⟨hDd, hLd, hgd, bld⟩ := hk
        have hch : chksC [⟨⟨#[122]⟩, ⟨#[122]⟩, false⟩] = 0 := by decide
        have ble := bld.alloc bld.size (.cells #[.string ⟨#[122]⟩, .string ⟨#[122]⟩, .bool false] 56)
        have hba1 := (Below.refl wd.heap.size wd).alloc (Nat.le_refl _) (.cells #[.string ⟨#[122]⟩, .string ⟨#[122]⟩, .bool false] 56)
        have hox : ChsB (Un Ba (On q2)) (wd.alloc (.cells #[.string ⟨#[122]⟩, .string ⟨#[122]⟩, .bool false] 56)) (some ⟨wd.heap.size, 0, none⟩) [⟨⟨#[122]⟩, ⟨#[122]⟩, false⟩] := by
          refine .inr ⟨wd.heap.size, 0, rfl, by simp, fun e => ?_, fun j x hx => ?_⟩
          · rcases e with e | e
            · have := hDd.lt _ e; omega
            · have := heap_lt hLd; unfold On at e; omega
          · have hB := (Bx.new wd [.string ⟨#[122]⟩, .string ⟨#[122]⟩, .bool false] 56).2
            match j, hx with
            | 0, hx => simp at hx; subst hx; exact ⟨⟨(hB 0 _ rfl).1, (hB 1 _ rfl).1, (hB 2 _ rfl).1⟩, by decide, by decide⟩
        have hDe := hDd.below hba1
        have hLe := hLd.below hba1
        have hge := hgd.below hba1
        clear hDd hLd hgd bld hba1
        have hrm := room_any p q2 ⟨1, 59, 5, R.used⟩ _ hLe (by show 59 ≤ 100000; decide) (by show R.used ≤ 100000; omega)
        dsimp only at hrm
        rw [show ((59 : Nat) : Int) = 59 from rfl] at hrm
        go_wp2_with fail
        generalize hwe : wd.alloc (.cells #[.string ⟨#[122]⟩, .string ⟨#[122]⟩, .bool false] 56) = we at *
        clear hwe
        refine hrm.mono ?_
        rintro e wf ⟨rfl, hbf⟩
        clear hrm
        have hDf := hDe.below hbf
        have hLf := hLe.below hbf
        have hgf := hge.below hbf
        have hof := hox.below hbf
        have blf := Below_after ble hbf
        clear hDe hLe hge hox ble hbf
        by_cases hroom : (59 : Int) - (R.used : Int) < 2
        · go_wp2_with fail
          go_ret
          exact ⟨rfl, blf⟩
        have hpre : AddPre d1 ⟨1, 59, 5, R.used⟩ [⟨⟨#[122]⟩, ⟨#[122]⟩, false⟩] R.deeds := ⟨hQ, by show 1 + 59 ≤ _; omega, hub, hInv⟩
        have hadd := ladd_any Ba p q2 d1 ⟨1, 59, 5, R.used⟩ (some ⟨wd.heap.size, 0, none⟩) 1 [⟨⟨#[122]⟩, ⟨#[122]⟩, false⟩] wf hDf hLf hnq2 (hof.mono (fun k _ hk => .inl hk)) (by simp [maxLen]) hub (by show 59 ≤ 1000; decide) (by show 1 ≤ 1000; decide) (by show 5 ≤ 1000000000000; decide) (by rw [hQ.wr]; simp)
        rcases add_spec hpre with ⟨ac, ap, ae, al1, al2, -⟩ | ⟨ac, aneg, -⟩ | ⟨-, -, -, -, hbad⟩
        rotate_left
        · exact absurd aneg (by omega)
        · exfalso
          rcases hbad with h | h | h
          · simp at h
          · simp at h; omega
          · exact h hch
        rw [ac, errV_zero, ae] at hadd
        rw [ae] at ap
        dsimp only at hadd ap
        have hInv2 := ap.inv
        have hQ2 := ap.q
        generalize (addR d1 ⟨1, 59, 5, R.used⟩ [⟨⟨#[122]⟩, ⟨#[122]⟩, false⟩]).1 = d2 at *
        clear ac ap ae hpre hch hQ
        rw [List.length_singleton] at hadd
        go_wp2_with fail
        refine hadd.mono ?_
        rintro e wg ⟨rfl, Bg, hDg, hLg, hnqg, hTg⟩
        clear hadd
        have hgg := hgf.tr hTg
        have hog := hof.tr hTg
        have blg : Below w.heap.size w wg := blf.trans (hTg.to_below hbase2 blf.size)
        have hltg : Lt (Un Bg (On q2)) wg := fun k hk => by
          rcases hk with hk | hk
          · exact hDg.lt k hk
          · have := heap_lt hLg; unfold On at hk; omega
        clear hTg hDf hLf hgf hof blf hLg
        have hop := lopen_any Bg p d2 1 59 5 wg hDg hQ2.down (by decide) (by decide) (by omega) (by decide)
        rw [show ((1 : Nat) : Int) = 1 from rfl, show ((59 : Nat) : Int) = 59 from rfl, show ((5 : Nat) : Int) = 5 from rfl] at hop
        have hR2 : (lgOf 5 ((d2.now.drop 1).take 59)).deeds = R.deeds ++ [[⟨⟨#[122]⟩, ⟨#[122]⟩, false⟩]] := hInv2.read.1
        rw [hR2] at hop
        clear hR2 hInv2
        go_wp2_with fail
        refine hop.mono ?_
        rintro e wh ⟨q3, ah, ch, rfl, -, hgh, -, hbh⟩
        clear hop
        have hgi := hgg.below hbh
        have hoi := hog.below hbh
        have blh := Below_after blg hbh
        have hlth : Lt (Un Bg (On q2)) wh := fun k hk => Nat.lt_of_lt_of_le (hltg k hk) hbh.size
        clear hgg hog blg hbh hltg
        obtain ⟨vx, wx, csx, x1, x2, x3, x4, x5⟩ := run_cpy ag cg hgi (by omega) 71
        have hgx := heap_alloc_last wx (.cells #[.slice (some ⟨wd.heap.size, 0, none⟩) 1 1] 38)
        have blx := (x4.alloc x4.size (.cells #[.slice (some ⟨wd.heap.size, 0, none⟩) 1 1] 38))
        obtain ⟨ay, cy, wy, y1, y2, y3⟩ := run_both (x := [⟨⟨#[122]⟩, ⟨#[122]⟩, false⟩]) (x2.alloc _) (x3.tr (Tr.alloc _ _ _)) blx x5 (by omega) hlth wx.heap.size (some ⟨wd.heap.size, 0, none⟩) 1 hgx hoi 71
        have hbig2 : ∀ x ∈ R.deeds ++ [[⟨⟨#[122]⟩, ⟨#[122]⟩, false⟩]], x.length ≤ maxLen := fun x hx => by
          rcases List.mem_append.1 hx with hx | hx
          · have := hgb.2 x hx; simp [maxLen]; omega
          · simp at hx; rw [hx]; simp [maxLen]
        have hs3 := samedd_any _ _ ah ay ch cy _ _ wy (hgh.below y3) y2 (by simp; omega) (by simp; omega) hbig2 hbig2
        obtain ⟨avx, cvx, hvx⟩ := own_form x2
        subst hvx
        simp only [List.length_append, List.length_cons, List.length_nil, Nat.zero_add] at hs3 y1
        clear hgh y2 x2 x3 x5 hgi hoi hgx hbig2
        go_wp2_with (first | (refine wpList_runW (exec_append _ _ (.const (.slice none 0 0)) (.tmp 131) (by rfl) (by rfl) (by rfl) (by rfl) (by rfl) (by rfl) x1) (by kernel_rfl) ?_) | (refine wpList_runW (exec_append _ _ (.tmp 132) (.tmp 134) (by rfl) (by rfl) (by rfl) (by rfl) (by rfl) (by rfl) y1) (by kernel_rfl) ?_))
        refine hs3.mono ?_
        rintro e wz ⟨⟨r3, rfl, hr3⟩, hbz⟩
        obtain rfl : r3 = true := by simpa using hr3
        go_wp2_with fail
        go_ret
        exact ⟨rfl, Below_after (Below_after blh y3) hbz⟩
      · clear hs2 hFF hr1 hlc
        have hk := hrest wc hbc
        clear hrest hbc
        generalize wc = wd at *
        obtain ⟨hDd, hLd, hgd, bld⟩ := hk
        have hch : chksC [⟨⟨#[122]⟩, ⟨#[122]⟩, false⟩] = 0 := by decide
        have ble := bld.alloc bld.size (.cells #[.string ⟨#[122]⟩, .string ⟨#[122]⟩, .bool false] 56)
        have hba1 := (Below.refl wd.heap.size wd).alloc (Nat.le_refl _) (.cells #[.string ⟨#[122]⟩, .string ⟨#[122]⟩, .bool false] 56)
        have hox : ChsB (Un Ba (On q2)) (wd.alloc (.cells #[.string ⟨#[122]⟩, .string ⟨#[122]⟩, .bool false] 56)) (some ⟨wd.heap.size, 0, none⟩) [⟨⟨#[122]⟩, ⟨#[122]⟩, false⟩] := by
          refine .inr ⟨wd.heap.size, 0, rfl, by simp, fun e => ?_, fun j x hx => ?_⟩
          · rcases e with e | e
            · have := hDd.lt _ e; omega
            · have := heap_lt hLd; unfold On at e; omega
          · have hB := (Bx.new wd [.string ⟨#[122]⟩, .string ⟨#[122]⟩, .bool false] 56).2
            match j, hx with
            | 0, hx => simp at hx; subst hx; exact ⟨⟨(hB 0 _ rfl).1, (hB 1 _ rfl).1, (hB 2 _ rfl).1⟩, by decide, by decide⟩
        have hDe := hDd.below hba1
        have hLe := hLd.below hba1
        have hge := hgd.below hba1
        clear hDd hLd hgd bld hba1
        have hrm := room_any p q2 ⟨1, 59, 5, R.used⟩ _ hLe (by show 59 ≤ 100000; decide) (by show R.used ≤ 100000; omega)
        dsimp only at hrm
        rw [show ((59 : Nat) : Int) = 59 from rfl] at hrm
        go_wp2_with fail
        generalize hwe : wd.alloc (.cells #[.string ⟨#[122]⟩, .string ⟨#[122]⟩, .bool false] 56) = we at *
        clear hwe
        refine hrm.mono ?_
        rintro e wf ⟨rfl, hbf⟩
        clear hrm
        have hDf := hDe.below hbf
        have hLf := hLe.below hbf
        have hgf := hge.below hbf
        have hof := hox.below hbf
        have blf := Below_after ble hbf
        clear hDe hLe hge hox ble hbf
        by_cases hroom : (59 : Int) - (R.used : Int) < 2
        · go_wp2_with fail
          go_ret
          exact ⟨rfl, blf⟩
        have hpre : AddPre d1 ⟨1, 59, 5, R.used⟩ [⟨⟨#[122]⟩, ⟨#[122]⟩, false⟩] R.deeds := ⟨hQ, by show 1 + 59 ≤ _; omega, hub, hInv⟩
        have hadd := ladd_any Ba p q2 d1 ⟨1, 59, 5, R.used⟩ (some ⟨wd.heap.size, 0, none⟩) 1 [⟨⟨#[122]⟩, ⟨#[122]⟩, false⟩] wf hDf hLf hnq2 (hof.mono (fun k _ hk => .inl hk)) (by simp [maxLen]) hub (by show 59 ≤ 1000; decide) (by show 1 ≤ 1000; decide) (by show 5 ≤ 1000000000000; decide) (by rw [hQ.wr]; simp)
        rcases add_spec hpre with ⟨ac, ap, ae, al1, al2, -⟩ | ⟨ac, aneg, -⟩ | ⟨-, -, -, -, hbad⟩
        rotate_left
        · exact absurd aneg (by omega)
        · exfalso
          rcases hbad with h | h | h
          · simp at h
          · simp at h; omega
          · exact h hch
        rw [ac, errV_zero, ae] at hadd
        rw [ae] at ap
        dsimp only at hadd ap
        have hInv2 := ap.inv
        have hQ2 := ap.q
        generalize (addR d1 ⟨1, 59, 5, R.used⟩ [⟨⟨#[122]⟩, ⟨#[122]⟩, false⟩]).1 = d2 at *
        clear ac ap ae hpre hch hQ
        rw [List.length_singleton] at hadd
        go_wp2_with fail
        refine hadd.mono ?_
        rintro e wg ⟨rfl, Bg, hDg, hLg, hnqg, hTg⟩
        clear hadd
        have hgg := hgf.tr hTg
        have hog := hof.tr hTg
        have blg : Below w.heap.size w wg := blf.trans (hTg.to_below hbase2 blf.size)
        have hltg : Lt (Un Bg (On q2)) wg := fun k hk => by
          rcases hk with hk | hk
          · exact hDg.lt k hk
          · have := heap_lt hLg; unfold On at hk; omega
        clear hTg hDf hLf hgf hof blf hLg
        have hop := lopen_any Bg p d2 1 59 5 wg hDg hQ2.down (by decide) (by decide) (by omega) (by decide)
        rw [show ((1 : Nat) : Int) = 1 from rfl, show ((59 : Nat) : Int) = 59 from rfl, show ((5 : Nat) : Int) = 5 from rfl] at hop
        have hR2 : (lgOf 5 ((d2.now.drop 1).take 59)).deeds = R.deeds ++ [[⟨⟨#[122]⟩, ⟨#[122]⟩, false⟩]] := hInv2.read.1
        rw [hR2] at hop
        clear hR2 hInv2
        go_wp2_with fail
        refine hop.mono ?_
        rintro e wh ⟨q3, ah, ch, rfl, -, hgh, -, hbh⟩
        clear hop
        have hgi := hgg.below hbh
        have hoi := hog.below hbh
        have blh := Below_after blg hbh
        have hlth : Lt (Un Bg (On q2)) wh := fun k hk => Nat.lt_of_lt_of_le (hltg k hk) hbh.size
        clear hgg hog blg hbh hltg
        obtain ⟨vx, wx, csx, x1, x2, x3, x4, x5⟩ := run_cpy ag cg hgi (by omega) 71
        have hgx := heap_alloc_last wx (.cells #[.slice (some ⟨wd.heap.size, 0, none⟩) 1 1] 38)
        have blx := (x4.alloc x4.size (.cells #[.slice (some ⟨wd.heap.size, 0, none⟩) 1 1] 38))
        obtain ⟨ay, cy, wy, y1, y2, y3⟩ := run_both (x := [⟨⟨#[122]⟩, ⟨#[122]⟩, false⟩]) (x2.alloc _) (x3.tr (Tr.alloc _ _ _)) blx x5 (by omega) hlth wx.heap.size (some ⟨wd.heap.size, 0, none⟩) 1 hgx hoi 71
        have hbig2 : ∀ x ∈ R.deeds ++ [[⟨⟨#[122]⟩, ⟨#[122]⟩, false⟩]], x.length ≤ maxLen := fun x hx => by
          rcases List.mem_append.1 hx with hx | hx
          · have := hgb.2 x hx; simp [maxLen]; omega
          · simp at hx; rw [hx]; simp [maxLen]
        have hs3 := samedd_any _ _ ah ay ch cy _ _ wy (hgh.below y3) y2 (by simp; omega) (by simp; omega) hbig2 hbig2
        obtain ⟨avx, cvx, hvx⟩ := own_form x2
        subst hvx
        simp only [List.length_append, List.length_cons, List.length_nil, Nat.zero_add] at hs3 y1
        clear hgh y2 x2 x3 x5 hgi hoi hgx hbig2
        go_wp2_with (first | (refine wpList_runW (exec_append _ _ (.const (.slice none 0 0)) (.tmp 131) (by rfl) (by rfl) (by rfl) (by rfl) (by rfl) (by rfl) x1) (by kernel_rfl) ?_) | (refine wpList_runW (exec_append _ _ (.tmp 132) (.tmp 134) (by rfl) (by rfl) (by rfl) (by rfl) (by rfl) (by rfl) y1) (by kernel_rfl) ?_))
        refine hs3.mono ?_
        rintro e wz ⟨⟨r3, rfl, hr3⟩, hbz⟩
        obtain rfl : r3 = true := by simpa using hr3
        go_wp2_with fail
        go_ret
        exact ⟨rfl, Below_after (Below_after blh y3) hbz⟩
    · obtain ⟨x, hx⟩ : ∃ x, L[k]? = some x := ⟨L[k], List.getElem?_eq_getElem hlt⟩
      have hx14 := hL14 x (List.mem_of_getElem? hx)
      have dlt : decide ((k : Int) < (L.length : Int)) = true := decide_eq_true (by omega)
      have hinr := hin.outside hbl hbase
      obtain ⟨b, o, rfl, hb, hnb, hcc⟩ := hinr.resolve_left (by rintro e; rw [e] at hlt; simp at hlt)
      obtain ⟨ax, cx, p1, hxc⟩ := hcc k x hx
      have hpx : AddPre d ⟨1, 59, 5, u⟩ x want := ⟨hpre.q, hpre.fit, hpre.used, hpre.inv⟩
      have hup : u ≤ 59 := hpre.used
      have hadd := ladd_any B p q d ⟨1, 59, 5, u⟩ ax cx x wr hD hLr hnq (hxc.mono (fun k _ hk => .inl hk)) (by simp [maxLen]; omega) hup (by show 59 ≤ 1000; decide) (by show 1 ≤ 1000; decide) (by show 5 ≤ 1000000000000; decide) (by rw [hpre.q.wr]; simp)
      have hsp := add_spec hpx
      clear hcc hx hpx hl
      obtain ⟨cc, hcc⟩ : ∃ cc, (addR d ⟨1, 59, 5, u⟩ x).2.2 = cc := ⟨_, rfl⟩
      rw [hcc] at hadd hsp
      clear hcc
      obtain ⟨ev, hev⟩ : ∃ ev, errV cc = ev := ⟨_, rfl⟩
      rw [hev] at hadd
      have HEV : Hid (errV cc = ev) := hev
      clear hev
      have HSP : Hid _ := hsp
      clear hsp
      have HPRE : Hid (AddPre d ⟨1, 59, 5, u⟩ [] want) := hpre
      clear hpre
      go_wp2_with fail
      refine hadd.mono ?_
      rintro e w1 ⟨rfl, B1, hD1, hL1, hnq1, hT1⟩
      clear hadd
      have hlt1 : Lt (Un B1 (On q)) w1 := fun k hk => by
        rcases hk with hk | hk
        · exact hD1.lt k hk
        · have := heap_lt hL1; unfold On at hk; omega
      have hw1 := hw.tr hT1
      have hx1 := hxc.tr hT1
      have hbl1 : Below w.heap.size w w1 := hbl.trans (hT1.to_below hbase hbl.size)
      have hbase1 : ∀ k, Un B1 (On q) k → w.heap.size ≤ k := hT1.base hbase hbl.size
      have p2 : w1.drew.cell? ⟨b, o + k, none⟩ = some (.slice ax x.length cx) := by
        show w1.cell? _ = _
        rw [hT1.cell hb hnb]; exact p1
      have hb1 : b < w1.drew.heap.size := (hT1.out hb hnb).1
      have hbd : Below w1.heap.size w1 w1.drew := below_drewN (Below.refl _ _) 1
      have hD2 := hD1.below hbd
      have hL2 := hL1.below hbd
      have hw2 := hw1.below hbd
      have hx2 := hx1.below hbd
      have hbl2 := Below_after hbl1 hbd
      have hlt2 : Lt (Un B1 (On q)) w1.drew := fun k hk => hlt1 k hk
      clear hT1 hD hLr hnq hbase hbl hw hxc hD1 hL1 hw1 hx1 hbl1 hlt1 p1 hnb hinr hb hbd
      go_wp2_with fail
      refine wp_region_held_drew (S := fun w' => w'.cell? ⟨b, o + k, none⟩ = some (.slice ax x.length cx)) (by kernel_rfl) p2 (fun hHeld => ?_)
      generalize w1.drew = w2 at *
      refine wpAnyH_take (i := 0) (oi := ({ dst := some 72, op := Op.move (Operand.tmp 11), type := 71, pos := "parts.go:746", after := #[], guard := none } : Oper)) (v := .slice aw want.length cw) rfl (by kernel_rfl) (by kernel_rfl) (by kernel_rfl) (fun _ _ _ h => h) (Or.inl ⟨by rfl, ?_⟩) (by assumption) ?_
      · intro w hSw; (try dsimp only at hSw); go_simp
      (try simp only [Act.put, List.setIfInBounds_toArray, List.set_cons_zero, List.set_cons_succ])
      refine wpAnyH_take (i := 2) (oi := ({ dst := some 74, op := Op.move (Operand.tmp 0), type := 71, pos := "parts.go:746", after := #[], guard := none } : Oper)) (v := .slice (some ⟨b, o, none⟩) L.length c) rfl (by kernel_rfl) (by kernel_rfl) (by kernel_rfl) (fun _ _ _ h => h) (Or.inl ⟨by rfl, ?_⟩) (by assumption) ?_
      · intro w hSw; (try dsimp only at hSw); go_simp
      (try simp only [Act.put, List.setIfInBounds_toArray, List.set_cons_zero, List.set_cons_succ])
      refine wpAnyH_take (i := 3) (oi := ({ dst := some 75, op := Op.move (Operand.tmp 13), type := 3, pos := "parts.go:746", after := #[], guard := none } : Oper)) (v := .int .i64 (k : Int)) rfl (by kernel_rfl) (by kernel_rfl) (by kernel_rfl) (fun _ _ _ h => h) (Or.inl ⟨by rfl, ?_⟩) (by assumption) ?_
      · intro w hSw; (try dsimp only at hSw); go_simp
      (try simp only [Act.put, List.setIfInBounds_toArray, List.set_cons_zero, List.set_cons_succ])
      refine wpAnyH_take (i := 4) (oi := ({ dst := some 76, op := Op.indexAddr 71 (Operand.tmp 74) (Operand.tmp 75), type := 0, pos := "parts.go:746", after := #[{ on := 2, ground := Ground.data }, { on := 3, ground := Ground.data }], guard := none } : Oper)) (v := .pointer (some ⟨b, o + k, none⟩)) rfl (by kernel_rfl) (by kernel_rfl) (by kernel_rfl) (fun _ _ _ h => h) (Or.inl ⟨by rfl, ?_⟩) (by assumption) ?_
      · intro w hSw; (try dsimp only at hSw); go_simp
      (try simp only [Act.put, List.setIfInBounds_toArray, List.set_cons_zero, List.set_cons_succ])
      refine wpAnyH_take (i := 5) (oi := ({ dst := some 77, op := Op.load 38 (Operand.tmp 76), type := 38, pos := "parts.go:746", after := #[{ on := 4, ground := Ground.data }], guard := none } : Oper)) (v := .slice ax x.length cx) rfl (by kernel_rfl) (by kernel_rfl) (by kernel_rfl) (fun _ _ _ h => h) (Or.inl ⟨by rfl, ?_⟩) (by assumption) ?_
      · intro w hSw; (try dsimp only at hSw); go_simp
      (try simp only [Act.put, List.setIfInBounds_toArray, List.set_cons_zero, List.set_cons_succ])
      refine wpAnyH_ready (rs := [1, 6]) (by kernel_rfl) (by simp) ?_
      refine AllReadyH.cons (o := ({ dst := some 73, op := Op.call { callee := Callee.builtin Builtin.append, args := #[Operand.const (Value.slice none 0 0), Operand.tmp 72], argTypes := #[71, 71] }, type := 71, pos := "parts.go:746", after := #[{ on := 0, ground := Ground.data }], guard := none } : Oper)) rfl (fun K hK => ?_) (AllReadyH.cons (o := ({ dst := some 78, op := Op.buildSlice 71 1 #[(0, Operand.tmp 77)], type := 71, pos := "parts.go:746", after := #[{ on := 5, ground := Ground.data }], guard := none } : Oper)) rfl (fun K hK => ?_) AllReadyH.nil)
      · have blx0 : True := trivial
        obtain ⟨vx, wx, csx, x1, x2, x3, x4, x5⟩ := run_cpy aw cw hw2 (by omega) 71
        have hgx := heap_alloc_last wx (.cells #[.slice ax x.length cx] 38)
        have blx := (x4.alloc x4.size (.cells #[.slice ax x.length cx] 38))
        obtain ⟨ay, cy, wy, y1, y2, y3⟩ := run_both (x := x) (x2.alloc _) (x3.tr (Tr.alloc _ _ _)) blx x5 (by omega) hlt2 wx.heap.size ax cx hgx hx2 71
        have s1 : wx.cell? ⟨b, o + k, none⟩ = some (.slice ax x.length cx) := by rw [(bcell x4).1 _ _ hb1]; exact p2
        have s2 : (wx.alloc (.cells #[.slice ax x.length cx] 38)).cell? ⟨b, o + k, none⟩ = some (.slice ax x.length cx) := by rw [(bcell blx).1 _ _ hb1]; exact p2
        have s3 : wy.cell? ⟨b, o + k, none⟩ = some (.slice ax x.length cx) := by rw [(bcell y3).1 _ _ hb1]; exact p2
        obtain ⟨avx, cvx, hvx⟩ := own_form x2
        subst hvx
        clear x2 x3 x5 hgx blx x4
        rw [if_pos (by rfl)]
        refine wp_run (exec_append _ _ _ _ (by rfl) (by rfl) (by rfl) (by rfl) (by rfl) (by rfl) x1) ?_
        refine hK.out _ _ ?_ (fun hHeld => ?_)
        · exact s1
        clear hK K
        (try simp only [Act.put, List.setIfInBounds_toArray, List.set_cons_zero, List.set_cons_succ])
        refine wpAnyH_ready (rs := [6]) (by kernel_rfl) (by simp) ?_
        refine AllReadyH.cons (o := ({ dst := some 78, op := Op.buildSlice 71 1 #[(0, Operand.tmp 77)], type := 71, pos := "parts.go:746", after := #[{ on := 5, ground := Ground.data }], guard := none } : Oper)) rfl (fun K hK => ?_) AllReadyH.nil
        rw [if_pos (by rfl)]
        go_wp2_with fail
        refine hK.out _ _ ?_ (fun hHeld => ?_)
        · exact s2
        clear hK K
        (try simp only [Act.put, List.setIfInBounds_toArray, List.set_cons_zero, List.set_cons_succ])
        refine wpAnyH_ready (rs := [7]) (by kernel_rfl) (by simp) ?_
        refine AllReadyH.cons (o := ({ dst := some 79, op := Op.call { callee := Callee.builtin Builtin.append, args := #[Operand.tmp 73, Operand.tmp 78], argTypes := #[71, 71] }, type := 71, pos := "parts.go:746", after := #[{ on := 1, ground := Ground.data }, { on := 6, ground := Ground.data }, { on := 1, ground := Ground.chain }], guard := none } : Oper)) rfl (fun K hK => ?_) AllReadyH.nil
        rw [if_pos (by rfl)]
        refine wp_run (exec_append _ _ _ _ (by rfl) (by rfl) (by rfl) (by rfl) (by rfl) (by rfl) y1) ?_
        refine hK.out _ _ ?_ (fun hHeld => ?_)
        · exact s3
        clear hK K
        (try simp only [Act.put, List.setIfInBounds_toArray, List.set_cons_zero, List.set_cons_succ])
        refine wpAnyH_take (i := 8) (oi := ({ dst := some 12, op := Op.assign (Operand.tmp 79), type := 71, pos := "parts.go:746", after := #[{ on := 7, ground := Ground.data }, { on := 7, ground := Ground.chain }, { on := 0, ground := Ground.phase }, { on := 1, ground := Ground.phase }, { on := 2, ground := Ground.phase }, { on := 3, ground := Ground.phase }, { on := 4, ground := Ground.phase }, { on := 5, ground := Ground.phase }, { on := 6, ground := Ground.phase }, { on := 7, ground := Ground.phase }], guard := none } : Oper)) (v := .slice ay (want ++ [x]).length cy) rfl (by kernel_rfl) (by kernel_rfl) (by kernel_rfl) (fun _ _ _ h => h) (Or.inl ⟨by rfl, ?_⟩) (by assumption) ?_
        · intro w hSw; (try dsimp only at hSw); go_simp
        (try simp only [Act.put, List.setIfInBounds_toArray, List.set_cons_zero, List.set_cons_succ])
        refine wpAnyH_done (by kernel_rfl) ?_ _
        clear x1 y1 s1 s3 p2
        have hDy := hD2.below y3
        have hLy := hL2.below y3
        have hwy := hw2.below y3
        have bly := Below_after hbl2 y3
        simp only [List.length_append, List.length_cons, List.length_nil, Nat.zero_add] at *
        have hwl' : (want ++ [x]).length ≤ k + 1 ∧ ∀ z ∈ want ++ [x], z.length ≤ 14 := ⟨by simp; omega, fun z hz => by
          rcases List.mem_append.1 hz with hz | hz
          · exact hwl.2 z hz
          · simp at hz; rw [hz]; exact hx14⟩
        rcases HSP.out with ⟨ac, ap, ae, al1, al2, -⟩ | ⟨ac, aneg, adn, al1, aF⟩ | ⟨ac, ac2, ad, al1, -⟩
        · subst ac
          have hev := HEV.out
          rw [errV_zero] at hev
          subst hev
          rw [ae] at hLy ap
          have HAP : Hid (AddPre (addR d ⟨1, 59, 5, u⟩ x).1 ⟨1, 59, 5, u + (x.length + 1)⟩ [] (want ++ [x])) := ⟨ap.q, ap.fit, ap.used, ap.inv⟩
          have HN : Hid ((addR d ⟨1, 59, 5, u⟩ x).1.now.length = 60) := al1.trans hd60
          have HY2 : Hid (DdsB (Un B1 (On q)) wy ay (want ++ [x])) := y2
          clear HSP HEV HPRE ap ae al1 al2 hwy
          go_wp2_with fail
          go_roundw
          case rel => exact ⟨k + 1, B1, _, _, ay, ay, cy, cy, want ++ [x], want ++ [x], by omega, by go_num, by simp, by simp, hDy, hLy, hnq1, hbase1, bly, HY2.out, HY2.out, HAP.out, HN.out, hwl', hwl'⟩
          case measure => simp [intOf]; omega
        · subst ac
          have hev := HEV.out
          rw [errV_pos (by decide)] at hev
          subst hev
          have hnum := number_err 10 wy
          rw [errV_pos (by decide)] at hnum
          have hF : FF (addR d ⟨1, 59, 5, u⟩ x).1 want (want ++ [x]) := fun keep => by
            rcases aF keep with h | h
            · exact .inl h.read.1
            · exact .inr h.read.1
          have hwr1 : (addR d ⟨1, 59, 5, u⟩ x).1.wr.length ≤ 100000 := add_wr HPRE.out
          have hd61 : (addR d ⟨1, 59, 5, u⟩ x).1.now.length = 60 := al1.trans hd60
          clear HSP HEV HPRE aF aneg adn al1 hd60
          generalize (addR d ⟨1, 59, 5, u⟩ x).1 = dd at *
          go_wp2_with fail
          refine hnum.mono ?_
          rintro e w9 ⟨rfl, rfl⟩
          clear hnum
          have hwl0 := hwl
          replace hwl : want.length ≤ 9 ∧ ∀ x ∈ want, x.length ≤ 14 := ⟨by omega, hwl.2⟩
          have hll : (want ++ [x]).length ≤ 9 ∧ ∀ z ∈ want ++ [x], z.length ≤ 14 := ⟨by have := hwl'.1; omega, hwl'.2⟩
          clear hwl' hwl0 hLy hD2 hL2 hw2 hx2 hbl2 hlt2 hnq1
          have hrs := restart_o B1 p dd keep w9 hDy (by omega) hkp
          go_wp2_with fail
          refine hrs.mono ?_
          rintro e wa ⟨Ba, rfl, hDa, hTa⟩
          clear hrs
          have hFF := hF keep
          have hnow : (reR dd keep).now = landW keep dd.kept dd.wr 0 := rfl
          rw [← hnow] at hFF
          have hdl : (reR dd keep).now.length = 60 := by rw [hnow, land_len, hDy.ok.len]; exact hd61
          have hQ : QD (reR dd keep) := ⟨rfl, rfl, rfl⟩
          have hlf : (reR dd keep).left < 0 := by show (-1 : Int) < 0; decide
          have hwa := hwy.tr (hTa.frame (On q))
          have hla := y2.tr (hTa.frame (On q))
          have hbT : Below w.heap.size w9 wa := hTa.to_below (fun k hk => hbase1 k (.inl hk)) bly.size
          have hbla : Below w.heap.size w wa := bly.trans hbT
          have hba : ∀ k, Ba k → w.heap.size ≤ k := hTa.base (fun k hk => hbase1 k (.inl hk)) bly.size
          clear hTa hDy hF hnow hwy y2 hbT bly hbase1
          generalize reR dd keep = d1 at *
          have hop := lopen_any Ba p d1 1 59 5 wa hDa hQ.down (by decide) (by decide) (by omega) (by decide)
          rw [show ((1 : Nat) : Int) = 1 from rfl, show ((59 : Nat) : Int) = 59 from rfl, show ((5 : Nat) : Int) = 5 from rfl] at hop
          have hInv := LogInv.of 5 ((d1.now.drop 1).take 59)
          generalize hR : lgOf 5 ((d1.now.drop 1).take 59) = R at *
          clear hR
          go_wp2_with fail
          refine hop.mono ?_
          rintro e wb ⟨q2, ag, cg, rfl, hLb, hgot, hq2, hbb⟩
          clear hop
          have hDb := hDa.below hbb
          have hltB := hDa.lt
          have hwb := hwa.below hbb
          have hlb := hla.below hbb
          have blb := Below_after hbla hbb
          have hub : R.used ≤ 59 := by have := hInv.le; rw [sec_len (by omega)] at this; exact this
          have hbase2 : ∀ k, Un Ba (On q2) k → w.heap.size ≤ k := fun k hk => by
            rcases hk with hk | hk
            · exact hba k hk
            · have := hbla.size; unfold On at hk; omega
          have hgot2 : DdsB (Un Ba (On q2)) wb ag R.deeds := hgot.mono (fun k _ hk => by
            rcases hk with hk | hk
            · have := hltB k hk; omega
            · unfold On at hk; omega)
          have hnq2 : ¬ Ba q2 := fun e => by have := hltB q2 e; omega
          have hgb : R.deeds.length ≤ 9 ∧ ∀ x ∈ R.deeds, x.length ≤ 14 := by
            rcases hFF with h | h <;> rw [h]
            · exact hwl
            · exact hll
          have hbig : ∀ (z : List (List Ch)), (∀ x ∈ z, x.length ≤ 14) → ∀ x ∈ z, x.length ≤ maxLen := fun z h x hx => by have := h x hx; simp [maxLen]; omega
          have hs1 := samedd_any _ _ ag aw cg cw R.deeds want wb hgot2 hwb (by omega) (by omega) (hbig _ hgb.2) (hbig _ hwl.2)
          clear hgot hwa hla hDa hba hbla hbb hltB hq2
          have hrest : ∀ (W : World), Below wb.heap.size wb W → DkO W Ba p d1 ∧ LgAt W q2 p ⟨1, 59, 5, R.used⟩ ∧ DdsB (Un Ba (On q2)) W ag R.deeds ∧ Below w.heap.size w W := fun W hW => ⟨hDb.below hW, hLb.below hW, hgot2.below hW, Below_after blb hW⟩
          go_wp2_with fail
          refine hs1.mono ?_
          rintro e wc ⟨⟨r1, rfl, hr1⟩, hbc⟩
          clear hs1
          have hlc := hlb.below hbc
          have hs2 := samedd_any _ _ ag ay cg cy R.deeds (want ++ [x]) wc (hgot2.below hbc) hlc (by omega) (by omega) (hbig _ hgb.2) (hbig _ hll.2)
          simp only [List.length_append, List.length_cons, List.length_nil, Nat.zero_add] at hs2
          clear hwb hlb hgot2 hDb hLb blb hbig
          cases r1
          · have HGL : Hid (R.deeds = (want ++ [x])) := by
              show _ = _
              rcases hFF with h | h
              · exact absurd (hr1.2 h) (by decide)
              · exact h
            clear hFF hr1
            go_wp2_with fail
            refine hs2.mono ?_
            rintro e wd ⟨⟨r2, rfl, hr2⟩, hbd⟩
            clear hs2
            obtain rfl : r2 = true := hr2.2 HGL.out
            clear HGL hr2 hlc
            have hk := hrest wd (Below_after hbc hbd)
            clear hrest hbc hbd
            obtain ⟨hDd, hLd, hgd, bld⟩ := hk
            have hch : chksC [⟨⟨#[122]⟩, ⟨#[122]⟩, false⟩] = 0 := by decide
            have ble := bld.alloc bld.size (.cells #[.string ⟨#[122]⟩, .string ⟨#[122]⟩, .bool false] 56)
            have hba1 := (Below.refl wd.heap.size wd).alloc (Nat.le_refl _) (.cells #[.string ⟨#[122]⟩, .string ⟨#[122]⟩, .bool false] 56)
            have hox : ChsB (Un Ba (On q2)) (wd.alloc (.cells #[.string ⟨#[122]⟩, .string ⟨#[122]⟩, .bool false] 56)) (some ⟨wd.heap.size, 0, none⟩) [⟨⟨#[122]⟩, ⟨#[122]⟩, false⟩] := by
              refine .inr ⟨wd.heap.size, 0, rfl, by simp, fun e => ?_, fun j x hx => ?_⟩
              · rcases e with e | e
                · have := hDd.lt _ e; omega
                · have := heap_lt hLd; unfold On at e; omega
              · have hB := (Bx.new wd [.string ⟨#[122]⟩, .string ⟨#[122]⟩, .bool false] 56).2
                match j, hx with
                | 0, hx => simp at hx; subst hx; exact ⟨⟨(hB 0 _ rfl).1, (hB 1 _ rfl).1, (hB 2 _ rfl).1⟩, by decide, by decide⟩
            have hDe := hDd.below hba1
            have hLe := hLd.below hba1
            have hge := hgd.below hba1
            clear hDd hLd hgd bld hba1
            have hrm := room_any p q2 ⟨1, 59, 5, R.used⟩ _ hLe (by show 59 ≤ 100000; decide) (by show R.used ≤ 100000; omega)
            dsimp only at hrm
            rw [show ((59 : Nat) : Int) = 59 from rfl] at hrm
            go_wp2_with fail
            generalize hwe : wd.alloc (.cells #[.string ⟨#[122]⟩, .string ⟨#[122]⟩, .bool false] 56) = we at *
            clear hwe
            refine hrm.mono ?_
            rintro e wf ⟨rfl, hbf⟩
            clear hrm
            have hDf := hDe.below hbf
            have hLf := hLe.below hbf
            have hgf := hge.below hbf
            have hof := hox.below hbf
            have blf := Below_after ble hbf
            clear hDe hLe hge hox ble hbf
            by_cases hroom : (59 : Int) - (R.used : Int) < 2
            · go_wp2_with fail
              go_ret
              exact ⟨rfl, blf⟩
            have hpre : AddPre d1 ⟨1, 59, 5, R.used⟩ [⟨⟨#[122]⟩, ⟨#[122]⟩, false⟩] R.deeds := ⟨hQ, by show 1 + 59 ≤ _; omega, hub, hInv⟩
            have hadd := ladd_any Ba p q2 d1 ⟨1, 59, 5, R.used⟩ (some ⟨wd.heap.size, 0, none⟩) 1 [⟨⟨#[122]⟩, ⟨#[122]⟩, false⟩] wf hDf hLf hnq2 (hof.mono (fun k _ hk => .inl hk)) (by simp [maxLen]) hub (by show 59 ≤ 1000; decide) (by show 1 ≤ 1000; decide) (by show 5 ≤ 1000000000000; decide) (by rw [hQ.wr]; simp)
            rcases add_spec hpre with ⟨ac, ap, ae, al1, al2, -⟩ | ⟨ac, aneg, -⟩ | ⟨-, -, -, -, hbad⟩
            rotate_left
            · exact absurd aneg (by omega)
            · exfalso
              rcases hbad with h | h | h
              · simp at h
              · simp at h; omega
              · exact h hch
            rw [ac, errV_zero, ae] at hadd
            rw [ae] at ap
            dsimp only at hadd ap
            have hInv2 := ap.inv
            have hQ2 := ap.q
            generalize (addR d1 ⟨1, 59, 5, R.used⟩ [⟨⟨#[122]⟩, ⟨#[122]⟩, false⟩]).1 = d2 at *
            clear ac ap ae hpre hch hQ
            rw [List.length_singleton] at hadd
            go_wp2_with fail
            refine hadd.mono ?_
            rintro e wg ⟨rfl, Bg, hDg, hLg, hnqg, hTg⟩
            clear hadd
            have hgg := hgf.tr hTg
            have hog := hof.tr hTg
            have blg : Below w.heap.size w wg := blf.trans (hTg.to_below hbase2 blf.size)
            have hltg : Lt (Un Bg (On q2)) wg := fun k hk => by
              rcases hk with hk | hk
              · exact hDg.lt k hk
              · have := heap_lt hLg; unfold On at hk; omega
            clear hTg hDf hLf hgf hof blf hLg
            have hop := lopen_any Bg p d2 1 59 5 wg hDg hQ2.down (by decide) (by decide) (by omega) (by decide)
            rw [show ((1 : Nat) : Int) = 1 from rfl, show ((59 : Nat) : Int) = 59 from rfl, show ((5 : Nat) : Int) = 5 from rfl] at hop
            have hR2 : (lgOf 5 ((d2.now.drop 1).take 59)).deeds = R.deeds ++ [[⟨⟨#[122]⟩, ⟨#[122]⟩, false⟩]] := hInv2.read.1
            rw [hR2] at hop
            clear hR2 hInv2
            go_wp2_with fail
            refine hop.mono ?_
            rintro e wh ⟨q3, ah, ch, rfl, -, hgh, -, hbh⟩
            clear hop
            have hgi := hgg.below hbh
            have hoi := hog.below hbh
            have blh := Below_after blg hbh
            have hlth : Lt (Un Bg (On q2)) wh := fun k hk => Nat.lt_of_lt_of_le (hltg k hk) hbh.size
            clear hgg hog blg hbh hltg
            obtain ⟨vx, wx, csx, x1, x2, x3, x4, x5⟩ := run_cpy ag cg hgi (by omega) 71
            have hgx := heap_alloc_last wx (.cells #[.slice (some ⟨wd.heap.size, 0, none⟩) 1 1] 38)
            have blx := (x4.alloc x4.size (.cells #[.slice (some ⟨wd.heap.size, 0, none⟩) 1 1] 38))
            obtain ⟨ay, cy, wy, y1, y2, y3⟩ := run_both (x := [⟨⟨#[122]⟩, ⟨#[122]⟩, false⟩]) (x2.alloc _) (x3.tr (Tr.alloc _ _ _)) blx x5 (by omega) hlth wx.heap.size (some ⟨wd.heap.size, 0, none⟩) 1 hgx hoi 71
            have hbig2 : ∀ x ∈ R.deeds ++ [[⟨⟨#[122]⟩, ⟨#[122]⟩, false⟩]], x.length ≤ maxLen := fun x hx => by
              rcases List.mem_append.1 hx with hx | hx
              · have := hgb.2 x hx; simp [maxLen]; omega
              · simp at hx; rw [hx]; simp [maxLen]
            have hs3 := samedd_any _ _ ah ay ch cy _ _ wy (hgh.below y3) y2 (by simp; omega) (by simp; omega) hbig2 hbig2
            obtain ⟨avx, cvx, hvx⟩ := own_form x2
            subst hvx
            simp only [List.length_append, List.length_cons, List.length_nil, Nat.zero_add] at hs3 y1
            clear hgh y2 x2 x3 x5 hgi hoi hgx hbig2
            go_wp2_with (first | (refine wpList_runW (exec_append _ _ (.const (.slice none 0 0)) (.tmp 131) (by rfl) (by rfl) (by rfl) (by rfl) (by rfl) (by rfl) x1) (by kernel_rfl) ?_) | (refine wpList_runW (exec_append _ _ (.tmp 132) (.tmp 134) (by rfl) (by rfl) (by rfl) (by rfl) (by rfl) (by rfl) y1) (by kernel_rfl) ?_))
            refine hs3.mono ?_
            rintro e wz ⟨⟨r3, rfl, hr3⟩, hbz⟩
            obtain rfl : r3 = true := by simpa using hr3
            go_wp2_with fail
            go_ret
            exact ⟨rfl, Below_after (Below_after blh y3) hbz⟩
          · clear hs2 hFF hr1 hlc
            have hk := hrest wc hbc
            clear hrest hbc
            generalize wc = wd at *
            obtain ⟨hDd, hLd, hgd, bld⟩ := hk
            have hch : chksC [⟨⟨#[122]⟩, ⟨#[122]⟩, false⟩] = 0 := by decide
            have ble := bld.alloc bld.size (.cells #[.string ⟨#[122]⟩, .string ⟨#[122]⟩, .bool false] 56)
            have hba1 := (Below.refl wd.heap.size wd).alloc (Nat.le_refl _) (.cells #[.string ⟨#[122]⟩, .string ⟨#[122]⟩, .bool false] 56)
            have hox : ChsB (Un Ba (On q2)) (wd.alloc (.cells #[.string ⟨#[122]⟩, .string ⟨#[122]⟩, .bool false] 56)) (some ⟨wd.heap.size, 0, none⟩) [⟨⟨#[122]⟩, ⟨#[122]⟩, false⟩] := by
              refine .inr ⟨wd.heap.size, 0, rfl, by simp, fun e => ?_, fun j x hx => ?_⟩
              · rcases e with e | e
                · have := hDd.lt _ e; omega
                · have := heap_lt hLd; unfold On at e; omega
              · have hB := (Bx.new wd [.string ⟨#[122]⟩, .string ⟨#[122]⟩, .bool false] 56).2
                match j, hx with
                | 0, hx => simp at hx; subst hx; exact ⟨⟨(hB 0 _ rfl).1, (hB 1 _ rfl).1, (hB 2 _ rfl).1⟩, by decide, by decide⟩
            have hDe := hDd.below hba1
            have hLe := hLd.below hba1
            have hge := hgd.below hba1
            clear hDd hLd hgd bld hba1
            have hrm := room_any p q2 ⟨1, 59, 5, R.used⟩ _ hLe (by show 59 ≤ 100000; decide) (by show R.used ≤ 100000; omega)
            dsimp only at hrm
            rw [show ((59 : Nat) : Int) = 59 from rfl] at hrm
            go_wp2_with fail
            generalize hwe : wd.alloc (.cells #[.string ⟨#[122]⟩, .string ⟨#[122]⟩, .bool false] 56) = we at *
            clear hwe
            refine hrm.mono ?_
            rintro e wf ⟨rfl, hbf⟩
            clear hrm
            have hDf := hDe.below hbf
            have hLf := hLe.below hbf
            have hgf := hge.below hbf
            have hof := hox.below hbf
            have blf := Below_after ble hbf
            clear hDe hLe hge hox ble hbf
            by_cases hroom : (59 : Int) - (R.used : Int) < 2
            · go_wp2_with fail
              go_ret
              exact ⟨rfl, blf⟩
            have hpre : AddPre d1 ⟨1, 59, 5, R.used⟩ [⟨⟨#[122]⟩, ⟨#[122]⟩, false⟩] R.deeds := ⟨hQ, by show 1 + 59 ≤ _; omega, hub, hInv⟩
            have hadd := ladd_any Ba p q2 d1 ⟨1, 59, 5, R.used⟩ (some ⟨wd.heap.size, 0, none⟩) 1 [⟨⟨#[122]⟩, ⟨#[122]⟩, false⟩] wf hDf hLf hnq2 (hof.mono (fun k _ hk => .inl hk)) (by simp [maxLen]) hub (by show 59 ≤ 1000; decide) (by show 1 ≤ 1000; decide) (by show 5 ≤ 1000000000000; decide) (by rw [hQ.wr]; simp)
            rcases add_spec hpre with ⟨ac, ap, ae, al1, al2, -⟩ | ⟨ac, aneg, -⟩ | ⟨-, -, -, -, hbad⟩
            rotate_left
            · exact absurd aneg (by omega)
            · exfalso
              rcases hbad with h | h | h
              · simp at h
              · simp at h; omega
              · exact h hch
            rw [ac, errV_zero, ae] at hadd
            rw [ae] at ap
            dsimp only at hadd ap
            have hInv2 := ap.inv
            have hQ2 := ap.q
            generalize (addR d1 ⟨1, 59, 5, R.used⟩ [⟨⟨#[122]⟩, ⟨#[122]⟩, false⟩]).1 = d2 at *
            clear ac ap ae hpre hch hQ
            rw [List.length_singleton] at hadd
            go_wp2_with fail
            refine hadd.mono ?_
            rintro e wg ⟨rfl, Bg, hDg, hLg, hnqg, hTg⟩
            clear hadd
            have hgg := hgf.tr hTg
            have hog := hof.tr hTg
            have blg : Below w.heap.size w wg := blf.trans (hTg.to_below hbase2 blf.size)
            have hltg : Lt (Un Bg (On q2)) wg := fun k hk => by
              rcases hk with hk | hk
              · exact hDg.lt k hk
              · have := heap_lt hLg; unfold On at hk; omega
            clear hTg hDf hLf hgf hof blf hLg
            have hop := lopen_any Bg p d2 1 59 5 wg hDg hQ2.down (by decide) (by decide) (by omega) (by decide)
            rw [show ((1 : Nat) : Int) = 1 from rfl, show ((59 : Nat) : Int) = 59 from rfl, show ((5 : Nat) : Int) = 5 from rfl] at hop
            have hR2 : (lgOf 5 ((d2.now.drop 1).take 59)).deeds = R.deeds ++ [[⟨⟨#[122]⟩, ⟨#[122]⟩, false⟩]] := hInv2.read.1
            rw [hR2] at hop
            clear hR2 hInv2
            go_wp2_with fail
            refine hop.mono ?_
            rintro e wh ⟨q3, ah, ch, rfl, -, hgh, -, hbh⟩
            clear hop
            have hgi := hgg.below hbh
            have hoi := hog.below hbh
            have blh := Below_after blg hbh
            have hlth : Lt (Un Bg (On q2)) wh := fun k hk => Nat.lt_of_lt_of_le (hltg k hk) hbh.size
            clear hgg hog blg hbh hltg
            obtain ⟨vx, wx, csx, x1, x2, x3, x4, x5⟩ := run_cpy ag cg hgi (by omega) 71
            have hgx := heap_alloc_last wx (.cells #[.slice (some ⟨wd.heap.size, 0, none⟩) 1 1] 38)
            have blx := (x4.alloc x4.size (.cells #[.slice (some ⟨wd.heap.size, 0, none⟩) 1 1] 38))
            obtain ⟨ay, cy, wy, y1, y2, y3⟩ := run_both (x := [⟨⟨#[122]⟩, ⟨#[122]⟩, false⟩]) (x2.alloc _) (x3.tr (Tr.alloc _ _ _)) blx x5 (by omega) hlth wx.heap.size (some ⟨wd.heap.size, 0, none⟩) 1 hgx hoi 71
            have hbig2 : ∀ x ∈ R.deeds ++ [[⟨⟨#[122]⟩, ⟨#[122]⟩, false⟩]], x.length ≤ maxLen := fun x hx => by
              rcases List.mem_append.1 hx with hx | hx
              · have := hgb.2 x hx; simp [maxLen]; omega
              · simp at hx; rw [hx]; simp [maxLen]
            have hs3 := samedd_any _ _ ah ay ch cy _ _ wy (hgh.below y3) y2 (by simp; omega) (by simp; omega) hbig2 hbig2
            obtain ⟨avx, cvx, hvx⟩ := own_form x2
            subst hvx
            simp only [List.length_append, List.length_cons, List.length_nil, Nat.zero_add] at hs3 y1
            clear hgh y2 x2 x3 x5 hgi hoi hgx hbig2
            go_wp2_with (first | (refine wpList_runW (exec_append _ _ (.const (.slice none 0 0)) (.tmp 131) (by rfl) (by rfl) (by rfl) (by rfl) (by rfl) (by rfl) x1) (by kernel_rfl) ?_) | (refine wpList_runW (exec_append _ _ (.tmp 132) (.tmp 134) (by rfl) (by rfl) (by rfl) (by rfl) (by rfl) (by rfl) y1) (by kernel_rfl) ?_))
            refine hs3.mono ?_
            rintro e wz ⟨⟨r3, rfl, hr3⟩, hbz⟩
            obtain rfl : r3 = true := by simpa using hr3
            go_wp2_with fail
            go_ret
            exact ⟨rfl, Below_after (Below_after blh y3) hbz⟩
        · have hev := HEV.out
          rw [errV_pos ac] at hev
          subst hev
          have hnum := number_err cc wy
          rw [errV_pos ac] at hnum
          have d10 : (cc == 10) = false := by simpa using ac2
          rw [ad] at hDy
          rw [al1] at hLy
          clear HSP HEV ad al1 ac2
          go_wp2_with fail
          refine hnum.mono ?_
          rintro e w9 ⟨rfl, rfl⟩
          clear hnum
          go_wp2_with fail
          go_roundw
          case rel => exact ⟨k + 1, B1, d, u, aw, aw, cw, cw, want, want, by omega, by go_num, rfl, rfl, hDy, hLy, hnq1, hbase1, bly, hwy, hwy, HPRE.out, hd60, ⟨by omega, hwl.2⟩, ⟨by omega, hwl.2⟩⟩
          case measure => simp [intOf]; omega
      · have bl0 := (Below.refl w2.heap.size w2).alloc (Nat.le_refl _) (.cells #[.slice ax x.length cx] 38)
        have hg0 := heap_alloc_last w2 (.cells #[.slice ax x.length cx] 38)
        have hwA := hw2.below bl0
        have hxA := hx2.below bl0
        have hltA : Lt (Un B1 (On q)) (w2.alloc (.cells #[.slice ax x.length cx] 38)) := fun k hk => Nat.lt_of_lt_of_le (hlt2 k hk) bl0.size
        have s0 : (w2.alloc (.cells #[.slice ax x.length cx] 38)).cell? ⟨b, o + k, none⟩ = some (.slice ax x.length cx) := by rw [(bcell bl0).1 _ _ hb1]; exact p2
        obtain ⟨vx, wx, csx, x1, x2, x3, x4, x5⟩ := run_cpy aw cw hwA (by omega) 71
        have hgx := (x4.block w2.heap.size (heap_lt hg0)).trans hg0
        obtain ⟨ay, cy, wy, y1, y2, y30⟩ := run_both (x := x) x2 x3 x4 x5 (by omega) hltA w2.heap.size ax cx hgx hxA 71
        have y3 : Below w2.heap.size w2 wy := Below_after bl0 y30
        have s1 : wx.cell? ⟨b, o + k, none⟩ = some (.slice ax x.length cx) := by rw [(bcell x4).1 _ _ (Nat.lt_of_lt_of_le hb1 bl0.size)]; exact s0
        have s3 : wy.cell? ⟨b, o + k, none⟩ = some (.slice ax x.length cx) := by rw [(bcell y3).1 _ _ hb1]; exact p2
        obtain ⟨avx, cvx, hvx⟩ := own_form x2
        subst hvx
        clear x2 x3 x5 hgx x4 hwA hxA hltA hg0 bl0 y30
        rw [if_pos (by rfl)]
        go_wp2_with fail
        refine hK.out _ _ ?_ (fun hHeld => ?_)
        · exact s0
        clear hK K
        (try simp only [Act.put, List.setIfInBounds_toArray, List.set_cons_zero, List.set_cons_succ])
        refine wpAnyH_ready (rs := [1]) (by kernel_rfl) (by simp) ?_
        refine AllReadyH.cons (o := ({ dst := some 73, op := Op.call { callee := Callee.builtin Builtin.append, args := #[Operand.const (Value.slice none 0 0), Operand.tmp 72], argTypes := #[71, 71] }, type := 71, pos := "parts.go:746", after := #[{ on := 0, ground := Ground.data }], guard := none } : Oper)) rfl (fun K hK => ?_) AllReadyH.nil
        rw [if_pos (by rfl)]
        refine wp_run (exec_append _ _ _ _ (by rfl) (by rfl) (by rfl) (by rfl) (by rfl) (by rfl) x1) ?_
        refine hK.out _ _ ?_ (fun hHeld => ?_)
        · exact s1
        clear hK K
        (try simp only [Act.put, List.setIfInBounds_toArray, List.set_cons_zero, List.set_cons_succ])
        refine wpAnyH_ready (rs := [7]) (by kernel_rfl) (by simp) ?_
        refine AllReadyH.cons (o := ({ dst := some 79, op := Op.call { callee := Callee.builtin Builtin.append, args := #[Operand.tmp 73, Operand.tmp 78], argTypes := #[71, 71] }, type := 71, pos := "parts.go:746", after := #[{ on := 1, ground := Ground.data }, { on := 6, ground := Ground.data }, { on := 1, ground := Ground.chain }], guard := none } : Oper)) rfl (fun K hK => ?_) AllReadyH.nil
        rw [if_pos (by rfl)]
        refine wp_run (exec_append _ _ _ _ (by rfl) (by rfl) (by rfl) (by rfl) (by rfl) (by rfl) y1) ?_
        refine hK.out _ _ ?_ (fun hHeld => ?_)
        · exact s3
        clear hK K
        (try simp only [Act.put, List.setIfInBounds_toArray, List.set_cons_zero, List.set_cons_succ])
        refine wpAnyH_take (i := 8) (oi := ({ dst := some 12, op := Op.assign (Operand.tmp 79), type := 71, pos := "parts.go:746", after := #[{ on := 7, ground := Ground.data }, { on := 7, ground := Ground.chain }, { on := 0, ground := Ground.phase }, { on := 1, ground := Ground.phase }, { on := 2, ground := Ground.phase }, { on := 3, ground := Ground.phase }, { on := 4, ground := Ground.phase }, { on := 5, ground := Ground.phase }, { on := 6, ground := Ground.phase }, { on := 7, ground := Ground.phase }], guard := none } : Oper)) (v := .slice ay (want ++ [x]).length cy) rfl (by kernel_rfl) (by kernel_rfl) (by kernel_rfl) (fun _ _ _ h => h) (Or.inl ⟨by rfl, ?_⟩) (by assumption) ?_
        · intro w hSw; (try dsimp only at hSw); go_simp
        (try simp only [Act.put, List.setIfInBounds_toArray, List.set_cons_zero, List.set_cons_succ])
        refine wpAnyH_done (by kernel_rfl) ?_ _
        clear x1 y1 s1 s3 p2
        have hDy := hD2.below y3
        have hLy := hL2.below y3
        have hwy := hw2.below y3
        have bly := Below_after hbl2 y3
        simp only [List.length_append, List.length_cons, List.length_nil, Nat.zero_add] at *
        have hwl' : (want ++ [x]).length ≤ k + 1 ∧ ∀ z ∈ want ++ [x], z.length ≤ 14 := ⟨by simp; omega, fun z hz => by
          rcases List.mem_append.1 hz with hz | hz
          · exact hwl.2 z hz
          · simp at hz; rw [hz]; exact hx14⟩
        rcases HSP.out with ⟨ac, ap, ae, al1, al2, -⟩ | ⟨ac, aneg, adn, al1, aF⟩ | ⟨ac, ac2, ad, al1, -⟩
        · subst ac
          have hev := HEV.out
          rw [errV_zero] at hev
          subst hev
          rw [ae] at hLy ap
          have HAP : Hid (AddPre (addR d ⟨1, 59, 5, u⟩ x).1 ⟨1, 59, 5, u + (x.length + 1)⟩ [] (want ++ [x])) := ⟨ap.q, ap.fit, ap.used, ap.inv⟩
          have HN : Hid ((addR d ⟨1, 59, 5, u⟩ x).1.now.length = 60) := al1.trans hd60
          have HY2 : Hid (DdsB (Un B1 (On q)) wy ay (want ++ [x])) := y2
          clear HSP HEV HPRE ap ae al1 al2 hwy
          go_wp2_with fail
          go_roundw
          case rel => exact ⟨k + 1, B1, _, _, ay, ay, cy, cy, want ++ [x], want ++ [x], by omega, by go_num, by simp, by simp, hDy, hLy, hnq1, hbase1, bly, HY2.out, HY2.out, HAP.out, HN.out, hwl', hwl'⟩
          case measure => simp [intOf]; omega
        · subst ac
          have hev := HEV.out
          rw [errV_pos (by decide)] at hev
          subst hev
          have hnum := number_err 10 wy
          rw [errV_pos (by decide)] at hnum
          have hF : FF (addR d ⟨1, 59, 5, u⟩ x).1 want (want ++ [x]) := fun keep => by
            rcases aF keep with h | h
            · exact .inl h.read.1
            · exact .inr h.read.1
          have hwr1 : (addR d ⟨1, 59, 5, u⟩ x).1.wr.length ≤ 100000 := add_wr HPRE.out
          have hd61 : (addR d ⟨1, 59, 5, u⟩ x).1.now.length = 60 := al1.trans hd60
          clear HSP HEV HPRE aF aneg adn al1 hd60
          generalize (addR d ⟨1, 59, 5, u⟩ x).1 = dd at *
          go_wp2_with fail
          refine hnum.mono ?_
          rintro e w9 ⟨rfl, rfl⟩
          clear hnum
          have hwl0 := hwl
          replace hwl : want.length ≤ 9 ∧ ∀ x ∈ want, x.length ≤ 14 := ⟨by omega, hwl.2⟩
          have hll : (want ++ [x]).length ≤ 9 ∧ ∀ z ∈ want ++ [x], z.length ≤ 14 := ⟨by have := hwl'.1; omega, hwl'.2⟩
          clear hwl' hwl0 hLy hD2 hL2 hw2 hx2 hbl2 hlt2 hnq1
          have hrs := restart_o B1 p dd keep w9 hDy (by omega) hkp
          go_wp2_with fail
          refine hrs.mono ?_
          rintro e wa ⟨Ba, rfl, hDa, hTa⟩
          clear hrs
          have hFF := hF keep
          have hnow : (reR dd keep).now = landW keep dd.kept dd.wr 0 := rfl
          rw [← hnow] at hFF
          have hdl : (reR dd keep).now.length = 60 := by rw [hnow, land_len, hDy.ok.len]; exact hd61
          have hQ : QD (reR dd keep) := ⟨rfl, rfl, rfl⟩
          have hlf : (reR dd keep).left < 0 := by show (-1 : Int) < 0; decide
          have hwa := hwy.tr (hTa.frame (On q))
          have hla := y2.tr (hTa.frame (On q))
          have hbT : Below w.heap.size w9 wa := hTa.to_below (fun k hk => hbase1 k (.inl hk)) bly.size
          have hbla : Below w.heap.size w wa := bly.trans hbT
          have hba : ∀ k, Ba k → w.heap.size ≤ k := hTa.base (fun k hk => hbase1 k (.inl hk)) bly.size
          clear hTa hDy hF hnow hwy y2 hbT bly hbase1
          generalize reR dd keep = d1 at *
          have hop := lopen_any Ba p d1 1 59 5 wa hDa hQ.down (by decide) (by decide) (by omega) (by decide)
          rw [show ((1 : Nat) : Int) = 1 from rfl, show ((59 : Nat) : Int) = 59 from rfl, show ((5 : Nat) : Int) = 5 from rfl] at hop
          have hInv := LogInv.of 5 ((d1.now.drop 1).take 59)
          generalize hR : lgOf 5 ((d1.now.drop 1).take 59) = R at *
          clear hR
          go_wp2_with fail
          refine hop.mono ?_
          rintro e wb ⟨q2, ag, cg, rfl, hLb, hgot, hq2, hbb⟩
          clear hop
          have hDb := hDa.below hbb
          have hltB := hDa.lt
          have hwb := hwa.below hbb
          have hlb := hla.below hbb
          have blb := Below_after hbla hbb
          have hub : R.used ≤ 59 := by have := hInv.le; rw [sec_len (by omega)] at this; exact this
          have hbase2 : ∀ k, Un Ba (On q2) k → w.heap.size ≤ k := fun k hk => by
            rcases hk with hk | hk
            · exact hba k hk
            · have := hbla.size; unfold On at hk; omega
          have hgot2 : DdsB (Un Ba (On q2)) wb ag R.deeds := hgot.mono (fun k _ hk => by
            rcases hk with hk | hk
            · have := hltB k hk; omega
            · unfold On at hk; omega)
          have hnq2 : ¬ Ba q2 := fun e => by have := hltB q2 e; omega
          have hgb : R.deeds.length ≤ 9 ∧ ∀ x ∈ R.deeds, x.length ≤ 14 := by
            rcases hFF with h | h <;> rw [h]
            · exact hwl
            · exact hll
          have hbig : ∀ (z : List (List Ch)), (∀ x ∈ z, x.length ≤ 14) → ∀ x ∈ z, x.length ≤ maxLen := fun z h x hx => by have := h x hx; simp [maxLen]; omega
          have hs1 := samedd_any _ _ ag aw cg cw R.deeds want wb hgot2 hwb (by omega) (by omega) (hbig _ hgb.2) (hbig _ hwl.2)
          clear hgot hwa hla hDa hba hbla hbb hltB hq2
          have hrest : ∀ (W : World), Below wb.heap.size wb W → DkO W Ba p d1 ∧ LgAt W q2 p ⟨1, 59, 5, R.used⟩ ∧ DdsB (Un Ba (On q2)) W ag R.deeds ∧ Below w.heap.size w W := fun W hW => ⟨hDb.below hW, hLb.below hW, hgot2.below hW, Below_after blb hW⟩
          go_wp2_with fail
          refine hs1.mono ?_
          rintro e wc ⟨⟨r1, rfl, hr1⟩, hbc⟩
          clear hs1
          have hlc := hlb.below hbc
          have hs2 := samedd_any _ _ ag ay cg cy R.deeds (want ++ [x]) wc (hgot2.below hbc) hlc (by omega) (by omega) (hbig _ hgb.2) (hbig _ hll.2)
          simp only [List.length_append, List.length_cons, List.length_nil, Nat.zero_add] at hs2
          clear hwb hlb hgot2 hDb hLb blb hbig
          cases r1
          · have HGL : Hid (R.deeds = (want ++ [x])) := by
              show _ = _
              rcases hFF with h | h
              · exact absurd (hr1.2 h) (by decide)
              · exact h
            clear hFF hr1
            go_wp2_with fail
            refine hs2.mono ?_
            rintro e wd ⟨⟨r2, rfl, hr2⟩, hbd⟩
            clear hs2
            obtain rfl : r2 = true := hr2.2 HGL.out
            clear HGL hr2 hlc
            have hk := hrest wd (Below_after hbc hbd)
            clear hrest hbc hbd
            obtain ⟨hDd, hLd, hgd, bld⟩ := hk
            have hch : chksC [⟨⟨#[122]⟩, ⟨#[122]⟩, false⟩] = 0 := by decide
            have ble := bld.alloc bld.size (.cells #[.string ⟨#[122]⟩, .string ⟨#[122]⟩, .bool false] 56)
            have hba1 := (Below.refl wd.heap.size wd).alloc (Nat.le_refl _) (.cells #[.string ⟨#[122]⟩, .string ⟨#[122]⟩, .bool false] 56)
            have hox : ChsB (Un Ba (On q2)) (wd.alloc (.cells #[.string ⟨#[122]⟩, .string ⟨#[122]⟩, .bool false] 56)) (some ⟨wd.heap.size, 0, none⟩) [⟨⟨#[122]⟩, ⟨#[122]⟩, false⟩] := by
              refine .inr ⟨wd.heap.size, 0, rfl, by simp, fun e => ?_, fun j x hx => ?_⟩
              · rcases e with e | e
                · have := hDd.lt _ e; omega
                · have := heap_lt hLd; unfold On at e; omega
              · have hB := (Bx.new wd [.string ⟨#[122]⟩, .string ⟨#[122]⟩, .bool false] 56).2
                match j, hx with
                | 0, hx => simp at hx; subst hx; exact ⟨⟨(hB 0 _ rfl).1, (hB 1 _ rfl).1, (hB 2 _ rfl).1⟩, by decide, by decide⟩
            have hDe := hDd.below hba1
            have hLe := hLd.below hba1
            have hge := hgd.below hba1
            clear hDd hLd hgd bld hba1
            have hrm := room_any p q2 ⟨1, 59, 5, R.used⟩ _ hLe (by show 59 ≤ 100000; decide) (by show R.used ≤ 100000; omega)
            dsimp only at hrm
            rw [show ((59 : Nat) : Int) = 59 from rfl] at hrm
            go_wp2_with fail
            generalize hwe : wd.alloc (.cells #[.string ⟨#[122]⟩, .string ⟨#[122]⟩, .bool false] 56) = we at *
            clear hwe
            refine hrm.mono ?_
            rintro e wf ⟨rfl, hbf⟩
            clear hrm
            have hDf := hDe.below hbf
            have hLf := hLe.below hbf
            have hgf := hge.below hbf
            have hof := hox.below hbf
            have blf := Below_after ble hbf
            clear hDe hLe hge hox ble hbf
            by_cases hroom : (59 : Int) - (R.used : Int) < 2
            · go_wp2_with fail
              go_ret
              exact ⟨rfl, blf⟩
            have hpre : AddPre d1 ⟨1, 59, 5, R.used⟩ [⟨⟨#[122]⟩, ⟨#[122]⟩, false⟩] R.deeds := ⟨hQ, by show 1 + 59 ≤ _; omega, hub, hInv⟩
            have hadd := ladd_any Ba p q2 d1 ⟨1, 59, 5, R.used⟩ (some ⟨wd.heap.size, 0, none⟩) 1 [⟨⟨#[122]⟩, ⟨#[122]⟩, false⟩] wf hDf hLf hnq2 (hof.mono (fun k _ hk => .inl hk)) (by simp [maxLen]) hub (by show 59 ≤ 1000; decide) (by show 1 ≤ 1000; decide) (by show 5 ≤ 1000000000000; decide) (by rw [hQ.wr]; simp)
            rcases add_spec hpre with ⟨ac, ap, ae, al1, al2, -⟩ | ⟨ac, aneg, -⟩ | ⟨-, -, -, -, hbad⟩
            rotate_left
            · exact absurd aneg (by omega)
            · exfalso
              rcases hbad with h | h | h
              · simp at h
              · simp at h; omega
              · exact h hch
            rw [ac, errV_zero, ae] at hadd
            rw [ae] at ap
            dsimp only at hadd ap
            have hInv2 := ap.inv
            have hQ2 := ap.q
            generalize (addR d1 ⟨1, 59, 5, R.used⟩ [⟨⟨#[122]⟩, ⟨#[122]⟩, false⟩]).1 = d2 at *
            clear ac ap ae hpre hch hQ
            rw [List.length_singleton] at hadd
            go_wp2_with fail
            refine hadd.mono ?_
            rintro e wg ⟨rfl, Bg, hDg, hLg, hnqg, hTg⟩
            clear hadd
            have hgg := hgf.tr hTg
            have hog := hof.tr hTg
            have blg : Below w.heap.size w wg := blf.trans (hTg.to_below hbase2 blf.size)
            have hltg : Lt (Un Bg (On q2)) wg := fun k hk => by
              rcases hk with hk | hk
              · exact hDg.lt k hk
              · have := heap_lt hLg; unfold On at hk; omega
            clear hTg hDf hLf hgf hof blf hLg
            have hop := lopen_any Bg p d2 1 59 5 wg hDg hQ2.down (by decide) (by decide) (by omega) (by decide)
            rw [show ((1 : Nat) : Int) = 1 from rfl, show ((59 : Nat) : Int) = 59 from rfl, show ((5 : Nat) : Int) = 5 from rfl] at hop
            have hR2 : (lgOf 5 ((d2.now.drop 1).take 59)).deeds = R.deeds ++ [[⟨⟨#[122]⟩, ⟨#[122]⟩, false⟩]] := hInv2.read.1
            rw [hR2] at hop
            clear hR2 hInv2
            go_wp2_with fail
            refine hop.mono ?_
            rintro e wh ⟨q3, ah, ch, rfl, -, hgh, -, hbh⟩
            clear hop
            have hgi := hgg.below hbh
            have hoi := hog.below hbh
            have blh := Below_after blg hbh
            have hlth : Lt (Un Bg (On q2)) wh := fun k hk => Nat.lt_of_lt_of_le (hltg k hk) hbh.size
            clear hgg hog blg hbh hltg
            obtain ⟨vx, wx, csx, x1, x2, x3, x4, x5⟩ := run_cpy ag cg hgi (by omega) 71
            have hgx := heap_alloc_last wx (.cells #[.slice (some ⟨wd.heap.size, 0, none⟩) 1 1] 38)
            have blx := (x4.alloc x4.size (.cells #[.slice (some ⟨wd.heap.size, 0, none⟩) 1 1] 38))
            obtain ⟨ay, cy, wy, y1, y2, y3⟩ := run_both (x := [⟨⟨#[122]⟩, ⟨#[122]⟩, false⟩]) (x2.alloc _) (x3.tr (Tr.alloc _ _ _)) blx x5 (by omega) hlth wx.heap.size (some ⟨wd.heap.size, 0, none⟩) 1 hgx hoi 71
            have hbig2 : ∀ x ∈ R.deeds ++ [[⟨⟨#[122]⟩, ⟨#[122]⟩, false⟩]], x.length ≤ maxLen := fun x hx => by
              rcases List.mem_append.1 hx with hx | hx
              · have := hgb.2 x hx; simp [maxLen]; omega
              · simp at hx; rw [hx]; simp [maxLen]
            have hs3 := samedd_any _ _ ah ay ch cy _ _ wy (hgh.below y3) y2 (by simp; omega) (by simp; omega) hbig2 hbig2
            obtain ⟨avx, cvx, hvx⟩ := own_form x2
            subst hvx
            simp only [List.length_append, List.length_cons, List.length_nil, Nat.zero_add] at hs3 y1
            clear hgh y2 x2 x3 x5 hgi hoi hgx hbig2
            go_wp2_with (first | (refine wpList_runW (exec_append _ _ (.const (.slice none 0 0)) (.tmp 131) (by rfl) (by rfl) (by rfl) (by rfl) (by rfl) (by rfl) x1) (by kernel_rfl) ?_) | (refine wpList_runW (exec_append _ _ (.tmp 132) (.tmp 134) (by rfl) (by rfl) (by rfl) (by rfl) (by rfl) (by rfl) y1) (by kernel_rfl) ?_))
            refine hs3.mono ?_
            rintro e wz ⟨⟨r3, rfl, hr3⟩, hbz⟩
            obtain rfl : r3 = true := by simpa using hr3
            go_wp2_with fail
            go_ret
            exact ⟨rfl, Below_after (Below_after blh y3) hbz⟩
          · clear hs2 hFF hr1 hlc
            have hk := hrest wc hbc
            clear hrest hbc
            generalize wc = wd at *
            obtain ⟨hDd, hLd, hgd, bld⟩ := hk
            have hch : chksC [⟨⟨#[122]⟩, ⟨#[122]⟩, false⟩] = 0 := by decide
            have ble := bld.alloc bld.size (.cells #[.string ⟨#[122]⟩, .string ⟨#[122]⟩, .bool false] 56)
            have hba1 := (Below.refl wd.heap.size wd).alloc (Nat.le_refl _) (.cells #[.string ⟨#[122]⟩, .string ⟨#[122]⟩, .bool false] 56)
            have hox : ChsB (Un Ba (On q2)) (wd.alloc (.cells #[.string ⟨#[122]⟩, .string ⟨#[122]⟩, .bool false] 56)) (some ⟨wd.heap.size, 0, none⟩) [⟨⟨#[122]⟩, ⟨#[122]⟩, false⟩] := by
              refine .inr ⟨wd.heap.size, 0, rfl, by simp, fun e => ?_, fun j x hx => ?_⟩
              · rcases e with e | e
                · have := hDd.lt _ e; omega
                · have := heap_lt hLd; unfold On at e; omega
              · have hB := (Bx.new wd [.string ⟨#[122]⟩, .string ⟨#[122]⟩, .bool false] 56).2
                match j, hx with
                | 0, hx => simp at hx; subst hx; exact ⟨⟨(hB 0 _ rfl).1, (hB 1 _ rfl).1, (hB 2 _ rfl).1⟩, by decide, by decide⟩
            have hDe := hDd.below hba1
            have hLe := hLd.below hba1
            have hge := hgd.below hba1
            clear hDd hLd hgd bld hba1
            have hrm := room_any p q2 ⟨1, 59, 5, R.used⟩ _ hLe (by show 59 ≤ 100000; decide) (by show R.used ≤ 100000; omega)
            dsimp only at hrm
            rw [show ((59 : Nat) : Int) = 59 from rfl] at hrm
            go_wp2_with fail
            generalize hwe : wd.alloc (.cells #[.string ⟨#[122]⟩, .string ⟨#[122]⟩, .bool false] 56) = we at *
            clear hwe
            refine hrm.mono ?_
            rintro e wf ⟨rfl, hbf⟩
            clear hrm
            have hDf := hDe.below hbf
            have hLf := hLe.below hbf
            have hgf := hge.below hbf
            have hof := hox.below hbf
            have blf := Below_after ble hbf
            clear hDe hLe hge hox ble hbf
            by_cases hroom : (59 : Int) - (R.used : Int) < 2
            · go_wp2_with fail
              go_ret
              exact ⟨rfl, blf⟩
            have hpre : AddPre d1 ⟨1, 59, 5, R.used⟩ [⟨⟨#[122]⟩, ⟨#[122]⟩, false⟩] R.deeds := ⟨hQ, by show 1 + 59 ≤ _; omega, hub, hInv⟩
            have hadd := ladd_any Ba p q2 d1 ⟨1, 59, 5, R.used⟩ (some ⟨wd.heap.size, 0, none⟩) 1 [⟨⟨#[122]⟩, ⟨#[122]⟩, false⟩] wf hDf hLf hnq2 (hof.mono (fun k _ hk => .inl hk)) (by simp [maxLen]) hub (by show 59 ≤ 1000; decide) (by show 1 ≤ 1000; decide) (by show 5 ≤ 1000000000000; decide) (by rw [hQ.wr]; simp)
            rcases add_spec hpre with ⟨ac, ap, ae, al1, al2, -⟩ | ⟨ac, aneg, -⟩ | ⟨-, -, -, -, hbad⟩
            rotate_left
            · exact absurd aneg (by omega)
            · exfalso
              rcases hbad with h | h | h
              · simp at h
              · simp at h; omega
              · exact h hch
            rw [ac, errV_zero, ae] at hadd
            rw [ae] at ap
            dsimp only at hadd ap
            have hInv2 := ap.inv
            have hQ2 := ap.q
            generalize (addR d1 ⟨1, 59, 5, R.used⟩ [⟨⟨#[122]⟩, ⟨#[122]⟩, false⟩]).1 = d2 at *
            clear ac ap ae hpre hch hQ
            rw [List.length_singleton] at hadd
            go_wp2_with fail
            refine hadd.mono ?_
            rintro e wg ⟨rfl, Bg, hDg, hLg, hnqg, hTg⟩
            clear hadd
            have hgg := hgf.tr hTg
            have hog := hof.tr hTg
            have blg : Below w.heap.size w wg := blf.trans (hTg.to_below hbase2 blf.size)
            have hltg : Lt (Un Bg (On q2)) wg := fun k hk => by
              rcases hk with hk | hk
              · exact hDg.lt k hk
              · have := heap_lt hLg; unfold On at hk; omega
            clear hTg hDf hLf hgf hof blf hLg
            have hop := lopen_any Bg p d2 1 59 5 wg hDg hQ2.down (by decide) (by decide) (by omega) (by decide)
            rw [show ((1 : Nat) : Int) = 1 from rfl, show ((59 : Nat) : Int) = 59 from rfl, show ((5 : Nat) : Int) = 5 from rfl] at hop
            have hR2 : (lgOf 5 ((d2.now.drop 1).take 59)).deeds = R.deeds ++ [[⟨⟨#[122]⟩, ⟨#[122]⟩, false⟩]] := hInv2.read.1
            rw [hR2] at hop
            clear hR2 hInv2
            go_wp2_with fail
            refine hop.mono ?_
            rintro e wh ⟨q3, ah, ch, rfl, -, hgh, -, hbh⟩
            clear hop
            have hgi := hgg.below hbh
            have hoi := hog.below hbh
            have blh := Below_after blg hbh
            have hlth : Lt (Un Bg (On q2)) wh := fun k hk => Nat.lt_of_lt_of_le (hltg k hk) hbh.size
            clear hgg hog blg hbh hltg
            obtain ⟨vx, wx, csx, x1, x2, x3, x4, x5⟩ := run_cpy ag cg hgi (by omega) 71
            have hgx := heap_alloc_last wx (.cells #[.slice (some ⟨wd.heap.size, 0, none⟩) 1 1] 38)
            have blx := (x4.alloc x4.size (.cells #[.slice (some ⟨wd.heap.size, 0, none⟩) 1 1] 38))
            obtain ⟨ay, cy, wy, y1, y2, y3⟩ := run_both (x := [⟨⟨#[122]⟩, ⟨#[122]⟩, false⟩]) (x2.alloc _) (x3.tr (Tr.alloc _ _ _)) blx x5 (by omega) hlth wx.heap.size (some ⟨wd.heap.size, 0, none⟩) 1 hgx hoi 71
            have hbig2 : ∀ x ∈ R.deeds ++ [[⟨⟨#[122]⟩, ⟨#[122]⟩, false⟩]], x.length ≤ maxLen := fun x hx => by
              rcases List.mem_append.1 hx with hx | hx
              · have := hgb.2 x hx; simp [maxLen]; omega
              · simp at hx; rw [hx]; simp [maxLen]
            have hs3 := samedd_any _ _ ah ay ch cy _ _ wy (hgh.below y3) y2 (by simp; omega) (by simp; omega) hbig2 hbig2
            obtain ⟨avx, cvx, hvx⟩ := own_form x2
            subst hvx
            simp only [List.length_append, List.length_cons, List.length_nil, Nat.zero_add] at hs3 y1
            clear hgh y2 x2 x3 x5 hgi hoi hgx hbig2
            go_wp2_with (first | (refine wpList_runW (exec_append _ _ (.const (.slice none 0 0)) (.tmp 131) (by rfl) (by rfl) (by rfl) (by rfl) (by rfl) (by rfl) x1) (by kernel_rfl) ?_) | (refine wpList_runW (exec_append _ _ (.tmp 132) (.tmp 134) (by rfl) (by rfl) (by rfl) (by rfl) (by rfl) (by rfl) y1) (by kernel_rfl) ?_))
            refine hs3.mono ?_
            rintro e wz ⟨⟨r3, rfl, hr3⟩, hbz⟩
            obtain rfl : r3 = true := by simpa using hr3
            go_wp2_with fail
            go_ret
            exact ⟨rfl, Below_after (Below_after blh y3) hbz⟩
        · have hev := HEV.out
          rw [errV_pos ac] at hev
          subst hev
          have hnum := number_err cc wy
          rw [errV_pos ac] at hnum
          have d10 : (cc == 10) = false := by simpa using ac2
          rw [ad] at hDy
          rw [al1] at hLy
          clear HSP HEV ad al1 ac2
          go_wp2_with fail
          refine hnum.mono ?_
          rintro e w9 ⟨rfl, rfl⟩
          clear hnum
          go_wp2_with fail
          go_roundw
          case rel => exact ⟨k + 1, B1, d, u, aw, aw, cw, cw, want, want, by omega, by go_num, rfl, rfl, hDy, hLy, hnq1, hbase1, bly, hwy, hwy, HPRE.out, hd60, ⟨by omega, hwl.2⟩, ⟨by omega, hwl.2⟩⟩
          case measure => simp [intOf]; omega
theorem i64_wf {x : Int} (h : (Lit.int .i64 x).wf = true) : -9223372036854775808 ≤ x ∧ x ≤ 9223372036854775807 := by
  simpa [Lit.wf, IntKind.min, IntKind.max, IntKind.bits, IntKind.signed] using h
theorem u64_wf {x : Int} (h : (Lit.int .u64 x).wf = true) : ∃ n : Nat, x = n ∧ n < 18446744073709551616 := by
  simp [Lit.wf, IntKind.min, IntKind.max, IntKind.bits, IntKind.signed] at h
  exact ⟨x.toNat, by omega, by omega⟩
theorem tlog_any (w : World) (a : Option Addr) (L : List (List Ch)) (c : Nat) (hin : DdsB (fun _ => False) w a L) (hm : L.length ≤ maxLen) (hs : ∀ x ∈ L, x.length ≤ maxLen) (fuse : Int) (hf : (Lit.int .i64 fuse).wf = true) (x : Int) (hx : (Lit.int .u64 x).wf = true) :
    Calls Try.prog 7 #[.slice a L.length c, .int .i64 fuse, .int .u64 x] w fun e w' => e = .returned (.bool true) ∧ Below w.heap.size w w' := by
  obtain ⟨keep, rfl, hk⟩ := u64_wf hx
  have hf2 := i64_wf hf
  cases hq : ldB L 8
  · exact tlog_no a L c fuse keep w hin hm hs hf2.1 hf2.2 hk hq
  · exact tlog_yes a L c fuse keep w hin hm hs hf2.1 hf2.2 hk hq
end Go.Proofs.Ytjhkabhhlpdpaaa
