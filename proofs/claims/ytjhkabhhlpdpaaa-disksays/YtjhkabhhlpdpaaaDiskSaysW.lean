/- DiskSays, walked. -/
import Derived.Test.YtjhkabhhlpdpaaaRdR
import Derived.Test.YtjhkabhhlpdpaaaRdN
set_option linter.unusedVariables false
set_option linter.unusedSimpArgs false
set_option linter.unnecessarySimpa false
namespace Go.Proofs.Ytjhkabhhlpdpaaa
open Go.RowKit

@[go_sem] theorem asErrD (v : Value) (w : World) : (Instr.typeAssert (.iface 84 v) 27 84 true).run Try.prog w = .ok (.tuple #[v, .bool true]) w := by kernel_rfl
set_option maxHeartbeats 1000000 in
set_option maxRecDepth 100000 in
theorem dsame_eq (n : Int) (w : World) (h : 0 ≤ n) :
    Calls Try.prog 12 #[errV n, .int .i64 n] w fun e w' => e = .returned (.bool true) ∧ w' = w := by
  by_cases h0 : n = 0
  · subst h0
    rw [errV_zero]
    go_enter Try.func12, Try.ntmps12
    go_wp2_with fail
    go_ret
    exact ⟨rfl, rfl⟩
  · rw [errV_pos h0]
    have h1 : 0 < n := by omega
    have d1 : decide (0 < n) = true := decide_eq_true h1
    clear h0
    go_enter Try.func12, Try.ntmps12
    go_wp2_with fail
    go_ret
    exact ⟨rfl, rfl⟩
theorem down_o (B : Nat → Prop) (p : Nat) (d : Dk) (w : World) (h : DkO w B p d) :
    Calls Try.prog 23 #[.pointer (some ⟨p, 0, none⟩)] w fun e w' => e = .returned (.bool d.down) ∧ w' = w := by
  obtain ⟨b1, b2, v, h, rfl⟩ := h
  exact down_any 0 p b1 b2 v d w h
theorem exec_maxF (ρ : Operand → Value) (o : Oper) (x y : Operand) {c : Call} (a : Int) (w : World) (ho : o.op = .call c) (hc : c.callee = .builtin .max) (hca : c.args = #[x, y]) (hx : ρ x = .int .i64 a) (hy : ρ y = .int .i64 (-1)) : (execOp ρ o).run Try.prog w = .ok (.value (.int .i64 (fuI a))) w := by
  unfold execOp
  simp only [ho, resolve, hc, hca, List.map_toArray, List.map_cons, List.map_nil, hx, hy, Sem.run_bind, Sem.run_pure, Result.andThen_ok, invoke, builtin, run_max_int2, fuI]
theorem dlac_len {l : List Ac} {m : Int} (h : lacB l m = true) : (l.length : Int) ≤ m := by
  unfold lacB at h
  rw [Bool.and_eq_true] at h
  exact of_decide_eq_true h.1
/-- both disks lie there, apart -/
structure DsI (w0 wr : World) (p : Nat) (B : Nat → Prop) (m : Nat) (C : Nat → Prop) (dp dr : Dk) (fu : Int) : Prop where
  hD : DkO wr B p dp
  hR : RdO wr C m dr fu
  dj : Dj B C
  bB : ∀ k, B k → w0.heap.size ≤ k
  bC : ∀ k, C k → w0.heap.size ≤ k
  bl : Below w0.heap.size w0 wr
theorem DsI.below {w0 wr w' : World} {p m : Nat} {B C : Nat → Prop} {dp dr : Dk} {fu : Int} (h : DsI w0 wr p B m C dp dr fu) (hb : Below wr.heap.size wr w') : DsI w0 w' p B m C dp dr fu :=
  ⟨h.hD.below hb, h.hR.below hb, h.dj, h.bB, h.bC, Below_after h.bl hb⟩
theorem DsI.one {w0 wr w' : World} {p m : Nat} {B C B' : Nat → Prop} {dp dr dp' : Dk} {fu : Int} (h : DsI w0 wr p B m C dp dr fu) (hD : DkO w' B' p dp') (ht : Tr B B' wr w') : DsI w0 w' p B' m C dp' dr fu :=
  ⟨hD, h.hR.past ht h.dj, ht.dj h.dj h.hR.lt, ht.base h.bB h.bl.size, h.bC, h.bl.trans (ht.to_below h.bB h.bl.size)⟩
theorem DsI.two {w0 wr w' : World} {p m : Nat} {B C C' : Nat → Prop} {dp dr dr' : Dk} {fu fu' : Int} (h : DsI w0 wr p B m C dp dr fu) (hR : RdO w' C' m dr' fu') (ht : Tr C C' wr w') : DsI w0 w' p B m C' dp dr' fu' := by
  have hj : Dj C B := fun k h1 h2 => h.dj k h2 h1
  have hj' : Dj C' B := ht.dj hj h.hD.lt
  exact ⟨h.hD.past ht hj, hR, fun k h1 h2 => hj' k h2 h1, h.bB, ht.base h.bC h.bl.size, h.bl.trans (ht.to_below h.bC h.bl.size)⟩
theorem wrC_nn (d : Dk) (a : Int) (s : ByteArray) : 0 ≤ wrC d a s := by unfold wrC; split <;> (try split) <;> decide
theorem flC_nn (d : Dk) : 0 ≤ flC d := by unfold flC; split <;> decide
theorem rdC_nn (d : Dk) (a : Int) : 0 ≤ rdC d a := by unfold rdC; split <;> (try split) <;> decide
theorem wr_len1 (d : Dk) (a : Int) (s : ByteArray) : (wrR d a s).wr.length ≤ d.wr.length + 1 := wr_wr_len d a s
theorem fl_len1 (d : Dk) : (flR d).wr.length ≤ d.wr.length := by
  unfold flR
  split
  · rw [(step_now d).2.2]; exact Nat.le_refl _
  · exact Nat.zero_le _
theorem fl_now (d : Dk) : (flR d).now.length = d.now.length := by
  unfold flR
  split
  · rw [(step_now d).1]
  · rfl
theorem re_now {d : Dk} (h : DkOk d) (keep : Nat) : (reR d keep).now.length = d.now.length := by
  show (landW keep d.kept d.wr 0).length = _
  rw [land_len, h.len]
theorem u64_of {x : Int} (h : 0 ≤ x ∧ x < 18446744073709551616) : ∃ n : Nat, x = n ∧ n < 18446744073709551616 := ⟨x.toNat, by omega, by omega⟩
def spinD : Dk := reR (flR (wrR (newD 3) 1 ⟨#[120, 121]⟩)) 0
set_option maxRecDepth 100000 in
theorem spin_rd : wrC (newD 3) 1 ⟨#[120, 121]⟩ = 0 ∧ flC (wrR (newD 3) 1 ⟨#[120, 121]⟩) = 0 ∧ rdC spinD 1 = 0 ∧ spinD.now.length = 3 ∧ rdS spinD 1 = strOf ([120, 121] ++ List.replicate 46 0) := by
  refine ⟨by decide, by decide, by decide, by decide, ?_⟩
  rfl
set_option maxHeartbeats 4000000 in
set_option maxRecDepth 100000 in
theorem spins_any (w : World) : Calls Try.prog 8 #[] w fun e w' => e = .returned (.bool true) ∧ Below w.heap.size w w' := by
  obtain ⟨s1, s2, s3, s4, s5⟩ := spin_rd
  have hcon := new_o 3 w (by decide) (by decide)
  rw [show ((3 : Nat) : Int) = 3 from rfl] at hcon
  have HS4 : Hid (spinD.now.length = 3) := s4
  have HS5 : Hid (rdS spinD 1 = strOf ([120, 121] ++ List.replicate 46 0)) := s5
  clear s4 s5
  have hsm := fun W => dsame_eq 0 W (by decide)
  rw [errV_zero] at hsm
  go_enter Try.func8, Try.ntmps8
  go_wp2_with fail
  refine hcon.mono ?_
  rintro e w1 ⟨p, B, rfl, hD, hB, hb1⟩
  clear hcon
  have hcon := write_o B p (newD 3) 1 ⟨#[120, 121]⟩ w1 hD (by decide) (by decide)
  rw [s1, errV_zero] at hcon
  go_wp2_with fail
  refine hcon.mono ?_
  rintro e w2 ⟨B2, rfl, hD2, hT2⟩
  clear hcon
  have hcon := flush_o B2 p _ w2 hD2
  rw [s2, errV_zero] at hcon
  go_wp2_with fail
  refine hcon.mono ?_
  rintro e w3 ⟨B3, rfl, hD3, hT3⟩
  clear hcon
  have hcon := restart_o B3 p _ 0 w3 hD3 (by decide) (by decide)
  rw [show ((0 : Nat) : Int) = 0 from rfl] at hcon
  have hTT := hT2.trans hT3
  have bl3 : Below w.heap.size w w3 := hb1.trans (hTT.to_below hB hb1.size)
  have hB3 := hTT.base hB hb1.size
  clear hT2 hT3 hTT hD2 s1 s2
  go_wp2_with fail
  refine hcon.mono ?_
  rintro e w4 ⟨B4, rfl, hD4, hT4⟩
  clear hcon
  have bl4 := bl3.trans (hT4.to_below hB3 bl3.size)
  change DkO w4 B4 p spinD at hD4
  have hcon := read_o B4 p spinD 1 w4 hD4
  rw [s3, HS5.out, errV_zero] at hcon
  have hse := sectors_o B4 p spinD w4 hD4
  rw [HS4.out] at hse
  have hz : (strOf ([120, 121] ++ List.replicate 46 0)).size = 48 := rfl
  have hx : ((strOf ([120, 121] ++ List.replicate 46 0)).extract 0 2).toList = [120, 121] := by decide +kernel
  clear hT4 hD4 hD3 hB3 bl3 hB hb1 hD s3
  generalize strOf ([120, 121] ++ List.replicate 46 0) = str at *
  go_wp2_with fail
  refine hcon.mono ?_
  rintro e w5 ⟨rfl, rfl⟩
  clear hcon
  go_wp2_with fail
  refine (hsm _).mono ?_
  rintro e w6 ⟨rfl, rfl⟩
  go_wp2_with fail
  refine (hsm _).mono ?_
  rintro e w7 ⟨rfl, rfl⟩
  go_wp2_with fail
  refine (hsm _).mono ?_
  rintro e w8 ⟨rfl, rfl⟩
  go_wp2_with fail
  refine hse.mono ?_
  rintro e w9 ⟨rfl, rfl⟩
  go_wp2_with fail
  go_ret
  exact ⟨rfl, bl4⟩
set_option maxHeartbeats 4000000 in
set_option maxRecDepth 100000 in
theorem dsays_no (n : Int) (a : Option Addr) (l : List Ac) (c : Nat) (w : World) (hw : AcsAt w a l) (hm : l.length ≤ maxLen) (hq : lacB l 80 = false) :
    Calls Try.prog 3 #[.int .i64 n, .slice a l.length c] w fun e w' => e = .returned (.bool true) ∧ Below w.heap.size w w' := by
  have hcon := spins_any w
  go_enter Try.func3, Try.ntmps3
  go_wp2_with fail
  refine hcon.mono ?_
  rintro e w1 ⟨rfl, hb1⟩
  clear hcon
  have hcon := lac_any a c l 80 w1 (hw.below hb1) hm (by decide) (by decide)
  rw [hq] at hcon
  go_wp2_with fail
  refine hcon.mono ?_
  rintro e w2 ⟨rfl, rfl⟩
  clear hcon
  go_wp2_with fail
  go_ret
  exact ⟨rfl, hb1⟩
set_option maxHeartbeats 4000000 in
set_option maxRecDepth 100000 in
theorem dsays_bad (n : Int) (a : Option Addr) (l : List Ac) (c : Nat) (w : World) (hw : AcsAt w a l) (hm : l.length ≤ maxLen) (hq : lacB l 80 = true) (hn : ¬ (1 ≤ n ∧ n ≤ 200)) :
    Calls Try.prog 3 #[.int .i64 n, .slice a l.length c] w fun e w' => e = .returned (.bool true) ∧ Below w.heap.size w w' := by
  have hcon := spins_any w
  go_enter Try.func3, Try.ntmps3
  go_wp2_with fail
  refine hcon.mono ?_
  rintro e w1 ⟨rfl, hb1⟩
  clear hcon
  have hcon := lac_any a c l 80 w1 (hw.below hb1) hm (by decide) (by decide)
  rw [hq] at hcon
  go_wp2_with fail
  refine hcon.mono ?_
  rintro e w2 ⟨rfl, rfl⟩
  clear hcon
  have hcon := new_no n w2 hn
  go_wp2_with fail
  refine hcon.mono ?_
  rintro e w3 ⟨rfl, rfl⟩
  clear hcon
  have hcon := rnew_no n w3 hn
  go_wp2_with fail
  refine hcon.mono ?_
  rintro e w4 ⟨rfl, rfl⟩
  clear hcon
  have hcon := dsame_eq 1 w4 (by decide)
  rw [errV_pos (by decide)] at hcon
  go_wp2_with fail
  refine hcon.mono ?_
  rintro e w5 ⟨rfl, rfl⟩
  go_wp2_with fail
  go_ret
  exact ⟨rfl, hb1⟩
set_option maxHeartbeats 4000000 in
set_option maxRecDepth 100000 in
theorem dsays_go (n : Int) (a : Option Addr) (l : List Ac) (c : Nat) (w : World) (hw : AcsAt w a l) (hm : l.length ≤ maxLen) (hq : lacB l 80 = true) (hn : 1 ≤ n ∧ n ≤ 200) :
    Calls Try.prog 3 #[.int .i64 n, .slice a l.length c] w fun e w' => e = .returned (.bool true) ∧ Below w.heap.size w w' := by
  have hcon := spins_any w
  go_enter Try.func3, Try.ntmps3
  go_wp2_with fail
  refine hcon.mono ?_
  rintro e w1 ⟨rfl, hb1⟩
  clear hcon
  have hcon := lac_any a c l 80 w1 (hw.below hb1) hm (by decide) (by decide)
  rw [hq] at hcon
  go_wp2_with fail
  refine hcon.mono ?_
  rintro e w2 ⟨rfl, rfl⟩
  clear hcon
  obtain ⟨n, rfl⟩ : ∃ k : Nat, n = k := ⟨n.toNat, by omega⟩
  have hl80 : l.length ≤ 80 := by have := dlac_len hq; omega
  have hszs : ∀ x ∈ l, x.sd.size ≤ maxLen := fun x hx => by
    have h := hq
    unfold lacB at h
    rw [Bool.and_eq_true, List.all_eq_true] at h
    have := h.2 x hx
    rw [Bool.and_eq_true] at this
    have := of_decide_eq_true this.1
    unfold maxLen; omega
  have hcon := new_o n w2 (by omega) (by omega)
  go_wp2_with fail
  refine hcon.mono ?_
  rintro e w3 ⟨p, B, rfl, hD, hB, hb3⟩
  clear hcon
  have hcon := rnew_go n w3 (by omega) (by omega)
  go_wp2_with fail
  refine hcon.mono ?_
  rintro e w4 ⟨m, C, rfl, hR, hC, hb4⟩
  clear hcon
  have h : DsI w w4 p B m C (newD n) (newD n) (-1) := ⟨hD.below hb4, hR, fun k h1 h2 => by have := hD.lt k h1; have := hC k h2; omega, fun k hk => Nat.le_trans hb1.size (hB k hk), fun k hk => Nat.le_trans hb1.size (Nat.le_trans hb3.size (hC k hk)), Below_after (Below_after hb1 hb3) hb4⟩
  have hnl : (newD n).now.length = n := by simp [newD]
  have hwl : (newD n).wr.length ≤ 0 := Nat.le_refl _
  have hcon := sectors_o B p (newD n) w4 h.hD
  rw [hnl] at hcon
  generalize newD n = d at *
  clear hD hR hB hC hb1 hb3 hb4
  go_wp2_with fail
  refine hcon.mono ?_
  rintro e w5 ⟨rfl, rfl⟩
  clear hcon
  go_wp2_with fail
  go_loopw [10, 11, 12, 13, 14, 15, 16] (fun i _ _ _ _ _ _ wr => ∃ (k : Nat) (B C : Nat → Prop) (d : Dk) (fu : Int), k ≤ l.length ∧ i = .int .i64 k ∧ DsI w wr p B m C d d fu ∧ d.wr.length ≤ k ∧ d.now.length = n) (fun i _ _ _ _ _ _ _ => l.length - (intOf i).toNat)
  case atStart => exact ⟨0, B, C, d, -1, Nat.zero_le _, rfl, h, hwl, hnl⟩
  case round =>
    clear h hwl hnl
    obtain ⟨k, B, C, d, fu, hk, rfl, h, hwl, hnl⟩ := hrel
    by_cases hlt : k < l.length
    rotate_left
    · have dlt : decide ((k : Int) < (l.length : Int)) = false := decide_eq_false (by omega)
      go_wp2_with fail
      clear dlt
      go_loopw [17, 18, 19, 20, 21] (fun i _ _ _ _ wr => ∃ (z : Int), i = .int .i64 z ∧ -1 ≤ z ∧ z ≤ (n : Int) + 1 ∧ DsI w wr p B m C d d fu) (fun i _ _ _ _ _ => ((n : Int) + 1 - intOf i).toNat)
      case atStart => exact ⟨-1, rfl, by omega, by omega, h⟩
      case round =>
        clear h
        obtain ⟨z, rfl, hz1, hz2, h⟩ := hrel
        by_cases hzn : z ≤ (n : Int)
        · have dz : decide (z ≤ (n : Int)) = true := decide_eq_true hzn
          have hsm := fun W => dsame_eq (rdC d z) W (rdC_nn _ _)
          have hra := fun W (hW : DkO W B p d) => read_o B p d z W hW
          have hrb := fun W (hW : RdO W C m d fu) => rread_any C m d fu z W hW
          generalize rdS d z = sv at *
          generalize rdC d z = cv at *
          go_wp2_with fail
          refine (hra _ h.hD).mono ?_
          rintro e wc ⟨rfl, rfl⟩
          go_wp2_with fail
          refine (hrb _ h.hR).mono ?_
          rintro e wd ⟨rfl, hbd⟩
          have hZ := h.below hbd
          go_wp2_with fail
          refine (hsm _).mono ?_
          rintro e wz ⟨rfl, rfl⟩
          go_wp2_with fail
          go_roundw
          case rel => exact ⟨z + 1, rfl, by omega, by omega, hZ⟩
          case measure => simp [intOf]; omega
        · have dz : decide (z ≤ (n : Int)) = false := decide_eq_false hzn
          go_wp2_with fail
          go_ret
          exact ⟨rfl, h.bl⟩
    have dlt : decide ((k : Int) < (l.length : Int)) = true := decide_eq_true (by omega)
    obtain ⟨x, hx⟩ : ∃ x, l[k]? = some x := ⟨l[k], List.getElem?_eq_getElem hlt⟩
    have hsz := hszs x (List.mem_of_getElem? hx)
    obtain ⟨b, o, rfl, hbb, hww⟩ := (hw.below h.bl).resolve_left (by rintro e; rw [e] at hlt; simp at hlt)
    obtain ⟨⟨q0, q1, q2, q3, q4, q5, q6, q7, q8, q9, q10⟩, -⟩ := hww k x hx
    clear hww hx
    obtain ⟨wj, hwj⟩ : ∃ wj, wr = wj := ⟨_, rfl⟩
    subst hwj
    have BX := Bx.new wr [.string x.kd, .string x.sd, .int .i64 x.ph, .int .i64 x.ps, .int .i64 x.qh, .int .i64 x.qs, .int .i64 x.aa, .int .i64 x.bb, .int .i64 x.nn, .int .u64 x.kk, .slice x.xc x.lc x.cc] 40
    have hgB : ¬ B wr.heap.size := fun e => by have := h.hD.lt _ e; omega
    have hgC : ¬ C wr.heap.size := fun e => by have := h.hR.lt _ e; omega
    replace h := h.below ((Below.refl _ _).alloc (Nat.le_refl _) (.cells #[.string x.kd, .string x.sd, .int .i64 x.ph, .int .i64 x.ps, .int .i64 x.qh, .int .i64 x.qs, .int .i64 x.aa, .int .i64 x.bb, .int .i64 x.nn, .int .u64 x.kk, .slice x.xc x.lc x.cc] 40))
    by_cases hk0 : x.kd.toList = [119, 114, 105, 116, 101]
    · have e0 : (x.kd.toList == [119, 114, 105, 116, 101]) = true := by simpa using hk0
      have hl1 := wr_len1 d x.nn x.sd
      have hn1 := wr_now_len d x.nn x.sd
      have hn2 : (wrR d x.nn x.sd).now.length = n := hn1.trans hnl
      have hsm := fun W => dsame_eq (wrC d x.nn x.sd) W (wrC_nn _ _ _)
      go_wp2_with fail
      generalize wr.alloc (.cells #[.string x.kd, .string x.sd, .int .i64 x.ph, .int .i64 x.ps, .int .i64 x.qh, .int .i64 x.qs, .int .i64 x.aa, .int .i64 x.bb, .int .i64 x.nn, .int .u64 x.kk, .slice x.xc x.lc x.cc] 40) = wb at *
      generalize wr.heap.size = g at *
      have h : DsI w wb.drew p B m C d d fu := h.below (below_drewN (Below.refl _ _) 1)
      have s8 : wb.drew.cell? ⟨g, 8, none⟩ = some (.int .i64 x.nn) := (BX.2 8 _ rfl).1
      have s1 : wb.drew.cell? ⟨g, 1, none⟩ = some (.string x.sd) := (BX.2 1 _ rfl).1
      have zg : g < wb.drew.heap.size := BX.1
      have hcon := write_o B p d x.nn x.sd wb.drew h.hD hsz (by omega)
      refine wp_region_held_drew (S := fun w' => w'.cell? ⟨g, 8, none⟩ = some (.int .i64 x.nn) ∧ w'.cell? ⟨g, 1, none⟩ = some (.string x.sd)) (by kernel_rfl) ?_ (fun hHeld => ?_)
      · exact ⟨s8, s1⟩
      generalize wb.drew = wc at *
      refine wpAnyH_take (i := 0) (oi := ({ dst := some 84, op := Op.move (Operand.tmp 6), type := 25, pos := "law.go:348", after := #[], guard := none } : Oper)) (v := .pointer (some ⟨p, 0, none⟩)) rfl (by kernel_rfl) (by kernel_rfl) (by kernel_rfl) (fun _ _ _ h => h) (Or.inl ⟨by rfl, ?_⟩) (by assumption) ?_
      · intro w hSw; (try dsimp only at hSw); go_simp
      (try simp only [Act.put, List.setIfInBounds_toArray, List.set_cons_zero, List.set_cons_succ])
      refine wpAnyH_take (i := 1) (oi := ({ dst := some 85, op := Op.fieldAddr 40 (Operand.tmp 11) 6, type := 0, pos := "law.go:348", after := #[], guard := none } : Oper)) (v := .pointer (some ⟨g, 8, none⟩)) rfl (by kernel_rfl) (by kernel_rfl) (by kernel_rfl) (fun _ _ _ h => h) (Or.inl ⟨by rfl, ?_⟩) (by assumption) ?_
      · intro w hSw; (try dsimp only at hSw); go_simp
      (try simp only [Act.put, List.setIfInBounds_toArray, List.set_cons_zero, List.set_cons_succ])
      refine wpAnyH_take (i := 2) (oi := ({ dst := some 86, op := Op.load 3 (Operand.tmp 85), type := 3, pos := "law.go:348", after := #[{ on := 1, ground := Ground.data }], guard := none } : Oper)) (v := .int .i64 x.nn) rfl (by kernel_rfl) (by kernel_rfl) (by kernel_rfl) (fun _ _ _ h => h) (Or.inl ⟨by rfl, ?_⟩) (by assumption) ?_
      · intro w hSw; (try dsimp only at hSw); go_simp
      (try simp only [Act.put, List.setIfInBounds_toArray, List.set_cons_zero, List.set_cons_succ])
      refine wpAnyH_take (i := 3) (oi := ({ dst := some 87, op := Op.fieldAddr 40 (Operand.tmp 11) 1, type := 0, pos := "law.go:348", after := #[], guard := none } : Oper)) (v := .pointer (some ⟨g, 1, none⟩)) rfl (by kernel_rfl) (by kernel_rfl) (by kernel_rfl) (fun _ _ _ h => h) (Or.inl ⟨by rfl, ?_⟩) (by assumption) ?_
      · intro w hSw; (try dsimp only at hSw); go_simp
      (try simp only [Act.put, List.setIfInBounds_toArray, List.set_cons_zero, List.set_cons_succ])
      refine wpAnyH_take (i := 4) (oi := ({ dst := some 88, op := Op.load 9 (Operand.tmp 87), type := 9, pos := "law.go:348", after := #[{ on := 3, ground := Ground.data }], guard := none } : Oper)) (v := .string x.sd) rfl (by kernel_rfl) (by kernel_rfl) (by kernel_rfl) (fun _ _ _ h => h) (Or.inl ⟨by rfl, ?_⟩) (by assumption) ?_
      · intro w hSw; (try dsimp only at hSw); go_simp
      (try simp only [Act.put, List.setIfInBounds_toArray, List.set_cons_zero, List.set_cons_succ])
      refine wpAnyH_take (i := 6) (oi := ({ dst := some 90, op := Op.move (Operand.tmp 8), type := 30, pos := "law.go:348", after := #[], guard := none } : Oper)) (v := .pointer (some ⟨m, 0, none⟩)) rfl (by kernel_rfl) (by kernel_rfl) (by kernel_rfl) (fun _ _ _ h => h) (Or.inl ⟨by rfl, ?_⟩) (by assumption) ?_
      · intro w hSw; (try dsimp only at hSw); go_simp
      (try simp only [Act.put, List.setIfInBounds_toArray, List.set_cons_zero, List.set_cons_succ])
      refine wpAnyH_take (i := 7) (oi := ({ dst := some 91, op := Op.fieldAddr 40 (Operand.tmp 11) 6, type := 0, pos := "law.go:348", after := #[], guard := none } : Oper)) (v := .pointer (some ⟨g, 8, none⟩)) rfl (by kernel_rfl) (by kernel_rfl) (by kernel_rfl) (fun _ _ _ h => h) (Or.inl ⟨by rfl, ?_⟩) (by assumption) ?_
      · intro w hSw; (try dsimp only at hSw); go_simp
      (try simp only [Act.put, List.setIfInBounds_toArray, List.set_cons_zero, List.set_cons_succ])
      refine wpAnyH_take (i := 8) (oi := ({ dst := some 92, op := Op.load 3 (Operand.tmp 91), type := 3, pos := "law.go:348", after := #[{ on := 7, ground := Ground.data }], guard := none } : Oper)) (v := .int .i64 x.nn) rfl (by kernel_rfl) (by kernel_rfl) (by kernel_rfl) (fun _ _ _ h => h) (Or.inl ⟨by rfl, ?_⟩) (by assumption) ?_
      · intro w hSw; (try dsimp only at hSw); go_simp
      (try simp only [Act.put, List.setIfInBounds_toArray, List.set_cons_zero, List.set_cons_succ])
      refine wpAnyH_take (i := 9) (oi := ({ dst := some 93, op := Op.fieldAddr 40 (Operand.tmp 11) 1, type := 0, pos := "law.go:348", after := #[], guard := none } : Oper)) (v := .pointer (some ⟨g, 1, none⟩)) rfl (by kernel_rfl) (by kernel_rfl) (by kernel_rfl) (fun _ _ _ h => h) (Or.inl ⟨by rfl, ?_⟩) (by assumption) ?_
      · intro w hSw; (try dsimp only at hSw); go_simp
      (try simp only [Act.put, List.setIfInBounds_toArray, List.set_cons_zero, List.set_cons_succ])
      refine wpAnyH_take (i := 10) (oi := ({ dst := some 94, op := Op.load 9 (Operand.tmp 93), type := 9, pos := "law.go:348", after := #[{ on := 9, ground := Ground.data }], guard := none } : Oper)) (v := .string x.sd) rfl (by kernel_rfl) (by kernel_rfl) (by kernel_rfl) (fun _ _ _ h => h) (Or.inl ⟨by rfl, ?_⟩) (by assumption) ?_
      · intro w hSw; (try dsimp only at hSw); go_simp
      (try simp only [Act.put, List.setIfInBounds_toArray, List.set_cons_zero, List.set_cons_succ])
      refine wpAnyH_ready (rs := [5]) (by kernel_rfl) (by simp) ?_
      refine AllReadyH.cons (o := ({ dst := some 89, op := Op.call { callee := Callee.value (Operand.func 14), args := #[Operand.tmp 84, Operand.tmp 86, Operand.tmp 88], argTypes := #[25, 3, 9] }, type := 27, pos := "law.go:348", after := #[{ on := 0, ground := Ground.data }, { on := 2, ground := Ground.data }, { on := 4, ground := Ground.data }], guard := none } : Oper)) rfl (fun K hK => ?_) AllReadyH.nil
      rw [if_pos (by rfl)]
      go_wp2_with fail
      refine hcon.mono ?_
      rintro e wd ⟨B2, rfl, hD2, hT2⟩
      clear hcon
      have h2 := h.one hD2 hT2
      have s8d : wd.cell? ⟨g, 8, none⟩ = some (.int .i64 x.nn) := (hT2.cell zg hgB).trans s8
      have s1d : wd.cell? ⟨g, 1, none⟩ = some (.string x.sd) := (hT2.cell zg hgB).trans s1
      have zgd := (hT2.out zg hgB).1
      have hcon := rwrite_any C m d fu x.nn x.sd wd h2.hR hsz (by omega)
      go_wp2_with fail
      refine hK.out _ _ ?_ (fun hHeld => ?_)
      · exact ⟨s8d, s1d⟩
      clear hK K
      (try simp only [Act.put, List.setIfInBounds_toArray, List.set_cons_zero, List.set_cons_succ])
      refine wpAnyH_ready (rs := [11]) (by kernel_rfl) (by simp) ?_
      refine AllReadyH.cons (o := ({ dst := some 95, op := Op.call { callee := Callee.value (Operand.func 15), args := #[Operand.tmp 90, Operand.tmp 92, Operand.tmp 94], argTypes := #[30, 3, 9] }, type := 3, pos := "law.go:348", after := #[{ on := 6, ground := Ground.data }, { on := 8, ground := Ground.data }, { on := 10, ground := Ground.data }, { on := 5, ground := Ground.chain }], guard := none } : Oper)) rfl (fun K hK => ?_) AllReadyH.nil
      rw [if_pos (by rfl)]
      go_wp2_with fail
      refine hcon.mono ?_
      rintro e we ⟨rfl, C2, fu2, hR2, hU2⟩
      clear hcon
      have hZ := h2.two hR2 hU2
      have s8e : we.cell? ⟨g, 8, none⟩ = some (.int .i64 x.nn) := (hU2.cell zgd hgC).trans s8d
      have s1e : we.cell? ⟨g, 1, none⟩ = some (.string x.sd) := (hU2.cell zgd hgC).trans s1d
      go_wp2_with fail
      refine hK.out _ _ ?_ (fun hHeld => ?_)
      · exact ⟨s8e, s1e⟩
      clear hK K
      (try simp only [Act.put, List.setIfInBounds_toArray, List.set_cons_zero, List.set_cons_succ])
      refine wpAnyH_ready (rs := [12]) (by kernel_rfl) (by simp) ?_
      refine AllReadyH.cons (o := ({ dst := some 96, op := Op.call { callee := Callee.value (Operand.func 12), args := #[Operand.tmp 89, Operand.tmp 95], argTypes := #[27, 3] }, type := 4, pos := "law.go:348", after := #[{ on := 5, ground := Ground.data }, { on := 11, ground := Ground.data }, { on := 11, ground := Ground.chain }], guard := none } : Oper)) rfl (fun K hK => ?_) AllReadyH.nil
      rw [if_pos (by rfl)]
      go_wp2_with fail
      refine (hsm _).mono ?_
      rintro e wz ⟨rfl, rfl⟩
      go_wp2_with fail
      refine hK.out _ _ ?_ (fun hHeld => ?_)
      · exact ⟨s8e, s1e⟩
      clear hK K
      (try simp only [Act.put, List.setIfInBounds_toArray, List.set_cons_zero, List.set_cons_succ])
      refine wpAnyH_take (i := 13) (oi := ({ dst := some 12, op := Op.assign (Operand.tmp 96), type := 4, pos := "law.go:348", after := #[{ on := 12, ground := Ground.data }, { on := 12, ground := Ground.chain }, { on := 0, ground := Ground.phase }, { on := 1, ground := Ground.phase }, { on := 2, ground := Ground.phase }, { on := 3, ground := Ground.phase }, { on := 4, ground := Ground.phase }, { on := 5, ground := Ground.phase }, { on := 6, ground := Ground.phase }, { on := 7, ground := Ground.phase }, { on := 8, ground := Ground.phase }, { on := 9, ground := Ground.phase }, { on := 10, ground := Ground.phase }, { on := 11, ground := Ground.phase }, { on := 12, ground := Ground.phase }], guard := none } : Oper)) (v := .bool true) rfl (by kernel_rfl) (by kernel_rfl) (by kernel_rfl) (fun _ _ _ h => h) (Or.inl ⟨by rfl, ?_⟩) (by assumption) ?_
      · intro w hSw; (try dsimp only at hSw); go_simp
      (try simp only [Act.put, List.setIfInBounds_toArray, List.set_cons_zero, List.set_cons_succ])
      refine wpAnyH_done (by kernel_rfl) ?_ _
      clear s8 s1 s8d s1d s8e s1e zg zgd hT2 hU2 h2 h hD2 hR2 hsm hn1 BX
      have hl2 : (wrR d x.nn x.sd).wr.length ≤ k + 1 := by omega
      clear hl1
      generalize wrR d x.nn x.sd = d2 at *
      have hY : DsI w wz.drew p B2 m C2 d2 d2 fu2 := hZ.below (below_drewN (Below.refl _ _) 1)
      obtain ⟨vkz, vnz, vwz, hRz, hCz⟩ := hZ.hR
      have cz := hRz.cells.2.2.2.2
      have mz := heap_lt hRz.hp
      have hdn := down_o _ p d2 wz.drew (hZ.hD.below (below_drewN (Below.refl _ _) 1))
      have czd : wz.drew.cell? ⟨m, 4, none⟩ = some (.bool d2.down) := cz
      clear hRz hCz
      generalize d2.down = bz at *
      go_wp2_with fail
      refine wp_region_held_drew (S := fun w' => w'.cell? ⟨m, 4, none⟩ = some (.bool bz)) (by kernel_rfl) ?_ (fun hHeld => ?_)
      · exact czd
      generalize wz.drew = wy at *
      refine wpAnyH_take (i := 0) (oi := ({ dst := some 140, op := Op.move (Operand.tmp 12), type := 4, pos := "law.go:362", after := #[], guard := none } : Oper)) (v := .bool true) rfl (by kernel_rfl) (by kernel_rfl) (by kernel_rfl) (fun _ _ _ h => h) (Or.inl ⟨by rfl, ?_⟩) (by assumption) ?_
      · intro w hSw; (try dsimp only at hSw); go_simp
      (try simp only [Act.put, List.setIfInBounds_toArray, List.set_cons_zero, List.set_cons_succ])
      refine wpAnyH_take (i := 1) (oi := ({ dst := some 141, op := Op.unOp UnOp.not 4 (Operand.tmp 140), type := 4, pos := "law.go:362", after := #[{ on := 0, ground := Ground.data }], guard := none } : Oper)) (v := .bool false) rfl (by kernel_rfl) (by kernel_rfl) (by kernel_rfl) (fun _ _ _ h => h) (Or.inl ⟨by rfl, ?_⟩) (by assumption) ?_
      · intro w hSw; (try dsimp only at hSw); go_simp
      (try simp only [Act.put, List.setIfInBounds_toArray, List.set_cons_zero, List.set_cons_succ])
      refine wpAnyH_take (i := 2) (oi := ({ dst := some 142, op := Op.move (Operand.tmp 141), type := 4, pos := "law.go:362", after := #[{ on := 1, ground := Ground.data }], guard := none } : Oper)) (v := .bool false) rfl (by kernel_rfl) (by kernel_rfl) (by kernel_rfl) (fun _ _ _ h => h) (Or.inl ⟨by rfl, ?_⟩) (by assumption) ?_
      · intro w hSw; (try dsimp only at hSw); go_simp
      (try simp only [Act.put, List.setIfInBounds_toArray, List.set_cons_zero, List.set_cons_succ])
      refine wpAnyH_take (i := 3) (oi := ({ dst := some 143, op := Op.move (Operand.tmp 6), type := 25, pos := "law.go:362", after := #[{ on := 2, ground := Ground.guard }], guard := some (2, false) } : Oper)) (v := .pointer (some ⟨p, 0, none⟩)) rfl (by kernel_rfl) (by kernel_rfl) (by kernel_rfl) (fun _ _ _ h => h) (Or.inl ⟨by rfl, ?_⟩) (by assumption) ?_
      · intro w hSw; (try dsimp only at hSw); go_simp
      (try simp only [Act.put, List.setIfInBounds_toArray, List.set_cons_zero, List.set_cons_succ])
      refine wpAnyH_take (i := 5) (oi := ({ dst := some 145, op := Op.move (Operand.tmp 8), type := 30, pos := "law.go:362", after := #[{ on := 2, ground := Ground.guard }], guard := some (2, false) } : Oper)) (v := .pointer (some ⟨m, 0, none⟩)) rfl (by kernel_rfl) (by kernel_rfl) (by kernel_rfl) (fun _ _ _ h => h) (Or.inl ⟨by rfl, ?_⟩) (by assumption) ?_
      · intro w hSw; (try dsimp only at hSw); go_simp
      (try simp only [Act.put, List.setIfInBounds_toArray, List.set_cons_zero, List.set_cons_succ])
      refine wpAnyH_take (i := 6) (oi := ({ dst := some 146, op := Op.nilCheck (Operand.tmp 145), type := 0, pos := "law.go:362", after := #[{ on := 5, ground := Ground.data }, { on := 2, ground := Ground.guard }], guard := some (2, false) } : Oper)) (v := .pointer (some ⟨m, 0, none⟩)) rfl (by kernel_rfl) (by kernel_rfl) (by kernel_rfl) (fun _ _ _ h => h) (Or.inl ⟨by rfl, ?_⟩) (by assumption) ?_
      · intro w hSw; (try dsimp only at hSw); go_simp
      (try simp only [Act.put, List.setIfInBounds_toArray, List.set_cons_zero, List.set_cons_succ])
      refine wpAnyH_take (i := 7) (oi := ({ dst := some 147, op := Op.fieldAddr 52 (Operand.tmp 146) 4, type := 0, pos := "law.go:362", after := #[{ on := 6, ground := Ground.data }, { on := 2, ground := Ground.guard }], guard := some (2, false) } : Oper)) (v := .pointer (some ⟨m, 4, none⟩)) rfl (by kernel_rfl) (by kernel_rfl) (by kernel_rfl) (fun _ _ _ h => h) (Or.inl ⟨by rfl, ?_⟩) (by assumption) ?_
      · intro w hSw; (try dsimp only at hSw); go_simp
      (try simp only [Act.put, List.setIfInBounds_toArray, List.set_cons_zero, List.set_cons_succ])
      refine wpAnyH_take (i := 8) (oi := ({ dst := some 148, op := Op.load 4 (Operand.tmp 147), type := 4, pos := "law.go:362", after := #[{ on := 7, ground := Ground.data }, { on := 2, ground := Ground.guard }], guard := some (2, false) } : Oper)) (v := .bool bz) rfl (by kernel_rfl) (by kernel_rfl) (by kernel_rfl) (fun _ _ _ h => h) (Or.inl ⟨by rfl, ?_⟩) (by assumption) ?_
      · intro w hSw; (try dsimp only at hSw); go_simp
      (try simp only [Act.put, List.setIfInBounds_toArray, List.set_cons_zero, List.set_cons_succ])
      refine wpAnyH_ready (rs := [4]) (by kernel_rfl) (by simp) ?_
      refine AllReadyH.cons (o := ({ dst := some 144, op := Op.call { callee := Callee.value (Operand.func 23), args := #[Operand.tmp 143], argTypes := #[25] }, type := 4, pos := "law.go:362", after := #[{ on := 3, ground := Ground.data }, { on := 2, ground := Ground.chain }, { on := 2, ground := Ground.guard }], guard := some (2, false) } : Oper)) rfl (fun K hK => ?_) AllReadyH.nil
      rw [if_pos (by rfl)]
      go_wp2_with fail
      refine hdn.mono ?_
      rintro e wx ⟨rfl, rfl⟩
      go_wp2_with fail
      refine hK.out _ _ ?_ (fun hHeld => ?_)
      · exact czd
      clear hK K
      (try simp only [Act.put, List.setIfInBounds_toArray, List.set_cons_zero, List.set_cons_succ])
      refine wpAnyH_take (i := 9) (oi := ({ dst := some 149, op := Op.binOp BinOp.neq 4 (Operand.tmp 144) (Operand.tmp 148) 4, type := 4, pos := "law.go:362", after := #[{ on := 4, ground := Ground.data }, { on := 8, ground := Ground.data }, { on := 2, ground := Ground.guard }], guard := some (2, false) } : Oper)) (v := .bool false) rfl (by kernel_rfl) (by kernel_rfl) (by kernel_rfl) (fun _ _ _ h => h) (Or.inl ⟨by rfl, ?_⟩) (by assumption) ?_
      · intro w hSw; (try dsimp only at hSw); cases bz <;> go_simp
      (try simp only [Act.put, List.setIfInBounds_toArray, List.set_cons_zero, List.set_cons_succ])
      refine wpAnyH_take (i := 10) (oi := ({ dst := some 150, op := Op.pick (Operand.tmp 142) (Operand.const (Value.bool true)) (Operand.tmp 149), type := 4, pos := "law.go:362", after := #[{ on := 2, ground := Ground.data }, { on := 9, ground := Ground.data }], guard := none } : Oper)) (v := .bool false) rfl (by kernel_rfl) (by kernel_rfl) (by kernel_rfl) (fun _ _ _ h => h) (Or.inl ⟨by rfl, ?_⟩) (by assumption) ?_
      · intro w hSw; (try dsimp only at hSw); go_simp
      (try simp only [Act.put, List.setIfInBounds_toArray, List.set_cons_zero, List.set_cons_succ])
      refine wpAnyH_done (by kernel_rfl) ?_ _
      go_wp2_with fail
      go_roundw
      case rel => exact ⟨k + 1, B2, C2, d2, fu2, by omega, by go_num, hY, by omega, hn2⟩
      case measure => simp [intOf]; omega
    have e0 : (x.kd.toList == [119, 114, 105, 116, 101]) = false := by simpa using hk0
    by_cases hk1 : x.kd.toList = [114, 101, 97, 100]
    · have e1 : (x.kd.toList == [114, 101, 97, 100]) = true := by simpa using hk1
      have hsm := fun W => dsame_eq (rdC d x.nn) W (rdC_nn _ _)
      have hra := fun W (hW : DkO W B p d) => read_o B p d x.nn W hW
      have hrb := fun W (hW : RdO W C m d fu) => rread_any C m d fu x.nn W hW
      generalize rdS d x.nn = sv at *
      generalize rdC d x.nn = cv at *
      go_wp2_with fail
      generalize wr.alloc (.cells #[.string x.kd, .string x.sd, .int .i64 x.ph, .int .i64 x.ps, .int .i64 x.qh, .int .i64 x.qs, .int .i64 x.aa, .int .i64 x.bb, .int .i64 x.nn, .int .u64 x.kk, .slice x.xc x.lc x.cc] 40) = wb at *
      generalize wr.heap.size = g at *
      have s8 := (BX.2 8 _ rfl).1
      have s9 := (BX.2 9 _ rfl).1
      have zg := BX.1
      refine (hra _ h.hD).mono ?_
      rintro e wc ⟨rfl, rfl⟩
      go_wp2_with fail
      refine (hrb _ h.hR).mono ?_
      rintro e wd ⟨rfl, hbd⟩
      have hZ := h.below hbd
      go_wp2_with fail
      refine (hsm _).mono ?_
      rintro e wz ⟨rfl, rfl⟩
      clear hsm hra hrb h hbd BX s8 s9 zg
      have hl2 : d.wr.length ≤ k + 1 := by omega
      have hn2 := hnl
      obtain ⟨d2, hd2⟩ : ∃ d2, d = d2 := ⟨_, rfl⟩
      subst hd2
      have hY : DsI w wz.drew p B m C d d fu := hZ.below (below_drewN (Below.refl _ _) 1)
      obtain ⟨vkz, vnz, vwz, hRz, hCz⟩ := hZ.hR
      have cz := hRz.cells.2.2.2.2
      have mz := heap_lt hRz.hp
      have hdn := down_o _ p d wz.drew (hZ.hD.below (below_drewN (Below.refl _ _) 1))
      have czd : wz.drew.cell? ⟨m, 4, none⟩ = some (.bool d.down) := cz
      clear hRz hCz
      generalize d.down = bz at *
      go_wp2_with fail
      refine wp_region_held_drew (S := fun w' => w'.cell? ⟨m, 4, none⟩ = some (.bool bz)) (by kernel_rfl) ?_ (fun hHeld => ?_)
      · exact czd
      generalize wz.drew = wy at *
      refine wpAnyH_take (i := 0) (oi := ({ dst := some 140, op := Op.move (Operand.tmp 12), type := 4, pos := "law.go:362", after := #[], guard := none } : Oper)) (v := .bool true) rfl (by kernel_rfl) (by kernel_rfl) (by kernel_rfl) (fun _ _ _ h => h) (Or.inl ⟨by rfl, ?_⟩) (by assumption) ?_
      · intro w hSw; (try dsimp only at hSw); go_simp
      (try simp only [Act.put, List.setIfInBounds_toArray, List.set_cons_zero, List.set_cons_succ])
      refine wpAnyH_take (i := 1) (oi := ({ dst := some 141, op := Op.unOp UnOp.not 4 (Operand.tmp 140), type := 4, pos := "law.go:362", after := #[{ on := 0, ground := Ground.data }], guard := none } : Oper)) (v := .bool false) rfl (by kernel_rfl) (by kernel_rfl) (by kernel_rfl) (fun _ _ _ h => h) (Or.inl ⟨by rfl, ?_⟩) (by assumption) ?_
      · intro w hSw; (try dsimp only at hSw); go_simp
      (try simp only [Act.put, List.setIfInBounds_toArray, List.set_cons_zero, List.set_cons_succ])
      refine wpAnyH_take (i := 2) (oi := ({ dst := some 142, op := Op.move (Operand.tmp 141), type := 4, pos := "law.go:362", after := #[{ on := 1, ground := Ground.data }], guard := none } : Oper)) (v := .bool false) rfl (by kernel_rfl) (by kernel_rfl) (by kernel_rfl) (fun _ _ _ h => h) (Or.inl ⟨by rfl, ?_⟩) (by assumption) ?_
      · intro w hSw; (try dsimp only at hSw); go_simp
      (try simp only [Act.put, List.setIfInBounds_toArray, List.set_cons_zero, List.set_cons_succ])
      refine wpAnyH_take (i := 3) (oi := ({ dst := some 143, op := Op.move (Operand.tmp 6), type := 25, pos := "law.go:362", after := #[{ on := 2, ground := Ground.guard }], guard := some (2, false) } : Oper)) (v := .pointer (some ⟨p, 0, none⟩)) rfl (by kernel_rfl) (by kernel_rfl) (by kernel_rfl) (fun _ _ _ h => h) (Or.inl ⟨by rfl, ?_⟩) (by assumption) ?_
      · intro w hSw; (try dsimp only at hSw); go_simp
      (try simp only [Act.put, List.setIfInBounds_toArray, List.set_cons_zero, List.set_cons_succ])
      refine wpAnyH_take (i := 5) (oi := ({ dst := some 145, op := Op.move (Operand.tmp 8), type := 30, pos := "law.go:362", after := #[{ on := 2, ground := Ground.guard }], guard := some (2, false) } : Oper)) (v := .pointer (some ⟨m, 0, none⟩)) rfl (by kernel_rfl) (by kernel_rfl) (by kernel_rfl) (fun _ _ _ h => h) (Or.inl ⟨by rfl, ?_⟩) (by assumption) ?_
      · intro w hSw; (try dsimp only at hSw); go_simp
      (try simp only [Act.put, List.setIfInBounds_toArray, List.set_cons_zero, List.set_cons_succ])
      refine wpAnyH_take (i := 6) (oi := ({ dst := some 146, op := Op.nilCheck (Operand.tmp 145), type := 0, pos := "law.go:362", after := #[{ on := 5, ground := Ground.data }, { on := 2, ground := Ground.guard }], guard := some (2, false) } : Oper)) (v := .pointer (some ⟨m, 0, none⟩)) rfl (by kernel_rfl) (by kernel_rfl) (by kernel_rfl) (fun _ _ _ h => h) (Or.inl ⟨by rfl, ?_⟩) (by assumption) ?_
      · intro w hSw; (try dsimp only at hSw); go_simp
      (try simp only [Act.put, List.setIfInBounds_toArray, List.set_cons_zero, List.set_cons_succ])
      refine wpAnyH_take (i := 7) (oi := ({ dst := some 147, op := Op.fieldAddr 52 (Operand.tmp 146) 4, type := 0, pos := "law.go:362", after := #[{ on := 6, ground := Ground.data }, { on := 2, ground := Ground.guard }], guard := some (2, false) } : Oper)) (v := .pointer (some ⟨m, 4, none⟩)) rfl (by kernel_rfl) (by kernel_rfl) (by kernel_rfl) (fun _ _ _ h => h) (Or.inl ⟨by rfl, ?_⟩) (by assumption) ?_
      · intro w hSw; (try dsimp only at hSw); go_simp
      (try simp only [Act.put, List.setIfInBounds_toArray, List.set_cons_zero, List.set_cons_succ])
      refine wpAnyH_take (i := 8) (oi := ({ dst := some 148, op := Op.load 4 (Operand.tmp 147), type := 4, pos := "law.go:362", after := #[{ on := 7, ground := Ground.data }, { on := 2, ground := Ground.guard }], guard := some (2, false) } : Oper)) (v := .bool bz) rfl (by kernel_rfl) (by kernel_rfl) (by kernel_rfl) (fun _ _ _ h => h) (Or.inl ⟨by rfl, ?_⟩) (by assumption) ?_
      · intro w hSw; (try dsimp only at hSw); go_simp
      (try simp only [Act.put, List.setIfInBounds_toArray, List.set_cons_zero, List.set_cons_succ])
      refine wpAnyH_ready (rs := [4]) (by kernel_rfl) (by simp) ?_
      refine AllReadyH.cons (o := ({ dst := some 144, op := Op.call { callee := Callee.value (Operand.func 23), args := #[Operand.tmp 143], argTypes := #[25] }, type := 4, pos := "law.go:362", after := #[{ on := 3, ground := Ground.data }, { on := 2, ground := Ground.chain }, { on := 2, ground := Ground.guard }], guard := some (2, false) } : Oper)) rfl (fun K hK => ?_) AllReadyH.nil
      rw [if_pos (by rfl)]
      go_wp2_with fail
      refine hdn.mono ?_
      rintro e wx ⟨rfl, rfl⟩
      go_wp2_with fail
      refine hK.out _ _ ?_ (fun hHeld => ?_)
      · exact czd
      clear hK K
      (try simp only [Act.put, List.setIfInBounds_toArray, List.set_cons_zero, List.set_cons_succ])
      refine wpAnyH_take (i := 9) (oi := ({ dst := some 149, op := Op.binOp BinOp.neq 4 (Operand.tmp 144) (Operand.tmp 148) 4, type := 4, pos := "law.go:362", after := #[{ on := 4, ground := Ground.data }, { on := 8, ground := Ground.data }, { on := 2, ground := Ground.guard }], guard := some (2, false) } : Oper)) (v := .bool false) rfl (by kernel_rfl) (by kernel_rfl) (by kernel_rfl) (fun _ _ _ h => h) (Or.inl ⟨by rfl, ?_⟩) (by assumption) ?_
      · intro w hSw; (try dsimp only at hSw); cases bz <;> go_simp
      (try simp only [Act.put, List.setIfInBounds_toArray, List.set_cons_zero, List.set_cons_succ])
      refine wpAnyH_take (i := 10) (oi := ({ dst := some 150, op := Op.pick (Operand.tmp 142) (Operand.const (Value.bool true)) (Operand.tmp 149), type := 4, pos := "law.go:362", after := #[{ on := 2, ground := Ground.data }, { on := 9, ground := Ground.data }], guard := none } : Oper)) (v := .bool false) rfl (by kernel_rfl) (by kernel_rfl) (by kernel_rfl) (fun _ _ _ h => h) (Or.inl ⟨by rfl, ?_⟩) (by assumption) ?_
      · intro w hSw; (try dsimp only at hSw); go_simp
      (try simp only [Act.put, List.setIfInBounds_toArray, List.set_cons_zero, List.set_cons_succ])
      refine wpAnyH_done (by kernel_rfl) ?_ _
      go_wp2_with fail
      go_roundw
      case rel => exact ⟨k + 1, B, C, d, fu, by omega, by go_num, hY, by omega, hn2⟩
      case measure => simp [intOf]; omega
    have e1 : (x.kd.toList == [114, 101, 97, 100]) = false := by simpa using hk1
    by_cases hk2 : x.kd.toList = [102, 108, 117, 115, 104]
    · have e2 : (x.kd.toList == [102, 108, 117, 115, 104]) = true := by simpa using hk2
      have hsm := fun W => dsame_eq (flC d) W (flC_nn _)
      have hl1 := fl_len1 d
      have hn2 : (flR d).now.length = n := (fl_now d).trans hnl
      go_wp2_with fail
      generalize wr.alloc (.cells #[.string x.kd, .string x.sd, .int .i64 x.ph, .int .i64 x.ps, .int .i64 x.qh, .int .i64 x.qs, .int .i64 x.aa, .int .i64 x.bb, .int .i64 x.nn, .int .u64 x.kk, .slice x.xc x.lc x.cc] 40) = wb at *
      refine (flush_o B p d _ h.hD).mono ?_
      rintro e wc ⟨B2, rfl, hD2, hT2⟩
      have h2 := h.one hD2 hT2
      go_wp2_with fail
      refine (rflush_any C m d fu _ h2.hR).mono ?_
      rintro e wd ⟨rfl, C2, fu2, hR2, hU2⟩
      have hZ := h2.two hR2 hU2
      go_wp2_with fail
      refine (hsm _).mono ?_
      rintro e wz ⟨rfl, rfl⟩
      clear hsm h h2 hD2 hT2 hR2 hU2 BX
      have hl2 : (flR d).wr.length ≤ k + 1 := by omega
      clear hl1
      generalize flR d = d2 at *
      have hY : DsI w wz.drew p B2 m C2 d2 d2 fu2 := hZ.below (below_drewN (Below.refl _ _) 1)
      obtain ⟨vkz, vnz, vwz, hRz, hCz⟩ := hZ.hR
      have cz := hRz.cells.2.2.2.2
      have mz := heap_lt hRz.hp
      have hdn := down_o _ p d2 wz.drew (hZ.hD.below (below_drewN (Below.refl _ _) 1))
      have czd : wz.drew.cell? ⟨m, 4, none⟩ = some (.bool d2.down) := cz
      clear hRz hCz
      generalize d2.down = bz at *
      go_wp2_with fail
      refine wp_region_held_drew (S := fun w' => w'.cell? ⟨m, 4, none⟩ = some (.bool bz)) (by kernel_rfl) ?_ (fun hHeld => ?_)
      · exact czd
      generalize wz.drew = wy at *
      refine wpAnyH_take (i := 0) (oi := ({ dst := some 140, op := Op.move (Operand.tmp 12), type := 4, pos := "law.go:362", after := #[], guard := none } : Oper)) (v := .bool true) rfl (by kernel_rfl) (by kernel_rfl) (by kernel_rfl) (fun _ _ _ h => h) (Or.inl ⟨by rfl, ?_⟩) (by assumption) ?_
      · intro w hSw; (try dsimp only at hSw); go_simp
      (try simp only [Act.put, List.setIfInBounds_toArray, List.set_cons_zero, List.set_cons_succ])
      refine wpAnyH_take (i := 1) (oi := ({ dst := some 141, op := Op.unOp UnOp.not 4 (Operand.tmp 140), type := 4, pos := "law.go:362", after := #[{ on := 0, ground := Ground.data }], guard := none } : Oper)) (v := .bool false) rfl (by kernel_rfl) (by kernel_rfl) (by kernel_rfl) (fun _ _ _ h => h) (Or.inl ⟨by rfl, ?_⟩) (by assumption) ?_
      · intro w hSw; (try dsimp only at hSw); go_simp
      (try simp only [Act.put, List.setIfInBounds_toArray, List.set_cons_zero, List.set_cons_succ])
      refine wpAnyH_take (i := 2) (oi := ({ dst := some 142, op := Op.move (Operand.tmp 141), type := 4, pos := "law.go:362", after := #[{ on := 1, ground := Ground.data }], guard := none } : Oper)) (v := .bool false) rfl (by kernel_rfl) (by kernel_rfl) (by kernel_rfl) (fun _ _ _ h => h) (Or.inl ⟨by rfl, ?_⟩) (by assumption) ?_
      · intro w hSw; (try dsimp only at hSw); go_simp
      (try simp only [Act.put, List.setIfInBounds_toArray, List.set_cons_zero, List.set_cons_succ])
      refine wpAnyH_take (i := 3) (oi := ({ dst := some 143, op := Op.move (Operand.tmp 6), type := 25, pos := "law.go:362", after := #[{ on := 2, ground := Ground.guard }], guard := some (2, false) } : Oper)) (v := .pointer (some ⟨p, 0, none⟩)) rfl (by kernel_rfl) (by kernel_rfl) (by kernel_rfl) (fun _ _ _ h => h) (Or.inl ⟨by rfl, ?_⟩) (by assumption) ?_
      · intro w hSw; (try dsimp only at hSw); go_simp
      (try simp only [Act.put, List.setIfInBounds_toArray, List.set_cons_zero, List.set_cons_succ])
      refine wpAnyH_take (i := 5) (oi := ({ dst := some 145, op := Op.move (Operand.tmp 8), type := 30, pos := "law.go:362", after := #[{ on := 2, ground := Ground.guard }], guard := some (2, false) } : Oper)) (v := .pointer (some ⟨m, 0, none⟩)) rfl (by kernel_rfl) (by kernel_rfl) (by kernel_rfl) (fun _ _ _ h => h) (Or.inl ⟨by rfl, ?_⟩) (by assumption) ?_
      · intro w hSw; (try dsimp only at hSw); go_simp
      (try simp only [Act.put, List.setIfInBounds_toArray, List.set_cons_zero, List.set_cons_succ])
      refine wpAnyH_take (i := 6) (oi := ({ dst := some 146, op := Op.nilCheck (Operand.tmp 145), type := 0, pos := "law.go:362", after := #[{ on := 5, ground := Ground.data }, { on := 2, ground := Ground.guard }], guard := some (2, false) } : Oper)) (v := .pointer (some ⟨m, 0, none⟩)) rfl (by kernel_rfl) (by kernel_rfl) (by kernel_rfl) (fun _ _ _ h => h) (Or.inl ⟨by rfl, ?_⟩) (by assumption) ?_
      · intro w hSw; (try dsimp only at hSw); go_simp
      (try simp only [Act.put, List.setIfInBounds_toArray, List.set_cons_zero, List.set_cons_succ])
      refine wpAnyH_take (i := 7) (oi := ({ dst := some 147, op := Op.fieldAddr 52 (Operand.tmp 146) 4, type := 0, pos := "law.go:362", after := #[{ on := 6, ground := Ground.data }, { on := 2, ground := Ground.guard }], guard := some (2, false) } : Oper)) (v := .pointer (some ⟨m, 4, none⟩)) rfl (by kernel_rfl) (by kernel_rfl) (by kernel_rfl) (fun _ _ _ h => h) (Or.inl ⟨by rfl, ?_⟩) (by assumption) ?_
      · intro w hSw; (try dsimp only at hSw); go_simp
      (try simp only [Act.put, List.setIfInBounds_toArray, List.set_cons_zero, List.set_cons_succ])
      refine wpAnyH_take (i := 8) (oi := ({ dst := some 148, op := Op.load 4 (Operand.tmp 147), type := 4, pos := "law.go:362", after := #[{ on := 7, ground := Ground.data }, { on := 2, ground := Ground.guard }], guard := some (2, false) } : Oper)) (v := .bool bz) rfl (by kernel_rfl) (by kernel_rfl) (by kernel_rfl) (fun _ _ _ h => h) (Or.inl ⟨by rfl, ?_⟩) (by assumption) ?_
      · intro w hSw; (try dsimp only at hSw); go_simp
      (try simp only [Act.put, List.setIfInBounds_toArray, List.set_cons_zero, List.set_cons_succ])
      refine wpAnyH_ready (rs := [4]) (by kernel_rfl) (by simp) ?_
      refine AllReadyH.cons (o := ({ dst := some 144, op := Op.call { callee := Callee.value (Operand.func 23), args := #[Operand.tmp 143], argTypes := #[25] }, type := 4, pos := "law.go:362", after := #[{ on := 3, ground := Ground.data }, { on := 2, ground := Ground.chain }, { on := 2, ground := Ground.guard }], guard := some (2, false) } : Oper)) rfl (fun K hK => ?_) AllReadyH.nil
      rw [if_pos (by rfl)]
      go_wp2_with fail
      refine hdn.mono ?_
      rintro e wx ⟨rfl, rfl⟩
      go_wp2_with fail
      refine hK.out _ _ ?_ (fun hHeld => ?_)
      · exact czd
      clear hK K
      (try simp only [Act.put, List.setIfInBounds_toArray, List.set_cons_zero, List.set_cons_succ])
      refine wpAnyH_take (i := 9) (oi := ({ dst := some 149, op := Op.binOp BinOp.neq 4 (Operand.tmp 144) (Operand.tmp 148) 4, type := 4, pos := "law.go:362", after := #[{ on := 4, ground := Ground.data }, { on := 8, ground := Ground.data }, { on := 2, ground := Ground.guard }], guard := some (2, false) } : Oper)) (v := .bool false) rfl (by kernel_rfl) (by kernel_rfl) (by kernel_rfl) (fun _ _ _ h => h) (Or.inl ⟨by rfl, ?_⟩) (by assumption) ?_
      · intro w hSw; (try dsimp only at hSw); cases bz <;> go_simp
      (try simp only [Act.put, List.setIfInBounds_toArray, List.set_cons_zero, List.set_cons_succ])
      refine wpAnyH_take (i := 10) (oi := ({ dst := some 150, op := Op.pick (Operand.tmp 142) (Operand.const (Value.bool true)) (Operand.tmp 149), type := 4, pos := "law.go:362", after := #[{ on := 2, ground := Ground.data }, { on := 9, ground := Ground.data }], guard := none } : Oper)) (v := .bool false) rfl (by kernel_rfl) (by kernel_rfl) (by kernel_rfl) (fun _ _ _ h => h) (Or.inl ⟨by rfl, ?_⟩) (by assumption) ?_
      · intro w hSw; (try dsimp only at hSw); go_simp
      (try simp only [Act.put, List.setIfInBounds_toArray, List.set_cons_zero, List.set_cons_succ])
      refine wpAnyH_done (by kernel_rfl) ?_ _
      go_wp2_with fail
      go_roundw
      case rel => exact ⟨k + 1, B2, C2, d2, fu2, by omega, by go_num, hY, by omega, hn2⟩
      case measure => simp [intOf]; omega
    have e2 : (x.kd.toList == [102, 108, 117, 115, 104]) = false := by simpa using hk2
    by_cases hk3 : x.kd.toList = [97, 114, 109]
    · have e3 : (x.kd.toList == [97, 114, 109]) = true := by simpa using hk3
      go_wp2_with fail
      generalize wr.alloc (.cells #[.string x.kd, .string x.sd, .int .i64 x.ph, .int .i64 x.ps, .int .i64 x.qh, .int .i64 x.qs, .int .i64 x.aa, .int .i64 x.bb, .int .i64 x.nn, .int .u64 x.kk, .slice x.xc x.lc x.cc] 40) = wb at *
      generalize wr.heap.size = g at *
      have s8 := (BX.2 8 _ rfl).1
      have s9 := (BX.2 9 _ rfl).1
      have zg := BX.1
      refine (arm_o B p d x.nn _ h.hD x.hn.1 x.hn.2).mono ?_
      rintro e wc ⟨B2, rfl, hD2, hT2⟩
      have h2 := h.one hD2 hT2
      have s8c : wc.cell? ⟨g, 8, none⟩ = some (.int .i64 x.nn) := (hT2.cell zg hgB).trans s8
      have zgc := (hT2.out zg hgB).1
      obtain ⟨vk, vn, vw, hR, hC⟩ := h2.hR
      obtain ⟨f0, f1, f2, f3, f4⟩ := hR.cells
      have ff := hR.free 3
      have mz := heap_lt hR.hp
      have hfl : -1 ≤ fuI x.nn ∧ fuI x.nn ≤ 9223372036854775807 := by have := x.hn.2; unfold fuI; split <;> omega
      have hok2 : DkOk (armR d x.nn) := h2.hD.ok
      have hR3 : RdC (wc.setCell ⟨m, 3, none⟩ (.int .i64 (fuI x.nn))) m vk vn vw (armR d x.nn) (fuI x.nn) := hR.put 3 _ rfl hR.hk hR.hn hR.hw hR.dkn hok2 hfl.1 hfl.2 (.inr rfl)
      have hZ : DsI w (wc.setCell ⟨m, 3, none⟩ (.int .i64 (fuI x.nn))) p B2 m C (armR d x.nn) (armR d x.nn) (fuI x.nn) := h2.two ⟨vk, vn, vw, hR3, hC⟩ (Tr.setCell wc (by rw [hC]; exact .inl rfl) 3 _)
      clear hR hR3 hC
      go_wp2_with (refine wpList_run (by rfl) (exec_maxF _ _ _ _ x.nn _ (by rfl) (by rfl) (by rfl) (by rfl) (by rfl)) ?_)
      have hl2 : (armR d x.nn).wr.length ≤ k + 1 := by show d.wr.length ≤ _; omega
      have hn2 : (armR d x.nn).now.length = n := hnl
      clear f0 f1 f2 f3 f4 ff mz hok2 h2 h hD2 hT2 s8 s9 s8c zg zgc BX
      generalize armR d x.nn = d2 at *
      generalize fuI x.nn = fu2 at *
      generalize wc.setCell ⟨m, 3, none⟩ (.int .i64 fu2) = wz at *
      have hY : DsI w wz.drew p B2 m C d2 d2 fu2 := hZ.below (below_drewN (Below.refl _ _) 1)
      obtain ⟨vkz, vnz, vwz, hRz, hCz⟩ := hZ.hR
      have cz := hRz.cells.2.2.2.2
      have mz := heap_lt hRz.hp
      have hdn := down_o _ p d2 wz.drew (hZ.hD.below (below_drewN (Below.refl _ _) 1))
      have czd : wz.drew.cell? ⟨m, 4, none⟩ = some (.bool d2.down) := cz
      clear hRz hCz
      generalize d2.down = bz at *
      go_wp2_with fail
      refine wp_region_held_drew (S := fun w' => w'.cell? ⟨m, 4, none⟩ = some (.bool bz)) (by kernel_rfl) ?_ (fun hHeld => ?_)
      · exact czd
      generalize wz.drew = wy at *
      refine wpAnyH_take (i := 0) (oi := ({ dst := some 140, op := Op.move (Operand.tmp 12), type := 4, pos := "law.go:362", after := #[], guard := none } : Oper)) (v := .bool true) rfl (by kernel_rfl) (by kernel_rfl) (by kernel_rfl) (fun _ _ _ h => h) (Or.inl ⟨by rfl, ?_⟩) (by assumption) ?_
      · intro w hSw; (try dsimp only at hSw); go_simp
      (try simp only [Act.put, List.setIfInBounds_toArray, List.set_cons_zero, List.set_cons_succ])
      refine wpAnyH_take (i := 1) (oi := ({ dst := some 141, op := Op.unOp UnOp.not 4 (Operand.tmp 140), type := 4, pos := "law.go:362", after := #[{ on := 0, ground := Ground.data }], guard := none } : Oper)) (v := .bool false) rfl (by kernel_rfl) (by kernel_rfl) (by kernel_rfl) (fun _ _ _ h => h) (Or.inl ⟨by rfl, ?_⟩) (by assumption) ?_
      · intro w hSw; (try dsimp only at hSw); go_simp
      (try simp only [Act.put, List.setIfInBounds_toArray, List.set_cons_zero, List.set_cons_succ])
      refine wpAnyH_take (i := 2) (oi := ({ dst := some 142, op := Op.move (Operand.tmp 141), type := 4, pos := "law.go:362", after := #[{ on := 1, ground := Ground.data }], guard := none } : Oper)) (v := .bool false) rfl (by kernel_rfl) (by kernel_rfl) (by kernel_rfl) (fun _ _ _ h => h) (Or.inl ⟨by rfl, ?_⟩) (by assumption) ?_
      · intro w hSw; (try dsimp only at hSw); go_simp
      (try simp only [Act.put, List.setIfInBounds_toArray, List.set_cons_zero, List.set_cons_succ])
      refine wpAnyH_take (i := 3) (oi := ({ dst := some 143, op := Op.move (Operand.tmp 6), type := 25, pos := "law.go:362", after := #[{ on := 2, ground := Ground.guard }], guard := some (2, false) } : Oper)) (v := .pointer (some ⟨p, 0, none⟩)) rfl (by kernel_rfl) (by kernel_rfl) (by kernel_rfl) (fun _ _ _ h => h) (Or.inl ⟨by rfl, ?_⟩) (by assumption) ?_
      · intro w hSw; (try dsimp only at hSw); go_simp
      (try simp only [Act.put, List.setIfInBounds_toArray, List.set_cons_zero, List.set_cons_succ])
      refine wpAnyH_take (i := 5) (oi := ({ dst := some 145, op := Op.move (Operand.tmp 8), type := 30, pos := "law.go:362", after := #[{ on := 2, ground := Ground.guard }], guard := some (2, false) } : Oper)) (v := .pointer (some ⟨m, 0, none⟩)) rfl (by kernel_rfl) (by kernel_rfl) (by kernel_rfl) (fun _ _ _ h => h) (Or.inl ⟨by rfl, ?_⟩) (by assumption) ?_
      · intro w hSw; (try dsimp only at hSw); go_simp
      (try simp only [Act.put, List.setIfInBounds_toArray, List.set_cons_zero, List.set_cons_succ])
      refine wpAnyH_take (i := 6) (oi := ({ dst := some 146, op := Op.nilCheck (Operand.tmp 145), type := 0, pos := "law.go:362", after := #[{ on := 5, ground := Ground.data }, { on := 2, ground := Ground.guard }], guard := some (2, false) } : Oper)) (v := .pointer (some ⟨m, 0, none⟩)) rfl (by kernel_rfl) (by kernel_rfl) (by kernel_rfl) (fun _ _ _ h => h) (Or.inl ⟨by rfl, ?_⟩) (by assumption) ?_
      · intro w hSw; (try dsimp only at hSw); go_simp
      (try simp only [Act.put, List.setIfInBounds_toArray, List.set_cons_zero, List.set_cons_succ])
      refine wpAnyH_take (i := 7) (oi := ({ dst := some 147, op := Op.fieldAddr 52 (Operand.tmp 146) 4, type := 0, pos := "law.go:362", after := #[{ on := 6, ground := Ground.data }, { on := 2, ground := Ground.guard }], guard := some (2, false) } : Oper)) (v := .pointer (some ⟨m, 4, none⟩)) rfl (by kernel_rfl) (by kernel_rfl) (by kernel_rfl) (fun _ _ _ h => h) (Or.inl ⟨by rfl, ?_⟩) (by assumption) ?_
      · intro w hSw; (try dsimp only at hSw); go_simp
      (try simp only [Act.put, List.setIfInBounds_toArray, List.set_cons_zero, List.set_cons_succ])
      refine wpAnyH_take (i := 8) (oi := ({ dst := some 148, op := Op.load 4 (Operand.tmp 147), type := 4, pos := "law.go:362", after := #[{ on := 7, ground := Ground.data }, { on := 2, ground := Ground.guard }], guard := some (2, false) } : Oper)) (v := .bool bz) rfl (by kernel_rfl) (by kernel_rfl) (by kernel_rfl) (fun _ _ _ h => h) (Or.inl ⟨by rfl, ?_⟩) (by assumption) ?_
      · intro w hSw; (try dsimp only at hSw); go_simp
      (try simp only [Act.put, List.setIfInBounds_toArray, List.set_cons_zero, List.set_cons_succ])
      refine wpAnyH_ready (rs := [4]) (by kernel_rfl) (by simp) ?_
      refine AllReadyH.cons (o := ({ dst := some 144, op := Op.call { callee := Callee.value (Operand.func 23), args := #[Operand.tmp 143], argTypes := #[25] }, type := 4, pos := "law.go:362", after := #[{ on := 3, ground := Ground.data }, { on := 2, ground := Ground.chain }, { on := 2, ground := Ground.guard }], guard := some (2, false) } : Oper)) rfl (fun K hK => ?_) AllReadyH.nil
      rw [if_pos (by rfl)]
      go_wp2_with fail
      refine hdn.mono ?_
      rintro e wx ⟨rfl, rfl⟩
      go_wp2_with fail
      refine hK.out _ _ ?_ (fun hHeld => ?_)
      · exact czd
      clear hK K
      (try simp only [Act.put, List.setIfInBounds_toArray, List.set_cons_zero, List.set_cons_succ])
      refine wpAnyH_take (i := 9) (oi := ({ dst := some 149, op := Op.binOp BinOp.neq 4 (Operand.tmp 144) (Operand.tmp 148) 4, type := 4, pos := "law.go:362", after := #[{ on := 4, ground := Ground.data }, { on := 8, ground := Ground.data }, { on := 2, ground := Ground.guard }], guard := some (2, false) } : Oper)) (v := .bool false) rfl (by kernel_rfl) (by kernel_rfl) (by kernel_rfl) (fun _ _ _ h => h) (Or.inl ⟨by rfl, ?_⟩) (by assumption) ?_
      · intro w hSw; (try dsimp only at hSw); cases bz <;> go_simp
      (try simp only [Act.put, List.setIfInBounds_toArray, List.set_cons_zero, List.set_cons_succ])
      refine wpAnyH_take (i := 10) (oi := ({ dst := some 150, op := Op.pick (Operand.tmp 142) (Operand.const (Value.bool true)) (Operand.tmp 149), type := 4, pos := "law.go:362", after := #[{ on := 2, ground := Ground.data }, { on := 9, ground := Ground.data }], guard := none } : Oper)) (v := .bool false) rfl (by kernel_rfl) (by kernel_rfl) (by kernel_rfl) (fun _ _ _ h => h) (Or.inl ⟨by rfl, ?_⟩) (by assumption) ?_
      · intro w hSw; (try dsimp only at hSw); go_simp
      (try simp only [Act.put, List.setIfInBounds_toArray, List.set_cons_zero, List.set_cons_succ])
      refine wpAnyH_done (by kernel_rfl) ?_ _
      go_wp2_with fail
      go_roundw
      case rel => exact ⟨k + 1, B2, C, d2, fu2, by omega, by go_num, hY, by omega, hn2⟩
      case measure => simp [intOf]; omega
    have e3 : (x.kd.toList == [97, 114, 109]) = false := by simpa using hk3
    obtain ⟨kp, hkp, hkl⟩ := u64_of x.hk
    have HKP : Hid (x.kk = (kp : Int)) := hkp
    clear hkp
    go_wp2_with fail
    generalize wr.alloc (.cells #[.string x.kd, .string x.sd, .int .i64 x.ph, .int .i64 x.ps, .int .i64 x.qh, .int .i64 x.qs, .int .i64 x.aa, .int .i64 x.bb, .int .i64 x.nn, .int .u64 x.kk, .slice x.xc x.lc x.cc] 40) = wb at *
    generalize wr.heap.size = g at *
    have s8 := (BX.2 8 _ rfl).1
    have s9 := (BX.2 9 _ rfl).1
    have zg := BX.1
    have hra := restart_o B p d kp wb h.hD (by omega) hkl
    rw [← HKP.out] at hra
    refine hra.mono ?_
    rintro e wc ⟨B2, rfl, hD2, hT2⟩
    clear hra
    have h2 := h.one hD2 hT2
    have s9c := (hT2.cell zg hgB).trans s9
    have zgc := (hT2.out zg hgB).1
    have hrb := rrestart_any C m d fu kp wc h2.hR (by omega) hkl
    rw [← HKP.out] at hrb
    go_wp2_with fail
    refine hrb.mono ?_
    rintro e wz ⟨rfl, C2, fu2, hR2, hU2⟩
    clear hrb
    have hZ := h2.two hR2 hU2
    have hl2 : (reR d kp).wr.length ≤ k + 1 := Nat.zero_le _
    have hn2 : (reR d kp).now.length = n := (re_now h.hD.ok kp).trans hnl
    clear h2 h hD2 hT2 hR2 hU2 s8 s9 s9c zg zgc BX
    generalize reR d kp = d2 at *
    have hY : DsI w wz.drew p B2 m C2 d2 d2 fu2 := hZ.below (below_drewN (Below.refl _ _) 1)
    obtain ⟨vkz, vnz, vwz, hRz, hCz⟩ := hZ.hR
    have cz := hRz.cells.2.2.2.2
    have mz := heap_lt hRz.hp
    have hdn := down_o _ p d2 wz.drew (hZ.hD.below (below_drewN (Below.refl _ _) 1))
    have czd : wz.drew.cell? ⟨m, 4, none⟩ = some (.bool d2.down) := cz
    clear hRz hCz
    generalize d2.down = bz at *
    go_wp2_with fail
    refine wp_region_held_drew (S := fun w' => w'.cell? ⟨m, 4, none⟩ = some (.bool bz)) (by kernel_rfl) ?_ (fun hHeld => ?_)
    · exact czd
    generalize wz.drew = wy at *
    refine wpAnyH_take (i := 0) (oi := ({ dst := some 140, op := Op.move (Operand.tmp 12), type := 4, pos := "law.go:362", after := #[], guard := none } : Oper)) (v := .bool true) rfl (by kernel_rfl) (by kernel_rfl) (by kernel_rfl) (fun _ _ _ h => h) (Or.inl ⟨by rfl, ?_⟩) (by assumption) ?_
    · intro w hSw; (try dsimp only at hSw); go_simp
    (try simp only [Act.put, List.setIfInBounds_toArray, List.set_cons_zero, List.set_cons_succ])
    refine wpAnyH_take (i := 1) (oi := ({ dst := some 141, op := Op.unOp UnOp.not 4 (Operand.tmp 140), type := 4, pos := "law.go:362", after := #[{ on := 0, ground := Ground.data }], guard := none } : Oper)) (v := .bool false) rfl (by kernel_rfl) (by kernel_rfl) (by kernel_rfl) (fun _ _ _ h => h) (Or.inl ⟨by rfl, ?_⟩) (by assumption) ?_
    · intro w hSw; (try dsimp only at hSw); go_simp
    (try simp only [Act.put, List.setIfInBounds_toArray, List.set_cons_zero, List.set_cons_succ])
    refine wpAnyH_take (i := 2) (oi := ({ dst := some 142, op := Op.move (Operand.tmp 141), type := 4, pos := "law.go:362", after := #[{ on := 1, ground := Ground.data }], guard := none } : Oper)) (v := .bool false) rfl (by kernel_rfl) (by kernel_rfl) (by kernel_rfl) (fun _ _ _ h => h) (Or.inl ⟨by rfl, ?_⟩) (by assumption) ?_
    · intro w hSw; (try dsimp only at hSw); go_simp
    (try simp only [Act.put, List.setIfInBounds_toArray, List.set_cons_zero, List.set_cons_succ])
    refine wpAnyH_take (i := 3) (oi := ({ dst := some 143, op := Op.move (Operand.tmp 6), type := 25, pos := "law.go:362", after := #[{ on := 2, ground := Ground.guard }], guard := some (2, false) } : Oper)) (v := .pointer (some ⟨p, 0, none⟩)) rfl (by kernel_rfl) (by kernel_rfl) (by kernel_rfl) (fun _ _ _ h => h) (Or.inl ⟨by rfl, ?_⟩) (by assumption) ?_
    · intro w hSw; (try dsimp only at hSw); go_simp
    (try simp only [Act.put, List.setIfInBounds_toArray, List.set_cons_zero, List.set_cons_succ])
    refine wpAnyH_take (i := 5) (oi := ({ dst := some 145, op := Op.move (Operand.tmp 8), type := 30, pos := "law.go:362", after := #[{ on := 2, ground := Ground.guard }], guard := some (2, false) } : Oper)) (v := .pointer (some ⟨m, 0, none⟩)) rfl (by kernel_rfl) (by kernel_rfl) (by kernel_rfl) (fun _ _ _ h => h) (Or.inl ⟨by rfl, ?_⟩) (by assumption) ?_
    · intro w hSw; (try dsimp only at hSw); go_simp
    (try simp only [Act.put, List.setIfInBounds_toArray, List.set_cons_zero, List.set_cons_succ])
    refine wpAnyH_take (i := 6) (oi := ({ dst := some 146, op := Op.nilCheck (Operand.tmp 145), type := 0, pos := "law.go:362", after := #[{ on := 5, ground := Ground.data }, { on := 2, ground := Ground.guard }], guard := some (2, false) } : Oper)) (v := .pointer (some ⟨m, 0, none⟩)) rfl (by kernel_rfl) (by kernel_rfl) (by kernel_rfl) (fun _ _ _ h => h) (Or.inl ⟨by rfl, ?_⟩) (by assumption) ?_
    · intro w hSw; (try dsimp only at hSw); go_simp
    (try simp only [Act.put, List.setIfInBounds_toArray, List.set_cons_zero, List.set_cons_succ])
    refine wpAnyH_take (i := 7) (oi := ({ dst := some 147, op := Op.fieldAddr 52 (Operand.tmp 146) 4, type := 0, pos := "law.go:362", after := #[{ on := 6, ground := Ground.data }, { on := 2, ground := Ground.guard }], guard := some (2, false) } : Oper)) (v := .pointer (some ⟨m, 4, none⟩)) rfl (by kernel_rfl) (by kernel_rfl) (by kernel_rfl) (fun _ _ _ h => h) (Or.inl ⟨by rfl, ?_⟩) (by assumption) ?_
    · intro w hSw; (try dsimp only at hSw); go_simp
    (try simp only [Act.put, List.setIfInBounds_toArray, List.set_cons_zero, List.set_cons_succ])
    refine wpAnyH_take (i := 8) (oi := ({ dst := some 148, op := Op.load 4 (Operand.tmp 147), type := 4, pos := "law.go:362", after := #[{ on := 7, ground := Ground.data }, { on := 2, ground := Ground.guard }], guard := some (2, false) } : Oper)) (v := .bool bz) rfl (by kernel_rfl) (by kernel_rfl) (by kernel_rfl) (fun _ _ _ h => h) (Or.inl ⟨by rfl, ?_⟩) (by assumption) ?_
    · intro w hSw; (try dsimp only at hSw); go_simp
    (try simp only [Act.put, List.setIfInBounds_toArray, List.set_cons_zero, List.set_cons_succ])
    refine wpAnyH_ready (rs := [4]) (by kernel_rfl) (by simp) ?_
    refine AllReadyH.cons (o := ({ dst := some 144, op := Op.call { callee := Callee.value (Operand.func 23), args := #[Operand.tmp 143], argTypes := #[25] }, type := 4, pos := "law.go:362", after := #[{ on := 3, ground := Ground.data }, { on := 2, ground := Ground.chain }, { on := 2, ground := Ground.guard }], guard := some (2, false) } : Oper)) rfl (fun K hK => ?_) AllReadyH.nil
    rw [if_pos (by rfl)]
    go_wp2_with fail
    refine hdn.mono ?_
    rintro e wx ⟨rfl, rfl⟩
    go_wp2_with fail
    refine hK.out _ _ ?_ (fun hHeld => ?_)
    · exact czd
    clear hK K
    (try simp only [Act.put, List.setIfInBounds_toArray, List.set_cons_zero, List.set_cons_succ])
    refine wpAnyH_take (i := 9) (oi := ({ dst := some 149, op := Op.binOp BinOp.neq 4 (Operand.tmp 144) (Operand.tmp 148) 4, type := 4, pos := "law.go:362", after := #[{ on := 4, ground := Ground.data }, { on := 8, ground := Ground.data }, { on := 2, ground := Ground.guard }], guard := some (2, false) } : Oper)) (v := .bool false) rfl (by kernel_rfl) (by kernel_rfl) (by kernel_rfl) (fun _ _ _ h => h) (Or.inl ⟨by rfl, ?_⟩) (by assumption) ?_
    · intro w hSw; (try dsimp only at hSw); cases bz <;> go_simp
    (try simp only [Act.put, List.setIfInBounds_toArray, List.set_cons_zero, List.set_cons_succ])
    refine wpAnyH_take (i := 10) (oi := ({ dst := some 150, op := Op.pick (Operand.tmp 142) (Operand.const (Value.bool true)) (Operand.tmp 149), type := 4, pos := "law.go:362", after := #[{ on := 2, ground := Ground.data }, { on := 9, ground := Ground.data }], guard := none } : Oper)) (v := .bool false) rfl (by kernel_rfl) (by kernel_rfl) (by kernel_rfl) (fun _ _ _ h => h) (Or.inl ⟨by rfl, ?_⟩) (by assumption) ?_
    · intro w hSw; (try dsimp only at hSw); go_simp
    (try simp only [Act.put, List.setIfInBounds_toArray, List.set_cons_zero, List.set_cons_succ])
    refine wpAnyH_done (by kernel_rfl) ?_ _
    go_wp2_with fail
    go_roundw
    case rel => exact ⟨k + 1, B2, C2, d2, fu2, by omega, by go_num, hY, by omega, hn2⟩
    case measure => simp [intOf]; omega
theorem dsays_any (w : World) (n : Int) (hwf : (Lit.int .i64 n).wf = true) (a : Option Addr) (l : List Ac) (c : Nat) (hw : AcsAt w a l) (hm : l.length ≤ maxLen) :
    Calls Try.prog 3 #[.int .i64 n, .slice a l.length c] w fun e w' => e = .returned (.bool true) ∧ Below w.heap.size w w' := by
  cases hq : lacB l 80
  · exact dsays_no n a l c w hw hm hq
  · by_cases hn : 1 ≤ n ∧ n ≤ 200
    · exact dsays_go n a l c w hw hm hq hn
    · exact dsays_bad n a l c w hw hm hq hn
end Go.Proofs.Ytjhkabhhlpdpaaa
