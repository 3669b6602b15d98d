/- LogSays, walked. -/
import Derived.Test.YtjhkabhhlpdpaaaLogsW
import Derived.Test.YtjhkabhhlpdpaaaLogNev
import Derived.Test.YtjhkabhhlpdpaaaRefCd
set_option linter.unusedVariables false
set_option linter.unusedSimpArgs false
set_option linter.unnecessarySimpa false
namespace Go.Proofs.Ytjhkabhhlpdpaaa
open Go.RowKit

theorem lacl {l : List Ac} {m : Int} (h : lacB l m = true) : (l.length : Int) ≤ m := by
  unfold lacB at h
  rw [Bool.and_eq_true] at h
  exact of_decide_eq_true h.1
theorem lac_ch {l : List Ac} {m : Int} (h : lacB l m = true) (x : Ac) (hx : x ∈ l) : x.ch.length ≤ 70 := by
  unfold lacB at h
  rw [Bool.and_eq_true, List.all_eq_true] at h
  have := h.2 x hx
  rw [Bool.and_eq_true] at this
  have := this.2
  unfold lchB at this
  rw [Bool.and_eq_true] at this
  have := of_decide_eq_true this.1
  omega
/-- the first k are no longer than a sector -/
def Sm (ss : List ByteArray) (k : Nat) : Prop := ∀ j s, j < k → ss[j]? = some s → s.size ≤ 48
theorem Sm.succ {ss : List ByteArray} {k : Nat} {s : ByteArray} (h : Sm ss k) (hs : ss[k]? = some s) (hz : s.size ≤ 48) : Sm ss (k + 1) := fun j t hj ht => by
  by_cases e : j = k
  · subst e; rw [hs] at ht; cases ht; exact hz
  · exact h j t (by omega) ht
theorem rd_bnd (first : Nat) : ∀ (l : List (List UInt8)) (i : Nat) (st : Lst), st.deeds.length ≤ i → st.opn.length ≤ i → (∀ x ∈ st.deeds, x.length ≤ i) → (rdLog first l i st).deeds.length ≤ i + l.length ∧ ∀ x ∈ (rdLog first l i st).deeds, x.length ≤ i + l.length
  | [], i, st, h1, h2, h3 => ⟨by simpa [rdLog] using h1, by simpa [rdLog] using h3⟩
  | s :: r, i, st, h1, h2, h3 => by
    unfold rdLog
    split
    · exact ⟨by simp only [List.length_cons]; omega, fun x hx => by have := h3 x hx; simp only [List.length_cons]; omega⟩
    · rename_i st' hst
      have key : st'.deeds.length ≤ i + 1 ∧ st'.opn.length ≤ i + 1 ∧ ∀ x ∈ st'.deeds, x.length ≤ i + 1 := by
        rcases lstep_form hst with ⟨c, rfl⟩ | rfl
        · exact ⟨by dsimp only; omega, by simp; omega, fun x hx => by have := h3 x hx; omega⟩
        · refine ⟨by simp; omega, by simp, fun x hx => ?_⟩
          rcases List.mem_append.1 hx with hx | hx
          · have := h3 x hx; omega
          · simp at hx; rw [hx]; omega
      have := rd_bnd first r (i + 1) st' key.1 key.2.1 key.2.2
      exact ⟨by have := this.1; simp only [List.length_cons]; omega, fun x hx => by have := this.2 x hx; simp only [List.length_cons]; omega⟩
/-- a disk where nothing falls -/
structure Calm (d : Dk) (n : Nat) : Prop where
  left : d.left < 0
  down : d.down = false
  len : d.now.length = n
theorem Calm.new {n : Nat} : Calm (newD n) n := ⟨by show (-1 : Int) < 0; decide, rfl, by simp [newD]⟩
theorem Calm.dn {d : Dk} {n : Nat} (h : Calm d n) : stepDn d = false := by
  have := h.left
  simp only [stepDn, h.down, Bool.false_or, beq_eq_false_iff_ne]; omega
theorem Calm.write {d : Dk} {n : Nat} (h : Calm d n) {k : Nat} (hk : k < n) {s : ByteArray} (hs : s.size ≤ 48) : wrC d k s = 0 ∧ Calm (wrR d k s) n := by
  have hh : hasB2 d k = true := (hasB2_iff d k).2 ⟨by omega, by have := h.len; omega⟩
  have hd := h.dn
  constructor
  · simp only [wrC, hh, hs, and_self, if_true, hd]; rfl
  · unfold wrR
    rw [if_pos ⟨hh, hs⟩, hd]
    have hsl := step_left hd
    have hsn := step_now d
    have := h.left
    exact ⟨by show (stepR d).left < 0; rw [hsl.2 this]; exact this, hsl.1, by show ((stepR d).now.set _ _).length = n; rw [hsn.1, List.length_set, h.len]⟩
theorem StrsB.none {B : Nat → Prop} {w : World} {a : Option Addr} {l : List ByteArray} (h : StrsB B w a l) : StrsB (fun _ => False) w a l := by
  rcases h with h | ⟨b, o, h1, h2, -, h4⟩
  · exact .inl h
  · exact .inr ⟨b, o, h1, h2, fun h => h, h4⟩
/-- the log, its disk, what was got, what is wanted -/
structure LsI (w0 wr : World) (p q : Nat) (B : Nat → Prop) (d : Dk) (lg : Lg) (ag aw : Option Addr) (W : List (List Ch)) : Prop where
  hD : DkO wr B p d
  hL : LgAt wr q p lg
  nq : ¬ B q
  base : ∀ k, Un B (On q) k → w0.heap.size ≤ k
  bl : Below w0.heap.size w0 wr
  got : DdsB (Un B (On q)) wr ag W
  want : DdsB (Un B (On q)) wr aw W
  inv : LogInv lg.first (secsOf d lg) W lg.used
  left : d.left < 0
  down : d.down = false
  fit : lg.frm + lg.many ≤ d.now.length
  used : lg.used ≤ lg.many
theorem LsI.below {w0 wr w' : World} {p q : Nat} {B : Nat → Prop} {d : Dk} {lg : Lg} {ag aw : Option Addr} {W : List (List Ch)} (h : LsI w0 wr p q B d lg ag aw W) (hb : Below wr.heap.size wr w') : LsI w0 w' p q B d lg ag aw W :=
  ⟨h.hD.below hb, h.hL.below hb, h.nq, h.base, Below_after h.bl hb, h.got.below hb, h.want.below hb, h.inv, h.left, h.down, h.fit, h.used⟩
theorem LsI.lt {w0 wr : World} {p q : Nat} {B : Nat → Prop} {d : Dk} {lg : Lg} {ag aw : Option Addr} {W : List (List Ch)} (h : LsI w0 wr p q B d lg ag aw W) : Lt (Un B (On q)) wr := fun k hk => by
  rcases hk with hk | hk
  · exact h.hD.lt k hk
  · have := heap_lt h.hL; unfold On at hk; omega
theorem LsI.past {w0 wr w' : World} {p q : Nat} {B B' : Nat → Prop} {d : Dk} {lg : Lg} {ag aw : Option Addr} {W : List (List Ch)} (h : LsI w0 wr p q B d lg ag aw W) (ht : Tr (Un B (On q)) (Un B' (On q)) wr w') : DdsB (Un B' (On q)) w' ag W ∧ DdsB (Un B' (On q)) w' aw W ∧ Below w0.heap.size w0 w' ∧ ∀ k, Un B' (On q) k → w0.heap.size ≤ k :=
  ⟨h.got.tr ht, h.want.tr ht, h.bl.trans (ht.to_below h.base h.bl.size), ht.base h.base h.bl.size⟩
/-- nothing of it has turned -/
theorem LsI.stay {w0 wr w' : World} {p q : Nat} {B B' : Nat → Prop} {d : Dk} {lg : Lg} {ag aw : Option Addr} {W : List (List Ch)} (h : LsI w0 wr p q B d lg ag aw W) (ht : Tr (Un B (On q)) (Un B' (On q)) wr w') (hD : DkO w' B' p d) (hL : LgAt w' q p lg) (hn : ¬ B' q) : LsI w0 w' p q B' d lg ag aw W := by
  obtain ⟨h1, h2, h3, h4⟩ := h.past ht
  exact ⟨hD, hL, hn, h4, h3, h1, h2, h.inv, h.left, h.down, h.fit, h.used⟩
/-- opened anew -/
theorem LsI.again {w0 wr w' : World} {p q q2 : Nat} {B : Nat → Prop} {d : Dk} {lg : Lg} {ag aw a2 : Option Addr} {W : List (List Ch)} (h : LsI w0 wr p q B d lg ag aw W) (hL : LgAt w' q2 p lg) (hg : DdsB (fun k => k < wr.heap.size + 1) w' a2 W) (hq : q2 = wr.heap.size) (hb : Below wr.heap.size wr w') : LsI w0 w' p q2 B d lg a2 aw W := by
  have hlt := h.hD.lt
  have hnq : ¬ B q2 := fun e => by have := hlt q2 e; omega
  refine ⟨h.hD.below hb, hL, hnq, fun k hk => ?_, Below_after h.bl hb, hg.mono (fun k _ hk => ?_), (h.want.mono (C := Un B (On q2)) (fun k hkl hk => ?_)).below hb, h.inv, h.left, h.down, h.fit, h.used⟩
  · rcases hk with hk | hk
    · exact h.base k (.inl hk)
    · have := h.bl.size; unfold On at hk; omega
  · rcases hk with hk | hk
    · have := hlt k hk; omega
    · unfold On at hk; omega
  · rcases hk with hk | hk
    · exact .inl hk
    · unfold On at hk; omega
theorem add_wr2 (d : Dk) (lg : Lg) (l : List Ch) : (addR d lg l).1.wr.length ≤ d.wr.length + 2 * l.length + 3 := by
  rcases add_cases d lg l with ⟨-, e⟩ | ⟨-, e⟩ | ⟨-, e⟩ | ⟨h1, h2, h3, e⟩
  · rw [e]; dsimp only; omega
  · rw [e]; dsimp only; omega
  · rw [e]; dsimp only; omega
  · have w1 := lgW_wr d (lg.frm + lg.used) (List.replicate (addN lg l) ⟨#[]⟩)
    rw [List.length_replicate] at w1
    have hA : addN lg l ≤ l.length + 2 := by unfold addN; omega
    have w2 := lgW_wr (lgW d (lg.frm + lg.used) (List.replicate (addN lg l) ⟨#[]⟩)).1 (lg.frm + lg.used) (deedS (lg.first + lg.used) l)
    have hdl : (deedS (lg.first + lg.used) l).length = l.length + 1 := by unfold deedS; rw [List.length_map, deedL_len]
    rw [e]
    dsimp only
    split
    · dsimp only; omega
    · split
      · dsimp only; omega
      · dsimp only; omega
theorem map_str_data (l : List (List UInt8)) : (l.map strOf).map (·.data.toList) = l := by
  rw [List.map_map]
  conv => rhs; rw [← List.map_id l]
  exact List.map_congr_left (fun s _ => str_data s)
set_option maxHeartbeats 8000000 in
set_option maxRecDepth 100000 in
theorem lsays_e1 (a : Option Addr) (ss : List ByteArray) (c : Nat) (frm many first : Int) (a2 : Option Addr) (l : List Ac) (c2 : Nat) (w : World) (hin : StrsB (fun _ => False) w a ss) (hsm : ss.length ≤ maxLen) (hw : AcsAt w a2 l) (hm : l.length ≤ maxLen) (h1 : 40 < ss.length) :
    Calls Try.prog 5 #[.slice a ss.length c, .int .i64 frm, .int .i64 many, .int .i64 first, .slice a2 l.length c2] w fun e w' => e = .returned (.bool true) ∧ Below w.heap.size w w' := by
  have d1 : decide ((40 : Int) < (ss.length : Int)) = true := decide_eq_true (by omega)
  unfold maxLen at hsm
  have hcon := logs_any w
  go_enter Try.func5, Try.ntmps5
  go_wp2_with fail
  refine hcon.mono ?_
  rintro e w1 ⟨rfl, hb1⟩
  clear hcon
  go_wp2_with fail
  go_ret
  exact ⟨rfl, hb1⟩
set_option maxHeartbeats 8000000 in
set_option maxRecDepth 100000 in
theorem lsays_e2 (a : Option Addr) (ss : List ByteArray) (c : Nat) (frm many first : Int) (a2 : Option Addr) (l : List Ac) (c2 : Nat) (w : World) (hin : StrsB (fun _ => False) w a ss) (hsm : ss.length ≤ maxLen) (hw : AcsAt w a2 l) (hm : l.length ≤ maxLen) (h1 : ss.length ≤ 40) (hq : lacB l 20 = false) :
    Calls Try.prog 5 #[.slice a ss.length c, .int .i64 frm, .int .i64 many, .int .i64 first, .slice a2 l.length c2] w fun e w' => e = .returned (.bool true) ∧ Below w.heap.size w w' := by
  have d1 : decide ((40 : Int) < (ss.length : Int)) = false := decide_eq_false (by omega)
  unfold maxLen at hsm
  have hcon := logs_any w
  go_enter Try.func5, Try.ntmps5
  go_wp2_with fail
  refine hcon.mono ?_
  rintro e w1 ⟨rfl, hb1⟩
  clear hcon
  have hcon := lac_any a2 c2 l 20 w1 (hw.below hb1) hm (by decide) (by decide)
  rw [hq] at hcon
  go_wp2_with fail
  refine hcon.mono ?_
  rintro e w4 ⟨rfl, rfl⟩
  go_wp2_with fail
  go_ret
  exact ⟨rfl, hb1⟩
set_option maxHeartbeats 8000000 in
set_option maxRecDepth 100000 in
theorem lsays_e3 (a : Option Addr) (ss : List ByteArray) (c : Nat) (frm many first : Int) (a2 : Option Addr) (l : List Ac) (c2 : Nat) (w : World) (hin : StrsB (fun _ => False) w a ss) (hsm : ss.length ≤ maxLen) (hw : AcsAt w a2 l) (hm : l.length ≤ maxLen) (h1 : ss.length ≤ 40) (hq : lacB l 20 = true) (hf : 1000000 < first) :
    Calls Try.prog 5 #[.slice a ss.length c, .int .i64 frm, .int .i64 many, .int .i64 first, .slice a2 l.length c2] w fun e w' => e = .returned (.bool true) ∧ Below w.heap.size w w' := by
  have d1 : decide ((40 : Int) < (ss.length : Int)) = false := decide_eq_false (by omega)
  have d2 : decide (1000000 < first) = true := decide_eq_true hf
  unfold maxLen at hsm
  have hcon := logs_any w
  go_enter Try.func5, Try.ntmps5
  go_wp2_with fail
  refine hcon.mono ?_
  rintro e w1 ⟨rfl, hb1⟩
  clear hcon
  have hcon := lac_any a2 c2 l 20 w1 (hw.below hb1) hm (by decide) (by decide)
  rw [hq] at hcon
  go_wp2_with fail
  refine hcon.mono ?_
  rintro e w4 ⟨rfl, rfl⟩
  go_wp2_with fail
  go_ret
  exact ⟨rfl, hb1⟩
set_option maxHeartbeats 8000000 in
set_option maxRecDepth 100000 in
theorem lsays_go (a : Option Addr) (ss : List ByteArray) (c : Nat) (frm many first : Int) (a2 : Option Addr) (l : List Ac) (c2 : Nat) (w : World) (hin : StrsB (fun _ => False) w a ss) (hsm : ss.length ≤ maxLen) (hw : AcsAt w a2 l) (hm : l.length ≤ maxLen) (h1 : ss.length ≤ 40) (hq : lacB l 20 = true) (hf : ¬ 1000000 < first) (hr : (-9223372036854775808 ≤ frm ∧ frm ≤ 9223372036854775807) ∧ (-9223372036854775808 ≤ many ∧ many ≤ 9223372036854775807)) (hch70 : ∀ x ∈ l, x.ch.length ≤ 70) (hl20 : l.length ≤ 20) :
    Calls Try.prog 5 #[.slice a ss.length c, .int .i64 frm, .int .i64 many, .int .i64 first, .slice a2 l.length c2] w fun e w' => e = .returned (.bool true) ∧ Below w.heap.size w w' := by
  have d1 : decide ((40 : Int) < (ss.length : Int)) = false := decide_eq_false (by omega)
  have d2 : decide (1000000 < first) = false := decide_eq_false hf
  unfold maxLen at hsm
  have hcon := logs_any w
  go_enter Try.func5, Try.ntmps5
  go_wp2_with fail
  refine hcon.mono ?_
  rintro e w1 ⟨rfl, hb1⟩
  clear hcon
  have hcon := lac_any a2 c2 l 20 w1 (hw.below hb1) hm (by decide) (by decide)
  rw [hq] at hcon
  go_wp2_with fail
  refine hcon.mono ?_
  rintro e w4 ⟨rfl, rfl⟩
  clear hcon
  go_wp2_with fail
  clear d1 d2
  go_loopw [12] (fun i wr => ∃ k : Nat, k ≤ ss.length ∧ i = .int .i64 k ∧ Below w.heap.size w wr ∧ Sm ss k) (fun i _ => ss.length - (intOf i).toNat)
  case atStart => exact ⟨0, Nat.zero_le _, rfl, hb1, fun j s hj => absurd hj (by omega)⟩
  case round =>
    clear hb1
    obtain ⟨k, hk, rfl, hbl, HSm⟩ := hrel
    by_cases hlt : k < ss.length
    · obtain ⟨s, hx⟩ : ∃ s, ss[k]? = some s := ⟨ss[k], List.getElem?_eq_getElem hlt⟩
      have dlt : decide ((k : Int) < (ss.length : Int)) = true := decide_eq_true (by omega)
      obtain ⟨b, o, rfl, hbb, -, hcc⟩ := (hin.tr (Tr.of_below hbl)).resolve_left (by rintro e; rw [e] at hlt; simp at hlt)
      obtain ⟨q0, hsz⟩ := hcc k s hx
      unfold maxLen at hsz
      clear hcc
      by_cases hz : s.size ≤ 48
      · have dz : decide ((48 : Int) < (s.size : Int)) = false := decide_eq_false (by omega)
        have HS2 := HSm.succ hx hz
        go_wp2_with fail
        go_roundw
        case rel => exact ⟨k + 1, by omega, by go_num, (by first | exact hbl | exact below_drewN hbl _), HS2⟩
        case measure => simp [intOf]; omega
      · have dz : decide ((48 : Int) < (s.size : Int)) = true := decide_eq_true (by omega)
        go_wp2_with fail
        go_ret
        exact ⟨rfl, by first | exact hbl | exact below_drewN hbl _⟩
    · have dlt : decide ((k : Int) < (ss.length : Int)) = false := decide_eq_false (by omega)
      obtain ⟨n, hn⟩ : ∃ n : Nat, n = if 1 < ss.length then ss.length else 1 := ⟨_, rfl⟩
      have hmx : mxI 1 (ss.length : Int) = (n : Int) := by unfold mxI; rw [hn]; split <;> (split <;> omega)
      have hn1 : 1 ≤ n ∧ n ≤ 40 ∧ ss.length ≤ n := by rw [hn]; split <;> omega
      have hcon := new_o n wr hn1.1 (by omega)
      rw [← hmx] at hcon
      have HMX : Hid (mxI 1 (ss.length : Int) = (n : Int)) := hmx
      have HSA : Sm ss ss.length := by have : k = ss.length := by omega
                                       exact this ▸ HSm
      clear hmx HSm
      clear hn
      go_wp2_with (refine wpList_run (by rfl) (exec_maxI _ _ _ _ 1 (ss.length : Int) _ (by rfl) (by rfl) (by rfl) (by rfl) (by rfl)) ?_)
      refine hcon.mono ?_
      rintro e w2 ⟨p, B, rfl, hD, hB, hb2⟩
      clear hcon
      have hC : Calm (newD n) n := Calm.new
      have hB' : ∀ k, B k → w.heap.size ≤ k := fun k hk => Nat.le_trans hbl.size (hB k hk)
      have bl2 := Below_after hbl hb2
      have hw0 : (newD n).wr.length ≤ 0 := Nat.le_refl _
      generalize newD n = d0 at *
      clear hB hbl hb2 hlt dlt hk
      go_wp2_with fail
      go_loopw [15] (fun i wr => ∃ (k : Nat) (B : Nat → Prop) (d : Dk), k ≤ ss.length ∧ i = .int .i64 k ∧ DkO wr B p d ∧ (∀ k, B k → w.heap.size ≤ k) ∧ Below w.heap.size w wr ∧ d.wr.length ≤ k ∧ Calm d n) (fun i _ => ss.length - (intOf i).toNat)
      case atStart => exact ⟨0, B, d0, Nat.zero_le _, rfl, hD, hB', bl2, hw0, hC⟩
      case round =>
        clear hD hB' bl2 hw0 hC d0
        obtain ⟨k, B, d, hk, rfl, hD, hB, hbl, hwl, hC⟩ := hrel
        by_cases hlt : k < ss.length
        · obtain ⟨s, hx⟩ : ∃ s, ss[k]? = some s := ⟨ss[k], List.getElem?_eq_getElem hlt⟩
          have dlt : decide ((k : Int) < (ss.length : Int)) = true := decide_eq_true (by omega)
          obtain ⟨b, o, rfl, hbb, -, hcc⟩ := (hin.tr (Tr.of_below hbl)).resolve_left (by rintro e; rw [e] at hlt; simp at hlt)
          obtain ⟨q0, hsz⟩ := hcc k s hx
          obtain ⟨hw0, hC2⟩ := hC.write (show k < n by omega) (HSA k s hlt hx)
          have hwl2 := wr_wr_len d k s
          have hcon := write_o B p d k s wr hD hsz (by omega)
          rw [hw0, errV_zero] at hcon
          clear hcc hx hsz hw0 hC
          generalize wrR d k s = d2 at *
          go_wp2_with fail
          refine hcon.mono ?_
          rintro e w3 ⟨B3, rfl, hD3, hT3⟩
          clear hcon
          go_wp2_with fail
          go_roundw
          case rel => exact ⟨k + 1, B3, d2, by omega, by go_num, hD3, hT3.base hB hbl.size, hbl.trans (hT3.to_below hB hbl.size), by omega, hC2⟩
          case measure => simp [intOf]; omega
        · have dlt : decide ((k : Int) < (ss.length : Int)) = false := decide_eq_false (by omega)
          have hwl : d.wr.length ≤ 40 := by omega
          have hnl := hC.len
          clear HMX
          by_cases hok : 0 ≤ frm ∧ 1 ≤ many ∧ 1 ≤ first ∧ many ≤ (d.now.length : Int) - frm
          rotate_left
          · have hcon := lopen_no B p d frm many first wr hD hok hr.1.2
            have hse := sectors_o B p d wr hD
            have hsa := same_eq 1 wr (by decide)
            rw [errV_pos (by decide)] at hsa
            rw [hnl] at hse hok
            by_cases c1 : frm < 0
            · have e1 : decide (frm < 0) = true := decide_eq_true c1
              go_wp2_with fail
              refine hcon.mono ?_
              rintro e w5 ⟨rfl, rfl⟩
              clear hcon
              go_wp2_with fail
              refine hsa.mono ?_
              rintro e w6 ⟨rfl, rfl⟩
              go_wp2_with fail
              go_ret
              exact ⟨rfl, hbl⟩
            have e1 : decide (frm < 0) = false := decide_eq_false c1
            by_cases c2' : many < 1
            · have e2 : decide (many < 1) = true := decide_eq_true c2'
              go_wp2_with fail
              refine hcon.mono ?_
              rintro e w5 ⟨rfl, rfl⟩
              clear hcon
              go_wp2_with fail
              refine hsa.mono ?_
              rintro e w6 ⟨rfl, rfl⟩
              go_wp2_with fail
              go_ret
              exact ⟨rfl, hbl⟩
            have e2 : decide (many < 1) = false := decide_eq_false c2'
            by_cases c3 : (n : Int) < many
            · have e3 : decide ((n : Int) < many) = true := decide_eq_true c3
              go_wp2_with fail
              refine hcon.mono ?_
              rintro e w5 ⟨rfl, rfl⟩
              clear hcon
              go_wp2_with fail
              refine hse.mono ?_
              rintro e w6 ⟨rfl, rfl⟩
              go_wp2_with fail
              refine hsa.mono ?_
              rintro e w7 ⟨rfl, rfl⟩
              go_wp2_with fail
              go_ret
              exact ⟨rfl, hbl⟩
            have e3 : decide ((n : Int) < many) = false := decide_eq_false c3
            by_cases c4 : (n : Int) - many < frm
            · have e4 : decide ((n : Int) - many < frm) = true := decide_eq_true c4
              go_wp2_with fail
              refine hcon.mono ?_
              rintro e w5 ⟨rfl, rfl⟩
              clear hcon
              go_wp2_with fail
              refine hse.mono ?_
              rintro e w6 ⟨rfl, rfl⟩
              go_wp2_with fail
              refine hse.mono ?_
              rintro e w7 ⟨rfl, rfl⟩
              go_wp2_with fail
              refine hsa.mono ?_
              rintro e w8 ⟨rfl, rfl⟩
              go_wp2_with fail
              go_ret
              exact ⟨rfl, hbl⟩
            have e4 : decide ((n : Int) - many < frm) = false := decide_eq_false c4
            have e5 : decide (first < 1) = true := decide_eq_true (by omega)
            go_wp2_with fail
            refine hcon.mono ?_
            rintro e w5 ⟨rfl, rfl⟩
            clear hcon
            go_wp2_with fail
            refine hse.mono ?_
            rintro e w6 ⟨rfl, rfl⟩
            go_wp2_with fail
            refine hse.mono ?_
            rintro e w7 ⟨rfl, rfl⟩
            go_wp2_with fail
            refine hsa.mono ?_
            rintro e w8 ⟨rfl, rfl⟩
            go_wp2_with fail
            go_ret
            exact ⟨rfl, hbl⟩
          obtain ⟨k1, k2, k3, k4⟩ := hok
          obtain ⟨frm, rfl⟩ : ∃ f : Nat, frm = f := ⟨frm.toNat, by omega⟩
          obtain ⟨many, rfl⟩ : ∃ f : Nat, many = f := ⟨many.toNat, by omega⟩
          obtain ⟨first, rfl⟩ : ∃ f : Nat, first = f := ⟨first.toNat, by omega⟩
          have hfm : frm + many ≤ d.now.length := by omega
          have hfr40 : frm ≤ 40 := by omega
          have hmn40 : many ≤ 40 := by omega
          have hcon := lopen_any B p d frm many first wr hD hC.down (by omega) (by omega) hfm (by omega)
          have hInv := LogInv.of first ((d.now.drop frm).take many)
          have hbd := rd_bnd first ((d.now.drop frm).take many) 0 ⟨[], [], 0⟩ (Nat.le_refl _) (Nat.le_refl _) (fun x hx => nomatch hx)
          have hsl := sec_len hfm
          have h48 : ∀ s ∈ (d.now.drop frm).take many, s.length = 48 := fun s hs => hD.ok.nows s (List.mem_of_mem_drop (List.mem_of_mem_take hs))
          have hget : ∀ k, k < many → ∃ s, ((d.now.drop frm).take many)[k]? = some s ∧ rdS d ((frm : Int) + (k : Int)) = strOf s ∧ rdC d ((frm : Int) + (k : Int)) = 0 := fun k hk => by
            have e := sec_get (j := k) hfm
            rw [if_pos hk] at e
            have hlt : frm + k < d.now.length := by omega
            have e2 : d.now[frm + k]? = some d.now[frm + k] := List.getElem?_eq_getElem hlt
            have hh : hasB2 d ((frm : Int) + (k : Int)) = true := (hasB2_iff d _).2 ⟨by omega, by omega⟩
            have h0 : rdC d ((frm : Int) + (k : Int)) = 0 := by simp [rdC, hC.down, hh]
            refine ⟨d.now[frm + k], by rw [e, e2], ?_, h0⟩
            unfold rdS
            rw [if_pos h0, show ((frm : Int) + (k : Int)).toNat = frm + k by omega, List.getD_eq_getElem?_getD, e2]
            rfl
          have HSEC : Hid (secsOf d ⟨frm, many, first, 0⟩ = (d.now.drop frm).take many) := rfl
          have hlg : lgOf first ((d.now.drop frm).take many) = rdLog first ((d.now.drop frm).take many) 0 ⟨[], [], 0⟩ := rfl
          rw [← hlg] at hbd
          clear hlg
          generalize (d.now.drop frm).take many = secs at *
          obtain ⟨R, hR⟩ : ∃ R, lgOf first secs = R := ⟨_, rfl⟩
          have HR : Hid (lgOf first secs = R) := hR
          rw [hR] at hcon hInv hbd
          clear hR
          have e1 : decide ((frm : Int) < 0) = false := decide_eq_false (by omega)
          have e2 : decide ((many : Int) < 1) = false := decide_eq_false (by omega)
          have e3 : decide ((n : Int) < (many : Int)) = false := decide_eq_false (by omega)
          have e3n : ¬ n < many := by omega
          have e3d : decide (n < many) = false := decide_eq_false e3n
          have e4 : decide ((n : Int) - (many : Int) < (frm : Int)) = false := decide_eq_false (by omega)
          have e5 : decide ((first : Int) < 1) = false := decide_eq_false (by omega)
          go_wp2_with fail
          refine hcon.mono ?_
          rintro e w5 ⟨q, ag, cg, rfl, hL, hgot, hq5, hb5⟩
          have HQ : Hid (q = _) := hq5
          clear hcon hq5
          have hse := sectors_o B p d w5 (hD.below hb5)
          rw [hnl] at hse
          go_wp2_with fail
          refine hse.mono ?_
          rintro e w6 ⟨rfl, rfl⟩
          go_wp2_with fail
          refine hse.mono ?_
          rintro e w7 ⟨rfl, rfl⟩
          clear hse
          go_wp2_with fail
          clear e1 e2 e3 e4 e5 dlt
          go_loopw [18, 19, 20, 21] (fun xs i _ _ wr' => ∃ (k : Nat), k ≤ many ∧ i = .int .i64 k ∧ wr'.ownsRow w7.heap.size 9 1 xs k (strV (secs.take k)) ∧ Below w7.heap.size w7 wr') (fun _ i _ _ _ => many - (intOf i).toNat)
          case atStart => exact ⟨0, Nat.zero_le _, rfl, World.ownsRow_nil _ _ _ _, Below.refl _ _⟩
          case round =>
            obtain ⟨j, hj, rfl, hO, hbj⟩ := hrel
            obtain ⟨ao, co, rfl⟩ := own_form hO
            by_cases hjl : j < many
            · have djl : decide ((j : Int) < (many : Int)) = true := decide_eq_true (by omega)
              obtain ⟨s, hs, hs1, hs2⟩ := hget j hjl
              have hrd := fun W (hW : Below w7.heap.size w7 W) => read_o B p d ((frm : Int) + (j : Int)) W ((hD.below hb5).below hW)
              rw [hs1, hs2, errV_zero] at hrd
              have HTK : Hid (secs.take (j + 1) = secs.take j ++ [s]) := by
                show _ = _
                obtain ⟨h1, rfl⟩ := List.getElem?_eq_some_iff.1 hs
                rw [List.take_succ_eq_append_getElem h1]
              clear hs hs1 hs2 hget
              go_wp2_with fail
              refine (hrd _ (by first | exact hbj | exact below_drewN hbj _)).mono ?_
              rintro e w8 ⟨rfl, rfl⟩
              clear hrd
              have hO4 := hO.alloc (.cells #[.string (strOf s)] 9)
              have bl4 := hbj.alloc hbj.size (.cells #[.string (strOf s)] 9)
              have hg4 := heap_alloc_last w8 (.cells #[.string (strOf s)] 9)
              obtain ⟨v', w9, r1, r2, r3, r5⟩ := run_app 49 9 49 Try.underlying49 infoSt rfl (by decide) (by decide) hO4 (by omega) bl4.size (news := [.string (strOf s)]) rfl (by intro u hu; simp at hu; rw [hu]; rfl) w8.heap.size hg4
              have bl5 : Below w7.heap.size w7 w9 := ⟨r3.os.trans bl4.os, r3.tape.trans bl4.tape, r3.output.trans bl4.output, Nat.le_trans bl4.size r3.size, fun j hj => (r3.block j (Nat.lt_of_lt_of_le hj bl4.size) (fun e => by have := (hO4.lt j e.symm).1; omega)).trans (bl4.block j hj)⟩
              rw [← strV_snoc, ← HTK.out] at r2
              clear r3 r5 hO4 hO hg4 bl4
              go_wp2_with (refine wpList_run (by rfl) (exec_append _ _ _ _ (by rfl) (by rfl) (by rfl) (by rfl) (by rfl) (by rfl) r1) ?_)

              go_roundw
              case rel => exact ⟨j + 1, by omega, by go_num, r2, bl5⟩
              case measure => simp [intOf]; omega
            · have djl : decide ((j : Int) < (many : Int)) = false := decide_eq_false (by omega)
              have hjm : j = many := by omega
              rw [show secs.take j = secs from List.take_of_length_le (by omega), show j = secs.length by omega] at hO
              obtain ⟨a', c', hv, hS⟩ := own_strs hO (fun s hs => by rw [h48 s hs]; decide)
              have hjs : secs.length = j := by omega
              rw [hjs] at hv
              simp only [Value.slice.injEq] at hv
              obtain ⟨rfl, -, rfl⟩ := hv
              have hcl := closed_any ao co (secs.map strOf) first wr hS.none (by rw [List.length_map]; omega) (fun s hs => by
                obtain ⟨x, hx, rfl⟩ := List.mem_map.1 hs
                rw [str_size, h48 x hx]) (by omega)
              rw [map_str_data, HR.out, List.length_map, hjs] at hcl
              have HJS : Hid (secs.length = j) := hjs
              have HJM : Hid (j = many) := hjm
              have HSL : Hid (secs.length = many) := hsl
              clear hget hO h48 hjs hsl hjm
              go_wp2_with fail
              refine hcl.mono ?_
              rintro e w9 ⟨aw, cw, rfl, hwant, hb9⟩
              clear hcl
              have b79 := Below_after hbj hb9
              have hI : LsI w w9 p q B d ⟨frm, many, first, R.used⟩ ag aw R.deeds := by
                have hq := HQ.out
                have hlt := hD.lt
                have hnq : ¬ B q := fun e => by have := hlt q e; omega
                have hsz := hb5.size
                have hsz2 := hbj.size
                have hLq := heap_lt hL
                refine ⟨(hD.below hb5).below b79, hL.below b79, hnq, fun k hk => ?_, Below_after (Below_after hbl hb5) b79, (hgot.mono (fun k _ hk => ?_)).below b79, hwant.mono (fun k _ hk => ?_), ?_, hC.left, hC.down, hfm, ?_⟩
                · rcases hk with hk | hk
                  · exact hB k hk
                  · have := hbl.size; unfold On at hk; omega
                · rcases hk with hk | hk
                  · have := hlt k hk; omega
                  · unfold On at hk; omega
                · rcases hk with hk | hk
                  · have := hlt k hk; omega
                  · unfold On at hk; omega
                · show LogInv first (secsOf d ⟨frm, many, first, R.used⟩) R.deeds R.used
                  have := HSEC.out
                  unfold secsOf at this ⊢
                  rw [this]; exact hInv
                · show R.used ≤ many
                  have := hInv.le; have := HSL.out; omega
              have hR1 : R.deeds.length ≤ 40 ∧ ∀ x ∈ R.deeds, x.length ≤ 40 := ⟨by have := hbd.1; have := HSL.out; omega, fun x hx => by have := hbd.2 x hx; have := HSL.out; omega⟩
              clear hbd hInv hgot hwant hb9 b79 hL hb5 hbj hD hB hbl djl hjl hS HSEC HR hfm hC hj
              have hR2 : ∀ x ∈ R.deeds, x.length ≤ 200 := fun x hx => by have := hR1.2 x hx; omega
              have hR1 := hR1.1
              go_wp2_with fail
              go_loopw [14, 16, 17, 22, 23, 24, 25, 26, 27] (fun _ xl xg xw xu i _ _ _ wr' => ∃ (k : Nat) (B : Nat → Prop) (d : Dk) (q u : Nat) (ag aw : Option Addr) (cg cw : Nat) (W : List (List Ch)), k ≤ l.length ∧ i = .int .i64 k ∧ xl = .pointer (some ⟨q, 0, none⟩) ∧ xg = .slice ag W.length cg ∧ xw = .slice aw W.length cw ∧ xu = .int .i64 (u : Int) ∧ LsI w wr' p q B d ⟨frm, many, first, u⟩ ag aw W ∧ d.now.length = n ∧ d.wr.length ≤ 40 + 200 * k ∧ W.length ≤ 200 + k ∧ ∀ x ∈ W, x.length ≤ 200) (fun _ _ _ _ _ i _ _ _ _ => l.length + 1 - (intOf i).toNat)
              case atStart => exact ⟨0, B, d, q, R.used, ag, aw, cg, cw, R.deeds, Nat.zero_le _, rfl, rfl, rfl, rfl, rfl, hI, hnl, by omega, by omega, hR2⟩
              case round =>
                clear hI hnl hwl hR1 hR2
                obtain ⟨k, B, d, q, u, ag, aw, cg, cw, W, hk, rfl, rfl, rfl, rfl, rfl, h, hnl, hwl, hWl, hWx⟩ := hrel
                have dle : decide ((k : Int) ≤ (l.length : Int)) = true := decide_eq_true (by omega)
                have hbig : ∀ x ∈ W, x.length ≤ maxLen := fun x hx => by have := hWx x hx; unfold maxLen; omega
                have hus : u ≤ many := h.used
                have hs1 := fun W' (hW : Below wr.heap.size wr W') => samedd_any _ _ ag aw cg cw W W W' (h.got.below hW) (h.want.below hW) (by omega) (by omega) hbig hbig
                clear hbig
                go_wp2_with fail
                refine (hs1 _ (Below.refl _ _)).mono ?_
                rintro e wc ⟨⟨r1, rfl, hr1⟩, hbc⟩
                obtain rfl : r1 = true := hr1.2 (by first | rfl | trivial)
                clear hs1 hr1
                replace h := h.below hbc
                clear hbc
                have hrm := room_any p q ⟨frm, many, first, u⟩ wc h.hL (by show many ≤ 100000; omega) (by show u ≤ 100000; omega)
                go_wp2_with fail
                refine hrm.mono ?_
                rintro e wd ⟨rfl, hbd⟩
                clear hrm
                replace h := h.below hbd
                clear hbd
                have hnx := next_any p q ⟨frm, many, first, u⟩ wd h.hL (by show many ≤ 100000; omega) (by show first ≤ 1000000000000; omega)
                go_wp2_with fail
                refine hnx.mono ?_
                rintro e wj ⟨rfl, hbj⟩
                clear hnx dle
                replace h := h.below hbj
                clear hbj
                by_cases hlt : k < l.length
                rotate_left
                · have hke : k = l.length := by omega
                  have dke : ((k : Int) == (l.length : Int)) = true := by simp; omega
                  have hbl := h.bl
                  clear h
                  go_wp2_with fail
                  go_ret
                  exact ⟨rfl, hbl⟩
                have dke : ((k : Int) == (l.length : Int)) = false := by simp; omega
                obtain ⟨x, hx⟩ : ∃ x, l[k]? = some x := ⟨l[k], List.getElem?_eq_getElem hlt⟩
                have hxm := List.mem_of_getElem? hx
                have hc70 := hch70 x hxm
                obtain ⟨b, o, rfl, hbb, hww⟩ := (hw.below h.bl).resolve_left (by rintro e; rw [e] at hlt; simp at hlt)
                obtain ⟨⟨q0, q1, q2, q3, q4, q5, q6, q7, q8, q9, q10⟩, i1, i2, i3, i4⟩ := hww k x hx
                have hchs : ChsAt w x.xc x.ch := by
                  obtain ⟨b2, o2, he, hbb2, hww2⟩ := hw.resolve_left (by rintro e; rw [e] at hlt; simp at hlt)
                  exact (hww2 k x hx).2.2.2.2
                have hchl := i3
                rw [i2] at q10
                clear hww hx hxm i1 i2 i4
                generalize x.xc = xc at *
                have BX := Bx.new wj [.string x.kd, .string x.sd, .int .i64 x.ph, .int .i64 x.ps, .int .i64 x.qh, .int .i64 x.qs, .int .i64 x.aa, .int .i64 x.bb, .int .i64 x.nn, .int .u64 x.kk, .slice xc x.ch.length x.cc] 40
                have HGN : Hid (¬ Un B (On q) wj.heap.size) := fun e => by have := h.lt _ e; omega
                replace h := h.below ((Below.refl _ _).alloc (Nat.le_refl _) (.cells #[.string x.kd, .string x.sd, .int .i64 x.ph, .int .i64 x.ps, .int .i64 x.qh, .int .i64 x.qs, .int .i64 x.aa, .int .i64 x.bb, .int .i64 x.nn, .int .u64 x.kk, .slice xc x.ch.length x.cc] 40))
                by_cases hkd : x.kd.toList = [97, 100, 100]
                rotate_left
                · have k0 : (x.kd.toList == [97, 100, 100]) = false := by simpa using hkd
                  have k1 : (x.kd.toList != [97, 100, 100]) = true := by simpa using hkd
                  clear BX HGN
                  have hcon := lopen_any B p d frm many first _ h.hD h.down (by omega) (by omega) h.fit (by omega)
                  have hrd := h.inv.read
                  rw [show (lgOf first ((d.now.drop frm).take many)).deeds = W from hrd.1, show (lgOf first ((d.now.drop frm).take many)).used = u from hrd.2] at hcon
                  clear hrd
                  go_wp2_with fail
                  generalize wj.alloc (.cells #[.string x.kd, .string x.sd, .int .i64 x.ph, .int .i64 x.ps, .int .i64 x.qh, .int .i64 x.qs, .int .i64 x.aa, .int .i64 x.bb, .int .i64 x.nn, .int .u64 x.kk, .slice xc x.ch.length x.cc] 40) = wk at *
                  refine hcon.mono ?_
                  rintro e w5 ⟨q2, ag2, cg2, rfl, hL2, hgot2, hq2, hb2⟩
                  clear hcon
                  have h6 := h.again hL2 hgot2 hq2 hb2
                  clear h hL2 hgot2 hq2 hb2
                  go_wp2_with fail
                  go_roundw
                  case rel => exact ⟨k + 1, B, d, q2, u, ag2, aw, cg2, cw, W, by omega, by go_num, rfl, rfl, rfl, rfl, h6, hnl, by omega, by omega, hWx⟩
                  case measure => simp [intOf]; omega
                have k0 : (x.kd.toList == [97, 100, 100]) = true := by simpa using hkd
                have k1 : (x.kd.toList != [97, 100, 100]) = false := by simpa using hkd
                have hAN := add_never (l := x.ch) h.down h.left h.fit h.used h.inv
                obtain ⟨F, hF⟩ : ∃ F : Int, F = if 62 < x.ch.length then 2 else if many - u < x.ch.length + 1 then 9 else chksC x.ch := ⟨_, rfl⟩
                have HAF : Hid ((addR d ⟨frm, many, first, u⟩ x.ch).2.2 = F) := by
                  show _ = _
                  rw [hF]
                  rcases hAN with ⟨a1, -, -, -, -, a6, a7, a8⟩ | ⟨a1, -⟩
                  · dsimp only at a7
                    rw [a1, if_neg (by omega), if_neg (by omega), a8]
                  · exact a1
                have HAN : Hid _ := hAN
                clear hAN
                have c0 := (BX.2 0 _ rfl).1
                have dx := BX.1
                have c10 := (BX.2 10 _ rfl).1
                by_cases hA : 62 < x.ch.length
                · have dA : decide ((62 : Int) < (x.ch.length : Int)) = true := decide_eq_true (by omega)
                  have HF2 : Hid (F = 2) := by show _ = _; rw [hF, if_pos hA]
                  clear hF
                  have HFF : Hid (F = 2) := HF2
                  have hne : (2 : Int) ≠ 0 := by decide
                  go_wp2_with fail
                  generalize wj.alloc (.cells #[.string x.kd, .string x.sd, .int .i64 x.ph, .int .i64 x.ps, .int .i64 x.qh, .int .i64 x.qs, .int .i64 x.aa, .int .i64 x.bb, .int .i64 x.nn, .int .u64 x.kk, .slice xc x.ch.length x.cc] 40) = wb0 at *
                  generalize wj.heap.size = g at *
                  go_loopw [26, 27] (fun f i wr' => f = .int .i64 2 ∧ i = .int .i64 0 ∧ Below wb0.heap.size wb0 wr') (fun _ _ _ => 0)
                  case atStart => exact ⟨rfl, rfl, Below.refl _ _⟩
                  case round =>
                    obtain ⟨rfl, rfl, hbb⟩ := hrel
                    clear dx c0
                    replace h := h.below hbb
                    replace BX := BX.below hbb
                    clear hbb
                    have c10 := (BX.2 10 _ rfl).1
                    have zX := BX.1
                    by_cases hpos : (0 : Int) < (x.ch.length : Int)
                    · have d1 : decide ((0 : Int) < (x.ch.length : Int)) = true := decide_eq_true hpos
                      have hadd := ladd_any B p q d ⟨frm, many, first, u⟩ xc x.cc x.ch wr h.hD h.hL h.nq (ChsAt.outside (base := 0) hchs h.bl (fun k hk => h.base k (.inl hk))) hchl h.used (by show many ≤ 1000; omega) (by show frm ≤ 1000; omega) (by show first ≤ 1000000000000; omega) (by omega)
                      rw [HAF.out, HFF.out] at hadd
                      rcases HAN.out with ⟨a1, -⟩ | ⟨-, -, a3, a4⟩
                      · exact absurd (HFF.out.symm.trans (HAF.out.symm.trans a1)) hne
                      rw [a3, a4] at hadd
                      clear a3 a4
                      have hsm := fun W => same_eq 2 W (by omega)
                      go_wp2_with fail
                      refine hadd.mono ?_
                      rintro e w6 ⟨rfl, B6, hD6, hL6, hnq6, hT6⟩
                      clear hadd
                      have h6 := h.stay hT6 hD6 hL6 hnq6
                      go_wp2_with fail
                      refine (hsm w6).mono ?_
                      rintro e w7 ⟨rfl, rfl⟩
                      clear hsm
                      have d0 : (2 == (0 : Int)) = false := by simpa using hne
                      go_wp2_with fail
                      go_roundw
                      case rel => exact ⟨k + 1, B6, d, q, u, ag, aw, cg, cw, W, by omega, by go_num, rfl, rfl, rfl, rfl, h6, hnl, by omega, by omega, hWx⟩
                      case measure => simp [intOf]; omega
                    · exact absurd hpos (by omega)
                have dA : decide ((62 : Int) < (x.ch.length : Int)) = false := decide_eq_false (by omega)
                by_cases hBB : many - u < x.ch.length + 1
                · have dB : decide ((many : Int) - (u : Int) < (x.ch.length : Int) + 1) = true := decide_eq_true (by omega)
                  have HF2 : Hid (F = 9) := by show _ = _; rw [hF, if_neg hA, if_pos hBB]
                  clear hF
                  have HFF : Hid (F = 9) := HF2
                  have hne : (9 : Int) ≠ 0 := by decide
                  go_wp2_with fail
                  generalize wj.alloc (.cells #[.string x.kd, .string x.sd, .int .i64 x.ph, .int .i64 x.ps, .int .i64 x.qh, .int .i64 x.qs, .int .i64 x.aa, .int .i64 x.bb, .int .i64 x.nn, .int .u64 x.kk, .slice xc x.ch.length x.cc] 40) = wb0 at *
                  generalize wj.heap.size = g at *
                  go_loopw [26, 27] (fun f i wr' => f = .int .i64 9 ∧ i = .int .i64 0 ∧ Below wb0.heap.size wb0 wr') (fun _ _ _ => 0)
                  case atStart => exact ⟨rfl, rfl, Below.refl _ _⟩
                  case round =>
                    obtain ⟨rfl, rfl, hbb⟩ := hrel
                    clear dx c0
                    replace h := h.below hbb
                    replace BX := BX.below hbb
                    clear hbb
                    have c10 := (BX.2 10 _ rfl).1
                    have zX := BX.1
                    by_cases hpos : (0 : Int) < (x.ch.length : Int)
                    · have d1 : decide ((0 : Int) < (x.ch.length : Int)) = true := decide_eq_true hpos
                      have hadd := ladd_any B p q d ⟨frm, many, first, u⟩ xc x.cc x.ch wr h.hD h.hL h.nq (ChsAt.outside (base := 0) hchs h.bl (fun k hk => h.base k (.inl hk))) hchl h.used (by show many ≤ 1000; omega) (by show frm ≤ 1000; omega) (by show first ≤ 1000000000000; omega) (by omega)
                      rw [HAF.out, HFF.out] at hadd
                      rcases HAN.out with ⟨a1, -⟩ | ⟨-, -, a3, a4⟩
                      · exact absurd (HFF.out.symm.trans (HAF.out.symm.trans a1)) hne
                      rw [a3, a4] at hadd
                      clear a3 a4
                      have hsm := fun W => same_eq 9 W (by omega)
                      go_wp2_with fail
                      refine hadd.mono ?_
                      rintro e w6 ⟨rfl, B6, hD6, hL6, hnq6, hT6⟩
                      clear hadd
                      have h6 := h.stay hT6 hD6 hL6 hnq6
                      go_wp2_with fail
                      refine (hsm w6).mono ?_
                      rintro e w7 ⟨rfl, rfl⟩
                      clear hsm
                      have d0 : (9 == (0 : Int)) = false := by simpa using hne
                      go_wp2_with fail
                      go_roundw
                      case rel => exact ⟨k + 1, B6, d, q, u, ag, aw, cg, cw, W, by omega, by go_num, rfl, rfl, rfl, rfl, h6, hnl, by omega, by omega, hWx⟩
                      case measure => simp [intOf]; omega
                    · have d1 : decide ((0 : Int) < (x.ch.length : Int)) = false := decide_eq_false hpos
                      have hpn : ¬ 0 < x.ch.length := by omega
                      have d1n : decide (0 < x.ch.length) = false := decide_eq_false hpn
                      have hadd := ladd_any B p q d ⟨frm, many, first, u⟩ xc x.cc x.ch wr h.hD h.hL h.nq (ChsAt.outside (base := 0) hchs h.bl (fun k hk => h.base k (.inl hk))) hchl h.used (by show many ≤ 1000; omega) (by show frm ≤ 1000; omega) (by show first ≤ 1000000000000; omega) (by omega)
                      rw [HAF.out, HFF.out] at hadd
                      rcases HAN.out with ⟨a1, -⟩ | ⟨-, -, a3, a4⟩
                      · exact absurd (HFF.out.symm.trans (HAF.out.symm.trans a1)) hne
                      rw [a3, a4] at hadd
                      clear a3 a4
                      have hsm := fun W => same_eq 9 W (by omega)
                      go_wp2_with fail
                      refine hadd.mono ?_
                      rintro e w6 ⟨rfl, B6, hD6, hL6, hnq6, hT6⟩
                      clear hadd
                      have h6 := h.stay hT6 hD6 hL6 hnq6
                      go_wp2_with fail
                      refine (hsm w6).mono ?_
                      rintro e w7 ⟨rfl, rfl⟩
                      clear hsm
                      have d0 : (9 == (0 : Int)) = false := by simpa using hne
                      go_wp2_with fail
                      go_roundw
                      case rel => exact ⟨k + 1, B6, d, q, u, ag, aw, cg, cw, W, by omega, by go_num, rfl, rfl, rfl, rfl, h6, hnl, by omega, by omega, hWx⟩
                      case measure => simp [intOf]; omega
                have dB : decide ((many : Int) - (u : Int) < (x.ch.length : Int) + 1) = false := decide_eq_false (by omega)
                have HF2 : Hid (F = if (0 : Int) = 0 then chksC (x.ch.drop 0) else 0) := by show _ = _; rw [hF, if_neg hA, if_neg hBB, if_pos rfl]; rfl
                clear hF
                go_wp2_with fail
                generalize wj.alloc (.cells #[.string x.kd, .string x.sd, .int .i64 x.ph, .int .i64 x.ps, .int .i64 x.qh, .int .i64 x.qs, .int .i64 x.aa, .int .i64 x.bb, .int .i64 x.nn, .int .u64 x.kk, .slice xc x.ch.length x.cc] 40) = wb0 at *
                generalize wj.heap.size = g at *
                go_loopw [26, 27] (fun f i wr' => ∃ (j : Nat) (fv : Int), j ≤ x.ch.length ∧ f = .int .i64 fv ∧ i = .int .i64 j ∧ (0 ≤ fv ∧ fv ≤ 10) ∧ Hid (F = if fv = 0 then chksC (x.ch.drop j) else fv) ∧ Below wb0.heap.size wb0 wr') (fun _ i _ => x.ch.length - (intOf i).toNat)
                case atStart => exact ⟨0, 0, Nat.zero_le _, rfl, rfl, by decide, HF2, Below.refl _ _⟩
                case round =>
                  obtain ⟨j, fv, hj, rfl, rfl, hfv, HFJ, hbb⟩ := hrel
                  clear dx c0
                  have h0 := h
                  have BX0 := BX
                  replace h := h.below hbb
                  replace BX := BX.below hbb
                  have c10 := (BX.2 10 _ rfl).1
                  have zX := BX.1
                  by_cases hjl : j < x.ch.length
                  · have d1 : decide ((j : Int) < (x.ch.length : Int)) = true := decide_eq_true (by omega)
                    by_cases hz : fv = 0
                    · subst hz
                      obtain ⟨y, hy⟩ : ∃ y, x.ch[j]? = some y := ⟨x.ch[j], List.getElem?_eq_getElem hjl⟩
                      obtain ⟨b3, o3, rfl, hb3, hww⟩ := (hchs.below h.bl).resolve_left (by rintro e; rw [e] at hjl; simp at hjl)
                      obtain ⟨⟨y0, y1, y2⟩, z0, z1⟩ := hww j y hy
                      have hf := fun W => rfault_any y W z0 z1
                      have hcn : 0 ≤ chkC y ∧ chkC y ≤ 10 := by unfold chkC; split <;> (try split) <;> omega
                      have HFK : Hid (F = if chkC y = 0 then chksC (x.ch.drop (j + 1)) else chkC y) := by
                        show _ = _
                        have := HFJ.out
                        rw [if_pos rfl, chks_drop hy] at this
                        exact this
                      clear hww hy HFJ
                      generalize chkC y = cy at *
                      go_wp2_with fail
                      refine (hf _).mono ?_
                      rintro e w6 ⟨rfl, hb6⟩
                      clear hf
                      go_wp2_with fail
                      go_roundw
                      case rel => exact ⟨j + 1, cy, by omega, rfl, by go_num, hcn, HFK, Below_after hbb hb6⟩
                      case measure => simp [intOf]; omega
                    · skip
                      have hne := hz
                      have HFF : Hid (F = fv) := by
                        show _ = _
                        have := HFJ.out
                        rwa [if_neg hz] at this
                      have d0' : (fv == (0 : Int)) = false := by simpa using hz
                      clear HFJ hbb
                      have hadd := ladd_any B p q d ⟨frm, many, first, u⟩ xc x.cc x.ch wr h.hD h.hL h.nq (ChsAt.outside (base := 0) hchs h.bl (fun k hk => h.base k (.inl hk))) hchl h.used (by show many ≤ 1000; omega) (by show frm ≤ 1000; omega) (by show first ≤ 1000000000000; omega) (by omega)
                      rw [HAF.out, HFF.out] at hadd
                      rcases HAN.out with ⟨a1, -⟩ | ⟨-, -, a3, a4⟩
                      · exact absurd (HFF.out.symm.trans (HAF.out.symm.trans a1)) hne
                      rw [a3, a4] at hadd
                      clear a3 a4
                      have hsm := fun W => same_eq fv W (by omega)
                      go_wp2_with fail
                      refine hadd.mono ?_
                      rintro e w6 ⟨rfl, B6, hD6, hL6, hnq6, hT6⟩
                      clear hadd
                      have h6 := h.stay hT6 hD6 hL6 hnq6
                      go_wp2_with fail
                      refine (hsm w6).mono ?_
                      rintro e w7 ⟨rfl, rfl⟩
                      clear hsm
                      have d0 : (fv == (0 : Int)) = false := by simpa using hne
                      go_wp2_with fail
                      go_roundw
                      case rel => exact ⟨k + 1, B6, d, q, u, ag, aw, cg, cw, W, by omega, by go_num, rfl, rfl, rfl, rfl, h6, hnl, by omega, by omega, hWx⟩
                      case measure => simp [intOf]; omega
                  · have d1 : decide ((j : Int) < (x.ch.length : Int)) = false := decide_eq_false (by omega)
                    have d1n : decide (j < x.ch.length) = false := decide_eq_false hjl
                    by_cases hz : fv = 0
                    · subst hz
                      have HFF : Hid (F = 0) := by
                        show _ = _
                        have := HFJ.out
                        rw [if_pos rfl, List.drop_of_length_le (by omega)] at this
                        exact this
                      clear HFJ hbb
                      have hadd := ladd_any B p q d ⟨frm, many, first, u⟩ xc x.cc x.ch wr h.hD h.hL h.nq (ChsAt.outside (base := 0) hchs h.bl (fun k hk => h.base k (.inl hk))) hchl h.used (by show many ≤ 1000; omega) (by show frm ≤ 1000; omega) (by show first ≤ 1000000000000; omega) (by omega)
                      have hwr2 := add_wr2 d ⟨frm, many, first, u⟩ x.ch
                      rcases HAN.out with ⟨a1, ap, ae, al, alf, alm, aro, -⟩ | ⟨a2, a3, -⟩
                      rotate_left
                      · exact absurd (HAF.out.trans HFF.out) a3
                      rw [a1, errV_zero, ae] at hadd
                      rw [ae] at ap
                      (try dsimp only at hadd)
                      (try dsimp only at aro)
                      have hin2 := ap.inv
                      have hft2 := ap.fit
                      have hus2 := ap.used
                      have hdn2 := ap.q.down
                      have hnl2 : (addR d ⟨frm, many, first, u⟩ x.ch).1.now.length = n := al.trans hnl
                      generalize (addR d ⟨frm, many, first, u⟩ x.ch).1 = d2 at *
                      have hlf2 := alf
                      have hsm := fun W => same_eq 0 W (by omega)
                      rw [errV_zero] at hsm
                      clear a1 ap ae al alf HAN
                      have HAFc := HAF
                      clear HAF
                      go_wp2_with fail
                      refine hadd.mono ?_
                      rintro e w6 ⟨rfl, B6, hD6, hL6, hnq6, hT6⟩
                      clear hadd
                      go_wp2_with fail
                      refine (hsm w6).mono ?_
                      rintro e w7 ⟨rfl, rfl⟩
                      clear hsm
                      obtain ⟨-, hw6, hbl6, hbase6⟩ := h.past hT6
                      have hc6 : ChsB (Un B6 (On q)) w7 xc x.ch := ChsAt.outside (base := 0) hchs hbl6 hbase6
                      have hgn : ¬ Un B (On q) g := fun e => HGN.out e
                      have hg6 := hT6.out BX.1 hgn
                      have p6 : w7.cell? ⟨g, 10, none⟩ = some (.slice xc x.ch.length x.cc) := by rw [hT6.cell BX.1 hgn]; exact (BX.2 10 _ rfl).1
                      have hbd : Below w7.heap.size w7 w7.drew := below_drewN (Below.refl _ _) 1
                      have hD8 := hD6.below hbd
                      have hL8 := hL6.below hbd
                      have hw8 := hw6.below hbd
                      have hc8 := hc6.below hbd
                      have hbl8 := Below_after hbl6 hbd
                      have hlt8 : Lt (Un B6 (On q)) w7.drew := fun k hk => by
                        rcases hk with hk | hk
                        · exact hD6.lt k hk
                        · have := heap_lt hL6; unfold On at hk; exact hk ▸ this
                      have p8 : w7.drew.cell? ⟨g, 10, none⟩ = some (.slice xc x.ch.length x.cc) := p6
                      have hg8 : g < w7.drew.heap.size := hg6.1
                      have hW2 : ∀ z ∈ W ++ [x.ch], z.length ≤ 200 := fun z hz => by
                        rcases List.mem_append.1 hz with hz | hz
                        · exact hWx z hz
                        · simp at hz; rw [hz]; omega
                      clear hT6 hD6 hL6 hw6 hc6 hbl6 hbd p6 hg6 hgn BX h
                      go_wp2_with fail
                      refine wp_region_held_drew (S := fun w' => w'.cell? ⟨g, 10, none⟩ = some (.slice xc x.ch.length x.cc)) (by kernel_rfl) p8 (fun hHeld => ?_)
                      generalize w7.drew = w8 at *
                      refine wpAnyH_take (i := 0) (oi := ({ dst := some 248, op := Op.move (Operand.tmp 22), type := 71, pos := "law.go:488", after := #[], guard := none } : Oper)) (v := .slice aw W.length cw) rfl (by kernel_rfl) (by kernel_rfl) (by kernel_rfl) (fun _ _ _ h => h) (Or.inl ⟨by rfl, ?_⟩) (by assumption) ?_
                      · intro w hSw; (try dsimp only at hSw); go_simp
                      (try simp only [Act.put, List.setIfInBounds_toArray, List.set_cons_zero, List.set_cons_succ])
                      refine wpAnyH_take (i := 2) (oi := ({ dst := some 250, op := Op.fieldAddr 40 (Operand.tmp 25) 8, type := 0, pos := "law.go:488", after := #[], guard := none } : Oper)) (v := .pointer (some ⟨g, 10, none⟩)) rfl (by kernel_rfl) (by kernel_rfl) (by kernel_rfl) (fun _ _ _ h => h) (Or.inl ⟨by rfl, ?_⟩) (by assumption) ?_
                      · intro w hSw; (try dsimp only at hSw); go_simp
                      (try simp only [Act.put, List.setIfInBounds_toArray, List.set_cons_zero, List.set_cons_succ])
                      refine wpAnyH_take (i := 3) (oi := ({ dst := some 251, op := Op.load 38 (Operand.tmp 250), type := 38, pos := "law.go:488", after := #[{ on := 2, ground := Ground.data }], guard := none } : Oper)) (v := .slice xc x.ch.length x.cc) rfl (by kernel_rfl) (by kernel_rfl) (by kernel_rfl) (fun _ _ _ h => h) (Or.inl ⟨by rfl, ?_⟩) (by assumption) ?_
                      · intro w hSw; (try dsimp only at hSw); go_simp
                      (try simp only [Act.put, List.setIfInBounds_toArray, List.set_cons_zero, List.set_cons_succ])
                      refine wpAnyH_ready (rs := [1, 4]) (by kernel_rfl) (by simp) ?_
                      refine AllReadyH.cons (o := ({ dst := some 249, op := Op.call { callee := Callee.builtin Builtin.append, args := #[Operand.const (Value.slice none 0 0), Operand.tmp 248], argTypes := #[71, 71] }, type := 71, pos := "law.go:488", after := #[{ on := 0, ground := Ground.data }], guard := none } : Oper)) rfl (fun K hK => ?_) (AllReadyH.cons (o := ({ dst := some 252, op := Op.buildSlice 71 1 #[(0, Operand.tmp 251)], type := 71, pos := "law.go:488", after := #[{ on := 3, ground := Ground.data }], guard := none } : Oper)) rfl (fun K hK => ?_) AllReadyH.nil)
                      · obtain ⟨vx, wx, csx, x1, x2, x3, x4, x5⟩ := run_cpy aw cw hw8 (by omega) 71
                        have hgx := heap_alloc_last wx (.cells #[.slice xc x.ch.length x.cc] 38)
                        have blx := (x4.alloc x4.size (.cells #[.slice xc x.ch.length x.cc] 38))
                        obtain ⟨ay, cy, wy, y1, y2, y3⟩ := run_both (x := x.ch) (x2.alloc _) (x3.tr (Tr.alloc _ _ _)) blx x5 (by omega) hlt8 wx.heap.size xc x.cc hgx hc8 71
                        have s1 : wx.cell? ⟨g, 10, none⟩ = some (.slice xc x.ch.length x.cc) := by rw [(bcell x4).1 _ _ hg8]; exact p8
                        have s2 : (wx.alloc (.cells #[.slice xc x.ch.length x.cc] 38)).cell? ⟨g, 10, none⟩ = some (.slice xc x.ch.length x.cc) := by rw [(bcell blx).1 _ _ hg8]; exact p8
                        have s3 : wy.cell? ⟨g, 10, none⟩ = some (.slice xc x.ch.length x.cc) := by rw [(bcell y3).1 _ _ hg8]; exact p8
                        obtain ⟨avx, cvx, hvx⟩ := own_form x2
                        subst hvx
                        clear x2 x3 x5 hgx blx x4
                        rw [if_pos (by rfl)]
                        refine wp_run (exec_append _ _ _ _ (by rfl) (by rfl) (by rfl) (by rfl) (by rfl) (by rfl) x1) ?_
                        refine hK.out _ _ ?_ (fun hHeld => ?_)
                        · exact s1
                        clear hK K
                        (try simp only [Act.put, List.setIfInBounds_toArray, List.set_cons_zero, List.set_cons_succ])
                        refine wpAnyH_ready (rs := [4]) (by kernel_rfl) (by simp) ?_
                        refine AllReadyH.cons (o := ({ dst := some 252, op := Op.buildSlice 71 1 #[(0, Operand.tmp 251)], type := 71, pos := "law.go:488", after := #[{ on := 3, ground := Ground.data }], guard := none } : Oper)) rfl (fun K hK => ?_) AllReadyH.nil
                        rw [if_pos (by rfl)]
                        go_wp2_with fail
                        refine hK.out _ _ ?_ (fun hHeld => ?_)
                        · exact s2
                        clear hK K
                        (try simp only [Act.put, List.setIfInBounds_toArray, List.set_cons_zero, List.set_cons_succ])
                        refine wpAnyH_ready (rs := [5]) (by kernel_rfl) (by simp) ?_
                        refine AllReadyH.cons (o := ({ dst := some 253, op := Op.call { callee := Callee.builtin Builtin.append, args := #[Operand.tmp 249, Operand.tmp 252], argTypes := #[71, 71] }, type := 71, pos := "law.go:488", after := #[{ on := 1, ground := Ground.data }, { on := 4, ground := Ground.data }, { on := 1, ground := Ground.chain }], guard := none } : Oper)) rfl (fun K hK => ?_) AllReadyH.nil
                        rw [if_pos (by rfl)]
                        refine wp_run (exec_append _ _ _ _ (by rfl) (by rfl) (by rfl) (by rfl) (by rfl) (by rfl) y1) ?_
                        refine hK.out _ _ ?_ (fun hHeld => ?_)
                        · exact s3
                        clear hK K
                        (try simp only [Act.put, List.setIfInBounds_toArray, List.set_cons_zero, List.set_cons_succ])
                        refine wpAnyH_take (i := 6) (oi := ({ dst := some 22, op := Op.assign (Operand.tmp 253), type := 71, pos := "law.go:488", after := #[{ on := 5, ground := Ground.data }, { on := 5, ground := Ground.chain }, { on := 0, ground := Ground.phase }, { on := 1, ground := Ground.phase }, { on := 2, ground := Ground.phase }, { on := 3, ground := Ground.phase }, { on := 4, ground := Ground.phase }, { on := 5, ground := Ground.phase }], guard := none } : Oper)) (v := .slice ay (W ++ [x.ch]).length cy) rfl (by kernel_rfl) (by kernel_rfl) (by kernel_rfl) (fun _ _ _ h => h) (Or.inl ⟨by rfl, ?_⟩) (by assumption) ?_
                        · intro w hSw; (try dsimp only at hSw); go_simp
                        (try simp only [Act.put, List.setIfInBounds_toArray, List.set_cons_zero, List.set_cons_succ])
                        refine wpAnyH_done (by kernel_rfl) ?_ _
                        have g10 := s3
                        clear x1 y1
                        have hy := y3
                        simp only [List.length_append, List.length_cons, List.length_nil, Nat.zero_add] at *
                        go_wp2_with fail
                        go_roundw
                        case rel => exact ⟨k + 1, B6, d2, q, u + (x.ch.length + 1), ay, ay, cy, cy, W ++ [x.ch], by omega, by go_num, rfl, by simp, by simp, by go_num, ⟨hD8.below y3, hL8.below y3, hnq6, hbase6, Below_after hbl8 y3, y2, y2, hin2, hlf2, hdn2, hft2, hus2⟩, hnl2, by omega, by simp; omega, hW2⟩
                        case measure => simp [intOf]; omega

                      · have bl0 := (Below.refl w8.heap.size w8).alloc (Nat.le_refl _) (.cells #[.slice xc x.ch.length x.cc] 38)
                        have hg0 := heap_alloc_last w8 (.cells #[.slice xc x.ch.length x.cc] 38)
                        have hwA := hw8.below bl0
                        have hxA := hc8.below bl0
                        have hltA : Lt (Un B6 (On q)) (w8.alloc (.cells #[.slice xc x.ch.length x.cc] 38)) := fun k hk => Nat.lt_of_lt_of_le (hlt8 k hk) bl0.size
                        have s0 : (w8.alloc (.cells #[.slice xc x.ch.length x.cc] 38)).cell? ⟨g, 10, none⟩ = some (.slice xc x.ch.length x.cc) := by rw [(bcell bl0).1 _ _ hg8]; exact p8
                        obtain ⟨vx, wx, csx, x1, x2, x3, x4, x5⟩ := run_cpy aw cw hwA (by omega) 71
                        have hgx := (x4.block w8.heap.size (heap_lt hg0)).trans hg0
                        obtain ⟨ay, cy, wy, y1, y2, y30⟩ := run_both (x := x.ch) x2 x3 x4 x5 (by omega) hltA w8.heap.size xc x.cc hgx hxA 71
                        have y3 : Below w8.heap.size w8 wy := Below_after bl0 y30
                        have s1 : wx.cell? ⟨g, 10, none⟩ = some (.slice xc x.ch.length x.cc) := by rw [(bcell x4).1 _ _ (Nat.lt_of_lt_of_le hg8 bl0.size)]; exact s0
                        have s3 : wy.cell? ⟨g, 10, none⟩ = some (.slice xc x.ch.length x.cc) := by rw [(bcell y3).1 _ _ hg8]; exact p8
                        obtain ⟨avx, cvx, hvx⟩ := own_form x2
                        subst hvx
                        clear x2 x3 x5 hgx x4 hwA hxA hltA hg0 bl0 y30
                        rw [if_pos (by rfl)]
                        go_wp2_with fail
                        refine hK.out _ _ ?_ (fun hHeld => ?_)
                        · exact s0
                        clear hK K
                        (try simp only [Act.put, List.setIfInBounds_toArray, List.set_cons_zero, List.set_cons_succ])
                        refine wpAnyH_ready (rs := [1]) (by kernel_rfl) (by simp) ?_
                        refine AllReadyH.cons (o := ({ dst := some 249, op := Op.call { callee := Callee.builtin Builtin.append, args := #[Operand.const (Value.slice none 0 0), Operand.tmp 248], argTypes := #[71, 71] }, type := 71, pos := "law.go:488", after := #[{ on := 0, ground := Ground.data }], guard := none } : Oper)) rfl (fun K hK => ?_) AllReadyH.nil
                        rw [if_pos (by rfl)]
                        refine wp_run (exec_append _ _ _ _ (by rfl) (by rfl) (by rfl) (by rfl) (by rfl) (by rfl) x1) ?_
                        refine hK.out _ _ ?_ (fun hHeld => ?_)
                        · exact s1
                        clear hK K
                        (try simp only [Act.put, List.setIfInBounds_toArray, List.set_cons_zero, List.set_cons_succ])
                        refine wpAnyH_ready (rs := [5]) (by kernel_rfl) (by simp) ?_
                        refine AllReadyH.cons (o := ({ dst := some 253, op := Op.call { callee := Callee.builtin Builtin.append, args := #[Operand.tmp 249, Operand.tmp 252], argTypes := #[71, 71] }, type := 71, pos := "law.go:488", after := #[{ on := 1, ground := Ground.data }, { on := 4, ground := Ground.data }, { on := 1, ground := Ground.chain }], guard := none } : Oper)) rfl (fun K hK => ?_) AllReadyH.nil
                        rw [if_pos (by rfl)]
                        refine wp_run (exec_append _ _ _ _ (by rfl) (by rfl) (by rfl) (by rfl) (by rfl) (by rfl) y1) ?_
                        refine hK.out _ _ ?_ (fun hHeld => ?_)
                        · exact s3
                        clear hK K
                        (try simp only [Act.put, List.setIfInBounds_toArray, List.set_cons_zero, List.set_cons_succ])
                        refine wpAnyH_take (i := 6) (oi := ({ dst := some 22, op := Op.assign (Operand.tmp 253), type := 71, pos := "law.go:488", after := #[{ on := 5, ground := Ground.data }, { on := 5, ground := Ground.chain }, { on := 0, ground := Ground.phase }, { on := 1, ground := Ground.phase }, { on := 2, ground := Ground.phase }, { on := 3, ground := Ground.phase }, { on := 4, ground := Ground.phase }, { on := 5, ground := Ground.phase }], guard := none } : Oper)) (v := .slice ay (W ++ [x.ch]).length cy) rfl (by kernel_rfl) (by kernel_rfl) (by kernel_rfl) (fun _ _ _ h => h) (Or.inl ⟨by rfl, ?_⟩) (by assumption) ?_
                        · intro w hSw; (try dsimp only at hSw); go_simp
                        (try simp only [Act.put, List.setIfInBounds_toArray, List.set_cons_zero, List.set_cons_succ])
                        refine wpAnyH_done (by kernel_rfl) ?_ _
                        have g10 := s3
                        clear x1 y1
                        have hy := y3
                        simp only [List.length_append, List.length_cons, List.length_nil, Nat.zero_add] at *
                        go_wp2_with fail
                        go_roundw
                        case rel => exact ⟨k + 1, B6, d2, q, u + (x.ch.length + 1), ay, ay, cy, cy, W ++ [x.ch], by omega, by go_num, rfl, by simp, by simp, by go_num, ⟨hD8.below y3, hL8.below y3, hnq6, hbase6, Below_after hbl8 y3, y2, y2, hin2, hlf2, hdn2, hft2, hus2⟩, hnl2, by omega, by simp; omega, hW2⟩
                        case measure => simp [intOf]; omega

                    · have hne := hz
                      have HFF : Hid (F = fv) := by
                        show _ = _
                        have := HFJ.out
                        rwa [if_neg hz] at this
                      clear HFJ hbb
                      have hadd := ladd_any B p q d ⟨frm, many, first, u⟩ xc x.cc x.ch wr h.hD h.hL h.nq (ChsAt.outside (base := 0) hchs h.bl (fun k hk => h.base k (.inl hk))) hchl h.used (by show many ≤ 1000; omega) (by show frm ≤ 1000; omega) (by show first ≤ 1000000000000; omega) (by omega)
                      rw [HAF.out, HFF.out] at hadd
                      rcases HAN.out with ⟨a1, -⟩ | ⟨-, -, a3, a4⟩
                      · exact absurd (HFF.out.symm.trans (HAF.out.symm.trans a1)) hne
                      rw [a3, a4] at hadd
                      clear a3 a4
                      have hsm := fun W => same_eq fv W (by omega)
                      go_wp2_with fail
                      refine hadd.mono ?_
                      rintro e w6 ⟨rfl, B6, hD6, hL6, hnq6, hT6⟩
                      clear hadd
                      have h6 := h.stay hT6 hD6 hL6 hnq6
                      go_wp2_with fail
                      refine (hsm w6).mono ?_
                      rintro e w7 ⟨rfl, rfl⟩
                      clear hsm
                      have d0 : (fv == (0 : Int)) = false := by simpa using hne
                      go_wp2_with fail
                      go_roundw
                      case rel => exact ⟨k + 1, B6, d, q, u, ag, aw, cg, cw, W, by omega, by go_num, rfl, rfl, rfl, rfl, h6, hnl, by omega, by omega, hWx⟩
                      case measure => simp [intOf]; omega
theorem lsays_any (w : World) (a : Option Addr) (ss : List ByteArray) (c : Nat) (hin : StrsB (fun _ => False) w a ss) (hsm : ss.length ≤ maxLen) (frm : Int) (h0 : (Lit.int .i64 frm).wf = true) (many : Int) (h1 : (Lit.int .i64 many).wf = true) (first : Int) (h2 : (Lit.int .i64 first).wf = true) (a2 : Option Addr) (l : List Ac) (c2 : Nat) (hw : AcsAt w a2 l) (hm : l.length ≤ maxLen) :
    Calls Try.prog 5 #[.slice a ss.length c, .int .i64 frm, .int .i64 many, .int .i64 first, .slice a2 l.length c2] w fun e w' => e = .returned (.bool true) ∧ Below w.heap.size w w' := by
  by_cases c1 : 40 < ss.length
  · exact lsays_e1 a ss c frm many first a2 l c2 w hin hsm hw hm c1
  cases hq : lacB l 20
  · exact lsays_e2 a ss c frm many first a2 l c2 w hin hsm hw hm (by omega) hq
  by_cases c3 : 1000000 < first
  · exact lsays_e3 a ss c frm many first a2 l c2 w hin hsm hw hm (by omega) hq c3
  exact lsays_go a ss c frm many first a2 l c2 w hin hsm hw hm (by omega) hq c3 ⟨i64_wf h0, i64_wf h1⟩ (lac_ch hq) (by have := lacl hq; omega)
end Go.Proofs.Ytjhkabhhlpdpaaa
