/- Acts and changes as plain data, where they lie in memory, and the walks of LightChanges and LightActs. -/
import Derived.Test.YtddgpgldbekamaaGreatProg
import Derived.Test.YtddgpgldbekamaaGreatBox
set_option linter.unusedSimpArgs false
set_option linter.unnecessarySimpa false
set_option linter.unusedVariables false
namespace Go.Proofs.YtddgpgldbekamaaGreat
open Go.RowKit


/-- a change of a row -/
structure Ch where
  key : ByteArray
  val : ByteArray
  gone : Bool
/-- an act -/
structure Ac where
  kd : ByteArray
  sd : ByteArray
  ph : Int
  ps : Int
  qh : Int
  qs : Int
  aa : Int
  bb : Int
  nn : Int
  kk : Int
  xc : Option Addr
  lc : Nat
  cc : Nat
  ch : List Ch
  hn : -9223372036854775808 ≤ nn ∧ nn ≤ 9223372036854775807
  hk : 0 ≤ kk ∧ kk < 18446744073709551616
def ChAt (w : World) (b o : Nat) (x : Ch) : Prop :=
  (w.cell? ⟨b, o, none⟩ = some (.string x.key) ∧ w.cell? ⟨b, o + 1, none⟩ = some (.string x.val) ∧ w.cell? ⟨b, o + 2, none⟩ = some (.bool x.gone)) ∧ x.key.size ≤ maxLen ∧ x.val.size ≤ maxLen
def ChsAt (w : World) (a : Option Addr) (l : List Ch) : Prop :=
  l = [] ∨ ∃ b o, a = some ⟨b, o, none⟩ ∧ b < w.heap.size ∧ ∀ j x, l[j]? = some x → ChAt w b (o + j * 3) x
def AcAt (w : World) (b o : Nat) (x : Ac) : Prop :=
  (w.cell? ⟨b, o, none⟩ = some (.string x.kd) ∧ w.cell? ⟨b, o + 1, none⟩ = some (.string x.sd) ∧ w.cell? ⟨b, o + 2, none⟩ = some (.int .i64 x.ph) ∧ w.cell? ⟨b, o + 3, none⟩ = some (.int .i64 x.ps) ∧ w.cell? ⟨b, o + 4, none⟩ = some (.int .i64 x.qh) ∧ w.cell? ⟨b, o + 5, none⟩ = some (.int .i64 x.qs) ∧
    w.cell? ⟨b, o + 6, none⟩ = some (.int .i64 x.aa) ∧ w.cell? ⟨b, o + 7, none⟩ = some (.int .i64 x.bb) ∧ w.cell? ⟨b, o + 8, none⟩ = some (.int .i64 x.nn) ∧ w.cell? ⟨b, o + 9, none⟩ = some (.int .u64 x.kk) ∧ w.cell? ⟨b, o + 10, none⟩ = some (.slice x.xc x.lc x.cc)) ∧
  x.sd.size ≤ maxLen ∧ x.lc = x.ch.length ∧ x.ch.length ≤ maxLen ∧ ChsAt w x.xc x.ch
def AcsAt (w : World) (a : Option Addr) (l : List Ac) : Prop :=
  l = [] ∨ ∃ b o, a = some ⟨b, o, none⟩ ∧ b < w.heap.size ∧ ∀ j x, l[j]? = some x → AcAt w b (o + j * 11) x
theorem ChAt.below {W w1 : World} (hb : Below W.heap.size W w1) {b o : Nat} {x : Ch} (hlt : b < W.heap.size) (h : ChAt W b o x) : ChAt w1 b o x := by
  obtain ⟨⟨h1, h2, h3⟩, h4⟩ := h
  have g := (bcell hb).1
  exact ⟨⟨by rw [g _ _ hlt]; exact h1, by rw [g _ _ hlt]; exact h2, by rw [g _ _ hlt]; exact h3⟩, h4⟩
theorem ChsAt.below {W w1 : World} (hb : Below W.heap.size W w1) {a : Option Addr} {l : List Ch} (h : ChsAt W a l) : ChsAt w1 a l := by
  rcases h with h | ⟨b, o, ha, hlt, hc⟩
  · exact .inl h
  · exact .inr ⟨b, o, ha, Nat.lt_of_lt_of_le hlt hb.size, fun j x hx => (hc j x hx).below hb hlt⟩
theorem AcAt.below {W w1 : World} (hb : Below W.heap.size W w1) {b o : Nat} {x : Ac} (hlt : b < W.heap.size) (h : AcAt W b o x) : AcAt w1 b o x := by
  obtain ⟨⟨h0, h1, h2, h3, h4, h5, h6, h7, h8, h9, h10⟩, i1, i2, i3, i4⟩ := h
  have g := (bcell hb).1
  exact ⟨⟨by rw [g _ _ hlt]; exact h0, by rw [g _ _ hlt]; exact h1, by rw [g _ _ hlt]; exact h2, by rw [g _ _ hlt]; exact h3, by rw [g _ _ hlt]; exact h4, by rw [g _ _ hlt]; exact h5, by rw [g _ _ hlt]; exact h6, by rw [g _ _ hlt]; exact h7, by rw [g _ _ hlt]; exact h8, by rw [g _ _ hlt]; exact h9, by rw [g _ _ hlt]; exact h10⟩, i1, i2, i3, i4.below hb⟩
theorem AcsAt.below {W w1 : World} (hb : Below W.heap.size W w1) {a : Option Addr} {l : List Ac} (h : AcsAt W a l) : AcsAt w1 a l := by
  rcases h with h | ⟨b, o, ha, hlt, hc⟩
  · exact .inl h
  · exact .inr ⟨b, o, ha, Nat.lt_of_lt_of_le hlt hb.size, fun j x hx => (hc j x hx).below hb hlt⟩
def lchB (l : List Ch) (most : Int) : Bool := decide ((l.length : Int) ≤ most) && l.all fun x => decide (x.key.size ≤ 20 ∧ x.val.size ≤ 40)
def lacB (l : List Ac) (most : Int) : Bool := decide ((l.length : Int) ≤ most) && l.all fun x => decide (x.sd.size ≤ 100) && lchB x.ch 70
set_option maxHeartbeats 1000000 in
set_option maxRecDepth 100000 in
theorem lch_any (a : Option Addr) (c : Nat) (l : List Ch) (most : Int) (w : World) (hw : ChsAt w a l) (hm : l.length ≤ maxLen) (h0 : 0 ≤ most) (h1 : most ≤ 1000) :
    Calls Tryz.prog 22 #[.slice a l.length c, .int .i64 most] w fun e w' => e = .returned (.bool (lchB l most)) ∧ w' = w := by
  unfold maxLen at hm
  by_cases hl : (l.length : Int) ≤ most
  · have d0 : decide (most < (l.length : Int)) = false := decide_eq_false (by omega)
    have e0 : lchB l most = l.all fun x => decide (x.key.size ≤ 20 ∧ x.val.size ≤ 40) := by unfold lchB; rw [decide_eq_true hl]; rfl
    rcases hw with rfl | ⟨b, o, rfl, hb, hc⟩
    · go_enter Tryz.func22, Tryz.ntmps22
      go_wp2
      refine wp_loop_rounds 1 ?_
      rw [rounds_succ]
      go_wp2
      go_ret
      exact ⟨by rw [e0]; rfl, rfl⟩
    · have HE : Hid (lchB l most = l.all fun x => decide (x.key.size ≤ 20 ∧ x.val.size ≤ 40)) := e0
      clear e0
      go_enter Tryz.func22, Tryz.ntmps22
      go_wp2
      go_loopw [5] (fun i wr => ∃ k : Nat, k ≤ l.length ∧ i = .int .i64 k ∧ Hid ((l.take k).all (fun x => decide (x.key.size ≤ 20 ∧ x.val.size ≤ 40)) = true) ∧ wr = w) (fun i _ => l.length - (intOf i).toNat)
      case atStart => exact ⟨0, Nat.zero_le _, rfl, (show Hid _ by show _ = _; simp), rfl⟩
      case round =>
        obtain ⟨k, hk, rfl, hn, rfl⟩ := hrel
        by_cases hlt : k < l.length
        · obtain ⟨x, hx⟩ : ∃ x, l[k]? = some x := ⟨l[k], List.getElem?_eq_getElem hlt⟩
          obtain ⟨⟨q0, q1, q2⟩, z0, z1⟩ := hc k x hx
          have HX : Hid (l[k]? = some x) := hx
          unfold maxLen at z0 z1
          clear hc hx
          have hno : ∀ p : Ch → Bool, p x = false → l.all p = false := fun p hp => by
            rw [List.all_eq_false]; exact ⟨x, List.mem_of_getElem? HX.out, by simp [hp]⟩
          have HNo : Hid (∀ p : Ch → Bool, p x = false → l.all p = false) := hno
          clear hno
          by_cases g1 : x.key.size ≤ 20
          · have e1 : decide ((20 : Int) < (x.key.size : Int)) = false := decide_eq_false (by omega)
            by_cases g2 : x.val.size ≤ 40
            · have e2 : decide ((40 : Int) < (x.val.size : Int)) = false := decide_eq_false (by omega)
              go_wp2
              go_roundw
              case rel => exact ⟨k + 1, by omega, by go_num, (show Hid _ by show _ = _; rw [List.take_add_one, HX.out, List.all_append, hn.out]; simp [g1, g2]), trivial⟩
              case measure => simp [intOf]; omega
            · have e2 : decide ((40 : Int) < (x.val.size : Int)) = true := decide_eq_true (by omega)
              go_wp2
              go_ret
              exact ⟨by rw [HE.out, HNo.out _ (by simp [g2])]; rfl, rfl⟩
          · have e1 : decide ((20 : Int) < (x.key.size : Int)) = true := decide_eq_true (by omega)
            go_wp2
            go_ret
            exact ⟨by rw [HE.out, HNo.out _ (by simp [g1])]; rfl, rfl⟩
        · have e : l.take k = l := List.take_of_length_le (by omega)
          have HT := hn.out
          rw [e] at HT
          have HF : Hid (lchB l most = true) := by show _ = _; rw [HE.out, HT]
          clear hc hn HT e
          go_wp2
          go_ret
          exact ⟨by rw [HF.out]; rfl, rfl⟩
  · have d0 : decide (most < (l.length : Int)) = true := decide_eq_true (by omega)
    have e0 : Hid (lchB l most = false) := by show _ = _; unfold lchB; rw [decide_eq_false hl]; rfl
    clear hw
    go_enter Tryz.func22, Tryz.ntmps22
    go_wp2
    go_ret
    exact ⟨by rw [e0.out]; rfl, rfl⟩
set_option maxHeartbeats 1000000 in
set_option maxRecDepth 100000 in
theorem lac_any (a : Option Addr) (c : Nat) (l : List Ac) (most : Int) (w : World) (hw : AcsAt w a l) (hm : l.length ≤ maxLen) (h0 : 0 ≤ most) (h1 : most ≤ 1000) :
    Calls Tryz.prog 5 #[.slice a l.length c, .int .i64 most] w fun e w' => e = .returned (.bool (lacB l most)) ∧ w' = w := by
  unfold maxLen at hm
  by_cases hl : (l.length : Int) ≤ most
  · have d0 : decide (most < (l.length : Int)) = false := decide_eq_false (by omega)
    have e0 : lacB l most = l.all fun x => decide (x.sd.size ≤ 100) && lchB x.ch 70 := by unfold lacB; rw [decide_eq_true hl]; rfl
    rcases hw with rfl | ⟨b, o, rfl, hb, hc⟩
    · go_enter Tryz.func5, Tryz.ntmps5
      go_wp2
      refine wp_loop_rounds 1 ?_
      rw [rounds_succ]
      go_wp2
      go_ret
      exact ⟨by rw [e0]; rfl, rfl⟩
    · have HE : Hid (lacB l most = l.all fun x => decide (x.sd.size ≤ 100) && lchB x.ch 70) := e0
      clear e0
      go_enter Tryz.func5, Tryz.ntmps5
      go_wp2
      go_loopw [5] (fun i wr => ∃ k : Nat, k ≤ l.length ∧ i = .int .i64 k ∧ Hid ((l.take k).all (fun x => decide (x.sd.size ≤ 100) && lchB x.ch 70) = true) ∧ wr = w) (fun i _ => l.length - (intOf i).toNat)
      case atStart => exact ⟨0, Nat.zero_le _, rfl, (show Hid _ by show _ = _; simp), rfl⟩
      case round =>
        obtain ⟨k, hk, rfl, hn, rfl⟩ := hrel
        by_cases hlt : k < l.length
        · obtain ⟨x, hx⟩ : ∃ x, l[k]? = some x := ⟨l[k], List.getElem?_eq_getElem hlt⟩
          obtain ⟨⟨q0, q1, q2, q3, q4, q5, q6, q7, q8, q9, q10⟩, z0, z1, z2, z3⟩ := hc k x hx
          have HX : Hid (l[k]? = some x) := hx
          have hcon := lch_any x.xc x.cc x.ch 70 _ z3 z2 (by omega) (by omega)
          rw [← z1] at hcon
          unfold maxLen at z0
          clear hc hx z1 z2 z3 q0 q2 q3 q4 q5 q6 q7 q8 q9
          have hno : ∀ p : Ac → Bool, p x = false → l.all p = false := fun p hp => by
            rw [List.all_eq_false]; exact ⟨x, List.mem_of_getElem? HX.out, by simp [hp]⟩
          have HNo : Hid (∀ p : Ac → Bool, p x = false → l.all p = false) := hno
          clear hno
          by_cases g1 : x.sd.size ≤ 100
          · have e1 : decide ((100 : Int) < (x.sd.size : Int)) = false := decide_eq_false (by omega)
            cases hq : lchB x.ch 70 with
            | true =>
              rw [hq] at hcon
              go_wp2_with fail
              refine hcon.mono ?_
              rintro e w' ⟨rfl, hw'⟩
              rw [hw']
              clear hw' w' hcon
              go_wp2_with fail
              go_roundw
              case rel => exact ⟨k + 1, by omega, by go_num, (show Hid _ by show _ = _; rw [List.take_add_one, HX.out, List.all_append, hn.out]; simp [g1, hq]), trivial⟩
              case measure => simp [intOf]; omega
            | false =>
              rw [hq] at hcon
              go_wp2_with fail
              refine hcon.mono ?_
              rintro e w' ⟨rfl, hw'⟩
              rw [hw']
              clear hw' w' hcon
              go_wp2_with fail
              go_ret
              exact ⟨by rw [HE.out, HNo.out _ (by simp [hq])]; rfl, rfl⟩
          · have e1 : decide ((100 : Int) < (x.sd.size : Int)) = true := decide_eq_true (by omega)
            clear hcon
            go_wp2
            go_ret
            exact ⟨by rw [HE.out, HNo.out _ (by simp [g1])]; rfl, rfl⟩
        · have e : l.take k = l := List.take_of_length_le (by omega)
          have HT := hn.out
          rw [e] at HT
          have HF : Hid (lacB l most = true) := by show _ = _; rw [HE.out, HT]
          clear hc hn HT e
          go_wp2
          go_ret
          exact ⟨by rw [HF.out]; rfl, rfl⟩
  · have d0 : decide (most < (l.length : Int)) = true := decide_eq_true (by omega)
    have e0 : Hid (lacB l most = false) := by show _ = _; unfold lacB; rw [decide_eq_false hl]; rfl
    clear hw
    go_enter Tryz.func5, Tryz.ntmps5
    go_wp2
    go_ret
    exact ⟨by rw [e0.out]; rfl, rfl⟩
end Go.Proofs.YtddgpgldbekamaaGreat
