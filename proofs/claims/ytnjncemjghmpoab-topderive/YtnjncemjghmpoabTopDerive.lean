/- The walk of TopDerive over the landed code. -/
import Derived.Test.YtnjncemjghmpoabWrit
namespace Go.Proofs.Ytnjncemjghmpoab
open Go.RowKit
@[go_sem] theorem asErr (v : Value) (w : World) : (Instr.typeAssert (.iface 53 v) 25 53 true).run Try.prog w = .ok (.tuple #[v, .bool true]) w := by kernel_rfl
theorem number_err (n : Int) (w : World) : Calls Try.prog 8 #[.iface 53 (.int .i64 n)] w fun e w' => e = .returned (.int .i64 n) ∧ w' = w := by
  go_enter Try.func8, Try.ntmps8
  go_wp2
  go_ret
  exact ⟨rfl, rfl⟩
theorem derive_zero (w : World) : Calls Try.prog 7 #[.agg #[.int .i64 1, .int .i64 1, .int .i64 1, .int .i64 0, .int .i64 0], .int .i64 2, .int .i64 3, .int .i64 0] w
      fun e w' => e = .returned (.tuple #[.agg #[.int .i64 0, .int .i64 0, .int .i64 0, .int .i64 0, .int .i64 0], .iface 53 (.int .i64 7)]) ∧ Below w.heap.size w w' := by
  exact derive_err ⟨1, 1, 1, 0, 0⟩ 2 3 0 w (by decide)
set_option maxHeartbeats 1000000 in
theorem td_bad (x : Wr) (id rights badge id2 rights2 badge2 : Int) (w : World) (h : ¬ wrOk x) :
    Calls Try.prog 3 #[.agg #[.int .i64 x.id, .int .i64 x.thing, .int .i64 x.rights, .int .i64 x.badge, .int .i64 x.frm], .int .i64 id, .int .i64 rights, .int .i64 badge, .int .i64 id2, .int .i64 rights2, .int .i64 badge2] w
      fun e w' => e = .returned (.bool true) ∧ Below w.heap.size w w' := by
  go_enter Try.func3, Try.ntmps3
  go_wp2_with fail
  refine (derive_zero _).mono ?_
  rintro e w1 ⟨rfl, hb1⟩
  have px : WrAt w1 w.heap.size 0 x := (WrAt_new w _ x).below hb1 (by simp)
  have hz1 : w.heap.size < w1.heap.size := by have := hb1.size; simp at this; omega
  have bl1 : Below w.heap.size w w1 := Below_after ((Below.refl _ _).alloc (Nat.le_refl _) _) hb1
  clear hb1
  have px' := px
  obtain ⟨p1, p2, p3, p4, p5⟩ := px'
  go_wp2_with fail
  refine (number_err _ _).mono ?_
  rintro e w' ⟨rfl, rfl⟩
  go_wp2_with fail
  refine (wcheck_bad x _ h).mono ?_
  rintro e w2 ⟨rfl, hb2⟩
  go_wp2_with fail
  go_ret
  exact ⟨rfl, Below_after (bl1.alloc (Nat.le_of_lt hz1) _) hb2⟩
set_option maxHeartbeats 1000000 in
theorem td_err (x : Wr) (id rights badge id2 rights2 badge2 : Int) (w : World) (h : wrOk x) (h1 : drvCode x rights badge ≠ 0) :
    Calls Try.prog 3 #[.agg #[.int .i64 x.id, .int .i64 x.thing, .int .i64 x.rights, .int .i64 x.badge, .int .i64 x.frm], .int .i64 id, .int .i64 rights, .int .i64 badge, .int .i64 id2, .int .i64 rights2, .int .i64 badge2] w
      fun e w' => e = .returned (.bool true) ∧ Below w.heap.size w w' := by
  go_enter Try.func3, Try.ntmps3
  go_wp2_with fail
  refine (derive_zero _).mono ?_
  rintro e w1 ⟨rfl, hb1⟩
  have px : WrAt w1 w.heap.size 0 x := (WrAt_new w _ x).below hb1 (by simp)
  have hz1 : w.heap.size < w1.heap.size := by have := hb1.size; simp at this; omega
  have bl1 : Below w.heap.size w w1 := Below_after ((Below.refl _ _).alloc (Nat.le_refl _) _) hb1
  clear hb1
  have px' := px
  obtain ⟨p1, p2, p3, p4, p5⟩ := px'
  go_wp2_with fail
  refine (number_err _ _).mono ?_
  rintro e w' ⟨rfl, rfl⟩
  go_wp2_with fail
  refine (wcheck_ok x _ h).mono ?_
  rintro e w2 ⟨rfl, hb2⟩
  have qx : WrAt w2 w.heap.size 0 x := (px.past hz1 _).below hb2 (by simp; omega)
  have hz2 : w.heap.size < w2.heap.size := by have := hb2.size; simp at this; omega
  have bl2 : Below w.heap.size w w2 := Below_after (bl1.alloc (Nat.le_of_lt hz1) _) hb2
  clear hb2 px p1 p2 p3 p4 p5 bl1
  have qx' := qx
  obtain ⟨p1, p2, p3, p4, p5⟩ := qx'
  go_wp2_with fail
  refine (derive_err x id rights badge _ h1).mono ?_
  rintro e w3 ⟨rfl, hb3⟩
  have rx : WrAt w3 w.heap.size 0 x := qx.below hb3 hz2
  have hz3 : w.heap.size < w3.heap.size := Nat.lt_of_lt_of_le hz2 hb3.size
  have bl3 : Below w.heap.size w w3 := Below_after bl2 hb3
  clear hb3 qx p1 p2 p3 p4 p5 bl2
  have rx' := rx
  obtain ⟨p1, p2, p3, p4, p5⟩ := rx'
  go_wp2_with (go_at_call 10; refine (has_any _ _ _).mono ?_; rintro e w' ⟨rfl, rfl⟩)
  go_ret
  exact ⟨rfl, bl3.alloc (Nat.le_of_lt hz3) _⟩
set_option maxHeartbeats 1000000 in
theorem td_A_err (a b c f : Int) (id rights badge id2 rights2 badge2 : Int) (w : World) (h : wrOk ⟨a, b, c, 0, f⟩) (h1 : drvCode ⟨a, b, c, 0, f⟩ rights badge = 0) (hh : hasB c rights = true) (h2 : drvCode ⟨id, b, rights, badge, a⟩ rights2 badge2 ≠ 0) :
    Calls Try.prog 3 #[.agg #[.int .i64 a, .int .i64 b, .int .i64 c, .int .i64 0, .int .i64 f], .int .i64 id, .int .i64 rights, .int .i64 badge, .int .i64 id2, .int .i64 rights2, .int .i64 badge2] w
      fun e w' => e = .returned (.bool true) ∧ Below w.heap.size w w' := by
  go_enter Try.func3, Try.ntmps3
  go_wp2_with fail
  refine (derive_zero _).mono ?_
  rintro e w1 ⟨rfl, hb1⟩
  have px : WrAt w1 w.heap.size 0 ⟨a, b, c, 0, f⟩ := (WrAt_new w _ ⟨a, b, c, 0, f⟩).below hb1 (by simp)
  have hz1 : w.heap.size < w1.heap.size := by have := hb1.size; simp at this; omega
  have bl1 : Below w.heap.size w w1 := Below_after ((Below.refl _ _).alloc (Nat.le_refl _) _) hb1
  clear hb1
  have px' := px
  obtain ⟨p1, p2, p3, p4, p5⟩ := px'
  go_wp2_with fail
  refine (number_err _ _).mono ?_
  rintro e w' ⟨rfl, rfl⟩
  go_wp2_with fail
  refine (wcheck_ok ⟨a, b, c, 0, f⟩ _ h).mono ?_
  rintro e w2 ⟨rfl, hb2⟩
  have qx : WrAt w2 w.heap.size 0 ⟨a, b, c, 0, f⟩ := (px.past hz1 _).below hb2 (by simp; omega)
  have hz2 : w.heap.size < w2.heap.size := by have := hb2.size; simp at this; omega
  have bl2 : Below w.heap.size w w2 := Below_after (bl1.alloc (Nat.le_of_lt hz1) _) hb2
  clear hb2 px p1 p2 p3 p4 p5 bl1
  have qx' := qx
  obtain ⟨p1, p2, p3, p4, p5⟩ := qx'
  go_wp2_with fail
  refine (derive_ok0 ⟨a, b, c, 0, f⟩ id rights badge _ h1 rfl).mono ?_
  rintro e w3 ⟨rfl, hb3⟩
  have rx : WrAt w3 w.heap.size 0 ⟨a, b, c, 0, f⟩ := qx.below hb3 hz2
  have hz3 : w.heap.size < w3.heap.size := Nat.lt_of_lt_of_le hz2 hb3.size
  have bl3 : Below w.heap.size w w3 := Below_after bl2 hb3
  clear hb3 qx p1 p2 p3 p4 p5 bl2
  have rx' := rx
  obtain ⟨p1, p2, p3, p4, p5⟩ := rx'
  go_wp2_with (go_at_call 10; refine (has_any _ _ _).mono ?_; rintro e w' ⟨rfl, rfl⟩)
  refine (derive_err ⟨id, b, rights, badge, a⟩ id2 rights2 badge2 _ h2).mono ?_
  rintro e w4 ⟨rfl, hb4⟩
  have sx : WrAt w4 w.heap.size 0 ⟨a, b, c, 0, f⟩ := (rx.past hz3 _).below hb4 (by simp; omega)
  have hz4 : w.heap.size < w4.heap.size := by have := hb4.size; simp at this; omega
  have bl4 : Below w.heap.size w w4 := Below_after (bl3.alloc (Nat.le_of_lt hz3) _) hb4
  clear hb4 rx p1 p2 p3 p4 p5 bl3
  have sx' := sx
  obtain ⟨p1, p2, p3, p4, p5⟩ := sx'
  go_wp2_with fail
  go_ret
  exact ⟨rfl, bl4.alloc (Nat.le_of_lt hz4) _⟩
set_option maxHeartbeats 1000000 in
theorem td_A0_ok (a b c f : Int) (id rights badge id2 rights2 badge2 : Int) (w : World) (h : wrOk ⟨a, b, c, 0, f⟩) (h1 : drvCode ⟨a, b, c, 0, f⟩ rights badge = 0) (hh : hasB c rights = true) (hb2 : badge = 0) (h2 : drvCode ⟨id, b, rights, badge, a⟩ rights2 badge2 = 0) (h3 : drvCode ⟨a, b, c, 0, f⟩ rights2 badge2 = 0) :
    Calls Try.prog 3 #[.agg #[.int .i64 a, .int .i64 b, .int .i64 c, .int .i64 0, .int .i64 f], .int .i64 id, .int .i64 rights, .int .i64 badge, .int .i64 id2, .int .i64 rights2, .int .i64 badge2] w
      fun e w' => e = .returned (.bool true) ∧ Below w.heap.size w w' := by
  have e2 : Hid (badge = 0) := hb2
  clear hb2
  go_enter Try.func3, Try.ntmps3
  go_wp2_with fail
  refine (derive_zero _).mono ?_
  rintro e w1 ⟨rfl, hb1⟩
  have px : WrAt w1 w.heap.size 0 ⟨a, b, c, 0, f⟩ := (WrAt_new w _ ⟨a, b, c, 0, f⟩).below hb1 (by simp)
  have hz1 : w.heap.size < w1.heap.size := by have := hb1.size; simp at this; omega
  have bl1 : Below w.heap.size w w1 := Below_after ((Below.refl _ _).alloc (Nat.le_refl _) _) hb1
  clear hb1
  have px' := px
  obtain ⟨p1, p2, p3, p4, p5⟩ := px'
  go_wp2_with fail
  refine (number_err _ _).mono ?_
  rintro e w' ⟨rfl, rfl⟩
  go_wp2_with fail
  refine (wcheck_ok ⟨a, b, c, 0, f⟩ _ h).mono ?_
  rintro e w2 ⟨rfl, hb2⟩
  have qx : WrAt w2 w.heap.size 0 ⟨a, b, c, 0, f⟩ := (px.past hz1 _).below hb2 (by simp; omega)
  have hz2 : w.heap.size < w2.heap.size := by have := hb2.size; simp at this; omega
  have bl2 : Below w.heap.size w w2 := Below_after (bl1.alloc (Nat.le_of_lt hz1) _) hb2
  clear hb2 px p1 p2 p3 p4 p5 bl1
  have qx' := qx
  obtain ⟨p1, p2, p3, p4, p5⟩ := qx'
  go_wp2_with fail
  refine (derive_ok0 ⟨a, b, c, 0, f⟩ id rights badge _ h1 rfl).mono ?_
  rintro e w3 ⟨rfl, hb3⟩
  have rx : WrAt w3 w.heap.size 0 ⟨a, b, c, 0, f⟩ := qx.below hb3 hz2
  have hz3 : w.heap.size < w3.heap.size := Nat.lt_of_lt_of_le hz2 hb3.size
  have bl3 : Below w.heap.size w w3 := Below_after bl2 hb3
  clear hb3 qx p1 p2 p3 p4 p5 bl2
  have rx' := rx
  obtain ⟨p1, p2, p3, p4, p5⟩ := rx'
  go_wp2_with (go_at_call 10; refine (has_any _ _ _).mono ?_; rintro e w' ⟨rfl, rfl⟩)
  refine (derive_ok0 ⟨id, b, rights, badge, a⟩ id2 rights2 badge2 _ h2 e2.out).mono ?_
  rintro e w4 ⟨rfl, hb4⟩
  have sx : WrAt w4 w.heap.size 0 ⟨a, b, c, 0, f⟩ := (rx.past hz3 _).below hb4 (by simp; omega)
  have hz4 : w.heap.size < w4.heap.size := by have := hb4.size; simp at this; omega
  have bl4 : Below w.heap.size w w4 := Below_after (bl3.alloc (Nat.le_of_lt hz3) _) hb4
  clear hb4 rx p1 p2 p3 p4 p5 bl3
  have sx' := sx
  obtain ⟨p1, p2, p3, p4, p5⟩ := sx'
  go_wp2_with fail
  refine (derive_ok0 ⟨a, b, c, 0, f⟩ id2 rights2 badge2 _ h3 rfl).mono ?_
  rintro e w5 ⟨rfl, hb5⟩
  have tz : WrAt w5 w4.heap.size 0 ⟨id2, b, rights2, badge2, id⟩ := (WrAt_new w4 _ ⟨id2, b, rights2, badge2, id⟩).below hb5 (by simp)
  have hz5 : w4.heap.size < w5.heap.size := by have := hb5.size; simp at this; omega
  have bl5 : Below w.heap.size w w5 := Below_after (bl4.alloc (Nat.le_of_lt hz4) _) hb5
  clear hb5 sx p1 p2 p3 p4 p5 bl4
  obtain ⟨p1, p2, p3, p4, p5⟩ := tz
  go_wp2_with fail
  go_ret
  exact ⟨retBool (by simp), bl5.alloc (by omega) _⟩
set_option maxHeartbeats 1000000 in
theorem td_A1_ok (a b c f : Int) (id rights badge id2 rights2 badge2 : Int) (w : World) (h : wrOk ⟨a, b, c, 0, f⟩) (h1 : drvCode ⟨a, b, c, 0, f⟩ rights badge = 0) (hh : hasB c rights = true) (hb2 : ¬ badge = 0) (h2 : drvCode ⟨id, b, rights, badge, a⟩ rights2 badge2 = 0) (h3 : drvCode ⟨a, b, c, 0, f⟩ rights2 badge = 0) :
    Calls Try.prog 3 #[.agg #[.int .i64 a, .int .i64 b, .int .i64 c, .int .i64 0, .int .i64 f], .int .i64 id, .int .i64 rights, .int .i64 badge, .int .i64 id2, .int .i64 rights2, .int .i64 badge2] w
      fun e w' => e = .returned (.bool true) ∧ Below w.heap.size w w' := by
  have e2 : Hid (¬ badge = 0) := hb2
  clear hb2
  go_enter Try.func3, Try.ntmps3
  go_wp2_with fail
  refine (derive_zero _).mono ?_
  rintro e w1 ⟨rfl, hb1⟩
  have px : WrAt w1 w.heap.size 0 ⟨a, b, c, 0, f⟩ := (WrAt_new w _ ⟨a, b, c, 0, f⟩).below hb1 (by simp)
  have hz1 : w.heap.size < w1.heap.size := by have := hb1.size; simp at this; omega
  have bl1 : Below w.heap.size w w1 := Below_after ((Below.refl _ _).alloc (Nat.le_refl _) _) hb1
  clear hb1
  have px' := px
  obtain ⟨p1, p2, p3, p4, p5⟩ := px'
  go_wp2_with fail
  refine (number_err _ _).mono ?_
  rintro e w' ⟨rfl, rfl⟩
  go_wp2_with fail
  refine (wcheck_ok ⟨a, b, c, 0, f⟩ _ h).mono ?_
  rintro e w2 ⟨rfl, hb2⟩
  have qx : WrAt w2 w.heap.size 0 ⟨a, b, c, 0, f⟩ := (px.past hz1 _).below hb2 (by simp; omega)
  have hz2 : w.heap.size < w2.heap.size := by have := hb2.size; simp at this; omega
  have bl2 : Below w.heap.size w w2 := Below_after (bl1.alloc (Nat.le_of_lt hz1) _) hb2
  clear hb2 px p1 p2 p3 p4 p5 bl1
  have qx' := qx
  obtain ⟨p1, p2, p3, p4, p5⟩ := qx'
  go_wp2_with fail
  refine (derive_ok0 ⟨a, b, c, 0, f⟩ id rights badge _ h1 rfl).mono ?_
  rintro e w3 ⟨rfl, hb3⟩
  have rx : WrAt w3 w.heap.size 0 ⟨a, b, c, 0, f⟩ := qx.below hb3 hz2
  have hz3 : w.heap.size < w3.heap.size := Nat.lt_of_lt_of_le hz2 hb3.size
  have bl3 : Below w.heap.size w w3 := Below_after bl2 hb3
  clear hb3 qx p1 p2 p3 p4 p5 bl2
  have rx' := rx
  obtain ⟨p1, p2, p3, p4, p5⟩ := rx'
  go_wp2_with (go_at_call 10; refine (has_any _ _ _).mono ?_; rintro e w' ⟨rfl, rfl⟩)
  refine (derive_ok1 ⟨id, b, rights, badge, a⟩ id2 rights2 badge2 _ h2 e2.out).mono ?_
  rintro e w4 ⟨rfl, hb4⟩
  have sx : WrAt w4 w.heap.size 0 ⟨a, b, c, 0, f⟩ := (rx.past hz3 _).below hb4 (by simp; omega)
  have hz4 : w.heap.size < w4.heap.size := by have := hb4.size; simp at this; omega
  have bl4 : Below w.heap.size w w4 := Below_after (bl3.alloc (Nat.le_of_lt hz3) _) hb4
  clear hb4 rx p1 p2 p3 p4 p5 bl3
  have sx' := sx
  obtain ⟨p1, p2, p3, p4, p5⟩ := sx'
  go_wp2_with fail
  refine (derive_ok0 ⟨a, b, c, 0, f⟩ id2 rights2 badge _ h3 rfl).mono ?_
  rintro e w5 ⟨rfl, hb5⟩
  have tz : WrAt w5 w4.heap.size 0 ⟨id2, b, rights2, badge, id⟩ := (WrAt_new w4 _ ⟨id2, b, rights2, badge, id⟩).below hb5 (by simp)
  have hz5 : w4.heap.size < w5.heap.size := by have := hb5.size; simp at this; omega
  have bl5 : Below w.heap.size w w5 := Below_after (bl4.alloc (Nat.le_of_lt hz4) _) hb5
  clear hb5 sx p1 p2 p3 p4 p5 bl4
  obtain ⟨p1, p2, p3, p4, p5⟩ := tz
  go_wp2_with fail
  go_ret
  exact ⟨retBool (by simp), bl5.alloc (by omega) _⟩
set_option maxHeartbeats 1000000 in
theorem td_B_err (x : Wr) (id rights badge id2 rights2 badge2 : Int) (w : World) (h : wrOk x) (h1 : drvCode x rights badge = 0) (hb : ¬ x.badge = 0) (hh : hasB x.rights rights = true) (h2 : drvCode ⟨id, x.thing, rights, x.badge, x.id⟩ rights2 badge2 ≠ 0) :
    Calls Try.prog 3 #[.agg #[.int .i64 x.id, .int .i64 x.thing, .int .i64 x.rights, .int .i64 x.badge, .int .i64 x.frm], .int .i64 id, .int .i64 rights, .int .i64 badge, .int .i64 id2, .int .i64 rights2, .int .i64 badge2] w
      fun e w' => e = .returned (.bool true) ∧ Below w.heap.size w w' := by
  have d1 : (x.badge == 0) = false := by simp [hb]
  have HB : Hid (¬ x.badge = 0) := hb
  clear hb
  go_enter Try.func3, Try.ntmps3
  go_wp2_with fail
  refine (derive_zero _).mono ?_
  rintro e w1 ⟨rfl, hb1⟩
  have px : WrAt w1 w.heap.size 0 x := (WrAt_new w _ x).below hb1 (by simp)
  have hz1 : w.heap.size < w1.heap.size := by have := hb1.size; simp at this; omega
  have bl1 : Below w.heap.size w w1 := Below_after ((Below.refl _ _).alloc (Nat.le_refl _) _) hb1
  clear hb1
  have px' := px
  obtain ⟨p1, p2, p3, p4, p5⟩ := px'
  go_wp2_with fail
  refine (number_err _ _).mono ?_
  rintro e w' ⟨rfl, rfl⟩
  go_wp2_with fail
  refine (wcheck_ok x _ h).mono ?_
  rintro e w2 ⟨rfl, hb2⟩
  have qx : WrAt w2 w.heap.size 0 x := (px.past hz1 _).below hb2 (by simp; omega)
  have hz2 : w.heap.size < w2.heap.size := by have := hb2.size; simp at this; omega
  have bl2 : Below w.heap.size w w2 := Below_after (bl1.alloc (Nat.le_of_lt hz1) _) hb2
  clear hb2 px p1 p2 p3 p4 p5 bl1
  have qx' := qx
  obtain ⟨p1, p2, p3, p4, p5⟩ := qx'
  go_wp2_with fail
  refine (derive_ok1 x id rights badge _ h1 HB.out).mono ?_
  rintro e w3 ⟨rfl, hb3⟩
  have rx : WrAt w3 w.heap.size 0 x := qx.below hb3 hz2
  have hz3 : w.heap.size < w3.heap.size := Nat.lt_of_lt_of_le hz2 hb3.size
  have bl3 : Below w.heap.size w w3 := Below_after bl2 hb3
  clear hb3 qx p1 p2 p3 p4 p5 bl2
  have rx' := rx
  obtain ⟨p1, p2, p3, p4, p5⟩ := rx'
  go_wp2_with (go_at_call 10; refine (has_any _ _ _).mono ?_; rintro e w' ⟨rfl, rfl⟩)
  refine (derive_err ⟨id, x.thing, rights, x.badge, x.id⟩ id2 rights2 badge2 _ h2).mono ?_
  rintro e w4 ⟨rfl, hb4⟩
  have sx : WrAt w4 w.heap.size 0 x := (rx.past hz3 _).below hb4 (by simp; omega)
  have hz4 : w.heap.size < w4.heap.size := by have := hb4.size; simp at this; omega
  have bl4 : Below w.heap.size w w4 := Below_after (bl3.alloc (Nat.le_of_lt hz3) _) hb4
  clear hb4 rx p1 p2 p3 p4 p5 bl3
  have sx' := sx
  obtain ⟨p1, p2, p3, p4, p5⟩ := sx'
  go_wp2_with fail
  go_ret
  exact ⟨rfl, bl4.alloc (Nat.le_of_lt hz4) _⟩
set_option maxHeartbeats 1000000 in
theorem td_B_ok (x : Wr) (id rights badge id2 rights2 badge2 : Int) (w : World) (h : wrOk x) (h1 : drvCode x rights badge = 0) (hb : ¬ x.badge = 0) (hh : hasB x.rights rights = true)  (h2 : drvCode ⟨id, x.thing, rights, x.badge, x.id⟩ rights2 badge2 = 0) (h3 : drvCode x rights2 x.badge = 0) :
    Calls Try.prog 3 #[.agg #[.int .i64 x.id, .int .i64 x.thing, .int .i64 x.rights, .int .i64 x.badge, .int .i64 x.frm], .int .i64 id, .int .i64 rights, .int .i64 badge, .int .i64 id2, .int .i64 rights2, .int .i64 badge2] w
      fun e w' => e = .returned (.bool true) ∧ Below w.heap.size w w' := by
  have d1 : (x.badge == 0) = false := by simp [hb]
  have HB : Hid (¬ x.badge = 0) := hb
  clear hb
  have e2 : Hid (¬ x.badge = 0) := HB
  go_enter Try.func3, Try.ntmps3
  go_wp2_with fail
  refine (derive_zero _).mono ?_
  rintro e w1 ⟨rfl, hb1⟩
  have px : WrAt w1 w.heap.size 0 x := (WrAt_new w _ x).below hb1 (by simp)
  have hz1 : w.heap.size < w1.heap.size := by have := hb1.size; simp at this; omega
  have bl1 : Below w.heap.size w w1 := Below_after ((Below.refl _ _).alloc (Nat.le_refl _) _) hb1
  clear hb1
  have px' := px
  obtain ⟨p1, p2, p3, p4, p5⟩ := px'
  go_wp2_with fail
  refine (number_err _ _).mono ?_
  rintro e w' ⟨rfl, rfl⟩
  go_wp2_with fail
  refine (wcheck_ok x _ h).mono ?_
  rintro e w2 ⟨rfl, hb2⟩
  have qx : WrAt w2 w.heap.size 0 x := (px.past hz1 _).below hb2 (by simp; omega)
  have hz2 : w.heap.size < w2.heap.size := by have := hb2.size; simp at this; omega
  have bl2 : Below w.heap.size w w2 := Below_after (bl1.alloc (Nat.le_of_lt hz1) _) hb2
  clear hb2 px p1 p2 p3 p4 p5 bl1
  have qx' := qx
  obtain ⟨p1, p2, p3, p4, p5⟩ := qx'
  go_wp2_with fail
  refine (derive_ok1 x id rights badge _ h1 HB.out).mono ?_
  rintro e w3 ⟨rfl, hb3⟩
  have rx : WrAt w3 w.heap.size 0 x := qx.below hb3 hz2
  have hz3 : w.heap.size < w3.heap.size := Nat.lt_of_lt_of_le hz2 hb3.size
  have bl3 : Below w.heap.size w w3 := Below_after bl2 hb3
  clear hb3 qx p1 p2 p3 p4 p5 bl2
  have rx' := rx
  obtain ⟨p1, p2, p3, p4, p5⟩ := rx'
  go_wp2_with (go_at_call 10; refine (has_any _ _ _).mono ?_; rintro e w' ⟨rfl, rfl⟩)
  refine (derive_ok1 ⟨id, x.thing, rights, x.badge, x.id⟩ id2 rights2 badge2 _ h2 e2.out).mono ?_
  rintro e w4 ⟨rfl, hb4⟩
  have sx : WrAt w4 w.heap.size 0 x := (rx.past hz3 _).below hb4 (by simp; omega)
  have hz4 : w.heap.size < w4.heap.size := by have := hb4.size; simp at this; omega
  have bl4 : Below w.heap.size w w4 := Below_after (bl3.alloc (Nat.le_of_lt hz3) _) hb4
  clear hb4 rx p1 p2 p3 p4 p5 bl3
  have sx' := sx
  obtain ⟨p1, p2, p3, p4, p5⟩ := sx'
  go_wp2_with fail
  refine (derive_ok1 x id2 rights2 x.badge _ h3 HB.out).mono ?_
  rintro e w5 ⟨rfl, hb5⟩
  have tz : WrAt w5 w4.heap.size 0 ⟨id2, x.thing, rights2, x.badge, id⟩ := (WrAt_new w4 _ ⟨id2, x.thing, rights2, x.badge, id⟩).below hb5 (by simp)
  have hz5 : w4.heap.size < w5.heap.size := by have := hb5.size; simp at this; omega
  have bl5 : Below w.heap.size w w5 := Below_after (bl4.alloc (Nat.le_of_lt hz4) _) hb5
  clear hb5 sx p1 p2 p3 p4 p5 bl4
  obtain ⟨p1, p2, p3, p4, p5⟩ := tz
  go_wp2_with fail
  go_ret
  exact ⟨retBool (by simp), bl5.alloc (by omega) _⟩

/-! ### The plain law -/
theorem hasB_fin : ∀ a b c : Fin 8, hasB ((a : Nat) : Int) ((b : Nat) : Int) = true → hasB ((b : Nat) : Int) ((c : Nat) : Int) = true → hasB ((a : Nat) : Int) ((c : Nat) : Int) = true := by decide +kernel
theorem hasB_trans {a b c : Int} (a0 : 0 ≤ a) (a7 : a ≤ 7) (b0 : 0 ≤ b) (b7 : b ≤ 7) (c0 : 0 ≤ c) (c7 : c ≤ 7) (h1 : hasB a b = true) (h2 : hasB b c = true) : hasB a c = true := by
  have h := hasB_fin ⟨a.toNat, by omega⟩ ⟨b.toNat, by omega⟩ ⟨c.toNat, by omega⟩
  simp only [show ((a.toNat : Nat) : Int) = a by omega, show ((b.toNat : Nat) : Int) = b by omega, show ((c.toNat : Nat) : Int) = c by omega] at h
  exact h h1 h2
theorem drv_parts {x : Wr} {rights badge : Int} (h : drvCode x rights badge = 0) : 0 ≤ rights ∧ rights ≤ 7 ∧ 0 ≤ badge ∧ badge ≤ 99 ∧ hasB x.rights rights = true ∧ othB x.badge badge = false := by
  unfold drvCode at h
  have h1 : ¬ (rights < 0 ∨ 7 < rights ∨ badge < 0 ∨ 99 < badge) := by intro hh; rw [if_pos hh] at h; simp at h
  rw [if_neg h1] at h
  have h2 : ¬ (hasB x.rights rights = false ∨ othB x.badge badge = true) := by intro hh; rw [if_pos hh] at h; simp at h
  refine ⟨by omega, by omega, by omega, by omega, ?_, ?_⟩
  · cases hh : hasB x.rights rights with
    | true => rfl
    | false => exact absurd (Or.inl hh) h2
  · cases hh : othB x.badge badge with
    | false => rfl
    | true => exact absurd (Or.inr hh) h2
theorem drv_mk {x : Wr} {rights badge : Int} (h1 : 0 ≤ rights) (h2 : rights ≤ 7) (h3 : 0 ≤ badge) (h4 : badge ≤ 99) (h5 : hasB x.rights rights = true) (h6 : othB x.badge badge = false) : drvCode x rights badge = 0 := by
  unfold drvCode
  rw [if_neg (by omega), if_neg (by rw [h5, h6]; simp)]
theorem othB_0 (b : Int) : othB 0 b = false := by simp [othB]
theorem othB_self (b : Int) : othB b b = false := by simp [othB]

theorem td_all (x : Wr) (id rights badge id2 rights2 badge2 : Int) (w : World) :
    Calls Try.prog 3 #[.agg #[.int .i64 x.id, .int .i64 x.thing, .int .i64 x.rights, .int .i64 x.badge, .int .i64 x.frm], .int .i64 id, .int .i64 rights, .int .i64 badge, .int .i64 id2, .int .i64 rights2, .int .i64 badge2] w
      fun e w' => e = .returned (.bool true) ∧ Below w.heap.size w w' := by
  by_cases h : wrOk x
  · by_cases h1 : drvCode x rights badge = 0
    · obtain ⟨r0, r7, b0, b99, hh, ho⟩ := drv_parts h1
      have hx := h
      obtain ⟨_, _, _, _, xb0, xb99, _, _, xr0, xr7⟩ := hx
      by_cases hb : x.badge = 0
      · obtain ⟨a, b, c, d, f⟩ := x
        simp only at hb
        subst hb
        by_cases h2 : drvCode ⟨id, b, rights, badge, a⟩ rights2 badge2 = 0
        · obtain ⟨s0, s7, c0, c99, hh2, ho2⟩ := drv_parts h2
          have ht := hasB_trans xr0 xr7 r0 r7 s0 s7 hh hh2
          by_cases hb2 : badge = 0
          · exact td_A0_ok a b c f id rights badge id2 rights2 badge2 w h h1 hh hb2 h2 (drv_mk s0 s7 c0 c99 ht (othB_0 _))
          · exact td_A1_ok a b c f id rights badge id2 rights2 badge2 w h h1 hh hb2 h2 (drv_mk s0 s7 b0 b99 ht (othB_0 _))
        · exact td_A_err a b c f id rights badge id2 rights2 badge2 w h h1 hh h2
      · by_cases h2 : drvCode ⟨id, x.thing, rights, x.badge, x.id⟩ rights2 badge2 = 0
        · obtain ⟨s0, s7, c0, c99, hh2, ho2⟩ := drv_parts h2
          have ht := hasB_trans xr0 xr7 r0 r7 s0 s7 hh hh2
          exact td_B_ok x id rights badge id2 rights2 badge2 w h h1 hb hh h2 (drv_mk s0 s7 xb0 xb99 ht (othB_self _))
        · exact td_B_err x id rights badge id2 rights2 badge2 w h h1 hb hh h2
    · exact td_err x id rights badge id2 rights2 badge2 w h h1
  · exact td_bad x id rights badge id2 rights2 badge2 w h
end Go.Proofs.Ytnjncemjghmpoab
