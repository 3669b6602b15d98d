/- The walk of WritSays over the landed code: every writ, all numbers, every slice of writs. -/
import Derived.Test.YtnjncemjghmpoaaRef
import Derived.Test.YtnjncemjghmpoaaFind
import Derived.Deep.RegionHeld3
import Derived.WalkSmall
namespace Go.Proofs.Ytnjncemjghmpoaa
open Go.RowKit
@[go_sem] theorem asErr (v : Value) (w : World) : (Instr.typeAssert (.iface 70 v) 25 70 true).run Try.prog w = .ok (.tuple #[v, .bool true]) w := by kernel_rfl
theorem same_eq (n : Int) (w : World) (h : 0 < n) : Calls Try.prog 11 #[.iface 70 (.int .i64 n), .int .i64 n] w fun e w' => e = .returned (.bool true) ∧ w' = w := by
  go_enter Try.func11, Try.ntmps11
  go_wp2
  go_ret
  exact ⟨retBool (by simp), rfl⟩
theorem same_nil (w : World) : Calls Try.prog 11 #[.nilIface, .int .i64 0] w fun e w' => e = .returned (.bool true) ∧ w' = w := by
  go_enter Try.func11, Try.ntmps11
  go_wp2
  go_ret
  exact ⟨rfl, rfl⟩
theorem derive_first (w : World) : Calls Try.prog 17 #[.agg #[.int .i64 1, .int .i64 1, .int .i64 7, .int .i64 0, .int .i64 0], .int .i64 2, .int .i64 3, .int .i64 5] w
      fun e w' => e = .returned (.tuple #[.agg #[.int .i64 2, .int .i64 1, .int .i64 3, .int .i64 5, .int .i64 1], .nilIface]) ∧ Below w.heap.size w w' := by
  exact derive_ok0 ⟨1, 1, 7, 0, 0⟩ 2 3 5 w (by decide) rfl
set_option maxHeartbeats 1000000 in
theorem ws_long (x : Wr) (id rights badge : Int) (a : Option Addr) (l : List Wr) (c : Nat) (w : World) (hm : 40 < l.length) (hm2 : l.length ≤ maxLen) :
    Calls Try.prog 4 #[.agg #[.int .i64 x.id, .int .i64 x.thing, .int .i64 x.rights, .int .i64 x.badge, .int .i64 x.frm], .int .i64 id, .int .i64 rights, .int .i64 badge, .slice a l.length c] w
      fun e w' => e = .returned (.bool true) ∧ Below w.heap.size w w' := by
  unfold maxLen at hm2
  go_enter Try.func4, Try.ntmps4
  go_wp2_with fail
  refine (derive_first _).mono ?_
  rintro e w1 ⟨rfl, hb1⟩
  have px : WrAt w1 w.heap.size 0 x := (WrAt_new w _ x).below hb1 (by simp)
  have hz1 : w.heap.size < w1.heap.size := by have := hb1.size; simp at this; omega
  have bl1 : Below w.heap.size w w1 := Below_after ((Below.refl _ _).alloc (Nat.le_refl _) _) hb1
  have hz1a : w.heap.size < w1.heap.size + 1 := by omega
  clear hb1
  have px' := px
  obtain ⟨p1, p2, p3, p4, p5⟩ := px'
  go_wp2_with fail
  go_ret
  exact ⟨rfl, bl1.alloc (Nat.le_of_lt hz1) _⟩
set_option maxHeartbeats 1000000 in
theorem ws_bad (x : Wr) (id rights badge : Int) (a : Option Addr) (l : List Wr) (c : Nat) (w : World) (hw : WrsAt w a l) (hm : l.length ≤ 40) (h : ¬ wrOk x) :
    Calls Try.prog 4 #[.agg #[.int .i64 x.id, .int .i64 x.thing, .int .i64 x.rights, .int .i64 x.badge, .int .i64 x.frm], .int .i64 id, .int .i64 rights, .int .i64 badge, .slice a l.length c] w
      fun e w' => e = .returned (.bool true) ∧ Below w.heap.size w w' := by
  go_enter Try.func4, Try.ntmps4
  go_wp2_with fail
  refine (derive_first _).mono ?_
  rintro e w1 ⟨rfl, hb1⟩
  have px : WrAt w1 w.heap.size 0 x := (WrAt_new w _ x).below hb1 (by simp)
  have hz1 : w.heap.size < w1.heap.size := by have := hb1.size; simp at this; omega
  have bl1 : Below w.heap.size w w1 := Below_after ((Below.refl _ _).alloc (Nat.le_refl _) _) hb1
  have hz1a : w.heap.size < w1.heap.size + 1 := by omega
  clear hb1
  have px' := px
  obtain ⟨p1, p2, p3, p4, p5⟩ := px'
  go_wp2_with fail
  go_region_held3 (fun w' => w'.cell? ⟨w.heap.size, 0, none⟩ = some (.int .i64 x.id) ∧ w'.cell? ⟨w.heap.size, 1, none⟩ = some (.int .i64 x.thing) ∧ w'.cell? ⟨w.heap.size, 2, none⟩ = some (.int .i64 x.rights) ∧ w'.cell? ⟨w.heap.size, 3, none⟩ = some (.int .i64 x.badge) ∧ w'.cell? ⟨w.heap.size, 4, none⟩ = some (.int .i64 x.frm)) (go_keep) (first
    | (go_at_call 18; refine (wcheck_bad x _ h).mono ?_; rintro e w2 ⟨rfl, hb2⟩; obtain ⟨hc2, hf2⟩ := bcell hb2; have bl2 : Below w.heap.size w w2 := by { refine Below_after ?_ hb2; (repeat (first | exact bl5 | exact bl4 | exact bl3 | exact bl2 | exact bl1 | refine Below.drew ?_ | refine below_drewN ?_ _ | refine Below.alloc ?_ (by first | omega | (simp; omega)) _)) }; have hz2 : w.heap.size < w2.heap.size := by { have := hb2.size; (try simp at this); omega })
    | (go_at_call 19; refine (writFault_any x _ 1 (.inr ⟨h, rfl⟩)).mono ?_; rintro e w3 ⟨rfl, hb3⟩; obtain ⟨hc3, hf3⟩ := bcell hb3; have bl3 : Below w.heap.size w w3 := by { refine Below_after ?_ hb3; (repeat (first | exact bl5 | exact bl4 | exact bl3 | exact bl2 | exact bl1 | refine Below.drew ?_ | refine below_drewN ?_ _ | refine Below.alloc ?_ (by first | omega | (simp; omega)) _)) }; have hz3 : w.heap.size < w3.heap.size := by { have := hb3.size; (try simp at this); omega })
    | (go_at_call 11; refine (same_eq _ _ (by omega)).mono ?_; rintro e w' ⟨rfl, hq⟩; obtain rfl := hq.symm)
    | (go_at_call 20; refine (find_any a c l id _ (hw.below ?_) (by omega)).mono ?_; (repeat (first | exact bl5 | exact bl4 | exact bl3 | exact bl2 | exact bl1 | refine Below.drew ?_ | refine below_drewN ?_ _ | refine Below.alloc ?_ (by first | omega | (simp; omega)) _)); rintro e w4 ⟨rfl, hb4⟩; obtain ⟨hc4, hf4⟩ := bcell hb4; have bl4 : Below w.heap.size w w4 := by { refine Below_after ?_ hb4; (repeat (first | exact bl5 | exact bl4 | exact bl3 | exact bl2 | exact bl1 | refine Below.drew ?_ | refine below_drewN ?_ _ | refine Below.alloc ?_ (by first | omega | (simp; omega)) _)) }; have hz4 : w.heap.size < w4.heap.size := by { have := hb4.size; (try simp at this); omega })
    | (go_at_call 21; refine (findWrit_any a c l id _ (hw.below ?_) (by omega)).mono ?_; (repeat (first | exact bl5 | exact bl4 | exact bl3 | exact bl2 | exact bl1 | refine Below.drew ?_ | refine below_drewN ?_ _ | refine Below.alloc ?_ (by first | omega | (simp; omega)) _)); rintro e w' ⟨rfl, hq⟩; obtain rfl := hq.symm))
  rename_i hH
  have qx : WrAt w4 w.heap.size 0 x := hH
  clear hH hc2 hf2 hb2 hc3 hf3 hb3 hc4 hf4 hb4 bl1 bl2 bl3 hz1 hz1a hz2 hz3 px p1 p2 p3 p4 p5
  have qx' := qx
  obtain ⟨p1, p2, p3, p4, p5⟩ := qx'
  go_wp2_with fail
  refine (writFault_any x _ 1 (.inr ⟨h, rfl⟩)).mono ?_
  rintro e w5 ⟨rfl, hb5⟩
  have rx : WrAt w5 w.heap.size 0 x := qx.below hb5 hz4
  have hz5 : w.heap.size < w5.heap.size := Nat.lt_of_lt_of_le hz4 hb5.size
  have bl5 : Below w.heap.size w w5 := Below_after bl4 hb5
  clear hb5 qx p1 p2 p3 p4 p5 bl4 hz4
  have rx' := rx
  obtain ⟨p1, p2, p3, p4, p5⟩ := rx'
  go_wp2_with fail
  go_ret
  exact ⟨rfl, bl5⟩
set_option maxHeartbeats 1000000 in
theorem ws_err (x : Wr) (id rights badge : Int) (a : Option Addr) (l : List Wr) (c : Nat) (w : World) (hw : WrsAt w a l) (hm : l.length ≤ 40) (h : wrOk x) (h1 : drvCode x rights badge ≠ 0) (h0 : 0 < drvCode x rights badge) :
    Calls Try.prog 4 #[.agg #[.int .i64 x.id, .int .i64 x.thing, .int .i64 x.rights, .int .i64 x.badge, .int .i64 x.frm], .int .i64 id, .int .i64 rights, .int .i64 badge, .slice a l.length c] w
      fun e w' => e = .returned (.bool true) ∧ Below w.heap.size w w' := by
  go_enter Try.func4, Try.ntmps4
  go_wp2_with fail
  refine (derive_first _).mono ?_
  rintro e w1 ⟨rfl, hb1⟩
  have px : WrAt w1 w.heap.size 0 x := (WrAt_new w _ x).below hb1 (by simp)
  have hz1 : w.heap.size < w1.heap.size := by have := hb1.size; simp at this; omega
  have bl1 : Below w.heap.size w w1 := Below_after ((Below.refl _ _).alloc (Nat.le_refl _) _) hb1
  have hz1a : w.heap.size < w1.heap.size + 1 := by omega
  clear hb1
  have px' := px
  obtain ⟨p1, p2, p3, p4, p5⟩ := px'
  go_wp2_with fail
  go_region_held3 (fun w' => w'.cell? ⟨w.heap.size, 0, none⟩ = some (.int .i64 x.id) ∧ w'.cell? ⟨w.heap.size, 1, none⟩ = some (.int .i64 x.thing) ∧ w'.cell? ⟨w.heap.size, 2, none⟩ = some (.int .i64 x.rights) ∧ w'.cell? ⟨w.heap.size, 3, none⟩ = some (.int .i64 x.badge) ∧ w'.cell? ⟨w.heap.size, 4, none⟩ = some (.int .i64 x.frm)) (go_keep) (first
    | (go_at_call 18; refine (wcheck_ok x _ h).mono ?_; rintro e w2 ⟨rfl, hb2⟩; obtain ⟨hc2, hf2⟩ := bcell hb2; have bl2 : Below w.heap.size w w2 := by { refine Below_after ?_ hb2; (repeat (first | exact bl5 | exact bl4 | exact bl3 | exact bl2 | exact bl1 | refine Below.drew ?_ | refine below_drewN ?_ _ | refine Below.alloc ?_ (by first | omega | (simp; omega)) _)) }; have hz2 : w.heap.size < w2.heap.size := by { have := hb2.size; (try simp at this); omega })
    | (go_at_call 19; refine (writFault_any x _ 0 (.inl ⟨h, rfl⟩)).mono ?_; rintro e w3 ⟨rfl, hb3⟩; obtain ⟨hc3, hf3⟩ := bcell hb3; have bl3 : Below w.heap.size w w3 := by { refine Below_after ?_ hb3; (repeat (first | exact bl5 | exact bl4 | exact bl3 | exact bl2 | exact bl1 | refine Below.drew ?_ | refine below_drewN ?_ _ | refine Below.alloc ?_ (by first | omega | (simp; omega)) _)) }; have hz3 : w.heap.size < w3.heap.size := by { have := hb3.size; (try simp at this); omega })
    | (go_at_call 11; refine (same_nil _).mono ?_; rintro e w' ⟨rfl, hq⟩; obtain rfl := hq.symm)
    | (go_at_call 20; refine (find_any a c l id _ (hw.below ?_) (by omega)).mono ?_; (repeat (first | exact bl5 | exact bl4 | exact bl3 | exact bl2 | exact bl1 | refine Below.drew ?_ | refine below_drewN ?_ _ | refine Below.alloc ?_ (by first | omega | (simp; omega)) _)); rintro e w4 ⟨rfl, hb4⟩; obtain ⟨hc4, hf4⟩ := bcell hb4; have bl4 : Below w.heap.size w w4 := by { refine Below_after ?_ hb4; (repeat (first | exact bl5 | exact bl4 | exact bl3 | exact bl2 | exact bl1 | refine Below.drew ?_ | refine below_drewN ?_ _ | refine Below.alloc ?_ (by first | omega | (simp; omega)) _)) }; have hz4 : w.heap.size < w4.heap.size := by { have := hb4.size; (try simp at this); omega })
    | (go_at_call 21; refine (findWrit_any a c l id _ (hw.below ?_) (by omega)).mono ?_; (repeat (first | exact bl5 | exact bl4 | exact bl3 | exact bl2 | exact bl1 | refine Below.drew ?_ | refine below_drewN ?_ _ | refine Below.alloc ?_ (by first | omega | (simp; omega)) _)); rintro e w' ⟨rfl, hq⟩; obtain rfl := hq.symm))
  rename_i hH
  have qx : WrAt w4 w.heap.size 0 x := hH
  clear hH hc2 hf2 hb2 hc3 hf3 hb3 hc4 hf4 hb4 bl1 bl2 bl3 hz1 hz1a hz2 hz3 px p1 p2 p3 p4 p5
  have qx' := qx
  obtain ⟨p1, p2, p3, p4, p5⟩ := qx'
  go_wp2_with fail
  refine (writFault_any x _ 0 (.inl ⟨h, rfl⟩)).mono ?_
  rintro e w5 ⟨rfl, hb5⟩
  have rx : WrAt w5 w.heap.size 0 x := qx.below hb5 hz4
  have hz5 : w.heap.size < w5.heap.size := Nat.lt_of_lt_of_le hz4 hb5.size
  have bl5 : Below w.heap.size w w5 := Below_after bl4 hb5
  clear hb5 qx p1 p2 p3 p4 p5 bl4 hz4
  have rx' := rx
  obtain ⟨p1, p2, p3, p4, p5⟩ := rx'
  go_wp2_with fail
  refine (derive_err x id rights badge _ h1).mono ?_
  rintro e w6 ⟨rfl, hb6⟩
  have sx : WrAt w6 w.heap.size 0 x := rx.below hb6 hz5
  have hz6 : w.heap.size < w6.heap.size := Nat.lt_of_lt_of_le hz5 hb6.size
  have bl6 : Below w.heap.size w w6 := Below_after bl5 hb6
  clear hb6 rx p1 p2 p3 p4 p5 bl5 hz5
  have sx' := sx
  obtain ⟨p1, p2, p3, p4, p5⟩ := sx'
  go_wp2_with fail
  refine (derived_err x id rights badge _ h.2.2.2.2.2.2.2.2.1 h.2.2.2.2.2.2.2.2.2 h1).mono ?_
  rintro e w7 ⟨rfl, hb7⟩
  have tz : WrAt w7 w6.heap.size 0 ⟨0, 0, 0, 0, 0⟩ := (WrAt_new w6 _ ⟨0, 0, 0, 0, 0⟩).below hb7 (by simp)
  have hz7 : w6.heap.size < w7.heap.size := by have := hb7.size; simp at this; omega
  have bl7 : Below w.heap.size w w7 := Below_after (bl6.alloc (Nat.le_of_lt hz6) _) hb7
  clear hb7 sx p1 p2 p3 p4 p5 bl6
  obtain ⟨p1, p2, p3, p4, p5⟩ := tz
  go_wp2_with (go_at_call 11; refine (same_eq _ _ h0).mono ?_; rintro e w' ⟨rfl, hq⟩; obtain rfl := hq.symm)
  go_ret
  exact ⟨rfl, bl7.alloc (by omega) _⟩
set_option maxHeartbeats 1000000 in
theorem ws_ok0 (x : Wr) (id rights badge : Int) (a : Option Addr) (l : List Wr) (c : Nat) (w : World) (hw : WrsAt w a l) (hm : l.length ≤ 40) (h : wrOk x) (h1 : drvCode x rights badge = 0) (hb : Hid (x.badge = 0)) :
    Calls Try.prog 4 #[.agg #[.int .i64 x.id, .int .i64 x.thing, .int .i64 x.rights, .int .i64 x.badge, .int .i64 x.frm], .int .i64 id, .int .i64 rights, .int .i64 badge, .slice a l.length c] w
      fun e w' => e = .returned (.bool true) ∧ Below w.heap.size w w' := by
  go_enter Try.func4, Try.ntmps4
  go_wp2_with fail
  refine (derive_first _).mono ?_
  rintro e w1 ⟨rfl, hb1⟩
  have px : WrAt w1 w.heap.size 0 x := (WrAt_new w _ x).below hb1 (by simp)
  have hz1 : w.heap.size < w1.heap.size := by have := hb1.size; simp at this; omega
  have bl1 : Below w.heap.size w w1 := Below_after ((Below.refl _ _).alloc (Nat.le_refl _) _) hb1
  have hz1a : w.heap.size < w1.heap.size + 1 := by omega
  clear hb1
  have px' := px
  obtain ⟨p1, p2, p3, p4, p5⟩ := px'
  go_wp2_with fail
  go_region_held3 (fun w' => w'.cell? ⟨w.heap.size, 0, none⟩ = some (.int .i64 x.id) ∧ w'.cell? ⟨w.heap.size, 1, none⟩ = some (.int .i64 x.thing) ∧ w'.cell? ⟨w.heap.size, 2, none⟩ = some (.int .i64 x.rights) ∧ w'.cell? ⟨w.heap.size, 3, none⟩ = some (.int .i64 x.badge) ∧ w'.cell? ⟨w.heap.size, 4, none⟩ = some (.int .i64 x.frm)) (go_keep) (first
    | (go_at_call 18; refine (wcheck_ok x _ h).mono ?_; rintro e w2 ⟨rfl, hb2⟩; obtain ⟨hc2, hf2⟩ := bcell hb2; have bl2 : Below w.heap.size w w2 := by { refine Below_after ?_ hb2; (repeat (first | exact bl5 | exact bl4 | exact bl3 | exact bl2 | exact bl1 | refine Below.drew ?_ | refine below_drewN ?_ _ | refine Below.alloc ?_ (by first | omega | (simp; omega)) _)) }; have hz2 : w.heap.size < w2.heap.size := by { have := hb2.size; (try simp at this); omega })
    | (go_at_call 19; refine (writFault_any x _ 0 (.inl ⟨h, rfl⟩)).mono ?_; rintro e w3 ⟨rfl, hb3⟩; obtain ⟨hc3, hf3⟩ := bcell hb3; have bl3 : Below w.heap.size w w3 := by { refine Below_after ?_ hb3; (repeat (first | exact bl5 | exact bl4 | exact bl3 | exact bl2 | exact bl1 | refine Below.drew ?_ | refine below_drewN ?_ _ | refine Below.alloc ?_ (by first | omega | (simp; omega)) _)) }; have hz3 : w.heap.size < w3.heap.size := by { have := hb3.size; (try simp at this); omega })
    | (go_at_call 11; refine (same_nil _).mono ?_; rintro e w' ⟨rfl, hq⟩; obtain rfl := hq.symm)
    | (go_at_call 20; refine (find_any a c l id _ (hw.below ?_) (by omega)).mono ?_; (repeat (first | exact bl5 | exact bl4 | exact bl3 | exact bl2 | exact bl1 | refine Below.drew ?_ | refine below_drewN ?_ _ | refine Below.alloc ?_ (by first | omega | (simp; omega)) _)); rintro e w4 ⟨rfl, hb4⟩; obtain ⟨hc4, hf4⟩ := bcell hb4; have bl4 : Below w.heap.size w w4 := by { refine Below_after ?_ hb4; (repeat (first | exact bl5 | exact bl4 | exact bl3 | exact bl2 | exact bl1 | refine Below.drew ?_ | refine below_drewN ?_ _ | refine Below.alloc ?_ (by first | omega | (simp; omega)) _)) }; have hz4 : w.heap.size < w4.heap.size := by { have := hb4.size; (try simp at this); omega })
    | (go_at_call 21; refine (findWrit_any a c l id _ (hw.below ?_) (by omega)).mono ?_; (repeat (first | exact bl5 | exact bl4 | exact bl3 | exact bl2 | exact bl1 | refine Below.drew ?_ | refine below_drewN ?_ _ | refine Below.alloc ?_ (by first | omega | (simp; omega)) _)); rintro e w' ⟨rfl, hq⟩; obtain rfl := hq.symm))
  rename_i hH
  have qx : WrAt w4 w.heap.size 0 x := hH
  clear hH hc2 hf2 hb2 hc3 hf3 hb3 hc4 hf4 hb4 bl1 bl2 bl3 hz1 hz1a hz2 hz3 px p1 p2 p3 p4 p5
  have qx' := qx
  obtain ⟨p1, p2, p3, p4, p5⟩ := qx'
  go_wp2_with fail
  refine (writFault_any x _ 0 (.inl ⟨h, rfl⟩)).mono ?_
  rintro e w5 ⟨rfl, hb5⟩
  have rx : WrAt w5 w.heap.size 0 x := qx.below hb5 hz4
  have hz5 : w.heap.size < w5.heap.size := Nat.lt_of_lt_of_le hz4 hb5.size
  have bl5 : Below w.heap.size w w5 := Below_after bl4 hb5
  clear hb5 qx p1 p2 p3 p4 p5 bl4 hz4
  have rx' := rx
  obtain ⟨p1, p2, p3, p4, p5⟩ := rx'
  go_wp2_with fail
  refine (derive_ok0 x id rights badge _ h1 hb.out).mono ?_
  rintro e w6 ⟨rfl, hb6⟩
  have sx : WrAt w6 w.heap.size 0 x := rx.below hb6 hz5
  have hz6 : w.heap.size < w6.heap.size := Nat.lt_of_lt_of_le hz5 hb6.size
  have bl6 : Below w.heap.size w w6 := Below_after bl5 hb6
  clear hb6 rx p1 p2 p3 p4 p5 bl5 hz5
  have sx' := sx
  obtain ⟨p1, p2, p3, p4, p5⟩ := sx'
  go_wp2_with fail
  refine (derived_ok0 x id rights badge _ h.2.2.2.2.2.2.2.2.1 h.2.2.2.2.2.2.2.2.2 h1 hb.out).mono ?_
  rintro e w7 ⟨rfl, hb7⟩
  have tz : WrAt w7 w6.heap.size 0 ⟨id, x.thing, rights, badge, x.id⟩ := (WrAt_new w6 _ ⟨id, x.thing, rights, badge, x.id⟩).below hb7 (by simp)
  have hz7 : w6.heap.size < w7.heap.size := by have := hb7.size; simp at this; omega
  have bl7 : Below w.heap.size w w7 := Below_after (bl6.alloc (Nat.le_of_lt hz6) _) hb7
  clear hb7 sx p1 p2 p3 p4 p5 bl6
  obtain ⟨p1, p2, p3, p4, p5⟩ := tz
  go_wp2_with (go_at_call 11; refine (same_nil _).mono ?_; rintro e w' ⟨rfl, hq⟩; obtain rfl := hq.symm)
  go_ret
  exact ⟨rfl, bl7.alloc (by omega) _⟩
set_option maxHeartbeats 1000000 in
theorem ws_ok1 (x : Wr) (id rights badge : Int) (a : Option Addr) (l : List Wr) (c : Nat) (w : World) (hw : WrsAt w a l) (hm : l.length ≤ 40) (h : wrOk x) (h1 : drvCode x rights badge = 0) (hb : Hid (¬ x.badge = 0)) :
    Calls Try.prog 4 #[.agg #[.int .i64 x.id, .int .i64 x.thing, .int .i64 x.rights, .int .i64 x.badge, .int .i64 x.frm], .int .i64 id, .int .i64 rights, .int .i64 badge, .slice a l.length c] w
      fun e w' => e = .returned (.bool true) ∧ Below w.heap.size w w' := by
  go_enter Try.func4, Try.ntmps4
  go_wp2_with fail
  refine (derive_first _).mono ?_
  rintro e w1 ⟨rfl, hb1⟩
  have px : WrAt w1 w.heap.size 0 x := (WrAt_new w _ x).below hb1 (by simp)
  have hz1 : w.heap.size < w1.heap.size := by have := hb1.size; simp at this; omega
  have bl1 : Below w.heap.size w w1 := Below_after ((Below.refl _ _).alloc (Nat.le_refl _) _) hb1
  have hz1a : w.heap.size < w1.heap.size + 1 := by omega
  clear hb1
  have px' := px
  obtain ⟨p1, p2, p3, p4, p5⟩ := px'
  go_wp2_with fail
  go_region_held3 (fun w' => w'.cell? ⟨w.heap.size, 0, none⟩ = some (.int .i64 x.id) ∧ w'.cell? ⟨w.heap.size, 1, none⟩ = some (.int .i64 x.thing) ∧ w'.cell? ⟨w.heap.size, 2, none⟩ = some (.int .i64 x.rights) ∧ w'.cell? ⟨w.heap.size, 3, none⟩ = some (.int .i64 x.badge) ∧ w'.cell? ⟨w.heap.size, 4, none⟩ = some (.int .i64 x.frm)) (go_keep) (first
    | (go_at_call 18; refine (wcheck_ok x _ h).mono ?_; rintro e w2 ⟨rfl, hb2⟩; obtain ⟨hc2, hf2⟩ := bcell hb2; have bl2 : Below w.heap.size w w2 := by { refine Below_after ?_ hb2; (repeat (first | exact bl5 | exact bl4 | exact bl3 | exact bl2 | exact bl1 | refine Below.drew ?_ | refine below_drewN ?_ _ | refine Below.alloc ?_ (by first | omega | (simp; omega)) _)) }; have hz2 : w.heap.size < w2.heap.size := by { have := hb2.size; (try simp at this); omega })
    | (go_at_call 19; refine (writFault_any x _ 0 (.inl ⟨h, rfl⟩)).mono ?_; rintro e w3 ⟨rfl, hb3⟩; obtain ⟨hc3, hf3⟩ := bcell hb3; have bl3 : Below w.heap.size w w3 := by { refine Below_after ?_ hb3; (repeat (first | exact bl5 | exact bl4 | exact bl3 | exact bl2 | exact bl1 | refine Below.drew ?_ | refine below_drewN ?_ _ | refine Below.alloc ?_ (by first | omega | (simp; omega)) _)) }; have hz3 : w.heap.size < w3.heap.size := by { have := hb3.size; (try simp at this); omega })
    | (go_at_call 11; refine (same_nil _).mono ?_; rintro e w' ⟨rfl, hq⟩; obtain rfl := hq.symm)
    | (go_at_call 20; refine (find_any a c l id _ (hw.below ?_) (by omega)).mono ?_; (repeat (first | exact bl5 | exact bl4 | exact bl3 | exact bl2 | exact bl1 | refine Below.drew ?_ | refine below_drewN ?_ _ | refine Below.alloc ?_ (by first | omega | (simp; omega)) _)); rintro e w4 ⟨rfl, hb4⟩; obtain ⟨hc4, hf4⟩ := bcell hb4; have bl4 : Below w.heap.size w w4 := by { refine Below_after ?_ hb4; (repeat (first | exact bl5 | exact bl4 | exact bl3 | exact bl2 | exact bl1 | refine Below.drew ?_ | refine below_drewN ?_ _ | refine Below.alloc ?_ (by first | omega | (simp; omega)) _)) }; have hz4 : w.heap.size < w4.heap.size := by { have := hb4.size; (try simp at this); omega })
    | (go_at_call 21; refine (findWrit_any a c l id _ (hw.below ?_) (by omega)).mono ?_; (repeat (first | exact bl5 | exact bl4 | exact bl3 | exact bl2 | exact bl1 | refine Below.drew ?_ | refine below_drewN ?_ _ | refine Below.alloc ?_ (by first | omega | (simp; omega)) _)); rintro e w' ⟨rfl, hq⟩; obtain rfl := hq.symm))
  rename_i hH
  have qx : WrAt w4 w.heap.size 0 x := hH
  clear hH hc2 hf2 hb2 hc3 hf3 hb3 hc4 hf4 hb4 bl1 bl2 bl3 hz1 hz1a hz2 hz3 px p1 p2 p3 p4 p5
  have qx' := qx
  obtain ⟨p1, p2, p3, p4, p5⟩ := qx'
  go_wp2_with fail
  refine (writFault_any x _ 0 (.inl ⟨h, rfl⟩)).mono ?_
  rintro e w5 ⟨rfl, hb5⟩
  have rx : WrAt w5 w.heap.size 0 x := qx.below hb5 hz4
  have hz5 : w.heap.size < w5.heap.size := Nat.lt_of_lt_of_le hz4 hb5.size
  have bl5 : Below w.heap.size w w5 := Below_after bl4 hb5
  clear hb5 qx p1 p2 p3 p4 p5 bl4 hz4
  have rx' := rx
  obtain ⟨p1, p2, p3, p4, p5⟩ := rx'
  go_wp2_with fail
  refine (derive_ok1 x id rights badge _ h1 hb.out).mono ?_
  rintro e w6 ⟨rfl, hb6⟩
  have sx : WrAt w6 w.heap.size 0 x := rx.below hb6 hz5
  have hz6 : w.heap.size < w6.heap.size := Nat.lt_of_lt_of_le hz5 hb6.size
  have bl6 : Below w.heap.size w w6 := Below_after bl5 hb6
  clear hb6 rx p1 p2 p3 p4 p5 bl5 hz5
  have sx' := sx
  obtain ⟨p1, p2, p3, p4, p5⟩ := sx'
  go_wp2_with fail
  refine (derived_ok1 x id rights badge _ h.2.2.2.2.2.2.2.2.1 h.2.2.2.2.2.2.2.2.2 h1 hb.out).mono ?_
  rintro e w7 ⟨rfl, hb7⟩
  have tz : WrAt w7 w6.heap.size 0 ⟨id, x.thing, rights, x.badge, x.id⟩ := (WrAt_new w6 _ ⟨id, x.thing, rights, x.badge, x.id⟩).below hb7 (by simp)
  have hz7 : w6.heap.size < w7.heap.size := by have := hb7.size; simp at this; omega
  have bl7 : Below w.heap.size w w7 := Below_after (bl6.alloc (Nat.le_of_lt hz6) _) hb7
  clear hb7 sx p1 p2 p3 p4 p5 bl6
  obtain ⟨p1, p2, p3, p4, p5⟩ := tz
  go_wp2_with (go_at_call 11; refine (same_nil _).mono ?_; rintro e w' ⟨rfl, hq⟩; obtain rfl := hq.symm)
  go_ret
  exact ⟨rfl, bl7.alloc (by omega) _⟩
theorem drvCode_pos {x : Wr} {rights badge : Int} (h : drvCode x rights badge ≠ 0) : 0 < drvCode x rights badge := by
  unfold drvCode at h ⊢
  split
  · decide
  · split
    · decide
    · rename_i h1 h2; rw [if_neg h1, if_neg h2] at h; exact absurd rfl h
theorem ws_all (w : World) (x : Wr) (id rights badge : Int) (a : Option Addr) (l : List Wr) (c : Nat) (hw : WrsAt w a l) (hm2 : l.length ≤ maxLen) :
    Calls Try.prog 4 #[.agg #[.int .i64 x.id, .int .i64 x.thing, .int .i64 x.rights, .int .i64 x.badge, .int .i64 x.frm], .int .i64 id, .int .i64 rights, .int .i64 badge, .slice a l.length c] w fun e w' => e = .returned (.bool true) ∧ Below w.heap.size w w' := by
  by_cases hm : 40 < l.length
  · exact ws_long x id rights badge a l c w hm hm2
  · by_cases h : wrOk x
    · by_cases h1 : drvCode x rights badge = 0
      · by_cases hb : x.badge = 0
        · exact ws_ok0 x id rights badge a l c w hw (by omega) h h1 hb
        · exact ws_ok1 x id rights badge a l c w hw (by omega) h h1 hb
      · exact ws_err x id rights badge a l c w hw (by omega) h h1 (drvCode_pos h1)
    · exact ws_bad x id rights badge a l c w hw (by omega) h
end Go.Proofs.Ytnjncemjghmpoaa
