/- The walk of TopShelf over the landed code: every slice of places, all places, every number. -/
import Derived.Test.YtnjncemjghmpoabShelfPure
import Derived.Deep.RegionHeld3
namespace Go.Proofs.Ytnjncemjghmpoab
open Go.RowKit
set_option linter.unusedSimpArgs false
set_option linter.unusedVariables false
/-- two places in two blocks of their own -/
def Pl2 (w : World) (b : Nat) (h s g t : Int) : Prop := w.cell? ⟨b, 0, none⟩ = some (.int .i64 h) ∧ w.cell? ⟨b, 1, none⟩ = some (.int .i64 s) ∧ w.cell? ⟨b + 1, 0, none⟩ = some (.int .i64 g) ∧ w.cell? ⟨b + 1, 1, none⟩ = some (.int .i64 t)
theorem Pl2.below {W w1 : World} (hb : Below W.heap.size W w1) {b : Nat} {h s g t : Int} (hlt : b + 1 < W.heap.size) (hp : Pl2 W b h s g t) : Pl2 w1 b h s g t := by
  obtain ⟨h1, h2, h3, h4⟩ := hp
  have gg := (bcell hb).1
  exact ⟨by rw [gg _ _ (by omega)]; exact h1, by rw [gg _ _ (by omega)]; exact h2, by rw [gg _ _ hlt]; exact h3, by rw [gg _ _ hlt]; exact h4⟩
theorem Pl2_new (w : World) (ty : TypeId) (h s g t : Int) : Pl2 ((w.alloc (.cells #[.int .i64 h, .int .i64 s] ty)).alloc (.cells #[.int .i64 g, .int .i64 t] ty)) w.heap.size h s g t := by
  refine ⟨?_, ?_, ?_, ?_⟩
  · rw [World.cell?_alloc_past _ _ _ (by simp), World.cell?_alloc_new]; rfl
  · rw [World.cell?_alloc_past _ _ _ (by simp), World.cell?_alloc_new]; rfl
  · rw [World.cell?_alloc_at _ _ _ _ (by simp)]; rfl
  · rw [World.cell?_alloc_at _ _ _ _ (by simp)]; rfl

set_option maxHeartbeats 2000000 in
theorem ts_notgood (a : Option Addr) (l : List Hd) (c : Nat) (h s g t id : Int) (w : World) (hw : HdsAt w a l) (hm : l.length ≤ maxLen) (hg : ¬ Good l) :
    Calls Try.prog 6 #[.slice a l.length c, .agg #[.int .i64 h, .int .i64 s], .agg #[.int .i64 g, .int .i64 t], .int .i64 id] w fun e w' => e = .returned (.bool true) ∧ Below w.heap.size w w' := by
  have k1 : atP (putL [] 1 2 5) 1 2 = 5 := by decide
  have k2 : freeP (putL [] 1 2 5) 1 = 0 := by decide
  go_enter Try.func6, Try.ntmps6
  go_wp2_with fail
  refine (put_any none 0 [] 1 2 5 _ (.inl rfl) (by simp)).mono ?_
  rintro e w1 ⟨a1, c1, rfl, at1, hb1⟩
  have pl1 : Pl2 w1 w.heap.size h s g t := (Pl2_new w _ h s g t).below hb1 (by simp)
  have hz1 : w.heap.size + 1 < w1.heap.size := by have := hb1.size; simp at this; omega
  have bl1 : Below w.heap.size w w1 := Below_after (((Below.refl _ _).alloc (Nat.le_refl _) _).alloc (by simp) _) hb1
  clear hb1
  go_wp2_with fail
  refine (at_any a1 c1 (putL [] 1 2 5) 1 2 _ at1 (by decide)).mono ?_
  rintro e w2 ⟨rfl, hb2⟩
  have pl2 := pl1.below hb2 hz1
  have hz2 : w.heap.size + 1 < w2.heap.size := Nat.lt_of_lt_of_le hz1 hb2.size
  have bl2 : Below w.heap.size w w2 := Below_after bl1 hb2
  have at2 := at1.below hb2
  clear hb2 pl1 hz1 bl1 at1
  go_wp2_with fail
  refine (free_any a1 c1 (putL [] 1 2 5) 1 _ at2 (by decide)).mono ?_
  rintro e w3 ⟨rfl, hb3⟩
  have pl3 := pl2.below hb3 hz2
  have hz3 : w.heap.size + 1 < w3.heap.size := Nat.lt_of_lt_of_le hz2 hb3.size
  have bl3 : Below w.heap.size w w3 := Below_after bl2 hb3
  clear hb3 pl2 hz2 bl2 at2
  have pl3' := pl3
  obtain ⟨y0, y1, y2, y3⟩ := pl3'
  go_wp2_with fail
  refine (good_any a c l _ (hw.below bl3) hm).mono ?_
  rintro e w4 ⟨r, rfl, hr, hb4⟩
  have pl4 := pl3.below hb4 hz3
  have hz4 : w.heap.size + 1 < w4.heap.size := Nat.lt_of_lt_of_le hz3 hb4.size
  have bl4 : Below w.heap.size w w4 := Below_after bl3 hb4
  clear hb4 pl3 hz3 bl3 y0 y1 y2 y3
  have pl4' := pl4
  obtain ⟨y0, y1, y2, y3⟩ := pl4'
  have hr0 : r = false := by cases r with | false => rfl | true => exact absurd (hr.1 rfl) hg
  subst hr0
  go_wp2_with fail
  go_ret
  exact ⟨rfl, bl4⟩

set_option maxHeartbeats 2000000 in
theorem ts_badp (a : Option Addr) (l : List Hd) (c : Nat) (h s g t id : Int) (w : World) (hw : HdsAt w a l) (hm : l.length ≤ maxLen) (hg : Good l) (hp : ¬ plOk h s) :
    Calls Try.prog 6 #[.slice a l.length c, .agg #[.int .i64 h, .int .i64 s], .agg #[.int .i64 g, .int .i64 t], .int .i64 id] w fun e w' => e = .returned (.bool true) ∧ Below w.heap.size w w' := by
  have k1 : atP (putL [] 1 2 5) 1 2 = 5 := by decide
  have k2 : freeP (putL [] 1 2 5) 1 = 0 := by decide
  go_enter Try.func6, Try.ntmps6
  go_wp2_with fail
  refine (put_any none 0 [] 1 2 5 _ (.inl rfl) (by simp)).mono ?_
  rintro e w1 ⟨a1, c1, rfl, at1, hb1⟩
  have pl1 : Pl2 w1 w.heap.size h s g t := (Pl2_new w _ h s g t).below hb1 (by simp)
  have hz1 : w.heap.size + 1 < w1.heap.size := by have := hb1.size; simp at this; omega
  have bl1 : Below w.heap.size w w1 := Below_after (((Below.refl _ _).alloc (Nat.le_refl _) _).alloc (by simp) _) hb1
  clear hb1
  go_wp2_with fail
  refine (at_any a1 c1 (putL [] 1 2 5) 1 2 _ at1 (by decide)).mono ?_
  rintro e w2 ⟨rfl, hb2⟩
  have pl2 := pl1.below hb2 hz1
  have hz2 : w.heap.size + 1 < w2.heap.size := Nat.lt_of_lt_of_le hz1 hb2.size
  have bl2 : Below w.heap.size w w2 := Below_after bl1 hb2
  have at2 := at1.below hb2
  clear hb2 pl1 hz1 bl1 at1
  go_wp2_with fail
  refine (free_any a1 c1 (putL [] 1 2 5) 1 _ at2 (by decide)).mono ?_
  rintro e w3 ⟨rfl, hb3⟩
  have pl3 := pl2.below hb3 hz2
  have hz3 : w.heap.size + 1 < w3.heap.size := Nat.lt_of_lt_of_le hz2 hb3.size
  have bl3 : Below w.heap.size w w3 := Below_after bl2 hb3
  clear hb3 pl2 hz2 bl2 at2
  have pl3' := pl3
  obtain ⟨y0, y1, y2, y3⟩ := pl3'
  go_wp2_with fail
  refine (good_any a c l _ (hw.below bl3) hm).mono ?_
  rintro e w4 ⟨r, rfl, hr, hb4⟩
  have pl4 := pl3.below hb4 hz3
  have hz4 : w.heap.size + 1 < w4.heap.size := Nat.lt_of_lt_of_le hz3 hb4.size
  have bl4 : Below w.heap.size w w4 := Below_after bl3 hb4
  clear hb4 pl3 hz3 bl3 y0 y1 y2 y3
  have pl4' := pl4
  obtain ⟨y0, y1, y2, y3⟩ := pl4'
  have hr0 : r = true := hr.2 hg
  subst hr0
  clear hr
  go_wp2_with fail
  refine (scheck_bad h s _ hp).mono ?_
  rintro e w5 ⟨rfl, hb5⟩
  have pl5 := pl4.below hb5 hz4
  have hz5 : w.heap.size + 1 < w5.heap.size := Nat.lt_of_lt_of_le hz4 hb5.size
  have bl5 : Below w.heap.size w w5 := Below_after bl4 hb5
  clear hb5 pl4 hz4 bl4 y0 y1 y2 y3
  go_wp2_with fail
  go_ret
  exact ⟨rfl, bl5⟩

set_option maxHeartbeats 2000000 in
theorem ts_badq (a : Option Addr) (l : List Hd) (c : Nat) (h s g t id : Int) (w : World) (hw : HdsAt w a l) (hm : l.length ≤ maxLen) (hg : Good l) (hp : plOk h s) (hq : ¬ plOk g t) :
    Calls Try.prog 6 #[.slice a l.length c, .agg #[.int .i64 h, .int .i64 s], .agg #[.int .i64 g, .int .i64 t], .int .i64 id] w fun e w' => e = .returned (.bool true) ∧ Below w.heap.size w w' := by
  have k1 : atP (putL [] 1 2 5) 1 2 = 5 := by decide
  have k2 : freeP (putL [] 1 2 5) 1 = 0 := by decide
  go_enter Try.func6, Try.ntmps6
  go_wp2_with fail
  refine (put_any none 0 [] 1 2 5 _ (.inl rfl) (by simp)).mono ?_
  rintro e w1 ⟨a1, c1, rfl, at1, hb1⟩
  have pl1 : Pl2 w1 w.heap.size h s g t := (Pl2_new w _ h s g t).below hb1 (by simp)
  have hz1 : w.heap.size + 1 < w1.heap.size := by have := hb1.size; simp at this; omega
  have bl1 : Below w.heap.size w w1 := Below_after (((Below.refl _ _).alloc (Nat.le_refl _) _).alloc (by simp) _) hb1
  clear hb1
  go_wp2_with fail
  refine (at_any a1 c1 (putL [] 1 2 5) 1 2 _ at1 (by decide)).mono ?_
  rintro e w2 ⟨rfl, hb2⟩
  have pl2 := pl1.below hb2 hz1
  have hz2 : w.heap.size + 1 < w2.heap.size := Nat.lt_of_lt_of_le hz1 hb2.size
  have bl2 : Below w.heap.size w w2 := Below_after bl1 hb2
  have at2 := at1.below hb2
  clear hb2 pl1 hz1 bl1 at1
  go_wp2_with fail
  refine (free_any a1 c1 (putL [] 1 2 5) 1 _ at2 (by decide)).mono ?_
  rintro e w3 ⟨rfl, hb3⟩
  have pl3 := pl2.below hb3 hz2
  have hz3 : w.heap.size + 1 < w3.heap.size := Nat.lt_of_lt_of_le hz2 hb3.size
  have bl3 : Below w.heap.size w w3 := Below_after bl2 hb3
  clear hb3 pl2 hz2 bl2 at2
  have pl3' := pl3
  obtain ⟨y0, y1, y2, y3⟩ := pl3'
  go_wp2_with fail
  refine (good_any a c l _ (hw.below bl3) hm).mono ?_
  rintro e w4 ⟨r, rfl, hr, hb4⟩
  have pl4 := pl3.below hb4 hz3
  have hz4 : w.heap.size + 1 < w4.heap.size := Nat.lt_of_lt_of_le hz3 hb4.size
  have bl4 : Below w.heap.size w w4 := Below_after bl3 hb4
  clear hb4 pl3 hz3 bl3 y0 y1 y2 y3
  have pl4' := pl4
  obtain ⟨y0, y1, y2, y3⟩ := pl4'
  have hr0 : r = true := hr.2 hg
  subst hr0
  clear hr
  go_wp2_with fail
  refine (scheck_ok h s _ hp).mono ?_
  rintro e w5 ⟨rfl, hb5⟩
  have pl5 := pl4.below hb5 hz4
  have hz5 : w.heap.size + 1 < w5.heap.size := Nat.lt_of_lt_of_le hz4 hb5.size
  have bl5 : Below w.heap.size w w5 := Below_after bl4 hb5
  clear hb5 pl4 hz4 bl4 y0 y1 y2 y3
  have pl5' := pl5
  obtain ⟨y0, y1, y2, y3⟩ := pl5'
  go_wp2_with fail
  refine (scheck_bad g t _ hq).mono ?_
  rintro e w6 ⟨rfl, hb6⟩
  have pl6 := pl5.below hb6 hz5
  have hz6 : w.heap.size + 1 < w6.heap.size := Nat.lt_of_lt_of_le hz5 hb6.size
  have bl6 : Below w.heap.size w w6 := Below_after bl5 hb6
  clear hb6 pl5 hz5 bl5 y0 y1 y2 y3
  go_wp2_with fail
  go_ret
  exact ⟨rfl, bl6⟩

set_option maxHeartbeats 2000000 in
theorem ts_A_neg (a : Option Addr) (l : List Hd) (c : Nat) (h s g t id : Int) (w : World) (hw : HdsAt w a l) (hm : l.length ≤ maxLen) (hg : Good l) (hp : plOk h s) (hq : plOk g t) (hd : (g == h) = false) (hoth : atP (putL l h s id) g t = atP l g t) (h1 : freeP l h = -1) (h2 : atP l h s ≠ 0) :
    Calls Try.prog 6 #[.slice a l.length c, .agg #[.int .i64 h, .int .i64 s], .agg #[.int .i64 g, .int .i64 t], .int .i64 id] w fun e w' => e = .returned (.bool true) ∧ Below w.heap.size w w' := by
  have k1 : atP (putL [] 1 2 5) 1 2 = 5 := by decide
  have k2 : freeP (putL [] 1 2 5) 1 = 0 := by decide
  go_enter Try.func6, Try.ntmps6
  go_wp2_with fail
  refine (put_any none 0 [] 1 2 5 _ (.inl rfl) (by simp)).mono ?_
  rintro e w1 ⟨a1, c1, rfl, at1, hb1⟩
  have pl1 : Pl2 w1 w.heap.size h s g t := (Pl2_new w _ h s g t).below hb1 (by simp)
  have hz1 : w.heap.size + 1 < w1.heap.size := by have := hb1.size; simp at this; omega
  have bl1 : Below w.heap.size w w1 := Below_after (((Below.refl _ _).alloc (Nat.le_refl _) _).alloc (by simp) _) hb1
  clear hb1
  go_wp2_with fail
  refine (at_any a1 c1 (putL [] 1 2 5) 1 2 _ at1 (by decide)).mono ?_
  rintro e w2 ⟨rfl, hb2⟩
  have pl2 := pl1.below hb2 hz1
  have hz2 : w.heap.size + 1 < w2.heap.size := Nat.lt_of_lt_of_le hz1 hb2.size
  have bl2 : Below w.heap.size w w2 := Below_after bl1 hb2
  have at2 := at1.below hb2
  clear hb2 pl1 hz1 bl1 at1
  go_wp2_with fail
  refine (free_any a1 c1 (putL [] 1 2 5) 1 _ at2 (by decide)).mono ?_
  rintro e w3 ⟨rfl, hb3⟩
  have pl3 := pl2.below hb3 hz2
  have hz3 : w.heap.size + 1 < w3.heap.size := Nat.lt_of_lt_of_le hz2 hb3.size
  have bl3 : Below w.heap.size w w3 := Below_after bl2 hb3
  clear hb3 pl2 hz2 bl2 at2
  have pl3' := pl3
  obtain ⟨y0, y1, y2, y3⟩ := pl3'
  go_wp2_with fail
  refine (good_any a c l _ (hw.below bl3) hm).mono ?_
  rintro e w4 ⟨r, rfl, hr, hb4⟩
  have pl4 := pl3.below hb4 hz3
  have hz4 : w.heap.size + 1 < w4.heap.size := Nat.lt_of_lt_of_le hz3 hb4.size
  have bl4 : Below w.heap.size w w4 := Below_after bl3 hb4
  clear hb4 pl3 hz3 bl3 y0 y1 y2 y3
  have pl4' := pl4
  obtain ⟨y0, y1, y2, y3⟩ := pl4'
  have hr0 : r = true := hr.2 hg
  subst hr0
  clear hr
  go_wp2_with fail
  refine (scheck_ok h s _ hp).mono ?_
  rintro e w5 ⟨rfl, hb5⟩
  have pl5 := pl4.below hb5 hz4
  have hz5 : w.heap.size + 1 < w5.heap.size := Nat.lt_of_lt_of_le hz4 hb5.size
  have bl5 : Below w.heap.size w w5 := Below_after bl4 hb5
  clear hb5 pl4 hz4 bl4 y0 y1 y2 y3
  have pl5' := pl5
  obtain ⟨y0, y1, y2, y3⟩ := pl5'
  go_wp2_with fail
  refine (scheck_ok g t _ hq).mono ?_
  rintro e w6 ⟨rfl, hb6⟩
  have pl6 := pl5.below hb6 hz5
  have hz6 : w.heap.size + 1 < w6.heap.size := Nat.lt_of_lt_of_le hz5 hb6.size
  have bl6 : Below w.heap.size w w6 := Below_after bl5 hb6
  clear hb6 pl5 hz5 bl5 y0 y1 y2 y3
  have pl6' := pl6
  obtain ⟨y0, y1, y2, y3⟩ := pl6'
  have hl24 := good_len hg
  have hpl := putL_len l h s id
  have gm : Good (putL l h s id) := good_put hg hp
  have am := at_put_same l h s id
  go_wp2_with fail
  refine (put_any a c l h s id _ (hw.below bl6) (by omega)).mono ?_
  rintro e w7 ⟨a7, c7, rfl, at7, hb7⟩
  have pl7 := pl6.below hb7 hz6
  have hz7 : w.heap.size + 1 < w7.heap.size := Nat.lt_of_lt_of_le hz6 hb7.size
  have bl7 : Below w.heap.size w w7 := Below_after bl6 hb7
  clear hb7 pl6 hz6 bl6 y0 y1 y2 y3
  generalize hM : putL l h s id = M at *
  clear hM
  have ao : atP M g t = atP l g t := hoth
  have tokA : True := trivial
  have tokB : True := trivial
  go_wp2_with fail
  go_region_held3 (fun w' => w'.cell? ⟨w.heap.size, 0, none⟩ = some (.int .i64 h) ∧ w'.cell? ⟨w.heap.size, 1, none⟩ = some (.int .i64 s) ∧ w'.cell? ⟨w.heap.size + 1, 0, none⟩ = some (.int .i64 g) ∧ w'.cell? ⟨w.heap.size + 1, 1, none⟩ = some (.int .i64 t)) (first | exact pl20 | exact pl19 | exact pl18 | exact pl17 | exact pl16 | exact pl15 | exact pl14 | exact pl13 | exact pl12 | exact pl11 | exact pl10 | exact pl9 | exact pl8 | exact pl7 | exact pl6 | exact pl5 | exact pl4) (first
    | (go_at_call 19; have _t := tokA; refine (at_any a7 c7 M h s _ (at7.below ?_) (by unfold maxLen; omega)).mono ?_; (repeat (first | exact bb10 | exact bb9 | exact bb8 | exact Below.refl _ _ | refine Below.drew ?_ | refine below_drewN ?_ _)); rintro e w8 ⟨rfl, hb8⟩; have bl8 : Below w.heap.size w w8 := by { refine Below_after ?_ hb8; (repeat (first | exact bl20 | exact bl19 | exact bl18 | exact bl17 | exact bl16 | exact bl15 | exact bl14 | exact bl13 | exact bl12 | exact bl11 | exact bl10 | exact bl9 | exact bl8 | exact bl7 | exact bl6 | exact bl5 | exact bl4 | refine Below.drew ?_ | refine below_drewN ?_ _)) }; have pl8 : Pl2 w8 w.heap.size h s g t := Pl2.below hb8 (by first | exact hz20 | exact hz19 | exact hz18 | exact hz17 | exact hz16 | exact hz15 | exact hz14 | exact hz13 | exact hz12 | exact hz11 | exact hz10 | exact hz9 | exact hz8 | exact hz7 | exact hz6 | exact hz5 | exact hz4) (by first | exact pl20 | exact pl19 | exact pl18 | exact pl17 | exact pl16 | exact pl15 | exact pl14 | exact pl13 | exact pl12 | exact pl11 | exact pl10 | exact pl9 | exact pl8 | exact pl7 | exact pl6 | exact pl5 | exact pl4); have hz8 : w.heap.size + 1 < w8.heap.size := by { have := hb8.size; (try simp at this); omega }; have bb8 : Below w7.heap.size w7 w8 := by { refine Below_after ?_ hb8; (repeat (first | exact bb10 | exact bb9 | exact bb8 | exact Below.refl _ _ | refine Below.drew ?_ | refine below_drewN ?_ _)) }; clear tokA)
    | (go_at_call 19; have _t := tokB; refine (at_any a7 c7 M g t _ (at7.below ?_) (by unfold maxLen; omega)).mono ?_; (repeat (first | exact bb10 | exact bb9 | exact bb8 | exact Below.refl _ _ | refine Below.drew ?_ | refine below_drewN ?_ _)); rintro e w9 ⟨rfl, hb9⟩; have bl9 : Below w.heap.size w w9 := by { refine Below_after ?_ hb9; (repeat (first | exact bl20 | exact bl19 | exact bl18 | exact bl17 | exact bl16 | exact bl15 | exact bl14 | exact bl13 | exact bl12 | exact bl11 | exact bl10 | exact bl9 | exact bl8 | exact bl7 | exact bl6 | exact bl5 | exact bl4 | refine Below.drew ?_ | refine below_drewN ?_ _)) }; have pl9 : Pl2 w9 w.heap.size h s g t := Pl2.below hb9 (by first | exact hz20 | exact hz19 | exact hz18 | exact hz17 | exact hz16 | exact hz15 | exact hz14 | exact hz13 | exact hz12 | exact hz11 | exact hz10 | exact hz9 | exact hz8 | exact hz7 | exact hz6 | exact hz5 | exact hz4) (by first | exact pl20 | exact pl19 | exact pl18 | exact pl17 | exact pl16 | exact pl15 | exact pl14 | exact pl13 | exact pl12 | exact pl11 | exact pl10 | exact pl9 | exact pl8 | exact pl7 | exact pl6 | exact pl5 | exact pl4); have hz9 : w.heap.size + 1 < w9.heap.size := by { have := hb9.size; (try simp at this); omega }; have bb9 : Below w7.heap.size w7 w9 := by { refine Below_after ?_ hb9; (repeat (first | exact bb10 | exact bb9 | exact bb8 | exact Below.refl _ _ | refine Below.drew ?_ | refine below_drewN ?_ _)) }; clear tokB)
    | (go_at_call 19; refine (at_any a c l g t _ (hw.below ?_) (by unfold maxLen; omega)).mono ?_; (repeat (first | exact bl20 | exact bl19 | exact bl18 | exact bl17 | exact bl16 | exact bl15 | exact bl14 | exact bl13 | exact bl12 | exact bl11 | exact bl10 | exact bl9 | exact bl8 | exact bl7 | exact bl6 | exact bl5 | exact bl4 | refine Below.drew ?_ | refine below_drewN ?_ _)); rintro e w10 ⟨rfl, hb10⟩; have bl10 : Below w.heap.size w w10 := by { refine Below_after ?_ hb10; (repeat (first | exact bl20 | exact bl19 | exact bl18 | exact bl17 | exact bl16 | exact bl15 | exact bl14 | exact bl13 | exact bl12 | exact bl11 | exact bl10 | exact bl9 | exact bl8 | exact bl7 | exact bl6 | exact bl5 | exact bl4 | refine Below.drew ?_ | refine below_drewN ?_ _)) }; have pl10 : Pl2 w10 w.heap.size h s g t := Pl2.below hb10 (by first | exact hz20 | exact hz19 | exact hz18 | exact hz17 | exact hz16 | exact hz15 | exact hz14 | exact hz13 | exact hz12 | exact hz11 | exact hz10 | exact hz9 | exact hz8 | exact hz7 | exact hz6 | exact hz5 | exact hz4) (by first | exact pl20 | exact pl19 | exact pl18 | exact pl17 | exact pl16 | exact pl15 | exact pl14 | exact pl13 | exact pl12 | exact pl11 | exact pl10 | exact pl9 | exact pl8 | exact pl7 | exact pl6 | exact pl5 | exact pl4); have hz10 : w.heap.size + 1 < w10.heap.size := by { have := hb10.size; (try simp at this); omega }; have bb10 : Below w7.heap.size w7 w10 := by { refine Below_after ?_ hb10; (repeat (first | exact bb10 | exact bb9 | exact bb8 | exact Below.refl _ _ | refine Below.drew ?_ | refine below_drewN ?_ _)) })
    | (go_at_call 21; refine (good_any a7 c7 M _ (at7.below ?_) (by unfold maxLen; omega)).mono ?_; (repeat (first | exact bb10 | exact bb9 | exact bb8 | exact Below.refl _ _ | refine Below.drew ?_ | refine below_drewN ?_ _)); rintro e w11 ⟨r2, rfl, hr2, hb11⟩; obtain rfl := hr2.2 gm; clear hr2; have bl11 : Below w.heap.size w w11 := by { refine Below_after ?_ hb11; (repeat (first | exact bl20 | exact bl19 | exact bl18 | exact bl17 | exact bl16 | exact bl15 | exact bl14 | exact bl13 | exact bl12 | exact bl11 | exact bl10 | exact bl9 | exact bl8 | exact bl7 | exact bl6 | exact bl5 | exact bl4 | refine Below.drew ?_ | refine below_drewN ?_ _)) }; have pl11 : Pl2 w11 w.heap.size h s g t := Pl2.below hb11 (by first | exact hz20 | exact hz19 | exact hz18 | exact hz17 | exact hz16 | exact hz15 | exact hz14 | exact hz13 | exact hz12 | exact hz11 | exact hz10 | exact hz9 | exact hz8 | exact hz7 | exact hz6 | exact hz5 | exact hz4) (by first | exact pl20 | exact pl19 | exact pl18 | exact pl17 | exact pl16 | exact pl15 | exact pl14 | exact pl13 | exact pl12 | exact pl11 | exact pl10 | exact pl9 | exact pl8 | exact pl7 | exact pl6 | exact pl5 | exact pl4); have hz11 : w.heap.size + 1 < w11.heap.size := by { have := hb11.size; (try simp at this); omega }))
  clear hb8 hb9 hb10 hb11 bb8 bb9 bb10 bl7 bl8 bl9 bl10 pl7 pl8 pl9 pl10 hz7 hz8 hz9 hz10 at7
  have pl11' := pl11
  obtain ⟨y0, y1, y2, y3⟩ := pl11'
  go_wp2_with fail
  refine (free_any a c l h _ (hw.below bl11) (by unfold maxLen; omega)).mono ?_
  rintro e w12 ⟨rfl, hb12⟩
  have pl12 := pl11.below hb12 hz11
  have hz12 : w.heap.size + 1 < w12.heap.size := Nat.lt_of_lt_of_le hz11 hb12.size
  have bl12 : Below w.heap.size w w12 := Below_after bl11 hb12
  clear hb12 pl11 hz11 bl11 y0 y1 y2 y3
  have pl12' := pl12
  obtain ⟨y0, y1, y2, y3⟩ := pl12'
  go_wp2_with fail
  refine (at_any a c l h s _ (hw.below bl12) (by unfold maxLen; omega)).mono ?_
  rintro e w13 ⟨rfl, hb13⟩
  have pl13 := pl12.below hb13 hz12
  have hz13 : w.heap.size + 1 < w13.heap.size := Nat.lt_of_lt_of_le hz12 hb13.size
  have bl13 : Below w.heap.size w w13 := Below_after bl12 hb13
  clear hb13 pl12 hz12 bl12 y0 y1 y2 y3
  go_wp2_with fail
  go_ret
  exact ⟨retBool (by simp [h2]), bl13⟩

set_option maxHeartbeats 2000000 in
theorem ts_A_ge (a : Option Addr) (l : List Hd) (c : Nat) (h s g t id : Int) (w : World) (hw : HdsAt w a l) (hm : l.length ≤ maxLen) (hg : Good l) (hp : plOk h s) (hq : plOk g t) (hd : (g == h) = false) (hoth : atP (putL l h s id) g t = atP l g t) (k : Nat) (hk5 : k ≤ 5) (h1 : freeP l h = (k : Int)) (h3 : atP l h k = 0) (hsk : (k : Int) ≤ s) :
    Calls Try.prog 6 #[.slice a l.length c, .agg #[.int .i64 h, .int .i64 s], .agg #[.int .i64 g, .int .i64 t], .int .i64 id] w fun e w' => e = .returned (.bool true) ∧ Below w.heap.size w w' := by
  have k1 : atP (putL [] 1 2 5) 1 2 = 5 := by decide
  have k2 : freeP (putL [] 1 2 5) 1 = 0 := by decide
  go_enter Try.func6, Try.ntmps6
  go_wp2_with fail
  refine (put_any none 0 [] 1 2 5 _ (.inl rfl) (by simp)).mono ?_
  rintro e w1 ⟨a1, c1, rfl, at1, hb1⟩
  have pl1 : Pl2 w1 w.heap.size h s g t := (Pl2_new w _ h s g t).below hb1 (by simp)
  have hz1 : w.heap.size + 1 < w1.heap.size := by have := hb1.size; simp at this; omega
  have bl1 : Below w.heap.size w w1 := Below_after (((Below.refl _ _).alloc (Nat.le_refl _) _).alloc (by simp) _) hb1
  clear hb1
  go_wp2_with fail
  refine (at_any a1 c1 (putL [] 1 2 5) 1 2 _ at1 (by decide)).mono ?_
  rintro e w2 ⟨rfl, hb2⟩
  have pl2 := pl1.below hb2 hz1
  have hz2 : w.heap.size + 1 < w2.heap.size := Nat.lt_of_lt_of_le hz1 hb2.size
  have bl2 : Below w.heap.size w w2 := Below_after bl1 hb2
  have at2 := at1.below hb2
  clear hb2 pl1 hz1 bl1 at1
  go_wp2_with fail
  refine (free_any a1 c1 (putL [] 1 2 5) 1 _ at2 (by decide)).mono ?_
  rintro e w3 ⟨rfl, hb3⟩
  have pl3 := pl2.below hb3 hz2
  have hz3 : w.heap.size + 1 < w3.heap.size := Nat.lt_of_lt_of_le hz2 hb3.size
  have bl3 : Below w.heap.size w w3 := Below_after bl2 hb3
  clear hb3 pl2 hz2 bl2 at2
  have pl3' := pl3
  obtain ⟨y0, y1, y2, y3⟩ := pl3'
  go_wp2_with fail
  refine (good_any a c l _ (hw.below bl3) hm).mono ?_
  rintro e w4 ⟨r, rfl, hr, hb4⟩
  have pl4 := pl3.below hb4 hz3
  have hz4 : w.heap.size + 1 < w4.heap.size := Nat.lt_of_lt_of_le hz3 hb4.size
  have bl4 : Below w.heap.size w w4 := Below_after bl3 hb4
  clear hb4 pl3 hz3 bl3 y0 y1 y2 y3
  have pl4' := pl4
  obtain ⟨y0, y1, y2, y3⟩ := pl4'
  have hr0 : r = true := hr.2 hg
  subst hr0
  clear hr
  go_wp2_with fail
  refine (scheck_ok h s _ hp).mono ?_
  rintro e w5 ⟨rfl, hb5⟩
  have pl5 := pl4.below hb5 hz4
  have hz5 : w.heap.size + 1 < w5.heap.size := Nat.lt_of_lt_of_le hz4 hb5.size
  have bl5 : Below w.heap.size w w5 := Below_after bl4 hb5
  clear hb5 pl4 hz4 bl4 y0 y1 y2 y3
  have pl5' := pl5
  obtain ⟨y0, y1, y2, y3⟩ := pl5'
  go_wp2_with fail
  refine (scheck_ok g t _ hq).mono ?_
  rintro e w6 ⟨rfl, hb6⟩
  have pl6 := pl5.below hb6 hz5
  have hz6 : w.heap.size + 1 < w6.heap.size := Nat.lt_of_lt_of_le hz5 hb6.size
  have bl6 : Below w.heap.size w w6 := Below_after bl5 hb6
  clear hb6 pl5 hz5 bl5 y0 y1 y2 y3
  have pl6' := pl6
  obtain ⟨y0, y1, y2, y3⟩ := pl6'
  have hl24 := good_len hg
  have hpl := putL_len l h s id
  have gm : Good (putL l h s id) := good_put hg hp
  have am := at_put_same l h s id
  go_wp2_with fail
  refine (put_any a c l h s id _ (hw.below bl6) (by omega)).mono ?_
  rintro e w7 ⟨a7, c7, rfl, at7, hb7⟩
  have pl7 := pl6.below hb7 hz6
  have hz7 : w.heap.size + 1 < w7.heap.size := Nat.lt_of_lt_of_le hz6 hb7.size
  have bl7 : Below w.heap.size w w7 := Below_after bl6 hb7
  clear hb7 pl6 hz6 bl6 y0 y1 y2 y3
  generalize hM : putL l h s id = M at *
  clear hM
  have ao : atP M g t = atP l g t := hoth
  have tokA : True := trivial
  have tokB : True := trivial
  go_wp2_with fail
  go_region_held3 (fun w' => w'.cell? ⟨w.heap.size, 0, none⟩ = some (.int .i64 h) ∧ w'.cell? ⟨w.heap.size, 1, none⟩ = some (.int .i64 s) ∧ w'.cell? ⟨w.heap.size + 1, 0, none⟩ = some (.int .i64 g) ∧ w'.cell? ⟨w.heap.size + 1, 1, none⟩ = some (.int .i64 t)) (first | exact pl20 | exact pl19 | exact pl18 | exact pl17 | exact pl16 | exact pl15 | exact pl14 | exact pl13 | exact pl12 | exact pl11 | exact pl10 | exact pl9 | exact pl8 | exact pl7 | exact pl6 | exact pl5 | exact pl4) (first
    | (go_at_call 19; have _t := tokA; refine (at_any a7 c7 M h s _ (at7.below ?_) (by unfold maxLen; omega)).mono ?_; (repeat (first | exact bb10 | exact bb9 | exact bb8 | exact Below.refl _ _ | refine Below.drew ?_ | refine below_drewN ?_ _)); rintro e w8 ⟨rfl, hb8⟩; have bl8 : Below w.heap.size w w8 := by { refine Below_after ?_ hb8; (repeat (first | exact bl20 | exact bl19 | exact bl18 | exact bl17 | exact bl16 | exact bl15 | exact bl14 | exact bl13 | exact bl12 | exact bl11 | exact bl10 | exact bl9 | exact bl8 | exact bl7 | exact bl6 | exact bl5 | exact bl4 | refine Below.drew ?_ | refine below_drewN ?_ _)) }; have pl8 : Pl2 w8 w.heap.size h s g t := Pl2.below hb8 (by first | exact hz20 | exact hz19 | exact hz18 | exact hz17 | exact hz16 | exact hz15 | exact hz14 | exact hz13 | exact hz12 | exact hz11 | exact hz10 | exact hz9 | exact hz8 | exact hz7 | exact hz6 | exact hz5 | exact hz4) (by first | exact pl20 | exact pl19 | exact pl18 | exact pl17 | exact pl16 | exact pl15 | exact pl14 | exact pl13 | exact pl12 | exact pl11 | exact pl10 | exact pl9 | exact pl8 | exact pl7 | exact pl6 | exact pl5 | exact pl4); have hz8 : w.heap.size + 1 < w8.heap.size := by { have := hb8.size; (try simp at this); omega }; have bb8 : Below w7.heap.size w7 w8 := by { refine Below_after ?_ hb8; (repeat (first | exact bb10 | exact bb9 | exact bb8 | exact Below.refl _ _ | refine Below.drew ?_ | refine below_drewN ?_ _)) }; clear tokA)
    | (go_at_call 19; have _t := tokB; refine (at_any a7 c7 M g t _ (at7.below ?_) (by unfold maxLen; omega)).mono ?_; (repeat (first | exact bb10 | exact bb9 | exact bb8 | exact Below.refl _ _ | refine Below.drew ?_ | refine below_drewN ?_ _)); rintro e w9 ⟨rfl, hb9⟩; have bl9 : Below w.heap.size w w9 := by { refine Below_after ?_ hb9; (repeat (first | exact bl20 | exact bl19 | exact bl18 | exact bl17 | exact bl16 | exact bl15 | exact bl14 | exact bl13 | exact bl12 | exact bl11 | exact bl10 | exact bl9 | exact bl8 | exact bl7 | exact bl6 | exact bl5 | exact bl4 | refine Below.drew ?_ | refine below_drewN ?_ _)) }; have pl9 : Pl2 w9 w.heap.size h s g t := Pl2.below hb9 (by first | exact hz20 | exact hz19 | exact hz18 | exact hz17 | exact hz16 | exact hz15 | exact hz14 | exact hz13 | exact hz12 | exact hz11 | exact hz10 | exact hz9 | exact hz8 | exact hz7 | exact hz6 | exact hz5 | exact hz4) (by first | exact pl20 | exact pl19 | exact pl18 | exact pl17 | exact pl16 | exact pl15 | exact pl14 | exact pl13 | exact pl12 | exact pl11 | exact pl10 | exact pl9 | exact pl8 | exact pl7 | exact pl6 | exact pl5 | exact pl4); have hz9 : w.heap.size + 1 < w9.heap.size := by { have := hb9.size; (try simp at this); omega }; have bb9 : Below w7.heap.size w7 w9 := by { refine Below_after ?_ hb9; (repeat (first | exact bb10 | exact bb9 | exact bb8 | exact Below.refl _ _ | refine Below.drew ?_ | refine below_drewN ?_ _)) }; clear tokB)
    | (go_at_call 19; refine (at_any a c l g t _ (hw.below ?_) (by unfold maxLen; omega)).mono ?_; (repeat (first | exact bl20 | exact bl19 | exact bl18 | exact bl17 | exact bl16 | exact bl15 | exact bl14 | exact bl13 | exact bl12 | exact bl11 | exact bl10 | exact bl9 | exact bl8 | exact bl7 | exact bl6 | exact bl5 | exact bl4 | refine Below.drew ?_ | refine below_drewN ?_ _)); rintro e w10 ⟨rfl, hb10⟩; have bl10 : Below w.heap.size w w10 := by { refine Below_after ?_ hb10; (repeat (first | exact bl20 | exact bl19 | exact bl18 | exact bl17 | exact bl16 | exact bl15 | exact bl14 | exact bl13 | exact bl12 | exact bl11 | exact bl10 | exact bl9 | exact bl8 | exact bl7 | exact bl6 | exact bl5 | exact bl4 | refine Below.drew ?_ | refine below_drewN ?_ _)) }; have pl10 : Pl2 w10 w.heap.size h s g t := Pl2.below hb10 (by first | exact hz20 | exact hz19 | exact hz18 | exact hz17 | exact hz16 | exact hz15 | exact hz14 | exact hz13 | exact hz12 | exact hz11 | exact hz10 | exact hz9 | exact hz8 | exact hz7 | exact hz6 | exact hz5 | exact hz4) (by first | exact pl20 | exact pl19 | exact pl18 | exact pl17 | exact pl16 | exact pl15 | exact pl14 | exact pl13 | exact pl12 | exact pl11 | exact pl10 | exact pl9 | exact pl8 | exact pl7 | exact pl6 | exact pl5 | exact pl4); have hz10 : w.heap.size + 1 < w10.heap.size := by { have := hb10.size; (try simp at this); omega }; have bb10 : Below w7.heap.size w7 w10 := by { refine Below_after ?_ hb10; (repeat (first | exact bb10 | exact bb9 | exact bb8 | exact Below.refl _ _ | refine Below.drew ?_ | refine below_drewN ?_ _)) })
    | (go_at_call 21; refine (good_any a7 c7 M _ (at7.below ?_) (by unfold maxLen; omega)).mono ?_; (repeat (first | exact bb10 | exact bb9 | exact bb8 | exact Below.refl _ _ | refine Below.drew ?_ | refine below_drewN ?_ _)); rintro e w11 ⟨r2, rfl, hr2, hb11⟩; obtain rfl := hr2.2 gm; clear hr2; have bl11 : Below w.heap.size w w11 := by { refine Below_after ?_ hb11; (repeat (first | exact bl20 | exact bl19 | exact bl18 | exact bl17 | exact bl16 | exact bl15 | exact bl14 | exact bl13 | exact bl12 | exact bl11 | exact bl10 | exact bl9 | exact bl8 | exact bl7 | exact bl6 | exact bl5 | exact bl4 | refine Below.drew ?_ | refine below_drewN ?_ _)) }; have pl11 : Pl2 w11 w.heap.size h s g t := Pl2.below hb11 (by first | exact hz20 | exact hz19 | exact hz18 | exact hz17 | exact hz16 | exact hz15 | exact hz14 | exact hz13 | exact hz12 | exact hz11 | exact hz10 | exact hz9 | exact hz8 | exact hz7 | exact hz6 | exact hz5 | exact hz4) (by first | exact pl20 | exact pl19 | exact pl18 | exact pl17 | exact pl16 | exact pl15 | exact pl14 | exact pl13 | exact pl12 | exact pl11 | exact pl10 | exact pl9 | exact pl8 | exact pl7 | exact pl6 | exact pl5 | exact pl4); have hz11 : w.heap.size + 1 < w11.heap.size := by { have := hb11.size; (try simp at this); omega }))
  clear hb8 hb9 hb10 hb11 bb8 bb9 bb10 bl7 bl8 bl9 bl10 pl7 pl8 pl9 pl10 hz7 hz8 hz9 hz10 at7
  have pl11' := pl11
  obtain ⟨y0, y1, y2, y3⟩ := pl11'
  go_wp2_with fail
  refine (free_any a c l h _ (hw.below bl11) (by unfold maxLen; omega)).mono ?_
  rintro e w12 ⟨rfl, hb12⟩
  have pl12 := pl11.below hb12 hz11
  have hz12 : w.heap.size + 1 < w12.heap.size := Nat.lt_of_lt_of_le hz11 hb12.size
  have bl12 : Below w.heap.size w w12 := Below_after bl11 hb12
  clear hb12 pl11 hz11 bl11 y0 y1 y2 y3
  have pl12' := pl12
  obtain ⟨y0, y1, y2, y3⟩ := pl12'
  go_wp2_with fail
  refine (at_any a c l h k _ (hw.below bl12) (by unfold maxLen; omega)).mono ?_
  rintro e w13 ⟨rfl, hb13⟩
  have pl13 := pl12.below hb13 hz12
  have hz13 : w.heap.size + 1 < w13.heap.size := Nat.lt_of_lt_of_le hz12 hb13.size
  have bl13 : Below w.heap.size w w13 := Below_after bl12 hb13
  clear hb13 pl12 hz12 bl12 y0 y1 y2 y3
  have pl13' := pl13
  obtain ⟨y0, y1, y2, y3⟩ := pl13'
  go_wp2_with fail
  go_ret
  exact ⟨rfl, bl13⟩

set_option maxHeartbeats 2000000 in
theorem ts_A_lt (a : Option Addr) (l : List Hd) (c : Nat) (h s g t id : Int) (w : World) (hw : HdsAt w a l) (hm : l.length ≤ maxLen) (hg : Good l) (hp : plOk h s) (hq : plOk g t) (hd : (g == h) = false) (hoth : atP (putL l h s id) g t = atP l g t) (k : Nat) (hk5 : k ≤ 5) (h1 : freeP l h = (k : Int)) (h3 : atP l h k = 0) (hsk : ¬ (k : Int) ≤ s) (h2 : atP l h s ≠ 0) :
    Calls Try.prog 6 #[.slice a l.length c, .agg #[.int .i64 h, .int .i64 s], .agg #[.int .i64 g, .int .i64 t], .int .i64 id] w fun e w' => e = .returned (.bool true) ∧ Below w.heap.size w w' := by
  have k1 : atP (putL [] 1 2 5) 1 2 = 5 := by decide
  have k2 : freeP (putL [] 1 2 5) 1 = 0 := by decide
  go_enter Try.func6, Try.ntmps6
  go_wp2_with fail
  refine (put_any none 0 [] 1 2 5 _ (.inl rfl) (by simp)).mono ?_
  rintro e w1 ⟨a1, c1, rfl, at1, hb1⟩
  have pl1 : Pl2 w1 w.heap.size h s g t := (Pl2_new w _ h s g t).below hb1 (by simp)
  have hz1 : w.heap.size + 1 < w1.heap.size := by have := hb1.size; simp at this; omega
  have bl1 : Below w.heap.size w w1 := Below_after (((Below.refl _ _).alloc (Nat.le_refl _) _).alloc (by simp) _) hb1
  clear hb1
  go_wp2_with fail
  refine (at_any a1 c1 (putL [] 1 2 5) 1 2 _ at1 (by decide)).mono ?_
  rintro e w2 ⟨rfl, hb2⟩
  have pl2 := pl1.below hb2 hz1
  have hz2 : w.heap.size + 1 < w2.heap.size := Nat.lt_of_lt_of_le hz1 hb2.size
  have bl2 : Below w.heap.size w w2 := Below_after bl1 hb2
  have at2 := at1.below hb2
  clear hb2 pl1 hz1 bl1 at1
  go_wp2_with fail
  refine (free_any a1 c1 (putL [] 1 2 5) 1 _ at2 (by decide)).mono ?_
  rintro e w3 ⟨rfl, hb3⟩
  have pl3 := pl2.below hb3 hz2
  have hz3 : w.heap.size + 1 < w3.heap.size := Nat.lt_of_lt_of_le hz2 hb3.size
  have bl3 : Below w.heap.size w w3 := Below_after bl2 hb3
  clear hb3 pl2 hz2 bl2 at2
  have pl3' := pl3
  obtain ⟨y0, y1, y2, y3⟩ := pl3'
  go_wp2_with fail
  refine (good_any a c l _ (hw.below bl3) hm).mono ?_
  rintro e w4 ⟨r, rfl, hr, hb4⟩
  have pl4 := pl3.below hb4 hz3
  have hz4 : w.heap.size + 1 < w4.heap.size := Nat.lt_of_lt_of_le hz3 hb4.size
  have bl4 : Below w.heap.size w w4 := Below_after bl3 hb4
  clear hb4 pl3 hz3 bl3 y0 y1 y2 y3
  have pl4' := pl4
  obtain ⟨y0, y1, y2, y3⟩ := pl4'
  have hr0 : r = true := hr.2 hg
  subst hr0
  clear hr
  go_wp2_with fail
  refine (scheck_ok h s _ hp).mono ?_
  rintro e w5 ⟨rfl, hb5⟩
  have pl5 := pl4.below hb5 hz4
  have hz5 : w.heap.size + 1 < w5.heap.size := Nat.lt_of_lt_of_le hz4 hb5.size
  have bl5 : Below w.heap.size w w5 := Below_after bl4 hb5
  clear hb5 pl4 hz4 bl4 y0 y1 y2 y3
  have pl5' := pl5
  obtain ⟨y0, y1, y2, y3⟩ := pl5'
  go_wp2_with fail
  refine (scheck_ok g t _ hq).mono ?_
  rintro e w6 ⟨rfl, hb6⟩
  have pl6 := pl5.below hb6 hz5
  have hz6 : w.heap.size + 1 < w6.heap.size := Nat.lt_of_lt_of_le hz5 hb6.size
  have bl6 : Below w.heap.size w w6 := Below_after bl5 hb6
  clear hb6 pl5 hz5 bl5 y0 y1 y2 y3
  have pl6' := pl6
  obtain ⟨y0, y1, y2, y3⟩ := pl6'
  have hl24 := good_len hg
  have hpl := putL_len l h s id
  have gm : Good (putL l h s id) := good_put hg hp
  have am := at_put_same l h s id
  go_wp2_with fail
  refine (put_any a c l h s id _ (hw.below bl6) (by omega)).mono ?_
  rintro e w7 ⟨a7, c7, rfl, at7, hb7⟩
  have pl7 := pl6.below hb7 hz6
  have hz7 : w.heap.size + 1 < w7.heap.size := Nat.lt_of_lt_of_le hz6 hb7.size
  have bl7 : Below w.heap.size w w7 := Below_after bl6 hb7
  clear hb7 pl6 hz6 bl6 y0 y1 y2 y3
  generalize hM : putL l h s id = M at *
  clear hM
  have ao : atP M g t = atP l g t := hoth
  have tokA : True := trivial
  have tokB : True := trivial
  go_wp2_with fail
  go_region_held3 (fun w' => w'.cell? ⟨w.heap.size, 0, none⟩ = some (.int .i64 h) ∧ w'.cell? ⟨w.heap.size, 1, none⟩ = some (.int .i64 s) ∧ w'.cell? ⟨w.heap.size + 1, 0, none⟩ = some (.int .i64 g) ∧ w'.cell? ⟨w.heap.size + 1, 1, none⟩ = some (.int .i64 t)) (first | exact pl20 | exact pl19 | exact pl18 | exact pl17 | exact pl16 | exact pl15 | exact pl14 | exact pl13 | exact pl12 | exact pl11 | exact pl10 | exact pl9 | exact pl8 | exact pl7 | exact pl6 | exact pl5 | exact pl4) (first
    | (go_at_call 19; have _t := tokA; refine (at_any a7 c7 M h s _ (at7.below ?_) (by unfold maxLen; omega)).mono ?_; (repeat (first | exact bb10 | exact bb9 | exact bb8 | exact Below.refl _ _ | refine Below.drew ?_ | refine below_drewN ?_ _)); rintro e w8 ⟨rfl, hb8⟩; have bl8 : Below w.heap.size w w8 := by { refine Below_after ?_ hb8; (repeat (first | exact bl20 | exact bl19 | exact bl18 | exact bl17 | exact bl16 | exact bl15 | exact bl14 | exact bl13 | exact bl12 | exact bl11 | exact bl10 | exact bl9 | exact bl8 | exact bl7 | exact bl6 | exact bl5 | exact bl4 | refine Below.drew ?_ | refine below_drewN ?_ _)) }; have pl8 : Pl2 w8 w.heap.size h s g t := Pl2.below hb8 (by first | exact hz20 | exact hz19 | exact hz18 | exact hz17 | exact hz16 | exact hz15 | exact hz14 | exact hz13 | exact hz12 | exact hz11 | exact hz10 | exact hz9 | exact hz8 | exact hz7 | exact hz6 | exact hz5 | exact hz4) (by first | exact pl20 | exact pl19 | exact pl18 | exact pl17 | exact pl16 | exact pl15 | exact pl14 | exact pl13 | exact pl12 | exact pl11 | exact pl10 | exact pl9 | exact pl8 | exact pl7 | exact pl6 | exact pl5 | exact pl4); have hz8 : w.heap.size + 1 < w8.heap.size := by { have := hb8.size; (try simp at this); omega }; have bb8 : Below w7.heap.size w7 w8 := by { refine Below_after ?_ hb8; (repeat (first | exact bb10 | exact bb9 | exact bb8 | exact Below.refl _ _ | refine Below.drew ?_ | refine below_drewN ?_ _)) }; clear tokA)
    | (go_at_call 19; have _t := tokB; refine (at_any a7 c7 M g t _ (at7.below ?_) (by unfold maxLen; omega)).mono ?_; (repeat (first | exact bb10 | exact bb9 | exact bb8 | exact Below.refl _ _ | refine Below.drew ?_ | refine below_drewN ?_ _)); rintro e w9 ⟨rfl, hb9⟩; have bl9 : Below w.heap.size w w9 := by { refine Below_after ?_ hb9; (repeat (first | exact bl20 | exact bl19 | exact bl18 | exact bl17 | exact bl16 | exact bl15 | exact bl14 | exact bl13 | exact bl12 | exact bl11 | exact bl10 | exact bl9 | exact bl8 | exact bl7 | exact bl6 | exact bl5 | exact bl4 | refine Below.drew ?_ | refine below_drewN ?_ _)) }; have pl9 : Pl2 w9 w.heap.size h s g t := Pl2.below hb9 (by first | exact hz20 | exact hz19 | exact hz18 | exact hz17 | exact hz16 | exact hz15 | exact hz14 | exact hz13 | exact hz12 | exact hz11 | exact hz10 | exact hz9 | exact hz8 | exact hz7 | exact hz6 | exact hz5 | exact hz4) (by first | exact pl20 | exact pl19 | exact pl18 | exact pl17 | exact pl16 | exact pl15 | exact pl14 | exact pl13 | exact pl12 | exact pl11 | exact pl10 | exact pl9 | exact pl8 | exact pl7 | exact pl6 | exact pl5 | exact pl4); have hz9 : w.heap.size + 1 < w9.heap.size := by { have := hb9.size; (try simp at this); omega }; have bb9 : Below w7.heap.size w7 w9 := by { refine Below_after ?_ hb9; (repeat (first | exact bb10 | exact bb9 | exact bb8 | exact Below.refl _ _ | refine Below.drew ?_ | refine below_drewN ?_ _)) }; clear tokB)
    | (go_at_call 19; refine (at_any a c l g t _ (hw.below ?_) (by unfold maxLen; omega)).mono ?_; (repeat (first | exact bl20 | exact bl19 | exact bl18 | exact bl17 | exact bl16 | exact bl15 | exact bl14 | exact bl13 | exact bl12 | exact bl11 | exact bl10 | exact bl9 | exact bl8 | exact bl7 | exact bl6 | exact bl5 | exact bl4 | refine Below.drew ?_ | refine below_drewN ?_ _)); rintro e w10 ⟨rfl, hb10⟩; have bl10 : Below w.heap.size w w10 := by { refine Below_after ?_ hb10; (repeat (first | exact bl20 | exact bl19 | exact bl18 | exact bl17 | exact bl16 | exact bl15 | exact bl14 | exact bl13 | exact bl12 | exact bl11 | exact bl10 | exact bl9 | exact bl8 | exact bl7 | exact bl6 | exact bl5 | exact bl4 | refine Below.drew ?_ | refine below_drewN ?_ _)) }; have pl10 : Pl2 w10 w.heap.size h s g t := Pl2.below hb10 (by first | exact hz20 | exact hz19 | exact hz18 | exact hz17 | exact hz16 | exact hz15 | exact hz14 | exact hz13 | exact hz12 | exact hz11 | exact hz10 | exact hz9 | exact hz8 | exact hz7 | exact hz6 | exact hz5 | exact hz4) (by first | exact pl20 | exact pl19 | exact pl18 | exact pl17 | exact pl16 | exact pl15 | exact pl14 | exact pl13 | exact pl12 | exact pl11 | exact pl10 | exact pl9 | exact pl8 | exact pl7 | exact pl6 | exact pl5 | exact pl4); have hz10 : w.heap.size + 1 < w10.heap.size := by { have := hb10.size; (try simp at this); omega }; have bb10 : Below w7.heap.size w7 w10 := by { refine Below_after ?_ hb10; (repeat (first | exact bb10 | exact bb9 | exact bb8 | exact Below.refl _ _ | refine Below.drew ?_ | refine below_drewN ?_ _)) })
    | (go_at_call 21; refine (good_any a7 c7 M _ (at7.below ?_) (by unfold maxLen; omega)).mono ?_; (repeat (first | exact bb10 | exact bb9 | exact bb8 | exact Below.refl _ _ | refine Below.drew ?_ | refine below_drewN ?_ _)); rintro e w11 ⟨r2, rfl, hr2, hb11⟩; obtain rfl := hr2.2 gm; clear hr2; have bl11 : Below w.heap.size w w11 := by { refine Below_after ?_ hb11; (repeat (first | exact bl20 | exact bl19 | exact bl18 | exact bl17 | exact bl16 | exact bl15 | exact bl14 | exact bl13 | exact bl12 | exact bl11 | exact bl10 | exact bl9 | exact bl8 | exact bl7 | exact bl6 | exact bl5 | exact bl4 | refine Below.drew ?_ | refine below_drewN ?_ _)) }; have pl11 : Pl2 w11 w.heap.size h s g t := Pl2.below hb11 (by first | exact hz20 | exact hz19 | exact hz18 | exact hz17 | exact hz16 | exact hz15 | exact hz14 | exact hz13 | exact hz12 | exact hz11 | exact hz10 | exact hz9 | exact hz8 | exact hz7 | exact hz6 | exact hz5 | exact hz4) (by first | exact pl20 | exact pl19 | exact pl18 | exact pl17 | exact pl16 | exact pl15 | exact pl14 | exact pl13 | exact pl12 | exact pl11 | exact pl10 | exact pl9 | exact pl8 | exact pl7 | exact pl6 | exact pl5 | exact pl4); have hz11 : w.heap.size + 1 < w11.heap.size := by { have := hb11.size; (try simp at this); omega }))
  clear hb8 hb9 hb10 hb11 bb8 bb9 bb10 bl7 bl8 bl9 bl10 pl7 pl8 pl9 pl10 hz7 hz8 hz9 hz10 at7
  have pl11' := pl11
  obtain ⟨y0, y1, y2, y3⟩ := pl11'
  go_wp2_with fail
  refine (free_any a c l h _ (hw.below bl11) (by unfold maxLen; omega)).mono ?_
  rintro e w12 ⟨rfl, hb12⟩
  have pl12 := pl11.below hb12 hz11
  have hz12 : w.heap.size + 1 < w12.heap.size := Nat.lt_of_lt_of_le hz11 hb12.size
  have bl12 : Below w.heap.size w w12 := Below_after bl11 hb12
  clear hb12 pl11 hz11 bl11 y0 y1 y2 y3
  have pl12' := pl12
  obtain ⟨y0, y1, y2, y3⟩ := pl12'
  go_wp2_with fail
  refine (at_any a c l h k _ (hw.below bl12) (by unfold maxLen; omega)).mono ?_
  rintro e w13 ⟨rfl, hb13⟩
  have pl13 := pl12.below hb13 hz12
  have hz13 : w.heap.size + 1 < w13.heap.size := Nat.lt_of_lt_of_le hz12 hb13.size
  have bl13 : Below w.heap.size w w13 := Below_after bl12 hb13
  clear hb13 pl12 hz12 bl12 y0 y1 y2 y3
  have pl13' := pl13
  obtain ⟨y0, y1, y2, y3⟩ := pl13'
  go_wp2_with fail
  refine (at_any a c l h s _ (hw.below bl13) (by unfold maxLen; omega)).mono ?_
  rintro e w14 ⟨rfl, hb14⟩
  have pl14 := pl13.below hb14 hz13
  have hz14 : w.heap.size + 1 < w14.heap.size := Nat.lt_of_lt_of_le hz13 hb14.size
  have bl14 : Below w.heap.size w w14 := Below_after bl13 hb14
  clear hb14 pl13 hz13 bl13 y0 y1 y2 y3
  go_wp2_with fail
  go_ret
  exact ⟨retBool (by simp [h2]), bl14⟩

end Go.Proofs.Ytnjncemjghmpoab
