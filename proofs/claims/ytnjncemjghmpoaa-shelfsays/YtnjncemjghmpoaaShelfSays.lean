/- The walk of ShelfSays over the landed code: every slice of places, every place, every number. -/
import Derived.Test.YtnjncemjghmpoaaShelfRefB
import Derived.Deep.RegionHeld3
namespace Go.Proofs.Ytnjncemjghmpoaa
open Go.RowKit
@[go_sem] theorem asErrS (v : Value) (w : World) : (Instr.typeAssert (.iface 70 v) 25 70 true).run Try.prog w = .ok (.tuple #[v, .bool true]) w := by kernel_rfl
theorem sameS_eq (n : Int) (w : World) (h : 0 < n) : Calls Try.prog 11 #[.iface 70 (.int .i64 n), .int .i64 n] w fun e w' => e = .returned (.bool true) ∧ w' = w := by
  go_enter Try.func11, Try.ntmps11
  go_wp2
  go_ret
  exact ⟨retBool (by simp), rfl⟩
theorem sameS_nil (w : World) : Calls Try.prog 11 #[.nilIface, .int .i64 0] w fun e w' => e = .returned (.bool true) ∧ w' = w := by
  go_enter Try.func11, Try.ntmps11
  go_wp2
  go_ret
  exact ⟨rfl, rfl⟩
def PlAt (w : World) (b : Nat) (h s : Int) : Prop := w.cell? ⟨b, 0, none⟩ = some (.int .i64 h) ∧ w.cell? ⟨b, 1, none⟩ = some (.int .i64 s)
theorem PlAt.below {W w1 : World} (hb : Below W.heap.size W w1) {b : Nat} {h s : Int} (hlt : b < W.heap.size) (hp : PlAt W b h s) : PlAt w1 b h s := by
  obtain ⟨h1, h2⟩ := hp
  have g := (bcell hb).1
  exact ⟨by rw [g _ _ hlt]; exact h1, by rw [g _ _ hlt]; exact h2⟩
theorem PlAt_new (w : World) (t : TypeId) (h s : Int) : PlAt (w.alloc (.cells #[.int .i64 h, .int .i64 s] t)) w.heap.size h s := by
  refine ⟨?_, ?_⟩ <;> (rw [World.cell?_alloc_new]; rfl)
/-- a place's rank -/
theorem good_rank {l : List Hd} (hg : Good l) : ∀ (k : Nat) (x : Hd), l[k]? = some x → (k : Int) ≤ (x.holder - 1) * 6 + x.slot
  | 0, x, hx => by
    obtain ⟨⟨h1, h2, h3, h4⟩, _⟩ := hg 0 x hx
    simp; omega
  | k + 1, x, hx => by
    have hlt : k < l.length := by have := (List.getElem?_eq_some_iff.1 hx).1; omega
    have hy : l[k]? = some l[k] := List.getElem?_eq_getElem hlt
    have ih := good_rank hg k _ hy
    obtain ⟨⟨h1, h2, h3, h4⟩, _, hb⟩ := hg (k + 1) x hx
    obtain ⟨⟨g1, g2, g3, g4⟩, _⟩ := hg k _ hy
    have := hb k _ rfl hy
    unfold befB at this
    by_cases e : l[k].holder = x.holder
    · rw [if_pos e, decide_eq_true_eq] at this
      rw [e] at ih; push_cast; omega
    · rw [if_neg e, decide_eq_true_eq] at this
      push_cast; omega
theorem good_len {l : List Hd} (hg : Good l) : l.length ≤ 24 := by
  refine Nat.le_of_not_lt fun hn => ?_
  have hy : l[24]? = some l[24] := List.getElem?_eq_getElem (by omega)
  have := good_rank hg 24 _ hy
  obtain ⟨⟨g1, g2, g3, g4⟩, _⟩ := hg 24 _ hy
  omega
theorem putL_len (l : List Hd) (h s id : Int) : (putL l h s id).length ≤ 2 * l.length + 1 := by
  have h1 := putM_len l h s id
  have h2 := List.length_filter_le (highP h s) l
  unfold putL
  rw [List.length_append]; omega

theorem idxFrom_first {α : Type} {p : α → Bool} : ∀ (l : List α) (n j : Nat), idxFrom p l n = ((n + j : Nat) : Int) → ∀ k y, k < j → l[k]? = some y → p y = false
  | [], n, j, h, k, y, hk, hy => by simp at hy
  | x :: r, n, j, h, k, y, hk, hy => by
    unfold idxFrom at h
    by_cases hx : p x = true
    · rw [if_pos hx] at h; omega
    · rw [if_neg hx] at h
      cases k with
      | zero => have : x = y := by simpa using hy
                subst this; simpa using hx
      | succ k =>
        cases j with
        | zero => omega
        | succ j => exact idxFrom_first r (n + 1) j (by rw [h]; congr 1; omega) k y (by omega) (by simpa using hy)
theorem idx_first {α : Type} {p : α → Bool} {l : List α} {j : Nat} (h : idx p l = (j : Int)) : ∀ k y, k < j → l[k]? = some y → p y = false :=
  idxFrom_first l 0 j (by rw [show idxFrom p l 0 = idx p l from rfl, h]; simp)
theorem idx_none {α : Type} {p : α → Bool} {l : List α} (h : idx p l = -1) : ∀ (k : Nat) (y : α), l[k]? = some y → p y = false := by
  intro k y hy
  rcases idx_cases p l with ⟨_, h2⟩ | ⟨j, x, h1, _⟩
  · have := List.find?_eq_none.1 h2 y (List.mem_of_getElem? hy); simpa using this
  · rw [h1] at h; omega

set_option maxHeartbeats 2000000 in
theorem ss_notgood (a : Option Addr) (l : List Hd) (c : Nat) (h s id : Int) (w : World) (hw : HdsAt w a l) (hm : l.length ≤ maxLen) (hg : ¬ Good l) :
    Calls Try.prog 6 #[.slice a l.length c, .agg #[.int .i64 h, .int .i64 s], .int .i64 id] w fun e w' => e = .returned (.bool true) ∧ Below w.heap.size w w' := by
  have k1 : atP (putL [] 1 2 5) 1 2 = 5 := by decide
  have k2 : freeP (putL [] 1 2 5) 1 = 0 := by decide
  go_enter Try.func6, Try.ntmps6
  go_wp2_with fail
  refine (put_any none 0 [] 1 2 5 _ (.inl rfl) (by simp)).mono ?_
  rintro e w1 ⟨a1, c1, rfl, at1, hb1⟩
  have pl1 : PlAt w1 w.heap.size h s := (PlAt_new w _ h s).below hb1 (by simp)
  have hz1 : w.heap.size < w1.heap.size := by have := hb1.size; simp at this; omega
  have bl1 : Below w.heap.size w w1 := Below_after ((Below.refl _ _).alloc (Nat.le_refl _) _) hb1
  clear hb1
  go_wp2_with fail
  refine (at_any a1 c1 (putL [] 1 2 5) 1 2 _ at1 (by decide)).mono ?_
  rintro e w2 ⟨rfl, hb2⟩
  have pl2 := pl1.below hb2 hz1
  have hz2 : w.heap.size < w2.heap.size := Nat.lt_of_lt_of_le hz1 hb2.size
  have bl2 : Below w.heap.size w w2 := Below_after bl1 hb2
  have at2 := at1.below hb2
  clear hb2 pl1 hz1 bl1 at1
  go_wp2_with fail
  refine (free_any a1 c1 (putL [] 1 2 5) 1 _ at2 (by decide)).mono ?_
  rintro e w3 ⟨rfl, hb3⟩
  have pl3 := pl2.below hb3 hz2
  have hz3 : w.heap.size < w3.heap.size := Nat.lt_of_lt_of_le hz2 hb3.size
  have bl3 : Below w.heap.size w w3 := Below_after bl2 hb3
  clear hb3 pl2 hz2 bl2 at2
  go_wp2_with fail
  refine (good_any a c l _ (hw.below bl3) hm).mono ?_
  rintro e w4 ⟨r, rfl, hr, hb4⟩
  have pl4 := pl3.below hb4 hz3
  have hz4 : w.heap.size < w4.heap.size := Nat.lt_of_lt_of_le hz3 hb4.size
  have bl4 : Below w.heap.size w w4 := Below_after bl3 hb4
  clear hb4 pl3 hz3 bl3
  have hr0 : r = false := by cases r with | false => rfl | true => exact absurd (hr.1 rfl) hg
  subst hr0
  go_wp2_with fail
  go_ret
  exact ⟨rfl, bl4⟩

set_option maxHeartbeats 2000000 in
theorem ss_ok_nil (a : Option Addr) (c : Nat) (h s id : Int) (w : World) (hg : Good []) (hp : plOk h s) (h1 : idx (isW id) ([] : List Hd) = -1) :
    Calls Try.prog 6 #[.slice a ([] : List Hd).length c, .agg #[.int .i64 h, .int .i64 s], .int .i64 id] w fun e w' => e = .returned (.bool true) ∧ Below w.heap.size w w' := by
  have hw : HdsAt w a [] := .inl rfl
  have hm : ([] : List Hd).length ≤ maxLen := by simp
  have k1 : atP (putL [] 1 2 5) 1 2 = 5 := by decide
  have k2 : freeP (putL [] 1 2 5) 1 = 0 := by decide
  go_enter Try.func6, Try.ntmps6
  go_wp2_with fail
  refine (put_any none 0 [] 1 2 5 _ (.inl rfl) (by simp)).mono ?_
  rintro e w1 ⟨a1, c1, rfl, at1, hb1⟩
  have pl1 : PlAt w1 w.heap.size h s := (PlAt_new w _ h s).below hb1 (by simp)
  have hz1 : w.heap.size < w1.heap.size := by have := hb1.size; simp at this; omega
  have bl1 : Below w.heap.size w w1 := Below_after ((Below.refl _ _).alloc (Nat.le_refl _) _) hb1
  clear hb1
  go_wp2_with fail
  refine (at_any a1 c1 (putL [] 1 2 5) 1 2 _ at1 (by decide)).mono ?_
  rintro e w2 ⟨rfl, hb2⟩
  have pl2 := pl1.below hb2 hz1
  have hz2 : w.heap.size < w2.heap.size := Nat.lt_of_lt_of_le hz1 hb2.size
  have bl2 : Below w.heap.size w w2 := Below_after bl1 hb2
  have at2 := at1.below hb2
  clear hb2 pl1 hz1 bl1 at1
  go_wp2_with fail
  refine (free_any a1 c1 (putL [] 1 2 5) 1 _ at2 (by decide)).mono ?_
  rintro e w3 ⟨rfl, hb3⟩
  have pl3 := pl2.below hb3 hz2
  have hz3 : w.heap.size < w3.heap.size := Nat.lt_of_lt_of_le hz2 hb3.size
  have bl3 : Below w.heap.size w w3 := Below_after bl2 hb3
  clear hb3 pl2 hz2 bl2 at2
  go_wp2_with fail
  refine (good_any a c [] _ (hw.below bl3) hm).mono ?_
  rintro e w4 ⟨r, rfl, hr, hb4⟩
  have pl4 := pl3.below hb4 hz3
  have hz4 : w.heap.size < w4.heap.size := Nat.lt_of_lt_of_le hz3 hb4.size
  have bl4 : Below w.heap.size w w4 := Below_after bl3 hb4
  clear hb4 pl3 hz3 bl3
  have hr0 : r = true := hr.2 hg
  subst hr0
  have hl24 := good_len hg
  clear hr
  go_wp2_with fail
  go_region_held3 (fun w' => w'.cell? ⟨w.heap.size, 0, none⟩ = some (.int .i64 h) ∧ w'.cell? ⟨w.heap.size, 1, none⟩ = some (.int .i64 s)) (first | exact pl16 | exact pl15 | exact pl14 | exact pl13 | exact pl12 | exact pl11 | exact pl10 | exact pl9 | exact pl8 | exact pl7 | exact pl6 | exact pl5 | exact pl4) (first
    | (go_at_call 40; refine (scheck_ok h s _ hp).mono ?_; rintro e w5 ⟨rfl, hb5⟩; have bl5 : Below w.heap.size w w5 := by { refine Below_after ?_ hb5; (repeat (first | exact bl16 | exact bl15 | exact bl14 | exact bl13 | exact bl12 | exact bl11 | exact bl10 | exact bl9 | exact bl8 | exact bl7 | exact bl6 | exact bl5 | exact bl4 | refine Below.drew ?_ | refine below_drewN ?_ _ | refine Below.alloc ?_ (by first | omega | (simp; omega)) _)) }; have pl5 : PlAt w5 w.heap.size h s := PlAt.below hb5 (by first | exact hz16 | exact hz15 | exact hz14 | exact hz13 | exact hz12 | exact hz11 | exact hz10 | exact hz9 | exact hz8 | exact hz7 | exact hz6 | exact hz5 | exact hz4) (by first | exact pl16 | exact pl15 | exact pl14 | exact pl13 | exact pl12 | exact pl11 | exact pl10 | exact pl9 | exact pl8 | exact pl7 | exact pl6 | exact pl5 | exact pl4); have hz5 : w.heap.size < w5.heap.size := by { have := hb5.size; (try simp at this); omega })
    | (go_at_call 41; refine (placeFault_any h s _ 0 (.inl ⟨hp, rfl⟩)).mono ?_; rintro e w6 ⟨rfl, hb6⟩; have bl6 : Below w.heap.size w w6 := by { refine Below_after ?_ hb6; (repeat (first | exact bl16 | exact bl15 | exact bl14 | exact bl13 | exact bl12 | exact bl11 | exact bl10 | exact bl9 | exact bl8 | exact bl7 | exact bl6 | exact bl5 | exact bl4 | refine Below.drew ?_ | refine below_drewN ?_ _ | refine Below.alloc ?_ (by first | omega | (simp; omega)) _)) }; have pl6 : PlAt w6 w.heap.size h s := PlAt.below hb6 (by first | exact hz16 | exact hz15 | exact hz14 | exact hz13 | exact hz12 | exact hz11 | exact hz10 | exact hz9 | exact hz8 | exact hz7 | exact hz6 | exact hz5 | exact hz4) (by first | exact pl16 | exact pl15 | exact pl14 | exact pl13 | exact pl12 | exact pl11 | exact pl10 | exact pl9 | exact pl8 | exact pl7 | exact pl6 | exact pl5 | exact pl4); have hz6 : w.heap.size < w6.heap.size := by { have := hb6.size; (try simp at this); omega })
    | (go_at_call 11; refine (sameS_nil _).mono ?_; rintro e w' ⟨rfl, hq⟩; obtain rfl := hq.symm)
    | (go_at_call 37; refine (at_any a c [] h s _ (hw.below ?_) (by unfold maxLen; omega)).mono ?_; (repeat (first | exact bl16 | exact bl15 | exact bl14 | exact bl13 | exact bl12 | exact bl11 | exact bl10 | exact bl9 | exact bl8 | exact bl7 | exact bl6 | exact bl5 | exact bl4 | refine Below.drew ?_ | refine below_drewN ?_ _ | refine Below.alloc ?_ (by first | omega | (simp; omega)) _)); rintro e w7 ⟨rfl, hb7⟩; have bl7 : Below w.heap.size w w7 := by { refine Below_after ?_ hb7; (repeat (first | exact bl16 | exact bl15 | exact bl14 | exact bl13 | exact bl12 | exact bl11 | exact bl10 | exact bl9 | exact bl8 | exact bl7 | exact bl6 | exact bl5 | exact bl4 | refine Below.drew ?_ | refine below_drewN ?_ _ | refine Below.alloc ?_ (by first | omega | (simp; omega)) _)) }; have pl7 : PlAt w7 w.heap.size h s := PlAt.below hb7 (by first | exact hz16 | exact hz15 | exact hz14 | exact hz13 | exact hz12 | exact hz11 | exact hz10 | exact hz9 | exact hz8 | exact hz7 | exact hz6 | exact hz5 | exact hz4) (by first | exact pl16 | exact pl15 | exact pl14 | exact pl13 | exact pl12 | exact pl11 | exact pl10 | exact pl9 | exact pl8 | exact pl7 | exact pl6 | exact pl5 | exact pl4); have hz7 : w.heap.size < w7.heap.size := by { have := hb7.size; (try simp at this); omega })
    | (go_at_call 42; refine (atPlace_any a c [] h s _ (hw.below ?_) (by omega)).mono ?_; (repeat (first | exact bl16 | exact bl15 | exact bl14 | exact bl13 | exact bl12 | exact bl11 | exact bl10 | exact bl9 | exact bl8 | exact bl7 | exact bl6 | exact bl5 | exact bl4 | refine Below.drew ?_ | refine below_drewN ?_ _ | refine Below.alloc ?_ (by first | omega | (simp; omega)) _)); rintro e w8 ⟨rfl, hb8⟩; have bl8 : Below w.heap.size w w8 := by { refine Below_after ?_ hb8; (repeat (first | exact bl16 | exact bl15 | exact bl14 | exact bl13 | exact bl12 | exact bl11 | exact bl10 | exact bl9 | exact bl8 | exact bl7 | exact bl6 | exact bl5 | exact bl4 | refine Below.drew ?_ | refine below_drewN ?_ _ | refine Below.alloc ?_ (by first | omega | (simp; omega)) _)) }; have pl8 : PlAt w8 w.heap.size h s := PlAt.below hb8 (by first | exact hz16 | exact hz15 | exact hz14 | exact hz13 | exact hz12 | exact hz11 | exact hz10 | exact hz9 | exact hz8 | exact hz7 | exact hz6 | exact hz5 | exact hz4) (by first | exact pl16 | exact pl15 | exact pl14 | exact pl13 | exact pl12 | exact pl11 | exact pl10 | exact pl9 | exact pl8 | exact pl7 | exact pl6 | exact pl5 | exact pl4); have hz8 : w.heap.size < w8.heap.size := by { have := hb8.size; (try simp at this); omega })
    | (go_at_call 38; refine (free_any a c [] h _ (hw.below ?_) (by unfold maxLen; omega)).mono ?_; (repeat (first | exact bl16 | exact bl15 | exact bl14 | exact bl13 | exact bl12 | exact bl11 | exact bl10 | exact bl9 | exact bl8 | exact bl7 | exact bl6 | exact bl5 | exact bl4 | refine Below.drew ?_ | refine below_drewN ?_ _ | refine Below.alloc ?_ (by first | omega | (simp; omega)) _)); rintro e w9 ⟨rfl, hb9⟩; have bl9 : Below w.heap.size w w9 := by { refine Below_after ?_ hb9; (repeat (first | exact bl16 | exact bl15 | exact bl14 | exact bl13 | exact bl12 | exact bl11 | exact bl10 | exact bl9 | exact bl8 | exact bl7 | exact bl6 | exact bl5 | exact bl4 | refine Below.drew ?_ | refine below_drewN ?_ _ | refine Below.alloc ?_ (by first | omega | (simp; omega)) _)) }; have pl9 : PlAt w9 w.heap.size h s := PlAt.below hb9 (by first | exact hz16 | exact hz15 | exact hz14 | exact hz13 | exact hz12 | exact hz11 | exact hz10 | exact hz9 | exact hz8 | exact hz7 | exact hz6 | exact hz5 | exact hz4) (by first | exact pl16 | exact pl15 | exact pl14 | exact pl13 | exact pl12 | exact pl11 | exact pl10 | exact pl9 | exact pl8 | exact pl7 | exact pl6 | exact pl5 | exact pl4); have hz9 : w.heap.size < w9.heap.size := by { have := hb9.size; (try simp at this); omega })
    | (go_at_call 43; refine (freeSlot_any a c [] h _ (hw.below ?_) (by omega)).mono ?_; (repeat (first | exact bl16 | exact bl15 | exact bl14 | exact bl13 | exact bl12 | exact bl11 | exact bl10 | exact bl9 | exact bl8 | exact bl7 | exact bl6 | exact bl5 | exact bl4 | refine Below.drew ?_ | refine below_drewN ?_ _ | refine Below.alloc ?_ (by first | omega | (simp; omega)) _)); rintro e w10 ⟨rfl, hb10⟩; have bl10 : Below w.heap.size w w10 := by { refine Below_after ?_ hb10; (repeat (first | exact bl16 | exact bl15 | exact bl14 | exact bl13 | exact bl12 | exact bl11 | exact bl10 | exact bl9 | exact bl8 | exact bl7 | exact bl6 | exact bl5 | exact bl4 | refine Below.drew ?_ | refine below_drewN ?_ _ | refine Below.alloc ?_ (by first | omega | (simp; omega)) _)) }; have pl10 : PlAt w10 w.heap.size h s := PlAt.below hb10 (by first | exact hz16 | exact hz15 | exact hz14 | exact hz13 | exact hz12 | exact hz11 | exact hz10 | exact hz9 | exact hz8 | exact hz7 | exact hz6 | exact hz5 | exact hz4) (by first | exact pl16 | exact pl15 | exact pl14 | exact pl13 | exact pl12 | exact pl11 | exact pl10 | exact pl9 | exact pl8 | exact pl7 | exact pl6 | exact pl5 | exact pl4); have hz10 : w.heap.size < w10.heap.size := by { have := hb10.size; (try simp at this); omega }))
  clear pl5 hb5 bl5 hz5 pl6 hb6 bl6 hz6 pl7 hb7 bl7 hz7 pl8 hb8 bl8 hz8 pl9 hb9 bl9 hz9 hb10 bl4 hz4 pl4
  go_wp2_with fail
  refine (where_no a c [] id _ (hw.below bl10) (by omega) h1).mono ?_
  rintro e w11 ⟨rfl, hb11⟩
  have pl11 : PlAt w11 w.heap.size h s := pl10.below hb11 hz10
  have bl11 : Below w.heap.size w w11 := Below_after bl10 hb11
  have hz11 : w.heap.size < w11.heap.size := Nat.lt_of_lt_of_le hz10 hb11.size
  clear hb11 pl10 bl10 hz10
  go_wp2_with fail
  have bA : Below w11.heap.size w11 (w11.alloc (.cells #[.int .i64 0, .int .i64 0] 56)) := (Below.refl _ _).alloc (Nat.le_refl _) _
  have ql : PlAt (w11.alloc (.cells #[.int .i64 0, .int .i64 0] 56)) w11.heap.size 0 0 := PlAt_new w11 _ _ _
  have hqz : w11.heap.size < (w11.alloc (.cells #[.int .i64 0, .int .i64 0] 56)).heap.size := by simp
  generalize w11.alloc (.cells #[.int .i64 0, .int .i64 0] 56) = w12 at *
  have pl12 : PlAt w12 w.heap.size h s := pl11.below bA hz11
  have bl12 : Below w.heap.size w w12 := Below_after bl11 bA
  have hz12 : w.heap.size < w12.heap.size := by omega
  clear bA pl11 bl11
  obtain ⟨ql0, ql1⟩ := ql
  have pl12' := pl12
  obtain ⟨pq0, pq1⟩ := pl12'
  refine wp_loop_rounds 1 ?_
  rw [rounds_succ]
  go_wp2_with fail
  go_quiet (fail)
  go_wp2_with fail
  have hpl := putL_len [] h s id
  go_region_held3 (fun w' => w'.cell? ⟨w.heap.size, 0, none⟩ = some (.int .i64 h) ∧ w'.cell? ⟨w.heap.size, 1, none⟩ = some (.int .i64 s)) (first | exact pl16 | exact pl15 | exact pl14 | exact pl13 | exact pl12 | exact pl11 | exact pl10 | exact pl9 | exact pl8 | exact pl7 | exact pl6 | exact pl5 | exact pl4) (first
    | (go_at_call 41; refine (placeFault_any h s _ 0 (.inl ⟨hp, rfl⟩)).mono ?_; rintro e w13 ⟨rfl, hb13⟩; have bl13 : Below w.heap.size w w13 := by { refine Below_after ?_ hb13; (repeat (first | exact bl16 | exact bl15 | exact bl14 | exact bl13 | exact bl12 | exact bl11 | exact bl10 | exact bl9 | exact bl8 | exact bl7 | exact bl6 | exact bl5 | exact bl4 | refine Below.drew ?_ | refine below_drewN ?_ _ | refine Below.alloc ?_ (by first | omega | (simp; omega)) _)) }; have pl13 : PlAt w13 w.heap.size h s := PlAt.below hb13 (by first | exact hz16 | exact hz15 | exact hz14 | exact hz13 | exact hz12 | exact hz11 | exact hz10 | exact hz9 | exact hz8 | exact hz7 | exact hz6 | exact hz5 | exact hz4) (by first | exact pl16 | exact pl15 | exact pl14 | exact pl13 | exact pl12 | exact pl11 | exact pl10 | exact pl9 | exact pl8 | exact pl7 | exact pl6 | exact pl5 | exact pl4); have hz13 : w.heap.size < w13.heap.size := by { have := hb13.size; (try simp at this); omega })
    | (go_at_call 36; refine (put_any a c [] h s id _ (hw.below ?_) (by omega)).mono ?_; (repeat (first | exact bl16 | exact bl15 | exact bl14 | exact bl13 | exact bl12 | exact bl11 | exact bl10 | exact bl9 | exact bl8 | exact bl7 | exact bl6 | exact bl5 | exact bl4 | refine Below.drew ?_ | refine below_drewN ?_ _ | refine Below.alloc ?_ (by first | omega | (simp; omega)) _)); rintro e w14 ⟨a14, c14, rfl, at14, hb14⟩; have bl14 : Below w.heap.size w w14 := by { refine Below_after ?_ hb14; (repeat (first | exact bl16 | exact bl15 | exact bl14 | exact bl13 | exact bl12 | exact bl11 | exact bl10 | exact bl9 | exact bl8 | exact bl7 | exact bl6 | exact bl5 | exact bl4 | refine Below.drew ?_ | refine below_drewN ?_ _ | refine Below.alloc ?_ (by first | omega | (simp; omega)) _)) }; have pl14 : PlAt w14 w.heap.size h s := PlAt.below hb14 (by first | exact hz16 | exact hz15 | exact hz14 | exact hz13 | exact hz12 | exact hz11 | exact hz10 | exact hz9 | exact hz8 | exact hz7 | exact hz6 | exact hz5 | exact hz4) (by first | exact pl16 | exact pl15 | exact pl14 | exact pl13 | exact pl12 | exact pl11 | exact pl10 | exact pl9 | exact pl8 | exact pl7 | exact pl6 | exact pl5 | exact pl4); have hz14 : w.heap.size < w14.heap.size := by { have := hb14.size; (try simp at this); omega })
    | (go_at_call 46; refine (putAt_any a c [] h s id _ (hw.below ?_) (by omega) hg).mono ?_; (repeat (first | exact bl16 | exact bl15 | exact bl14 | exact bl13 | exact bl12 | exact bl11 | exact bl10 | exact bl9 | exact bl8 | exact bl7 | exact bl6 | exact bl5 | exact bl4 | refine Below.drew ?_ | refine below_drewN ?_ _ | refine Below.alloc ?_ (by first | omega | (simp; omega)) _)); rintro e w15 ⟨a15, c15, rfl, at15, hb15⟩; have bl15 : Below w.heap.size w w15 := by { refine Below_after ?_ hb15; (repeat (first | exact bl16 | exact bl15 | exact bl14 | exact bl13 | exact bl12 | exact bl11 | exact bl10 | exact bl9 | exact bl8 | exact bl7 | exact bl6 | exact bl5 | exact bl4 | refine Below.drew ?_ | refine below_drewN ?_ _ | refine Below.alloc ?_ (by first | omega | (simp; omega)) _)) }; have pl15 : PlAt w15 w.heap.size h s := PlAt.below hb15 (by first | exact hz16 | exact hz15 | exact hz14 | exact hz13 | exact hz12 | exact hz11 | exact hz10 | exact hz9 | exact hz8 | exact hz7 | exact hz6 | exact hz5 | exact hz4) (by first | exact pl16 | exact pl15 | exact pl14 | exact pl13 | exact pl12 | exact pl11 | exact pl10 | exact pl9 | exact pl8 | exact pl7 | exact pl6 | exact pl5 | exact pl4); have hz15 : w.heap.size < w15.heap.size := by { have := hb15.size; (try simp at this); omega })
    | (go_at_call 45; refine (sameHeld_true a14 a15 c14 c15 (putL [] h s id) _ (at14.below hb15) at15 (by omega)).mono ?_; rintro e w16 ⟨rfl, hb16⟩; have bl16 : Below w.heap.size w w16 := by { refine Below_after ?_ hb16; (repeat (first | exact bl16 | exact bl15 | exact bl14 | exact bl13 | exact bl12 | exact bl11 | exact bl10 | exact bl9 | exact bl8 | exact bl7 | exact bl6 | exact bl5 | exact bl4 | refine Below.drew ?_ | refine below_drewN ?_ _ | refine Below.alloc ?_ (by first | omega | (simp; omega)) _)) }; have pl16 : PlAt w16 w.heap.size h s := PlAt.below hb16 (by first | exact hz16 | exact hz15 | exact hz14 | exact hz13 | exact hz12 | exact hz11 | exact hz10 | exact hz9 | exact hz8 | exact hz7 | exact hz6 | exact hz5 | exact hz4) (by first | exact pl16 | exact pl15 | exact pl14 | exact pl13 | exact pl12 | exact pl11 | exact pl10 | exact pl9 | exact pl8 | exact pl7 | exact pl6 | exact pl5 | exact pl4); have hz16 : w.heap.size < w16.heap.size := by { have := hb16.size; (try simp at this); omega }))
  go_wp2_with fail
  go_ret
  exact ⟨rfl, bl16⟩

set_option maxHeartbeats 2000000 in
theorem ss_ok_no (b o : Nat) (l : List Hd) (c : Nat) (h s id : Int) (w : World) (hb : b < w.heap.size) (hxs : ∀ j x, l[j]? = some x → HdAt w b (o + j * 3) x) (hm : l.length ≤ maxLen) (hg : Good l) (hp : plOk h s) (h1 : idx (isW id) l = -1) :
    Calls Try.prog 6 #[.slice (some ⟨b, o, none⟩) l.length c, .agg #[.int .i64 h, .int .i64 s], .int .i64 id] w fun e w' => e = .returned (.bool true) ∧ Below w.heap.size w w' := by
  have hw : HdsAt w (some ⟨b, o, none⟩) l := .inr ⟨b, o, rfl, hb, hxs⟩
  have k1 : atP (putL [] 1 2 5) 1 2 = 5 := by decide
  have k2 : freeP (putL [] 1 2 5) 1 = 0 := by decide
  go_enter Try.func6, Try.ntmps6
  go_wp2_with fail
  refine (put_any none 0 [] 1 2 5 _ (.inl rfl) (by simp)).mono ?_
  rintro e w1 ⟨a1, c1, rfl, at1, hb1⟩
  have pl1 : PlAt w1 w.heap.size h s := (PlAt_new w _ h s).below hb1 (by simp)
  have hz1 : w.heap.size < w1.heap.size := by have := hb1.size; simp at this; omega
  have bl1 : Below w.heap.size w w1 := Below_after ((Below.refl _ _).alloc (Nat.le_refl _) _) hb1
  clear hb1
  go_wp2_with fail
  refine (at_any a1 c1 (putL [] 1 2 5) 1 2 _ at1 (by decide)).mono ?_
  rintro e w2 ⟨rfl, hb2⟩
  have pl2 := pl1.below hb2 hz1
  have hz2 : w.heap.size < w2.heap.size := Nat.lt_of_lt_of_le hz1 hb2.size
  have bl2 : Below w.heap.size w w2 := Below_after bl1 hb2
  have at2 := at1.below hb2
  clear hb2 pl1 hz1 bl1 at1
  go_wp2_with fail
  refine (free_any a1 c1 (putL [] 1 2 5) 1 _ at2 (by decide)).mono ?_
  rintro e w3 ⟨rfl, hb3⟩
  have pl3 := pl2.below hb3 hz2
  have hz3 : w.heap.size < w3.heap.size := Nat.lt_of_lt_of_le hz2 hb3.size
  have bl3 : Below w.heap.size w w3 := Below_after bl2 hb3
  clear hb3 pl2 hz2 bl2 at2
  go_wp2_with fail
  refine (good_any (some ⟨b, o, none⟩) c l _ (hw.below bl3) hm).mono ?_
  rintro e w4 ⟨r, rfl, hr, hb4⟩
  have pl4 := pl3.below hb4 hz3
  have hz4 : w.heap.size < w4.heap.size := Nat.lt_of_lt_of_le hz3 hb4.size
  have bl4 : Below w.heap.size w w4 := Below_after bl3 hb4
  clear hb4 pl3 hz3 bl3
  have hr0 : r = true := hr.2 hg
  subst hr0
  have hl24 := good_len hg
  clear hr
  go_wp2_with fail
  go_region_held3 (fun w' => w'.cell? ⟨w.heap.size, 0, none⟩ = some (.int .i64 h) ∧ w'.cell? ⟨w.heap.size, 1, none⟩ = some (.int .i64 s)) (first | exact pl16 | exact pl15 | exact pl14 | exact pl13 | exact pl12 | exact pl11 | exact pl10 | exact pl9 | exact pl8 | exact pl7 | exact pl6 | exact pl5 | exact pl4) (first
    | (go_at_call 40; refine (scheck_ok h s _ hp).mono ?_; rintro e w5 ⟨rfl, hb5⟩; have bl5 : Below w.heap.size w w5 := by { refine Below_after ?_ hb5; (repeat (first | exact bl16 | exact bl15 | exact bl14 | exact bl13 | exact bl12 | exact bl11 | exact bl10 | exact bl9 | exact bl8 | exact bl7 | exact bl6 | exact bl5 | exact bl4 | refine Below.drew ?_ | refine below_drewN ?_ _ | refine Below.alloc ?_ (by first | omega | (simp; omega)) _)) }; have pl5 : PlAt w5 w.heap.size h s := PlAt.below hb5 (by first | exact hz16 | exact hz15 | exact hz14 | exact hz13 | exact hz12 | exact hz11 | exact hz10 | exact hz9 | exact hz8 | exact hz7 | exact hz6 | exact hz5 | exact hz4) (by first | exact pl16 | exact pl15 | exact pl14 | exact pl13 | exact pl12 | exact pl11 | exact pl10 | exact pl9 | exact pl8 | exact pl7 | exact pl6 | exact pl5 | exact pl4); have hz5 : w.heap.size < w5.heap.size := by { have := hb5.size; (try simp at this); omega })
    | (go_at_call 41; refine (placeFault_any h s _ 0 (.inl ⟨hp, rfl⟩)).mono ?_; rintro e w6 ⟨rfl, hb6⟩; have bl6 : Below w.heap.size w w6 := by { refine Below_after ?_ hb6; (repeat (first | exact bl16 | exact bl15 | exact bl14 | exact bl13 | exact bl12 | exact bl11 | exact bl10 | exact bl9 | exact bl8 | exact bl7 | exact bl6 | exact bl5 | exact bl4 | refine Below.drew ?_ | refine below_drewN ?_ _ | refine Below.alloc ?_ (by first | omega | (simp; omega)) _)) }; have pl6 : PlAt w6 w.heap.size h s := PlAt.below hb6 (by first | exact hz16 | exact hz15 | exact hz14 | exact hz13 | exact hz12 | exact hz11 | exact hz10 | exact hz9 | exact hz8 | exact hz7 | exact hz6 | exact hz5 | exact hz4) (by first | exact pl16 | exact pl15 | exact pl14 | exact pl13 | exact pl12 | exact pl11 | exact pl10 | exact pl9 | exact pl8 | exact pl7 | exact pl6 | exact pl5 | exact pl4); have hz6 : w.heap.size < w6.heap.size := by { have := hb6.size; (try simp at this); omega })
    | (go_at_call 11; refine (sameS_nil _).mono ?_; rintro e w' ⟨rfl, hq⟩; obtain rfl := hq.symm)
    | (go_at_call 37; refine (at_any (some ⟨b, o, none⟩) c l h s _ (hw.below ?_) (by unfold maxLen; omega)).mono ?_; (repeat (first | exact bl16 | exact bl15 | exact bl14 | exact bl13 | exact bl12 | exact bl11 | exact bl10 | exact bl9 | exact bl8 | exact bl7 | exact bl6 | exact bl5 | exact bl4 | refine Below.drew ?_ | refine below_drewN ?_ _ | refine Below.alloc ?_ (by first | omega | (simp; omega)) _)); rintro e w7 ⟨rfl, hb7⟩; have bl7 : Below w.heap.size w w7 := by { refine Below_after ?_ hb7; (repeat (first | exact bl16 | exact bl15 | exact bl14 | exact bl13 | exact bl12 | exact bl11 | exact bl10 | exact bl9 | exact bl8 | exact bl7 | exact bl6 | exact bl5 | exact bl4 | refine Below.drew ?_ | refine below_drewN ?_ _ | refine Below.alloc ?_ (by first | omega | (simp; omega)) _)) }; have pl7 : PlAt w7 w.heap.size h s := PlAt.below hb7 (by first | exact hz16 | exact hz15 | exact hz14 | exact hz13 | exact hz12 | exact hz11 | exact hz10 | exact hz9 | exact hz8 | exact hz7 | exact hz6 | exact hz5 | exact hz4) (by first | exact pl16 | exact pl15 | exact pl14 | exact pl13 | exact pl12 | exact pl11 | exact pl10 | exact pl9 | exact pl8 | exact pl7 | exact pl6 | exact pl5 | exact pl4); have hz7 : w.heap.size < w7.heap.size := by { have := hb7.size; (try simp at this); omega })
    | (go_at_call 42; refine (atPlace_any (some ⟨b, o, none⟩) c l h s _ (hw.below ?_) (by omega)).mono ?_; (repeat (first | exact bl16 | exact bl15 | exact bl14 | exact bl13 | exact bl12 | exact bl11 | exact bl10 | exact bl9 | exact bl8 | exact bl7 | exact bl6 | exact bl5 | exact bl4 | refine Below.drew ?_ | refine below_drewN ?_ _ | refine Below.alloc ?_ (by first | omega | (simp; omega)) _)); rintro e w8 ⟨rfl, hb8⟩; have bl8 : Below w.heap.size w w8 := by { refine Below_after ?_ hb8; (repeat (first | exact bl16 | exact bl15 | exact bl14 | exact bl13 | exact bl12 | exact bl11 | exact bl10 | exact bl9 | exact bl8 | exact bl7 | exact bl6 | exact bl5 | exact bl4 | refine Below.drew ?_ | refine below_drewN ?_ _ | refine Below.alloc ?_ (by first | omega | (simp; omega)) _)) }; have pl8 : PlAt w8 w.heap.size h s := PlAt.below hb8 (by first | exact hz16 | exact hz15 | exact hz14 | exact hz13 | exact hz12 | exact hz11 | exact hz10 | exact hz9 | exact hz8 | exact hz7 | exact hz6 | exact hz5 | exact hz4) (by first | exact pl16 | exact pl15 | exact pl14 | exact pl13 | exact pl12 | exact pl11 | exact pl10 | exact pl9 | exact pl8 | exact pl7 | exact pl6 | exact pl5 | exact pl4); have hz8 : w.heap.size < w8.heap.size := by { have := hb8.size; (try simp at this); omega })
    | (go_at_call 38; refine (free_any (some ⟨b, o, none⟩) c l h _ (hw.below ?_) (by unfold maxLen; omega)).mono ?_; (repeat (first | exact bl16 | exact bl15 | exact bl14 | exact bl13 | exact bl12 | exact bl11 | exact bl10 | exact bl9 | exact bl8 | exact bl7 | exact bl6 | exact bl5 | exact bl4 | refine Below.drew ?_ | refine below_drewN ?_ _ | refine Below.alloc ?_ (by first | omega | (simp; omega)) _)); rintro e w9 ⟨rfl, hb9⟩; have bl9 : Below w.heap.size w w9 := by { refine Below_after ?_ hb9; (repeat (first | exact bl16 | exact bl15 | exact bl14 | exact bl13 | exact bl12 | exact bl11 | exact bl10 | exact bl9 | exact bl8 | exact bl7 | exact bl6 | exact bl5 | exact bl4 | refine Below.drew ?_ | refine below_drewN ?_ _ | refine Below.alloc ?_ (by first | omega | (simp; omega)) _)) }; have pl9 : PlAt w9 w.heap.size h s := PlAt.below hb9 (by first | exact hz16 | exact hz15 | exact hz14 | exact hz13 | exact hz12 | exact hz11 | exact hz10 | exact hz9 | exact hz8 | exact hz7 | exact hz6 | exact hz5 | exact hz4) (by first | exact pl16 | exact pl15 | exact pl14 | exact pl13 | exact pl12 | exact pl11 | exact pl10 | exact pl9 | exact pl8 | exact pl7 | exact pl6 | exact pl5 | exact pl4); have hz9 : w.heap.size < w9.heap.size := by { have := hb9.size; (try simp at this); omega })
    | (go_at_call 43; refine (freeSlot_any (some ⟨b, o, none⟩) c l h _ (hw.below ?_) (by omega)).mono ?_; (repeat (first | exact bl16 | exact bl15 | exact bl14 | exact bl13 | exact bl12 | exact bl11 | exact bl10 | exact bl9 | exact bl8 | exact bl7 | exact bl6 | exact bl5 | exact bl4 | refine Below.drew ?_ | refine below_drewN ?_ _ | refine Below.alloc ?_ (by first | omega | (simp; omega)) _)); rintro e w10 ⟨rfl, hb10⟩; have bl10 : Below w.heap.size w w10 := by { refine Below_after ?_ hb10; (repeat (first | exact bl16 | exact bl15 | exact bl14 | exact bl13 | exact bl12 | exact bl11 | exact bl10 | exact bl9 | exact bl8 | exact bl7 | exact bl6 | exact bl5 | exact bl4 | refine Below.drew ?_ | refine below_drewN ?_ _ | refine Below.alloc ?_ (by first | omega | (simp; omega)) _)) }; have pl10 : PlAt w10 w.heap.size h s := PlAt.below hb10 (by first | exact hz16 | exact hz15 | exact hz14 | exact hz13 | exact hz12 | exact hz11 | exact hz10 | exact hz9 | exact hz8 | exact hz7 | exact hz6 | exact hz5 | exact hz4) (by first | exact pl16 | exact pl15 | exact pl14 | exact pl13 | exact pl12 | exact pl11 | exact pl10 | exact pl9 | exact pl8 | exact pl7 | exact pl6 | exact pl5 | exact pl4); have hz10 : w.heap.size < w10.heap.size := by { have := hb10.size; (try simp at this); omega }))
  clear pl5 hb5 bl5 hz5 pl6 hb6 bl6 hz6 pl7 hb7 bl7 hz7 pl8 hb8 bl8 hz8 pl9 hb9 bl9 hz9 hb10 bl4 hz4 pl4
  go_wp2_with fail
  refine (where_no (some ⟨b, o, none⟩) c l id _ (hw.below bl10) (by omega) h1).mono ?_
  rintro e w11 ⟨rfl, hb11⟩
  have pl11 : PlAt w11 w.heap.size h s := pl10.below hb11 hz10
  have bl11 : Below w.heap.size w w11 := Below_after bl10 hb11
  have hz11 : w.heap.size < w11.heap.size := Nat.lt_of_lt_of_le hz10 hb11.size
  clear hb11 pl10 bl10 hz10
  go_wp2_with fail
  have bA : Below w11.heap.size w11 (w11.alloc (.cells #[.int .i64 0, .int .i64 0] 56)) := (Below.refl _ _).alloc (Nat.le_refl _) _
  have ql : PlAt (w11.alloc (.cells #[.int .i64 0, .int .i64 0] 56)) w11.heap.size 0 0 := PlAt_new w11 _ _ _
  have hqz : w11.heap.size < (w11.alloc (.cells #[.int .i64 0, .int .i64 0] 56)).heap.size := by simp
  generalize w11.alloc (.cells #[.int .i64 0, .int .i64 0] 56) = w12 at *
  have pl12 : PlAt w12 w.heap.size h s := pl11.below bA hz11
  have bl12 : Below w.heap.size w w12 := Below_after bl11 bA
  have hz12 : w.heap.size < w12.heap.size := by omega
  clear bA pl11 bl11
  obtain ⟨ql0, ql1⟩ := ql
  have pl12' := pl12
  obtain ⟨pq0, pq1⟩ := pl12'
  go_loop [10] (fun i => ∃ k : Nat, k ≤ l.length ∧ i = .int .i64 k) (fun i => l.length - (intOf i).toNat)
  case atStart => exact ⟨0, Nat.zero_le _, rfl⟩
  case round =>
    obtain ⟨k, hk, rfl⟩ := hrel
    by_cases hlt : k < l.length
    · obtain ⟨x, hx⟩ : ∃ x, l[k]? = some x := ⟨l[k], List.getElem?_eq_getElem hlt⟩
      obtain ⟨t1, t2, t3⟩ := (hxs k x hx).below bl12 hb
      have hne : (x.writ != id) = true := by have := idx_none h1 k x hx; simpa [isW] using this
      clear hx
      go_wp2_with fail
      go_round
      case rel => exact ⟨k + 1, by omega, by go_num⟩
      case measure => simp [intOf]; omega
    · obtain rfl : k = l.length := by omega
      have dl : decide ((l.length : Int) < (l.length : Int)) = false := by simp
      clear hlt hk
      go_wp2_with fail
      go_quiet (fail)
      go_wp2_with fail
      have hpl := putL_len l h s id
      go_region_held3 (fun w' => w'.cell? ⟨w.heap.size, 0, none⟩ = some (.int .i64 h) ∧ w'.cell? ⟨w.heap.size, 1, none⟩ = some (.int .i64 s)) (first | exact pl16 | exact pl15 | exact pl14 | exact pl13 | exact pl12 | exact pl11 | exact pl10 | exact pl9 | exact pl8 | exact pl7 | exact pl6 | exact pl5 | exact pl4) (first
        | (go_at_call 41; refine (placeFault_any h s _ 0 (.inl ⟨hp, rfl⟩)).mono ?_; rintro e w13 ⟨rfl, hb13⟩; have bl13 : Below w.heap.size w w13 := by { refine Below_after ?_ hb13; (repeat (first | exact bl16 | exact bl15 | exact bl14 | exact bl13 | exact bl12 | exact bl11 | exact bl10 | exact bl9 | exact bl8 | exact bl7 | exact bl6 | exact bl5 | exact bl4 | refine Below.drew ?_ | refine below_drewN ?_ _ | refine Below.alloc ?_ (by first | omega | (simp; omega)) _)) }; have pl13 : PlAt w13 w.heap.size h s := PlAt.below hb13 (by first | exact hz16 | exact hz15 | exact hz14 | exact hz13 | exact hz12 | exact hz11 | exact hz10 | exact hz9 | exact hz8 | exact hz7 | exact hz6 | exact hz5 | exact hz4) (by first | exact pl16 | exact pl15 | exact pl14 | exact pl13 | exact pl12 | exact pl11 | exact pl10 | exact pl9 | exact pl8 | exact pl7 | exact pl6 | exact pl5 | exact pl4); have hz13 : w.heap.size < w13.heap.size := by { have := hb13.size; (try simp at this); omega })
        | (go_at_call 36; refine (put_any (some ⟨b, o, none⟩) c l h s id _ (hw.below ?_) (by omega)).mono ?_; (repeat (first | exact bl16 | exact bl15 | exact bl14 | exact bl13 | exact bl12 | exact bl11 | exact bl10 | exact bl9 | exact bl8 | exact bl7 | exact bl6 | exact bl5 | exact bl4 | refine Below.drew ?_ | refine below_drewN ?_ _ | refine Below.alloc ?_ (by first | omega | (simp; omega)) _)); rintro e w14 ⟨a14, c14, rfl, at14, hb14⟩; have bl14 : Below w.heap.size w w14 := by { refine Below_after ?_ hb14; (repeat (first | exact bl16 | exact bl15 | exact bl14 | exact bl13 | exact bl12 | exact bl11 | exact bl10 | exact bl9 | exact bl8 | exact bl7 | exact bl6 | exact bl5 | exact bl4 | refine Below.drew ?_ | refine below_drewN ?_ _ | refine Below.alloc ?_ (by first | omega | (simp; omega)) _)) }; have pl14 : PlAt w14 w.heap.size h s := PlAt.below hb14 (by first | exact hz16 | exact hz15 | exact hz14 | exact hz13 | exact hz12 | exact hz11 | exact hz10 | exact hz9 | exact hz8 | exact hz7 | exact hz6 | exact hz5 | exact hz4) (by first | exact pl16 | exact pl15 | exact pl14 | exact pl13 | exact pl12 | exact pl11 | exact pl10 | exact pl9 | exact pl8 | exact pl7 | exact pl6 | exact pl5 | exact pl4); have hz14 : w.heap.size < w14.heap.size := by { have := hb14.size; (try simp at this); omega })
        | (go_at_call 46; refine (putAt_any (some ⟨b, o, none⟩) c l h s id _ (hw.below ?_) (by omega) hg).mono ?_; (repeat (first | exact bl16 | exact bl15 | exact bl14 | exact bl13 | exact bl12 | exact bl11 | exact bl10 | exact bl9 | exact bl8 | exact bl7 | exact bl6 | exact bl5 | exact bl4 | refine Below.drew ?_ | refine below_drewN ?_ _ | refine Below.alloc ?_ (by first | omega | (simp; omega)) _)); rintro e w15 ⟨a15, c15, rfl, at15, hb15⟩; have bl15 : Below w.heap.size w w15 := by { refine Below_after ?_ hb15; (repeat (first | exact bl16 | exact bl15 | exact bl14 | exact bl13 | exact bl12 | exact bl11 | exact bl10 | exact bl9 | exact bl8 | exact bl7 | exact bl6 | exact bl5 | exact bl4 | refine Below.drew ?_ | refine below_drewN ?_ _ | refine Below.alloc ?_ (by first | omega | (simp; omega)) _)) }; have pl15 : PlAt w15 w.heap.size h s := PlAt.below hb15 (by first | exact hz16 | exact hz15 | exact hz14 | exact hz13 | exact hz12 | exact hz11 | exact hz10 | exact hz9 | exact hz8 | exact hz7 | exact hz6 | exact hz5 | exact hz4) (by first | exact pl16 | exact pl15 | exact pl14 | exact pl13 | exact pl12 | exact pl11 | exact pl10 | exact pl9 | exact pl8 | exact pl7 | exact pl6 | exact pl5 | exact pl4); have hz15 : w.heap.size < w15.heap.size := by { have := hb15.size; (try simp at this); omega })
        | (go_at_call 45; refine (sameHeld_true a14 a15 c14 c15 (putL l h s id) _ (at14.below hb15) at15 (by omega)).mono ?_; rintro e w16 ⟨rfl, hb16⟩; have bl16 : Below w.heap.size w w16 := by { refine Below_after ?_ hb16; (repeat (first | exact bl16 | exact bl15 | exact bl14 | exact bl13 | exact bl12 | exact bl11 | exact bl10 | exact bl9 | exact bl8 | exact bl7 | exact bl6 | exact bl5 | exact bl4 | refine Below.drew ?_ | refine below_drewN ?_ _ | refine Below.alloc ?_ (by first | omega | (simp; omega)) _)) }; have pl16 : PlAt w16 w.heap.size h s := PlAt.below hb16 (by first | exact hz16 | exact hz15 | exact hz14 | exact hz13 | exact hz12 | exact hz11 | exact hz10 | exact hz9 | exact hz8 | exact hz7 | exact hz6 | exact hz5 | exact hz4) (by first | exact pl16 | exact pl15 | exact pl14 | exact pl13 | exact pl12 | exact pl11 | exact pl10 | exact pl9 | exact pl8 | exact pl7 | exact pl6 | exact pl5 | exact pl4); have hz16 : w.heap.size < w16.heap.size := by { have := hb16.size; (try simp at this); omega }))
      go_wp2_with fail
      go_ret
      exact ⟨rfl, bl16⟩

set_option maxHeartbeats 2000000 in
theorem ss_ok_yes (b o : Nat) (l : List Hd) (c : Nat) (h s id : Int) (w : World) (hb : b < w.heap.size) (hxs : ∀ j x, l[j]? = some x → HdAt w b (o + j * 3) x) (hm : l.length ≤ maxLen) (hg : Good l) (hp : plOk h s) (j : Nat) (x : Hd) (h1 : idx (isW id) l = (j : Int)) (hx : l[j]? = some x) (hpx : isW id x = true) :
    Calls Try.prog 6 #[.slice (some ⟨b, o, none⟩) l.length c, .agg #[.int .i64 h, .int .i64 s], .int .i64 id] w fun e w' => e = .returned (.bool true) ∧ Below w.heap.size w w' := by
  have hw : HdsAt w (some ⟨b, o, none⟩) l := .inr ⟨b, o, rfl, hb, hxs⟩
  have k1 : atP (putL [] 1 2 5) 1 2 = 5 := by decide
  have k2 : freeP (putL [] 1 2 5) 1 = 0 := by decide
  go_enter Try.func6, Try.ntmps6
  go_wp2_with fail
  refine (put_any none 0 [] 1 2 5 _ (.inl rfl) (by simp)).mono ?_
  rintro e w1 ⟨a1, c1, rfl, at1, hb1⟩
  have pl1 : PlAt w1 w.heap.size h s := (PlAt_new w _ h s).below hb1 (by simp)
  have hz1 : w.heap.size < w1.heap.size := by have := hb1.size; simp at this; omega
  have bl1 : Below w.heap.size w w1 := Below_after ((Below.refl _ _).alloc (Nat.le_refl _) _) hb1
  clear hb1
  go_wp2_with fail
  refine (at_any a1 c1 (putL [] 1 2 5) 1 2 _ at1 (by decide)).mono ?_
  rintro e w2 ⟨rfl, hb2⟩
  have pl2 := pl1.below hb2 hz1
  have hz2 : w.heap.size < w2.heap.size := Nat.lt_of_lt_of_le hz1 hb2.size
  have bl2 : Below w.heap.size w w2 := Below_after bl1 hb2
  have at2 := at1.below hb2
  clear hb2 pl1 hz1 bl1 at1
  go_wp2_with fail
  refine (free_any a1 c1 (putL [] 1 2 5) 1 _ at2 (by decide)).mono ?_
  rintro e w3 ⟨rfl, hb3⟩
  have pl3 := pl2.below hb3 hz2
  have hz3 : w.heap.size < w3.heap.size := Nat.lt_of_lt_of_le hz2 hb3.size
  have bl3 : Below w.heap.size w w3 := Below_after bl2 hb3
  clear hb3 pl2 hz2 bl2 at2
  go_wp2_with fail
  refine (good_any (some ⟨b, o, none⟩) c l _ (hw.below bl3) hm).mono ?_
  rintro e w4 ⟨r, rfl, hr, hb4⟩
  have pl4 := pl3.below hb4 hz3
  have hz4 : w.heap.size < w4.heap.size := Nat.lt_of_lt_of_le hz3 hb4.size
  have bl4 : Below w.heap.size w w4 := Below_after bl3 hb4
  clear hb4 pl3 hz3 bl3
  have hr0 : r = true := hr.2 hg
  subst hr0
  have hl24 := good_len hg
  clear hr
  go_wp2_with fail
  go_region_held3 (fun w' => w'.cell? ⟨w.heap.size, 0, none⟩ = some (.int .i64 h) ∧ w'.cell? ⟨w.heap.size, 1, none⟩ = some (.int .i64 s)) (first | exact pl16 | exact pl15 | exact pl14 | exact pl13 | exact pl12 | exact pl11 | exact pl10 | exact pl9 | exact pl8 | exact pl7 | exact pl6 | exact pl5 | exact pl4) (first
    | (go_at_call 40; refine (scheck_ok h s _ hp).mono ?_; rintro e w5 ⟨rfl, hb5⟩; have bl5 : Below w.heap.size w w5 := by { refine Below_after ?_ hb5; (repeat (first | exact bl16 | exact bl15 | exact bl14 | exact bl13 | exact bl12 | exact bl11 | exact bl10 | exact bl9 | exact bl8 | exact bl7 | exact bl6 | exact bl5 | exact bl4 | refine Below.drew ?_ | refine below_drewN ?_ _ | refine Below.alloc ?_ (by first | omega | (simp; omega)) _)) }; have pl5 : PlAt w5 w.heap.size h s := PlAt.below hb5 (by first | exact hz16 | exact hz15 | exact hz14 | exact hz13 | exact hz12 | exact hz11 | exact hz10 | exact hz9 | exact hz8 | exact hz7 | exact hz6 | exact hz5 | exact hz4) (by first | exact pl16 | exact pl15 | exact pl14 | exact pl13 | exact pl12 | exact pl11 | exact pl10 | exact pl9 | exact pl8 | exact pl7 | exact pl6 | exact pl5 | exact pl4); have hz5 : w.heap.size < w5.heap.size := by { have := hb5.size; (try simp at this); omega })
    | (go_at_call 41; refine (placeFault_any h s _ 0 (.inl ⟨hp, rfl⟩)).mono ?_; rintro e w6 ⟨rfl, hb6⟩; have bl6 : Below w.heap.size w w6 := by { refine Below_after ?_ hb6; (repeat (first | exact bl16 | exact bl15 | exact bl14 | exact bl13 | exact bl12 | exact bl11 | exact bl10 | exact bl9 | exact bl8 | exact bl7 | exact bl6 | exact bl5 | exact bl4 | refine Below.drew ?_ | refine below_drewN ?_ _ | refine Below.alloc ?_ (by first | omega | (simp; omega)) _)) }; have pl6 : PlAt w6 w.heap.size h s := PlAt.below hb6 (by first | exact hz16 | exact hz15 | exact hz14 | exact hz13 | exact hz12 | exact hz11 | exact hz10 | exact hz9 | exact hz8 | exact hz7 | exact hz6 | exact hz5 | exact hz4) (by first | exact pl16 | exact pl15 | exact pl14 | exact pl13 | exact pl12 | exact pl11 | exact pl10 | exact pl9 | exact pl8 | exact pl7 | exact pl6 | exact pl5 | exact pl4); have hz6 : w.heap.size < w6.heap.size := by { have := hb6.size; (try simp at this); omega })
    | (go_at_call 11; refine (sameS_nil _).mono ?_; rintro e w' ⟨rfl, hq⟩; obtain rfl := hq.symm)
    | (go_at_call 37; refine (at_any (some ⟨b, o, none⟩) c l h s _ (hw.below ?_) (by unfold maxLen; omega)).mono ?_; (repeat (first | exact bl16 | exact bl15 | exact bl14 | exact bl13 | exact bl12 | exact bl11 | exact bl10 | exact bl9 | exact bl8 | exact bl7 | exact bl6 | exact bl5 | exact bl4 | refine Below.drew ?_ | refine below_drewN ?_ _ | refine Below.alloc ?_ (by first | omega | (simp; omega)) _)); rintro e w7 ⟨rfl, hb7⟩; have bl7 : Below w.heap.size w w7 := by { refine Below_after ?_ hb7; (repeat (first | exact bl16 | exact bl15 | exact bl14 | exact bl13 | exact bl12 | exact bl11 | exact bl10 | exact bl9 | exact bl8 | exact bl7 | exact bl6 | exact bl5 | exact bl4 | refine Below.drew ?_ | refine below_drewN ?_ _ | refine Below.alloc ?_ (by first | omega | (simp; omega)) _)) }; have pl7 : PlAt w7 w.heap.size h s := PlAt.below hb7 (by first | exact hz16 | exact hz15 | exact hz14 | exact hz13 | exact hz12 | exact hz11 | exact hz10 | exact hz9 | exact hz8 | exact hz7 | exact hz6 | exact hz5 | exact hz4) (by first | exact pl16 | exact pl15 | exact pl14 | exact pl13 | exact pl12 | exact pl11 | exact pl10 | exact pl9 | exact pl8 | exact pl7 | exact pl6 | exact pl5 | exact pl4); have hz7 : w.heap.size < w7.heap.size := by { have := hb7.size; (try simp at this); omega })
    | (go_at_call 42; refine (atPlace_any (some ⟨b, o, none⟩) c l h s _ (hw.below ?_) (by omega)).mono ?_; (repeat (first | exact bl16 | exact bl15 | exact bl14 | exact bl13 | exact bl12 | exact bl11 | exact bl10 | exact bl9 | exact bl8 | exact bl7 | exact bl6 | exact bl5 | exact bl4 | refine Below.drew ?_ | refine below_drewN ?_ _ | refine Below.alloc ?_ (by first | omega | (simp; omega)) _)); rintro e w8 ⟨rfl, hb8⟩; have bl8 : Below w.heap.size w w8 := by { refine Below_after ?_ hb8; (repeat (first | exact bl16 | exact bl15 | exact bl14 | exact bl13 | exact bl12 | exact bl11 | exact bl10 | exact bl9 | exact bl8 | exact bl7 | exact bl6 | exact bl5 | exact bl4 | refine Below.drew ?_ | refine below_drewN ?_ _ | refine Below.alloc ?_ (by first | omega | (simp; omega)) _)) }; have pl8 : PlAt w8 w.heap.size h s := PlAt.below hb8 (by first | exact hz16 | exact hz15 | exact hz14 | exact hz13 | exact hz12 | exact hz11 | exact hz10 | exact hz9 | exact hz8 | exact hz7 | exact hz6 | exact hz5 | exact hz4) (by first | exact pl16 | exact pl15 | exact pl14 | exact pl13 | exact pl12 | exact pl11 | exact pl10 | exact pl9 | exact pl8 | exact pl7 | exact pl6 | exact pl5 | exact pl4); have hz8 : w.heap.size < w8.heap.size := by { have := hb8.size; (try simp at this); omega })
    | (go_at_call 38; refine (free_any (some ⟨b, o, none⟩) c l h _ (hw.below ?_) (by unfold maxLen; omega)).mono ?_; (repeat (first | exact bl16 | exact bl15 | exact bl14 | exact bl13 | exact bl12 | exact bl11 | exact bl10 | exact bl9 | exact bl8 | exact bl7 | exact bl6 | exact bl5 | exact bl4 | refine Below.drew ?_ | refine below_drewN ?_ _ | refine Below.alloc ?_ (by first | omega | (simp; omega)) _)); rintro e w9 ⟨rfl, hb9⟩; have bl9 : Below w.heap.size w w9 := by { refine Below_after ?_ hb9; (repeat (first | exact bl16 | exact bl15 | exact bl14 | exact bl13 | exact bl12 | exact bl11 | exact bl10 | exact bl9 | exact bl8 | exact bl7 | exact bl6 | exact bl5 | exact bl4 | refine Below.drew ?_ | refine below_drewN ?_ _ | refine Below.alloc ?_ (by first | omega | (simp; omega)) _)) }; have pl9 : PlAt w9 w.heap.size h s := PlAt.below hb9 (by first | exact hz16 | exact hz15 | exact hz14 | exact hz13 | exact hz12 | exact hz11 | exact hz10 | exact hz9 | exact hz8 | exact hz7 | exact hz6 | exact hz5 | exact hz4) (by first | exact pl16 | exact pl15 | exact pl14 | exact pl13 | exact pl12 | exact pl11 | exact pl10 | exact pl9 | exact pl8 | exact pl7 | exact pl6 | exact pl5 | exact pl4); have hz9 : w.heap.size < w9.heap.size := by { have := hb9.size; (try simp at this); omega })
    | (go_at_call 43; refine (freeSlot_any (some ⟨b, o, none⟩) c l h _ (hw.below ?_) (by omega)).mono ?_; (repeat (first | exact bl16 | exact bl15 | exact bl14 | exact bl13 | exact bl12 | exact bl11 | exact bl10 | exact bl9 | exact bl8 | exact bl7 | exact bl6 | exact bl5 | exact bl4 | refine Below.drew ?_ | refine below_drewN ?_ _ | refine Below.alloc ?_ (by first | omega | (simp; omega)) _)); rintro e w10 ⟨rfl, hb10⟩; have bl10 : Below w.heap.size w w10 := by { refine Below_after ?_ hb10; (repeat (first | exact bl16 | exact bl15 | exact bl14 | exact bl13 | exact bl12 | exact bl11 | exact bl10 | exact bl9 | exact bl8 | exact bl7 | exact bl6 | exact bl5 | exact bl4 | refine Below.drew ?_ | refine below_drewN ?_ _ | refine Below.alloc ?_ (by first | omega | (simp; omega)) _)) }; have pl10 : PlAt w10 w.heap.size h s := PlAt.below hb10 (by first | exact hz16 | exact hz15 | exact hz14 | exact hz13 | exact hz12 | exact hz11 | exact hz10 | exact hz9 | exact hz8 | exact hz7 | exact hz6 | exact hz5 | exact hz4) (by first | exact pl16 | exact pl15 | exact pl14 | exact pl13 | exact pl12 | exact pl11 | exact pl10 | exact pl9 | exact pl8 | exact pl7 | exact pl6 | exact pl5 | exact pl4); have hz10 : w.heap.size < w10.heap.size := by { have := hb10.size; (try simp at this); omega }))
  clear pl5 hb5 bl5 hz5 pl6 hb6 bl6 hz6 pl7 hb7 bl7 hz7 pl8 hb8 bl8 hz8 pl9 hb9 bl9 hz9 hb10 bl4 hz4 pl4
  go_wp2_with fail
  have hjl : j < l.length := (List.getElem?_eq_some_iff.1 hx).1
  refine (where_yes (some ⟨b, o, none⟩) c l id _ (hw.below bl10) (by omega) j x h1 hx).mono ?_
  rintro e w11 ⟨rfl, hb11⟩
  have pl11 : PlAt w11 w.heap.size h s := pl10.below hb11 hz10
  have bl11 : Below w.heap.size w w11 := Below_after bl10 hb11
  have hz11 : w.heap.size < w11.heap.size := Nat.lt_of_lt_of_le hz10 hb11.size
  clear hb11 pl10 bl10 hz10
  go_wp2_with fail
  have bA : Below w11.heap.size w11 (w11.alloc (.cells #[.int .i64 x.holder, .int .i64 x.slot] 56)) := (Below.refl _ _).alloc (Nat.le_refl _) _
  have ql : PlAt (w11.alloc (.cells #[.int .i64 x.holder, .int .i64 x.slot] 56)) w11.heap.size x.holder x.slot := PlAt_new w11 _ _ _
  have hqz : w11.heap.size < (w11.alloc (.cells #[.int .i64 x.holder, .int .i64 x.slot] 56)).heap.size := by simp
  generalize w11.alloc (.cells #[.int .i64 x.holder, .int .i64 x.slot] 56) = w12 at *
  have pl12 : PlAt w12 w.heap.size h s := pl11.below bA hz11
  have bl12 : Below w.heap.size w w12 := Below_after bl11 bA
  have hz12 : w.heap.size < w12.heap.size := by omega
  clear bA pl11 bl11
  obtain ⟨ql0, ql1⟩ := ql
  have pl12' := pl12
  obtain ⟨pq0, pq1⟩ := pl12'
  go_loop [10] (fun i => ∃ k : Nat, k ≤ j ∧ i = .int .i64 k) (fun i => l.length - (intOf i).toNat)
  case atStart => exact ⟨0, Nat.zero_le _, rfl⟩
  case round =>
    obtain ⟨k, hk, rfl⟩ := hrel
    have hlt : k < l.length := by omega
    by_cases hkj : k < j
    · obtain ⟨y, hy⟩ : ∃ y, l[k]? = some y := ⟨l[k], List.getElem?_eq_getElem hlt⟩
      obtain ⟨t1, t2, t3⟩ := (hxs k y hy).below bl12 hb
      have hne : (y.writ != id) = true := by have := idx_first h1 k y hkj hy; simpa [isW] using this
      clear hy
      go_wp2_with fail
      go_round
      case rel => exact ⟨k + 1, by omega, by go_num⟩
      case measure => simp [intOf]; omega
    · obtain rfl : k = j := by omega
      obtain ⟨t1, t2, t3⟩ := (hxs k x hx).below bl12 hb
      have hne : (x.writ != id) = false := by simpa [isW] using hpx
      have dl : decide ((k : Int) < (l.length : Int)) = true := by simp; omega
      clear hkj hk
      go_wp2_with fail
      go_quiet (fail)
      go_wp2_with fail
      have hpl := putL_len l h s id
      go_region_held3 (fun w' => w'.cell? ⟨w.heap.size, 0, none⟩ = some (.int .i64 h) ∧ w'.cell? ⟨w.heap.size, 1, none⟩ = some (.int .i64 s)) (first | exact pl16 | exact pl15 | exact pl14 | exact pl13 | exact pl12 | exact pl11 | exact pl10 | exact pl9 | exact pl8 | exact pl7 | exact pl6 | exact pl5 | exact pl4) (first
        | (go_at_call 41; refine (placeFault_any h s _ 0 (.inl ⟨hp, rfl⟩)).mono ?_; rintro e w13 ⟨rfl, hb13⟩; have bl13 : Below w.heap.size w w13 := by { refine Below_after ?_ hb13; (repeat (first | exact bl16 | exact bl15 | exact bl14 | exact bl13 | exact bl12 | exact bl11 | exact bl10 | exact bl9 | exact bl8 | exact bl7 | exact bl6 | exact bl5 | exact bl4 | refine Below.drew ?_ | refine below_drewN ?_ _ | refine Below.alloc ?_ (by first | omega | (simp; omega)) _)) }; have pl13 : PlAt w13 w.heap.size h s := PlAt.below hb13 (by first | exact hz16 | exact hz15 | exact hz14 | exact hz13 | exact hz12 | exact hz11 | exact hz10 | exact hz9 | exact hz8 | exact hz7 | exact hz6 | exact hz5 | exact hz4) (by first | exact pl16 | exact pl15 | exact pl14 | exact pl13 | exact pl12 | exact pl11 | exact pl10 | exact pl9 | exact pl8 | exact pl7 | exact pl6 | exact pl5 | exact pl4); have hz13 : w.heap.size < w13.heap.size := by { have := hb13.size; (try simp at this); omega })
        | (go_at_call 36; refine (put_any (some ⟨b, o, none⟩) c l h s id _ (hw.below ?_) (by omega)).mono ?_; (repeat (first | exact bl16 | exact bl15 | exact bl14 | exact bl13 | exact bl12 | exact bl11 | exact bl10 | exact bl9 | exact bl8 | exact bl7 | exact bl6 | exact bl5 | exact bl4 | refine Below.drew ?_ | refine below_drewN ?_ _ | refine Below.alloc ?_ (by first | omega | (simp; omega)) _)); rintro e w14 ⟨a14, c14, rfl, at14, hb14⟩; have bl14 : Below w.heap.size w w14 := by { refine Below_after ?_ hb14; (repeat (first | exact bl16 | exact bl15 | exact bl14 | exact bl13 | exact bl12 | exact bl11 | exact bl10 | exact bl9 | exact bl8 | exact bl7 | exact bl6 | exact bl5 | exact bl4 | refine Below.drew ?_ | refine below_drewN ?_ _ | refine Below.alloc ?_ (by first | omega | (simp; omega)) _)) }; have pl14 : PlAt w14 w.heap.size h s := PlAt.below hb14 (by first | exact hz16 | exact hz15 | exact hz14 | exact hz13 | exact hz12 | exact hz11 | exact hz10 | exact hz9 | exact hz8 | exact hz7 | exact hz6 | exact hz5 | exact hz4) (by first | exact pl16 | exact pl15 | exact pl14 | exact pl13 | exact pl12 | exact pl11 | exact pl10 | exact pl9 | exact pl8 | exact pl7 | exact pl6 | exact pl5 | exact pl4); have hz14 : w.heap.size < w14.heap.size := by { have := hb14.size; (try simp at this); omega })
        | (go_at_call 46; refine (putAt_any (some ⟨b, o, none⟩) c l h s id _ (hw.below ?_) (by omega) hg).mono ?_; (repeat (first | exact bl16 | exact bl15 | exact bl14 | exact bl13 | exact bl12 | exact bl11 | exact bl10 | exact bl9 | exact bl8 | exact bl7 | exact bl6 | exact bl5 | exact bl4 | refine Below.drew ?_ | refine below_drewN ?_ _ | refine Below.alloc ?_ (by first | omega | (simp; omega)) _)); rintro e w15 ⟨a15, c15, rfl, at15, hb15⟩; have bl15 : Below w.heap.size w w15 := by { refine Below_after ?_ hb15; (repeat (first | exact bl16 | exact bl15 | exact bl14 | exact bl13 | exact bl12 | exact bl11 | exact bl10 | exact bl9 | exact bl8 | exact bl7 | exact bl6 | exact bl5 | exact bl4 | refine Below.drew ?_ | refine below_drewN ?_ _ | refine Below.alloc ?_ (by first | omega | (simp; omega)) _)) }; have pl15 : PlAt w15 w.heap.size h s := PlAt.below hb15 (by first | exact hz16 | exact hz15 | exact hz14 | exact hz13 | exact hz12 | exact hz11 | exact hz10 | exact hz9 | exact hz8 | exact hz7 | exact hz6 | exact hz5 | exact hz4) (by first | exact pl16 | exact pl15 | exact pl14 | exact pl13 | exact pl12 | exact pl11 | exact pl10 | exact pl9 | exact pl8 | exact pl7 | exact pl6 | exact pl5 | exact pl4); have hz15 : w.heap.size < w15.heap.size := by { have := hb15.size; (try simp at this); omega })
        | (go_at_call 45; refine (sameHeld_true a14 a15 c14 c15 (putL l h s id) _ (at14.below hb15) at15 (by omega)).mono ?_; rintro e w16 ⟨rfl, hb16⟩; have bl16 : Below w.heap.size w w16 := by { refine Below_after ?_ hb16; (repeat (first | exact bl16 | exact bl15 | exact bl14 | exact bl13 | exact bl12 | exact bl11 | exact bl10 | exact bl9 | exact bl8 | exact bl7 | exact bl6 | exact bl5 | exact bl4 | refine Below.drew ?_ | refine below_drewN ?_ _ | refine Below.alloc ?_ (by first | omega | (simp; omega)) _)) }; have pl16 : PlAt w16 w.heap.size h s := PlAt.below hb16 (by first | exact hz16 | exact hz15 | exact hz14 | exact hz13 | exact hz12 | exact hz11 | exact hz10 | exact hz9 | exact hz8 | exact hz7 | exact hz6 | exact hz5 | exact hz4) (by first | exact pl16 | exact pl15 | exact pl14 | exact pl13 | exact pl12 | exact pl11 | exact pl10 | exact pl9 | exact pl8 | exact pl7 | exact pl6 | exact pl5 | exact pl4); have hz16 : w.heap.size < w16.heap.size := by { have := hb16.size; (try simp at this); omega }))
      go_wp2_with fail
      go_ret
      exact ⟨rfl, bl16⟩

end Go.Proofs.Ytnjncemjghmpoaa
