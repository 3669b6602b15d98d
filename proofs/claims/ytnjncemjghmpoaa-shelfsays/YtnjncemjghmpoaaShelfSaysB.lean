/- The walk of ShelfSays, where the place may not be; and all ways together. -/
import Derived.Test.YtnjncemjghmpoaaShelfSays
namespace Go.Proofs.Ytnjncemjghmpoaa
open Go.RowKit
set_option linter.unusedSimpArgs false

set_option maxHeartbeats 2000000 in
theorem ss_bad_nil (a : Option Addr) (c : Nat) (h s id : Int) (w : World) (hg : Good []) (hp : ¬ plOk h s) (h1 : idx (isW id) ([] : List Hd) = -1) :
    Calls Try.prog 6 #[.slice a ([] : List Hd).length c, .agg #[.int .i64 h, .int .i64 s], .int .i64 id] w fun e w' => e = .returned (.bool true) ∧ Below w.heap.size w w' := by
  have hw : HdsAt w a [] := .inl rfl
  have hm : ([] : List Hd).length ≤ maxLen := by simp
  have k1 : atP (putL [] 1 2 5) 1 2 = 5 := by decide
  have k2 : freeP (putL [] 1 2 5) 1 = 0 := by decide
  go_enter Try.func6, Try.ntmps6
  go_wp2_with fail
  refine (put_any none 0 [] 1 2 5 _ (.inl rfl) (by simp)).mono ?_
  rintro e w1 ⟨a1, c1, rfl, at1, hb1⟩
  have pl1 : PlAt w1 w.heap.size h s := (PlAt_new w _ h s).below hb1 (by simp)
  have hz1 : w.heap.size < w1.heap.size := by have := hb1.size; simp at this; omega
  have bl1 : Below w.heap.size w w1 := Below_after ((Below.refl _ _).alloc (Nat.le_refl _) _) hb1
  clear hb1
  go_wp2_with fail
  refine (at_any a1 c1 (putL [] 1 2 5) 1 2 _ at1 (by decide)).mono ?_
  rintro e w2 ⟨rfl, hb2⟩
  have pl2 := pl1.below hb2 hz1
  have hz2 : w.heap.size < w2.heap.size := Nat.lt_of_lt_of_le hz1 hb2.size
  have bl2 : Below w.heap.size w w2 := Below_after bl1 hb2
  have at2 := at1.below hb2
  clear hb2 pl1 hz1 bl1 at1
  go_wp2_with fail
  refine (free_any a1 c1 (putL [] 1 2 5) 1 _ at2 (by decide)).mono ?_
  rintro e w3 ⟨rfl, hb3⟩
  have pl3 := pl2.below hb3 hz2
  have hz3 : w.heap.size < w3.heap.size := Nat.lt_of_lt_of_le hz2 hb3.size
  have bl3 : Below w.heap.size w w3 := Below_after bl2 hb3
  clear hb3 pl2 hz2 bl2 at2
  go_wp2_with fail
  refine (good_any a c [] _ (hw.below bl3) hm).mono ?_
  rintro e w4 ⟨r, rfl, hr, hb4⟩
  have pl4 := pl3.below hb4 hz3
  have hz4 : w.heap.size < w4.heap.size := Nat.lt_of_lt_of_le hz3 hb4.size
  have bl4 : Below w.heap.size w w4 := Below_after bl3 hb4
  clear hb4 pl3 hz3 bl3
  have hr0 : r = true := hr.2 hg
  subst hr0
  have hl24 := good_len hg
  clear hr
  go_wp2_with fail
  go_region_held3 (fun w' => w'.cell? ⟨w.heap.size, 0, none⟩ = some (.int .i64 h) ∧ w'.cell? ⟨w.heap.size, 1, none⟩ = some (.int .i64 s)) (first | exact pl16 | exact pl15 | exact pl14 | exact pl13 | exact pl12 | exact pl11 | exact pl10 | exact pl9 | exact pl8 | exact pl7 | exact pl6 | exact pl5 | exact pl4) (first
    | (go_at_call 40; refine (scheck_bad h s _ hp).mono ?_; rintro e w5 ⟨rfl, hb5⟩; have bl5 : Below w.heap.size w w5 := by { refine Below_after ?_ hb5; (repeat (first | exact bl16 | exact bl15 | exact bl14 | exact bl13 | exact bl12 | exact bl11 | exact bl10 | exact bl9 | exact bl8 | exact bl7 | exact bl6 | exact bl5 | exact bl4 | refine Below.drew ?_ | refine below_drewN ?_ _ | refine Below.alloc ?_ (by first | omega | (simp; omega)) _)) }; have pl5 : PlAt w5 w.heap.size h s := PlAt.below hb5 (by first | exact hz16 | exact hz15 | exact hz14 | exact hz13 | exact hz12 | exact hz11 | exact hz10 | exact hz9 | exact hz8 | exact hz7 | exact hz6 | exact hz5 | exact hz4) (by first | exact pl16 | exact pl15 | exact pl14 | exact pl13 | exact pl12 | exact pl11 | exact pl10 | exact pl9 | exact pl8 | exact pl7 | exact pl6 | exact pl5 | exact pl4); have hz5 : w.heap.size < w5.heap.size := by { have := hb5.size; (try simp at this); omega })
    | (go_at_call 41; refine (placeFault_any h s _ 1 (.inr ⟨hp, rfl⟩)).mono ?_; rintro e w6 ⟨rfl, hb6⟩; have bl6 : Below w.heap.size w w6 := by { refine Below_after ?_ hb6; (repeat (first | exact bl16 | exact bl15 | exact bl14 | exact bl13 | exact bl12 | exact bl11 | exact bl10 | exact bl9 | exact bl8 | exact bl7 | exact bl6 | exact bl5 | exact bl4 | refine Below.drew ?_ | refine below_drewN ?_ _ | refine Below.alloc ?_ (by first | omega | (simp; omega)) _)) }; have pl6 : PlAt w6 w.heap.size h s := PlAt.below hb6 (by first | exact hz16 | exact hz15 | exact hz14 | exact hz13 | exact hz12 | exact hz11 | exact hz10 | exact hz9 | exact hz8 | exact hz7 | exact hz6 | exact hz5 | exact hz4) (by first | exact pl16 | exact pl15 | exact pl14 | exact pl13 | exact pl12 | exact pl11 | exact pl10 | exact pl9 | exact pl8 | exact pl7 | exact pl6 | exact pl5 | exact pl4); have hz6 : w.heap.size < w6.heap.size := by { have := hb6.size; (try simp at this); omega })
    | (go_at_call 11; refine (sameS_eq _ _ (by omega)).mono ?_; rintro e w' ⟨rfl, hq⟩; obtain rfl := hq.symm)
    | (go_at_call 37; refine (at_any a c [] h s _ (hw.below ?_) (by unfold maxLen; omega)).mono ?_; (repeat (first | exact bl16 | exact bl15 | exact bl14 | exact bl13 | exact bl12 | exact bl11 | exact bl10 | exact bl9 | exact bl8 | exact bl7 | exact bl6 | exact bl5 | exact bl4 | refine Below.drew ?_ | refine below_drewN ?_ _ | refine Below.alloc ?_ (by first | omega | (simp; omega)) _)); rintro e w7 ⟨rfl, hb7⟩; have bl7 : Below w.heap.size w w7 := by { refine Below_after ?_ hb7; (repeat (first | exact bl16 | exact bl15 | exact bl14 | exact bl13 | exact bl12 | exact bl11 | exact bl10 | exact bl9 | exact bl8 | exact bl7 | exact bl6 | exact bl5 | exact bl4 | refine Below.drew ?_ | refine below_drewN ?_ _ | refine Below.alloc ?_ (by first | omega | (simp; omega)) _)) }; have pl7 : PlAt w7 w.heap.size h s := PlAt.below hb7 (by first | exact hz16 | exact hz15 | exact hz14 | exact hz13 | exact hz12 | exact hz11 | exact hz10 | exact hz9 | exact hz8 | exact hz7 | exact hz6 | exact hz5 | exact hz4) (by first | exact pl16 | exact pl15 | exact pl14 | exact pl13 | exact pl12 | exact pl11 | exact pl10 | exact pl9 | exact pl8 | exact pl7 | exact pl6 | exact pl5 | exact pl4); have hz7 : w.heap.size < w7.heap.size := by { have := hb7.size; (try simp at this); omega })
    | (go_at_call 42; refine (atPlace_any a c [] h s _ (hw.below ?_) (by omega)).mono ?_; (repeat (first | exact bl16 | exact bl15 | exact bl14 | exact bl13 | exact bl12 | exact bl11 | exact bl10 | exact bl9 | exact bl8 | exact bl7 | exact bl6 | exact bl5 | exact bl4 | refine Below.drew ?_ | refine below_drewN ?_ _ | refine Below.alloc ?_ (by first | omega | (simp; omega)) _)); rintro e w8 ⟨rfl, hb8⟩; have bl8 : Below w.heap.size w w8 := by { refine Below_after ?_ hb8; (repeat (first | exact bl16 | exact bl15 | exact bl14 | exact bl13 | exact bl12 | exact bl11 | exact bl10 | exact bl9 | exact bl8 | exact bl7 | exact bl6 | exact bl5 | exact bl4 | refine Below.drew ?_ | refine below_drewN ?_ _ | refine Below.alloc ?_ (by first | omega | (simp; omega)) _)) }; have pl8 : PlAt w8 w.heap.size h s := PlAt.below hb8 (by first | exact hz16 | exact hz15 | exact hz14 | exact hz13 | exact hz12 | exact hz11 | exact hz10 | exact hz9 | exact hz8 | exact hz7 | exact hz6 | exact hz5 | exact hz4) (by first | exact pl16 | exact pl15 | exact pl14 | exact pl13 | exact pl12 | exact pl11 | exact pl10 | exact pl9 | exact pl8 | exact pl7 | exact pl6 | exact pl5 | exact pl4); have hz8 : w.heap.size < w8.heap.size := by { have := hb8.size; (try simp at this); omega })
    | (go_at_call 38; refine (free_any a c [] h _ (hw.below ?_) (by unfold maxLen; omega)).mono ?_; (repeat (first | exact bl16 | exact bl15 | exact bl14 | exact bl13 | exact bl12 | exact bl11 | exact bl10 | exact bl9 | exact bl8 | exact bl7 | exact bl6 | exact bl5 | exact bl4 | refine Below.drew ?_ | refine below_drewN ?_ _ | refine Below.alloc ?_ (by first | omega | (simp; omega)) _)); rintro e w9 ⟨rfl, hb9⟩; have bl9 : Below w.heap.size w w9 := by { refine Below_after ?_ hb9; (repeat (first | exact bl16 | exact bl15 | exact bl14 | exact bl13 | exact bl12 | exact bl11 | exact bl10 | exact bl9 | exact bl8 | exact bl7 | exact bl6 | exact bl5 | exact bl4 | refine Below.drew ?_ | refine below_drewN ?_ _ | refine Below.alloc ?_ (by first | omega | (simp; omega)) _)) }; have pl9 : PlAt w9 w.heap.size h s := PlAt.below hb9 (by first | exact hz16 | exact hz15 | exact hz14 | exact hz13 | exact hz12 | exact hz11 | exact hz10 | exact hz9 | exact hz8 | exact hz7 | exact hz6 | exact hz5 | exact hz4) (by first | exact pl16 | exact pl15 | exact pl14 | exact pl13 | exact pl12 | exact pl11 | exact pl10 | exact pl9 | exact pl8 | exact pl7 | exact pl6 | exact pl5 | exact pl4); have hz9 : w.heap.size < w9.heap.size := by { have := hb9.size; (try simp at this); omega })
    | (go_at_call 43; refine (freeSlot_any a c [] h _ (hw.below ?_) (by omega)).mono ?_; (repeat (first | exact bl16 | exact bl15 | exact bl14 | exact bl13 | exact bl12 | exact bl11 | exact bl10 | exact bl9 | exact bl8 | exact bl7 | exact bl6 | exact bl5 | exact bl4 | refine Below.drew ?_ | refine below_drewN ?_ _ | refine Below.alloc ?_ (by first | omega | (simp; omega)) _)); rintro e w10 ⟨rfl, hb10⟩; have bl10 : Below w.heap.size w w10 := by { refine Below_after ?_ hb10; (repeat (first | exact bl16 | exact bl15 | exact bl14 | exact bl13 | exact bl12 | exact bl11 | exact bl10 | exact bl9 | exact bl8 | exact bl7 | exact bl6 | exact bl5 | exact bl4 | refine Below.drew ?_ | refine below_drewN ?_ _ | refine Below.alloc ?_ (by first | omega | (simp; omega)) _)) }; have pl10 : PlAt w10 w.heap.size h s := PlAt.below hb10 (by first | exact hz16 | exact hz15 | exact hz14 | exact hz13 | exact hz12 | exact hz11 | exact hz10 | exact hz9 | exact hz8 | exact hz7 | exact hz6 | exact hz5 | exact hz4) (by first | exact pl16 | exact pl15 | exact pl14 | exact pl13 | exact pl12 | exact pl11 | exact pl10 | exact pl9 | exact pl8 | exact pl7 | exact pl6 | exact pl5 | exact pl4); have hz10 : w.heap.size < w10.heap.size := by { have := hb10.size; (try simp at this); omega }))
  clear pl5 hb5 bl5 hz5 pl6 hb6 bl6 hz6 pl7 hb7 bl7 hz7 pl8 hb8 bl8 hz8 pl9 hb9 bl9 hz9 hb10 bl4 hz4 pl4
  go_wp2_with fail
  refine (where_no a c [] id _ (hw.below bl10) (by omega) h1).mono ?_
  rintro e w11 ⟨rfl, hb11⟩
  have pl11 : PlAt w11 w.heap.size h s := pl10.below hb11 hz10
  have bl11 : Below w.heap.size w w11 := Below_after bl10 hb11
  have hz11 : w.heap.size < w11.heap.size := Nat.lt_of_lt_of_le hz10 hb11.size
  clear hb11 pl10 bl10 hz10
  go_wp2_with fail
  have bA : Below w11.heap.size w11 (w11.alloc (.cells #[.int .i64 0, .int .i64 0] 56)) := (Below.refl _ _).alloc (Nat.le_refl _) _
  have ql : PlAt (w11.alloc (.cells #[.int .i64 0, .int .i64 0] 56)) w11.heap.size 0 0 := PlAt_new w11 _ _ _
  have hqz : w11.heap.size < (w11.alloc (.cells #[.int .i64 0, .int .i64 0] 56)).heap.size := by simp
  generalize w11.alloc (.cells #[.int .i64 0, .int .i64 0] 56) = w12 at *
  have pl12 : PlAt w12 w.heap.size h s := pl11.below bA hz11
  have bl12 : Below w.heap.size w w12 := Below_after bl11 bA
  have hz12 : w.heap.size < w12.heap.size := by omega
  clear bA pl11 bl11
  obtain ⟨ql0, ql1⟩ := ql
  have pl12' := pl12
  obtain ⟨pq0, pq1⟩ := pl12'
  refine wp_loop_rounds 1 ?_
  rw [rounds_succ]
  go_wp2_with fail
  go_quiet (fail)
  go_wp2_with fail
  refine wp_region_held_drew (S := (fun w' => w'.cell? ⟨w.heap.size, 0, none⟩ = some (.int .i64 h) ∧ w'.cell? ⟨w.heap.size, 1, none⟩ = some (.int .i64 s))) (by kernel_rfl) ?_ (fun hHeld => ?_)
  · exact pl12
  refine wpAnyH_take (i := 0) (oi := ({ dst := some 99, op := Op.load 56 (Operand.tmp 4), type := 56, pos := "law.go:137", after := #[], guard := none } : Oper)) (v := .agg #[.int .i64 h, .int .i64 s]) rfl (by kernel_rfl) (by kernel_rfl) (by kernel_rfl) (fun _ _ _ h => h) (Or.inl ⟨by rfl, ?_⟩) (by assumption) ?_
  · intro w hSw; (try dsimp only at hSw); go_simp
  (try simp only [Act.put, List.setIfInBounds_toArray, List.set_cons_zero, List.set_cons_succ])
  refine wpAnyH_ready (rs := [1]) (by kernel_rfl) (by simp) ?_
  refine AllReadyH.cons (o := ({ dst := some 100, op := Op.call { callee := Callee.value (Operand.func 41), args := #[Operand.tmp 99], argTypes := #[56] }, type := 3, pos := "law.go:137", after := #[{ on := 0, ground := Ground.data }], guard := none } : Oper)) rfl (fun K hK => ?_) AllReadyH.nil
  go_wp2_with (go_at_call 41; refine (placeFault_any h s _ 1 (.inr ⟨hp, rfl⟩)).mono ?_; rintro e w13 ⟨rfl, hb13⟩; have bl13 : Below w.heap.size w w13 := by { refine Below_after ?_ hb13; (repeat (first | exact bl16 | exact bl15 | exact bl14 | exact bl13 | exact bl12 | exact bl11 | exact bl10 | exact bl9 | exact bl8 | exact bl7 | exact bl6 | exact bl5 | exact bl4 | refine Below.drew ?_ | refine below_drewN ?_ _ | refine Below.alloc ?_ (by first | omega | (simp; omega)) _)) }; have pl13 : PlAt w13 w.heap.size h s := PlAt.below hb13 (by first | exact hz16 | exact hz15 | exact hz14 | exact hz13 | exact hz12 | exact hz11 | exact hz10 | exact hz9 | exact hz8 | exact hz7 | exact hz6 | exact hz5 | exact hz4) (by first | exact pl16 | exact pl15 | exact pl14 | exact pl13 | exact pl12 | exact pl11 | exact pl10 | exact pl9 | exact pl8 | exact pl7 | exact pl6 | exact pl5 | exact pl4); have hz13 : w.heap.size < w13.heap.size := by { have := hb13.size; (try simp at this); omega })
  refine hK.out _ _ ?_ (fun hHeld => ?_)
  · exact pl13
  clear hK K
  (try simp only [Act.put, List.setIfInBounds_toArray, List.set_cons_zero, List.set_cons_succ])
  refine wpAnyH_take (i := 2) (oi := ({ dst := some 101, op := Op.binOp BinOp.gtr 3 (Operand.tmp 100) (Operand.const (Value.int IntKind.i64 0)) 3, type := 4, pos := "law.go:137", after := #[{ on := 1, ground := Ground.data }], guard := none } : Oper)) (v := .bool true) rfl (by kernel_rfl) (by kernel_rfl) (by kernel_rfl) (fun _ _ _ h => h) (Or.inl ⟨by rfl, ?_⟩) (by assumption) ?_
  · intro w hSw; (try dsimp only at hSw); go_simp
  (try simp only [Act.put, List.setIfInBounds_toArray, List.set_cons_zero, List.set_cons_succ])
  refine wpAnyH_take (i := 3) (oi := ({ dst := some 102, op := Op.move (Operand.tmp 101), type := 4, pos := "law.go:137", after := #[{ on := 2, ground := Ground.data }, { on := 1, ground := Ground.chain }], guard := none } : Oper)) (v := .bool true) rfl (by kernel_rfl) (by kernel_rfl) (by kernel_rfl) (fun _ _ _ h => h) (Or.inl ⟨by rfl, ?_⟩) (by assumption) ?_
  · intro w hSw; (try dsimp only at hSw); go_simp
  (try simp only [Act.put, List.setIfInBounds_toArray, List.set_cons_zero, List.set_cons_succ])
  refine wpAnyH_take (i := 4) (oi := ({ dst := some 103, op := Op.move (Operand.tmp 0), type := 54, pos := "law.go:137", after := #[{ on := 3, ground := Ground.guard }], guard := some (3, false) } : Oper)) (v := undef) rfl (by kernel_rfl) (by kernel_rfl) (by kernel_rfl) (fun _ _ _ h => h) (Or.inr ⟨by rfl, rfl⟩) (by assumption) ?_
  (try simp only [Act.put, List.setIfInBounds_toArray, List.set_cons_zero, List.set_cons_succ])
  refine wpAnyH_take (i := 5) (oi := ({ dst := some 104, op := Op.load 56 (Operand.tmp 4), type := 56, pos := "law.go:137", after := #[{ on := 3, ground := Ground.guard }], guard := some (3, false) } : Oper)) (v := undef) rfl (by kernel_rfl) (by kernel_rfl) (by kernel_rfl) (fun _ _ _ h => h) (Or.inr ⟨by rfl, rfl⟩) (by assumption) ?_
  (try simp only [Act.put, List.setIfInBounds_toArray, List.set_cons_zero, List.set_cons_succ])
  refine wpAnyH_take (i := 6) (oi := ({ dst := some 105, op := Op.move (Operand.tmp 2), type := 3, pos := "law.go:137", after := #[{ on := 3, ground := Ground.guard }], guard := some (3, false) } : Oper)) (v := undef) rfl (by kernel_rfl) (by kernel_rfl) (by kernel_rfl) (fun _ _ _ h => h) (Or.inr ⟨by rfl, rfl⟩) (by assumption) ?_
  (try simp only [Act.put, List.setIfInBounds_toArray, List.set_cons_zero, List.set_cons_succ])
  refine wpAnyH_take (i := 8) (oi := ({ dst := some 107, op := Op.move (Operand.tmp 0), type := 54, pos := "law.go:137", after := #[{ on := 3, ground := Ground.guard }], guard := some (3, false) } : Oper)) (v := undef) rfl (by kernel_rfl) (by kernel_rfl) (by kernel_rfl) (fun _ _ _ h => h) (Or.inr ⟨by rfl, rfl⟩) (by assumption) ?_
  (try simp only [Act.put, List.setIfInBounds_toArray, List.set_cons_zero, List.set_cons_succ])
  refine wpAnyH_take (i := 9) (oi := ({ dst := some 108, op := Op.load 56 (Operand.tmp 4), type := 56, pos := "law.go:137", after := #[{ on := 3, ground := Ground.guard }], guard := some (3, false) } : Oper)) (v := undef) rfl (by kernel_rfl) (by kernel_rfl) (by kernel_rfl) (fun _ _ _ h => h) (Or.inr ⟨by rfl, rfl⟩) (by assumption) ?_
  (try simp only [Act.put, List.setIfInBounds_toArray, List.set_cons_zero, List.set_cons_succ])
  refine wpAnyH_take (i := 10) (oi := ({ dst := some 109, op := Op.move (Operand.tmp 2), type := 3, pos := "law.go:137", after := #[{ on := 3, ground := Ground.guard }], guard := some (3, false) } : Oper)) (v := undef) rfl (by kernel_rfl) (by kernel_rfl) (by kernel_rfl) (fun _ _ _ h => h) (Or.inr ⟨by rfl, rfl⟩) (by assumption) ?_
  (try simp only [Act.put, List.setIfInBounds_toArray, List.set_cons_zero, List.set_cons_succ])
  first
    | refine wpAnyH_take (i := 7) (oi := ({ dst := some 106, op := Op.call { callee := Callee.value (Operand.func 36), args := #[Operand.tmp 103, Operand.tmp 104, Operand.tmp 105], argTypes := #[54, 56, 3] }, type := 54, pos := "law.go:137", after := #[{ on := 4, ground := Ground.data }, { on := 5, ground := Ground.data }, { on := 6, ground := Ground.data }, { on := 3, ground := Ground.chain }, { on := 3, ground := Ground.guard }], guard := some (3, false) } : Oper)) (v := undef) rfl (by kernel_rfl) (by kernel_rfl) (by kernel_rfl) (fun _ _ _ h => h) (Or.inr ⟨by rfl, rfl⟩) (by assumption) ?_
    | (refine wpAnyH_ready (rs := [7]) (by kernel_rfl) (by simp) ?_; refine AllReadyH.cons (o := ({ dst := some 106, op := Op.call { callee := Callee.value (Operand.func 36), args := #[Operand.tmp 103, Operand.tmp 104, Operand.tmp 105], argTypes := #[54, 56, 3] }, type := 54, pos := "law.go:137", after := #[{ on := 4, ground := Ground.data }, { on := 5, ground := Ground.data }, { on := 6, ground := Ground.data }, { on := 3, ground := Ground.chain }, { on := 3, ground := Ground.guard }], guard := some (3, false) } : Oper)) rfl (fun K hK => ?_) AllReadyH.nil; go_wp2_with fail; refine hK.out _ _ ?_ (fun hHeld => ?_); exact pl13; clear hK K; (try simp only [Act.put, List.setIfInBounds_toArray, List.set_cons_zero, List.set_cons_succ]))
  (try simp only [Act.put, List.setIfInBounds_toArray, List.set_cons_zero, List.set_cons_succ])
  first
    | refine wpAnyH_take (i := 11) (oi := ({ dst := some 110, op := Op.call { callee := Callee.value (Operand.func 46), args := #[Operand.tmp 107, Operand.tmp 108, Operand.tmp 109], argTypes := #[54, 56, 3] }, type := 54, pos := "law.go:137", after := #[{ on := 8, ground := Ground.data }, { on := 9, ground := Ground.data }, { on := 10, ground := Ground.data }, { on := 7, ground := Ground.chain }, { on := 3, ground := Ground.guard }], guard := some (3, false) } : Oper)) (v := undef) rfl (by kernel_rfl) (by kernel_rfl) (by kernel_rfl) (fun _ _ _ h => h) (Or.inr ⟨by rfl, rfl⟩) (by assumption) ?_
    | (refine wpAnyH_ready (rs := [11]) (by kernel_rfl) (by simp) ?_; refine AllReadyH.cons (o := ({ dst := some 110, op := Op.call { callee := Callee.value (Operand.func 46), args := #[Operand.tmp 107, Operand.tmp 108, Operand.tmp 109], argTypes := #[54, 56, 3] }, type := 54, pos := "law.go:137", after := #[{ on := 8, ground := Ground.data }, { on := 9, ground := Ground.data }, { on := 10, ground := Ground.data }, { on := 7, ground := Ground.chain }, { on := 3, ground := Ground.guard }], guard := some (3, false) } : Oper)) rfl (fun K hK => ?_) AllReadyH.nil; go_wp2_with fail; refine hK.out _ _ ?_ (fun hHeld => ?_); exact pl13; clear hK K; (try simp only [Act.put, List.setIfInBounds_toArray, List.set_cons_zero, List.set_cons_succ]))
  (try simp only [Act.put, List.setIfInBounds_toArray, List.set_cons_zero, List.set_cons_succ])
  first
    | refine wpAnyH_take (i := 12) (oi := ({ dst := some 111, op := Op.call { callee := Callee.value (Operand.func 45), args := #[Operand.tmp 106, Operand.tmp 110], argTypes := #[54, 54] }, type := 4, pos := "law.go:137", after := #[{ on := 7, ground := Ground.data }, { on := 11, ground := Ground.data }, { on := 11, ground := Ground.chain }, { on := 3, ground := Ground.guard }], guard := some (3, false) } : Oper)) (v := undef) rfl (by kernel_rfl) (by kernel_rfl) (by kernel_rfl) (fun _ _ _ h => h) (Or.inr ⟨by rfl, rfl⟩) (by assumption) ?_
    | (refine wpAnyH_ready (rs := [12]) (by kernel_rfl) (by simp) ?_; refine AllReadyH.cons (o := ({ dst := some 111, op := Op.call { callee := Callee.value (Operand.func 45), args := #[Operand.tmp 106, Operand.tmp 110], argTypes := #[54, 54] }, type := 4, pos := "law.go:137", after := #[{ on := 7, ground := Ground.data }, { on := 11, ground := Ground.data }, { on := 11, ground := Ground.chain }, { on := 3, ground := Ground.guard }], guard := some (3, false) } : Oper)) rfl (fun K hK => ?_) AllReadyH.nil; go_wp2_with fail; refine hK.out _ _ ?_ (fun hHeld => ?_); exact pl13; clear hK K; (try simp only [Act.put, List.setIfInBounds_toArray, List.set_cons_zero, List.set_cons_succ]))
  (try simp only [Act.put, List.setIfInBounds_toArray, List.set_cons_zero, List.set_cons_succ])
  refine wpAnyH_take (i := 13) (oi := ({ dst := some 112, op := Op.pick (Operand.tmp 102) (Operand.const (Value.bool true)) (Operand.tmp 111), type := 4, pos := "law.go:137", after := #[{ on := 3, ground := Ground.data }, { on := 12, ground := Ground.data }], guard := none } : Oper)) (v := .bool true) rfl (by kernel_rfl) (by kernel_rfl) (by kernel_rfl) (fun _ _ _ h => h) (Or.inl ⟨by rfl, ?_⟩) (by assumption) ?_
  · intro w hSw; (try dsimp only at hSw); go_simp
  (try simp only [Act.put, List.setIfInBounds_toArray, List.set_cons_zero, List.set_cons_succ])
  first
    | (refine wpAnyH_take (i := 14) (oi := ({ dst := some 6, op := Op.assign (Operand.tmp 112), type := 4, pos := "law.go:137", after := #[{ on := 13, ground := Ground.data }, { on := 12, ground := Ground.chain }, { on := 0, ground := Ground.phase }, { on := 1, ground := Ground.phase }, { on := 2, ground := Ground.phase }, { on := 3, ground := Ground.phase }, { on := 4, ground := Ground.phase }, { on := 5, ground := Ground.phase }, { on := 6, ground := Ground.phase }, { on := 7, ground := Ground.phase }, { on := 8, ground := Ground.phase }, { on := 9, ground := Ground.phase }, { on := 10, ground := Ground.phase }, { on := 11, ground := Ground.phase }, { on := 12, ground := Ground.phase }, { on := 13, ground := Ground.phase }], guard := none } : Oper)) (v := .bool true) rfl (by kernel_rfl) (by kernel_rfl) (by kernel_rfl) (fun _ _ _ h => h) (Or.inl ⟨by rfl, ?_⟩) (by assumption) ?_; · intro w hSw; (try dsimp only at hSw); go_simp; (try simp only [Act.put, List.setIfInBounds_toArray, List.set_cons_zero, List.set_cons_succ]))
    | (refine wpAnyH_ready (rs := [14]) (by kernel_rfl) (by simp) ?_; refine AllReadyH.cons (o := ({ dst := some 6, op := Op.assign (Operand.tmp 112), type := 4, pos := "law.go:137", after := #[{ on := 13, ground := Ground.data }, { on := 12, ground := Ground.chain }, { on := 0, ground := Ground.phase }, { on := 1, ground := Ground.phase }, { on := 2, ground := Ground.phase }, { on := 3, ground := Ground.phase }, { on := 4, ground := Ground.phase }, { on := 5, ground := Ground.phase }, { on := 6, ground := Ground.phase }, { on := 7, ground := Ground.phase }, { on := 8, ground := Ground.phase }, { on := 9, ground := Ground.phase }, { on := 10, ground := Ground.phase }, { on := 11, ground := Ground.phase }, { on := 12, ground := Ground.phase }, { on := 13, ground := Ground.phase }], guard := none } : Oper)) rfl (fun K hK => ?_) AllReadyH.nil; go_wp2_with fail; refine hK.out _ _ ?_ (fun hHeld => ?_); exact pl13; clear hK K; (try simp only [Act.put, List.setIfInBounds_toArray, List.set_cons_zero, List.set_cons_succ]))
  refine wpAnyH_done (by kernel_rfl) ?_ _
  go_wp2_with fail
  go_ret
  exact ⟨rfl, bl13⟩

set_option maxHeartbeats 2000000 in
theorem ss_bad_no (b o : Nat) (l : List Hd) (c : Nat) (h s id : Int) (w : World) (hb : b < w.heap.size) (hxs : ∀ j x, l[j]? = some x → HdAt w b (o + j * 3) x) (hm : l.length ≤ maxLen) (hg : Good l) (hp : ¬ plOk h s) (h1 : idx (isW id) l = -1) :
    Calls Try.prog 6 #[.slice (some ⟨b, o, none⟩) l.length c, .agg #[.int .i64 h, .int .i64 s], .int .i64 id] w fun e w' => e = .returned (.bool true) ∧ Below w.heap.size w w' := by
  have hw : HdsAt w (some ⟨b, o, none⟩) l := .inr ⟨b, o, rfl, hb, hxs⟩
  have k1 : atP (putL [] 1 2 5) 1 2 = 5 := by decide
  have k2 : freeP (putL [] 1 2 5) 1 = 0 := by decide
  go_enter Try.func6, Try.ntmps6
  go_wp2_with fail
  refine (put_any none 0 [] 1 2 5 _ (.inl rfl) (by simp)).mono ?_
  rintro e w1 ⟨a1, c1, rfl, at1, hb1⟩
  have pl1 : PlAt w1 w.heap.size h s := (PlAt_new w _ h s).below hb1 (by simp)
  have hz1 : w.heap.size < w1.heap.size := by have := hb1.size; simp at this; omega
  have bl1 : Below w.heap.size w w1 := Below_after ((Below.refl _ _).alloc (Nat.le_refl _) _) hb1
  clear hb1
  go_wp2_with fail
  refine (at_any a1 c1 (putL [] 1 2 5) 1 2 _ at1 (by decide)).mono ?_
  rintro e w2 ⟨rfl, hb2⟩
  have pl2 := pl1.below hb2 hz1
  have hz2 : w.heap.size < w2.heap.size := Nat.lt_of_lt_of_le hz1 hb2.size
  have bl2 : Below w.heap.size w w2 := Below_after bl1 hb2
  have at2 := at1.below hb2
  clear hb2 pl1 hz1 bl1 at1
  go_wp2_with fail
  refine (free_any a1 c1 (putL [] 1 2 5) 1 _ at2 (by decide)).mono ?_
  rintro e w3 ⟨rfl, hb3⟩
  have pl3 := pl2.below hb3 hz2
  have hz3 : w.heap.size < w3.heap.size := Nat.lt_of_lt_of_le hz2 hb3.size
  have bl3 : Below w.heap.size w w3 := Below_after bl2 hb3
  clear hb3 pl2 hz2 bl2 at2
  go_wp2_with fail
  refine (good_any (some ⟨b, o, none⟩) c l _ (hw.below bl3) hm).mono ?_
  rintro e w4 ⟨r, rfl, hr, hb4⟩
  have pl4 := pl3.below hb4 hz3
  have hz4 : w.heap.size < w4.heap.size := Nat.lt_of_lt_of_le hz3 hb4.size
  have bl4 : Below w.heap.size w w4 := Below_after bl3 hb4
  clear hb4 pl3 hz3 bl3
  have hr0 : r = true := hr.2 hg
  subst hr0
  have hl24 := good_len hg
  clear hr
  go_wp2_with fail
  go_region_held3 (fun w' => w'.cell? ⟨w.heap.size, 0, none⟩ = some (.int .i64 h) ∧ w'.cell? ⟨w.heap.size, 1, none⟩ = some (.int .i64 s)) (first | exact pl16 | exact pl15 | exact pl14 | exact pl13 | exact pl12 | exact pl11 | exact pl10 | exact pl9 | exact pl8 | exact pl7 | exact pl6 | exact pl5 | exact pl4) (first
    | (go_at_call 40; refine (scheck_bad h s _ hp).mono ?_; rintro e w5 ⟨rfl, hb5⟩; have bl5 : Below w.heap.size w w5 := by { refine Below_after ?_ hb5; (repeat (first | exact bl16 | exact bl15 | exact bl14 | exact bl13 | exact bl12 | exact bl11 | exact bl10 | exact bl9 | exact bl8 | exact bl7 | exact bl6 | exact bl5 | exact bl4 | refine Below.drew ?_ | refine below_drewN ?_ _ | refine Below.alloc ?_ (by first | omega | (simp; omega)) _)) }; have pl5 : PlAt w5 w.heap.size h s := PlAt.below hb5 (by first | exact hz16 | exact hz15 | exact hz14 | exact hz13 | exact hz12 | exact hz11 | exact hz10 | exact hz9 | exact hz8 | exact hz7 | exact hz6 | exact hz5 | exact hz4) (by first | exact pl16 | exact pl15 | exact pl14 | exact pl13 | exact pl12 | exact pl11 | exact pl10 | exact pl9 | exact pl8 | exact pl7 | exact pl6 | exact pl5 | exact pl4); have hz5 : w.heap.size < w5.heap.size := by { have := hb5.size; (try simp at this); omega })
    | (go_at_call 41; refine (placeFault_any h s _ 1 (.inr ⟨hp, rfl⟩)).mono ?_; rintro e w6 ⟨rfl, hb6⟩; have bl6 : Below w.heap.size w w6 := by { refine Below_after ?_ hb6; (repeat (first | exact bl16 | exact bl15 | exact bl14 | exact bl13 | exact bl12 | exact bl11 | exact bl10 | exact bl9 | exact bl8 | exact bl7 | exact bl6 | exact bl5 | exact bl4 | refine Below.drew ?_ | refine below_drewN ?_ _ | refine Below.alloc ?_ (by first | omega | (simp; omega)) _)) }; have pl6 : PlAt w6 w.heap.size h s := PlAt.below hb6 (by first | exact hz16 | exact hz15 | exact hz14 | exact hz13 | exact hz12 | exact hz11 | exact hz10 | exact hz9 | exact hz8 | exact hz7 | exact hz6 | exact hz5 | exact hz4) (by first | exact pl16 | exact pl15 | exact pl14 | exact pl13 | exact pl12 | exact pl11 | exact pl10 | exact pl9 | exact pl8 | exact pl7 | exact pl6 | exact pl5 | exact pl4); have hz6 : w.heap.size < w6.heap.size := by { have := hb6.size; (try simp at this); omega })
    | (go_at_call 11; refine (sameS_eq _ _ (by omega)).mono ?_; rintro e w' ⟨rfl, hq⟩; obtain rfl := hq.symm)
    | (go_at_call 37; refine (at_any (some ⟨b, o, none⟩) c l h s _ (hw.below ?_) (by unfold maxLen; omega)).mono ?_; (repeat (first | exact bl16 | exact bl15 | exact bl14 | exact bl13 | exact bl12 | exact bl11 | exact bl10 | exact bl9 | exact bl8 | exact bl7 | exact bl6 | exact bl5 | exact bl4 | refine Below.drew ?_ | refine below_drewN ?_ _ | refine Below.alloc ?_ (by first | omega | (simp; omega)) _)); rintro e w7 ⟨rfl, hb7⟩; have bl7 : Below w.heap.size w w7 := by { refine Below_after ?_ hb7; (repeat (first | exact bl16 | exact bl15 | exact bl14 | exact bl13 | exact bl12 | exact bl11 | exact bl10 | exact bl9 | exact bl8 | exact bl7 | exact bl6 | exact bl5 | exact bl4 | refine Below.drew ?_ | refine below_drewN ?_ _ | refine Below.alloc ?_ (by first | omega | (simp; omega)) _)) }; have pl7 : PlAt w7 w.heap.size h s := PlAt.below hb7 (by first | exact hz16 | exact hz15 | exact hz14 | exact hz13 | exact hz12 | exact hz11 | exact hz10 | exact hz9 | exact hz8 | exact hz7 | exact hz6 | exact hz5 | exact hz4) (by first | exact pl16 | exact pl15 | exact pl14 | exact pl13 | exact pl12 | exact pl11 | exact pl10 | exact pl9 | exact pl8 | exact pl7 | exact pl6 | exact pl5 | exact pl4); have hz7 : w.heap.size < w7.heap.size := by { have := hb7.size; (try simp at this); omega })
    | (go_at_call 42; refine (atPlace_any (some ⟨b, o, none⟩) c l h s _ (hw.below ?_) (by omega)).mono ?_; (repeat (first | exact bl16 | exact bl15 | exact bl14 | exact bl13 | exact bl12 | exact bl11 | exact bl10 | exact bl9 | exact bl8 | exact bl7 | exact bl6 | exact bl5 | exact bl4 | refine Below.drew ?_ | refine below_drewN ?_ _ | refine Below.alloc ?_ (by first | omega | (simp; omega)) _)); rintro e w8 ⟨rfl, hb8⟩; have bl8 : Below w.heap.size w w8 := by { refine Below_after ?_ hb8; (repeat (first | exact bl16 | exact bl15 | exact bl14 | exact bl13 | exact bl12 | exact bl11 | exact bl10 | exact bl9 | exact bl8 | exact bl7 | exact bl6 | exact bl5 | exact bl4 | refine Below.drew ?_ | refine below_drewN ?_ _ | refine Below.alloc ?_ (by first | omega | (simp; omega)) _)) }; have pl8 : PlAt w8 w.heap.size h s := PlAt.below hb8 (by first | exact hz16 | exact hz15 | exact hz14 | exact hz13 | exact hz12 | exact hz11 | exact hz10 | exact hz9 | exact hz8 | exact hz7 | exact hz6 | exact hz5 | exact hz4) (by first | exact pl16 | exact pl15 | exact pl14 | exact pl13 | exact pl12 | exact pl11 | exact pl10 | exact pl9 | exact pl8 | exact pl7 | exact pl6 | exact pl5 | exact pl4); have hz8 : w.heap.size < w8.heap.size := by { have := hb8.size; (try simp at this); omega })
    | (go_at_call 38; refine (free_any (some ⟨b, o, none⟩) c l h _ (hw.below ?_) (by unfold maxLen; omega)).mono ?_; (repeat (first | exact bl16 | exact bl15 | exact bl14 | exact bl13 | exact bl12 | exact bl11 | exact bl10 | exact bl9 | exact bl8 | exact bl7 | exact bl6 | exact bl5 | exact bl4 | refine Below.drew ?_ | refine below_drewN ?_ _ | refine Below.alloc ?_ (by first | omega | (simp; omega)) _)); rintro e w9 ⟨rfl, hb9⟩; have bl9 : Below w.heap.size w w9 := by { refine Below_after ?_ hb9; (repeat (first | exact bl16 | exact bl15 | exact bl14 | exact bl13 | exact bl12 | exact bl11 | exact bl10 | exact bl9 | exact bl8 | exact bl7 | exact bl6 | exact bl5 | exact bl4 | refine Below.drew ?_ | refine below_drewN ?_ _ | refine Below.alloc ?_ (by first | omega | (simp; omega)) _)) }; have pl9 : PlAt w9 w.heap.size h s := PlAt.below hb9 (by first | exact hz16 | exact hz15 | exact hz14 | exact hz13 | exact hz12 | exact hz11 | exact hz10 | exact hz9 | exact hz8 | exact hz7 | exact hz6 | exact hz5 | exact hz4) (by first | exact pl16 | exact pl15 | exact pl14 | exact pl13 | exact pl12 | exact pl11 | exact pl10 | exact pl9 | exact pl8 | exact pl7 | exact pl6 | exact pl5 | exact pl4); have hz9 : w.heap.size < w9.heap.size := by { have := hb9.size; (try simp at this); omega })
    | (go_at_call 43; refine (freeSlot_any (some ⟨b, o, none⟩) c l h _ (hw.below ?_) (by omega)).mono ?_; (repeat (first | exact bl16 | exact bl15 | exact bl14 | exact bl13 | exact bl12 | exact bl11 | exact bl10 | exact bl9 | exact bl8 | exact bl7 | exact bl6 | exact bl5 | exact bl4 | refine Below.drew ?_ | refine below_drewN ?_ _ | refine Below.alloc ?_ (by first | omega | (simp; omega)) _)); rintro e w10 ⟨rfl, hb10⟩; have bl10 : Below w.heap.size w w10 := by { refine Below_after ?_ hb10; (repeat (first | exact bl16 | exact bl15 | exact bl14 | exact bl13 | exact bl12 | exact bl11 | exact bl10 | exact bl9 | exact bl8 | exact bl7 | exact bl6 | exact bl5 | exact bl4 | refine Below.drew ?_ | refine below_drewN ?_ _ | refine Below.alloc ?_ (by first | omega | (simp; omega)) _)) }; have pl10 : PlAt w10 w.heap.size h s := PlAt.below hb10 (by first | exact hz16 | exact hz15 | exact hz14 | exact hz13 | exact hz12 | exact hz11 | exact hz10 | exact hz9 | exact hz8 | exact hz7 | exact hz6 | exact hz5 | exact hz4) (by first | exact pl16 | exact pl15 | exact pl14 | exact pl13 | exact pl12 | exact pl11 | exact pl10 | exact pl9 | exact pl8 | exact pl7 | exact pl6 | exact pl5 | exact pl4); have hz10 : w.heap.size < w10.heap.size := by { have := hb10.size; (try simp at this); omega }))
  clear pl5 hb5 bl5 hz5 pl6 hb6 bl6 hz6 pl7 hb7 bl7 hz7 pl8 hb8 bl8 hz8 pl9 hb9 bl9 hz9 hb10 bl4 hz4 pl4
  go_wp2_with fail
  refine (where_no (some ⟨b, o, none⟩) c l id _ (hw.below bl10) (by omega) h1).mono ?_
  rintro e w11 ⟨rfl, hb11⟩
  have pl11 : PlAt w11 w.heap.size h s := pl10.below hb11 hz10
  have bl11 : Below w.heap.size w w11 := Below_after bl10 hb11
  have hz11 : w.heap.size < w11.heap.size := Nat.lt_of_lt_of_le hz10 hb11.size
  clear hb11 pl10 bl10 hz10
  go_wp2_with fail
  have bA : Below w11.heap.size w11 (w11.alloc (.cells #[.int .i64 0, .int .i64 0] 56)) := (Below.refl _ _).alloc (Nat.le_refl _) _
  have ql : PlAt (w11.alloc (.cells #[.int .i64 0, .int .i64 0] 56)) w11.heap.size 0 0 := PlAt_new w11 _ _ _
  have hqz : w11.heap.size < (w11.alloc (.cells #[.int .i64 0, .int .i64 0] 56)).heap.size := by simp
  generalize w11.alloc (.cells #[.int .i64 0, .int .i64 0] 56) = w12 at *
  have pl12 : PlAt w12 w.heap.size h s := pl11.below bA hz11
  have bl12 : Below w.heap.size w w12 := Below_after bl11 bA
  have hz12 : w.heap.size < w12.heap.size := by omega
  clear bA pl11 bl11
  obtain ⟨ql0, ql1⟩ := ql
  have pl12' := pl12
  obtain ⟨pq0, pq1⟩ := pl12'
  go_loop [10] (fun i => ∃ k : Nat, k ≤ l.length ∧ i = .int .i64 k) (fun i => l.length - (intOf i).toNat)
  case atStart => exact ⟨0, Nat.zero_le _, rfl⟩
  case round =>
    obtain ⟨k, hk, rfl⟩ := hrel
    by_cases hlt : k < l.length
    · obtain ⟨x, hx⟩ : ∃ x, l[k]? = some x := ⟨l[k], List.getElem?_eq_getElem hlt⟩
      obtain ⟨t1, t2, t3⟩ := (hxs k x hx).below bl12 hb
      have hne : (x.writ != id) = true := by have := idx_none h1 k x hx; simpa [isW] using this
      clear hx
      go_wp2_with fail
      go_round
      case rel => exact ⟨k + 1, by omega, by go_num⟩
      case measure => simp [intOf]; omega
    · obtain rfl : k = l.length := by omega
      have dl : decide ((l.length : Int) < (l.length : Int)) = false := by simp
      clear hlt hk
      go_wp2_with fail
      go_quiet (fail)
      go_wp2_with fail
      refine wp_region_held_drew (S := (fun w' => w'.cell? ⟨w.heap.size, 0, none⟩ = some (.int .i64 h) ∧ w'.cell? ⟨w.heap.size, 1, none⟩ = some (.int .i64 s))) (by kernel_rfl) ?_ (fun hHeld => ?_)
      · exact pl12
      refine wpAnyH_take (i := 0) (oi := ({ dst := some 99, op := Op.load 56 (Operand.tmp 4), type := 56, pos := "law.go:137", after := #[], guard := none } : Oper)) (v := .agg #[.int .i64 h, .int .i64 s]) rfl (by kernel_rfl) (by kernel_rfl) (by kernel_rfl) (fun _ _ _ h => h) (Or.inl ⟨by rfl, ?_⟩) (by assumption) ?_
      · intro w hSw; (try dsimp only at hSw); go_simp
      (try simp only [Act.put, List.setIfInBounds_toArray, List.set_cons_zero, List.set_cons_succ])
      refine wpAnyH_ready (rs := [1]) (by kernel_rfl) (by simp) ?_
      refine AllReadyH.cons (o := ({ dst := some 100, op := Op.call { callee := Callee.value (Operand.func 41), args := #[Operand.tmp 99], argTypes := #[56] }, type := 3, pos := "law.go:137", after := #[{ on := 0, ground := Ground.data }], guard := none } : Oper)) rfl (fun K hK => ?_) AllReadyH.nil
      go_wp2_with (go_at_call 41; refine (placeFault_any h s _ 1 (.inr ⟨hp, rfl⟩)).mono ?_; rintro e w13 ⟨rfl, hb13⟩; have bl13 : Below w.heap.size w w13 := by { refine Below_after ?_ hb13; (repeat (first | exact bl16 | exact bl15 | exact bl14 | exact bl13 | exact bl12 | exact bl11 | exact bl10 | exact bl9 | exact bl8 | exact bl7 | exact bl6 | exact bl5 | exact bl4 | refine Below.drew ?_ | refine below_drewN ?_ _ | refine Below.alloc ?_ (by first | omega | (simp; omega)) _)) }; have pl13 : PlAt w13 w.heap.size h s := PlAt.below hb13 (by first | exact hz16 | exact hz15 | exact hz14 | exact hz13 | exact hz12 | exact hz11 | exact hz10 | exact hz9 | exact hz8 | exact hz7 | exact hz6 | exact hz5 | exact hz4) (by first | exact pl16 | exact pl15 | exact pl14 | exact pl13 | exact pl12 | exact pl11 | exact pl10 | exact pl9 | exact pl8 | exact pl7 | exact pl6 | exact pl5 | exact pl4); have hz13 : w.heap.size < w13.heap.size := by { have := hb13.size; (try simp at this); omega })
      refine hK.out _ _ ?_ (fun hHeld => ?_)
      · exact pl13
      clear hK K
      (try simp only [Act.put, List.setIfInBounds_toArray, List.set_cons_zero, List.set_cons_succ])
      refine wpAnyH_take (i := 2) (oi := ({ dst := some 101, op := Op.binOp BinOp.gtr 3 (Operand.tmp 100) (Operand.const (Value.int IntKind.i64 0)) 3, type := 4, pos := "law.go:137", after := #[{ on := 1, ground := Ground.data }], guard := none } : Oper)) (v := .bool true) rfl (by kernel_rfl) (by kernel_rfl) (by kernel_rfl) (fun _ _ _ h => h) (Or.inl ⟨by rfl, ?_⟩) (by assumption) ?_
      · intro w hSw; (try dsimp only at hSw); go_simp
      (try simp only [Act.put, List.setIfInBounds_toArray, List.set_cons_zero, List.set_cons_succ])
      refine wpAnyH_take (i := 3) (oi := ({ dst := some 102, op := Op.move (Operand.tmp 101), type := 4, pos := "law.go:137", after := #[{ on := 2, ground := Ground.data }, { on := 1, ground := Ground.chain }], guard := none } : Oper)) (v := .bool true) rfl (by kernel_rfl) (by kernel_rfl) (by kernel_rfl) (fun _ _ _ h => h) (Or.inl ⟨by rfl, ?_⟩) (by assumption) ?_
      · intro w hSw; (try dsimp only at hSw); go_simp
      (try simp only [Act.put, List.setIfInBounds_toArray, List.set_cons_zero, List.set_cons_succ])
      refine wpAnyH_take (i := 4) (oi := ({ dst := some 103, op := Op.move (Operand.tmp 0), type := 54, pos := "law.go:137", after := #[{ on := 3, ground := Ground.guard }], guard := some (3, false) } : Oper)) (v := undef) rfl (by kernel_rfl) (by kernel_rfl) (by kernel_rfl) (fun _ _ _ h => h) (Or.inr ⟨by rfl, rfl⟩) (by assumption) ?_
      (try simp only [Act.put, List.setIfInBounds_toArray, List.set_cons_zero, List.set_cons_succ])
      refine wpAnyH_take (i := 5) (oi := ({ dst := some 104, op := Op.load 56 (Operand.tmp 4), type := 56, pos := "law.go:137", after := #[{ on := 3, ground := Ground.guard }], guard := some (3, false) } : Oper)) (v := undef) rfl (by kernel_rfl) (by kernel_rfl) (by kernel_rfl) (fun _ _ _ h => h) (Or.inr ⟨by rfl, rfl⟩) (by assumption) ?_
      (try simp only [Act.put, List.setIfInBounds_toArray, List.set_cons_zero, List.set_cons_succ])
      refine wpAnyH_take (i := 6) (oi := ({ dst := some 105, op := Op.move (Operand.tmp 2), type := 3, pos := "law.go:137", after := #[{ on := 3, ground := Ground.guard }], guard := some (3, false) } : Oper)) (v := undef) rfl (by kernel_rfl) (by kernel_rfl) (by kernel_rfl) (fun _ _ _ h => h) (Or.inr ⟨by rfl, rfl⟩) (by assumption) ?_
      (try simp only [Act.put, List.setIfInBounds_toArray, List.set_cons_zero, List.set_cons_succ])
      refine wpAnyH_take (i := 8) (oi := ({ dst := some 107, op := Op.move (Operand.tmp 0), type := 54, pos := "law.go:137", after := #[{ on := 3, ground := Ground.guard }], guard := some (3, false) } : Oper)) (v := undef) rfl (by kernel_rfl) (by kernel_rfl) (by kernel_rfl) (fun _ _ _ h => h) (Or.inr ⟨by rfl, rfl⟩) (by assumption) ?_
      (try simp only [Act.put, List.setIfInBounds_toArray, List.set_cons_zero, List.set_cons_succ])
      refine wpAnyH_take (i := 9) (oi := ({ dst := some 108, op := Op.load 56 (Operand.tmp 4), type := 56, pos := "law.go:137", after := #[{ on := 3, ground := Ground.guard }], guard := some (3, false) } : Oper)) (v := undef) rfl (by kernel_rfl) (by kernel_rfl) (by kernel_rfl) (fun _ _ _ h => h) (Or.inr ⟨by rfl, rfl⟩) (by assumption) ?_
      (try simp only [Act.put, List.setIfInBounds_toArray, List.set_cons_zero, List.set_cons_succ])
      refine wpAnyH_take (i := 10) (oi := ({ dst := some 109, op := Op.move (Operand.tmp 2), type := 3, pos := "law.go:137", after := #[{ on := 3, ground := Ground.guard }], guard := some (3, false) } : Oper)) (v := undef) rfl (by kernel_rfl) (by kernel_rfl) (by kernel_rfl) (fun _ _ _ h => h) (Or.inr ⟨by rfl, rfl⟩) (by assumption) ?_
      (try simp only [Act.put, List.setIfInBounds_toArray, List.set_cons_zero, List.set_cons_succ])
      first
        | refine wpAnyH_take (i := 7) (oi := ({ dst := some 106, op := Op.call { callee := Callee.value (Operand.func 36), args := #[Operand.tmp 103, Operand.tmp 104, Operand.tmp 105], argTypes := #[54, 56, 3] }, type := 54, pos := "law.go:137", after := #[{ on := 4, ground := Ground.data }, { on := 5, ground := Ground.data }, { on := 6, ground := Ground.data }, { on := 3, ground := Ground.chain }, { on := 3, ground := Ground.guard }], guard := some (3, false) } : Oper)) (v := undef) rfl (by kernel_rfl) (by kernel_rfl) (by kernel_rfl) (fun _ _ _ h => h) (Or.inr ⟨by rfl, rfl⟩) (by assumption) ?_
        | (refine wpAnyH_ready (rs := [7]) (by kernel_rfl) (by simp) ?_; refine AllReadyH.cons (o := ({ dst := some 106, op := Op.call { callee := Callee.value (Operand.func 36), args := #[Operand.tmp 103, Operand.tmp 104, Operand.tmp 105], argTypes := #[54, 56, 3] }, type := 54, pos := "law.go:137", after := #[{ on := 4, ground := Ground.data }, { on := 5, ground := Ground.data }, { on := 6, ground := Ground.data }, { on := 3, ground := Ground.chain }, { on := 3, ground := Ground.guard }], guard := some (3, false) } : Oper)) rfl (fun K hK => ?_) AllReadyH.nil; go_wp2_with fail; refine hK.out _ _ ?_ (fun hHeld => ?_); exact pl13; clear hK K; (try simp only [Act.put, List.setIfInBounds_toArray, List.set_cons_zero, List.set_cons_succ]))
      (try simp only [Act.put, List.setIfInBounds_toArray, List.set_cons_zero, List.set_cons_succ])
      first
        | refine wpAnyH_take (i := 11) (oi := ({ dst := some 110, op := Op.call { callee := Callee.value (Operand.func 46), args := #[Operand.tmp 107, Operand.tmp 108, Operand.tmp 109], argTypes := #[54, 56, 3] }, type := 54, pos := "law.go:137", after := #[{ on := 8, ground := Ground.data }, { on := 9, ground := Ground.data }, { on := 10, ground := Ground.data }, { on := 7, ground := Ground.chain }, { on := 3, ground := Ground.guard }], guard := some (3, false) } : Oper)) (v := undef) rfl (by kernel_rfl) (by kernel_rfl) (by kernel_rfl) (fun _ _ _ h => h) (Or.inr ⟨by rfl, rfl⟩) (by assumption) ?_
        | (refine wpAnyH_ready (rs := [11]) (by kernel_rfl) (by simp) ?_; refine AllReadyH.cons (o := ({ dst := some 110, op := Op.call { callee := Callee.value (Operand.func 46), args := #[Operand.tmp 107, Operand.tmp 108, Operand.tmp 109], argTypes := #[54, 56, 3] }, type := 54, pos := "law.go:137", after := #[{ on := 8, ground := Ground.data }, { on := 9, ground := Ground.data }, { on := 10, ground := Ground.data }, { on := 7, ground := Ground.chain }, { on := 3, ground := Ground.guard }], guard := some (3, false) } : Oper)) rfl (fun K hK => ?_) AllReadyH.nil; go_wp2_with fail; refine hK.out _ _ ?_ (fun hHeld => ?_); exact pl13; clear hK K; (try simp only [Act.put, List.setIfInBounds_toArray, List.set_cons_zero, List.set_cons_succ]))
      (try simp only [Act.put, List.setIfInBounds_toArray, List.set_cons_zero, List.set_cons_succ])
      first
        | refine wpAnyH_take (i := 12) (oi := ({ dst := some 111, op := Op.call { callee := Callee.value (Operand.func 45), args := #[Operand.tmp 106, Operand.tmp 110], argTypes := #[54, 54] }, type := 4, pos := "law.go:137", after := #[{ on := 7, ground := Ground.data }, { on := 11, ground := Ground.data }, { on := 11, ground := Ground.chain }, { on := 3, ground := Ground.guard }], guard := some (3, false) } : Oper)) (v := undef) rfl (by kernel_rfl) (by kernel_rfl) (by kernel_rfl) (fun _ _ _ h => h) (Or.inr ⟨by rfl, rfl⟩) (by assumption) ?_
        | (refine wpAnyH_ready (rs := [12]) (by kernel_rfl) (by simp) ?_; refine AllReadyH.cons (o := ({ dst := some 111, op := Op.call { callee := Callee.value (Operand.func 45), args := #[Operand.tmp 106, Operand.tmp 110], argTypes := #[54, 54] }, type := 4, pos := "law.go:137", after := #[{ on := 7, ground := Ground.data }, { on := 11, ground := Ground.data }, { on := 11, ground := Ground.chain }, { on := 3, ground := Ground.guard }], guard := some (3, false) } : Oper)) rfl (fun K hK => ?_) AllReadyH.nil; go_wp2_with fail; refine hK.out _ _ ?_ (fun hHeld => ?_); exact pl13; clear hK K; (try simp only [Act.put, List.setIfInBounds_toArray, List.set_cons_zero, List.set_cons_succ]))
      (try simp only [Act.put, List.setIfInBounds_toArray, List.set_cons_zero, List.set_cons_succ])
      refine wpAnyH_take (i := 13) (oi := ({ dst := some 112, op := Op.pick (Operand.tmp 102) (Operand.const (Value.bool true)) (Operand.tmp 111), type := 4, pos := "law.go:137", after := #[{ on := 3, ground := Ground.data }, { on := 12, ground := Ground.data }], guard := none } : Oper)) (v := .bool true) rfl (by kernel_rfl) (by kernel_rfl) (by kernel_rfl) (fun _ _ _ h => h) (Or.inl ⟨by rfl, ?_⟩) (by assumption) ?_
      · intro w hSw; (try dsimp only at hSw); go_simp
      (try simp only [Act.put, List.setIfInBounds_toArray, List.set_cons_zero, List.set_cons_succ])
      first
        | (refine wpAnyH_take (i := 14) (oi := ({ dst := some 6, op := Op.assign (Operand.tmp 112), type := 4, pos := "law.go:137", after := #[{ on := 13, ground := Ground.data }, { on := 12, ground := Ground.chain }, { on := 0, ground := Ground.phase }, { on := 1, ground := Ground.phase }, { on := 2, ground := Ground.phase }, { on := 3, ground := Ground.phase }, { on := 4, ground := Ground.phase }, { on := 5, ground := Ground.phase }, { on := 6, ground := Ground.phase }, { on := 7, ground := Ground.phase }, { on := 8, ground := Ground.phase }, { on := 9, ground := Ground.phase }, { on := 10, ground := Ground.phase }, { on := 11, ground := Ground.phase }, { on := 12, ground := Ground.phase }, { on := 13, ground := Ground.phase }], guard := none } : Oper)) (v := .bool true) rfl (by kernel_rfl) (by kernel_rfl) (by kernel_rfl) (fun _ _ _ h => h) (Or.inl ⟨by rfl, ?_⟩) (by assumption) ?_; · intro w hSw; (try dsimp only at hSw); go_simp; (try simp only [Act.put, List.setIfInBounds_toArray, List.set_cons_zero, List.set_cons_succ]))
        | (refine wpAnyH_ready (rs := [14]) (by kernel_rfl) (by simp) ?_; refine AllReadyH.cons (o := ({ dst := some 6, op := Op.assign (Operand.tmp 112), type := 4, pos := "law.go:137", after := #[{ on := 13, ground := Ground.data }, { on := 12, ground := Ground.chain }, { on := 0, ground := Ground.phase }, { on := 1, ground := Ground.phase }, { on := 2, ground := Ground.phase }, { on := 3, ground := Ground.phase }, { on := 4, ground := Ground.phase }, { on := 5, ground := Ground.phase }, { on := 6, ground := Ground.phase }, { on := 7, ground := Ground.phase }, { on := 8, ground := Ground.phase }, { on := 9, ground := Ground.phase }, { on := 10, ground := Ground.phase }, { on := 11, ground := Ground.phase }, { on := 12, ground := Ground.phase }, { on := 13, ground := Ground.phase }], guard := none } : Oper)) rfl (fun K hK => ?_) AllReadyH.nil; go_wp2_with fail; refine hK.out _ _ ?_ (fun hHeld => ?_); exact pl13; clear hK K; (try simp only [Act.put, List.setIfInBounds_toArray, List.set_cons_zero, List.set_cons_succ]))
      refine wpAnyH_done (by kernel_rfl) ?_ _
      go_wp2_with fail
      go_ret
      exact ⟨rfl, bl13⟩

set_option maxHeartbeats 2000000 in
theorem ss_bad_yes (b o : Nat) (l : List Hd) (c : Nat) (h s id : Int) (w : World) (hb : b < w.heap.size) (hxs : ∀ j x, l[j]? = some x → HdAt w b (o + j * 3) x) (hm : l.length ≤ maxLen) (hg : Good l) (hp : ¬ plOk h s) (j : Nat) (x : Hd) (h1 : idx (isW id) l = (j : Int)) (hx : l[j]? = some x) (hpx : isW id x = true) :
    Calls Try.prog 6 #[.slice (some ⟨b, o, none⟩) l.length c, .agg #[.int .i64 h, .int .i64 s], .int .i64 id] w fun e w' => e = .returned (.bool true) ∧ Below w.heap.size w w' := by
  have hw : HdsAt w (some ⟨b, o, none⟩) l := .inr ⟨b, o, rfl, hb, hxs⟩
  have k1 : atP (putL [] 1 2 5) 1 2 = 5 := by decide
  have k2 : freeP (putL [] 1 2 5) 1 = 0 := by decide
  go_enter Try.func6, Try.ntmps6
  go_wp2_with fail
  refine (put_any none 0 [] 1 2 5 _ (.inl rfl) (by simp)).mono ?_
  rintro e w1 ⟨a1, c1, rfl, at1, hb1⟩
  have pl1 : PlAt w1 w.heap.size h s := (PlAt_new w _ h s).below hb1 (by simp)
  have hz1 : w.heap.size < w1.heap.size := by have := hb1.size; simp at this; omega
  have bl1 : Below w.heap.size w w1 := Below_after ((Below.refl _ _).alloc (Nat.le_refl _) _) hb1
  clear hb1
  go_wp2_with fail
  refine (at_any a1 c1 (putL [] 1 2 5) 1 2 _ at1 (by decide)).mono ?_
  rintro e w2 ⟨rfl, hb2⟩
  have pl2 := pl1.below hb2 hz1
  have hz2 : w.heap.size < w2.heap.size := Nat.lt_of_lt_of_le hz1 hb2.size
  have bl2 : Below w.heap.size w w2 := Below_after bl1 hb2
  have at2 := at1.below hb2
  clear hb2 pl1 hz1 bl1 at1
  go_wp2_with fail
  refine (free_any a1 c1 (putL [] 1 2 5) 1 _ at2 (by decide)).mono ?_
  rintro e w3 ⟨rfl, hb3⟩
  have pl3 := pl2.below hb3 hz2
  have hz3 : w.heap.size < w3.heap.size := Nat.lt_of_lt_of_le hz2 hb3.size
  have bl3 : Below w.heap.size w w3 := Below_after bl2 hb3
  clear hb3 pl2 hz2 bl2 at2
  go_wp2_with fail
  refine (good_any (some ⟨b, o, none⟩) c l _ (hw.below bl3) hm).mono ?_
  rintro e w4 ⟨r, rfl, hr, hb4⟩
  have pl4 := pl3.below hb4 hz3
  have hz4 : w.heap.size < w4.heap.size := Nat.lt_of_lt_of_le hz3 hb4.size
  have bl4 : Below w.heap.size w w4 := Below_after bl3 hb4
  clear hb4 pl3 hz3 bl3
  have hr0 : r = true := hr.2 hg
  subst hr0
  have hl24 := good_len hg
  clear hr
  go_wp2_with fail
  go_region_held3 (fun w' => w'.cell? ⟨w.heap.size, 0, none⟩ = some (.int .i64 h) ∧ w'.cell? ⟨w.heap.size, 1, none⟩ = some (.int .i64 s)) (first | exact pl16 | exact pl15 | exact pl14 | exact pl13 | exact pl12 | exact pl11 | exact pl10 | exact pl9 | exact pl8 | exact pl7 | exact pl6 | exact pl5 | exact pl4) (first
    | (go_at_call 40; refine (scheck_bad h s _ hp).mono ?_; rintro e w5 ⟨rfl, hb5⟩; have bl5 : Below w.heap.size w w5 := by { refine Below_after ?_ hb5; (repeat (first | exact bl16 | exact bl15 | exact bl14 | exact bl13 | exact bl12 | exact bl11 | exact bl10 | exact bl9 | exact bl8 | exact bl7 | exact bl6 | exact bl5 | exact bl4 | refine Below.drew ?_ | refine below_drewN ?_ _ | refine Below.alloc ?_ (by first | omega | (simp; omega)) _)) }; have pl5 : PlAt w5 w.heap.size h s := PlAt.below hb5 (by first | exact hz16 | exact hz15 | exact hz14 | exact hz13 | exact hz12 | exact hz11 | exact hz10 | exact hz9 | exact hz8 | exact hz7 | exact hz6 | exact hz5 | exact hz4) (by first | exact pl16 | exact pl15 | exact pl14 | exact pl13 | exact pl12 | exact pl11 | exact pl10 | exact pl9 | exact pl8 | exact pl7 | exact pl6 | exact pl5 | exact pl4); have hz5 : w.heap.size < w5.heap.size := by { have := hb5.size; (try simp at this); omega })
    | (go_at_call 41; refine (placeFault_any h s _ 1 (.inr ⟨hp, rfl⟩)).mono ?_; rintro e w6 ⟨rfl, hb6⟩; have bl6 : Below w.heap.size w w6 := by { refine Below_after ?_ hb6; (repeat (first | exact bl16 | exact bl15 | exact bl14 | exact bl13 | exact bl12 | exact bl11 | exact bl10 | exact bl9 | exact bl8 | exact bl7 | exact bl6 | exact bl5 | exact bl4 | refine Below.drew ?_ | refine below_drewN ?_ _ | refine Below.alloc ?_ (by first | omega | (simp; omega)) _)) }; have pl6 : PlAt w6 w.heap.size h s := PlAt.below hb6 (by first | exact hz16 | exact hz15 | exact hz14 | exact hz13 | exact hz12 | exact hz11 | exact hz10 | exact hz9 | exact hz8 | exact hz7 | exact hz6 | exact hz5 | exact hz4) (by first | exact pl16 | exact pl15 | exact pl14 | exact pl13 | exact pl12 | exact pl11 | exact pl10 | exact pl9 | exact pl8 | exact pl7 | exact pl6 | exact pl5 | exact pl4); have hz6 : w.heap.size < w6.heap.size := by { have := hb6.size; (try simp at this); omega })
    | (go_at_call 11; refine (sameS_eq _ _ (by omega)).mono ?_; rintro e w' ⟨rfl, hq⟩; obtain rfl := hq.symm)
    | (go_at_call 37; refine (at_any (some ⟨b, o, none⟩) c l h s _ (hw.below ?_) (by unfold maxLen; omega)).mono ?_; (repeat (first | exact bl16 | exact bl15 | exact bl14 | exact bl13 | exact bl12 | exact bl11 | exact bl10 | exact bl9 | exact bl8 | exact bl7 | exact bl6 | exact bl5 | exact bl4 | refine Below.drew ?_ | refine below_drewN ?_ _ | refine Below.alloc ?_ (by first | omega | (simp; omega)) _)); rintro e w7 ⟨rfl, hb7⟩; have bl7 : Below w.heap.size w w7 := by { refine Below_after ?_ hb7; (repeat (first | exact bl16 | exact bl15 | exact bl14 | exact bl13 | exact bl12 | exact bl11 | exact bl10 | exact bl9 | exact bl8 | exact bl7 | exact bl6 | exact bl5 | exact bl4 | refine Below.drew ?_ | refine below_drewN ?_ _ | refine Below.alloc ?_ (by first | omega | (simp; omega)) _)) }; have pl7 : PlAt w7 w.heap.size h s := PlAt.below hb7 (by first | exact hz16 | exact hz15 | exact hz14 | exact hz13 | exact hz12 | exact hz11 | exact hz10 | exact hz9 | exact hz8 | exact hz7 | exact hz6 | exact hz5 | exact hz4) (by first | exact pl16 | exact pl15 | exact pl14 | exact pl13 | exact pl12 | exact pl11 | exact pl10 | exact pl9 | exact pl8 | exact pl7 | exact pl6 | exact pl5 | exact pl4); have hz7 : w.heap.size < w7.heap.size := by { have := hb7.size; (try simp at this); omega })
    | (go_at_call 42; refine (atPlace_any (some ⟨b, o, none⟩) c l h s _ (hw.below ?_) (by omega)).mono ?_; (repeat (first | exact bl16 | exact bl15 | exact bl14 | exact bl13 | exact bl12 | exact bl11 | exact bl10 | exact bl9 | exact bl8 | exact bl7 | exact bl6 | exact bl5 | exact bl4 | refine Below.drew ?_ | refine below_drewN ?_ _ | refine Below.alloc ?_ (by first | omega | (simp; omega)) _)); rintro e w8 ⟨rfl, hb8⟩; have bl8 : Below w.heap.size w w8 := by { refine Below_after ?_ hb8; (repeat (first | exact bl16 | exact bl15 | exact bl14 | exact bl13 | exact bl12 | exact bl11 | exact bl10 | exact bl9 | exact bl8 | exact bl7 | exact bl6 | exact bl5 | exact bl4 | refine Below.drew ?_ | refine below_drewN ?_ _ | refine Below.alloc ?_ (by first | omega | (simp; omega)) _)) }; have pl8 : PlAt w8 w.heap.size h s := PlAt.below hb8 (by first | exact hz16 | exact hz15 | exact hz14 | exact hz13 | exact hz12 | exact hz11 | exact hz10 | exact hz9 | exact hz8 | exact hz7 | exact hz6 | exact hz5 | exact hz4) (by first | exact pl16 | exact pl15 | exact pl14 | exact pl13 | exact pl12 | exact pl11 | exact pl10 | exact pl9 | exact pl8 | exact pl7 | exact pl6 | exact pl5 | exact pl4); have hz8 : w.heap.size < w8.heap.size := by { have := hb8.size; (try simp at this); omega })
    | (go_at_call 38; refine (free_any (some ⟨b, o, none⟩) c l h _ (hw.below ?_) (by unfold maxLen; omega)).mono ?_; (repeat (first | exact bl16 | exact bl15 | exact bl14 | exact bl13 | exact bl12 | exact bl11 | exact bl10 | exact bl9 | exact bl8 | exact bl7 | exact bl6 | exact bl5 | exact bl4 | refine Below.drew ?_ | refine below_drewN ?_ _ | refine Below.alloc ?_ (by first | omega | (simp; omega)) _)); rintro e w9 ⟨rfl, hb9⟩; have bl9 : Below w.heap.size w w9 := by { refine Below_after ?_ hb9; (repeat (first | exact bl16 | exact bl15 | exact bl14 | exact bl13 | exact bl12 | exact bl11 | exact bl10 | exact bl9 | exact bl8 | exact bl7 | exact bl6 | exact bl5 | exact bl4 | refine Below.drew ?_ | refine below_drewN ?_ _ | refine Below.alloc ?_ (by first | omega | (simp; omega)) _)) }; have pl9 : PlAt w9 w.heap.size h s := PlAt.below hb9 (by first | exact hz16 | exact hz15 | exact hz14 | exact hz13 | exact hz12 | exact hz11 | exact hz10 | exact hz9 | exact hz8 | exact hz7 | exact hz6 | exact hz5 | exact hz4) (by first | exact pl16 | exact pl15 | exact pl14 | exact pl13 | exact pl12 | exact pl11 | exact pl10 | exact pl9 | exact pl8 | exact pl7 | exact pl6 | exact pl5 | exact pl4); have hz9 : w.heap.size < w9.heap.size := by { have := hb9.size; (try simp at this); omega })
    | (go_at_call 43; refine (freeSlot_any (some ⟨b, o, none⟩) c l h _ (hw.below ?_) (by omega)).mono ?_; (repeat (first | exact bl16 | exact bl15 | exact bl14 | exact bl13 | exact bl12 | exact bl11 | exact bl10 | exact bl9 | exact bl8 | exact bl7 | exact bl6 | exact bl5 | exact bl4 | refine Below.drew ?_ | refine below_drewN ?_ _ | refine Below.alloc ?_ (by first | omega | (simp; omega)) _)); rintro e w10 ⟨rfl, hb10⟩; have bl10 : Below w.heap.size w w10 := by { refine Below_after ?_ hb10; (repeat (first | exact bl16 | exact bl15 | exact bl14 | exact bl13 | exact bl12 | exact bl11 | exact bl10 | exact bl9 | exact bl8 | exact bl7 | exact bl6 | exact bl5 | exact bl4 | refine Below.drew ?_ | refine below_drewN ?_ _ | refine Below.alloc ?_ (by first | omega | (simp; omega)) _)) }; have pl10 : PlAt w10 w.heap.size h s := PlAt.below hb10 (by first | exact hz16 | exact hz15 | exact hz14 | exact hz13 | exact hz12 | exact hz11 | exact hz10 | exact hz9 | exact hz8 | exact hz7 | exact hz6 | exact hz5 | exact hz4) (by first | exact pl16 | exact pl15 | exact pl14 | exact pl13 | exact pl12 | exact pl11 | exact pl10 | exact pl9 | exact pl8 | exact pl7 | exact pl6 | exact pl5 | exact pl4); have hz10 : w.heap.size < w10.heap.size := by { have := hb10.size; (try simp at this); omega }))
  clear pl5 hb5 bl5 hz5 pl6 hb6 bl6 hz6 pl7 hb7 bl7 hz7 pl8 hb8 bl8 hz8 pl9 hb9 bl9 hz9 hb10 bl4 hz4 pl4
  go_wp2_with fail
  have hjl : j < l.length := (List.getElem?_eq_some_iff.1 hx).1
  refine (where_yes (some ⟨b, o, none⟩) c l id _ (hw.below bl10) (by omega) j x h1 hx).mono ?_
  rintro e w11 ⟨rfl, hb11⟩
  have pl11 : PlAt w11 w.heap.size h s := pl10.below hb11 hz10
  have bl11 : Below w.heap.size w w11 := Below_after bl10 hb11
  have hz11 : w.heap.size < w11.heap.size := Nat.lt_of_lt_of_le hz10 hb11.size
  clear hb11 pl10 bl10 hz10
  go_wp2_with fail
  have bA : Below w11.heap.size w11 (w11.alloc (.cells #[.int .i64 x.holder, .int .i64 x.slot] 56)) := (Below.refl _ _).alloc (Nat.le_refl _) _
  have ql : PlAt (w11.alloc (.cells #[.int .i64 x.holder, .int .i64 x.slot] 56)) w11.heap.size x.holder x.slot := PlAt_new w11 _ _ _
  have hqz : w11.heap.size < (w11.alloc (.cells #[.int .i64 x.holder, .int .i64 x.slot] 56)).heap.size := by simp
  generalize w11.alloc (.cells #[.int .i64 x.holder, .int .i64 x.slot] 56) = w12 at *
  have pl12 : PlAt w12 w.heap.size h s := pl11.below bA hz11
  have bl12 : Below w.heap.size w w12 := Below_after bl11 bA
  have hz12 : w.heap.size < w12.heap.size := by omega
  clear bA pl11 bl11
  obtain ⟨ql0, ql1⟩ := ql
  have pl12' := pl12
  obtain ⟨pq0, pq1⟩ := pl12'
  go_loop [10] (fun i => ∃ k : Nat, k ≤ j ∧ i = .int .i64 k) (fun i => l.length - (intOf i).toNat)
  case atStart => exact ⟨0, Nat.zero_le _, rfl⟩
  case round =>
    obtain ⟨k, hk, rfl⟩ := hrel
    have hlt : k < l.length := by omega
    by_cases hkj : k < j
    · obtain ⟨y, hy⟩ : ∃ y, l[k]? = some y := ⟨l[k], List.getElem?_eq_getElem hlt⟩
      obtain ⟨t1, t2, t3⟩ := (hxs k y hy).below bl12 hb
      have hne : (y.writ != id) = true := by have := idx_first h1 k y hkj hy; simpa [isW] using this
      clear hy
      go_wp2_with fail
      go_round
      case rel => exact ⟨k + 1, by omega, by go_num⟩
      case measure => simp [intOf]; omega
    · obtain rfl : k = j := by omega
      obtain ⟨t1, t2, t3⟩ := (hxs k x hx).below bl12 hb
      have hne : (x.writ != id) = false := by simpa [isW] using hpx
      have dl : decide ((k : Int) < (l.length : Int)) = true := by simp; omega
      clear hkj hk
      go_wp2_with fail
      go_quiet (fail)
      go_wp2_with fail
      refine wp_region_held_drew (S := (fun w' => w'.cell? ⟨w.heap.size, 0, none⟩ = some (.int .i64 h) ∧ w'.cell? ⟨w.heap.size, 1, none⟩ = some (.int .i64 s))) (by kernel_rfl) ?_ (fun hHeld => ?_)
      · exact pl12
      refine wpAnyH_take (i := 0) (oi := ({ dst := some 99, op := Op.load 56 (Operand.tmp 4), type := 56, pos := "law.go:137", after := #[], guard := none } : Oper)) (v := .agg #[.int .i64 h, .int .i64 s]) rfl (by kernel_rfl) (by kernel_rfl) (by kernel_rfl) (fun _ _ _ h => h) (Or.inl ⟨by rfl, ?_⟩) (by assumption) ?_
      · intro w hSw; (try dsimp only at hSw); go_simp
      (try simp only [Act.put, List.setIfInBounds_toArray, List.set_cons_zero, List.set_cons_succ])
      refine wpAnyH_ready (rs := [1]) (by kernel_rfl) (by simp) ?_
      refine AllReadyH.cons (o := ({ dst := some 100, op := Op.call { callee := Callee.value (Operand.func 41), args := #[Operand.tmp 99], argTypes := #[56] }, type := 3, pos := "law.go:137", after := #[{ on := 0, ground := Ground.data }], guard := none } : Oper)) rfl (fun K hK => ?_) AllReadyH.nil
      go_wp2_with (go_at_call 41; refine (placeFault_any h s _ 1 (.inr ⟨hp, rfl⟩)).mono ?_; rintro e w13 ⟨rfl, hb13⟩; have bl13 : Below w.heap.size w w13 := by { refine Below_after ?_ hb13; (repeat (first | exact bl16 | exact bl15 | exact bl14 | exact bl13 | exact bl12 | exact bl11 | exact bl10 | exact bl9 | exact bl8 | exact bl7 | exact bl6 | exact bl5 | exact bl4 | refine Below.drew ?_ | refine below_drewN ?_ _ | refine Below.alloc ?_ (by first | omega | (simp; omega)) _)) }; have pl13 : PlAt w13 w.heap.size h s := PlAt.below hb13 (by first | exact hz16 | exact hz15 | exact hz14 | exact hz13 | exact hz12 | exact hz11 | exact hz10 | exact hz9 | exact hz8 | exact hz7 | exact hz6 | exact hz5 | exact hz4) (by first | exact pl16 | exact pl15 | exact pl14 | exact pl13 | exact pl12 | exact pl11 | exact pl10 | exact pl9 | exact pl8 | exact pl7 | exact pl6 | exact pl5 | exact pl4); have hz13 : w.heap.size < w13.heap.size := by { have := hb13.size; (try simp at this); omega })
      refine hK.out _ _ ?_ (fun hHeld => ?_)
      · exact pl13
      clear hK K
      (try simp only [Act.put, List.setIfInBounds_toArray, List.set_cons_zero, List.set_cons_succ])
      refine wpAnyH_take (i := 2) (oi := ({ dst := some 101, op := Op.binOp BinOp.gtr 3 (Operand.tmp 100) (Operand.const (Value.int IntKind.i64 0)) 3, type := 4, pos := "law.go:137", after := #[{ on := 1, ground := Ground.data }], guard := none } : Oper)) (v := .bool true) rfl (by kernel_rfl) (by kernel_rfl) (by kernel_rfl) (fun _ _ _ h => h) (Or.inl ⟨by rfl, ?_⟩) (by assumption) ?_
      · intro w hSw; (try dsimp only at hSw); go_simp
      (try simp only [Act.put, List.setIfInBounds_toArray, List.set_cons_zero, List.set_cons_succ])
      refine wpAnyH_take (i := 3) (oi := ({ dst := some 102, op := Op.move (Operand.tmp 101), type := 4, pos := "law.go:137", after := #[{ on := 2, ground := Ground.data }, { on := 1, ground := Ground.chain }], guard := none } : Oper)) (v := .bool true) rfl (by kernel_rfl) (by kernel_rfl) (by kernel_rfl) (fun _ _ _ h => h) (Or.inl ⟨by rfl, ?_⟩) (by assumption) ?_
      · intro w hSw; (try dsimp only at hSw); go_simp
      (try simp only [Act.put, List.setIfInBounds_toArray, List.set_cons_zero, List.set_cons_succ])
      refine wpAnyH_take (i := 4) (oi := ({ dst := some 103, op := Op.move (Operand.tmp 0), type := 54, pos := "law.go:137", after := #[{ on := 3, ground := Ground.guard }], guard := some (3, false) } : Oper)) (v := undef) rfl (by kernel_rfl) (by kernel_rfl) (by kernel_rfl) (fun _ _ _ h => h) (Or.inr ⟨by rfl, rfl⟩) (by assumption) ?_
      (try simp only [Act.put, List.setIfInBounds_toArray, List.set_cons_zero, List.set_cons_succ])
      refine wpAnyH_take (i := 5) (oi := ({ dst := some 104, op := Op.load 56 (Operand.tmp 4), type := 56, pos := "law.go:137", after := #[{ on := 3, ground := Ground.guard }], guard := some (3, false) } : Oper)) (v := undef) rfl (by kernel_rfl) (by kernel_rfl) (by kernel_rfl) (fun _ _ _ h => h) (Or.inr ⟨by rfl, rfl⟩) (by assumption) ?_
      (try simp only [Act.put, List.setIfInBounds_toArray, List.set_cons_zero, List.set_cons_succ])
      refine wpAnyH_take (i := 6) (oi := ({ dst := some 105, op := Op.move (Operand.tmp 2), type := 3, pos := "law.go:137", after := #[{ on := 3, ground := Ground.guard }], guard := some (3, false) } : Oper)) (v := undef) rfl (by kernel_rfl) (by kernel_rfl) (by kernel_rfl) (fun _ _ _ h => h) (Or.inr ⟨by rfl, rfl⟩) (by assumption) ?_
      (try simp only [Act.put, List.setIfInBounds_toArray, List.set_cons_zero, List.set_cons_succ])
      refine wpAnyH_take (i := 8) (oi := ({ dst := some 107, op := Op.move (Operand.tmp 0), type := 54, pos := "law.go:137", after := #[{ on := 3, ground := Ground.guard }], guard := some (3, false) } : Oper)) (v := undef) rfl (by kernel_rfl) (by kernel_rfl) (by kernel_rfl) (fun _ _ _ h => h) (Or.inr ⟨by rfl, rfl⟩) (by assumption) ?_
      (try simp only [Act.put, List.setIfInBounds_toArray, List.set_cons_zero, List.set_cons_succ])
      refine wpAnyH_take (i := 9) (oi := ({ dst := some 108, op := Op.load 56 (Operand.tmp 4), type := 56, pos := "law.go:137", after := #[{ on := 3, ground := Ground.guard }], guard := some (3, false) } : Oper)) (v := undef) rfl (by kernel_rfl) (by kernel_rfl) (by kernel_rfl) (fun _ _ _ h => h) (Or.inr ⟨by rfl, rfl⟩) (by assumption) ?_
      (try simp only [Act.put, List.setIfInBounds_toArray, List.set_cons_zero, List.set_cons_succ])
      refine wpAnyH_take (i := 10) (oi := ({ dst := some 109, op := Op.move (Operand.tmp 2), type := 3, pos := "law.go:137", after := #[{ on := 3, ground := Ground.guard }], guard := some (3, false) } : Oper)) (v := undef) rfl (by kernel_rfl) (by kernel_rfl) (by kernel_rfl) (fun _ _ _ h => h) (Or.inr ⟨by rfl, rfl⟩) (by assumption) ?_
      (try simp only [Act.put, List.setIfInBounds_toArray, List.set_cons_zero, List.set_cons_succ])
      first
        | refine wpAnyH_take (i := 7) (oi := ({ dst := some 106, op := Op.call { callee := Callee.value (Operand.func 36), args := #[Operand.tmp 103, Operand.tmp 104, Operand.tmp 105], argTypes := #[54, 56, 3] }, type := 54, pos := "law.go:137", after := #[{ on := 4, ground := Ground.data }, { on := 5, ground := Ground.data }, { on := 6, ground := Ground.data }, { on := 3, ground := Ground.chain }, { on := 3, ground := Ground.guard }], guard := some (3, false) } : Oper)) (v := undef) rfl (by kernel_rfl) (by kernel_rfl) (by kernel_rfl) (fun _ _ _ h => h) (Or.inr ⟨by rfl, rfl⟩) (by assumption) ?_
        | (refine wpAnyH_ready (rs := [7]) (by kernel_rfl) (by simp) ?_; refine AllReadyH.cons (o := ({ dst := some 106, op := Op.call { callee := Callee.value (Operand.func 36), args := #[Operand.tmp 103, Operand.tmp 104, Operand.tmp 105], argTypes := #[54, 56, 3] }, type := 54, pos := "law.go:137", after := #[{ on := 4, ground := Ground.data }, { on := 5, ground := Ground.data }, { on := 6, ground := Ground.data }, { on := 3, ground := Ground.chain }, { on := 3, ground := Ground.guard }], guard := some (3, false) } : Oper)) rfl (fun K hK => ?_) AllReadyH.nil; go_wp2_with fail; refine hK.out _ _ ?_ (fun hHeld => ?_); exact pl13; clear hK K; (try simp only [Act.put, List.setIfInBounds_toArray, List.set_cons_zero, List.set_cons_succ]))
      (try simp only [Act.put, List.setIfInBounds_toArray, List.set_cons_zero, List.set_cons_succ])
      first
        | refine wpAnyH_take (i := 11) (oi := ({ dst := some 110, op := Op.call { callee := Callee.value (Operand.func 46), args := #[Operand.tmp 107, Operand.tmp 108, Operand.tmp 109], argTypes := #[54, 56, 3] }, type := 54, pos := "law.go:137", after := #[{ on := 8, ground := Ground.data }, { on := 9, ground := Ground.data }, { on := 10, ground := Ground.data }, { on := 7, ground := Ground.chain }, { on := 3, ground := Ground.guard }], guard := some (3, false) } : Oper)) (v := undef) rfl (by kernel_rfl) (by kernel_rfl) (by kernel_rfl) (fun _ _ _ h => h) (Or.inr ⟨by rfl, rfl⟩) (by assumption) ?_
        | (refine wpAnyH_ready (rs := [11]) (by kernel_rfl) (by simp) ?_; refine AllReadyH.cons (o := ({ dst := some 110, op := Op.call { callee := Callee.value (Operand.func 46), args := #[Operand.tmp 107, Operand.tmp 108, Operand.tmp 109], argTypes := #[54, 56, 3] }, type := 54, pos := "law.go:137", after := #[{ on := 8, ground := Ground.data }, { on := 9, ground := Ground.data }, { on := 10, ground := Ground.data }, { on := 7, ground := Ground.chain }, { on := 3, ground := Ground.guard }], guard := some (3, false) } : Oper)) rfl (fun K hK => ?_) AllReadyH.nil; go_wp2_with fail; refine hK.out _ _ ?_ (fun hHeld => ?_); exact pl13; clear hK K; (try simp only [Act.put, List.setIfInBounds_toArray, List.set_cons_zero, List.set_cons_succ]))
      (try simp only [Act.put, List.setIfInBounds_toArray, List.set_cons_zero, List.set_cons_succ])
      first
        | refine wpAnyH_take (i := 12) (oi := ({ dst := some 111, op := Op.call { callee := Callee.value (Operand.func 45), args := #[Operand.tmp 106, Operand.tmp 110], argTypes := #[54, 54] }, type := 4, pos := "law.go:137", after := #[{ on := 7, ground := Ground.data }, { on := 11, ground := Ground.data }, { on := 11, ground := Ground.chain }, { on := 3, ground := Ground.guard }], guard := some (3, false) } : Oper)) (v := undef) rfl (by kernel_rfl) (by kernel_rfl) (by kernel_rfl) (fun _ _ _ h => h) (Or.inr ⟨by rfl, rfl⟩) (by assumption) ?_
        | (refine wpAnyH_ready (rs := [12]) (by kernel_rfl) (by simp) ?_; refine AllReadyH.cons (o := ({ dst := some 111, op := Op.call { callee := Callee.value (Operand.func 45), args := #[Operand.tmp 106, Operand.tmp 110], argTypes := #[54, 54] }, type := 4, pos := "law.go:137", after := #[{ on := 7, ground := Ground.data }, { on := 11, ground := Ground.data }, { on := 11, ground := Ground.chain }, { on := 3, ground := Ground.guard }], guard := some (3, false) } : Oper)) rfl (fun K hK => ?_) AllReadyH.nil; go_wp2_with fail; refine hK.out _ _ ?_ (fun hHeld => ?_); exact pl13; clear hK K; (try simp only [Act.put, List.setIfInBounds_toArray, List.set_cons_zero, List.set_cons_succ]))
      (try simp only [Act.put, List.setIfInBounds_toArray, List.set_cons_zero, List.set_cons_succ])
      refine wpAnyH_take (i := 13) (oi := ({ dst := some 112, op := Op.pick (Operand.tmp 102) (Operand.const (Value.bool true)) (Operand.tmp 111), type := 4, pos := "law.go:137", after := #[{ on := 3, ground := Ground.data }, { on := 12, ground := Ground.data }], guard := none } : Oper)) (v := .bool true) rfl (by kernel_rfl) (by kernel_rfl) (by kernel_rfl) (fun _ _ _ h => h) (Or.inl ⟨by rfl, ?_⟩) (by assumption) ?_
      · intro w hSw; (try dsimp only at hSw); go_simp
      (try simp only [Act.put, List.setIfInBounds_toArray, List.set_cons_zero, List.set_cons_succ])
      first
        | (refine wpAnyH_take (i := 14) (oi := ({ dst := some 6, op := Op.assign (Operand.tmp 112), type := 4, pos := "law.go:137", after := #[{ on := 13, ground := Ground.data }, { on := 12, ground := Ground.chain }, { on := 0, ground := Ground.phase }, { on := 1, ground := Ground.phase }, { on := 2, ground := Ground.phase }, { on := 3, ground := Ground.phase }, { on := 4, ground := Ground.phase }, { on := 5, ground := Ground.phase }, { on := 6, ground := Ground.phase }, { on := 7, ground := Ground.phase }, { on := 8, ground := Ground.phase }, { on := 9, ground := Ground.phase }, { on := 10, ground := Ground.phase }, { on := 11, ground := Ground.phase }, { on := 12, ground := Ground.phase }, { on := 13, ground := Ground.phase }], guard := none } : Oper)) (v := .bool true) rfl (by kernel_rfl) (by kernel_rfl) (by kernel_rfl) (fun _ _ _ h => h) (Or.inl ⟨by rfl, ?_⟩) (by assumption) ?_; · intro w hSw; (try dsimp only at hSw); go_simp; (try simp only [Act.put, List.setIfInBounds_toArray, List.set_cons_zero, List.set_cons_succ]))
        | (refine wpAnyH_ready (rs := [14]) (by kernel_rfl) (by simp) ?_; refine AllReadyH.cons (o := ({ dst := some 6, op := Op.assign (Operand.tmp 112), type := 4, pos := "law.go:137", after := #[{ on := 13, ground := Ground.data }, { on := 12, ground := Ground.chain }, { on := 0, ground := Ground.phase }, { on := 1, ground := Ground.phase }, { on := 2, ground := Ground.phase }, { on := 3, ground := Ground.phase }, { on := 4, ground := Ground.phase }, { on := 5, ground := Ground.phase }, { on := 6, ground := Ground.phase }, { on := 7, ground := Ground.phase }, { on := 8, ground := Ground.phase }, { on := 9, ground := Ground.phase }, { on := 10, ground := Ground.phase }, { on := 11, ground := Ground.phase }, { on := 12, ground := Ground.phase }, { on := 13, ground := Ground.phase }], guard := none } : Oper)) rfl (fun K hK => ?_) AllReadyH.nil; go_wp2_with fail; refine hK.out _ _ ?_ (fun hHeld => ?_); exact pl13; clear hK K; (try simp only [Act.put, List.setIfInBounds_toArray, List.set_cons_zero, List.set_cons_succ]))
      refine wpAnyH_done (by kernel_rfl) ?_ _
      go_wp2_with fail
      go_ret
      exact ⟨rfl, bl13⟩

theorem ss_all (w : World) (a : Option Addr) (l : List Hd) (c : Nat) (hw : HdsAt w a l) (hm : l.length ≤ maxLen) (h s : Int) (id : Int) :
    Calls Try.prog 6 #[.slice a l.length c, .agg #[.int .i64 h, .int .i64 s], .int .i64 id] w fun e w' => e = .returned (.bool true) ∧ Below w.heap.size w w' := by
  by_cases hg : Good l
  · rcases hw with rfl | ⟨b, o, rfl, hb, hxs⟩
    · by_cases hp : plOk h s
      · exact ss_ok_nil a c h s id w hg hp rfl
      · exact ss_bad_nil a c h s id w hg hp rfl
    · rcases idx_cases (isW id) l with ⟨h1, _⟩ | ⟨j, x, h1, h2, h3, _⟩
      · by_cases hp : plOk h s
        · exact ss_ok_no b o l c h s id w hb hxs hm hg hp h1
        · exact ss_bad_no b o l c h s id w hb hxs hm hg hp h1
      · by_cases hp : plOk h s
        · exact ss_ok_yes b o l c h s id w hb hxs hm hg hp j x h1 h2 h3
        · exact ss_bad_yes b o l c h s id w hb hxs hm hg hp j x h1 h2 h3
  · exact ss_notgood a l c h s id w hw hm hg
end Go.Proofs.Ytnjncemjghmpoaa
