/- RowSays, walked. -/
import Derived.Test.YtjhkabhhlpdpaaaRowGood
set_option linter.unusedSimpArgs false
set_option linter.unnecessarySimpa false
set_option linter.unusedVariables false
namespace Go.Proofs.Ytjhkabhhlpdpaaa
open Go.RowKit

set_option maxHeartbeats 1000000 in
set_option maxRecDepth 100000 in
theorem rsame_eq (n : Int) (w : World) (h : 0 ≤ n) :
    Calls Try.prog 12 #[errV n, .int .i64 n] w fun e w' => e = .returned (.bool true) ∧ w' = w := by
  by_cases h0 : n = 0
  · subst h0
    rw [errV_zero]
    go_enter Try.func12, Try.ntmps12
    go_wp2_with fail
    go_ret
    exact ⟨rfl, rfl⟩
  · rw [errV_pos h0]
    have h1 : 0 < n := by omega
    have d1 : decide (0 < n) = true := decide_eq_true h1
    clear h0
    go_enter Try.func12, Try.ntmps12
    go_wp2_with fail
    go_ret
    exact ⟨rfl, rfl⟩
set_option maxRecDepth 100000 in
theorem kx_fact : chkC ⟨⟨#[107]⟩, ⟨#[120]⟩, false⟩ = 0 ∧ chB ⟨⟨#[107]⟩, ⟨#[120]⟩, false⟩ = ⟨#[0, 1, 107, 120]⟩ := ⟨by decide, rfl⟩
set_option maxHeartbeats 1000000 in
set_option maxRecDepth 100000 in
theorem rows_any (w : World) : Calls Try.prog 24 #[] w fun e w' => e = .returned (.bool true) ∧ Below w.heap.size w w' := by
  have hb := fun W => rbytes_any ⟨⟨#[107]⟩, ⟨#[120]⟩, false⟩ W (by decide) (by decide)
  rw [kx_fact.1, kx_fact.2, if_pos rfl, errV_zero] at hb
  dsimp only at hb
  have hs := fun W => rsame_eq 0 W (by decide)
  rw [errV_zero] at hs
  go_enter Try.func24, Try.ntmps24
  go_wp2_with fail
  refine (hb _).mono ?_
  rintro e w1 ⟨rfl, hb1⟩
  go_wp2_with fail
  refine (hs _).mono ?_
  rintro e w2 ⟨rfl, rfl⟩
  go_wp2_with fail
  go_ret
  exact ⟨rfl, hb1⟩
set_option maxHeartbeats 4000000 in
set_option maxRecDepth 100000 in
theorem rsays_1 (a a2 : Option Addr) (c c2 : Nat) (l cs : List Ch) (x : Ch) (s : ByteArray) (w : World) (hl : ChsAt w a l) (hcs : ChsAt w a2 cs) (hm : l.length ≤ maxLen) (hm2 : cs.length ≤ maxLen) (z0 : x.key.size ≤ maxLen) (z1 : x.val.size ≤ maxLen) (hs : s.size ≤ maxLen) (q1 : lchB l 70 = false) :
    Calls Try.prog 4 #[.slice a l.length c, .slice a2 cs.length c2, .agg #[.string x.key, .string x.val, .bool x.gone], .string s] w fun e w' => e = .returned (.bool true) ∧ Below w.heap.size w w' := by
  have BX := Bx.new w [.string x.key, .string x.val, .bool x.gone] 56
  have bl := (Below.refl w.heap.size w).alloc (Nat.le_refl _) (.cells #[.string x.key, .string x.val, .bool x.gone] 56)
  have hr := rows_any (w.alloc (.cells #[.string x.key, .string x.val, .bool x.gone] 56))
  go_enter Try.func4, Try.ntmps4
  go_wp2_with fail
  refine hr.mono ?_
  rintro e w1 ⟨rfl, hb1⟩
  clear hr
  replace BX := BX.below hb1
  replace bl := Below_after bl hb1
  have h1 := lch_any a c l 70 w1 (hl.below bl) hm (by decide) (by decide)
  rw [q1] at h1
  go_wp2_with fail
  refine h1.mono ?_
  rintro e w2 ⟨rfl, rfl⟩
  clear h1
  go_wp2_with fail
  go_ret
  exact ⟨rfl, bl⟩
set_option maxHeartbeats 4000000 in
set_option maxRecDepth 100000 in
theorem rsays_2 (a a2 : Option Addr) (c c2 : Nat) (l cs : List Ch) (x : Ch) (s : ByteArray) (w : World) (hl : ChsAt w a l) (hcs : ChsAt w a2 cs) (hm : l.length ≤ maxLen) (hm2 : cs.length ≤ maxLen) (z0 : x.key.size ≤ maxLen) (z1 : x.val.size ≤ maxLen) (hs : s.size ≤ maxLen) (q1 : lchB l 70 = true) (q2 : lchB cs 20 = false) :
    Calls Try.prog 4 #[.slice a l.length c, .slice a2 cs.length c2, .agg #[.string x.key, .string x.val, .bool x.gone], .string s] w fun e w' => e = .returned (.bool true) ∧ Below w.heap.size w w' := by
  have BX := Bx.new w [.string x.key, .string x.val, .bool x.gone] 56
  have bl := (Below.refl w.heap.size w).alloc (Nat.le_refl _) (.cells #[.string x.key, .string x.val, .bool x.gone] 56)
  have hr := rows_any (w.alloc (.cells #[.string x.key, .string x.val, .bool x.gone] 56))
  go_enter Try.func4, Try.ntmps4
  go_wp2_with fail
  refine hr.mono ?_
  rintro e w1 ⟨rfl, hb1⟩
  clear hr
  replace BX := BX.below hb1
  replace bl := Below_after bl hb1
  have h1 := lch_any a c l 70 w1 (hl.below bl) hm (by decide) (by decide)
  rw [q1] at h1
  go_wp2_with fail
  refine h1.mono ?_
  rintro e w2 ⟨rfl, rfl⟩
  clear h1
  have h2 := lch_any a2 c2 cs 20 w2 (hcs.below bl) hm2 (by decide) (by decide)
  rw [q2] at h2
  go_wp2_with fail
  refine h2.mono ?_
  rintro e w3 ⟨rfl, rfl⟩
  clear h2
  go_wp2_with fail
  go_ret
  exact ⟨rfl, bl⟩
set_option maxHeartbeats 4000000 in
set_option maxRecDepth 100000 in
theorem rsays_3 (a a2 : Option Addr) (c c2 : Nat) (l cs : List Ch) (x : Ch) (s : ByteArray) (w : World) (hl : ChsAt w a l) (hcs : ChsAt w a2 cs) (hm : l.length ≤ maxLen) (hm2 : cs.length ≤ maxLen) (z0 : x.key.size ≤ maxLen) (z1 : x.val.size ≤ maxLen) (hs : s.size ≤ maxLen) (q1 : lchB l 70 = true) (q2 : lchB cs 20 = true) (q3 : lchB [x] 1 = false) :
    Calls Try.prog 4 #[.slice a l.length c, .slice a2 cs.length c2, .agg #[.string x.key, .string x.val, .bool x.gone], .string s] w fun e w' => e = .returned (.bool true) ∧ Below w.heap.size w w' := by
  have BX := Bx.new w [.string x.key, .string x.val, .bool x.gone] 56
  have bl := (Below.refl w.heap.size w).alloc (Nat.le_refl _) (.cells #[.string x.key, .string x.val, .bool x.gone] 56)
  have hr := rows_any (w.alloc (.cells #[.string x.key, .string x.val, .bool x.gone] 56))
  go_enter Try.func4, Try.ntmps4
  go_wp2_with fail
  refine hr.mono ?_
  rintro e w1 ⟨rfl, hb1⟩
  clear hr
  replace BX := BX.below hb1
  replace bl := Below_after bl hb1
  have h1 := lch_any a c l 70 w1 (hl.below bl) hm (by decide) (by decide)
  rw [q1] at h1
  go_wp2_with fail
  refine h1.mono ?_
  rintro e w2 ⟨rfl, rfl⟩
  clear h1
  have h2 := lch_any a2 c2 cs 20 w2 (hcs.below bl) hm2 (by decide) (by decide)
  rw [q2] at h2
  go_wp2_with fail
  refine h2.mono ?_
  rintro e w3 ⟨rfl, rfl⟩
  clear h2
  have c0 := (BX.2 0 _ rfl).1
  have c1 := (BX.2 1 _ rfl).1
  have c2' := (BX.2 2 _ rfl).1
  have zX := BX.1
  have bl9 := (Below.refl w3.heap.size w3).alloc (Nat.le_refl _) (.cells #[.string x.key, .string x.val, .bool x.gone] 56)
  have hone : ChsAt (w3.alloc (.cells #[.string x.key, .string x.val, .bool x.gone] 56)) (some ⟨w3.heap.size, 0, none⟩) [x] := by
    refine .inr ⟨w3.heap.size, 0, rfl, by simp, fun j y hy => ?_⟩
    have hB := (Bx.new w3 [.string x.key, .string x.val, .bool x.gone] 56).2
    match j, hy with
    | 0, hy => simp at hy; subst hy; exact ⟨⟨(hB 0 _ rfl).1, (hB 1 _ rfl).1, (hB 2 _ rfl).1⟩, z0, z1⟩
  have h3 := lch_any (some ⟨w3.heap.size, 0, none⟩) 1 [x] 1 _ hone (by simp [maxLen]) (by decide) (by decide)
  rw [List.length_singleton] at h3
  replace BX := BX.below bl9
  replace bl := Below_after bl bl9
  rw [q3] at h3
  go_wp2_with fail
  refine h3.mono ?_
  rintro e w4 ⟨rfl, rfl⟩
  clear h3
  go_wp2_with fail
  go_ret
  exact ⟨rfl, bl⟩
set_option maxHeartbeats 4000000 in
set_option maxRecDepth 100000 in
theorem rsays_4 (a a2 : Option Addr) (c c2 : Nat) (l cs : List Ch) (x : Ch) (s : ByteArray) (w : World) (hl : ChsAt w a l) (hcs : ChsAt w a2 cs) (hm : l.length ≤ maxLen) (hm2 : cs.length ≤ maxLen) (z0 : x.key.size ≤ maxLen) (z1 : x.val.size ≤ maxLen) (hs : s.size ≤ maxLen) (q1 : lchB l 70 = true) (q2 : lchB cs 20 = true) (q3 : lchB [x] 1 = true) (q4 : 200 < s.size) :
    Calls Try.prog 4 #[.slice a l.length c, .slice a2 cs.length c2, .agg #[.string x.key, .string x.val, .bool x.gone], .string s] w fun e w' => e = .returned (.bool true) ∧ Below w.heap.size w w' := by
  have d4 : decide ((200 : Int) < (s.size : Int)) = true := decide_eq_true (by omega)
  have BX := Bx.new w [.string x.key, .string x.val, .bool x.gone] 56
  have bl := (Below.refl w.heap.size w).alloc (Nat.le_refl _) (.cells #[.string x.key, .string x.val, .bool x.gone] 56)
  have hr := rows_any (w.alloc (.cells #[.string x.key, .string x.val, .bool x.gone] 56))
  go_enter Try.func4, Try.ntmps4
  go_wp2_with fail
  refine hr.mono ?_
  rintro e w1 ⟨rfl, hb1⟩
  clear hr
  replace BX := BX.below hb1
  replace bl := Below_after bl hb1
  have h1 := lch_any a c l 70 w1 (hl.below bl) hm (by decide) (by decide)
  rw [q1] at h1
  go_wp2_with fail
  refine h1.mono ?_
  rintro e w2 ⟨rfl, rfl⟩
  clear h1
  have h2 := lch_any a2 c2 cs 20 w2 (hcs.below bl) hm2 (by decide) (by decide)
  rw [q2] at h2
  go_wp2_with fail
  refine h2.mono ?_
  rintro e w3 ⟨rfl, rfl⟩
  clear h2
  have c0 := (BX.2 0 _ rfl).1
  have c1 := (BX.2 1 _ rfl).1
  have c2' := (BX.2 2 _ rfl).1
  have zX := BX.1
  have bl9 := (Below.refl w3.heap.size w3).alloc (Nat.le_refl _) (.cells #[.string x.key, .string x.val, .bool x.gone] 56)
  have hone : ChsAt (w3.alloc (.cells #[.string x.key, .string x.val, .bool x.gone] 56)) (some ⟨w3.heap.size, 0, none⟩) [x] := by
    refine .inr ⟨w3.heap.size, 0, rfl, by simp, fun j y hy => ?_⟩
    have hB := (Bx.new w3 [.string x.key, .string x.val, .bool x.gone] 56).2
    match j, hy with
    | 0, hy => simp at hy; subst hy; exact ⟨⟨(hB 0 _ rfl).1, (hB 1 _ rfl).1, (hB 2 _ rfl).1⟩, z0, z1⟩
  have h3 := lch_any (some ⟨w3.heap.size, 0, none⟩) 1 [x] 1 _ hone (by simp [maxLen]) (by decide) (by decide)
  rw [List.length_singleton] at h3
  replace BX := BX.below bl9
  replace bl := Below_after bl bl9
  rw [q3] at h3
  go_wp2_with fail
  refine h3.mono ?_
  rintro e w4 ⟨rfl, rfl⟩
  clear h3
  go_wp2_with fail
  go_ret
  exact ⟨rfl, bl⟩
set_option maxHeartbeats 4000000 in
set_option maxRecDepth 100000 in
theorem rsays_go (a a2 : Option Addr) (c c2 : Nat) (l cs : List Ch) (x : Ch) (s : ByteArray) (w : World) (hl : ChsAt w a l) (hcs : ChsAt w a2 cs) (hm : l.length ≤ maxLen) (hm2 : cs.length ≤ maxLen) (z0 : x.key.size ≤ maxLen) (z1 : x.val.size ≤ maxLen) (hs : s.size ≤ maxLen) (q1 : lchB l 70 = true) (q2 : lchB cs 20 = true) (q3 : lchB [x] 1 = true) (q4 : s.size ≤ 200) :
    Calls Try.prog 4 #[.slice a l.length c, .slice a2 cs.length c2, .agg #[.string x.key, .string x.val, .bool x.gone], .string s] w fun e w' => e = .returned (.bool true) ∧ Below w.heap.size w w' := by
  have d4 : decide ((200 : Int) < (s.size : Int)) = false := decide_eq_false (by omega)
  have BX := Bx.new w [.string x.key, .string x.val, .bool x.gone] 56
  have bl := (Below.refl w.heap.size w).alloc (Nat.le_refl _) (.cells #[.string x.key, .string x.val, .bool x.gone] 56)
  have hr := rows_any (w.alloc (.cells #[.string x.key, .string x.val, .bool x.gone] 56))
  go_enter Try.func4, Try.ntmps4
  go_wp2_with fail
  refine hr.mono ?_
  rintro e w1 ⟨rfl, hb1⟩
  clear hr
  replace BX := BX.below hb1
  replace bl := Below_after bl hb1
  have h1 := lch_any a c l 70 w1 (hl.below bl) hm (by decide) (by decide)
  rw [q1] at h1
  go_wp2_with fail
  refine h1.mono ?_
  rintro e w2 ⟨rfl, rfl⟩
  clear h1
  have h2 := lch_any a2 c2 cs 20 w2 (hcs.below bl) hm2 (by decide) (by decide)
  rw [q2] at h2
  go_wp2_with fail
  refine h2.mono ?_
  rintro e w3 ⟨rfl, rfl⟩
  clear h2
  have c0 := (BX.2 0 _ rfl).1
  have c1 := (BX.2 1 _ rfl).1
  have c2' := (BX.2 2 _ rfl).1
  have zX := BX.1
  have bl9 := (Below.refl w3.heap.size w3).alloc (Nat.le_refl _) (.cells #[.string x.key, .string x.val, .bool x.gone] 56)
  have hone : ChsAt (w3.alloc (.cells #[.string x.key, .string x.val, .bool x.gone] 56)) (some ⟨w3.heap.size, 0, none⟩) [x] := by
    refine .inr ⟨w3.heap.size, 0, rfl, by simp, fun j y hy => ?_⟩
    have hB := (Bx.new w3 [.string x.key, .string x.val, .bool x.gone] 56).2
    match j, hy with
    | 0, hy => simp at hy; subst hy; exact ⟨⟨(hB 0 _ rfl).1, (hB 1 _ rfl).1, (hB 2 _ rfl).1⟩, z0, z1⟩
  have h3 := lch_any (some ⟨w3.heap.size, 0, none⟩) 1 [x] 1 _ hone (by simp [maxLen]) (by decide) (by decide)
  rw [List.length_singleton] at h3
  replace BX := BX.below bl9
  replace bl := Below_after bl bl9
  rw [q3] at h3
  go_wp2_with fail
  refine h3.mono ?_
  rintro e w4 ⟨rfl, rfl⟩
  clear h3
  have hby := fun W => rbytes_any x W z0 z1
  have hrb := fun W => rfbytes_any x W z0 z1
  have hpa := fun W => rparse_any s W hs
  have hrp := fun W => rfparse_any s W hs
  have hck := fun W => check_any x W z0 z1
  have hcf := fun W => rfault_any x W z0 z1
  have hsm := fun W => rsame_eq (chkC x) W (by unfold chkC; split <;> (try split) <;> decide)
  have hsp := fun W => rsame_eq (prC s) W (by unfold prC; split <;> decide)
  generalize (if chkC x = 0 then chB x else ⟨#[]⟩) = B1 at *
  generalize errV (chkC x) = E1 at *
  generalize chkC x = C1 at *
  generalize errV (prC s) = E2 at *
  generalize prC s = C2 at *
  generalize prR s = R at *
  have c0 := (BX.2 0 _ rfl).1
  have c1 := (BX.2 1 _ rfl).1
  have c2' := (BX.2 2 _ rfl).1
  have zX := BX.1
  go_wp2_with fail
  refine (hby _).mono ?_
  rintro e w5 ⟨rfl, hb5⟩
  clear hby c0 c1 c2' zX
  replace BX := BX.below hb5
  replace bl := Below_after bl hb5
  have c0 := (BX.2 0 _ rfl).1
  have c1 := (BX.2 1 _ rfl).1
  have c2' := (BX.2 2 _ rfl).1
  have zX := BX.1
  go_wp2_with fail
  refine (hrb _).mono ?_
  rintro e w6 ⟨rfl, hb6⟩
  clear hrb c0 c1 c2' zX
  replace BX := BX.below hb6
  replace bl := Below_after bl hb6
  go_wp2_with fail
  refine (hpa _).mono ?_
  rintro e w7 ⟨rfl, hb7⟩
  clear hpa
  replace BX := BX.below hb7
  replace bl := Below_after bl hb7
  have BY := Bx.new w7 [.string R.key, .string R.val, .bool R.gone] 56
  have b79 := (Below.refl w7.heap.size w7).alloc (Nat.le_refl _) (.cells #[.string R.key, .string R.val, .bool R.gone] 56)
  replace BX := BX.below b79
  replace bl := Below_after bl b79
  go_wp2_with fail
  refine (hrp _).mono ?_
  rintro e wp ⟨rfl, hbp⟩
  clear hrp
  replace BX := BX.below hbp
  replace BY := BY.below hbp
  replace bl := Below_after bl hbp
  have BZ := Bx.new wp [.string R.key, .string R.val, .bool R.gone] 56
  have bpz := (Below.refl wp.heap.size wp).alloc (Nat.le_refl _) (.cells #[.string R.key, .string R.val, .bool R.gone] 56)
  replace BX := BX.below bpz
  replace BY := BY.below bpz
  replace bl := Below_after bl bpz
  go_wp2_with fail
  generalize wp.alloc (.cells #[.string R.key, .string R.val, .bool R.gone] 56) = w8 at *
  generalize wp.heap.size = g2 at *
  generalize w7.heap.size = g1 at *
  have hB0 : Below w8.heap.size w8 w8.drew := below_drewN (Below.refl _ _) 1
  have mk : ∀ w' : World, Below w8.heap.size w8 w' → Below w8.heap.size w8 w' ∧ (w'.cell? ⟨w.heap.size, 0, none⟩ = some (.string x.key) ∧ w'.cell? ⟨w.heap.size, 1, none⟩ = some (.string x.val) ∧ w'.cell? ⟨w.heap.size, 2, none⟩ = some (.bool x.gone)) ∧ (w'.cell? ⟨g1, 0, none⟩ = some (.string R.key) ∧ w'.cell? ⟨g1, 1, none⟩ = some (.string R.val) ∧ w'.cell? ⟨g1, 2, none⟩ = some (.bool R.gone)) ∧ w'.cell? ⟨g2, 0, none⟩ = some (.string R.key) ∧ w'.cell? ⟨g2, 1, none⟩ = some (.string R.val) ∧ w'.cell? ⟨g2, 2, none⟩ = some (.bool R.gone) := fun w' h => by
    have X := BX.below h
    have Y := BY.below h
    have Z := BZ.below h
    exact ⟨h, ⟨(X.2 0 _ rfl).1, (X.2 1 _ rfl).1, (X.2 2 _ rfl).1⟩, ⟨(Y.2 0 _ rfl).1, (Y.2 1 _ rfl).1, (Y.2 2 _ rfl).1⟩, (Z.2 0 _ rfl).1, (Z.2 1 _ rfl).1, (Z.2 2 _ rfl).1⟩
  refine wp_region_held_drew (S := fun w' => Below w8.heap.size w8 w' ∧ (w'.cell? ⟨w.heap.size, 0, none⟩ = some (.string x.key) ∧ w'.cell? ⟨w.heap.size, 1, none⟩ = some (.string x.val) ∧ w'.cell? ⟨w.heap.size, 2, none⟩ = some (.bool x.gone)) ∧ (w'.cell? ⟨g1, 0, none⟩ = some (.string R.key) ∧ w'.cell? ⟨g1, 1, none⟩ = some (.string R.val) ∧ w'.cell? ⟨g1, 2, none⟩ = some (.bool R.gone)) ∧ w'.cell? ⟨g2, 0, none⟩ = some (.string R.key) ∧ w'.cell? ⟨g2, 1, none⟩ = some (.string R.val) ∧ w'.cell? ⟨g2, 2, none⟩ = some (.bool R.gone)) (by kernel_rfl) ?_ (fun hHeld => ?_)
  · exact mk _ hB0
  refine wpAnyH_take (i := 0) (oi := ({ dst := some 64, op := Op.load 56 (Operand.tmp 6), type := 56, pos := "law.go:402", after := #[], guard := none } : Oper)) (v := .agg #[.string x.key, .string x.val, .bool x.gone]) rfl (by kernel_rfl) (by kernel_rfl) (by kernel_rfl) (fun _ _ _ h => h) (Or.inl ⟨by rfl, ?_⟩) (by assumption) ?_
  · intro w hSw; (try dsimp only at hSw); (go_simp <;> first | (intro hh; exfalso; omega) | skip)
  (try simp only [Act.put, List.setIfInBounds_toArray, List.set_cons_zero, List.set_cons_succ])
  refine wpAnyH_take (i := 2) (oi := ({ dst := some 66, op := Op.load 56 (Operand.tmp 6), type := 56, pos := "law.go:402", after := #[], guard := none } : Oper)) (v := .agg #[.string x.key, .string x.val, .bool x.gone]) rfl (by kernel_rfl) (by kernel_rfl) (by kernel_rfl) (fun _ _ _ h => h) (Or.inl ⟨by rfl, ?_⟩) (by assumption) ?_
  · intro w hSw; (try dsimp only at hSw); (go_simp <;> first | (intro hh; exfalso; omega) | skip)
  (try simp only [Act.put, List.setIfInBounds_toArray, List.set_cons_zero, List.set_cons_succ])
  refine wpAnyH_ready (rs := [1]) (by kernel_rfl) (by simp) ?_
  refine AllReadyH.cons (o := ({ dst := some 65, op := Op.call { callee := Callee.value (Operand.func 30), args := #[Operand.tmp 64], argTypes := #[56] }, type := 27, pos := "law.go:402", after := #[{ on := 0, ground := Ground.data }], guard := none } : Oper)) rfl (fun K hK => ?_) AllReadyH.nil
  rw [if_pos (by rfl)]
  go_wp2_with fail
  refine (hck _).mono ?_
  rintro e wa ⟨rfl, hba⟩
  have hBa := Below_after hB0 hba
  go_wp2_with fail
  refine hK.out _ _ ?_ (fun hHeld => ?_)
  · exact mk _ hBa
  clear hK K
  (try simp only [Act.put, List.setIfInBounds_toArray, List.set_cons_zero, List.set_cons_succ])
  refine wpAnyH_ready (rs := [3]) (by kernel_rfl) (by simp) ?_
  refine AllReadyH.cons (o := ({ dst := some 67, op := Op.call { callee := Callee.value (Operand.func 31), args := #[Operand.tmp 66], argTypes := #[56] }, type := 3, pos := "law.go:402", after := #[{ on := 2, ground := Ground.data }, { on := 1, ground := Ground.chain }], guard := none } : Oper)) rfl (fun K hK => ?_) AllReadyH.nil
  rw [if_pos (by rfl)]
  go_wp2_with fail
  refine (hcf _).mono ?_
  rintro e wb ⟨rfl, hbb⟩
  have hBb := Below_after hBa hbb
  go_wp2_with fail
  refine hK.out _ _ ?_ (fun hHeld => ?_)
  · exact mk _ hBb
  clear hK K
  (try simp only [Act.put, List.setIfInBounds_toArray, List.set_cons_zero, List.set_cons_succ])
  refine wpAnyH_ready (rs := [4]) (by kernel_rfl) (by simp) ?_
  refine AllReadyH.cons (o := ({ dst := some 68, op := Op.call { callee := Callee.value (Operand.func 12), args := #[Operand.tmp 65, Operand.tmp 67], argTypes := #[27, 3] }, type := 4, pos := "law.go:402", after := #[{ on := 1, ground := Ground.data }, { on := 3, ground := Ground.data }, { on := 3, ground := Ground.chain }], guard := none } : Oper)) rfl (fun K hK => ?_) AllReadyH.nil
  rw [if_pos (by rfl)]
  go_wp2_with fail
  refine (hsm _).mono ?_
  rintro e wc ⟨rfl, rfl⟩
  go_wp2_with fail
  refine hK.out _ _ ?_ (fun hHeld => ?_)
  · exact mk _ hBb
  clear hK K
  (try simp only [Act.put, List.setIfInBounds_toArray, List.set_cons_zero, List.set_cons_succ])
  refine wpAnyH_take (i := 5) (oi := ({ dst := some 69, op := Op.unOp UnOp.not 4 (Operand.tmp 68), type := 4, pos := "law.go:402", after := #[{ on := 4, ground := Ground.data }], guard := none } : Oper)) (v := .bool false) rfl (by kernel_rfl) (by kernel_rfl) (by kernel_rfl) (fun _ _ _ h => h) (Or.inl ⟨by rfl, ?_⟩) (by assumption) ?_
  · intro w hSw; (try dsimp only at hSw); (go_simp <;> first | (intro hh; exfalso; omega) | skip)
  (try simp only [Act.put, List.setIfInBounds_toArray, List.set_cons_zero, List.set_cons_succ])
  refine wpAnyH_take (i := 6) (oi := ({ dst := some 70, op := Op.move (Operand.tmp 69), type := 4, pos := "law.go:402", after := #[{ on := 5, ground := Ground.data }, { on := 4, ground := Ground.chain }], guard := none } : Oper)) (v := .bool false) rfl (by kernel_rfl) (by kernel_rfl) (by kernel_rfl) (fun _ _ _ h => h) (Or.inl ⟨by rfl, ?_⟩) (by assumption) ?_
  · intro w hSw; (try dsimp only at hSw); (go_simp <;> first | (intro hh; exfalso; omega) | skip)
  (try simp only [Act.put, List.setIfInBounds_toArray, List.set_cons_zero, List.set_cons_succ])
  refine wpAnyH_take (i := 7) (oi := ({ dst := some 71, op := Op.move (Operand.tmp 10), type := 9, pos := "law.go:402", after := #[{ on := 6, ground := Ground.guard }], guard := some (6, false) } : Oper)) (v := .string B1) rfl (by kernel_rfl) (by kernel_rfl) (by kernel_rfl) (fun _ _ _ h => h) (Or.inl ⟨by rfl, ?_⟩) (by assumption) ?_
  · intro w hSw; (try dsimp only at hSw); (go_simp <;> first | (intro hh; exfalso; omega) | skip)
  (try simp only [Act.put, List.setIfInBounds_toArray, List.set_cons_zero, List.set_cons_succ])
  refine wpAnyH_take (i := 8) (oi := ({ dst := some 72, op := Op.move (Operand.tmp 12), type := 9, pos := "law.go:402", after := #[{ on := 6, ground := Ground.guard }], guard := some (6, false) } : Oper)) (v := .string B1) rfl (by kernel_rfl) (by kernel_rfl) (by kernel_rfl) (fun _ _ _ h => h) (Or.inl ⟨by rfl, ?_⟩) (by assumption) ?_
  · intro w hSw; (try dsimp only at hSw); (go_simp <;> first | (intro hh; exfalso; omega) | skip)
  (try simp only [Act.put, List.setIfInBounds_toArray, List.set_cons_zero, List.set_cons_succ])
  refine wpAnyH_take (i := 9) (oi := ({ dst := some 73, op := Op.binOp BinOp.neq 9 (Operand.tmp 71) (Operand.tmp 72) 9, type := 4, pos := "law.go:402", after := #[{ on := 7, ground := Ground.data }, { on := 8, ground := Ground.data }, { on := 6, ground := Ground.guard }], guard := some (6, false) } : Oper)) (v := .bool false) rfl (by kernel_rfl) (by kernel_rfl) (by kernel_rfl) (fun _ _ _ h => h) (Or.inl ⟨by rfl, ?_⟩) (by assumption) ?_
  · intro w hSw; (try dsimp only at hSw); (go_simp <;> first | (intro hh; exfalso; omega) | skip)
  (try simp only [Act.put, List.setIfInBounds_toArray, List.set_cons_zero, List.set_cons_succ])
  refine wpAnyH_take (i := 10) (oi := ({ dst := some 74, op := Op.pick (Operand.tmp 70) (Operand.const (Value.bool true)) (Operand.tmp 73), type := 4, pos := "law.go:402", after := #[{ on := 6, ground := Ground.data }, { on := 9, ground := Ground.data }], guard := none } : Oper)) (v := .bool false) rfl (by kernel_rfl) (by kernel_rfl) (by kernel_rfl) (fun _ _ _ h => h) (Or.inl ⟨by rfl, ?_⟩) (by assumption) ?_
  · intro w hSw; (try dsimp only at hSw); (go_simp <;> first | (intro hh; exfalso; omega) | skip)
  (try simp only [Act.put, List.setIfInBounds_toArray, List.set_cons_zero, List.set_cons_succ])
  refine wpAnyH_take (i := 11) (oi := ({ dst := some 75, op := Op.move (Operand.tmp 74), type := 4, pos := "law.go:402", after := #[{ on := 10, ground := Ground.data }, { on := 6, ground := Ground.chain }], guard := none } : Oper)) (v := .bool false) rfl (by kernel_rfl) (by kernel_rfl) (by kernel_rfl) (fun _ _ _ h => h) (Or.inl ⟨by rfl, ?_⟩) (by assumption) ?_
  · intro w hSw; (try dsimp only at hSw); (go_simp <;> first | (intro hh; exfalso; omega) | skip)
  (try simp only [Act.put, List.setIfInBounds_toArray, List.set_cons_zero, List.set_cons_succ])
  refine wpAnyH_take (i := 12) (oi := ({ dst := some 76, op := Op.load 56 (Operand.tmp 14), type := 56, pos := "law.go:402", after := #[{ on := 11, ground := Ground.guard }], guard := some (11, false) } : Oper)) (v := .agg #[.string R.key, .string R.val, .bool R.gone]) rfl (by kernel_rfl) (by kernel_rfl) (by kernel_rfl) (fun _ _ _ h => h) (Or.inl ⟨by rfl, ?_⟩) (by assumption) ?_
  · intro w hSw; (try dsimp only at hSw); (go_simp <;> first | (intro hh; exfalso; omega) | skip)
  (try simp only [Act.put, List.setIfInBounds_toArray, List.set_cons_zero, List.set_cons_succ])
  refine wpAnyH_take (i := 13) (oi := ({ dst := some 77, op := Op.load 56 (Operand.tmp 16), type := 56, pos := "law.go:402", after := #[{ on := 11, ground := Ground.guard }], guard := some (11, false) } : Oper)) (v := .agg #[.string R.key, .string R.val, .bool R.gone]) rfl (by kernel_rfl) (by kernel_rfl) (by kernel_rfl) (fun _ _ _ h => h) (Or.inl ⟨by rfl, ?_⟩) (by assumption) ?_
  · intro w hSw; (try dsimp only at hSw); (go_simp <;> first | (intro hh; exfalso; omega) | skip)
  (try simp only [Act.put, List.setIfInBounds_toArray, List.set_cons_zero, List.set_cons_succ])
  refine wpAnyH_take (i := 14) (oi := ({ dst := some 78, op := Op.binOp BinOp.neq 56 (Operand.tmp 76) (Operand.tmp 77) 56, type := 4, pos := "law.go:402", after := #[{ on := 12, ground := Ground.data }, { on := 13, ground := Ground.data }, { on := 11, ground := Ground.guard }], guard := some (11, false) } : Oper)) (v := .bool false) rfl (by kernel_rfl) (by kernel_rfl) (by kernel_rfl) (fun _ _ _ h => h) (Or.inl ⟨by rfl, ?_⟩) (by assumption) ?_
  · intro w hSw; (try dsimp only at hSw); (go_simp <;> first | (intro hh; exfalso; omega) | skip)
  (try simp only [Act.put, List.setIfInBounds_toArray, List.set_cons_zero, List.set_cons_succ])
  refine wpAnyH_take (i := 15) (oi := ({ dst := some 79, op := Op.pick (Operand.tmp 75) (Operand.const (Value.bool true)) (Operand.tmp 78), type := 4, pos := "law.go:402", after := #[{ on := 11, ground := Ground.data }, { on := 14, ground := Ground.data }], guard := none } : Oper)) (v := .bool false) rfl (by kernel_rfl) (by kernel_rfl) (by kernel_rfl) (fun _ _ _ h => h) (Or.inl ⟨by rfl, ?_⟩) (by assumption) ?_
  · intro w hSw; (try dsimp only at hSw); (go_simp <;> first | (intro hh; exfalso; omega) | skip)
  (try simp only [Act.put, List.setIfInBounds_toArray, List.set_cons_zero, List.set_cons_succ])
  refine wpAnyH_take (i := 16) (oi := ({ dst := some 80, op := Op.move (Operand.tmp 79), type := 4, pos := "law.go:402", after := #[{ on := 15, ground := Ground.data }, { on := 11, ground := Ground.chain }], guard := none } : Oper)) (v := .bool false) rfl (by kernel_rfl) (by kernel_rfl) (by kernel_rfl) (fun _ _ _ h => h) (Or.inl ⟨by rfl, ?_⟩) (by assumption) ?_
  · intro w hSw; (try dsimp only at hSw); (go_simp <;> first | (intro hh; exfalso; omega) | skip)
  (try simp only [Act.put, List.setIfInBounds_toArray, List.set_cons_zero, List.set_cons_succ])
  refine wpAnyH_take (i := 17) (oi := ({ dst := some 81, op := Op.move (Operand.tmp 11), type := 27, pos := "law.go:402", after := #[{ on := 16, ground := Ground.guard }], guard := some (16, false) } : Oper)) (v := E1) rfl (by kernel_rfl) (by kernel_rfl) (by kernel_rfl) (fun _ _ _ h => h) (Or.inl ⟨by rfl, ?_⟩) (by assumption) ?_
  · intro w hSw; (try dsimp only at hSw); (go_simp <;> first | (intro hh; exfalso; omega) | skip)
  (try simp only [Act.put, List.setIfInBounds_toArray, List.set_cons_zero, List.set_cons_succ])
  refine wpAnyH_take (i := 18) (oi := ({ dst := some 82, op := Op.move (Operand.tmp 13), type := 3, pos := "law.go:402", after := #[{ on := 16, ground := Ground.guard }], guard := some (16, false) } : Oper)) (v := .int .i64 C1) rfl (by kernel_rfl) (by kernel_rfl) (by kernel_rfl) (fun _ _ _ h => h) (Or.inl ⟨by rfl, ?_⟩) (by assumption) ?_
  · intro w hSw; (try dsimp only at hSw); (go_simp <;> first | (intro hh; exfalso; omega) | skip)
  (try simp only [Act.put, List.setIfInBounds_toArray, List.set_cons_zero, List.set_cons_succ])
  refine wpAnyH_ready (rs := [19]) (by kernel_rfl) (by simp) ?_
  refine AllReadyH.cons (o := ({ dst := some 83, op := Op.call { callee := Callee.value (Operand.func 12), args := #[Operand.tmp 81, Operand.tmp 82], argTypes := #[27, 3] }, type := 4, pos := "law.go:402", after := #[{ on := 17, ground := Ground.data }, { on := 18, ground := Ground.data }, { on := 16, ground := Ground.chain }, { on := 16, ground := Ground.guard }], guard := some (16, false) } : Oper)) rfl (fun K hK => ?_) AllReadyH.nil
  rw [if_pos (by rfl)]
  go_wp2_with fail
  refine (hsm _).mono ?_
  rintro e wd ⟨rfl, rfl⟩
  go_wp2_with fail
  refine hK.out _ _ ?_ (fun hHeld => ?_)
  · exact mk _ hBb
  clear hK K
  (try simp only [Act.put, List.setIfInBounds_toArray, List.set_cons_zero, List.set_cons_succ])
  refine wpAnyH_take (i := 20) (oi := ({ dst := some 84, op := Op.unOp UnOp.not 4 (Operand.tmp 83), type := 4, pos := "law.go:402", after := #[{ on := 19, ground := Ground.data }, { on := 16, ground := Ground.guard }], guard := some (16, false) } : Oper)) (v := .bool false) rfl (by kernel_rfl) (by kernel_rfl) (by kernel_rfl) (fun _ _ _ h => h) (Or.inl ⟨by rfl, ?_⟩) (by assumption) ?_
  · intro w hSw; (try dsimp only at hSw); (go_simp <;> first | (intro hh; exfalso; omega) | skip)
  (try simp only [Act.put, List.setIfInBounds_toArray, List.set_cons_zero, List.set_cons_succ])
  refine wpAnyH_take (i := 21) (oi := ({ dst := some 85, op := Op.pick (Operand.tmp 80) (Operand.const (Value.bool true)) (Operand.tmp 84), type := 4, pos := "law.go:402", after := #[{ on := 16, ground := Ground.data }, { on := 20, ground := Ground.data }], guard := none } : Oper)) (v := .bool false) rfl (by kernel_rfl) (by kernel_rfl) (by kernel_rfl) (fun _ _ _ h => h) (Or.inl ⟨by rfl, ?_⟩) (by assumption) ?_
  · intro w hSw; (try dsimp only at hSw); (go_simp <;> first | (intro hh; exfalso; omega) | skip)
  (try simp only [Act.put, List.setIfInBounds_toArray, List.set_cons_zero, List.set_cons_succ])
  refine wpAnyH_take (i := 22) (oi := ({ dst := some 86, op := Op.move (Operand.tmp 85), type := 4, pos := "law.go:402", after := #[{ on := 21, ground := Ground.data }, { on := 19, ground := Ground.chain }], guard := none } : Oper)) (v := .bool false) rfl (by kernel_rfl) (by kernel_rfl) (by kernel_rfl) (fun _ _ _ h => h) (Or.inl ⟨by rfl, ?_⟩) (by assumption) ?_
  · intro w hSw; (try dsimp only at hSw); (go_simp <;> first | (intro hh; exfalso; omega) | skip)
  (try simp only [Act.put, List.setIfInBounds_toArray, List.set_cons_zero, List.set_cons_succ])
  refine wpAnyH_take (i := 23) (oi := ({ dst := some 87, op := Op.move (Operand.tmp 15), type := 27, pos := "law.go:402", after := #[{ on := 22, ground := Ground.guard }], guard := some (22, false) } : Oper)) (v := E2) rfl (by kernel_rfl) (by kernel_rfl) (by kernel_rfl) (fun _ _ _ h => h) (Or.inl ⟨by rfl, ?_⟩) (by assumption) ?_
  · intro w hSw; (try dsimp only at hSw); (go_simp <;> first | (intro hh; exfalso; omega) | skip)
  (try simp only [Act.put, List.setIfInBounds_toArray, List.set_cons_zero, List.set_cons_succ])
  refine wpAnyH_take (i := 24) (oi := ({ dst := some 88, op := Op.move (Operand.tmp 17), type := 3, pos := "law.go:402", after := #[{ on := 22, ground := Ground.guard }], guard := some (22, false) } : Oper)) (v := .int .i64 C2) rfl (by kernel_rfl) (by kernel_rfl) (by kernel_rfl) (fun _ _ _ h => h) (Or.inl ⟨by rfl, ?_⟩) (by assumption) ?_
  · intro w hSw; (try dsimp only at hSw); (go_simp <;> first | (intro hh; exfalso; omega) | skip)
  (try simp only [Act.put, List.setIfInBounds_toArray, List.set_cons_zero, List.set_cons_succ])
  refine wpAnyH_ready (rs := [25]) (by kernel_rfl) (by simp) ?_
  refine AllReadyH.cons (o := ({ dst := some 89, op := Op.call { callee := Callee.value (Operand.func 12), args := #[Operand.tmp 87, Operand.tmp 88], argTypes := #[27, 3] }, type := 4, pos := "law.go:402", after := #[{ on := 23, ground := Ground.data }, { on := 24, ground := Ground.data }, { on := 22, ground := Ground.chain }, { on := 22, ground := Ground.guard }], guard := some (22, false) } : Oper)) rfl (fun K hK => ?_) AllReadyH.nil
  rw [if_pos (by rfl)]
  go_wp2_with fail
  refine (hsp _).mono ?_
  rintro e we ⟨rfl, rfl⟩
  go_wp2_with fail
  refine hK.out _ _ ?_ (fun hHeld => ?_)
  · exact mk _ hBb
  clear hK K
  (try simp only [Act.put, List.setIfInBounds_toArray, List.set_cons_zero, List.set_cons_succ])
  refine wpAnyH_take (i := 26) (oi := ({ dst := some 90, op := Op.unOp UnOp.not 4 (Operand.tmp 89), type := 4, pos := "law.go:402", after := #[{ on := 25, ground := Ground.data }, { on := 22, ground := Ground.guard }], guard := some (22, false) } : Oper)) (v := .bool false) rfl (by kernel_rfl) (by kernel_rfl) (by kernel_rfl) (fun _ _ _ h => h) (Or.inl ⟨by rfl, ?_⟩) (by assumption) ?_
  · intro w hSw; (try dsimp only at hSw); (go_simp <;> first | (intro hh; exfalso; omega) | skip)
  (try simp only [Act.put, List.setIfInBounds_toArray, List.set_cons_zero, List.set_cons_succ])
  refine wpAnyH_take (i := 27) (oi := ({ dst := some 91, op := Op.pick (Operand.tmp 86) (Operand.const (Value.bool true)) (Operand.tmp 90), type := 4, pos := "law.go:402", after := #[{ on := 22, ground := Ground.data }, { on := 26, ground := Ground.data }], guard := none } : Oper)) (v := .bool false) rfl (by kernel_rfl) (by kernel_rfl) (by kernel_rfl) (fun _ _ _ h => h) (Or.inl ⟨by rfl, ?_⟩) (by assumption) ?_
  · intro w hSw; (try dsimp only at hSw); (go_simp <;> first | (intro hh; exfalso; omega) | skip)
  (try simp only [Act.put, List.setIfInBounds_toArray, List.set_cons_zero, List.set_cons_succ])
  refine wpAnyH_done (by kernel_rfl) ?_ _
  have hm70 : l.length ≤ 70 ∧ cs.length ≤ 20 := by
    unfold lchB at q1 q2
    rw [Bool.and_eq_true] at q1 q2
    have := of_decide_eq_true q1.1
    have := of_decide_eq_true q2.1
    omega
  have blz := Below_after bl hBb
  clear mk hB0 hBa hBb hba hbb BX BY BZ bl hsm hsp hck hcf q1 q2 q3 b79 bpz hbp hb5 hb6 hb7 bl9 hb1 hone
  go_wp2_with fail
  go_loopw [18] (fun i wr => ∃ k : Nat, k ≤ cs.length ∧ i = .int .i64 k ∧ Below w.heap.size w wr) (fun i _ => cs.length - (intOf i).toNat)
  case atStart => exact ⟨0, Nat.zero_le _, rfl, blz⟩
  case round =>
    clear blz
    obtain ⟨k, hk, rfl, hbl⟩ := hrel
    by_cases hlt : k < cs.length
    · have dlt : decide ((k : Int) < (cs.length : Int)) = true := decide_eq_true (by omega)
      obtain ⟨y, hy⟩ : ∃ y, cs[k]? = some y := ⟨cs[k], List.getElem?_eq_getElem hlt⟩
      obtain ⟨b, o, rfl, hb, hww⟩ := (hcs.below hbl).resolve_left (by rintro e; rw [e] at hlt; simp at hlt)
      obtain ⟨⟨p0, p1, p2⟩, y0, y1⟩ := hww k y hy
      have hf := rfault_any y wr y0 y1
      clear hww hy
      generalize chkC y = cy at *
      by_cases hc : 0 < cy
      · have dc : decide (0 < cy) = true := decide_eq_true hc
        go_wp2_with fail
        refine hf.mono ?_
        rintro e w9 ⟨rfl, hb9⟩
        go_wp2_with fail
        go_ret
        exact ⟨rfl, Below_after hbl hb9⟩
      · have dc : decide (0 < cy) = false := decide_eq_false hc
        go_wp2_with fail
        refine hf.mono ?_
        rintro e w9 ⟨rfl, hb9⟩
        go_wp2_with fail
        go_roundw
        case rel => exact ⟨k + 1, by omega, by go_num, Below_after hbl hb9⟩
        case measure => simp [intOf]; omega
    · have dlt : decide ((k : Int) < (cs.length : Int)) = false := decide_eq_false (by omega)
      have hg := good_rows a c l wr (hl.below hbl) (by omega)
      go_wp2_with fail
      refine hg.mono ?_
      rintro e w9 ⟨⟨r, rfl, hr⟩, hb9⟩
      clear hg
      have bl9 := Below_after hbl hb9
      cases r
      · go_wp2_with fail
        go_ret
        exact ⟨rfl, bl9⟩
      · have HR : Hid (Ris l) := hr rfl
        clear hr
        have hap := rApply_any a a2 c c2 l cs w9 (hl.below bl9) (hcs.below bl9) HR.out (by omega) (by omega)
        have HF : Hid (KFit (apL l cs)) := apL_fit cs l (chs_fit hl) (chs_fit hcs)
        have hlen := apL_len cs l
        go_wp2_with fail
        refine hap.mono ?_
        rintro e wA ⟨vA, rfl, hOA, hbA⟩
        clear hap
        have blA := Below_after bl9 hbA
        have haq := applied_any a a2 c c2 l cs wA (hl.below blA) (hcs.below blA) HR.out (by omega) (by omega)
        go_wp2_with fail
        refine haq.mono ?_
        rintro e wB ⟨vB, rfl, hOB, hbB⟩
        clear haq
        have blB := Below_after blA hbB
        obtain ⟨aA, cA, hvA, hatA⟩ := own_at_chs (own_pst hOA hbB) HF.out
        obtain ⟨aB, cB, hvB, hatB⟩ := own_at_chs hOB HF.out
        subst hvA hvB
        have hsc := samech_any aA aB cA cB (apL l cs) (apL l cs) wB hatA hatB (by unfold maxLen; omega) (by unfold maxLen; omega)
        clear hOA hOB hatA hatB
        go_wp2_with fail
        refine hsc.mono ?_
        rintro e wC ⟨⟨r, rfl, hr⟩, hbC⟩
        obtain rfl : r = true := hr.2 (by first | rfl | trivial)
        go_wp2_with fail
        go_ret
        exact ⟨rfl, Below_after blB hbC⟩
theorem rsays_any (w : World) (a : Option Addr) (l : List Ch) (c : Nat) (hl : ChsAt w a l) (hm : l.length ≤ maxLen) (a2 : Option Addr) (cs : List Ch) (c2 : Nat) (hcs : ChsAt w a2 cs) (hm2 : cs.length ≤ maxLen) (x : Ch) (z : x.key.size ≤ maxLen ∧ x.val.size ≤ maxLen) (s : ByteArray) (hs : s.size ≤ maxLen) :
    Calls Try.prog 4 #[.slice a l.length c, .slice a2 cs.length c2, .agg #[.string x.key, .string x.val, .bool x.gone], .string s] w fun e w' => e = .returned (.bool true) ∧ Below w.heap.size w w' := by
  cases q1 : lchB l 70
  · exact rsays_1 a a2 c c2 l cs x s w hl hcs hm hm2 z.1 z.2 hs q1
  cases q2 : lchB cs 20
  · exact rsays_2 a a2 c c2 l cs x s w hl hcs hm hm2 z.1 z.2 hs q1 q2
  cases q3 : lchB [x] 1
  · exact rsays_3 a a2 c c2 l cs x s w hl hcs hm hm2 z.1 z.2 hs q1 q2 q3
  by_cases q4 : 200 < s.size
  · exact rsays_4 a a2 c c2 l cs x s w hl hcs hm hm2 z.1 z.2 hs q1 q2 q3 q4
  · exact rsays_go a a2 c c2 l cs x s w hl hcs hm hm2 z.1 z.2 hs q1 q2 q3 (by omega)
end Go.Proofs.Ytjhkabhhlpdpaaa
