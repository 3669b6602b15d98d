/- store's heads: text, at, parseHead; strings.HasPrefix, strings.Trim at one byte. -/
import Derived.Test.YtikkakdeapbioaaDoorStPure
import Derived.Test.YtikkakdeapbioaaDoorLogNev
set_option linter.unusedVariables false
set_option linter.unusedSimpArgs false
set_option linter.unnecessarySimpa false
namespace Go.Proofs.YtikkakdeapbioaaDoor
open Go.RowKit

theorem Bx.put3 {w : World} {b : Nat} {a0 a1 a2 : Value} (h : Bx w b [a0, a1, a2]) (x0 x1 x2 : Value) :
    Bx (((w.setCell ⟨b, 0, none⟩ x0).setCell ⟨b, 1, none⟩ x1).setCell ⟨b, 2, none⟩ x2) b [x0, x1, x2] :=
  ((h.set 0 x0).set 1 x1).set 2 x2
theorem below_set3 {B : Nat} {a w : World} (h : Below B a w) {b : Nat} (hb : B ≤ b) (x0 x1 x2 : Value) :
    Below B a (((w.setCell ⟨b, 0, none⟩ x0).setCell ⟨b, 1, none⟩ x1).setCell ⟨b, 2, none⟩ x2) :=
  ((h.setCell (p := ⟨b, 0, none⟩) hb x0).setCell (p := ⟨b, 1, none⟩) hb x1).setCell (p := ⟨b, 2, none⟩) hb x2
theorem Bx.three {w : World} {b : Nat} {a0 a1 a2 : Value} (h : Bx w b [a0, a1, a2]) : w.cell? ⟨b, 0, none⟩ = some a0 ∧ w.cell? ⟨b, 1, none⟩ = some a1 ∧ w.cell? ⟨b, 2, none⟩ = some a2 := ⟨(h.2 0 _ rfl).1, (h.2 1 _ rfl).1, (h.2 2 _ rfl).1⟩
theorem Bx.past3 {w : World} {b b' : Nat} {vs : List Value} (h : Bx w b vs) (hne : ¬ b = b') (x0 x1 x2 : Value) :
    Bx (((w.setCell ⟨b', 0, none⟩ x0).setCell ⟨b', 1, none⟩ x1).setCell ⟨b', 2, none⟩ x2) b vs := ((h.other hne 0 x0).other hne 1 x1).other hne 2 x2
theorem Bx.drew {w : World} {b : Nat} {vs : List Value} (h : Bx w b vs) : Bx w.drew b vs := h.below (below_drewN (Below.refl _ _) 1)
theorem Below.drew1 {B : Nat} {a w : World} (h : Below B a w) : Below B a w.drew := below_drewN h 1
@[reducible] def hdC (h : Hd3) : List Value := [.int .i64 (h.half : Int), .int .i64 (h.first : Int), .int .i64 (h.size : Int)]
@[reducible] def hdV (h : Hd3) : Value := .agg #[.int .i64 (h.half : Int), .int .i64 (h.first : Int), .int .i64 (h.size : Int)]
set_option maxHeartbeats 1000000 in
theorem at_any (h : Hd3) (w : World) (hh : h.half ≤ 1) :
    Calls Tryd.prog 42 #[hdV h] w fun e w' => e = .returned (.int .i64 ((1 + 50 * h.half : Nat) : Int)) ∧ Below w.heap.size w w' := by
  have B := Bx.new w (hdC h) 72
  have c0 := (B.2 0 _ rfl).1
  go_enter Tryd.func42, Tryd.ntmps42
  go_wp2
  go_ret
  exact ⟨retInt (by omega), (Below.refl _ _).alloc (Nat.le_refl _) _⟩
def SH (b : Nat) (h : Hd3) (w : World) : Prop := b < w.heap.size ∧ w.cell? ⟨b, 0, none⟩ = some (.int .i64 (h.half : Int)) ∧ w.cell? ⟨b, 1, none⟩ = some (.int .i64 (h.first : Int)) ∧ w.cell? ⟨b, 2, none⟩ = some (.int .i64 (h.size : Int))
theorem SH.below {b : Nat} {h : Hd3} {w w' : World} (hs : SH b h w) (hb : Below w.heap.size w w') : SH b h w' :=
  ⟨Nat.lt_of_lt_of_le hs.1 hb.size, (hb.cell (p := ⟨b, 0, none⟩) hs.1).trans hs.2.1, (hb.cell (p := ⟨b, 1, none⟩) hs.1).trans hs.2.2.1, (hb.cell (p := ⟨b, 2, none⟩) hs.1).trans hs.2.2.2⟩
set_option maxHeartbeats 2000000 in
set_option maxRecDepth 100000 in
theorem text_any (h : Hd3) (w : World) (hh : HdOk h) :
    Calls Tryd.prog 52 #[hdV h] w fun e w' => e = .returned (.string (strOf (headL h))) ∧ Below w.heap.size w w' := by
  obtain ⟨h1, h2, h3, h4⟩ := hh
  have B := Bx.new w (hdC h) 72
  have bl := (Below.refl w.heap.size w).alloc (Nat.le_refl _) (.cells (hdC h).toArray 72)
  have hS0 : SH w.heap.size h (w.alloc (.cells (hdC h).toArray 72)) := ⟨B.1, (B.2 0 _ rfl).1, (B.2 1 _ rfl).1, (B.2 2 _ rfl).1⟩
  have q1 := fun W => bytes_any h.half 1 W (by decide) (by omega)
  have q8 := fun W => bytes_any h.first 8 W (by decide) (by omega)
  have q2 := fun W => bytes_any h.size 2 W (by decide) (by omega)
  rw [show ((1 : Nat) : Int) = 1 from rfl] at q1
  rw [show ((8 : Nat) : Int) = 8 from rfl] at q8
  rw [show ((2 : Nat) : Int) = 2 from rfl] at q2
  have hres : (⟨#[119, 114, 105, 116, 107, 101, 101, 112]⟩ : ByteArray) ++ leB h.half 1 ++ leB h.first 8 ++ leB h.size 2 = strOf (headL h) := by
    show strOf markL ++ strOf _ ++ strOf _ ++ strOf _ = _
    rw [str_app, str_app, str_app]
    rfl
  have z1 : (leB h.half 1).size = 1 := leB_size _ 1
  have z8 : (leB h.first 8).size = 8 := leB_size _ 8
  have z2 : (leB h.size 2).size = 2 := leB_size _ 2
  rw [← hres]
  generalize hA : leB h.half 1 = A at *
  generalize hB8 : leB h.first 8 = E at *
  generalize hC2 : leB h.size 2 = C at *
  have y1 : ((⟨#[119, 114, 105, 116, 107, 101, 101, 112]⟩ : ByteArray) ++ A).size = 9 := by rw [ByteArray.size_append, z1]; rfl
  have y2 : ((⟨#[119, 114, 105, 116, 107, 101, 101, 112]⟩ : ByteArray) ++ A ++ E).size = 17 := by rw [ByteArray.size_append, y1, z8]
  clear hA hB8 hC2 hres
  go_enter Tryd.func52, Tryd.ntmps52
  go_wp2_with fail
  generalize w.alloc (.cells (hdC h).toArray 72) = v at *
  have hS1 : SH w.heap.size h v.drew := hS0
  have bl0 : Below w.heap.size w v.drew := below_drewN bl 1
  refine wp_region_held_drew (S := fun w' => SH w.heap.size h w') (by kernel_rfl) ?_ (fun hHeld => ?_)
  · exact hS1
  refine wpAnyH_take (i := 0) (oi := ({ dst := some 3, op := Op.fieldAddr 72 (Operand.tmp 1) 0, type := 0, pos := "lay.go:33", after := #[], guard := none } : Oper)) (v := .pointer (some ⟨w.heap.size, 0, none⟩)) rfl (by kernel_rfl) (by kernel_rfl) (by kernel_rfl) (fun _ _ _ h => h) (Or.inl ⟨by rfl, ?_⟩) (by assumption) ?_
  · intro w hSw; (try dsimp only at hSw); go_simp
  (try simp only [Act.put, List.setIfInBounds_toArray, List.set_cons_zero, List.set_cons_succ])
  refine wpAnyH_take (i := 1) (oi := ({ dst := some 4, op := Op.load 3 (Operand.tmp 3), type := 3, pos := "lay.go:33", after := #[{ on := 0, ground := Ground.data }], guard := none } : Oper)) (v := .int .i64 (h.half : Int)) rfl (by kernel_rfl) (by kernel_rfl) (by kernel_rfl) (fun _ _ _ h => h) (Or.inl ⟨by rfl, ?_⟩) (by assumption) ?_
  · intro w hSw; obtain ⟨_, s0, s1, s2⟩ := hSw; go_simp
  (try simp only [Act.put, List.setIfInBounds_toArray, List.set_cons_zero, List.set_cons_succ])
  refine wpAnyH_take (i := 4) (oi := ({ dst := some 7, op := Op.fieldAddr 72 (Operand.tmp 1) 1, type := 0, pos := "lay.go:33", after := #[], guard := none } : Oper)) (v := .pointer (some ⟨w.heap.size, 1, none⟩)) rfl (by kernel_rfl) (by kernel_rfl) (by kernel_rfl) (fun _ _ _ h => h) (Or.inl ⟨by rfl, ?_⟩) (by assumption) ?_
  · intro w hSw; (try dsimp only at hSw); go_simp
  (try simp only [Act.put, List.setIfInBounds_toArray, List.set_cons_zero, List.set_cons_succ])
  refine wpAnyH_take (i := 5) (oi := ({ dst := some 8, op := Op.load 3 (Operand.tmp 7), type := 3, pos := "lay.go:33", after := #[{ on := 4, ground := Ground.data }], guard := none } : Oper)) (v := .int .i64 (h.first : Int)) rfl (by kernel_rfl) (by kernel_rfl) (by kernel_rfl) (fun _ _ _ h => h) (Or.inl ⟨by rfl, ?_⟩) (by assumption) ?_
  · intro w hSw; obtain ⟨_, s0, s1, s2⟩ := hSw; go_simp
  (try simp only [Act.put, List.setIfInBounds_toArray, List.set_cons_zero, List.set_cons_succ])
  refine wpAnyH_take (i := 8) (oi := ({ dst := some 11, op := Op.fieldAddr 72 (Operand.tmp 1) 2, type := 0, pos := "lay.go:33", after := #[], guard := none } : Oper)) (v := .pointer (some ⟨w.heap.size, 2, none⟩)) rfl (by kernel_rfl) (by kernel_rfl) (by kernel_rfl) (fun _ _ _ h => h) (Or.inl ⟨by rfl, ?_⟩) (by assumption) ?_
  · intro w hSw; (try dsimp only at hSw); go_simp
  (try simp only [Act.put, List.setIfInBounds_toArray, List.set_cons_zero, List.set_cons_succ])
  refine wpAnyH_take (i := 9) (oi := ({ dst := some 12, op := Op.load 3 (Operand.tmp 11), type := 3, pos := "lay.go:33", after := #[{ on := 8, ground := Ground.data }], guard := none } : Oper)) (v := .int .i64 (h.size : Int)) rfl (by kernel_rfl) (by kernel_rfl) (by kernel_rfl) (fun _ _ _ h => h) (Or.inl ⟨by rfl, ?_⟩) (by assumption) ?_
  · intro w hSw; obtain ⟨_, s0, s1, s2⟩ := hSw; go_simp
  (try simp only [Act.put, List.setIfInBounds_toArray, List.set_cons_zero, List.set_cons_succ])
  refine wpAnyH_ready (rs := [2]) (by kernel_rfl) (by simp) ?_
  refine AllReadyH.cons (o := ({ dst := some 5, op := Op.call { callee := Callee.value (Operand.func 74), args := #[Operand.tmp 4, Operand.const (Value.int IntKind.i64 1)], argTypes := #[3, 3] }, type := 9, pos := "lay.go:33", after := #[{ on := 1, ground := Ground.data }], guard := none } : Oper)) rfl (fun K hK => ?_) AllReadyH.nil
  rw [if_pos (by rfl)]
  go_wp2_with fail
  refine (q1 _).mono ?_
  rintro e w2 ⟨rfl, hb2⟩
  have hS2 : SH w.heap.size h w2 := hHeld.below hb2
  refine hK.out _ _ ?_ (fun hHeld => ?_)
  · exact hS2
  clear hK K
  (try simp only [Act.put, List.setIfInBounds_toArray, List.set_cons_zero, List.set_cons_succ])
  refine wpAnyH_take (i := 3) (oi := ({ dst := some 6, op := Op.binOp BinOp.add 9 (Operand.const (Value.string { data := #[119, 114, 105, 116, 107, 101, 101, 112] })) (Operand.tmp 5) 9, type := 9, pos := "lay.go:33", after := #[{ on := 2, ground := Ground.data }], guard := none } : Oper)) (v := .string ((⟨#[119, 114, 105, 116, 107, 101, 101, 112]⟩ : ByteArray) ++ A)) rfl (by kernel_rfl) (by kernel_rfl) (by kernel_rfl) (fun _ _ _ h => h) (Or.inl ⟨by rfl, ?_⟩) (by assumption) ?_
  · intro w hSw; go_simp; (try omega)
  (try simp only [Act.put, List.setIfInBounds_toArray, List.set_cons_zero, List.set_cons_succ])
  refine wpAnyH_ready (rs := [6]) (by kernel_rfl) (by simp) ?_
  refine AllReadyH.cons (o := ({ dst := some 9, op := Op.call { callee := Callee.value (Operand.func 74), args := #[Operand.tmp 8, Operand.const (Value.int IntKind.i64 8)], argTypes := #[3, 3] }, type := 9, pos := "lay.go:33", after := #[{ on := 5, ground := Ground.data }, { on := 2, ground := Ground.chain }], guard := none } : Oper)) rfl (fun K hK => ?_) AllReadyH.nil
  rw [if_pos (by rfl)]
  go_wp2_with fail
  refine (q8 _).mono ?_
  rintro e w6 ⟨rfl, hb6⟩
  have hS6 : SH w.heap.size h w6 := hHeld.below hb6
  refine hK.out _ _ ?_ (fun hHeld => ?_)
  · exact hS6
  clear hK K
  (try simp only [Act.put, List.setIfInBounds_toArray, List.set_cons_zero, List.set_cons_succ])
  refine wpAnyH_take (i := 7) (oi := ({ dst := some 10, op := Op.binOp BinOp.add 9 (Operand.tmp 6) (Operand.tmp 9) 9, type := 9, pos := "lay.go:33", after := #[{ on := 3, ground := Ground.data }, { on := 6, ground := Ground.data }], guard := none } : Oper)) (v := .string ((⟨#[119, 114, 105, 116, 107, 101, 101, 112]⟩ : ByteArray) ++ A ++ E)) rfl (by kernel_rfl) (by kernel_rfl) (by kernel_rfl) (fun _ _ _ h => h) (Or.inl ⟨by rfl, ?_⟩) (by assumption) ?_
  · intro w hSw; go_simp; (try omega)
  (try simp only [Act.put, List.setIfInBounds_toArray, List.set_cons_zero, List.set_cons_succ])
  refine wpAnyH_ready (rs := [10]) (by kernel_rfl) (by simp) ?_
  refine AllReadyH.cons (o := ({ dst := some 13, op := Op.call { callee := Callee.value (Operand.func 74), args := #[Operand.tmp 12, Operand.const (Value.int IntKind.i64 2)], argTypes := #[3, 3] }, type := 9, pos := "lay.go:33", after := #[{ on := 9, ground := Ground.data }, { on := 6, ground := Ground.chain }], guard := none } : Oper)) rfl (fun K hK => ?_) AllReadyH.nil
  rw [if_pos (by rfl)]
  go_wp2_with fail
  refine (q2 _).mono ?_
  rintro e w10 ⟨rfl, hb10⟩
  have hS10 : SH w.heap.size h w10 := hHeld.below hb10
  refine hK.out _ _ ?_ (fun hHeld => ?_)
  · exact hS10
  clear hK K
  (try simp only [Act.put, List.setIfInBounds_toArray, List.set_cons_zero, List.set_cons_succ])
  refine wpAnyH_take (i := 11) (oi := ({ dst := some 14, op := Op.binOp BinOp.add 9 (Operand.tmp 10) (Operand.tmp 13) 9, type := 9, pos := "lay.go:33", after := #[{ on := 7, ground := Ground.data }, { on := 10, ground := Ground.data }], guard := none } : Oper)) (v := .string ((⟨#[119, 114, 105, 116, 107, 101, 101, 112]⟩ : ByteArray) ++ A ++ E ++ C)) rfl (by kernel_rfl) (by kernel_rfl) (by kernel_rfl) (fun _ _ _ h => h) (Or.inl ⟨by rfl, ?_⟩) (by assumption) ?_
  · intro w hSw; go_simp; (try omega)
  (try simp only [Act.put, List.setIfInBounds_toArray, List.set_cons_zero, List.set_cons_succ])
  refine wpAnyH_take (i := 12) (oi := ({ dst := some 2, op := Op.assign (Operand.tmp 14), type := 9, pos := "lay.go:33", after := #[{ on := 11, ground := Ground.data }, { on := 10, ground := Ground.chain }, { on := 0, ground := Ground.phase }, { on := 1, ground := Ground.phase }, { on := 2, ground := Ground.phase }, { on := 3, ground := Ground.phase }, { on := 4, ground := Ground.phase }, { on := 5, ground := Ground.phase }, { on := 6, ground := Ground.phase }, { on := 7, ground := Ground.phase }, { on := 8, ground := Ground.phase }, { on := 9, ground := Ground.phase }, { on := 10, ground := Ground.phase }, { on := 11, ground := Ground.phase }], guard := none } : Oper)) (v := .string ((⟨#[119, 114, 105, 116, 107, 101, 101, 112]⟩ : ByteArray) ++ A ++ E ++ C)) rfl (by kernel_rfl) (by kernel_rfl) (by kernel_rfl) (fun _ _ _ h => h) (Or.inl ⟨by rfl, ?_⟩) (by assumption) ?_
  · intro w hSw; go_simp; (try omega)
  (try simp only [Act.put, List.setIfInBounds_toArray, List.set_cons_zero, List.set_cons_succ])
  refine wpAnyH_done (by kernel_rfl) ?_ _
  go_wp2_with fail
  go_ret
  exact ⟨rfl, Below_after (Below_after (Below_after bl0 hb2) hb6) hb10⟩
set_option maxHeartbeats 2000000 in
set_option maxRecDepth 100000 in
theorem hasp_any (s : ByteArray) (w : World) (hs : s.size = 48) :
    Calls Tryd.prog 39 #[.string s, .string ⟨#[119, 114, 105, 116, 107, 101, 101, 112]⟩] w fun e w' => e = .returned (.bool ((s.extract 0 8).toList == [119, 114, 105, 116, 107, 101, 101, 112])) ∧ w' = w := by
  go_enter Tryd.func39, Tryd.ntmps39
  go_wp2
  go_ret
  exact ⟨rfl, rfl⟩
set_option maxHeartbeats 2000000 in
set_option maxRecDepth 100000 in
theorem trimR_zero (n : Nat) (w : World) (hn : n ≤ 48) (s : ByteArray) (hs : s = strOf (List.replicate n 0)) :
    Calls Tryd.prog 57 #[.string s, .int .u8 0] w fun e w' => e = .returned (.string ⟨#[]⟩) ∧ w' = w := by
  go_enter Tryd.func57, Tryd.ntmps57
  go_wp2
  go_loop [0] (fun r => ∃ (k : Nat) (z : ByteArray), r = .string z ∧ k ≤ n ∧ z = strOf (List.replicate k 0)) (fun r => match r with | .string z => z.size | _ => 0)
  case atStart => exact ⟨n, s, rfl, Nat.le_refl _, hs⟩
  case round =>
    obtain ⟨k, z, rfl, hk, hz⟩ := hrel
    have hzs : z.size = k := by rw [hz, str_size]; simp
    cases k with
    | zero =>
      have hz0 : z = ⟨#[]⟩ := by rw [hz]; rfl
      subst hz0
      clear hz
      go_wp2
      go_ret
      exact ⟨rfl, rfl⟩
    | succ k =>
      have hlt : k < z.size := by omega
      have h0 : z[k] = 0 := by subst hz; simp [strOf, ByteArray.getElem_eq_getElem_data]
      have h0' : z[k].toNat = 0 := by rw [h0]; rfl
      have hx : z.extract 0 k = strOf (List.replicate k 0) := by
        rw [← str_of (z.extract 0 k), ext_toList, hz, str_data]; simp
      have HX : Hid (z.extract 0 k = strOf (List.replicate k 0)) := hx
      have HZ : Hid (z.size = k + 1) := hzs
      clear hz hx h0 hs
      go_wp2
      exact ⟨⟨k, _, rfl, by omega, HX.out⟩, by show (z.extract 0 k).size < z.size; rw [ByteArray.size_extract, HZ.out]; omega⟩
set_option maxHeartbeats 2000000 in
set_option maxRecDepth 100000 in
theorem trimL_none (w : World) : Calls Tryd.prog 56 #[.string ⟨#[]⟩, .int .u8 0] w fun e w' => e = .returned (.string ⟨#[]⟩) ∧ w' = w := by
  go_enter Tryd.func56, Tryd.ntmps56
  go_wp2
  refine wp_loop_rounds 1 ?_
  rw [rounds_succ]
  go_wp2
  go_ret
  exact ⟨rfl, rfl⟩
set_option maxHeartbeats 2000000 in
set_option maxRecDepth 100000 in
theorem trim_zero (n : Nat) (w : World) (hn : n ≤ 48) (h0 : 0 < n) (s : ByteArray) (hs : s = strOf (List.replicate n 0)) :
    Calls Tryd.prog 40 #[.string s, .string ⟨#[0]⟩] w fun e w' => e = .returned (.string ⟨#[]⟩) ∧ Below w.heap.size w w' := by
  have hr := fun W => trimR_zero n W hn s hs
  have hE : s.toList.isEmpty = false := by rw [ByteArray.toList_eq, hs, str_data]; cases n with
    | zero => omega
    | succ n => rfl
  have hE2 : (s.toList == []) = false := by cases hh : s.toList with
    | nil => rw [hh] at hE; cases hE
    | cons => rfl
  clear hs
  go_enter Tryd.func40, Tryd.ntmps40
  go_wp2_with fail
  refine wp_region_held_drew (S := fun w' => True) (by kernel_rfl) ?_ (fun hHeld => ?_)
  · trivial
  refine wpAnyH_take (i := 0) (oi := ({ dst := some 22, op := Op.move (Operand.tmp 0), type := 9, pos := "strings.go:985", after := #[], guard := none } : Oper)) (v := .string s) rfl (by kernel_rfl) (by kernel_rfl) (by kernel_rfl) (fun _ _ _ h => h) (Or.inl ⟨by rfl, ?_⟩) (by assumption) ?_
  · intro w hSw; (try dsimp only at hSw); go_simp
  (try simp only [Act.put, List.setIfInBounds_toArray, List.set_cons_zero, List.set_cons_succ])
  refine wpAnyH_take (i := 1) (oi := ({ dst := some 23, op := Op.move (Operand.tmp 1), type := 9, pos := "strings.go:985", after := #[], guard := none } : Oper)) (v := .string ⟨#[0]⟩) rfl (by kernel_rfl) (by kernel_rfl) (by kernel_rfl) (fun _ _ _ h => h) (Or.inl ⟨by rfl, ?_⟩) (by assumption) ?_
  · intro w hSw; (try dsimp only at hSw); go_simp
  (try simp only [Act.put, List.setIfInBounds_toArray, List.set_cons_zero, List.set_cons_succ])
  refine wpAnyH_take (i := 2) (oi := ({ dst := some 24, op := Op.index 9 (Operand.tmp 23) (Operand.const (Value.int IntKind.i64 0)), type := 5, pos := "strings.go:985", after := #[{ on := 1, ground := Ground.data }], guard := none } : Oper)) (v := .int .u8 0) rfl (by kernel_rfl) (by kernel_rfl) (by kernel_rfl) (fun _ _ _ h => h) (Or.inl ⟨by rfl, ?_⟩) (by assumption) ?_
  · intro w hSw; go_simp; rfl
  (try simp only [Act.put, List.setIfInBounds_toArray, List.set_cons_zero, List.set_cons_succ])
  refine wpAnyH_take (i := 4) (oi := ({ dst := some 26, op := Op.move (Operand.tmp 1), type := 9, pos := "strings.go:985", after := #[], guard := none } : Oper)) (v := .string ⟨#[0]⟩) rfl (by kernel_rfl) (by kernel_rfl) (by kernel_rfl) (fun _ _ _ h => h) (Or.inl ⟨by rfl, ?_⟩) (by assumption) ?_
  · intro w hSw; (try dsimp only at hSw); go_simp
  (try simp only [Act.put, List.setIfInBounds_toArray, List.set_cons_zero, List.set_cons_succ])
  refine wpAnyH_take (i := 5) (oi := ({ dst := some 27, op := Op.index 9 (Operand.tmp 26) (Operand.const (Value.int IntKind.i64 0)), type := 5, pos := "strings.go:985", after := #[{ on := 4, ground := Ground.data }], guard := none } : Oper)) (v := .int .u8 0) rfl (by kernel_rfl) (by kernel_rfl) (by kernel_rfl) (fun _ _ _ h => h) (Or.inl ⟨by rfl, ?_⟩) (by assumption) ?_
  · intro w hSw; go_simp; rfl
  (try simp only [Act.put, List.setIfInBounds_toArray, List.set_cons_zero, List.set_cons_succ])
  refine wpAnyH_ready (rs := [3]) (by kernel_rfl) (by simp) ?_
  refine AllReadyH.cons (o := ({ dst := some 25, op := Op.call { callee := Callee.value (Operand.func 57), args := #[Operand.tmp 22, Operand.tmp 24], argTypes := #[9, 5] }, type := 9, pos := "strings.go:985", after := #[{ on := 0, ground := Ground.data }, { on := 2, ground := Ground.data }], guard := none } : Oper)) rfl (fun K hK => ?_) AllReadyH.nil
  rw [if_pos (by rfl)]
  go_wp2_with fail
  refine (hr _).mono ?_
  rintro e w' ⟨rfl, rfl⟩
  refine hK.out _ _ ?_ (fun hHeld => ?_)
  · trivial
  clear hK K
  (try simp only [Act.put, List.setIfInBounds_toArray, List.set_cons_zero, List.set_cons_succ])
  refine wpAnyH_ready (rs := [6]) (by kernel_rfl) (by simp) ?_
  refine AllReadyH.cons (o := ({ dst := some 28, op := Op.call { callee := Callee.value (Operand.func 56), args := #[Operand.tmp 25, Operand.tmp 27], argTypes := #[9, 5] }, type := 9, pos := "strings.go:985", after := #[{ on := 3, ground := Ground.data }, { on := 5, ground := Ground.data }, { on := 3, ground := Ground.chain }], guard := none } : Oper)) rfl (fun K hK => ?_) AllReadyH.nil
  rw [if_pos (by rfl)]
  go_wp2_with fail
  refine (trimL_none _).mono ?_
  rintro e w' ⟨rfl, rfl⟩
  refine hK.out _ _ ?_ (fun hHeld => ?_)
  · trivial
  clear hK K
  (try simp only [Act.put, List.setIfInBounds_toArray, List.set_cons_zero, List.set_cons_succ])
  refine wpAnyH_take (i := 7) (oi := ({ dst := some 4, op := Op.assign (Operand.tmp 28), type := 9, pos := "strings.go:985", after := #[{ on := 6, ground := Ground.data }, { on := 6, ground := Ground.chain }, { on := 0, ground := Ground.phase }, { on := 1, ground := Ground.phase }, { on := 2, ground := Ground.phase }, { on := 3, ground := Ground.phase }, { on := 4, ground := Ground.phase }, { on := 5, ground := Ground.phase }, { on := 6, ground := Ground.phase }], guard := none } : Oper)) (v := .string ⟨#[]⟩) rfl (by kernel_rfl) (by kernel_rfl) (by kernel_rfl) (fun _ _ _ h => h) (Or.inl ⟨by rfl, ?_⟩) (by assumption) ?_
  · intro w hSw; (try dsimp only at hSw); go_simp
  (try simp only [Act.put, List.setIfInBounds_toArray, List.set_cons_zero, List.set_cons_succ])
  refine wpAnyH_done (by kernel_rfl) ?_ _
  go_wp2_with fail
  go_ret
  exact ⟨rfl, below_drewN (Below.refl _ _) 1⟩
set_option maxHeartbeats 2000000 in
set_option maxRecDepth 100000 in
theorem parse_no (s : ByteArray) (w : World) (hs : s.size = 48) (hp : ((s.extract 0 8).toList == [119, 114, 105, 116, 107, 101, 101, 112]) = false) :
    Calls Tryd.prog 26 #[.string s] w fun e w' => e = .returned (.tuple #[.agg #[.int .i64 0, .int .i64 0, .int .i64 0], .bool false]) ∧ Below w.heap.size w w' := by
  have hcon := hasp_any s
  have B := Bx.new w [.int .i64 0, .int .i64 0, .int .i64 0] 72
  have c0 := (B.2 0 _ rfl).1
  have c1 := (B.2 1 _ rfl).1
  have c2 := (B.2 2 _ rfl).1
  have f0 := (B.2 0 _ rfl).2
  have f1 := (B.2 1 _ rfl).2
  have f2 := (B.2 2 _ rfl).2
  go_enter Tryd.func26, Tryd.ntmps26
  go_wp2_with fail
  refine (hcon _ hs).mono ?_
  rintro e w' ⟨rfl, rfl⟩
  rw [hp]
  go_wp2
  obtain ⟨y0, y1, y2⟩ := B.three
  refine bodyPost_ret (v := .tuple #[.agg #[.int .i64 0, .int .i64 0, .int .i64 0], .bool false]) (by simp [results, Tryd.results26, go_sem, y0, y1, y2]) rfl ⟨rfl, ?_⟩
  exact (Below.refl _ _).alloc (Nat.le_refl _) _
theorem head_at (h : Hd3) (s : ByteArray) (hs : s = strOf (padL (headL h))) : s.size = 48 ∧ (s.extract 0 8).toList = [119, 114, 105, 116, 107, 101, 101, 112] ∧ s.extract 19 48 = strOf (List.replicate 29 0) ∧ s.extract 8 9 = leB h.half 1 ∧ s.extract 9 17 = leB h.first 8 ∧ s.extract 17 19 = leB h.size 2 := by
  have hl := headL_len h
  obtain ⟨a1, a2, a3, a4, a5⟩ := head_parts h (List.replicate (48 - (headL h).length) 0)
  have hp : padL (headL h) = headL h ++ List.replicate (48 - (headL h).length) 0 := rfl
  have e : ∀ a b, s.extract a b = strOf (((padL (headL h)).drop a).take (b - a)) := fun a b => by rw [← str_of (s.extract a b), ext_toList, hs, str_data]
  refine ⟨?_, ?_, ?_, ?_, ?_, ?_⟩
  · rw [hs, str_size, hp]; simp [hl]
  · rw [e, ByteArray.toList_eq, str_data, hp, List.drop_zero]; exact a1
  · rw [e, hp, a5, hl]; rfl
  · rw [e, hp]; exact congrArg strOf a2
  · rw [e, hp]; exact congrArg strOf a3
  · rw [e, hp]; exact congrArg strOf a4
set_option maxHeartbeats 2000000 in
set_option maxRecDepth 100000 in
theorem parse_yes (h : Hd3) (s : ByteArray) (w : World) (hh : HdOk h) (hs : s = strOf (padL (headL h))) :
    Calls Tryd.prog 26 #[.string s] w fun e w' => e = .returned (.tuple #[hdV h, .bool true]) ∧ Below w.heap.size w w' := by
  obtain ⟨a0, a1, a2, a3, a4, a5⟩ := head_at h s hs
  have hcon := hasp_any s
  rw [a1] at hcon
  obtain ⟨h1, h2, h3, h4⟩ := hh
  have n1 : numL (leL h.half 1) = h.half := numL_le _ _ (by omega)
  have n8 : numL (leL h.first 8) = h.first := numL_le _ _ (by omega)
  have n2 : numL (leL h.size 2) = h.size := numL_le _ _ (by omega)
  have q1 := fun W => number_any (leB h.half 1) W (by rw [leB_size]; decide) (by unfold leB; rw [str_data, n1]; omega)
  have q8 := fun W => number_any (leB h.first 8) W (by rw [leB_size]; decide) (by unfold leB; rw [str_data, n8]; omega)
  have q2 := fun W => number_any (leB h.size 2) W (by rw [leB_size]; decide) (by unfold leB; rw [str_data, n2]; omega)
  have e1 : numL (leB h.half 1).data.toList = h.half := by unfold leB; rw [str_data, n1]
  have e8 : numL (leB h.first 8).data.toList = h.first := by unfold leB; rw [str_data, n8]
  have e2 : numL (leB h.size 2).data.toList = h.size := by unfold leB; rw [str_data, n2]
  rw [e1] at q1
  rw [e8] at q8
  rw [e2] at q2
  have htr := fun W => trim_zero 29 W (by decide) (by decide) _ rfl
  rw [← a2] at htr
  clear hs e1 e8 e2 n1 n2 n8 a1 a2
  generalize hd1 : leB h.half 1 = L1 at *
  generalize hd8 : leB h.first 8 = L8 at *
  generalize hd2 : leB h.size 2 = L2 at *
  have B := Bx.new w [.int .i64 0, .int .i64 0, .int .i64 0] 72
  go_enter Tryd.func26, Tryd.ntmps26
  go_wp2_with fail
  refine (hcon _ a0).mono ?_
  rintro e w' ⟨rfl, rfl⟩
  go_wp2_with fail
  refine (htr _).mono ?_
  rintro e w1 ⟨rfl, hb1⟩
  have bl1 := Below_after ((Below.refl w.heap.size w).alloc (Nat.le_refl _) _) hb1
  have BR := B.below hb1
  have hlt1 : w.heap.size < w1.heap.size := BR.1
  clear htr hcon B hb1
  go_wp2_with fail
  refine wp_region_held_drew (S := fun w' => True) (by kernel_rfl) trivial (fun hHeld => ?_)
  refine wpAnyH_take (i := 0) (oi := ({ dst := some 15, op := Op.move (Operand.tmp 0), type := 9, pos := "lay.go:41", after := #[], guard := none } : Oper)) (v := .string s) rfl (by kernel_rfl) (by kernel_rfl) (by kernel_rfl) (fun _ _ _ h => h) (Or.inl ⟨by rfl, ?_⟩) (by assumption) ?_
  · intro w hSw; (try dsimp only at hSw); go_simp
  (try simp only [Act.put, List.setIfInBounds_toArray, List.set_cons_zero, List.set_cons_succ])
  refine wpAnyH_take (i := 1) (oi := ({ dst := some 16, op := Op.slice 9 (Operand.tmp 15) (some (Operand.const (Value.int IntKind.i64 8))) (some (Operand.const (Value.int IntKind.i64 9))) none, type := 9, pos := "lay.go:41", after := #[{ on := 0, ground := Ground.data }], guard := none } : Oper)) (v := .string L1) rfl (by kernel_rfl) (by kernel_rfl) (by kernel_rfl) (fun _ _ _ h => h) (Or.inl ⟨by rfl, ?_⟩) (by assumption) ?_
  · intro w hSw; (try dsimp only at hSw); go_simp
  (try simp only [Act.put, List.setIfInBounds_toArray, List.set_cons_zero, List.set_cons_succ])
  refine wpAnyH_take (i := 3) (oi := ({ dst := some 18, op := Op.move (Operand.tmp 0), type := 9, pos := "lay.go:41", after := #[], guard := none } : Oper)) (v := .string s) rfl (by kernel_rfl) (by kernel_rfl) (by kernel_rfl) (fun _ _ _ h => h) (Or.inl ⟨by rfl, ?_⟩) (by assumption) ?_
  · intro w hSw; (try dsimp only at hSw); go_simp
  (try simp only [Act.put, List.setIfInBounds_toArray, List.set_cons_zero, List.set_cons_succ])
  refine wpAnyH_take (i := 4) (oi := ({ dst := some 19, op := Op.slice 9 (Operand.tmp 18) (some (Operand.const (Value.int IntKind.i64 9))) (some (Operand.const (Value.int IntKind.i64 17))) none, type := 9, pos := "lay.go:41", after := #[{ on := 3, ground := Ground.data }], guard := none } : Oper)) (v := .string L8) rfl (by kernel_rfl) (by kernel_rfl) (by kernel_rfl) (fun _ _ _ h => h) (Or.inl ⟨by rfl, ?_⟩) (by assumption) ?_
  · intro w hSw; (try dsimp only at hSw); go_simp
  (try simp only [Act.put, List.setIfInBounds_toArray, List.set_cons_zero, List.set_cons_succ])
  refine wpAnyH_take (i := 6) (oi := ({ dst := some 21, op := Op.move (Operand.tmp 0), type := 9, pos := "lay.go:41", after := #[], guard := none } : Oper)) (v := .string s) rfl (by kernel_rfl) (by kernel_rfl) (by kernel_rfl) (fun _ _ _ h => h) (Or.inl ⟨by rfl, ?_⟩) (by assumption) ?_
  · intro w hSw; (try dsimp only at hSw); go_simp
  (try simp only [Act.put, List.setIfInBounds_toArray, List.set_cons_zero, List.set_cons_succ])
  refine wpAnyH_take (i := 7) (oi := ({ dst := some 22, op := Op.slice 9 (Operand.tmp 21) (some (Operand.const (Value.int IntKind.i64 17))) (some (Operand.const (Value.int IntKind.i64 19))) none, type := 9, pos := "lay.go:41", after := #[{ on := 6, ground := Ground.data }], guard := none } : Oper)) (v := .string L2) rfl (by kernel_rfl) (by kernel_rfl) (by kernel_rfl) (fun _ _ _ h => h) (Or.inl ⟨by rfl, ?_⟩) (by assumption) ?_
  · intro w hSw; (try dsimp only at hSw); go_simp
  (try simp only [Act.put, List.setIfInBounds_toArray, List.set_cons_zero, List.set_cons_succ])
  refine wpAnyH_ready (rs := [2, 10]) (by kernel_rfl) (by simp) ?_
  refine AllReadyH.cons (o := ({ dst := some 17, op := Op.call { callee := Callee.value (Operand.func 41), args := #[Operand.tmp 16], argTypes := #[9] }, type := 3, pos := "lay.go:41", after := #[{ on := 1, ground := Ground.data }], guard := none } : Oper)) rfl (fun K hK => ?_) (AllReadyH.cons (o := ({ dst := some 4, op := Op.alloc 72, type := 0, pos := "lay.go:41", after := #[], guard := none } : Oper)) rfl (fun K hK => ?_) AllReadyH.nil)
  · rw [if_pos (by rfl)]
    go_wp2_with fail
    refine (q1 _).mono ?_
    rintro e w' ⟨rfl, rfl⟩
    refine hK.out _ _ ?_ (fun hHeld => ?_)
    · exact trivial
    clear hK K
    (try simp only [Act.put, List.setIfInBounds_toArray, List.set_cons_zero, List.set_cons_succ])
    refine wpAnyH_ready (rs := [5, 10]) (by kernel_rfl) (by simp) ?_
    refine AllReadyH.cons (o := ({ dst := some 20, op := Op.call { callee := Callee.value (Operand.func 41), args := #[Operand.tmp 19], argTypes := #[9] }, type := 3, pos := "lay.go:41", after := #[{ on := 4, ground := Ground.data }, { on := 2, ground := Ground.chain }], guard := none } : Oper)) rfl (fun K hK => ?_) (AllReadyH.cons (o := ({ dst := some 4, op := Op.alloc 72, type := 0, pos := "lay.go:41", after := #[], guard := none } : Oper)) rfl (fun K hK => ?_) AllReadyH.nil)
    · rw [if_pos (by rfl)]
      go_wp2_with fail
      refine (q8 _).mono ?_
      rintro e w' ⟨rfl, rfl⟩
      refine hK.out _ _ ?_ (fun hHeld => ?_)
      · exact trivial
      clear hK K
      (try simp only [Act.put, List.setIfInBounds_toArray, List.set_cons_zero, List.set_cons_succ])
      refine wpAnyH_ready (rs := [8, 10]) (by kernel_rfl) (by simp) ?_
      refine AllReadyH.cons (o := ({ dst := some 23, op := Op.call { callee := Callee.value (Operand.func 41), args := #[Operand.tmp 22], argTypes := #[9] }, type := 3, pos := "lay.go:41", after := #[{ on := 7, ground := Ground.data }, { on := 5, ground := Ground.chain }], guard := none } : Oper)) rfl (fun K hK => ?_) (AllReadyH.cons (o := ({ dst := some 4, op := Op.alloc 72, type := 0, pos := "lay.go:41", after := #[], guard := none } : Oper)) rfl (fun K hK => ?_) AllReadyH.nil)
      · rw [if_pos (by rfl)]
        go_wp2_with fail
        refine (q2 _).mono ?_
        rintro e w' ⟨rfl, rfl⟩
        refine hK.out _ _ ?_ (fun hHeld => ?_)
        · exact trivial
        clear hK K
        (try simp only [Act.put, List.setIfInBounds_toArray, List.set_cons_zero, List.set_cons_succ])
        refine wpAnyH_take (i := 9) (oi := ({ dst := some 24, op := Op.build 72 #[(0, Operand.tmp 17), (1, Operand.tmp 20), (2, Operand.tmp 23)], type := 72, pos := "lay.go:41", after := #[{ on := 2, ground := Ground.data }, { on := 5, ground := Ground.data }, { on := 8, ground := Ground.data }], guard := none } : Oper)) (v := hdV h) rfl (by kernel_rfl) (by kernel_rfl) (by kernel_rfl) (fun _ _ _ h => h) (Or.inl ⟨by rfl, ?_⟩) (by assumption) ?_
        · intro w hSw; (try dsimp only at hSw); go_simp
        (try simp only [Act.put, List.setIfInBounds_toArray, List.set_cons_zero, List.set_cons_succ])
        refine wpAnyH_ready (rs := [10]) (by kernel_rfl) (by simp) ?_
        refine AllReadyH.cons (o := ({ dst := some 4, op := Op.alloc 72, type := 0, pos := "lay.go:41", after := #[], guard := none } : Oper)) rfl (fun K hK => ?_) AllReadyH.nil
        rw [if_pos (by rfl)]
        go_wp2_with fail
        refine hK.out _ _ ?_ (fun hHeld => ?_)
        · exact trivial
        clear hK K
        (try simp only [Act.put, List.setIfInBounds_toArray, List.set_cons_zero, List.set_cons_succ])
        refine wpAnyH_ready (rs := [11]) (by kernel_rfl) (by simp) ?_
        refine AllReadyH.cons (o := ({ dst := none, op := Op.store 72 (Operand.tmp 4) (Operand.tmp 24), type := 0, pos := "lay.go:41", after := #[{ on := 10, ground := Ground.data }, { on := 9, ground := Ground.data }, { on := 8, ground := Ground.chain }, { on := 0, ground := Ground.phase }, { on := 1, ground := Ground.phase }, { on := 2, ground := Ground.phase }, { on := 3, ground := Ground.phase }, { on := 4, ground := Ground.phase }, { on := 5, ground := Ground.phase }, { on := 6, ground := Ground.phase }, { on := 7, ground := Ground.phase }, { on := 8, ground := Ground.phase }, { on := 9, ground := Ground.phase }, { on := 10, ground := Ground.phase }], guard := none } : Oper)) rfl (fun K hK => ?_) AllReadyH.nil
        rw [if_pos (by rfl)]
        go_wp2_with fail
        refine hK.out _ _ ?_ (fun hHeld => ?_)
        · exact trivial
        clear hK K
        (try simp only [Act.put, List.setIfInBounds_toArray, List.set_cons_zero, List.set_cons_succ])
        refine wpAnyH_done (by kernel_rfl) ?_ _
        have BH := Bx.new w1 [.int .i64 (h.half : Int), .int .i64 (h.first : Int), .int .i64 (h.size : Int)] 72
        replace BR := BR.alloc (.cells #[.int .i64 (h.half : Int), .int .i64 (h.first : Int), .int .i64 (h.size : Int)] 72)
        replace bl1 := bl1.alloc bl1.size (.cells #[.int .i64 (h.half : Int), .int .i64 (h.first : Int), .int .i64 (h.size : Int)] 72)
        replace BH := BH.drew
        replace BR := BR.drew
        replace bl1 := Below.drew1 bl1
        generalize hV : World.drew (w1.alloc (.cells #[.int .i64 (h.half : Int), .int .i64 (h.first : Int), .int .i64 (h.size : Int)] 72)) = V at BH BR bl1 ⊢
        clear hV
        obtain ⟨c0, c1, c2⟩ := BH.three
        have f0 := (BR.2 0 _ rfl).2
        have f1 := (BR.2 1 _ rfl).2
        have f2 := (BR.2 2 _ rfl).2
        have r0 := (BR.2 0 _ rfl).1
        have r1 := (BR.2 1 _ rfl).1
        have r2 := (BR.2 2 _ rfl).1
        go_wp2_with fail
        obtain ⟨y0, y1, y2⟩ := (BR.put3 (.int .i64 (h.half : Int)) (.int .i64 (h.first : Int)) (.int .i64 (h.size : Int))).three
        refine bodyPost_ret (v := .tuple #[hdV h, .bool true]) (by simp [results, Tryd.results26, go_sem, y0, y1, y2]) rfl ⟨rfl, ?_⟩
        exact below_set3 bl1 (Nat.le_refl _) _ _ _
      · rw [if_pos (by rfl)]
        go_wp2_with fail
        refine hK.out _ _ ?_ (fun hHeld => ?_)
        · exact trivial
        clear hK K
        (try simp only [Act.put, List.setIfInBounds_toArray, List.set_cons_zero, List.set_cons_succ])
        refine wpAnyH_ready (rs := [8]) (by kernel_rfl) (by simp) ?_
        refine AllReadyH.cons (o := ({ dst := some 23, op := Op.call { callee := Callee.value (Operand.func 41), args := #[Operand.tmp 22], argTypes := #[9] }, type := 3, pos := "lay.go:41", after := #[{ on := 7, ground := Ground.data }, { on := 5, ground := Ground.chain }], guard := none } : Oper)) rfl (fun K hK => ?_) AllReadyH.nil
        rw [if_pos (by rfl)]
        go_wp2_with fail
        refine (q2 _).mono ?_
        rintro e w' ⟨rfl, rfl⟩
        refine hK.out _ _ ?_ (fun hHeld => ?_)
        · exact trivial
        clear hK K
        (try simp only [Act.put, List.setIfInBounds_toArray, List.set_cons_zero, List.set_cons_succ])
        refine wpAnyH_take (i := 9) (oi := ({ dst := some 24, op := Op.build 72 #[(0, Operand.tmp 17), (1, Operand.tmp 20), (2, Operand.tmp 23)], type := 72, pos := "lay.go:41", after := #[{ on := 2, ground := Ground.data }, { on := 5, ground := Ground.data }, { on := 8, ground := Ground.data }], guard := none } : Oper)) (v := hdV h) rfl (by kernel_rfl) (by kernel_rfl) (by kernel_rfl) (fun _ _ _ h => h) (Or.inl ⟨by rfl, ?_⟩) (by assumption) ?_
        · intro w hSw; (try dsimp only at hSw); go_simp
        (try simp only [Act.put, List.setIfInBounds_toArray, List.set_cons_zero, List.set_cons_succ])
        refine wpAnyH_ready (rs := [11]) (by kernel_rfl) (by simp) ?_
        refine AllReadyH.cons (o := ({ dst := none, op := Op.store 72 (Operand.tmp 4) (Operand.tmp 24), type := 0, pos := "lay.go:41", after := #[{ on := 10, ground := Ground.data }, { on := 9, ground := Ground.data }, { on := 8, ground := Ground.chain }, { on := 0, ground := Ground.phase }, { on := 1, ground := Ground.phase }, { on := 2, ground := Ground.phase }, { on := 3, ground := Ground.phase }, { on := 4, ground := Ground.phase }, { on := 5, ground := Ground.phase }, { on := 6, ground := Ground.phase }, { on := 7, ground := Ground.phase }, { on := 8, ground := Ground.phase }, { on := 9, ground := Ground.phase }, { on := 10, ground := Ground.phase }], guard := none } : Oper)) rfl (fun K hK => ?_) AllReadyH.nil
        rw [if_pos (by rfl)]
        go_wp2_with fail
        refine hK.out _ _ ?_ (fun hHeld => ?_)
        · exact trivial
        clear hK K
        (try simp only [Act.put, List.setIfInBounds_toArray, List.set_cons_zero, List.set_cons_succ])
        refine wpAnyH_done (by kernel_rfl) ?_ _
        have BH := Bx.new w1 [.int .i64 (h.half : Int), .int .i64 (h.first : Int), .int .i64 (h.size : Int)] 72
        replace BR := BR.alloc (.cells #[.int .i64 (h.half : Int), .int .i64 (h.first : Int), .int .i64 (h.size : Int)] 72)
        replace bl1 := bl1.alloc bl1.size (.cells #[.int .i64 (h.half : Int), .int .i64 (h.first : Int), .int .i64 (h.size : Int)] 72)
        replace BH := BH.drew
        replace BR := BR.drew
        replace bl1 := Below.drew1 bl1
        generalize hV : World.drew (w1.alloc (.cells #[.int .i64 (h.half : Int), .int .i64 (h.first : Int), .int .i64 (h.size : Int)] 72)) = V at BH BR bl1 ⊢
        clear hV
        obtain ⟨c0, c1, c2⟩ := BH.three
        have f0 := (BR.2 0 _ rfl).2
        have f1 := (BR.2 1 _ rfl).2
        have f2 := (BR.2 2 _ rfl).2
        have r0 := (BR.2 0 _ rfl).1
        have r1 := (BR.2 1 _ rfl).1
        have r2 := (BR.2 2 _ rfl).1
        go_wp2_with fail
        obtain ⟨y0, y1, y2⟩ := (BR.put3 (.int .i64 (h.half : Int)) (.int .i64 (h.first : Int)) (.int .i64 (h.size : Int))).three
        refine bodyPost_ret (v := .tuple #[hdV h, .bool true]) (by simp [results, Tryd.results26, go_sem, y0, y1, y2]) rfl ⟨rfl, ?_⟩
        exact below_set3 bl1 (Nat.le_refl _) _ _ _
    · rw [if_pos (by rfl)]
      go_wp2_with fail
      refine hK.out _ _ ?_ (fun hHeld => ?_)
      · exact trivial
      clear hK K
      (try simp only [Act.put, List.setIfInBounds_toArray, List.set_cons_zero, List.set_cons_succ])
      refine wpAnyH_ready (rs := [5]) (by kernel_rfl) (by simp) ?_
      refine AllReadyH.cons (o := ({ dst := some 20, op := Op.call { callee := Callee.value (Operand.func 41), args := #[Operand.tmp 19], argTypes := #[9] }, type := 3, pos := "lay.go:41", after := #[{ on := 4, ground := Ground.data }, { on := 2, ground := Ground.chain }], guard := none } : Oper)) rfl (fun K hK => ?_) AllReadyH.nil
      rw [if_pos (by rfl)]
      go_wp2_with fail
      refine (q8 _).mono ?_
      rintro e w' ⟨rfl, rfl⟩
      refine hK.out _ _ ?_ (fun hHeld => ?_)
      · exact trivial
      clear hK K
      (try simp only [Act.put, List.setIfInBounds_toArray, List.set_cons_zero, List.set_cons_succ])
      refine wpAnyH_ready (rs := [8]) (by kernel_rfl) (by simp) ?_
      refine AllReadyH.cons (o := ({ dst := some 23, op := Op.call { callee := Callee.value (Operand.func 41), args := #[Operand.tmp 22], argTypes := #[9] }, type := 3, pos := "lay.go:41", after := #[{ on := 7, ground := Ground.data }, { on := 5, ground := Ground.chain }], guard := none } : Oper)) rfl (fun K hK => ?_) AllReadyH.nil
      rw [if_pos (by rfl)]
      go_wp2_with fail
      refine (q2 _).mono ?_
      rintro e w' ⟨rfl, rfl⟩
      refine hK.out _ _ ?_ (fun hHeld => ?_)
      · exact trivial
      clear hK K
      (try simp only [Act.put, List.setIfInBounds_toArray, List.set_cons_zero, List.set_cons_succ])
      refine wpAnyH_take (i := 9) (oi := ({ dst := some 24, op := Op.build 72 #[(0, Operand.tmp 17), (1, Operand.tmp 20), (2, Operand.tmp 23)], type := 72, pos := "lay.go:41", after := #[{ on := 2, ground := Ground.data }, { on := 5, ground := Ground.data }, { on := 8, ground := Ground.data }], guard := none } : Oper)) (v := hdV h) rfl (by kernel_rfl) (by kernel_rfl) (by kernel_rfl) (fun _ _ _ h => h) (Or.inl ⟨by rfl, ?_⟩) (by assumption) ?_
      · intro w hSw; (try dsimp only at hSw); go_simp
      (try simp only [Act.put, List.setIfInBounds_toArray, List.set_cons_zero, List.set_cons_succ])
      refine wpAnyH_ready (rs := [11]) (by kernel_rfl) (by simp) ?_
      refine AllReadyH.cons (o := ({ dst := none, op := Op.store 72 (Operand.tmp 4) (Operand.tmp 24), type := 0, pos := "lay.go:41", after := #[{ on := 10, ground := Ground.data }, { on := 9, ground := Ground.data }, { on := 8, ground := Ground.chain }, { on := 0, ground := Ground.phase }, { on := 1, ground := Ground.phase }, { on := 2, ground := Ground.phase }, { on := 3, ground := Ground.phase }, { on := 4, ground := Ground.phase }, { on := 5, ground := Ground.phase }, { on := 6, ground := Ground.phase }, { on := 7, ground := Ground.phase }, { on := 8, ground := Ground.phase }, { on := 9, ground := Ground.phase }, { on := 10, ground := Ground.phase }], guard := none } : Oper)) rfl (fun K hK => ?_) AllReadyH.nil
      rw [if_pos (by rfl)]
      go_wp2_with fail
      refine hK.out _ _ ?_ (fun hHeld => ?_)
      · exact trivial
      clear hK K
      (try simp only [Act.put, List.setIfInBounds_toArray, List.set_cons_zero, List.set_cons_succ])
      refine wpAnyH_done (by kernel_rfl) ?_ _
      have BH := Bx.new w1 [.int .i64 (h.half : Int), .int .i64 (h.first : Int), .int .i64 (h.size : Int)] 72
      replace BR := BR.alloc (.cells #[.int .i64 (h.half : Int), .int .i64 (h.first : Int), .int .i64 (h.size : Int)] 72)
      replace bl1 := bl1.alloc bl1.size (.cells #[.int .i64 (h.half : Int), .int .i64 (h.first : Int), .int .i64 (h.size : Int)] 72)
      replace BH := BH.drew
      replace BR := BR.drew
      replace bl1 := Below.drew1 bl1
      generalize hV : World.drew (w1.alloc (.cells #[.int .i64 (h.half : Int), .int .i64 (h.first : Int), .int .i64 (h.size : Int)] 72)) = V at BH BR bl1 ⊢
      clear hV
      obtain ⟨c0, c1, c2⟩ := BH.three
      have f0 := (BR.2 0 _ rfl).2
      have f1 := (BR.2 1 _ rfl).2
      have f2 := (BR.2 2 _ rfl).2
      have r0 := (BR.2 0 _ rfl).1
      have r1 := (BR.2 1 _ rfl).1
      have r2 := (BR.2 2 _ rfl).1
      go_wp2_with fail
      obtain ⟨y0, y1, y2⟩ := (BR.put3 (.int .i64 (h.half : Int)) (.int .i64 (h.first : Int)) (.int .i64 (h.size : Int))).three
      refine bodyPost_ret (v := .tuple #[hdV h, .bool true]) (by simp [results, Tryd.results26, go_sem, y0, y1, y2]) rfl ⟨rfl, ?_⟩
      exact below_set3 bl1 (Nat.le_refl _) _ _ _
  · rw [if_pos (by rfl)]
    go_wp2_with fail
    refine hK.out _ _ ?_ (fun hHeld => ?_)
    · exact trivial
    clear hK K
    (try simp only [Act.put, List.setIfInBounds_toArray, List.set_cons_zero, List.set_cons_succ])
    refine wpAnyH_ready (rs := [2]) (by kernel_rfl) (by simp) ?_
    refine AllReadyH.cons (o := ({ dst := some 17, op := Op.call { callee := Callee.value (Operand.func 41), args := #[Operand.tmp 16], argTypes := #[9] }, type := 3, pos := "lay.go:41", after := #[{ on := 1, ground := Ground.data }], guard := none } : Oper)) rfl (fun K hK => ?_) AllReadyH.nil
    rw [if_pos (by rfl)]
    go_wp2_with fail
    refine (q1 _).mono ?_
    rintro e w' ⟨rfl, rfl⟩
    refine hK.out _ _ ?_ (fun hHeld => ?_)
    · exact trivial
    clear hK K
    (try simp only [Act.put, List.setIfInBounds_toArray, List.set_cons_zero, List.set_cons_succ])
    refine wpAnyH_ready (rs := [5]) (by kernel_rfl) (by simp) ?_
    refine AllReadyH.cons (o := ({ dst := some 20, op := Op.call { callee := Callee.value (Operand.func 41), args := #[Operand.tmp 19], argTypes := #[9] }, type := 3, pos := "lay.go:41", after := #[{ on := 4, ground := Ground.data }, { on := 2, ground := Ground.chain }], guard := none } : Oper)) rfl (fun K hK => ?_) AllReadyH.nil
    rw [if_pos (by rfl)]
    go_wp2_with fail
    refine (q8 _).mono ?_
    rintro e w' ⟨rfl, rfl⟩
    refine hK.out _ _ ?_ (fun hHeld => ?_)
    · exact trivial
    clear hK K
    (try simp only [Act.put, List.setIfInBounds_toArray, List.set_cons_zero, List.set_cons_succ])
    refine wpAnyH_ready (rs := [8]) (by kernel_rfl) (by simp) ?_
    refine AllReadyH.cons (o := ({ dst := some 23, op := Op.call { callee := Callee.value (Operand.func 41), args := #[Operand.tmp 22], argTypes := #[9] }, type := 3, pos := "lay.go:41", after := #[{ on := 7, ground := Ground.data }, { on := 5, ground := Ground.chain }], guard := none } : Oper)) rfl (fun K hK => ?_) AllReadyH.nil
    rw [if_pos (by rfl)]
    go_wp2_with fail
    refine (q2 _).mono ?_
    rintro e w' ⟨rfl, rfl⟩
    refine hK.out _ _ ?_ (fun hHeld => ?_)
    · exact trivial
    clear hK K
    (try simp only [Act.put, List.setIfInBounds_toArray, List.set_cons_zero, List.set_cons_succ])
    refine wpAnyH_take (i := 9) (oi := ({ dst := some 24, op := Op.build 72 #[(0, Operand.tmp 17), (1, Operand.tmp 20), (2, Operand.tmp 23)], type := 72, pos := "lay.go:41", after := #[{ on := 2, ground := Ground.data }, { on := 5, ground := Ground.data }, { on := 8, ground := Ground.data }], guard := none } : Oper)) (v := hdV h) rfl (by kernel_rfl) (by kernel_rfl) (by kernel_rfl) (fun _ _ _ h => h) (Or.inl ⟨by rfl, ?_⟩) (by assumption) ?_
    · intro w hSw; (try dsimp only at hSw); go_simp
    (try simp only [Act.put, List.setIfInBounds_toArray, List.set_cons_zero, List.set_cons_succ])
    refine wpAnyH_ready (rs := [11]) (by kernel_rfl) (by simp) ?_
    refine AllReadyH.cons (o := ({ dst := none, op := Op.store 72 (Operand.tmp 4) (Operand.tmp 24), type := 0, pos := "lay.go:41", after := #[{ on := 10, ground := Ground.data }, { on := 9, ground := Ground.data }, { on := 8, ground := Ground.chain }, { on := 0, ground := Ground.phase }, { on := 1, ground := Ground.phase }, { on := 2, ground := Ground.phase }, { on := 3, ground := Ground.phase }, { on := 4, ground := Ground.phase }, { on := 5, ground := Ground.phase }, { on := 6, ground := Ground.phase }, { on := 7, ground := Ground.phase }, { on := 8, ground := Ground.phase }, { on := 9, ground := Ground.phase }, { on := 10, ground := Ground.phase }], guard := none } : Oper)) rfl (fun K hK => ?_) AllReadyH.nil
    rw [if_pos (by rfl)]
    go_wp2_with fail
    refine hK.out _ _ ?_ (fun hHeld => ?_)
    · exact trivial
    clear hK K
    (try simp only [Act.put, List.setIfInBounds_toArray, List.set_cons_zero, List.set_cons_succ])
    refine wpAnyH_done (by kernel_rfl) ?_ _
    have BH := Bx.new w1 [.int .i64 (h.half : Int), .int .i64 (h.first : Int), .int .i64 (h.size : Int)] 72
    replace BR := BR.alloc (.cells #[.int .i64 (h.half : Int), .int .i64 (h.first : Int), .int .i64 (h.size : Int)] 72)
    replace bl1 := bl1.alloc bl1.size (.cells #[.int .i64 (h.half : Int), .int .i64 (h.first : Int), .int .i64 (h.size : Int)] 72)
    replace BH := BH.drew
    replace BR := BR.drew
    replace bl1 := Below.drew1 bl1
    generalize hV : World.drew (w1.alloc (.cells #[.int .i64 (h.half : Int), .int .i64 (h.first : Int), .int .i64 (h.size : Int)] 72)) = V at BH BR bl1 ⊢
    clear hV
    obtain ⟨c0, c1, c2⟩ := BH.three
    have f0 := (BR.2 0 _ rfl).2
    have f1 := (BR.2 1 _ rfl).2
    have f2 := (BR.2 2 _ rfl).2
    have r0 := (BR.2 0 _ rfl).1
    have r1 := (BR.2 1 _ rfl).1
    have r2 := (BR.2 2 _ rfl).1
    go_wp2_with fail
    obtain ⟨y0, y1, y2⟩ := (BR.put3 (.int .i64 (h.half : Int)) (.int .i64 (h.first : Int)) (.int .i64 (h.size : Int))).three
    refine bodyPost_ret (v := .tuple #[hdV h, .bool true]) (by simp [results, Tryd.results26, go_sem, y0, y1, y2]) rfl ⟨rfl, ?_⟩
    exact below_set3 bl1 (Nat.le_refl _) _ _ _
end Go.Proofs.YtikkakdeapbioaaDoor
