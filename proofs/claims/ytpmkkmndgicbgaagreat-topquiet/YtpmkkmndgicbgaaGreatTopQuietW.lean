/- TopQuiet, walked. -/
import Derived.Test.YtpmkkmndgicbgaaGreatGrownB
import Derived.Test.YtpmkkmndgicbgaaGreatMadeW
import Derived.Test.YtpmkkmndgicbgaaGreatQuietW
import Derived.Test.YtpmkkmndgicbgaaGreatSameW
import Derived.Test.YtpmkkmndgicbgaaGreatCheckCW
import Derived.Test.YtpmkkmndgicbgaaGreatRealmTops2
import Derived.Test.YtpmkkmndgicbgaaGreatGrowLaw
import Derived.Deep.RegionHeld3
set_option linter.unusedSimpArgs false
set_option linter.unnecessarySimpa false
set_option linter.unusedVariables false
namespace Go.Proofs.YtpmkkmndgicbgaaGreat
open Go.RowKit

theorem quiet_sz {r : Rm} (hW : Whole r) (hz : RmSz r) : RmSz (quietR r) := by
  obtain ⟨h1, h2, h3, -⟩ := top_quiet hW
  have hQ := whole_quiet hW
  refine ⟨?_, ?_, ?_, ?_, hz.nw, hz.nt⟩
  · rw [← h3, h2]; have := hz.h; omega
  · have := hQ.tl; omega
  · rw [h2]; exact hz.h
  · rw [h1]; simp
set_option maxHeartbeats 2000000 in
set_option maxRecDepth 100000 in
theorem tquiet_no (a : Option Addr) (c : Nat) (l : List Ac) (w : World) (hw : AcsAt w a l) (hm : l.length ≤ maxLen) (hq : lacB l 80 = false) :
    Calls Tryz.prog 3 #[.slice a l.length c] w fun e w' => e = .returned (.bool true) ∧ Below w.heap.size w w' := by
  have bl := Below.refl w.heap.size w
  go_enter Tryz.func3, Tryz.ntmps3
  have hcon := made_any w
  go_wp2_with fail
  refine hcon.mono ?_
  rintro e w1 ⟨rfl, hb1⟩
  clear hcon
  replace bl := Below_after bl hb1
  have hcon := grown_no a c l w1 (hw.below bl) hm hq
  go_wp2_with fail
  refine hcon.mono ?_
  rintro e w2 ⟨rfl, hb2⟩
  clear hcon
  replace bl := Below_after bl hb2
  replace bl := bl.alloc bl.size (.cells #[.slice none 0 0, .slice none 0 0, .slice none 0 0, .slice none 0 0, .int .i64 0, .int .i64 0] 29)
  have BZ := Bx.new w2 [.slice none 0 0, .slice none 0 0, .slice none 0 0, .slice none 0 0, .int .i64 0, .int .i64 0] 29
  go_wp2_with fail
  go_ret
  exact ⟨rfl, bl⟩
set_option maxHeartbeats 2000000 in
set_option maxRecDepth 100000 in
theorem tquiet_yes (a : Option Addr) (c : Nat) (l : List Ac) (w : World) (hw : AcsAt w a l) (hm : l.length ≤ maxLen) (hq : lacB l 80 = true) :
    Calls Tryz.prog 3 #[.slice a l.length c] w fun e w' => e = .returned (.bool true) ∧ Below w.heap.size w w' := by
  have bl := Below.refl w.heap.size w
  have hlen := lac_len hq
  have hi := inv_grow l l.length (by omega)
  rw [List.take_length] at hi
  have hI : RmI (growR l) := ⟨hi.sz (by omega), hi.put, hi.wf⟩
  have hW := whole_grow l
  have hk : InvK 80 (growR l) := hi.mono (by omega)
  clear hi
  go_enter Tryz.func3, Tryz.ntmps3
  have hcon := made_any w
  go_wp2_with fail
  refine hcon.mono ?_
  rintro e w1 ⟨rfl, hb1⟩
  clear hcon
  replace bl := Below_after bl hb1
  have hg := grown_yes a c l w1 (hw.below bl) hm hq
  generalize growR l = g at hg hI hW hk
  clear hq hw hm hlen
  have hcon := hg
  clear hg
  go_wp2_with fail
  refine hcon.mono ?_
  rintro e w2 ⟨a0, a1, a2, a3, N0, N1, N2, N3, c0, c1, c2, c3, M, N, rfl, ⟨l0, l1, l2, l3, l4, l5⟩, hat, -, hb2⟩
  clear hcon
  replace bl := Below_after bl hb2
  replace hat := hat.below ((Below.refl _ _).alloc (Nat.le_refl _) (.cells #[.slice a0 N0 c0, .slice a1 N1 c1, .slice a2 N2 c2, .slice a3 N3 c3, .int .i64 M, .int .i64 N] 29))
  replace bl := bl.alloc bl.size (.cells #[.slice a0 N0 c0, .slice a1 N1 c1, .slice a2 N2 c2, .slice a3 N3 c3, .int .i64 M, .int .i64 N] 29)
  have BR := Bx.new w2 [.slice a0 N0 c0, .slice a1 N1 c1, .slice a2 N2 c2, .slice a3 N3 c3, .int .i64 M, .int .i64 N] 29
  obtain ⟨q1, q2, q3, q4⟩ := top_quiet hW
  have hQz := quiet_sz hW hI.sz
  have hQc := chk_of_good (whole_quiet hW).gw
  have k2 : (quietR g).hs.length = N2 := by rw [q2, l2]
  have k0 : (quietR g).ws.length = N2 := by rw [← q3, k2]
  have k3 : (quietR g).ns.length = 0 := by rw [q1]; rfl
  have k4 : (quietR g).nw = M := by rw [← l4]; rfl
  have k5 : (quietR g).nt = N := by rw [← l5]; rfl
  have hcon := quiet_any a0 a1 a2 a3 c0 c1 c2 c3 g _ hat hI.sz
  rw [l0, l1, l2, l3, l4, l5, k0, k2, k3] at hcon
  have hqq := fun (b0 b1 b2 b3 : Option Addr) (d0 d1 d2 d3 : Nat) (W : World) (h : RmAt W b0 b1 b2 b3 d0 d1 d2 d3 (quietR g)) => quiet_any b0 b1 b2 b3 d0 d1 d2 d3 (quietR g) W h hQz
  simp only [q4, k0, k2, k3, k4, k5] at hqq
  have hss := fun (b0 b1 b2 b3 : Option Addr) (d0 d1 d2 d3 : Nat) (x0 x1 x2 x3 : Option Addr) (f0 f1 f2 f3 : Nat) (W : World) (h : RmAt W b0 b1 b2 b3 d0 d1 d2 d3 (quietR g)) (h' : RmAt W x0 x1 x2 x3 f0 f1 f2 f3 (quietR g)) => sr_same b0 b1 b2 b3 d0 d1 d2 d3 (quietR g) x0 x1 x2 x3 f0 f1 f2 f3 W h h' hQz
  simp only [k0, k2, k3, k4, k5] at hss
  have hck := fun (a : Option Addr) (c : Nat) (W : World) (h : WrsAt W a (quietR g).ws) (hf : Fit (quietR g).ws.length c) => chk_good a c (quietR g).ws W h hQz.w hf.1 hf.2 hQc
  simp only [k0] at hck
  have hsh := fun (a : Option Addr) (c : Nat) (W : World) (h : HdsAt W a (quietR g).hs) (h' : HdsAt W a2 g.hs) => sh_same a a2 c c2 g.hs W (q2 ▸ h) h' (by have := hI.sz.h; omega)
  rw [l2] at hsh
  rw [q2] at hsh
  generalize hn1 : (quietR g).ts.length = n1 at *
  have HK0 : Hid ((quietR g).ws.length = N2) := k0
  clear hn1 q1 q3 q4 k0 k2 k3 k4 k5
  generalize quietR g = q at *
  have cR0 := (BR.2 0 _ rfl).1
  have cR1 := (BR.2 1 _ rfl).1
  have cR2 := (BR.2 2 _ rfl).1
  have cR3 := (BR.2 3 _ rfl).1
  have cR4 := (BR.2 4 _ rfl).1
  have cR5 := (BR.2 5 _ rfl).1
  have zR := BR.1
  go_wp2_with fail
  refine hcon.mono ?_
  rintro e w3 ⟨x0, x1, x2, x3, f0, f1, f2, f3, rfl, hat2, hb3⟩
  clear cR0 cR1 cR2 cR3 cR4 cR5 zR hcon
  replace BR := BR.below hb3
  replace hat := hat.below hb3
  replace bl := Below_after bl hb3
  have yR := BR.1
  have hfw : Fit N2 f0 := by have := hat2.fw; rw [HK0.out] at this; exact this
  replace BR := BR.alloc (.cells #[.slice x0 N2 f0, .slice x1 n1 f1, .slice x2 N2 f2, .slice x3 0 f3, .int .i64 M, .int .i64 N] 29)
  replace hat := hat.below ((Below.refl _ _).alloc (Nat.le_refl _) (.cells #[.slice x0 N2 f0, .slice x1 n1 f1, .slice x2 N2 f2, .slice x3 0 f3, .int .i64 M, .int .i64 N] 29))
  replace hat2 := hat2.below ((Below.refl _ _).alloc (Nat.le_refl _) (.cells #[.slice x0 N2 f0, .slice x1 n1 f1, .slice x2 N2 f2, .slice x3 0 f3, .int .i64 M, .int .i64 N] 29))
  replace bl := bl.alloc bl.size (.cells #[.slice x0 N2 f0, .slice x1 n1 f1, .slice x2 N2 f2, .slice x3 0 f3, .int .i64 M, .int .i64 N] 29)
  have BX := Bx.new w3 [.slice x0 N2 f0, .slice x1 n1 f1, .slice x2 N2 f2, .slice x3 0 f3, .int .i64 M, .int .i64 N] 29
  have cX0 := (BX.2 0 _ rfl).1
  have cX1 := (BX.2 1 _ rfl).1
  have cX2 := (BX.2 2 _ rfl).1
  have cX3 := (BX.2 3 _ rfl).1
  have cX4 := (BX.2 4 _ rfl).1
  have cX5 := (BX.2 5 _ rfl).1
  have zX := BX.1
  have cR0 := (BR.2 0 _ rfl).1
  have cR1 := (BR.2 1 _ rfl).1
  have cR2 := (BR.2 2 _ rfl).1
  have cR3 := (BR.2 3 _ rfl).1
  have cR4 := (BR.2 4 _ rfl).1
  have cR5 := (BR.2 5 _ rfl).1
  have zR := BR.1
  go_wp2_with fail
  generalize (w3.alloc (.cells #[.slice x0 N2 f0, .slice x1 n1 f1, .slice x2 N2 f2, .slice x3 0 f3, .int .i64 M, .int .i64 N] 29)) = vv at *
  have mk : ∀ w' : World, Below vv.heap.size vv w' → Below vv.heap.size vv w' ∧ w'.cell? ⟨w3.heap.size, 0, none⟩ = some (.slice x0 N2 f0) ∧ w'.cell? ⟨w3.heap.size, 1, none⟩ = some (.slice x1 n1 f1) ∧ w'.cell? ⟨w3.heap.size, 2, none⟩ = some (.slice x2 N2 f2) ∧ w'.cell? ⟨w3.heap.size, 3, none⟩ = some (.slice x3 0 f3) ∧ w'.cell? ⟨w3.heap.size, 4, none⟩ = some (.int .i64 M) ∧ w'.cell? ⟨w3.heap.size, 5, none⟩ = some (.int .i64 N) := fun w' h => ⟨h, by rw [(bcell h).1 _ _ zX]; exact cX0, by rw [(bcell h).1 _ _ zX]; exact cX1, by rw [(bcell h).1 _ _ zX]; exact cX2, by rw [(bcell h).1 _ _ zX]; exact cX3, by rw [(bcell h).1 _ _ zX]; exact cX4, by rw [(bcell h).1 _ _ zX]; exact cX5⟩
  have hB0 : Below vv.heap.size vv vv.drew := below_drewN (Below.refl _ _) 1
  refine wp_region_held_drew (S := fun w' => Below vv.heap.size vv w' ∧ w'.cell? ⟨w3.heap.size, 0, none⟩ = some (.slice x0 N2 f0) ∧ w'.cell? ⟨w3.heap.size, 1, none⟩ = some (.slice x1 n1 f1) ∧ w'.cell? ⟨w3.heap.size, 2, none⟩ = some (.slice x2 N2 f2) ∧ w'.cell? ⟨w3.heap.size, 3, none⟩ = some (.slice x3 0 f3) ∧ w'.cell? ⟨w3.heap.size, 4, none⟩ = some (.int .i64 M) ∧ w'.cell? ⟨w3.heap.size, 5, none⟩ = some (.int .i64 N)) (by kernel_rfl) ?_ (fun hHeld => ?_)
  · exact mk _ hB0
  refine wpAnyH_take (i := 0) (oi := ({ dst := some 18, op := Op.fieldAddr 29 (Operand.tmp 5) 3, type := 0, pos := "parts.go:515", after := #[], guard := none } : Oper)) (v := .pointer (some ⟨w3.heap.size, 3, none⟩)) rfl (by kernel_rfl) (by kernel_rfl) (by kernel_rfl) (fun _ _ _ h => h) (Or.inl ⟨by rfl, ?_⟩) (by assumption) ?_
  · intro w hSw; (try dsimp only at hSw); go_simp
  (try simp only [Act.put, List.setIfInBounds_toArray, List.set_cons_zero, List.set_cons_succ])
  refine wpAnyH_take (i := 1) (oi := ({ dst := some 19, op := Op.load 27 (Operand.tmp 18), type := 27, pos := "parts.go:515", after := #[{ on := 0, ground := Ground.data }], guard := none } : Oper)) (v := .slice x3 0 f3) rfl (by kernel_rfl) (by kernel_rfl) (by kernel_rfl) (fun _ _ _ h => h) (Or.inl ⟨by rfl, ?_⟩) (by assumption) ?_
  · intro w hSw; (try dsimp only at hSw); go_simp
  (try simp only [Act.put, List.setIfInBounds_toArray, List.set_cons_zero, List.set_cons_succ])
  refine wpAnyH_take (i := 2) (oi := ({ dst := some 20, op := Op.call { callee := Callee.builtin Builtin.len, args := #[Operand.tmp 19], argTypes := #[27] }, type := 3, pos := "parts.go:515", after := #[{ on := 1, ground := Ground.data }], guard := none } : Oper)) (v := .int .i64 0) rfl (by kernel_rfl) (by kernel_rfl) (by kernel_rfl) (fun _ _ _ h => h) (Or.inl ⟨by rfl, ?_⟩) (by assumption) ?_
  · intro w hSw; (try dsimp only at hSw); go_simp
  (try simp only [Act.put, List.setIfInBounds_toArray, List.set_cons_zero, List.set_cons_succ])
  refine wpAnyH_take (i := 3) (oi := ({ dst := some 21, op := Op.binOp BinOp.neq 3 (Operand.tmp 20) (Operand.const (Value.int IntKind.i64 0)) 3, type := 4, pos := "parts.go:515", after := #[{ on := 2, ground := Ground.data }], guard := none } : Oper)) (v := .bool false) rfl (by kernel_rfl) (by kernel_rfl) (by kernel_rfl) (fun _ _ _ h => h) (Or.inl ⟨by rfl, ?_⟩) (by assumption) ?_
  · intro w hSw; (try dsimp only at hSw); go_simp
  (try simp only [Act.put, List.setIfInBounds_toArray, List.set_cons_zero, List.set_cons_succ])
  refine wpAnyH_take (i := 4) (oi := ({ dst := some 22, op := Op.move (Operand.tmp 21), type := 4, pos := "parts.go:515", after := #[{ on := 3, ground := Ground.data }], guard := none } : Oper)) (v := .bool false) rfl (by kernel_rfl) (by kernel_rfl) (by kernel_rfl) (fun _ _ _ h => h) (Or.inl ⟨by rfl, ?_⟩) (by assumption) ?_
  · intro w hSw; (try dsimp only at hSw); go_simp
  (try simp only [Act.put, List.setIfInBounds_toArray, List.set_cons_zero, List.set_cons_succ])
  refine wpAnyH_take (i := 5) (oi := ({ dst := some 23, op := Op.fieldAddr 29 (Operand.tmp 5) 0, type := 0, pos := "parts.go:515", after := #[{ on := 4, ground := Ground.guard }], guard := some (4, false) } : Oper)) (v := .pointer (some ⟨w3.heap.size, 0, none⟩)) rfl (by kernel_rfl) (by kernel_rfl) (by kernel_rfl) (fun _ _ _ h => h) (Or.inl ⟨by rfl, ?_⟩) (by assumption) ?_
  · intro w hSw; (try dsimp only at hSw); go_simp
  (try simp only [Act.put, List.setIfInBounds_toArray, List.set_cons_zero, List.set_cons_succ])
  refine wpAnyH_take (i := 6) (oi := ({ dst := some 24, op := Op.load 24 (Operand.tmp 23), type := 24, pos := "parts.go:515", after := #[{ on := 5, ground := Ground.data }, { on := 4, ground := Ground.guard }], guard := some (4, false) } : Oper)) (v := .slice x0 N2 f0) rfl (by kernel_rfl) (by kernel_rfl) (by kernel_rfl) (fun _ _ _ h => h) (Or.inl ⟨by rfl, ?_⟩) (by assumption) ?_
  · intro w hSw; (try dsimp only at hSw); go_simp
  (try simp only [Act.put, List.setIfInBounds_toArray, List.set_cons_zero, List.set_cons_succ])
  refine wpAnyH_ready (rs := [7]) (by kernel_rfl) (by simp) ?_
  refine AllReadyH.cons (o := ({ dst := some 25, op := Op.call { callee := Callee.value (Operand.func 7), args := #[Operand.tmp 24], argTypes := #[24] }, type := 34, pos := "parts.go:515", after := #[{ on := 6, ground := Ground.data }, { on := 4, ground := Ground.chain }, { on := 4, ground := Ground.guard }], guard := some (4, false) } : Oper)) rfl (fun K hK => ?_) AllReadyH.nil
  rw [if_pos (by rfl)]
  go_wp2_with (first | (go_at_call 7; refine Calls.mono (hck x0 f0 _ (hat2.below hB0).w hfw) ?_; rintro e w6 ⟨rfl, hb6⟩; have hB6 := Below_after hB0 hb6))
  refine hK.out _ _ ?_ (fun hHeld => ?_)
  · exact mk _ hB6
  clear hK K
  (try simp only [Act.put, List.setIfInBounds_toArray, List.set_cons_zero, List.set_cons_succ])
  refine wpAnyH_take (i := 8) (oi := ({ dst := some 26, op := Op.binOp BinOp.neq 34 (Operand.tmp 25) (Operand.const Value.nilIface) 34, type := 4, pos := "parts.go:515", after := #[{ on := 7, ground := Ground.data }, { on := 4, ground := Ground.guard }], guard := some (4, false) } : Oper)) (v := .bool false) rfl (by kernel_rfl) (by kernel_rfl) (by kernel_rfl) (fun _ _ _ h => h) (Or.inl ⟨by rfl, ?_⟩) (by assumption) ?_
  · intro w hSw; (try dsimp only at hSw); go_simp
  (try simp only [Act.put, List.setIfInBounds_toArray, List.set_cons_zero, List.set_cons_succ])
  refine wpAnyH_take (i := 9) (oi := ({ dst := some 27, op := Op.pick (Operand.tmp 22) (Operand.const (Value.bool true)) (Operand.tmp 26), type := 4, pos := "parts.go:515", after := #[{ on := 4, ground := Ground.data }, { on := 8, ground := Ground.data }], guard := none } : Oper)) (v := .bool false) rfl (by kernel_rfl) (by kernel_rfl) (by kernel_rfl) (fun _ _ _ h => h) (Or.inl ⟨by rfl, ?_⟩) (by assumption) ?_
  · intro w hSw; (try dsimp only at hSw); go_simp
  (try simp only [Act.put, List.setIfInBounds_toArray, List.set_cons_zero, List.set_cons_succ])
  refine wpAnyH_take (i := 10) (oi := ({ dst := some 28, op := Op.move (Operand.tmp 27), type := 4, pos := "parts.go:515", after := #[{ on := 9, ground := Ground.data }, { on := 7, ground := Ground.chain }], guard := none } : Oper)) (v := .bool false) rfl (by kernel_rfl) (by kernel_rfl) (by kernel_rfl) (fun _ _ _ h => h) (Or.inl ⟨by rfl, ?_⟩) (by assumption) ?_
  · intro w hSw; (try dsimp only at hSw); go_simp
  (try simp only [Act.put, List.setIfInBounds_toArray, List.set_cons_zero, List.set_cons_succ])
  refine wpAnyH_take (i := 11) (oi := ({ dst := some 29, op := Op.fieldAddr 29 (Operand.tmp 5) 2, type := 0, pos := "parts.go:515", after := #[{ on := 10, ground := Ground.guard }], guard := some (10, false) } : Oper)) (v := .pointer (some ⟨w3.heap.size, 2, none⟩)) rfl (by kernel_rfl) (by kernel_rfl) (by kernel_rfl) (fun _ _ _ h => h) (Or.inl ⟨by rfl, ?_⟩) (by assumption) ?_
  · intro w hSw; (try dsimp only at hSw); go_simp
  (try simp only [Act.put, List.setIfInBounds_toArray, List.set_cons_zero, List.set_cons_succ])
  refine wpAnyH_take (i := 12) (oi := ({ dst := some 30, op := Op.load 26 (Operand.tmp 29), type := 26, pos := "parts.go:515", after := #[{ on := 11, ground := Ground.data }, { on := 10, ground := Ground.guard }], guard := some (10, false) } : Oper)) (v := .slice x2 N2 f2) rfl (by kernel_rfl) (by kernel_rfl) (by kernel_rfl) (fun _ _ _ h => h) (Or.inl ⟨by rfl, ?_⟩) (by assumption) ?_
  · intro w hSw; (try dsimp only at hSw); go_simp
  (try simp only [Act.put, List.setIfInBounds_toArray, List.set_cons_zero, List.set_cons_succ])
  refine wpAnyH_take (i := 13) (oi := ({ dst := some 31, op := Op.call { callee := Callee.builtin Builtin.len, args := #[Operand.tmp 30], argTypes := #[26] }, type := 3, pos := "parts.go:515", after := #[{ on := 12, ground := Ground.data }, { on := 10, ground := Ground.guard }], guard := some (10, false) } : Oper)) (v := .int .i64 N2) rfl (by kernel_rfl) (by kernel_rfl) (by kernel_rfl) (fun _ _ _ h => h) (Or.inl ⟨by rfl, ?_⟩) (by assumption) ?_
  · intro w hSw; (try dsimp only at hSw); go_simp
  (try simp only [Act.put, List.setIfInBounds_toArray, List.set_cons_zero, List.set_cons_succ])
  refine wpAnyH_take (i := 14) (oi := ({ dst := some 32, op := Op.fieldAddr 29 (Operand.tmp 5) 0, type := 0, pos := "parts.go:515", after := #[{ on := 10, ground := Ground.guard }], guard := some (10, false) } : Oper)) (v := .pointer (some ⟨w3.heap.size, 0, none⟩)) rfl (by kernel_rfl) (by kernel_rfl) (by kernel_rfl) (fun _ _ _ h => h) (Or.inl ⟨by rfl, ?_⟩) (by assumption) ?_
  · intro w hSw; (try dsimp only at hSw); go_simp
  (try simp only [Act.put, List.setIfInBounds_toArray, List.set_cons_zero, List.set_cons_succ])
  refine wpAnyH_take (i := 15) (oi := ({ dst := some 33, op := Op.load 24 (Operand.tmp 32), type := 24, pos := "parts.go:515", after := #[{ on := 14, ground := Ground.data }, { on := 10, ground := Ground.guard }], guard := some (10, false) } : Oper)) (v := .slice x0 N2 f0) rfl (by kernel_rfl) (by kernel_rfl) (by kernel_rfl) (fun _ _ _ h => h) (Or.inl ⟨by rfl, ?_⟩) (by assumption) ?_
  · intro w hSw; (try dsimp only at hSw); go_simp
  (try simp only [Act.put, List.setIfInBounds_toArray, List.set_cons_zero, List.set_cons_succ])
  refine wpAnyH_take (i := 16) (oi := ({ dst := some 34, op := Op.call { callee := Callee.builtin Builtin.len, args := #[Operand.tmp 33], argTypes := #[24] }, type := 3, pos := "parts.go:515", after := #[{ on := 15, ground := Ground.data }, { on := 10, ground := Ground.guard }], guard := some (10, false) } : Oper)) (v := .int .i64 N2) rfl (by kernel_rfl) (by kernel_rfl) (by kernel_rfl) (fun _ _ _ h => h) (Or.inl ⟨by rfl, ?_⟩) (by assumption) ?_
  · intro w hSw; (try dsimp only at hSw); go_simp
  (try simp only [Act.put, List.setIfInBounds_toArray, List.set_cons_zero, List.set_cons_succ])
  refine wpAnyH_take (i := 17) (oi := ({ dst := some 35, op := Op.binOp BinOp.neq 3 (Operand.tmp 31) (Operand.tmp 34) 3, type := 4, pos := "parts.go:515", after := #[{ on := 13, ground := Ground.data }, { on := 16, ground := Ground.data }, { on := 10, ground := Ground.guard }], guard := some (10, false) } : Oper)) (v := .bool false) rfl (by kernel_rfl) (by kernel_rfl) (by kernel_rfl) (fun _ _ _ h => h) (Or.inl ⟨by rfl, ?_⟩) (by assumption) ?_
  · intro w hSw; (try dsimp only at hSw); go_simp
  (try simp only [Act.put, List.setIfInBounds_toArray, List.set_cons_zero, List.set_cons_succ])
  refine wpAnyH_take (i := 18) (oi := ({ dst := some 36, op := Op.pick (Operand.tmp 28) (Operand.const (Value.bool true)) (Operand.tmp 35), type := 4, pos := "parts.go:515", after := #[{ on := 10, ground := Ground.data }, { on := 17, ground := Ground.data }], guard := none } : Oper)) (v := .bool false) rfl (by kernel_rfl) (by kernel_rfl) (by kernel_rfl) (fun _ _ _ h => h) (Or.inl ⟨by rfl, ?_⟩) (by assumption) ?_
  · intro w hSw; (try dsimp only at hSw); go_simp
  (try simp only [Act.put, List.setIfInBounds_toArray, List.set_cons_zero, List.set_cons_succ])
  refine wpAnyH_take (i := 19) (oi := ({ dst := some 37, op := Op.move (Operand.tmp 36), type := 4, pos := "parts.go:515", after := #[{ on := 18, ground := Ground.data }, { on := 10, ground := Ground.chain }], guard := none } : Oper)) (v := .bool false) rfl (by kernel_rfl) (by kernel_rfl) (by kernel_rfl) (fun _ _ _ h => h) (Or.inl ⟨by rfl, ?_⟩) (by assumption) ?_
  · intro w hSw; (try dsimp only at hSw); go_simp
  (try simp only [Act.put, List.setIfInBounds_toArray, List.set_cons_zero, List.set_cons_succ])
  refine wpAnyH_take (i := 20) (oi := ({ dst := some 38, op := Op.load 29 (Operand.tmp 5), type := 29, pos := "parts.go:515", after := #[{ on := 19, ground := Ground.guard }], guard := some (19, false) } : Oper)) (v := .agg #[.slice x0 N2 f0, .slice x1 n1 f1, .slice x2 N2 f2, .slice x3 0 f3, .int .i64 M, .int .i64 N]) rfl (by kernel_rfl) (by kernel_rfl) (by kernel_rfl) (fun _ _ _ h => h) (Or.inl ⟨by rfl, ?_⟩) (by assumption) ?_
  · intro w hSw; (try dsimp only at hSw); go_simp
  (try simp only [Act.put, List.setIfInBounds_toArray, List.set_cons_zero, List.set_cons_succ])
  refine wpAnyH_take (i := 22) (oi := ({ dst := some 40, op := Op.load 29 (Operand.tmp 5), type := 29, pos := "parts.go:515", after := #[{ on := 19, ground := Ground.guard }], guard := some (19, false) } : Oper)) (v := .agg #[.slice x0 N2 f0, .slice x1 n1 f1, .slice x2 N2 f2, .slice x3 0 f3, .int .i64 M, .int .i64 N]) rfl (by kernel_rfl) (by kernel_rfl) (by kernel_rfl) (fun _ _ _ h => h) (Or.inl ⟨by rfl, ?_⟩) (by assumption) ?_
  · intro w hSw; (try dsimp only at hSw); go_simp
  (try simp only [Act.put, List.setIfInBounds_toArray, List.set_cons_zero, List.set_cons_succ])
  refine wpAnyH_ready (rs := [21]) (by kernel_rfl) (by simp) ?_
  refine AllReadyH.cons (o := ({ dst := some 39, op := Op.call { callee := Callee.value (Operand.func 6), args := #[Operand.tmp 38], argTypes := #[29] }, type := 29, pos := "parts.go:515", after := #[{ on := 20, ground := Ground.data }, { on := 19, ground := Ground.chain }, { on := 19, ground := Ground.guard }], guard := some (19, false) } : Oper)) rfl (fun K hK => ?_) AllReadyH.nil
  rw [if_pos (by rfl)]
  go_wp2_with (first | (go_at_call 6; refine Calls.mono (hqq x0 x1 x2 x3 f0 f1 f2 f3 _ (hat2.below hB6)) ?_; rintro e w7 ⟨y0, y1, y2, y3, g0, g1, g2, g3, rfl, hat3, hb7⟩; have hB7 := Below_after hB6 hb7))
  refine hK.out _ _ ?_ (fun hHeld => ?_)
  · exact mk _ hB7
  clear hK K
  (try simp only [Act.put, List.setIfInBounds_toArray, List.set_cons_zero, List.set_cons_succ])
  refine wpAnyH_ready (rs := [23]) (by kernel_rfl) (by simp) ?_
  refine AllReadyH.cons (o := ({ dst := some 41, op := Op.call { callee := Callee.value (Operand.func 8), args := #[Operand.tmp 39, Operand.tmp 40], argTypes := #[29, 29] }, type := 4, pos := "parts.go:515", after := #[{ on := 21, ground := Ground.data }, { on := 22, ground := Ground.data }, { on := 21, ground := Ground.chain }, { on := 19, ground := Ground.guard }], guard := some (19, false) } : Oper)) rfl (fun K hK => ?_) AllReadyH.nil
  rw [if_pos (by rfl)]
  go_wp2_with (first | (go_at_call 8; refine Calls.mono (hss y0 y1 y2 y3 g0 g1 g2 g3 x0 x1 x2 x3 f0 f1 f2 f3 _ hat3 (hat2.below hB7)) ?_; rintro e w8 ⟨rfl, hb8⟩; have hB8 := Below_after hB7 hb8))
  refine hK.out _ _ ?_ (fun hHeld => ?_)
  · exact mk _ hB8
  clear hK K
  (try simp only [Act.put, List.setIfInBounds_toArray, List.set_cons_zero, List.set_cons_succ])
  refine wpAnyH_take (i := 24) (oi := ({ dst := some 42, op := Op.unOp UnOp.not 4 (Operand.tmp 41), type := 4, pos := "parts.go:515", after := #[{ on := 23, ground := Ground.data }, { on := 19, ground := Ground.guard }], guard := some (19, false) } : Oper)) (v := .bool false) rfl (by kernel_rfl) (by kernel_rfl) (by kernel_rfl) (fun _ _ _ h => h) (Or.inl ⟨by rfl, ?_⟩) (by assumption) ?_
  · intro w hSw; (try dsimp only at hSw); go_simp
  (try simp only [Act.put, List.setIfInBounds_toArray, List.set_cons_zero, List.set_cons_succ])
  refine wpAnyH_take (i := 25) (oi := ({ dst := some 43, op := Op.pick (Operand.tmp 37) (Operand.const (Value.bool true)) (Operand.tmp 42), type := 4, pos := "parts.go:515", after := #[{ on := 19, ground := Ground.data }, { on := 24, ground := Ground.data }], guard := none } : Oper)) (v := .bool false) rfl (by kernel_rfl) (by kernel_rfl) (by kernel_rfl) (fun _ _ _ h => h) (Or.inl ⟨by rfl, ?_⟩) (by assumption) ?_
  · intro w hSw; (try dsimp only at hSw); go_simp
  (try simp only [Act.put, List.setIfInBounds_toArray, List.set_cons_zero, List.set_cons_succ])
  refine wpAnyH_done (by kernel_rfl) ?_ _
  replace bl := Below_after bl hB8
  have BX8 := BX.below hB8
  have BR8 := BR.below hB8
  clear cX0 cX1 cX2 cX3 cX4 cX5 zX cR0 cR1 cR2 cR3 cR4 cR5 zR
  have hcon := hsh x2 f2 w8 (by rw [← q2]; exact (hat2.below hB8).h) (hat.below hB8).h
  have cX0 := (BX8.2 0 _ rfl).1
  have cX1 := (BX8.2 1 _ rfl).1
  have cX2 := (BX8.2 2 _ rfl).1
  have cX3 := (BX8.2 3 _ rfl).1
  have cX4 := (BX8.2 4 _ rfl).1
  have cX5 := (BX8.2 5 _ rfl).1
  have zX := BX8.1
  have cR0 := (BR8.2 0 _ rfl).1
  have cR1 := (BR8.2 1 _ rfl).1
  have cR2 := (BR8.2 2 _ rfl).1
  have cR3 := (BR8.2 3 _ rfl).1
  have cR4 := (BR8.2 4 _ rfl).1
  have cR5 := (BR8.2 5 _ rfl).1
  have zR := BR8.1
  go_wp2_with fail
  refine hcon.mono ?_
  rintro e w9 ⟨rfl, m9, rfl⟩
  go_wp2_with fail
  go_ret
  exact ⟨rfl, below_drewN bl m9⟩
theorem tquiet_any (w : World) (a : Option Addr) (l : List Ac) (c : Nat) (hw : AcsAt w a l) (hm : l.length ≤ maxLen) :
    Calls Tryz.prog 3 #[.slice a l.length c] w fun e w' => e = .returned (.bool true) ∧ Below w.heap.size w w' := by
  cases hq : lacB l 80
  · exact tquiet_no a c l w hw hm hq
  · exact tquiet_yes a c l w hw hm hq
end Go.Proofs.YtpmkkmndgicbgaaGreat
