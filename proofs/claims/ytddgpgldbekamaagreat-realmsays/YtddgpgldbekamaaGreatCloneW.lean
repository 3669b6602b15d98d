/- slices.Clone at the types of a realm's lists; realm.Copy (E1). -/
/- realm.Copy (E1), as the landed code has it. -/
import Derived.Test.YtddgpgldbekamaaGreatInfoW
import Derived.Test.YtddgpgldbekamaaGreatBox
import Derived.Lib.SliceRun
set_option linter.unusedSimpArgs false
set_option linter.unusedVariables false
namespace Go.Proofs.YtddgpgldbekamaaGreat
open Go.RowKit
theorem infoThing : (Tryz.prog.info? 73).map (fun i => (i.zero, i.size, i.bytes)) = some (some (.agg #[.int .i64 0, .int .i64 0, .string ByteArray.empty]), 3, 32) := by kernel_rfl
theorem infoNote : (Tryz.prog.info? 52).map (fun i => (i.zero, i.size, i.bytes)) = some (some (.agg #[.int .i64 0, .string ByteArray.empty, .int .i64 0, .int .i64 0]), 4, 40) := by kernel_rfl

set_option maxHeartbeats 1000000 in
theorem clone_w (a : Option Addr) (c : Nat) (l : List Wr) (w : World) (hw : WrsAt w a l) (hm : l.length ≤ 1000000) :
    Calls Tryz.prog 44 #[.slice a l.length c] w fun e w' => ∃ v, e = .returned v ∧ w'.ownsRow w.heap.size 39 5 v l.length (l.flatMap wcells) ∧ Below w.heap.size w w' := by
  obtain ⟨i0, hi, hi0, hi1, hi2⟩ := info_parts infoWrit
  have q0 : ∀ (w : World) (a : Option Addr) (n c n' c' : Nat), (binOp .eql 25 (.slice a n c) (.slice none n' c')).run Tryz.prog w = .ok (.bool a.isNone) w := fun w a n c n' c' => Lib.run_eql_slice_nil w _ _ a n c n' c' Tryz.underlying25
  cases a with
  | none =>
    have hl : l = [] := by rcases hw with h | ⟨b, o, ha, _⟩; exact h; cases ha
    subst hl
    go_enter Tryz.func44, Tryz.ntmps44
    go_wp2
    go_ret
    exact ⟨_, rfl, World.ownsRow_nil _ _ _ _, Below.refl _ _⟩
  | some ad =>
    have hcl : ∀ j u, (l.flatMap wcells)[j]? = some u → (w.alloc (.cells #[] 39)).cell? (ad.add j) = some u := by
      rcases hw with rfl | ⟨b, o, ha, hb, hc⟩
      · intro j u hu; simp at hu
      · intro j u hu
        cases ha
        rw [Addr.add_lit]
        exact Lib.cell?_alloc_some _ (wr_flat hc j u hu)
    have A : Hid (∀ j u, (l.flatMap wcells)[j]? = some u → (w.alloc (.cells #[] 39)).cell? (ad.add j) = some u) := hcl
    have hfl := flatlen_w l
    have hon := wcells_one l
    have FL : Hid ((l.flatMap wcells).length = l.length * 5) := hfl
    have ON : Hid (∀ u ∈ l.flatMap wcells, u.oneCell' = true) := hon
    clear hcl hw hfl hon
    generalize l.flatMap wcells = news at *
    go_enter Tryz.func44, Tryz.ntmps44
    go_wp2_with (at_builtin; refine wpList_append_own _ rfl _ _ 25 rfl w.heap.size 39 i0 (.agg #[.int .i64 0, .int .i64 0, .int .i64 0, .int .i64 0, .int .i64 0]) 5 40 Tryz.underlying25 hi hi0 hi1 hi2 rfl (by decide) _ _ _ rfl (World.ownsRow_made w #[] 0 (Nat.le_refl _) (Nat.zero_le _) (by simp)) ad l.length c news rfl FL.out A.out ON.out ?c3 ?c4 ?c5 ?_)
    case c3 => unfold maxLen; omega
    case c4 => omega
    case c5 => simp
    intro v' w1 hown hgrow hnil
    go_wp2
    go_ret
    exact ⟨v', rfl, by simpa using hown, ((Below.refl _ w).alloc (Nat.le_refl _) _).grown hgrow (by simp) (by intro k hk; simp [Value.ownBlock] at hk; omega)⟩
set_option maxHeartbeats 1000000 in
theorem clone_t (a : Option Addr) (c : Nat) (l : List Th) (w : World) (hw : ThsAt w a l) (hm : l.length ≤ 1000000) :
    Calls Tryz.prog 45 #[.slice a l.length c] w fun e w' => ∃ v, e = .returned v ∧ w'.ownsRow w.heap.size 73 3 v l.length (l.flatMap tcells) ∧ Below w.heap.size w w' := by
  obtain ⟨i0, hi, hi0, hi1, hi2⟩ := info_parts infoThing
  have q0 : ∀ (w : World) (a : Option Addr) (n c n' c' : Nat), (binOp .eql 26 (.slice a n c) (.slice none n' c')).run Tryz.prog w = .ok (.bool a.isNone) w := fun w a n c n' c' => Lib.run_eql_slice_nil w _ _ a n c n' c' Tryz.underlying26
  cases a with
  | none =>
    have hl : l = [] := by rcases hw with h | ⟨b, o, ha, _⟩; exact h; cases ha
    subst hl
    go_enter Tryz.func45, Tryz.ntmps45
    go_wp2
    go_ret
    exact ⟨_, rfl, World.ownsRow_nil _ _ _ _, Below.refl _ _⟩
  | some ad =>
    have hcl : ∀ j u, (l.flatMap tcells)[j]? = some u → (w.alloc (.cells #[] 73)).cell? (ad.add j) = some u := by
      rcases hw with rfl | ⟨b, o, ha, hb, hc⟩
      · intro j u hu; simp at hu
      · intro j u hu
        cases ha
        rw [Addr.add_lit]
        exact Lib.cell?_alloc_some _ (th_flat hc j u hu)
    have A : Hid (∀ j u, (l.flatMap tcells)[j]? = some u → (w.alloc (.cells #[] 73)).cell? (ad.add j) = some u) := hcl
    have hfl := flatlen_t l
    have hon := tcells_one l
    have FL : Hid ((l.flatMap tcells).length = l.length * 3) := hfl
    have ON : Hid (∀ u ∈ l.flatMap tcells, u.oneCell' = true) := hon
    clear hcl hw hfl hon
    generalize l.flatMap tcells = news at *
    go_enter Tryz.func45, Tryz.ntmps45
    go_wp2_with (at_builtin; refine wpList_append_own _ rfl _ _ 26 rfl w.heap.size 73 i0 (.agg #[.int .i64 0, .int .i64 0, .string ByteArray.empty]) 3 32 Tryz.underlying26 hi hi0 hi1 hi2 rfl (by decide) _ _ _ rfl (World.ownsRow_made w #[] 0 (Nat.le_refl _) (Nat.zero_le _) (by simp)) ad l.length c news rfl FL.out A.out ON.out ?c3 ?c4 ?c5 ?_)
    case c3 => unfold maxLen; omega
    case c4 => omega
    case c5 => simp
    intro v' w1 hown hgrow hnil
    go_wp2
    go_ret
    exact ⟨v', rfl, by simpa using hown, ((Below.refl _ w).alloc (Nat.le_refl _) _).grown hgrow (by simp) (by intro k hk; simp [Value.ownBlock] at hk; omega)⟩
set_option maxHeartbeats 1000000 in
theorem clone_h (a : Option Addr) (c : Nat) (l : List Hd) (w : World) (hw : HdsAt w a l) (hm : l.length ≤ 1000000) :
    Calls Tryz.prog 46 #[.slice a l.length c] w fun e w' => ∃ v, e = .returned v ∧ w'.ownsRow w.heap.size 93 3 v l.length (l.flatMap hcells) ∧ Below w.heap.size w w' := by
  obtain ⟨i0, hi, hi0, hi1, hi2⟩ := info_parts infoHeld
  have q0 : ∀ (w : World) (a : Option Addr) (n c n' c' : Nat), (binOp .eql 27 (.slice a n c) (.slice none n' c')).run Tryz.prog w = .ok (.bool a.isNone) w := fun w a n c n' c' => Lib.run_eql_slice_nil w _ _ a n c n' c' Tryz.underlying27
  cases a with
  | none =>
    have hl : l = [] := by rcases hw with h | ⟨b, o, ha, _⟩; exact h; cases ha
    subst hl
    go_enter Tryz.func46, Tryz.ntmps46
    go_wp2
    go_ret
    exact ⟨_, rfl, World.ownsRow_nil _ _ _ _, Below.refl _ _⟩
  | some ad =>
    have hcl : ∀ j u, (l.flatMap hcells)[j]? = some u → (w.alloc (.cells #[] 93)).cell? (ad.add j) = some u := by
      rcases hw with rfl | ⟨b, o, ha, hb, hc⟩
      · intro j u hu; simp at hu
      · intro j u hu
        cases ha
        rw [Addr.add_lit]
        exact Lib.cell?_alloc_some _ (hd_flat hc j u hu)
    have A : Hid (∀ j u, (l.flatMap hcells)[j]? = some u → (w.alloc (.cells #[] 93)).cell? (ad.add j) = some u) := hcl
    have hfl := flatlen_h l
    have hon := hcells_one l
    have FL : Hid ((l.flatMap hcells).length = l.length * 3) := hfl
    have ON : Hid (∀ u ∈ l.flatMap hcells, u.oneCell' = true) := hon
    clear hcl hw hfl hon
    generalize l.flatMap hcells = news at *
    go_enter Tryz.func46, Tryz.ntmps46
    go_wp2_with (at_builtin; refine wpList_append_own _ rfl _ _ 27 rfl w.heap.size 93 i0 (.agg #[.int .i64 0, .int .i64 0, .int .i64 0]) 3 24 Tryz.underlying27 hi hi0 hi1 hi2 rfl (by decide) _ _ _ rfl (World.ownsRow_made w #[] 0 (Nat.le_refl _) (Nat.zero_le _) (by simp)) ad l.length c news rfl FL.out A.out ON.out ?c3 ?c4 ?c5 ?_)
    case c3 => unfold maxLen; omega
    case c4 => omega
    case c5 => simp
    intro v' w1 hown hgrow hnil
    go_wp2
    go_ret
    exact ⟨v', rfl, by simpa using hown, ((Below.refl _ w).alloc (Nat.le_refl _) _).grown hgrow (by simp) (by intro k hk; simp [Value.ownBlock] at hk; omega)⟩
set_option maxHeartbeats 1000000 in
theorem clone_n (a : Option Addr) (c : Nat) (l : List Nt) (w : World) (hw : NtsAt w a l) (hm : l.length ≤ 1000000) :
    Calls Tryz.prog 47 #[.slice a l.length c] w fun e w' => ∃ v, e = .returned v ∧ w'.ownsRow w.heap.size 52 4 v l.length (l.flatMap ncells) ∧ Below w.heap.size w w' := by
  obtain ⟨i0, hi, hi0, hi1, hi2⟩ := info_parts infoNote
  have q0 : ∀ (w : World) (a : Option Addr) (n c n' c' : Nat), (binOp .eql 28 (.slice a n c) (.slice none n' c')).run Tryz.prog w = .ok (.bool a.isNone) w := fun w a n c n' c' => Lib.run_eql_slice_nil w _ _ a n c n' c' Tryz.underlying28
  cases a with
  | none =>
    have hl : l = [] := by rcases hw with h | ⟨b, o, ha, _⟩; exact h; cases ha
    subst hl
    go_enter Tryz.func47, Tryz.ntmps47
    go_wp2
    go_ret
    exact ⟨_, rfl, World.ownsRow_nil _ _ _ _, Below.refl _ _⟩
  | some ad =>
    have hcl : ∀ j u, (l.flatMap ncells)[j]? = some u → (w.alloc (.cells #[] 52)).cell? (ad.add j) = some u := by
      rcases hw with rfl | ⟨b, o, ha, hb, hc⟩
      · intro j u hu; simp at hu
      · intro j u hu
        cases ha
        rw [Addr.add_lit]
        exact Lib.cell?_alloc_some _ (nt_flat hc j u hu)
    have A : Hid (∀ j u, (l.flatMap ncells)[j]? = some u → (w.alloc (.cells #[] 52)).cell? (ad.add j) = some u) := hcl
    have hfl := flatlen_n l
    have hon := ncells_one l
    have FL : Hid ((l.flatMap ncells).length = l.length * 4) := hfl
    have ON : Hid (∀ u ∈ l.flatMap ncells, u.oneCell' = true) := hon
    clear hcl hw hfl hon
    generalize l.flatMap ncells = news at *
    go_enter Tryz.func47, Tryz.ntmps47
    go_wp2_with (at_builtin; refine wpList_append_own _ rfl _ _ 28 rfl w.heap.size 52 i0 (.agg #[.int .i64 0, .string ByteArray.empty, .int .i64 0, .int .i64 0]) 4 40 Tryz.underlying28 hi hi0 hi1 hi2 rfl (by decide) _ _ _ rfl (World.ownsRow_made w #[] 0 (Nat.le_refl _) (Nat.zero_le _) (by simp)) ad l.length c news rfl FL.out A.out ON.out ?c3 ?c4 ?c5 ?_)
    case c3 => unfold maxLen; omega
    case c4 => omega
    case c5 => simp
    intro v' w1 hown hgrow hnil
    go_wp2
    go_ret
    exact ⟨v', rfl, by simpa using hown, ((Below.refl _ w).alloc (Nat.le_refl _) _).grown hgrow (by simp) (by intro k hk; simp [Value.ownBlock] at hk; omega)⟩
end Go.Proofs.YtddgpgldbekamaaGreat
set_option linter.unusedSimpArgs false
set_option linter.unusedVariables false
namespace Go.Proofs.YtddgpgldbekamaaGreat
open Go.RowKit


/-- four lists of a realm, each in a block of its own -/
structure OwnsR (w : World) (base : Nat) (v0 v1 v2 v3 : Value) (r : Rm) : Prop where
  rw_ : w.ownsRow base 39 5 v0 r.ws.length (r.ws.flatMap wcells)
  rt : w.ownsRow base 73 3 v1 r.ts.length (r.ts.flatMap tcells)
  rh : w.ownsRow base 93 3 v2 r.hs.length (r.hs.flatMap hcells)
  rn : w.ownsRow base 52 4 v3 r.ns.length (r.ns.flatMap ncells)
  d01 : Dist v0 v1
  d02 : Dist v0 v2
  d03 : Dist v0 v3
  d12 : Dist v1 v2
  d13 : Dist v1 v3
  d23 : Dist v2 v3
theorem OwnsR.below {w w1 : World} {base : Nat} {v0 v1 v2 v3 : Value} {r : Rm} (h : OwnsR w base v0 v1 v2 v3 r) (hb : Below w.heap.size w w1) : OwnsR w1 base v0 v1 v2 v3 r :=
  ⟨ownsRow_after h.rw_ hb, ownsRow_after h.rt hb, ownsRow_after h.rh hb, ownsRow_after h.rn hb, h.d01, h.d02, h.d03, h.d12, h.d13, h.d23⟩
theorem OwnsR.mono {w : World} {base base' : Nat} {v0 v1 v2 v3 : Value} {r : Rm} (h : OwnsR w base v0 v1 v2 v3 r) (hle : base' ≤ base) : OwnsR w base' v0 v1 v2 v3 r :=
  ⟨ownsRow_mono h.rw_ hle, ownsRow_mono h.rt hle, ownsRow_mono h.rh hle, ownsRow_mono h.rn hle, h.d01, h.d02, h.d03, h.d12, h.d13, h.d23⟩
theorem OwnsR.at {w : World} {base : Nat} {v0 v1 v2 v3 : Value} {r : Rm} (h : OwnsR w base v0 v1 v2 v3 r) : ∃ aw at_ ah an cw ct ch cn, v0 = .slice aw r.ws.length cw ∧ v1 = .slice at_ r.ts.length ct ∧ v2 = .slice ah r.hs.length ch ∧ v3 = .slice an r.ns.length cn ∧ RmAt w aw at_ ah an cw ct ch cn r := by
  obtain ⟨a0, c0, e0, w0, f0⟩ := wrow_at h.rw_
  obtain ⟨a1, c1, e1, w1, f1⟩ := trow_at h.rt
  obtain ⟨a2, c2, e2, w2, f2⟩ := hrow_at h.rh
  obtain ⟨a3, c3, e3, w3, f3⟩ := nrow_at h.rn
  exact ⟨a0, a1, a2, a3, c0, c1, c2, c3, e0, e1, e2, e3, ⟨w0, w1, w2, w3, f0, f1, f2, f3⟩⟩
theorem OwnsR.setLow {w : World} {base : Nat} {v0 v1 v2 v3 : Value} {r : Rm} (h : OwnsR w base v0 v1 v2 v3 r) {b : Nat} (hb : b < base) (j : Nat) (u : Value) : OwnsR (w.setCell ⟨b, j, none⟩ u) base v0 v1 v2 v3 r :=
  ⟨ownsRow_setCell_below h.rw_ (a := ⟨b, j, none⟩) hb u, ownsRow_setCell_below h.rt (a := ⟨b, j, none⟩) hb u, ownsRow_setCell_below h.rh (a := ⟨b, j, none⟩) hb u, ownsRow_setCell_below h.rn (a := ⟨b, j, none⟩) hb u, h.d01, h.d02, h.d03, h.d12, h.d13, h.d23⟩
theorem OwnsR.set6 {w : World} {base : Nat} {v0 v1 v2 v3 : Value} {r : Rm} (h : OwnsR w base v0 v1 v2 v3 r) {b : Nat} (hb : b < base) (x0 x1 x2 x3 x4 x5 : Value) :
    OwnsR ((((((w.setCell ⟨b, 0, none⟩ x0).setCell ⟨b, 1, none⟩ x1).setCell ⟨b, 2, none⟩ x2).setCell ⟨b, 3, none⟩ x3).setCell ⟨b, 4, none⟩ x4).setCell ⟨b, 5, none⟩ x5) base v0 v1 v2 v3 r :=
  (((((h.setLow hb 0 x0).setLow hb 1 x1).setLow hb 2 x2).setLow hb 3 x3).setLow hb 4 x4).setLow hb 5 x5
theorem below_set6 {B : Nat} {a w : World} (h : Below B a w) {b : Nat} (hb : B ≤ b) (x0 x1 x2 x3 x4 x5 : Value) :
    Below B a ((((((w.setCell ⟨b, 0, none⟩ x0).setCell ⟨b, 1, none⟩ x1).setCell ⟨b, 2, none⟩ x2).setCell ⟨b, 3, none⟩ x3).setCell ⟨b, 4, none⟩ x4).setCell ⟨b, 5, none⟩ x5) :=
  (((((h.setCell (p := ⟨b, 0, none⟩) hb x0).setCell (p := ⟨b, 1, none⟩) hb x1).setCell (p := ⟨b, 2, none⟩) hb x2).setCell (p := ⟨b, 3, none⟩) hb x3).setCell (p := ⟨b, 4, none⟩) hb x4).setCell (p := ⟨b, 5, none⟩) hb x5
set_option maxHeartbeats 2000000 in
set_option maxRecDepth 100000 in
theorem copy_any (aw at_ ah an : Option Addr) (cw ct ch cn : Nat) (r : Rm) (w : World) (hr : RmAt w aw at_ ah an cw ct ch cn r) (hs : RmSz r) :
    Calls Tryz.prog 18 #[.agg #[.slice aw r.ws.length cw, .slice at_ r.ts.length ct, .slice ah r.hs.length ch, .slice an r.ns.length cn, .int .i64 r.nw, .int .i64 r.nt]] w fun e w' => ∃ v0 v1 v2 v3, e = .returned (.agg #[v0, v1, v2, v3, .int .i64 r.nw, .int .i64 r.nt]) ∧ OwnsR w' w.heap.size v0 v1 v2 v3 r ∧ Below w.heap.size w w' := by
  obtain ⟨hw, ht, hh, hn, -, -, -, -⟩ := hr
  obtain ⟨mw, mt, mh, mn, -, -⟩ := hs
  have bx0 := (Bx.new w [.slice aw r.ws.length cw, .slice at_ r.ts.length ct, .slice ah r.hs.length ch, .slice an r.ns.length cn, .int .i64 r.nw, .int .i64 r.nt] 30).alloc (.cells #[.slice none 0 0, .slice none 0 0, .slice none 0 0, .slice none 0 0, .int .i64 0, .int .i64 0] 30)
  have bz0 := Bx.new (w.alloc (.cells #[.slice aw r.ws.length cw, .slice at_ r.ts.length ct, .slice ah r.hs.length ch, .slice an r.ns.length cn, .int .i64 r.nw, .int .i64 r.nt] 30)) [.slice none 0 0, .slice none 0 0, .slice none 0 0, .slice none 0 0, .int .i64 0, .int .i64 0] 30
  rw [sz_alloc] at bz0
  have bl0 : Below w.heap.size w ((w.alloc (.cells #[.slice aw r.ws.length cw, .slice at_ r.ts.length ct, .slice ah r.hs.length ch, .slice an r.ns.length cn, .int .i64 r.nw, .int .i64 r.nt] 30)).alloc (.cells #[.slice none 0 0, .slice none 0 0, .slice none 0 0, .slice none 0 0, .int .i64 0, .int .i64 0] 30)) := ((Below.refl _ _).alloc (Nat.le_refl _) _).alloc (by simp) _
  go_enter Tryz.func18, Tryz.ntmps18
  go_wp2_with fail
  refine (clone_w aw cw r.ws _ (hw.below bl0) (by omega)).mono ?_
  rintro e w1 ⟨v0, rfl, ho0, hb1⟩
  obtain ⟨b0, d0, rfl, -, -⟩ := wrow_at ho0
  have bx1' := bx0.below hb1
  have bz1' := bz0.below hb1
  obtain ⟨c0, c1, c2, c3, c4, c5⟩ := bx1'.six
  obtain ⟨f0, f1, f2, f3, f4, f5⟩ := bx1'.sixF
  obtain ⟨g0, g1, g2, g3, g4, g5⟩ := bz1'.sixF
  obtain ⟨z0, z1, z2, z3, z4, z5⟩ := bz1'.six
  have bx1 := bx1'.set 0 (.slice b0 r.ws.length d0)
  have bz1 := bz1'.other (b' := w.heap.size) (by omega) 0 (.slice b0 r.ws.length d0)
  have bl1 := (Below_after bl0 hb1).setCell (p := ⟨w.heap.size, 0, none⟩) (Nat.le_refl _) (.slice b0 r.ws.length d0)
  have s1 := hb1.size
  have o0_1 := ownsRow_setCell_below ho0 (a := ⟨w.heap.size, 0, none⟩) (by first | (show w.heap.size < _; have := bx0.1; omega)) (.slice b0 r.ws.length d0)
  clear bx1' bz1' hb1 ho0
  simp only [List.set_cons_zero, List.set_cons_succ] at bx1
  go_wp2_with fail
  clear c0 c1 c2 c3 c4 c5 f0 f1 f2 f3 f4 f5 g0 g1 g2 g3 g4 g5 z0 z1 z2 z3 z4 z5
  generalize w1.setCell ⟨w.heap.size, 0, none⟩ (.slice b0 r.ws.length d0) = W1 at bx1 bz1 bl1 o0_1 ⊢
  refine (clone_t at_ ct r.ts _ (ht.below bl1) (by omega)).mono ?_
  rintro e w2 ⟨v1, rfl, ho1, hb2⟩
  obtain ⟨b1, d1, rfl, -, -⟩ := trow_at ho1
  have bx2' := bx1.below hb2
  have bz2' := bz1.below hb2
  obtain ⟨c0, c1, c2, c3, c4, c5⟩ := bx2'.six
  obtain ⟨f0, f1, f2, f3, f4, f5⟩ := bx2'.sixF
  obtain ⟨g0, g1, g2, g3, g4, g5⟩ := bz2'.sixF
  obtain ⟨z0, z1, z2, z3, z4, z5⟩ := bz2'.six
  have bx2 := bx2'.set 1 (.slice b1 r.ts.length d1)
  have bz2 := bz2'.other (b' := w.heap.size) (by omega) 1 (.slice b1 r.ts.length d1)
  have bl2 := (Below_after bl1 hb2).setCell (p := ⟨w.heap.size, 1, none⟩) (Nat.le_refl _) (.slice b1 r.ts.length d1)
  have s2 := hb2.size
  have o1_2 := ownsRow_setCell_below ho1 (a := ⟨w.heap.size, 1, none⟩) (by first | (show w.heap.size < _; have := bx1.1; omega)) (.slice b1 r.ts.length d1)
  have o0_2 := ownsRow_setCell_below (ownsRow_after o0_1 hb2) (a := ⟨w.heap.size, 1, none⟩) (by show w.heap.size < _; have := bx0.1; omega) (.slice b1 r.ts.length d1)
  clear bx2' bz2' hb2 ho1
  simp only [List.set_cons_zero, List.set_cons_succ] at bx2
  go_wp2_with fail
  clear c0 c1 c2 c3 c4 c5 f0 f1 f2 f3 f4 f5 g0 g1 g2 g3 g4 g5 z0 z1 z2 z3 z4 z5
  generalize w2.setCell ⟨w.heap.size, 1, none⟩ (.slice b1 r.ts.length d1) = W2 at bx2 bz2 bl2 o0_2 o1_2 ⊢
  refine (clone_h ah ch r.hs _ (hh.below bl2) (by omega)).mono ?_
  rintro e w3 ⟨v2, rfl, ho2, hb3⟩
  obtain ⟨b2, d2, rfl, -, -⟩ := hrow_at ho2
  have bx3' := bx2.below hb3
  have bz3' := bz2.below hb3
  obtain ⟨c0, c1, c2, c3, c4, c5⟩ := bx3'.six
  obtain ⟨f0, f1, f2, f3, f4, f5⟩ := bx3'.sixF
  obtain ⟨g0, g1, g2, g3, g4, g5⟩ := bz3'.sixF
  obtain ⟨z0, z1, z2, z3, z4, z5⟩ := bz3'.six
  have bx3 := bx3'.set 2 (.slice b2 r.hs.length d2)
  have bz3 := bz3'.other (b' := w.heap.size) (by omega) 2 (.slice b2 r.hs.length d2)
  have bl3 := (Below_after bl2 hb3).setCell (p := ⟨w.heap.size, 2, none⟩) (Nat.le_refl _) (.slice b2 r.hs.length d2)
  have s3 := hb3.size
  have o2_3 := ownsRow_setCell_below ho2 (a := ⟨w.heap.size, 2, none⟩) (by first | (show w.heap.size < _; have := bx2.1; omega)) (.slice b2 r.hs.length d2)
  have o0_3 := ownsRow_setCell_below (ownsRow_after o0_2 hb3) (a := ⟨w.heap.size, 2, none⟩) (by show w.heap.size < _; have := bx0.1; omega) (.slice b2 r.hs.length d2)
  have o1_3 := ownsRow_setCell_below (ownsRow_after o1_2 hb3) (a := ⟨w.heap.size, 2, none⟩) (by show w.heap.size < _; have := bx1.1; omega) (.slice b2 r.hs.length d2)
  clear bx3' bz3' hb3 ho2
  simp only [List.set_cons_zero, List.set_cons_succ] at bx3
  go_wp2_with fail
  clear c0 c1 c2 c3 c4 c5 f0 f1 f2 f3 f4 f5 g0 g1 g2 g3 g4 g5 z0 z1 z2 z3 z4 z5
  generalize w3.setCell ⟨w.heap.size, 2, none⟩ (.slice b2 r.hs.length d2) = W3 at bx3 bz3 bl3 o0_3 o1_3 o2_3 ⊢
  refine (clone_n an cn r.ns _ (hn.below bl3) (by omega)).mono ?_
  rintro e w4 ⟨v3, rfl, ho3, hb4⟩
  obtain ⟨b3, d3, rfl, -, -⟩ := nrow_at ho3
  have bx4' := bx3.below hb4
  have bz4' := bz3.below hb4
  obtain ⟨c0, c1, c2, c3, c4, c5⟩ := bx4'.six
  obtain ⟨f0, f1, f2, f3, f4, f5⟩ := bx4'.sixF
  obtain ⟨g0, g1, g2, g3, g4, g5⟩ := bz4'.sixF
  obtain ⟨z0, z1, z2, z3, z4, z5⟩ := bz4'.six
  have bx4 := bx4'.set 3 (.slice b3 r.ns.length d3)
  have bz4 := bz4'.other (b' := w.heap.size) (by omega) 3 (.slice b3 r.ns.length d3)
  have bl4 := (Below_after bl3 hb4).setCell (p := ⟨w.heap.size, 3, none⟩) (Nat.le_refl _) (.slice b3 r.ns.length d3)
  have s4 := hb4.size
  have o3_4 := ownsRow_setCell_below ho3 (a := ⟨w.heap.size, 3, none⟩) (by first | (show w.heap.size < _; have := bx3.1; omega)) (.slice b3 r.ns.length d3)
  have o0_4 := ownsRow_setCell_below (ownsRow_after o0_3 hb4) (a := ⟨w.heap.size, 3, none⟩) (by show w.heap.size < _; have := bx0.1; omega) (.slice b3 r.ns.length d3)
  have o1_4 := ownsRow_setCell_below (ownsRow_after o1_3 hb4) (a := ⟨w.heap.size, 3, none⟩) (by show w.heap.size < _; have := bx1.1; omega) (.slice b3 r.ns.length d3)
  have o2_4 := ownsRow_setCell_below (ownsRow_after o2_3 hb4) (a := ⟨w.heap.size, 3, none⟩) (by show w.heap.size < _; have := bx2.1; omega) (.slice b3 r.ns.length d3)
  clear bx4' bz4' hb4 ho3
  simp only [List.set_cons_zero, List.set_cons_succ] at bx4
  go_wp2_with fail
  have hO : OwnsR (w4.setCell ⟨w.heap.size, 3, none⟩ (.slice b3 r.ns.length d3)) (w.heap.size + 2) (.slice b0 r.ws.length d0) (.slice b1 r.ts.length d1) (.slice b2 r.hs.length d2) (.slice b3 r.ns.length d3) r := by
    have e0 : w.heap.size + 2 ≤ ((w.alloc (.cells #[.slice aw r.ws.length cw, .slice at_ r.ts.length ct, .slice ah r.hs.length ch, .slice an r.ns.length cn, .int .i64 r.nw, .int .i64 r.nt] 30)).alloc (.cells #[.slice none 0 0, .slice none 0 0, .slice none 0 0, .slice none 0 0, .int .i64 0, .int .i64 0] 30)).heap.size := by simp
    have e1 : w.heap.size + 2 ≤ W1.heap.size := by have := bz1.1; omega
    have e2 : w.heap.size + 2 ≤ W2.heap.size := by have := bz2.1; omega
    have e3 : w.heap.size + 2 ≤ W3.heap.size := by have := bz3.1; omega
    exact ⟨ownsRow_mono o0_4 e0, ownsRow_mono o1_4 e1, ownsRow_mono o2_4 e2, ownsRow_mono o3_4 e3, Dist.of_lt o0_1 o1_2 (Nat.le_refl _), Dist.of_lt o0_2 o2_3 (Nat.le_refl _), Dist.of_lt o0_3 o3_4 (Nat.le_refl _), Dist.of_lt o1_2 o2_3 (Nat.le_refl _), Dist.of_lt o1_3 o3_4 (Nat.le_refl _), Dist.of_lt o2_3 o3_4 (Nat.le_refl _)⟩
  obtain ⟨y0, y1, y2, y3, y4, y5⟩ := ((((((bz4.set 0 (.slice b0 r.ws.length d0)).set 1 (.slice b1 r.ts.length d1)).set 2 (.slice b2 r.hs.length d2)).set 3 (.slice b3 r.ns.length d3)).set 4 (.int .i64 r.nw)).set 5 (.int .i64 r.nt)).six
  refine bodyPost_ret (v := .agg #[.slice b0 r.ws.length d0, .slice b1 r.ts.length d1, .slice b2 r.hs.length d2, .slice b3 r.ns.length d3, .int .i64 r.nw, .int .i64 r.nt]) (by simp [results, Tryz.results18, go_sem, y0, y1, y2, y3, y4, y5]) rfl ⟨_, _, _, _, rfl, (hO.set6 (by omega) _ _ _ _ _ _).mono (by omega), below_set6 bl4 (by omega) _ _ _ _ _ _⟩
end Go.Proofs.YtddgpgldbekamaaGreat
