/- The closed fact of the Top.. statements: a cell is made (made). -/
/- A realm that has grown by acts: grown; the closed fact: made. -/
import Derived.Test.YtddgpgldbekamaaGreatDoorGrownW
import Derived.Deep.QuietTactic
import Derived.BigQuiet
import Derived.WalkSmall
import Derived.Test.YtddgpgldbekamaaGreatDoorAllPure
import Derived.Deep.RegionHeld3
set_option linter.unusedSimpArgs false
set_option linter.unnecessarySimpa false
set_option linter.unusedVariables false
namespace Go.Proofs.YtddgpgldbekamaaGreatDoor
open Go.RowKit


theorem made_c : makeC rm0 1 0 1 = 0 := by decide
theorem made_g : getC (makeR rm0 1 0 1) 1 0 = 0 := by decide
theorem made_w : getW (makeR rm0 1 0 1) 1 0 = ⟨1, 1, 7, 0, 0⟩ := rfl
theorem made_i : InvK 0 rm0 := inv_new
set_option maxHeartbeats 2000000 in
set_option maxRecDepth 100000 in
theorem made_any (w : World) : Calls Tryz.prog 22 #[] w fun e w' => e = .returned (.bool true) ∧ Below w.heap.size w w' := by
  have hI : RmI rm0 := ⟨made_i.sz (by omega), made_i.put, made_i.wf⟩
  have hI1 := inv_make made_i made_c
  go_enter Tryz.func22, Tryz.ntmps22
  go_wp2_with fail
  refine (new_any _).mono ?_
  rintro e w1 ⟨rfl, hb1⟩
  have hr0 : RmAt w1 none none none none 0 0 0 0 rm0 := ⟨.inl rfl, .inl rfl, .inl rfl, .inl rfl, by simp [Fit, rm0], by simp [Fit, rm0], by simp [Fit, rm0], by simp [Fit, rm0]⟩
  have hcon := act_make none none none none 0 0 0 0 rm0 1 0 1 w1 hr0 hI
  rw [made_c] at hcon
  change Calls _ _ #[.agg #[.slice none 0 0, .slice none 0 0, .slice none 0 0, .slice none 0 0, .int .i64 1, .int .i64 1], .agg #[.int .i64 1, .int .i64 0], .int .i64 1] _ _ at hcon
  go_wp2_with fail
  refine hcon.mono ?_
  rintro e w2 ⟨b0, b1, b2, b3, m0, m1, m2, m3, e0, e1, e2, e3, mm, nn, ev, rfl, hA, hb2⟩
  rcases hA with ⟨-, rfl, d0, d1, d2, d3, d4, d5, hat, -⟩ | ⟨hne, -⟩
  · have bl2 := Below_after hb1 hb2
    have hg := get_ok b0 b1 b2 b3 e0 e1 e2 e3 (makeR rm0 1 0 1) 1 0 (w2.alloc (.cells #[.slice b0 m0 e0, .slice b1 m1 e1, .slice b2 m2 e2, .slice b3 m3 e3, .int .i64 mm, .int .i64 nn] 32)) (hat.below ((Below.refl _ _).alloc (Nat.le_refl _) _)) (hI1.sz (by omega)) made_g
    rw [← d0, ← d1, ← d2, ← d3, ← d4, ← d5, made_w] at hg
    clear hcon hat d0 d1 d2 d3 d4 d5 hb1 hb2 hI hI1 hr0
    go_wp2_with fail
    refine hg.mono ?_
    rintro e w3 ⟨rfl, hb3⟩
    have bl3 := (Below_after (bl2.alloc bl2.size _) hb3).alloc (Below_after (bl2.alloc bl2.size _) hb3).size (.cells #[.int .i64 1, .int .i64 1, .int .i64 7, .int .i64 0, .int .i64 0] 88)
    clear hg
    go_wp2_with fail
    go_ret
    exact ⟨rfl, bl3⟩
  · exact absurd rfl hne
end Go.Proofs.YtddgpgldbekamaaGreatDoor
set_option linter.unusedSimpArgs false
set_option linter.unnecessarySimpa false
set_option linter.unusedVariables false
namespace Go.Proofs.YtddgpgldbekamaaGreatDoor
open Go.RowKit


/-- where a grown realm's lists lie: in memory of the call's own, away from two boxes -/
def OffR (n m : Nat) (a0 a1 a2 a3 : Option Addr) : Prop := (HiA n a0 ∧ HiA n a1 ∧ HiA n a2 ∧ HiA n a3) ∧ OffA n m a0 ∧ OffA n m a1 ∧ OffA n m a2 ∧ OffA n m a3
def LenR (r : Rm) (N0 N1 N2 N3 : Nat) (M N : Int) : Prop := r.ws.length = N0 ∧ r.ts.length = N1 ∧ r.hs.length = N2 ∧ r.ns.length = N3 ∧ r.nw = M ∧ r.nt = N
theorem doP_below {{aw at_ ah an : Option Addr}} {{cw ct ch cn : Nat}} {{r : Rm}} {base : Nat} {x : Ac} {w w1 : World} {a0 a1 a2 a3 : Option Addr} {n0 n1 n2 n3 c0 c1 c2 c3 : Nat} {m n : Int} {ev : Value} (h : DoP aw at_ ah an cw ct ch cn r base x w a0 a1 a2 a3 n0 n1 n2 n3 c0 c1 c2 c3 m n ev) (hb : Below w.heap.size w w1) : DoP aw at_ ah an cw ct ch cn r base x w1 a0 a1 a2 a3 n0 n1 n2 n3 c0 c1 c2 c3 m n ev := by
  rcases h with h | ⟨h1, h2, h3, h4, h5, h6, h7, h8, h9, h10, h11, h12, h13, h14, h15, h16, h17, hat⟩
  · exact .inl (h.below hb)
  · exact .inr ⟨h1, h2, h3, h4, h5, h6, h7, h8, h9, h10, h11, h12, h13, h14, h15, h16, h17, hat.below hb⟩
theorem doP_set6 {{aw at_ ah an : Option Addr}} {{cw ct ch cn : Nat}} {{r : Rm}} {base base' : Nat} {x : Ac} {w : World} {a0 a1 a2 a3 : Option Addr} {n0 n1 n2 n3 c0 c1 c2 c3 : Nat} {m n : Int} {ev : Value} (h : DoP aw at_ ah an cw ct ch cn r base x w a0 a1 a2 a3 n0 n1 n2 n3 c0 c1 c2 c3 m n ev) {z : Nat} (hz : z < base) (hp : 0 < z) (hle : base' ≤ base) (x0 x1 x2 x3 x4 x5 : Value)
    (hat : RmAt ((((((w.setCell ⟨z, 0, none⟩ x0).setCell ⟨z, 1, none⟩ x1).setCell ⟨z, 2, none⟩ x2).setCell ⟨z, 3, none⟩ x3).setCell ⟨z, 4, none⟩ x4).setCell ⟨z, 5, none⟩ x5) aw at_ ah an cw ct ch cn r) :
    DoP aw at_ ah an cw ct ch cn r base' x ((((((w.setCell ⟨z, 0, none⟩ x0).setCell ⟨z, 1, none⟩ x1).setCell ⟨z, 2, none⟩ x2).setCell ⟨z, 3, none⟩ x3).setCell ⟨z, 4, none⟩ x4).setCell ⟨z, 5, none⟩ x5) a0 a1 a2 a3 n0 n1 n2 n3 c0 c1 c2 c3 m n ev := by
  rcases h with h | ⟨h1, h2, h3, h4, h5, h6, h7, h8, h9, h10, h11, h12, h13, h14, h15, h16, h17, -⟩
  · exact .inl (h.set6 hz hp hle x0 x1 x2 x3 x4 x5)
  · exact .inr ⟨h1, h2, h3, h4, h5, h6, h7, h8, h9, h10, h11, h12, h13, h14, h15, h16, h17, hat⟩
theorem offR_hi {n m k : Nat} {a0 a1 a2 a3 : Option Addr} (h0 : HiA k a0) (h1 : HiA k a1) (h2 : HiA k a2) (h3 : HiA k a3) (hn : n + 1 < k) (hm : m < k) : OffR n m a0 a1 a2 a3 :=
  ⟨⟨h0.mono (by omega), h1.mono (by omega), h2.mono (by omega), h3.mono (by omega)⟩, off_hi h0 hn hm, off_hi h1 hn hm, off_hi h2 hn hm, off_hi h3 hn hm⟩
@[reducible] def SGv (BR b o : Nat) (v0 v1 v2 v3 v4 v5 : Value) (x : Ac) (w : World) : Prop := w.cell? ⟨BR, 0, none⟩ = some v0 ∧ w.cell? ⟨BR, 1, none⟩ = some v1 ∧ w.cell? ⟨BR, 2, none⟩ = some v2 ∧ w.cell? ⟨BR, 3, none⟩ = some v3 ∧ w.cell? ⟨BR, 4, none⟩ = some v4 ∧ w.cell? ⟨BR, 5, none⟩ = some v5 ∧ w.cell? ⟨b, o, none⟩ = some (.string x.kd) ∧ w.cell? ⟨b, o + 1, none⟩ = some (.string x.sd) ∧ w.cell? ⟨b, o + 2, none⟩ = some (.int .i64 x.ph) ∧ w.cell? ⟨b, o + 3, none⟩ = some (.int .i64 x.ps) ∧ w.cell? ⟨b, o + 4, none⟩ = some (.int .i64 x.qh) ∧ w.cell? ⟨b, o + 5, none⟩ = some (.int .i64 x.qs) ∧ w.cell? ⟨b, o + 6, none⟩ = some (.int .i64 x.aa) ∧ w.cell? ⟨b, o + 7, none⟩ = some (.int .i64 x.bb) ∧ w.cell? ⟨b, o + 8, none⟩ = some (.int .i64 x.nn) ∧ w.cell? ⟨b, o + 9, none⟩ = some (.int .u64 x.kk) ∧ w.cell? ⟨b, o + 10, none⟩ = some (.slice x.xc x.lc x.cc) ∧ BR < w.heap.size ∧ b < w.heap.size
theorem SGv_below {BR b o : Nat} {v0 v1 v2 v3 v4 v5 : Value} {x : Ac} {v w : World} (hb : Below v.heap.size v w) (h : SGv BR b o v0 v1 v2 v3 v4 v5 x v) : SGv BR b o v0 v1 v2 v3 v4 v5 x w := by
  obtain ⟨h0, h1, h2, h3, h4, h5, h6, h7, h8, h9, h10, h11, h12, h13, h14, h15, h16, z0, z1⟩ := h
  have g := (bcell hb).1
  have := hb.size
  exact ⟨by rw [g _ _ z0]; exact h0, by rw [g _ _ z0]; exact h1, by rw [g _ _ z0]; exact h2, by rw [g _ _ z0]; exact h3, by rw [g _ _ z0]; exact h4, by rw [g _ _ z0]; exact h5, by rw [g _ _ z1]; exact h6, by rw [g _ _ z1]; exact h7, by rw [g _ _ z1]; exact h8, by rw [g _ _ z1]; exact h9, by rw [g _ _ z1]; exact h10, by rw [g _ _ z1]; exact h11, by rw [g _ _ z1]; exact h12, by rw [g _ _ z1]; exact h13, by rw [g _ _ z1]; exact h14, by rw [g _ _ z1]; exact h15, by rw [g _ _ z1]; exact h16, by omega, by omega⟩
theorem SGv_set {BR b o z j : Nat} {v0 v1 v2 v3 v4 v5 u : Value} {x : Ac} {w : World} (h : SGv BR b o v0 v1 v2 v3 v4 v5 x w) (n0 : ¬ BR = z) (n1 : ¬ b = z) : SGv BR b o v0 v1 v2 v3 v4 v5 x (w.setCell ⟨z, j, none⟩ u) := by
  obtain ⟨h0, h1, h2, h3, h4, h5, h6, h7, h8, h9, h10, h11, h12, h13, h14, h15, h16, z0, z1⟩ := h
  have key : ∀ c k, ¬ c = z → (w.setCell ⟨z, j, none⟩ u).cell? ⟨c, k, none⟩ = w.cell? ⟨c, k, none⟩ := fun c k hc => World.cell?_setCell_other _ _ _ _ (by simpa using fun e => absurd e.symm hc)
  exact ⟨by rw [key _ _ n0]; exact h0, by rw [key _ _ n0]; exact h1, by rw [key _ _ n0]; exact h2, by rw [key _ _ n0]; exact h3, by rw [key _ _ n0]; exact h4, by rw [key _ _ n0]; exact h5, by rw [key _ _ n1]; exact h6, by rw [key _ _ n1]; exact h7, by rw [key _ _ n1]; exact h8, by rw [key _ _ n1]; exact h9, by rw [key _ _ n1]; exact h10, by rw [key _ _ n1]; exact h11, by rw [key _ _ n1]; exact h12, by rw [key _ _ n1]; exact h13, by rw [key _ _ n1]; exact h14, by rw [key _ _ n1]; exact h15, by rw [key _ _ n1]; exact h16, by simpa using z0, by simpa using z1⟩
set_option maxHeartbeats 2000000 in
set_option maxRecDepth 100000 in
theorem grown_no (a : Option Addr) (c : Nat) (l : List Ac) (w : World) (hw : AcsAt w a l) (hm : l.length ≤ maxLen) (hq : lacB l 80 = false) :
    Calls Tryz.prog 23 #[.slice a l.length c] w fun e w' => e = .returned (.tuple #[.agg #[.slice none 0 0, .slice none 0 0, .slice none 0 0, .slice none 0 0, .int .i64 0, .int .i64 0], .bool false]) ∧ Below w.heap.size w w' := by
  have bl0 : Below w.heap.size w (w.alloc (.cells #[.slice none 0 0, .slice none 0 0, .slice none 0 0, .slice none 0 0, .int .i64 0, .int .i64 0] 32)) := (Below.refl _ _).alloc (Nat.le_refl _) _
  have hcon := lac_any a c l 80 _ (hw.below bl0) hm (by omega) (by omega)
  rw [hq] at hcon
  clear hw
  go_enter Tryz.func23, Tryz.ntmps23
  go_wp2_with fail
  refine hcon.mono ?_
  rintro e w' ⟨rfl, hw'⟩
  rw [hw']
  clear hw' w' hcon
  go_wp2_with fail
  exact bodyPost_ret (v := .tuple #[.agg #[.slice none 0 0, .slice none 0 0, .slice none 0 0, .slice none 0 0, .int .i64 0, .int .i64 0], .bool false]) (by simp [results, Tryz.results23, go_sem]) rfl ⟨rfl, bl0⟩
theorem lac_len {l : List Ac} {most : Int} (h : lacB l most = true) : (l.length : Int) ≤ most := by
  unfold lacB at h
  simp only [Bool.and_eq_true, decide_eq_true_eq] at h
  exact h.1
set_option maxHeartbeats 2000000 in
set_option maxRecDepth 100000 in
theorem grown_yes (a : Option Addr) (c : Nat) (l : List Ac) (w : World) (hw : AcsAt w a l) (hm : l.length ≤ maxLen) (hq : lacB l 80 = true) :
    Calls Tryz.prog 23 #[.slice a l.length c] w fun e w' => ∃ (a0 a1 a2 a3 : Option Addr) (N0 N1 N2 N3 c0 c1 c2 c3 : Nat) (M N : Int), e = .returned (.tuple #[.agg #[.slice a0 N0 c0, .slice a1 N1 c1, .slice a2 N2 c2, .slice a3 N3 c3, .int .i64 M, .int .i64 N], .bool true]) ∧ LenR (growR l) N0 N1 N2 N3 M N ∧ RmAt w' a0 a1 a2 a3 c0 c1 c2 c3 (growR l) ∧ (HiA w.heap.size a0 ∧ HiA w.heap.size a1 ∧ HiA w.heap.size a2 ∧ HiA w.heap.size a3) ∧ Below w.heap.size w w' := by
  have bl0 : Below w.heap.size w (w.alloc (.cells #[.slice none 0 0, .slice none 0 0, .slice none 0 0, .slice none 0 0, .int .i64 0, .int .i64 0] 32)) := (Below.refl _ _).alloc (Nat.le_refl _) _
  have BZ0 := Bx.new w [.slice none 0 0, .slice none 0 0, .slice none 0 0, .slice none 0 0, .int .i64 0, .int .i64 0] 32
  have hcon := lac_any a c l 80 _ (hw.below bl0) hm (by omega) (by omega)
  have hlen := lac_len hq
  rw [hq] at hcon
  go_enter Tryz.func23, Tryz.ntmps23
  go_wp2_with fail
  refine hcon.mono ?_
  rintro e w' ⟨rfl, hw'⟩
  rw [hw']
  clear hw' w' hcon
  go_wp2_with fail
  refine (new_any _).mono ?_
  rintro e w1 ⟨rfl, hb1⟩
  have BZ1 := (BZ0.below hb1).alloc (.cells #[.slice none 0 0, .slice none 0 0, .slice none 0 0, .slice none 0 0, .int .i64 1, .int .i64 1] 32)
  have bl1 := (Below_after bl0 hb1).alloc (Below_after bl0 hb1).size (.cells #[.slice none 0 0, .slice none 0 0, .slice none 0 0, .slice none 0 0, .int .i64 1, .int .i64 1] 32)
  have BR1 := Bx.new w1 [.slice none 0 0, .slice none 0 0, .slice none 0 0, .slice none 0 0, .int .i64 1, .int .i64 1] 32
  have hlo : w.heap.size < w1.heap.size := (BZ0.below hb1).1
  clear BZ0 bl0 hb1
  go_wp2_with fail
  generalize w1.alloc (.cells #[.slice none 0 0, .slice none 0 0, .slice none 0 0, .slice none 0 0, .int .i64 1, .int .i64 1] 32) = W1 at *
  generalize w1.heap.size = BR at *
  go_loopw [5, 6, 7] (fun i _ _ wr => ∃ k : Nat, k ≤ l.length ∧ i = .int .i64 k ∧ ∃ (a0 a1 a2 a3 : Option Addr) (N0 N1 N2 N3 c0 c1 c2 c3 : Nat) (M N : Int), Hid (LenR (growR (l.take k)) N0 N1 N2 N3 M N) ∧ Hid (RmAt wr a0 a1 a2 a3 c0 c1 c2 c3 (growR (l.take k))) ∧ Hid (OffR w.heap.size BR a0 a1 a2 a3) ∧ Bx wr BR [.slice a0 N0 c0, .slice a1 N1 c1, .slice a2 N2 c2, .slice a3 N3 c3, .int .i64 M, .int .i64 N] ∧ Bx wr w.heap.size [.slice none 0 0, .slice none 0 0, .slice none 0 0, .slice none 0 0, .int .i64 0, .int .i64 0] ∧ Below w.heap.size w wr) (fun i _ _ _ => l.length - (intOf i).toNat)
  case atStart =>
    refine ⟨0, Nat.zero_le _, rfl, none, none, none, none, 0, 0, 0, 0, 0, 0, 0, 0, 1, 1, ?_, ?_, ?_, BR1, BZ1, bl1⟩
    · show LenR _ _ _ _ _ _ _
      exact ⟨rfl, rfl, rfl, rfl, rfl, rfl⟩
    · show RmAt _ _ _ _ _ _ _ _ _ _
      exact ⟨.inl rfl, .inl rfl, .inl rfl, .inl rfl, by simp [Fit, growR, rm0], by simp [Fit, growR, rm0], by simp [Fit, growR, rm0], by simp [Fit, growR, rm0]⟩
    · show OffR _ _ _ _ _ _
      exact ⟨⟨fun ad h => (by cases h), fun ad h => (by cases h), fun ad h => (by cases h), fun ad h => (by cases h)⟩, fun ad h => (by cases h), fun ad h => (by cases h), fun ad h => (by cases h), fun ad h => (by cases h)⟩
  case round =>
    obtain ⟨k, hk, rfl, a0, a1, a2, a3, N0, N1, N2, N3, c0, c1, c2, c3, M, N, HLn, HAt, HOf, BRr, BZr, blr⟩ := hrel
    clear BR1 BZ1 bl1
    by_cases hlt : k < l.length
    · obtain ⟨x, hx⟩ : ∃ x, l[k]? = some x := ⟨l[k], List.getElem?_eq_getElem hlt⟩
      obtain ⟨b, o, rfl, hb, hc⟩ := hw.resolve_left (by rintro rfl; simp at hlt)
      obtain ⟨⟨q0, q1, q2, q3, q4, q5, q6, q7, q8, q9, q10⟩, z0, -, -, -⟩ := (hc k x hx).below blr hb
      have hi := inv_grow l k (by omega)
      have hG := grow_snoc l k x hx
      have hI : RmI (growR (l.take k)) := ⟨hi.sz (by omega), hi.put, hi.wf⟩
      obtain ⟨l0, l1, l2, l3, l4, l5⟩ := HLn.out
      have hcon := fun (W : World) (hW : Below wr.heap.size wr W) => do_any a0 a1 a2 a3 c0 c1 c2 c3 (growR (l.take k)) x W (HAt.out.below hW) hI z0
      rw [l0, l1, l2, l3, l4, l5] at hcon
      have hbz : b < wr.heap.size := Nat.lt_of_lt_of_le hb blr.size
      have hBRz := BRr.1
      have hZz := BZr.1
      have hne : ¬ BR = w.heap.size := by omega
      obtain ⟨g0, g1, g2, g3, g4, g5⟩ := BRr.six
      unfold maxLen at hm
      clear hc hx hi z0 l0 l1 l2 l3 l4 l5 hw
      have sg0 : SGv BR b (o + k * 11) (.slice a0 N0 c0) (.slice a1 N1 c1) (.slice a2 N2 c2) (.slice a3 N3 c3) (.int .i64 M) (.int .i64 N) x wr := ⟨g0, g1, g2, g3, g4, g5, q0, q1, q2, q3, q4, q5, q6, q7, q8, q9, q10, hBRz, hbz⟩
      clear q0 q1 q2 q3 q4 q5 q6 q7 q8 q9 q10 g0 g1 g2 g3 g4 g5
      go_wp2_with fail
      refine wp_region_held_drew (S := SGv BR b (o + k * 11) (.slice a0 N0 c0) (.slice a1 N1 c1) (.slice a2 N2 c2) (.slice a3 N3 c3) (.int .i64 M) (.int .i64 N) x) (by kernel_rfl) ?_ (fun hHeld => ?_)
      · exact SGv_below ((Below.refl _ _).drew) sg0
      refine tkI 0 (.agg #[.slice a0 N0 c0, .slice a1 N1 c1, .slice a2 N2 c2, .slice a3 N3 c3, .int .i64 M, .int .i64 N]) rfl ?_
      refine tkI 1 (.slice (some ⟨b, o, none⟩) l.length c) rfl ?_
      refine tkI 2 (.int .i64 (k : Int)) rfl ?_
      refine tkI 3 (.pointer (some ⟨b, o + k * 11, none⟩)) rfl ?_
      refine tkI 4 (.agg #[.string x.kd, .string x.sd, .int .i64 x.ph, .int .i64 x.ps, .int .i64 x.qh, .int .i64 x.qs, .int .i64 x.aa, .int .i64 x.bb, .int .i64 x.nn, .int .u64 x.kk, .slice x.xc x.lc x.cc]) rfl ?_
      refine rdJ 5 9 rfl rfl (fun K hK => ?_) (fun K hK => ?_)
      · go_wp2_with (go_at_call 11; refine (hcon _ ((Below.refl _ _).drew)).mono ?_; rintro e w2 ⟨b0, b1, b2, b3, m0, m1, m2, m3, e0, e1, e2, e3, mm, nn, ev, rfl, hD, hb2⟩)
        refine hK.out _ _ ?_ (fun hHeld => ?_)
        · exact SGv_below hb2 (by assumption)
        clear hK K
        (try simp only [Act.put, List.setIfInBounds_toArray, List.set_cons_zero, List.set_cons_succ])
        refine tkI 6 (.tuple #[.agg #[.slice b0 m0 e0, .slice b1 m1 e1, .slice b2 m2 e2, .slice b3 m3 e3, .int .i64 mm, .int .i64 nn], ev]) rfl ?_
        refine tkI 7 (.agg #[.slice b0 m0 e0, .slice b1 m1 e1, .slice b2 m2 e2, .slice b3 m3 e3, .int .i64 mm, .int .i64 nn]) rfl ?_
        refine tkI 8 (ev) rfl ?_
        refine rdI 9 rfl (fun K hK => ?_)
        go_wp2_with fail
        refine hK.out _ _ ?_ (fun hHeld => ?_)
        · exact SGv_below ((Below.refl _ _).alloc (Nat.le_refl _) _) (by assumption)
        clear hK K
        (try simp only [Act.put, List.setIfInBounds_toArray, List.set_cons_zero, List.set_cons_succ])
        have hbr2 : Below wr.heap.size wr w2 := Below_after ((Below.refl _ _).drew) hb2
        have BX2 := Bx.new w2 [.slice none 0 0, .slice none 0 0, .slice none 0 0, .slice none 0 0, .int .i64 0, .int .i64 0] 32
        obtain ⟨x0, x1, x2, x3, x4, x5⟩ := BX2.six
        obtain ⟨y0, y1, y2, y3, y4, y5⟩ := BX2.sixF
        have hzw := hbr2.size
        have HSg : Hid (SGv BR b (o + k * 11) (.slice a0 N0 c0) (.slice a1 N1 c1) (.slice a2 N2 c2) (.slice a3 N3 c3) (.int .i64 M) (.int .i64 N) x w2) := SGv_below hbr2 (by exact sg0)
        refine rdI 10 rfl (fun K hK => ?_)
        go_wp2_with fail
        refine hK.out _ _ ?_ (fun hHeld => ?_)
        · exact SGv_below ((Below.refl _ _).alloc (Nat.le_refl _) _) HSg.out
        clear hK K
        (try simp only [Act.put, List.setIfInBounds_toArray, List.set_cons_zero, List.set_cons_succ])
        refine rdI 11 rfl (fun K hK => ?_)
        go_wp2_with fail
        refine hK.out _ _ ?_ (fun hHeld => ?_)
        · assumption
        clear hK K
        (try simp only [Act.put, List.setIfInBounds_toArray, List.set_cons_zero, List.set_cons_succ])
        refine wpAnyH_done (by kernel_rfl) ?_ _
        have hbr3 : Below wr.heap.size wr (w2.alloc (.cells #[.slice b0 m0 e0, .slice b1 m1 e1, .slice b2 m2 e2, .slice b3 m3 e3, .int .i64 mm, .int .i64 nn] 32)) := hbr2.alloc hzw _
        have BX3 := Bx.new w2 [.slice b0 m0 e0, .slice b1 m1 e1, .slice b2 m2 e2, .slice b3 m3 e3, .int .i64 mm, .int .i64 nn] 32
        have hD3 : DoP a0 a1 a2 a3 c0 c1 c2 c3 (growR (l.take k)) wr.heap.size x (w2.alloc (.cells #[.slice b0 m0 e0, .slice b1 m1 e1, .slice b2 m2 e2, .slice b3 m3 e3, .int .i64 mm, .int .i64 nn] 32)) b0 b1 b2 b3 m0 m1 m2 m3 e0 e1 e2 e3 mm nn ev := doP_below hD ((Below.refl _ _).alloc (Nat.le_refl _) _)
        clear hD x0 x1 x2 x3 x4 x5 y0 y1 y2 y3 y4 y5 BX2 HSg
        generalize w2.alloc (.cells #[.slice b0 m0 e0, .slice b1 m1 e1, .slice b2 m2 e2, .slice b3 m3 e3, .int .i64 mm, .int .i64 nn] 32) = w3 at *
        generalize w2.heap.size = xb at *
        have BR3 := BRr.below hbr3
        have BZ3 := BZr.below hbr3
        have bl3 := Below_after blr hbr3
        have hatr3 := HAt.out.below hbr3
        obtain ⟨g0, g1, g2, g3, g4, g5⟩ := BR3.six
        obtain ⟨f0, f1, f2, f3, f4, f5⟩ := BR3.sixF
        obtain ⟨x0, x1, x2, x3, x4, x5⟩ := BX3.six
        have hz3 := BR3.1
        have hzz3 := BZ3.1
        have hzx3 := BX3.1
        rcases hD3 with (⟨hC, rfl, d0, d1, d2, d3, d4, d5, hat3, i0, i1, i2, i3⟩ | ⟨hC, rfl, rfl, rfl, rfl, rfl, rfl, rfl, rfl, rfl, rfl, rfl, rfl, rfl, rfl, rfl⟩) | ⟨hC, hR, rfl, rfl, rfl, rfl, rfl, d0, d1, d2, d3, rfl, rfl, rfl, rfl, d4, d5, -⟩
        · have HG : Hid (growR (l.take (k + 1)) = doR (growR (l.take k)) x) := by show _ = _; rw [hG]; unfold stepR; rw [if_pos hC]
          have hlen2 : Hid (LenR (doR (growR (l.take k)) x) m0 m1 m2 m3 mm nn) := ⟨d0.symm, d1.symm, d2.symm, d3.symm, d4.symm, d5.symm⟩
          have o2 : OffR w.heap.size BR b0 b1 b2 b3 := offR_hi i0 i1 i2 i3 (by omega) hBRz
          clear d0 d1 d2 d3 d4 d5 i0 i1 i2 i3 hG hC hatr3
          go_wp2_with fail
          have BR4 := BR3.put6 (.slice b0 m0 e0) (.slice b1 m1 e1) (.slice b2 m2 e2) (.slice b3 m3 e3) (.int .i64 mm) (.int .i64 nn)
          have BZ4 := BZ3.past6 (b' := BR) (by omega) (.slice b0 m0 e0) (.slice b1 m1 e1) (.slice b2 m2 e2) (.slice b3 m3 e3) (.int .i64 mm) (.int .i64 nn)
          have bl4 := below_set6 bl3 (b := BR) (by omega) (.slice b0 m0 e0) (.slice b1 m1 e1) (.slice b2 m2 e2) (.slice b3 m3 e3) (.int .i64 mm) (.int .i64 nn)
          have hat4 := hat3.setB6 o2.2.1 o2.2.2.1 o2.2.2.2.1 o2.2.2.2.2 (b := BR) (.inr (.inr rfl)) (.slice b0 m0 e0) (.slice b1 m1 e1) (.slice b2 m2 e2) (.slice b3 m3 e3) (.int .i64 mm) (.int .i64 nn)
          go_roundw
          case rel => exact ⟨k + 1, by omega, by go_num, b0, b1, b2, b3, m0, m1, m2, m3, e0, e1, e2, e3, mm, nn, (show Hid (LenR _ _ _ _ _ _ _) by show LenR _ _ _ _ _ _ _; rw [HG.out]; exact hlen2.out), (show Hid (RmAt _ _ _ _ _ _ _ _ _ _) by show RmAt _ _ _ _ _ _ _ _ _ _; rw [HG.out]; exact hat4), o2, BR4, BZ4, bl4⟩
          case measure => simp [intOf]; omega
        · have HG : Hid (growR (l.take (k + 1)) = growR (l.take k)) := by show _ = _; rw [hG]; unfold stepR; rw [if_neg hC]
          generalize doC (growR (l.take k)) x = CC at *
          clear hG
          go_wp2_with fail
          go_roundw
          case rel => exact ⟨k + 1, by omega, by go_num, a0, a1, a2, a3, N0, N1, N2, N3, c0, c1, c2, c3, M, N, (show Hid (LenR _ _ _ _ _ _ _) by show LenR _ _ _ _ _ _ _; rw [HG.out]; exact HLn.out), (show Hid (RmAt _ _ _ _ _ _ _ _ _ _) by show RmAt _ _ _ _ _ _ _ _ _ _; rw [HG.out]; exact hatr3), HOf, BR3, BZ3, bl3⟩
          case measure => simp [intOf]; omega
        · have HG : Hid (growR (l.take (k + 1)) = growR (l.take k)) := by show _ = _; rw [hG]; unfold stepR; rw [if_pos hC, hR]
          have hlen2 : Hid (LenR (growR (l.take k)) m0 m1 m2 m3 mm nn) := ⟨d0.symm, d1.symm, d2.symm, d3.symm, d4.symm, d5.symm⟩
          have o2 : OffR w.heap.size BR b0 b1 b2 b3 := HOf.out
          have hat3 := hatr3
          clear d0 d1 d2 d3 d4 d5 hG hC hR hatr3
          go_wp2_with fail
          have BR4 := BR3.put6 (.slice b0 m0 e0) (.slice b1 m1 e1) (.slice b2 m2 e2) (.slice b3 m3 e3) (.int .i64 mm) (.int .i64 nn)
          have BZ4 := BZ3.past6 (b' := BR) (by omega) (.slice b0 m0 e0) (.slice b1 m1 e1) (.slice b2 m2 e2) (.slice b3 m3 e3) (.int .i64 mm) (.int .i64 nn)
          have bl4 := below_set6 bl3 (b := BR) (by omega) (.slice b0 m0 e0) (.slice b1 m1 e1) (.slice b2 m2 e2) (.slice b3 m3 e3) (.int .i64 mm) (.int .i64 nn)
          have hat4 := hat3.setB6 o2.2.1 o2.2.2.1 o2.2.2.2.1 o2.2.2.2.2 (b := BR) (.inr (.inr rfl)) (.slice b0 m0 e0) (.slice b1 m1 e1) (.slice b2 m2 e2) (.slice b3 m3 e3) (.int .i64 mm) (.int .i64 nn)
          go_roundw
          case rel => exact ⟨k + 1, by omega, by go_num, b0, b1, b2, b3, m0, m1, m2, m3, e0, e1, e2, e3, mm, nn, (show Hid (LenR _ _ _ _ _ _ _) by show LenR _ _ _ _ _ _ _; rw [HG.out]; exact hlen2.out), (show Hid (RmAt _ _ _ _ _ _ _ _ _ _) by show RmAt _ _ _ _ _ _ _ _ _ _; rw [HG.out]; exact hat4), o2, BR4, BZ4, bl4⟩
          case measure => simp [intOf]; omega
      · go_wp2_with fail
        refine hK.out _ _ ?_ (fun hHeld => ?_)
        · exact SGv_below ((Below.refl _ _).alloc (Nat.le_refl _) _) (by assumption)
        clear hK K
        (try simp only [Act.put, List.setIfInBounds_toArray, List.set_cons_zero, List.set_cons_succ])
        have bA : Below wr.heap.size wr (wr.drew.alloc (.cells #[.slice none 0 0, .slice none 0 0, .slice none 0 0, .slice none 0 0, .int .i64 0, .int .i64 0] 32)) := ((Below.refl _ _).drew).alloc (Nat.le_refl _) _
        have BXa := Bx.new wr.drew [.slice none 0 0, .slice none 0 0, .slice none 0 0, .slice none 0 0, .int .i64 0, .int .i64 0] 32
        refine rdI 5 rfl (fun K hK => ?_)
        go_wp2_with (go_at_call 11; refine (hcon _ bA).mono ?_; rintro e w2 ⟨b0, b1, b2, b3, m0, m1, m2, m3, e0, e1, e2, e3, mm, nn, ev, rfl, hD, hb2⟩)
        refine hK.out _ _ ?_ (fun hHeld => ?_)
        · exact SGv_below hb2 (by assumption)
        clear hK K
        (try simp only [Act.put, List.setIfInBounds_toArray, List.set_cons_zero, List.set_cons_succ])
        refine tkI 6 (.tuple #[.agg #[.slice b0 m0 e0, .slice b1 m1 e1, .slice b2 m2 e2, .slice b3 m3 e3, .int .i64 mm, .int .i64 nn], ev]) rfl ?_
        refine tkI 7 (.agg #[.slice b0 m0 e0, .slice b1 m1 e1, .slice b2 m2 e2, .slice b3 m3 e3, .int .i64 mm, .int .i64 nn]) rfl ?_
        refine tkI 8 (ev) rfl ?_
        have hbr2 : Below wr.heap.size wr w2 := bA.trans (hb2.mono (by simp))
        have BX2 := BXa.below hb2
        replace BX2 : Bx w2 wr.heap.size [.slice none 0 0, .slice none 0 0, .slice none 0 0, .slice none 0 0, .int .i64 0, .int .i64 0] := BX2
        obtain ⟨x0, x1, x2, x3, x4, x5⟩ := BX2.six
        obtain ⟨y0, y1, y2, y3, y4, y5⟩ := BX2.sixF
        have hzx := BX2.1
        have hnR : ¬ BR = wr.heap.size := by omega
        have hnb : ¬ b = wr.heap.size := by omega
        have HSg : Hid (SGv BR b (o + k * 11) (.slice a0 N0 c0) (.slice a1 N1 c1) (.slice a2 N2 c2) (.slice a3 N3 c3) (.int .i64 M) (.int .i64 N) x w2) := SGv_below hbr2 (by exact sg0)
        refine rdI 10 rfl (fun K hK => ?_)
        go_wp2_with fail
        refine hK.out _ _ ?_ (fun hHeld => ?_)
        · exact SGv_set (SGv_set (SGv_set (SGv_set (SGv_set (SGv_set HSg.out hnR hnb) hnR hnb) hnR hnb) hnR hnb) hnR hnb) hnR hnb
        clear hK K
        (try simp only [Act.put, List.setIfInBounds_toArray, List.set_cons_zero, List.set_cons_succ])
        refine rdI 11 rfl (fun K hK => ?_)
        go_wp2_with fail
        refine hK.out _ _ ?_ (fun hHeld => ?_)
        · assumption
        clear hK K
        (try simp only [Act.put, List.setIfInBounds_toArray, List.set_cons_zero, List.set_cons_succ])
        refine wpAnyH_done (by kernel_rfl) ?_ _
        have hbr3 := below_set6 hbr2 (b := wr.heap.size) (Nat.le_refl _) (.slice b0 m0 e0) (.slice b1 m1 e1) (.slice b2 m2 e2) (.slice b3 m3 e3) (.int .i64 mm) (.int .i64 nn)
        have BX3 := BX2.put6 (.slice b0 m0 e0) (.slice b1 m1 e1) (.slice b2 m2 e2) (.slice b3 m3 e3) (.int .i64 mm) (.int .i64 nn)
        have hD3 : DoP a0 a1 a2 a3 c0 c1 c2 c3 (growR (l.take k)) wr.heap.size x _ b0 b1 b2 b3 m0 m1 m2 m3 e0 e1 e2 e3 mm nn ev := doP_set6 (z := wr.heap.size) hD (by simp) (by omega) (by simp) (.slice b0 m0 e0) (.slice b1 m1 e1) (.slice b2 m2 e2) (.slice b3 m3 e3) (.int .i64 mm) (.int .i64 nn) (HAt.out.below hbr3)
        clear hD x0 x1 x2 x3 x4 x5 y0 y1 y2 y3 y4 y5 BX2 BXa HSg bA
        generalize ((((((w2.setCell ⟨wr.heap.size, 0, none⟩ (.slice b0 m0 e0)).setCell ⟨wr.heap.size, 1, none⟩ (.slice b1 m1 e1)).setCell ⟨wr.heap.size, 2, none⟩ (.slice b2 m2 e2)).setCell ⟨wr.heap.size, 3, none⟩ (.slice b3 m3 e3)).setCell ⟨wr.heap.size, 4, none⟩ (.int .i64 mm)).setCell ⟨wr.heap.size, 5, none⟩ (.int .i64 nn)) = w3 at *
        have BR3 := BRr.below hbr3
        have BZ3 := BZr.below hbr3
        have bl3 := Below_after blr hbr3
        have hatr3 := HAt.out.below hbr3
        obtain ⟨g0, g1, g2, g3, g4, g5⟩ := BR3.six
        obtain ⟨f0, f1, f2, f3, f4, f5⟩ := BR3.sixF
        obtain ⟨x0, x1, x2, x3, x4, x5⟩ := BX3.six
        have hz3 := BR3.1
        have hzz3 := BZ3.1
        have hzx3 := BX3.1
        rcases hD3 with (⟨hC, rfl, d0, d1, d2, d3, d4, d5, hat3, i0, i1, i2, i3⟩ | ⟨hC, rfl, rfl, rfl, rfl, rfl, rfl, rfl, rfl, rfl, rfl, rfl, rfl, rfl, rfl, rfl⟩) | ⟨hC, hR, rfl, rfl, rfl, rfl, rfl, d0, d1, d2, d3, rfl, rfl, rfl, rfl, d4, d5, -⟩
        · have HG : Hid (growR (l.take (k + 1)) = doR (growR (l.take k)) x) := by show _ = _; rw [hG]; unfold stepR; rw [if_pos hC]
          have hlen2 : Hid (LenR (doR (growR (l.take k)) x) m0 m1 m2 m3 mm nn) := ⟨d0.symm, d1.symm, d2.symm, d3.symm, d4.symm, d5.symm⟩
          have o2 : OffR w.heap.size BR b0 b1 b2 b3 := offR_hi i0 i1 i2 i3 (by omega) hBRz
          clear d0 d1 d2 d3 d4 d5 i0 i1 i2 i3 hG hC hatr3
          go_wp2_with fail
          have BR4 := BR3.put6 (.slice b0 m0 e0) (.slice b1 m1 e1) (.slice b2 m2 e2) (.slice b3 m3 e3) (.int .i64 mm) (.int .i64 nn)
          have BZ4 := BZ3.past6 (b' := BR) (by omega) (.slice b0 m0 e0) (.slice b1 m1 e1) (.slice b2 m2 e2) (.slice b3 m3 e3) (.int .i64 mm) (.int .i64 nn)
          have bl4 := below_set6 bl3 (b := BR) (by omega) (.slice b0 m0 e0) (.slice b1 m1 e1) (.slice b2 m2 e2) (.slice b3 m3 e3) (.int .i64 mm) (.int .i64 nn)
          have hat4 := hat3.setB6 o2.2.1 o2.2.2.1 o2.2.2.2.1 o2.2.2.2.2 (b := BR) (.inr (.inr rfl)) (.slice b0 m0 e0) (.slice b1 m1 e1) (.slice b2 m2 e2) (.slice b3 m3 e3) (.int .i64 mm) (.int .i64 nn)
          go_roundw
          case rel => exact ⟨k + 1, by omega, by go_num, b0, b1, b2, b3, m0, m1, m2, m3, e0, e1, e2, e3, mm, nn, (show Hid (LenR _ _ _ _ _ _ _) by show LenR _ _ _ _ _ _ _; rw [HG.out]; exact hlen2.out), (show Hid (RmAt _ _ _ _ _ _ _ _ _ _) by show RmAt _ _ _ _ _ _ _ _ _ _; rw [HG.out]; exact hat4), o2, BR4, BZ4, bl4⟩
          case measure => simp [intOf]; omega
        · have HG : Hid (growR (l.take (k + 1)) = growR (l.take k)) := by show _ = _; rw [hG]; unfold stepR; rw [if_neg hC]
          generalize doC (growR (l.take k)) x = CC at *
          clear hG
          go_wp2_with fail
          go_roundw
          case rel => exact ⟨k + 1, by omega, by go_num, a0, a1, a2, a3, N0, N1, N2, N3, c0, c1, c2, c3, M, N, (show Hid (LenR _ _ _ _ _ _ _) by show LenR _ _ _ _ _ _ _; rw [HG.out]; exact HLn.out), (show Hid (RmAt _ _ _ _ _ _ _ _ _ _) by show RmAt _ _ _ _ _ _ _ _ _ _; rw [HG.out]; exact hatr3), HOf, BR3, BZ3, bl3⟩
          case measure => simp [intOf]; omega
        · have HG : Hid (growR (l.take (k + 1)) = growR (l.take k)) := by show _ = _; rw [hG]; unfold stepR; rw [if_pos hC, hR]
          have hlen2 : Hid (LenR (growR (l.take k)) m0 m1 m2 m3 mm nn) := ⟨d0.symm, d1.symm, d2.symm, d3.symm, d4.symm, d5.symm⟩
          have o2 : OffR w.heap.size BR b0 b1 b2 b3 := HOf.out
          have hat3 := hatr3
          clear d0 d1 d2 d3 d4 d5 hG hC hR hatr3
          go_wp2_with fail
          have BR4 := BR3.put6 (.slice b0 m0 e0) (.slice b1 m1 e1) (.slice b2 m2 e2) (.slice b3 m3 e3) (.int .i64 mm) (.int .i64 nn)
          have BZ4 := BZ3.past6 (b' := BR) (by omega) (.slice b0 m0 e0) (.slice b1 m1 e1) (.slice b2 m2 e2) (.slice b3 m3 e3) (.int .i64 mm) (.int .i64 nn)
          have bl4 := below_set6 bl3 (b := BR) (by omega) (.slice b0 m0 e0) (.slice b1 m1 e1) (.slice b2 m2 e2) (.slice b3 m3 e3) (.int .i64 mm) (.int .i64 nn)
          have hat4 := hat3.setB6 o2.2.1 o2.2.2.1 o2.2.2.2.1 o2.2.2.2.2 (b := BR) (.inr (.inr rfl)) (.slice b0 m0 e0) (.slice b1 m1 e1) (.slice b2 m2 e2) (.slice b3 m3 e3) (.int .i64 mm) (.int .i64 nn)
          go_roundw
          case rel => exact ⟨k + 1, by omega, by go_num, b0, b1, b2, b3, m0, m1, m2, m3, e0, e1, e2, e3, mm, nn, (show Hid (LenR _ _ _ _ _ _ _) by show LenR _ _ _ _ _ _ _; rw [HG.out]; exact hlen2.out), (show Hid (RmAt _ _ _ _ _ _ _ _ _ _) by show RmAt _ _ _ _ _ _ _ _ _ _; rw [HG.out]; exact hat4), o2, BR4, BZ4, bl4⟩
          case measure => simp [intOf]; omega
    · have e : l.take k = l := List.take_of_length_le (by omega)
      have h1 := HLn.out
      have h2 := HAt.out
      rw [e] at h1 h2
      have hne : ¬ BR = w.heap.size := by omega
      obtain ⟨hh, o0, o1, o2, o3⟩ := HOf.out
      obtain ⟨g0, g1, g2, g3, g4, g5⟩ := BRr.six
      obtain ⟨y0, y1, y2, y3, y4, y5⟩ := BZr.six
      obtain ⟨f0, f1, f2, f3, f4, f5⟩ := BZr.sixF
      have hBRz := BRr.1
      have hZz := BZr.1
      have H1 : Hid (LenR (growR l) N0 N1 N2 N3 M N) := h1
      have h3 := h2.setB6 o0 o1 o2 o3 (b := w.heap.size) (.inl rfl) (.slice a0 N0 c0) (.slice a1 N1 c1) (.slice a2 N2 c2) (.slice a3 N3 c3) (.int .i64 M) (.int .i64 N)
      have H3 : Hid (RmAt _ _ _ _ _ _ _ _ _ _) := h3
      clear hw e h1 h2 h3 HLn HAt HOf
      go_wp2_with fail
      obtain ⟨x0, x1, x2, x3, x4, x5⟩ := (BZr.put6 (.slice a0 N0 c0) (.slice a1 N1 c1) (.slice a2 N2 c2) (.slice a3 N3 c3) (.int .i64 M) (.int .i64 N)).six
      have blF := below_set6 blr (b := w.heap.size) (Nat.le_refl _) (.slice a0 N0 c0) (.slice a1 N1 c1) (.slice a2 N2 c2) (.slice a3 N3 c3) (.int .i64 M) (.int .i64 N)
      refine bodyPost_ret (v := .tuple #[.agg #[.slice a0 N0 c0, .slice a1 N1 c1, .slice a2 N2 c2, .slice a3 N3 c3, .int .i64 M, .int .i64 N], .bool true]) (by simp [results, Tryz.results23, go_sem, x0, x1, x2, x3, x4, x5]) rfl ?_
      exact ⟨a0, a1, a2, a3, N0, N1, N2, N3, c0, c1, c2, c3, M, N, rfl, H1.out, H3.out, hh, blF⟩
end Go.Proofs.YtddgpgldbekamaaGreatDoor
