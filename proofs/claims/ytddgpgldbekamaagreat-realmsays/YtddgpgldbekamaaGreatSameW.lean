/- SameWrits, SameHeld, SameRealm where both are the same data. -/
import Derived.Test.YtddgpgldbekamaaGreatCloneW
import Derived.Deep.QuietTactic
import Derived.BigQuiet
import Derived.WalkSmall
set_option linter.unusedSimpArgs false
set_option linter.unnecessarySimpa false
set_option linter.unusedVariables false
namespace Go.Proofs.YtddgpgldbekamaaGreat
open Go.RowKit

set_option maxHeartbeats 2000000 in
set_option maxRecDepth 100000 in
theorem sw_same (a1 a2 : Option Addr) (c1 c2 : Nat) (l : List Wr) (w : World) (h1 : WrsAt w a1 l) (h2 : WrsAt w a2 l) (hm : l.length ≤ 1000) :
    Calls Tryz.prog 38 #[.slice a1 l.length c1, .slice a2 l.length c2] w fun e w' => e = .returned (.bool true) ∧ ∃ m, w' = w.drewN m := by
  by_cases h0 : l = []
  · subst h0
    go_enter Tryz.func38, Tryz.ntmps38
    go_wp2
    refine wp_loop_rounds 1 ?_
    rw [rounds_succ]
    go_wp2
    go_ret
    exact ⟨rfl, 0, rfl⟩
  · obtain ⟨b1, o1, rfl, hb1, hc1⟩ := h1.resolve_left h0
    obtain ⟨b2, o2, rfl, hb2, hc2⟩ := h2.resolve_left h0
    clear h1 h2 h0
    go_enter Tryz.func38, Tryz.ntmps38
    go_wp2
    go_loopw [5] (fun i wr => ∃ k : Nat, k ≤ l.length ∧ i = .int .i64 k ∧ ∃ m, wr = w.drewN m) (fun i _ => l.length - (intOf i).toNat)
    case atStart => exact ⟨0, Nat.zero_le _, rfl, 0, rfl⟩
    case round =>
      obtain ⟨k, hk, rfl, m, rfl⟩ := hrel
      by_cases hlt : k < l.length
      · obtain ⟨x, hx⟩ : ∃ x, l[k]? = some x := ⟨l[k], List.getElem?_eq_getElem hlt⟩
        obtain ⟨q0, q1, q2, q3, q4⟩ := hc1 k x hx
        obtain ⟨p0, p1, p2, p3, p4⟩ := hc2 k x hx
        clear hc1 hc2 hx
        go_wp2_with fail
        go_quiet (fail)
        go_wp2_with fail
        go_roundw
        case rel => exact ⟨k + 1, by omega, by go_num, m + _, rfl⟩
        case measure => simp [intOf]; omega
      · clear hc1 hc2
        go_wp2_with fail
        go_ret
        exact ⟨rfl, m, rfl⟩
set_option maxHeartbeats 2000000 in
set_option maxRecDepth 100000 in
theorem sh_same (a1 a2 : Option Addr) (c1 c2 : Nat) (l : List Hd) (w : World) (h1 : HdsAt w a1 l) (h2 : HdsAt w a2 l) (hm : l.length ≤ 1000) :
    Calls Tryz.prog 39 #[.slice a1 l.length c1, .slice a2 l.length c2] w fun e w' => e = .returned (.bool true) ∧ ∃ m, w' = w.drewN m := by
  by_cases h0 : l = []
  · subst h0
    go_enter Tryz.func39, Tryz.ntmps39
    go_wp2
    refine wp_loop_rounds 1 ?_
    rw [rounds_succ]
    go_wp2
    go_ret
    exact ⟨rfl, 0, rfl⟩
  · obtain ⟨b1, o1, rfl, hb1, hc1⟩ := h1.resolve_left h0
    obtain ⟨b2, o2, rfl, hb2, hc2⟩ := h2.resolve_left h0
    clear h1 h2 h0
    go_enter Tryz.func39, Tryz.ntmps39
    go_wp2
    go_loopw [5] (fun i wr => ∃ k : Nat, k ≤ l.length ∧ i = .int .i64 k ∧ ∃ m, wr = w.drewN m) (fun i _ => l.length - (intOf i).toNat)
    case atStart => exact ⟨0, Nat.zero_le _, rfl, 0, rfl⟩
    case round =>
      obtain ⟨k, hk, rfl, m, rfl⟩ := hrel
      by_cases hlt : k < l.length
      · obtain ⟨x, hx⟩ : ∃ x, l[k]? = some x := ⟨l[k], List.getElem?_eq_getElem hlt⟩
        obtain ⟨q0, q1, q2⟩ := hc1 k x hx
        obtain ⟨p0, p1, p2⟩ := hc2 k x hx
        clear hc1 hc2 hx
        go_wp2_with fail
        go_quiet (fail)
        go_wp2_with fail
        go_roundw
        case rel => exact ⟨k + 1, by omega, by go_num, m + _, rfl⟩
        case measure => simp [intOf]; omega
      · clear hc1 hc2
        go_wp2_with fail
        go_ret
        exact ⟨rfl, m, rfl⟩
set_option maxHeartbeats 2000000 in
set_option maxRecDepth 100000 in
theorem sr_same (aw at_ ah an : Option Addr) (cw ct ch cn : Nat) (r : Rm) (bw bt bh bn : Option Addr) (dw dt dh dn : Nat) (w : World) (h1 : RmAt w aw at_ ah an cw ct ch cn r) (h2 : RmAt w bw bt bh bn dw dt dh dn r) (hz : RmSz r) :
    Calls Tryz.prog 15 #[.agg #[.slice aw r.ws.length cw, .slice at_ r.ts.length ct, .slice ah r.hs.length ch, .slice an r.ns.length cn, .int .i64 r.nw, .int .i64 r.nt], .agg #[.slice bw r.ws.length dw, .slice bt r.ts.length dt, .slice bh r.hs.length dh, .slice bn r.ns.length dn, .int .i64 r.nw, .int .i64 r.nt]] w fun e w' => e = .returned (.bool true) ∧ Below w.heap.size w w' := by
  have mt := hz.t
  have mn := hz.n
  have BR0 := Bx.new w [.slice aw r.ws.length cw, .slice at_ r.ts.length ct, .slice ah r.hs.length ch, .slice an r.ns.length cn, .int .i64 r.nw, .int .i64 r.nt] 30
  replace BR0 := BR0.alloc (.cells #[.slice bw r.ws.length dw, .slice bt r.ts.length dt, .slice bh r.hs.length dh, .slice bn r.ns.length dn, .int .i64 r.nw, .int .i64 r.nt] 30)
  have BB0 := Bx.new (w.alloc (.cells #[.slice aw r.ws.length cw, .slice at_ r.ts.length ct, .slice ah r.hs.length ch, .slice an r.ns.length cn, .int .i64 r.nw, .int .i64 r.nt] 30)) [.slice bw r.ws.length dw, .slice bt r.ts.length dt, .slice bh r.hs.length dh, .slice bn r.ns.length dn, .int .i64 r.nw, .int .i64 r.nt] 30
  rw [sz_alloc] at BB0
  have bl0 := ((Below.refl w.heap.size w).alloc (by first | exact Nat.le_refl _ | (simp <;> omega)) (.cells #[.slice aw r.ws.length cw, .slice at_ r.ts.length ct, .slice ah r.hs.length ch, .slice an r.ns.length cn, .int .i64 r.nw, .int .i64 r.nt] 30)).alloc (by first | exact Nat.le_refl _ | (simp <;> omega)) (.cells #[.slice bw r.ws.length dw, .slice bt r.ts.length dt, .slice bh r.hs.length dh, .slice bn r.ns.length dn, .int .i64 r.nw, .int .i64 r.nt] 30)
  go_enter Tryz.func15, Tryz.ntmps15
  go_wp2_with fail
  refine (sw_same aw bw cw dw r.ws _ (h1.w.below bl0) (h2.w.below bl0) hz.w).mono ?_
  rintro e w1 ⟨rfl, m1, rfl⟩
  go_wp2_with fail
  refine (sh_same ah bh ch dh r.hs _ (h1.h.below (below_drewN bl0 m1)) (h2.h.below (below_drewN bl0 m1)) (by have := hz.h; omega)).mono ?_
  rintro e w2 ⟨rfl, m2, rfl⟩
  have bl2 := below_drewN (below_drewN bl0 m1) m2
  have BR2 := BR0.below (below_drewN (below_drewN (Below.refl _ _) m1) m2)
  have BB2 := BB0.below (below_drewN (below_drewN (Below.refl _ _) m1) m2)
  have six1 := BR2.six
  have six2 := BB2.six
  have z1 := BR2.1
  have z2 := BB2.1
  revert bl2 BR2 BB2 six1 six2 z1 z2
  generalize hWW : World.drewN (World.drewN _ m1) m2 = W
  intro bl2 BR2 BB2 six1 six2 z1 z2
  clear BR0 BB0 bl0 hWW
  obtain ⟨g0, g1, g2, g3, g4, g5⟩ := six1
  obtain ⟨f0, f1, f2, f3, f4, f5⟩ := six2
  have hT1 := h1.t.below bl2
  have hT2 := h2.t.below bl2
  have hN1 := h1.n.below bl2
  have hN2 := h2.n.below bl2
  clear h1 h2 hz BR2 BB2
  go_wp2_with fail
  go_loopw [7] (fun i wr => ∃ k : Nat, k ≤ r.ts.length ∧ i = .int .i64 k ∧ ∃ m, wr = W.drewN m) (fun i _ => r.ts.length - (intOf i).toNat)
  case atStart => exact ⟨0, Nat.zero_le _, rfl, 0, rfl⟩
  case round =>
    obtain ⟨k, hk, rfl, m, rfl⟩ := hrel
    by_cases hlt : k < r.ts.length
    · obtain ⟨x, hx⟩ : ∃ x, r.ts[k]? = some x := ⟨r.ts[k], List.getElem?_eq_getElem hlt⟩
      have h0 : ¬ r.ts = [] := by intro e; rw [e] at hlt; simp at hlt
      obtain ⟨b1, o1, ha1, hb1, hc1⟩ := hT1.resolve_left h0
      obtain ⟨b2, o2, ha2, hb2, hc2⟩ := hT2.resolve_left h0
      subst ha1
      subst ha2
      obtain ⟨q0, q1, q2⟩ := hc1 k x hx
      obtain ⟨p0, p1, p2⟩ := hc2 k x hx
      clear hc1 hc2 hx hT1 hT2 hN1 hN2 h0
      go_wp2_with fail
      go_quiet (fail)
      go_wp2_with fail
      go_roundw
      case rel => exact ⟨k + 1, by omega, by go_num, m + _, rfl⟩
      case measure => simp [intOf]; omega
    · go_wp2_with fail
      go_loopw [8] (fun i wr => ∃ k : Nat, k ≤ r.ns.length ∧ i = .int .i64 k ∧ ∃ m, wr = W.drewN m) (fun i _ => r.ns.length - (intOf i).toNat)
      case atStart => exact ⟨0, Nat.zero_le _, rfl, m, rfl⟩
      case round =>
        obtain ⟨j, hj, rfl, m', rfl⟩ := hrel
        by_cases hlt2 : j < r.ns.length
        · obtain ⟨x, hx⟩ : ∃ x, r.ns[j]? = some x := ⟨r.ns[j], List.getElem?_eq_getElem hlt2⟩
          have h0 : ¬ r.ns = [] := by intro e; rw [e] at hlt2; simp at hlt2
          obtain ⟨b1, o1, ha1, hb1, hc1⟩ := hN1.resolve_left h0
          obtain ⟨b2, o2, ha2, hb2, hc2⟩ := hN2.resolve_left h0
          subst ha1
          subst ha2
          obtain ⟨q0, q1, q2, q3⟩ := hc1 j x hx
          obtain ⟨p0, p1, p2, p3⟩ := hc2 j x hx
          clear hc1 hc2 hx hT1 hT2 hN1 hN2 h0
          go_wp2_with fail
          go_quiet (fail)
          go_wp2_with fail
          go_roundw
          case rel => exact ⟨j + 1, by omega, by go_num, m' + _, rfl⟩
          case measure => simp [intOf]; omega
        · clear hT1 hT2 hN1 hN2
          go_wp2_with fail
          go_ret
          exact ⟨rfl, below_drewN bl2 m'⟩
end Go.Proofs.YtddgpgldbekamaaGreat
