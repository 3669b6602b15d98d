/- Ints: the walks alone (the plain part stands in AllPure). -/
import Derived.Test.YtihckdndecbefacProg
import Derived.Test.YtihckdndecbefacAllPure
import Derived.Deep.QuietTactic
import Derived.BigQuiet
set_option linter.unusedSimpArgs false
set_option linter.unusedVariables false
namespace Go.Proofs.Ytihckdndecbefac
open Go.RowKit

theorem sn_any (a1 a2 : Option Addr) (c1 c2 : Nat) (zs ys : List Int) (w : World) (h1 : IntsAt w a1 zs) (h2 : IntsAt w a2 ys) (m1 : zs.length ≤ 1000000) (m2 : ys.length ≤ 1000000) :
    Calls Try.prog 16 #[.slice a1 zs.length c1, .slice a2 ys.length c2] w fun e w' => e = .returned (.bool (zs == ys)) ∧ ∃ m, w' = w.drewN m := by
  by_cases hl : zs.length = ys.length
  · by_cases h0 : zs = []
    · subst h0
      have hy : ys = [] := by cases ys with | nil => rfl | cons => simp at hl
      subst hy
      go_enter Try.func16, Try.ntmps16
      go_wp2
      refine wp_loop_rounds 1 ?_
      rw [rounds_succ]
      go_wp2
      go_ret
      exact ⟨rfl, 0, rfl⟩
    · obtain ⟨b, o, rfl, hc1⟩ := h1.resolve_left h0
      obtain ⟨b', o', rfl, hc2⟩ := h2.resolve_left (by intro e; subst e; simp at hl; exact h0 hl)
      have hl' : ((zs.length : Int) == (ys.length : Int)) = true := by simp [hl]
      have HL : Hid (zs.length = ys.length) := hl
      clear hl
      go_enter Try.func16, Try.ntmps16
      go_wp2
      go_loopw [5] (fun i wr => ∃ k : Nat, k ≤ zs.length ∧ i = .int .i64 k ∧ Hid (zs.take k = ys.take k) ∧ ∃ m, wr = w.drewN m) (fun i _ => zs.length - (intOf i).toNat)
      case atStart => exact ⟨0, Nat.zero_le _, rfl, show Hid _ from rfl, 0, rfl⟩
      case round =>
        obtain ⟨k, hk, rfl, ht, m, rfl⟩ := hrel
        by_cases hlt : k < zs.length
        · have g1 := hc1 k hlt
          have g2 := hc2 k (by rw [← HL.out]; exact hlt)
          have hlt2 : k < ys.length := by rw [← HL.out]; exact hlt
          clear hc1 hc2
          go_wp2
          go_quiet (fail)
          go_wp2
          · go_ret
            exact ⟨retBool (eq_at_no hlt hlt2 ‹_›).symm, _, World.drewN_drewN ..⟩
          · go_roundw
            case rel => exact ⟨k + 1, by omega, by go_num, show Hid _ from take_step hlt HL.out ht.out ‹_›, _, rfl⟩
            case measure => simp [intOf]; omega
        · go_wp2
          go_ret
          exact ⟨retBool (eq_all hlt HL.out ht.out).symm, _, rfl⟩
  · have hl' : ((zs.length : Int) == (ys.length : Int)) = false := by simp; omega
    go_enter Try.func16, Try.ntmps16
    go_wp2
    go_ret
    exact ⟨by rw [eq_len_no hl]; rfl, 0, rfl⟩
end Go.Proofs.Ytihckdndecbefac
