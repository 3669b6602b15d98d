/- Lists of numbers in memory; SameNumbers. -/
import Derived.Test.YtnjncemjghmpoaaProg
import Derived.Test.YtnjncemjghmpoaaHd
import Derived.Deep.QuietTactic
import Derived.BigQuiet
namespace Go.Proofs.Ytnjncemjghmpoaa
open Go.RowKit

/-- the slice's cells hold these numbers -/
def IntsAt (w : World) (a : Option Addr) (zs : List Int) : Prop :=
  zs = [] ∨ ∃ b o, a = some ⟨b, o, none⟩ ∧ ∀ j, j < zs.length → w.cell? ⟨b, o + j, none⟩ = some (.int .i64 (zs.getD j 0))

theorem eq_len_no {zs ys : List Int} (h : ¬ zs.length = ys.length) : (zs == ys) = false := by
  rw [beq_eq_false_iff_ne]; intro e; exact h (by rw [e])
theorem take_step {zs ys : List Int} {k : Nat} (h1 : k < zs.length) (h2 : zs.length = ys.length) (h : zs.take k = ys.take k) (he : (zs[k] != ys[k]) = false) : zs.take (k + 1) = ys.take (k + 1) := by
  simp at he
  rw [List.take_succ_eq_append_getElem h1, List.take_succ_eq_append_getElem (by omega), h, he]
theorem eq_at_no {zs ys : List Int} {k : Nat} (h1 : k < zs.length) (h2 : k < ys.length) (he : (zs[k] != ys[k]) = true) : (zs == ys) = false := by
  rw [beq_eq_false_iff_ne]; intro e; subst e; simp at he
theorem eq_all {zs ys : List Int} {k : Nat} (hk : ¬ k < zs.length) (h2 : zs.length = ys.length) (h : zs.take k = ys.take k) : (zs == ys) = true := by
  rw [List.take_of_length_le (by omega), List.take_of_length_le (by omega)] at h
  simp [h]

theorem sn_any (a1 a2 : Option Addr) (c1 c2 : Nat) (zs ys : List Int) (w : World) (h1 : IntsAt w a1 zs) (h2 : IntsAt w a2 ys) (m1 : zs.length ≤ 1000000) (m2 : ys.length ≤ 1000000) :
    Calls Try.prog 26 #[.slice a1 zs.length c1, .slice a2 ys.length c2] w fun e w' => e = .returned (.bool (zs == ys)) ∧ ∃ m, w' = w.drewN m := by
  by_cases hl : zs.length = ys.length
  · by_cases h0 : zs = []
    · subst h0
      have hy : ys = [] := by cases ys with | nil => rfl | cons => simp at hl
      subst hy
      go_enter Try.func26, Try.ntmps26
      go_wp2
      refine wp_loop_rounds 1 ?_
      rw [rounds_succ]
      go_wp2
      go_ret
      exact ⟨rfl, 0, rfl⟩
    · obtain ⟨b, o, rfl, hc1⟩ := h1.resolve_left h0
      obtain ⟨b', o', rfl, hc2⟩ := h2.resolve_left (by intro e; subst e; simp at hl; exact h0 hl)
      have hl' : ((zs.length : Int) == (ys.length : Int)) = true := by simp [hl]
      have HL : Hid (zs.length = ys.length) := hl
      clear hl
      go_enter Try.func26, Try.ntmps26
      go_wp2
      go_loopw [5] (fun i wr => ∃ k : Nat, k ≤ zs.length ∧ i = .int .i64 k ∧ Hid (zs.take k = ys.take k) ∧ ∃ m, wr = w.drewN m) (fun i _ => zs.length - (intOf i).toNat)
      case atStart => exact ⟨0, Nat.zero_le _, rfl, show Hid _ from rfl, 0, rfl⟩
      case round =>
        obtain ⟨k, hk, rfl, ht, m, rfl⟩ := hrel
        by_cases hlt : k < zs.length
        · have g1 := hc1 k hlt
          have g2 := hc2 k (by rw [← HL.out]; exact hlt)
          have hlt2 : k < ys.length := by rw [← HL.out]; exact hlt
          clear hc1 hc2
          go_wp2
          go_quiet (fail)
          go_wp2
          · go_ret
            exact ⟨retBool (eq_at_no hlt hlt2 ‹_›).symm, _, World.drewN_drewN ..⟩
          · go_roundw
            case rel => exact ⟨k + 1, by omega, by go_num, show Hid _ from take_step hlt HL.out ht.out ‹_›, _, rfl⟩
            case measure => simp [intOf]; omega
        · go_wp2
          go_ret
          exact ⟨retBool (eq_all hlt HL.out ht.out).symm, _, rfl⟩
  · have hl' : ((zs.length : Int) == (ys.length : Int)) = false := by simp; omega
    go_enter Try.func26, Try.ntmps26
    go_wp2
    go_ret
    exact ⟨by rw [eq_len_no hl]; rfl, 0, rfl⟩
theorem IntsAt.below {W w1 : World} (hb : Below W.heap.size W w1) {a : Option Addr} {zs : List Int} (h : IntsAt W a zs) (hlt : ∀ b o, a = some ⟨b, o, none⟩ → b < W.heap.size) : IntsAt w1 a zs := by
  rcases h with h | ⟨b, o, ha, hc⟩
  · exact .inl h
  · exact .inr ⟨b, o, ha, fun j hj => by rw [(bcell hb).1 _ _ (hlt b o ha)]; exact hc j hj⟩
def icells (z : Int) : List Value := [.int .i64 z]
theorem ints_of_row {w : World} {base : Nat} {e : TypeId} {v : Value} {l : List Int} (h : w.ownsRow base e 1 v l.length (l.flatMap icells)) : ∃ a cap, v = .slice a l.length cap ∧ IntsAt w a l ∧ ∀ b o, a = some ⟨b, o, none⟩ → b < w.heap.size := by
  rcases ownsRow_cells h with ⟨rfl, hn⟩ | ⟨g, cap, rfl, _, hg, hc⟩
  · have : l = [] := by cases l with | nil => rfl | cons => simp at hn
    subst this
    exact ⟨none, 0, rfl, .inl rfl, fun b o e => by cases e⟩
  · refine ⟨_, cap, rfl, .inr ⟨g, 0, rfl, fun j hj => ?_⟩, fun b o e => by cases e; exact hg⟩
    have hx : l[j]? = some l[j] := List.getElem?_eq_getElem hj
    have key := flat_get icells 1 (fun _ => rfl) l j 0 l[j] hx (by omega)
    have := hc (j * 1 + 0) _ key
    simpa [hj] using this
end Go.Proofs.Ytnjncemjghmpoaa
