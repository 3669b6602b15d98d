/- The walks of the pattern's Above and Beneath (C1), in lists of writs that are right. -/
import Derived.Test.YtnjncemjghmpoaaTreeRefPure
import Derived.Test.YtnjncemjghmpoaaRef
set_option linter.unusedSimpArgs false
set_option linter.unusedVariables false
namespace Go.Proofs.Ytnjncemjghmpoaa
open Go.RowKit

theorem idx_lt {l : List Wr} (hp : l.Pairwise (fun x y => x.id < y.id)) {k j : Nat} {x y : Wr} (hx : l[k]? = some x) (hy : l[j]? = some y) (h : y.id < x.id) : j < k := by
  obtain ⟨hk1, hk2⟩ := List.getElem?_eq_some_iff.1 hx
  obtain ⟨hj1, hj2⟩ := List.getElem?_eq_some_iff.1 hy
  rcases Nat.lt_trichotomy j k with h1 | h1 | h1
  · exact h1
  · subst h1; rw [hx] at hy; cases hy; omega
  · have := List.pairwise_iff_getElem.1 hp k j hk1 hj1 h1; rw [hk2, hj2] at this; omega
set_option maxHeartbeats 1000000 in
theorem rabove_some (b o c : Nat) (l : List Wr) (id : Int) (w : World) (hw : ∀ j x, l[j]? = some x → WrAt w b (o + j * 5) x) (hb : b < w.heap.size) (hm : l.length ≤ 1000) (hg : GoodW l) :
    Calls Try.prog 30 #[.slice (some ⟨b, o, none⟩) l.length c, .int .i64 id] w
      fun e w' => ∃ v, e = .returned v ∧ w'.ownsRow w.heap.size 3 1 v (aboveL l id).length ((aboveL l id).flatMap icells) ∧ Below w.heap.size w w' := by
  obtain ⟨i0, hi, hi0, hi1, hi2⟩ := info_parts infoInt
  have hfd := find_bd l id
  have hal := aboveLen l id
  by_cases hn : find l id < 0
  · have HE : Hid (aboveL l id = []) := above_none hn
    have d0 : decide (0 ≤ find l id) = false := decide_eq_false (by omega)
    clear hn
    go_enter Try.func30, Try.ntmps30
    go_wp2_with fail
    refine (findWrit_any (some ⟨b, o, none⟩) c l id _ (.inr ⟨b, o, rfl, hb, hw⟩) (by omega)).mono ?_
    rintro e w1 ⟨rfl, hq⟩
    obtain rfl := hq.symm
    clear hw
    go_wp2_with fail
    refine wp_loop_rounds 1 ?_
    rw [rounds_succ]
    go_wp2_with fail
    go_ret
    exact ⟨_, rfl, by rw [HE.out]; simpa using World.ownsRow_nil _ _ _ _, Below.refl _ _⟩
  · obtain ⟨j0, hj0⟩ : ∃ j : Nat, find l id = (j : Int) := ⟨(find l id).toNat, by omega⟩
    obtain ⟨x0, hx0, -, hup0⟩ := above_up hg hj0
    have HU : Hid (l[j0]? = some x0 ∧ Up l x0.frm (aboveL l id)) := ⟨hx0, hup0⟩
    have HG : Hid (GoodW l) := hg
    clear hn hx0 hup0 hg
    go_enter Try.func30, Try.ntmps30
    go_wp2_with fail
    refine (findWrit_any (some ⟨b, o, none⟩) c l id _ (.inr ⟨b, o, rfl, hb, hw⟩) (by omega)).mono ?_
    rintro e w1 ⟨rfl, hq⟩
    obtain rfl := hq.symm
    rw [hj0]
    go_wp2_with fail
    go_loopw [5, 6] (fun v i wr => ∃ (k : Nat) (x : Wr) (out L : List Int), i = .int .i64 k ∧ Hid (l[k]? = some x ∧ Up l x.frm L ∧ out ++ L = aboveL l id) ∧ k < l.length ∧ out.length ≤ l.length ∧ wr.ownsRow w.heap.size 3 1 v out.length (out.flatMap icells) ∧ Below w.heap.size w wr)
      (fun _ i _ => (intOf i).toNat)
    case atStart => exact ⟨j0, x0, [], aboveL l id, rfl, (show Hid _ from ⟨HU.out.1, HU.out.2, rfl⟩), (List.getElem?_eq_some_iff.1 HU.out.1).1, by simp, by simpa using World.ownsRow_nil _ _ _ _, Below.refl _ _⟩
    case round =>
      obtain ⟨k, x, out, L, rfl, HX, hkl, hol, hown, hbl⟩ := hrel
      obtain ⟨q1, q2, q3, q4, q5⟩ := (hw k x HX.out.1).below hbl hb
      have hbz : b < wr.heap.size := Nat.lt_of_lt_of_le hb hbl.size
      have hup := up_pos HX.out.2.1
      by_cases hf : x.frm = 0
      · have d1 : decide (0 < x.frm) = false := decide_eq_false (by omega)
        have HF : Hid (out = aboveL l id) := by
          obtain ⟨_, h2, h3⟩ := HX.out
          rw [hf] at h2
          rw [up_zero h2] at h3
          show out = _; simpa using h3
        clear hw hf
        go_wp2_with fail
        go_ret
        exact ⟨_, rfl, by rw [← HF.out]; exact hown, hbl⟩
      · have d1 : decide (0 < x.frm) = true := decide_eq_true (by omega)
        obtain ⟨j, y, M, hj, hy, hye, hf1, hlt, hy0, hLM, hupM⟩ := up_next HG.out HX.out.2.1 hf
        have hjk : j < k := idx_lt HG.out.2.1 HX.out.1 hy (by rw [hye]; exact (HG.out.1 x (List.mem_of_getElem? HX.out.1)).2.2.2.2.2.2.2.1)
        have HY : Hid (l[j]? = some y ∧ Up l y.frm M ∧ (out ++ [y.id]) ++ M = aboveL l id) := by
          refine ⟨hy, hupM, ?_⟩
          have := HX.out.2.2
          rw [hLM] at this
          rw [hye, ← this]; simp
        have hol2 : out.length + 1 ≤ l.length := by
          have := congrArg List.length HY.out.2.2
          simp at this
          omega
        have hat := WrsAt.below hbl (.inr ⟨b, o, rfl, hb, hw⟩ : WrsAt w (some ⟨b, o, none⟩) l)
        obtain ⟨p1, p2, p3, p4, p5⟩ := (hw j y hy).below hbl hb
        have hjl : j < l.length := by omega
        clear hw hf hy hupM hLM hye
        go_wp2_with fail
        refine (findWrit_any (some ⟨b, o, none⟩) c l x.frm _ hat (by omega)).mono ?_
        rintro e w2 ⟨rfl, hq⟩
        obtain rfl := hq.symm
        rw [hj]
        clear hj hat
        go_wp2_with (at_builtin; refine wpList_append_own _ rfl _ _ 48 rfl w.heap.size 3 i0 (.int .i64 0) 1 8 Try.underlying48 hi hi0 hi1 hi2 rfl (by decide) _ _ _ rfl (hown.alloc _) _ 1 1 [.int .i64 y.id] rfl rfl (new1 _ _ _) (one1 _) ?c3 ?c4 ?c5 ?_)
        case c3 => unfold maxLen; omega
        case c4 => omega
        case c5 => have := hbl.size; simp; omega
        intro v' w3 hown2' hgrow _
        have bl2 := app1_below hbl hown hgrow
        have hown2 := row1_snoc hown2'
        clear hgrow hown2' hown
        go_wp2_with fail
        go_roundw
        case rel => exact ⟨j, y, out ++ [y.id], M, rfl, (show Hid _ from HY.out), hjl, by simpa using hol2, hown2, bl2⟩
        case measure => simp [intOf]; omega
theorem rabove_any (a : Option Addr) (c : Nat) (l : List Wr) (id : Int) (w : World) (hw : WrsAt w a l) (hm : l.length ≤ 1000) (hg : GoodW l) :
    Calls Try.prog 30 #[.slice a l.length c, .int .i64 id] w
      fun e w' => ∃ a' c', e = .returned (.slice a' (aboveL l id).length c') ∧ IntsAt w' a' (aboveL l id) ∧ (∀ b o, a' = some ⟨b, o, none⟩ → b < w'.heap.size) ∧ Below w.heap.size w w' := by
  rcases hw with rfl | ⟨b, o, rfl, hb, hx⟩
  · go_enter Try.func30, Try.ntmps30
    go_wp2_with fail
    refine (findWrit_any a c [] id _ (.inl rfl) (by simp)).mono ?_
    rintro e w1 ⟨rfl, hq⟩
    obtain rfl := hq.symm
    have hf : find [] id = -1 := rfl
    go_wp2_with fail
    refine wp_loop_rounds 1 ?_
    rw [rounds_succ]
    go_wp2_with fail
    go_ret
    exact ⟨none, 0, rfl, .inl rfl, (fun b o e => by cases e), Below.refl _ _⟩
  · refine (rabove_some b o c l id w hx hb hm hg).mono ?_
    rintro e w1 ⟨v, rfl, hrow, hbl⟩
    obtain ⟨a', c', rfl, hat, hlt⟩ := ints_of_row hrow
    exact ⟨a', c', rfl, hat, hlt, hbl⟩
end Go.Proofs.Ytnjncemjghmpoaa
