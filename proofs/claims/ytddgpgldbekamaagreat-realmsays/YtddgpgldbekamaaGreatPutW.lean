/- Put: the walks alone (the plain part stands in AllPure). -/
import Derived.Test.YtddgpgldbekamaaGreatProg
import Derived.Test.YtddgpgldbekamaaGreatAllPure
import Derived.Test.YtddgpgldbekamaaGreatShelfW
import Derived.Test.YtddgpgldbekamaaGreatInfoW
set_option linter.unusedSimpArgs false
set_option linter.unusedVariables false
namespace Go.Proofs.YtddgpgldbekamaaGreat
open Go.RowKit

set_option maxHeartbeats 2000000 in
theorem put_some (b o c : Nat) (l : List Hd) (h s id : Int) (w : World) (hw : ∀ j x, l[j]? = some x → HdAt w b (o + j * 3) x) (hb : b < w.heap.size) (hm : l.length ≤ 100) :
    Calls Tryz.prog 35 #[.slice (some ⟨b, o, none⟩) l.length c, .agg #[.int .i64 h, .int .i64 s], .int .i64 id] w
      fun e w' => ∃ v, e = .returned v ∧ w'.ownsRow (w.heap.size + 1) 93 3 v (putL l h s id).length ((putL l h s id).flatMap hcells) ∧ Below w.heap.size w w' := by
  obtain ⟨i0, hi, hi0, hi1, hi2⟩ := info_parts infoHeld
  go_enter Tryz.func35, Tryz.ntmps35
  go_wp2
  have q0 : (w.alloc (.cells #[.int .i64 h, .int .i64 s] 33)).cell? ⟨w.heap.size, 0, none⟩ = some (.int .i64 h) := by simp
  have q1 : (w.alloc (.cells #[.int .i64 h, .int .i64 s] 33)).cell? ⟨w.heap.size, 1, none⟩ = some (.int .i64 s) := by simp
  have hbl0 : Below w.heap.size w (w.alloc (.cells #[.int .i64 h, .int .i64 s] 33)) := (Below.refl _ _).alloc (Nat.le_refl _) _
  have hsz0 : (w.alloc (.cells #[.int .i64 h, .int .i64 s] 33)).heap.size = w.heap.size + 1 := by simp
  generalize w.alloc (.cells #[.int .i64 h, .int .i64 s] 33) = w0 at *
  have hw0 : ∀ j x, l[j]? = some x → HdAt w0 b (o + j * 3) x := fun j x hx => (hw j x hx).below hbl0 hb
  have hb0 : b < w0.heap.size := by omega
  have hwz : w.heap.size < w0.heap.size := by omega
  have HS : Hid (w0.heap.size = w.heap.size + 1) := hsz0
  clear hw hsz0
  go_loopw [7, 14] (fun v i wr => ∃ k : Nat, k ≤ l.length ∧ i = .int .i64 k ∧ wr.ownsRow w0.heap.size 93 3 v ((l.take k).filter (lowP h s)).length (((l.take k).filter (lowP h s)).flatMap hcells) ∧ Below w0.heap.size w0 wr)
    (fun _ i _ => l.length - (intOf i).toNat)
  case atStart => exact ⟨0, Nat.zero_le _, rfl, by simpa using World.ownsRow_nil _ _ _ _, Below.refl _ _⟩
  case round =>
    obtain ⟨k, hk, rfl, hown, hbl⟩ := hrel
    by_cases hlt : k < l.length
    · obtain ⟨x, hx⟩ : ∃ x, l[k]? = some x := ⟨l[k], List.getElem?_eq_getElem hlt⟩
      obtain ⟨p1, p2, p3⟩ := (hw0 k x hx).below hbl hb0
      have c0 : wr.cell? ⟨w.heap.size, 0, none⟩ = some (.int .i64 h) := by rw [(bcell hbl).1 _ _ hwz]; exact q0
      have c1 : wr.cell? ⟨w.heap.size, 1, none⟩ = some (.int .i64 s) := by rw [(bcell hbl).1 _ _ hwz]; exact q1
      have hz : w.heap.size < wr.heap.size := by have := hbl.size; omega
      have HX : Hid (l[k]? = some x) := hx
      clear hx
      go_wp2_with fail
      refine (before_any _ _ _ _ _).mono ?_
      rintro e w1 ⟨rfl, hb1⟩
      have hown1 := ownsRow_after (hown.alloc _) hb1
      have bl1 : Below w0.heap.size w0 w1 := Below_after (hbl.alloc hbl.size _) hb1
      have hz1 : wr.heap.size < w1.heap.size := by have := hb1.size; simp at this; omega
      have g0 : w1.cell? ⟨wr.heap.size, 0, none⟩ = some (.int .i64 x.holder) := by rw [(bcell hb1).1 _ _ (by simp)]; simp
      have g1 : w1.cell? ⟨wr.heap.size, 1, none⟩ = some (.int .i64 x.slot) := by rw [(bcell hb1).1 _ _ (by simp)]; simp
      have g2 : w1.cell? ⟨wr.heap.size, 2, none⟩ = some (.int .i64 x.writ) := by rw [(bcell hb1).1 _ _ (by simp)]; simp
      have hle := take_filter_le (lowP h s) l k
      clear hb1 hown c0 c1 p1 p2 p3 hw0
      cases hbf : befB x.holder x.slot h s with
      | true =>
        go_wp2_with (at_builtin; refine wpList_append_own _ rfl _ _ 27 rfl w0.heap.size 93 i0 (.agg #[.int .i64 0, .int .i64 0, .int .i64 0]) 3 24 Tryz.underlying27 hi hi0 hi1 hi2 rfl (by decide) _ _ _ rfl (hown1.alloc _) ⟨w1.heap.size, 0, none⟩ 1 1 [.int .i64 x.holder, .int .i64 x.slot, .int .i64 x.writ] rfl rfl (new3 _ _ _ _ _) (one3 _ _ _) ?c3 ?c4 ?c5 ?_)
        case c3 => unfold maxLen; omega
        case c4 => omega
        case c5 => have := bl1.size; simp; omega
        intro v' w2 hown2 hgrow _
        have bl2 := app_below bl1 hown1 hgrow
        have hrow := row_snoc hown2
        rw [← take_filter_yes (p := (lowP h s)) HX.out hbf] at hrow
        clear hown1 hgrow hown2 g0 g1 g2
        go_wp2_with fail
        go_roundw
        case rel => exact ⟨k + 1, by omega, by go_num, hrow, bl2⟩
        case measure => simp [intOf]; omega
      | false =>
        rw [← take_filter_no (p := (lowP h s)) HX.out hbf] at hown1
        go_wp2_with fail
        go_roundw
        case rel => exact ⟨k + 1, by omega, by go_num, hown1, bl1⟩
        case measure => simp [intOf]; omega
    · rw [List.take_of_length_le (by omega)] at hown
      have c0 : wr.cell? ⟨w.heap.size, 0, none⟩ = some (.int .i64 h) := by rw [(bcell hbl).1 _ _ hwz]; exact q0
      have c1 : wr.cell? ⟨w.heap.size, 1, none⟩ = some (.int .i64 s) := by rw [(bcell hbl).1 _ _ hwz]; exact q1
      have hz : w.heap.size < wr.heap.size := by have := hbl.size; omega
      have hle := List.length_filter_le (lowP h s) l
      by_cases hid : id = 0
      · have d1 : (id != 0) = false := by simp [hid]
        have hownM : wr.ownsRow w0.heap.size 93 3 u7 (putM l h s id).length ((putM l h s id).flatMap hcells) := by
          unfold putM; rw [if_pos hid]; simpa using hown
        have blM := hbl
        clear hid hown
        go_wp2_with fail
        go_loopw [7, 37] (fun v i wr => ∃ k : Nat, k ≤ l.length ∧ i = .int .i64 k ∧ wr.ownsRow w0.heap.size 93 3 v (putM l h s id ++ (l.take k).filter (highP h s)).length ((putM l h s id ++ (l.take k).filter (highP h s)).flatMap hcells) ∧ Below w0.heap.size w0 wr)
          (fun _ i _ => l.length - (intOf i).toNat)
        case atStart => exact ⟨0, Nat.zero_le _, rfl, by simpa using hownM, blM⟩
        case round =>
          obtain ⟨k, hk, rfl, hown, hbl⟩ := hrel
          have hMl := putM_len l h s id
          by_cases hlt : k < l.length
          · obtain ⟨x, hx⟩ : ∃ x, l[k]? = some x := ⟨l[k], List.getElem?_eq_getElem hlt⟩
            obtain ⟨p1, p2, p3⟩ := (hw0 k x hx).below hbl hb0
            have c0 : wr.cell? ⟨w.heap.size, 0, none⟩ = some (.int .i64 h) := by rw [(bcell hbl).1 _ _ hwz]; exact q0
            have c1 : wr.cell? ⟨w.heap.size, 1, none⟩ = some (.int .i64 s) := by rw [(bcell hbl).1 _ _ hwz]; exact q1
            have hz : w.heap.size < wr.heap.size := by have := hbl.size; omega
            have HX : Hid (l[k]? = some x) := hx
            clear hx
            go_wp2_with fail
            refine (before_any _ _ _ _ _).mono ?_
            rintro e w1 ⟨rfl, hb1⟩
            have hown1 := ownsRow_after (hown.alloc _) hb1
            have bl1 : Below w0.heap.size w0 w1 := Below_after (hbl.alloc hbl.size _) hb1
            have hz1 : wr.heap.size < w1.heap.size := by have := hb1.size; simp at this; omega
            have g0 : w1.cell? ⟨wr.heap.size, 0, none⟩ = some (.int .i64 x.holder) := by rw [(bcell hb1).1 _ _ (by simp)]; simp
            have g1 : w1.cell? ⟨wr.heap.size, 1, none⟩ = some (.int .i64 x.slot) := by rw [(bcell hb1).1 _ _ (by simp)]; simp
            have g2 : w1.cell? ⟨wr.heap.size, 2, none⟩ = some (.int .i64 x.writ) := by rw [(bcell hb1).1 _ _ (by simp)]; simp
            have hle := take_filter_le (highP h s) l k
            have hlen : (putM l h s id ++ (l.take k).filter (highP h s)).length ≤ 201 := by rw [List.length_append]; omega
            generalize hN : putM l h s id ++ (l.take k).filter (highP h s) = N at *
            have HN : Hid (putM l h s id ++ (l.take k).filter (highP h s) = N) := hN
            clear hN hb1 c0 c1 p1 p2 p3 hw0 hownM
            cases hbf : befB h s x.holder x.slot with
            | true =>
              go_wp2_with (at_builtin; refine wpList_append_own _ rfl _ _ 27 rfl w0.heap.size 93 i0 (.agg #[.int .i64 0, .int .i64 0, .int .i64 0]) 3 24 Tryz.underlying27 hi hi0 hi1 hi2 rfl (by decide) _ _ _ rfl (hown1.alloc _) _ 1 1 [.int .i64 x.holder, .int .i64 x.slot, .int .i64 x.writ] rfl rfl (new3 _ _ _ _ _) (one3 _ _ _) ?c3 ?c4 ?c5 ?_)
              case c3 => unfold maxLen; omega
              case c4 => omega
              case c5 => have := bl1.size; simp; omega
              intro v' w2 hown2 hgrow _
              have bl2 := app_below bl1 hown1 hgrow
              have hrow := row_snoc hown2
              rw [← HN.out, List.append_assoc, ← take_filter_yes (p := highP h s) HX.out hbf] at hrow
              clear hown1 hgrow hown2 g0 g1 g2
              go_wp2_with fail
              go_roundw
              case rel => exact ⟨k + 1, by omega, by go_num, hrow, bl2⟩
              case measure => simp [intOf]; omega
            | false =>
              rw [← HN.out, ← take_filter_no (p := highP h s) HX.out hbf] at hown1
              go_wp2_with fail
              go_roundw
              case rel => exact ⟨k + 1, by omega, by go_num, hown1, bl1⟩
              case measure => simp [intOf]; omega
          · rw [List.take_of_length_le (by omega)] at hown
            go_wp2_with fail
            go_ret
            exact ⟨_, rfl, by rw [← HS.out]; exact hown, (hbl0.trans (hbl.mono (by omega)))⟩
      · have d1 : (id != 0) = true := by simp [hid]
        go_wp2_with (at_builtin; refine wpList_append_own _ rfl _ _ 27 rfl w0.heap.size 93 i0 (.agg #[.int .i64 0, .int .i64 0, .int .i64 0]) 3 24 Tryz.underlying27 hi hi0 hi1 hi2 rfl (by decide) _ _ _ rfl (hown.alloc _) _ 1 1 [.int .i64 h, .int .i64 s, .int .i64 id] rfl rfl (new3 _ _ _ _ _) (one3 _ _ _) ?c3 ?c4 ?c5 ?_)
        case c3 => unfold maxLen; omega
        case c4 => omega
        case c5 => have := hbl.size; simp; omega
        intro v' w2 hown2 hgrow _
        have blM := app_below hbl hown hgrow
        have hownM : w2.ownsRow w0.heap.size 93 3 v' (putM l h s id).length ((putM l h s id).flatMap hcells) := by
          have := row_snoc (x := ⟨h, s, id⟩) hown2
          unfold putM; rw [if_neg hid]; exact this
        clear hown2 hgrow hown hid c0 c1
        go_wp2_with fail
        go_loopw [7, 37] (fun v i wr => ∃ k : Nat, k ≤ l.length ∧ i = .int .i64 k ∧ wr.ownsRow w0.heap.size 93 3 v (putM l h s id ++ (l.take k).filter (highP h s)).length ((putM l h s id ++ (l.take k).filter (highP h s)).flatMap hcells) ∧ Below w0.heap.size w0 wr)
          (fun _ i _ => l.length - (intOf i).toNat)
        case atStart => exact ⟨0, Nat.zero_le _, rfl, by simpa using hownM, blM⟩
        case round =>
          obtain ⟨k, hk, rfl, hown, hbl⟩ := hrel
          have hMl := putM_len l h s id
          by_cases hlt : k < l.length
          · obtain ⟨x, hx⟩ : ∃ x, l[k]? = some x := ⟨l[k], List.getElem?_eq_getElem hlt⟩
            obtain ⟨p1, p2, p3⟩ := (hw0 k x hx).below hbl hb0
            have c0 : wr.cell? ⟨w.heap.size, 0, none⟩ = some (.int .i64 h) := by rw [(bcell hbl).1 _ _ hwz]; exact q0
            have c1 : wr.cell? ⟨w.heap.size, 1, none⟩ = some (.int .i64 s) := by rw [(bcell hbl).1 _ _ hwz]; exact q1
            have hz : w.heap.size < wr.heap.size := by have := hbl.size; omega
            have HX : Hid (l[k]? = some x) := hx
            clear hx
            go_wp2_with fail
            refine (before_any _ _ _ _ _).mono ?_
            rintro e w1 ⟨rfl, hb1⟩
            have hown1 := ownsRow_after (hown.alloc _) hb1
            have bl1 : Below w0.heap.size w0 w1 := Below_after (hbl.alloc hbl.size _) hb1
            have hz1 : wr.heap.size < w1.heap.size := by have := hb1.size; simp at this; omega
            have g0 : w1.cell? ⟨wr.heap.size, 0, none⟩ = some (.int .i64 x.holder) := by rw [(bcell hb1).1 _ _ (by simp)]; simp
            have g1 : w1.cell? ⟨wr.heap.size, 1, none⟩ = some (.int .i64 x.slot) := by rw [(bcell hb1).1 _ _ (by simp)]; simp
            have g2 : w1.cell? ⟨wr.heap.size, 2, none⟩ = some (.int .i64 x.writ) := by rw [(bcell hb1).1 _ _ (by simp)]; simp
            have hle := take_filter_le (highP h s) l k
            have hlen : (putM l h s id ++ (l.take k).filter (highP h s)).length ≤ 201 := by rw [List.length_append]; omega
            generalize hN : putM l h s id ++ (l.take k).filter (highP h s) = N at *
            have HN : Hid (putM l h s id ++ (l.take k).filter (highP h s) = N) := hN
            clear hN hb1 c0 c1 p1 p2 p3 hw0 hownM
            cases hbf : befB h s x.holder x.slot with
            | true =>
              go_wp2_with (at_builtin; refine wpList_append_own _ rfl _ _ 27 rfl w0.heap.size 93 i0 (.agg #[.int .i64 0, .int .i64 0, .int .i64 0]) 3 24 Tryz.underlying27 hi hi0 hi1 hi2 rfl (by decide) _ _ _ rfl (hown1.alloc _) _ 1 1 [.int .i64 x.holder, .int .i64 x.slot, .int .i64 x.writ] rfl rfl (new3 _ _ _ _ _) (one3 _ _ _) ?c3 ?c4 ?c5 ?_)
              case c3 => unfold maxLen; omega
              case c4 => omega
              case c5 => have := bl1.size; simp; omega
              intro v' w2 hown2 hgrow _
              have bl2 := app_below bl1 hown1 hgrow
              have hrow := row_snoc hown2
              rw [← HN.out, List.append_assoc, ← take_filter_yes (p := highP h s) HX.out hbf] at hrow
              clear hown1 hgrow hown2 g0 g1 g2
              go_wp2_with fail
              go_roundw
              case rel => exact ⟨k + 1, by omega, by go_num, hrow, bl2⟩
              case measure => simp [intOf]; omega
            | false =>
              rw [← HN.out, ← take_filter_no (p := highP h s) HX.out hbf] at hown1
              go_wp2_with fail
              go_roundw
              case rel => exact ⟨k + 1, by omega, by go_num, hown1, bl1⟩
              case measure => simp [intOf]; omega
          · rw [List.take_of_length_le (by omega)] at hown
            go_wp2_with fail
            go_ret
            exact ⟨_, rfl, by rw [← HS.out]; exact hown, (hbl0.trans (hbl.mono (by omega)))⟩
theorem put_nil (a : Option Addr) (c : Nat) (h s id : Int) (w : World) :
    Calls Tryz.prog 35 #[.slice a 0 c, .agg #[.int .i64 h, .int .i64 s], .int .i64 id] w
      fun e w' => ∃ v, e = .returned v ∧ w'.ownsRow (w.heap.size + 1) 93 3 v (putL [] h s id).length ((putL [] h s id).flatMap hcells) ∧ Below w.heap.size w w' := by
  obtain ⟨i0, hi, hi0, hi1, hi2⟩ := info_parts infoHeld
  by_cases hid : id = 0
  · subst hid
    go_enter Tryz.func35, Tryz.ntmps35
    go_wp2
    refine wp_loop_rounds 1 ?_
    rw [rounds_succ]
    go_wp2
    refine wp_loop_rounds 1 ?_
    rw [rounds_succ]
    go_wp2
    go_ret
    exact ⟨_, rfl, by simpa [putL, putM] using World.ownsRow_nil _ _ _ _, (Below.refl _ _).alloc (Nat.le_refl _) _⟩
  · have d1 : (id != 0) = true := by simp [hid]
    have HI : Hid (¬ id = 0) := hid
    clear hid
    go_enter Tryz.func35, Tryz.ntmps35
    go_wp2
    have q0 : (w.alloc (.cells #[.int .i64 h, .int .i64 s] 33)).cell? ⟨w.heap.size, 0, none⟩ = some (.int .i64 h) := by simp
    have q1 : (w.alloc (.cells #[.int .i64 h, .int .i64 s] 33)).cell? ⟨w.heap.size, 1, none⟩ = some (.int .i64 s) := by simp
    have hbl0 : Below w.heap.size w (w.alloc (.cells #[.int .i64 h, .int .i64 s] 33)) := (Below.refl _ _).alloc (Nat.le_refl _) _
    have hsz0 : (w.alloc (.cells #[.int .i64 h, .int .i64 s] 33)).heap.size = w.heap.size + 1 := by simp
    generalize w.alloc (.cells #[.int .i64 h, .int .i64 s] 33) = w0 at *
    have HS : Hid (w0.heap.size = w.heap.size + 1) := hsz0
    have hwz : w.heap.size < w0.heap.size := by omega
    clear hsz0
    have hown : w0.ownsRow w0.heap.size 93 3 (.slice none 0 0) 0 [] := World.ownsRow_nil _ _ _ _
    refine wp_loop_rounds 1 ?_
    rw [rounds_succ]
    go_wp2_with (at_builtin; refine wpList_append_own _ rfl _ _ 27 rfl w0.heap.size 93 i0 (.agg #[.int .i64 0, .int .i64 0, .int .i64 0]) 3 24 Tryz.underlying27 hi hi0 hi1 hi2 rfl (by decide) _ _ _ rfl (hown.alloc _) _ 1 1 [.int .i64 h, .int .i64 s, .int .i64 id] rfl rfl (new3 _ _ _ _ _) (one3 _ _ _) ?c3 ?c4 ?c5 ?_)
    case c3 => unfold maxLen; omega
    case c4 => omega
    case c5 => simp
    intro v' w2 hown2 hgrow _
    have blM := app_below (Below.refl _ _) hown hgrow
    have hownM : w2.ownsRow w0.heap.size 93 3 v' (putL [] h s id).length ((putL [] h s id).flatMap hcells) := by
      have := row_snoc (l := []) (x := ⟨h, s, id⟩) hown2
      unfold putL putM; rw [if_neg HI.out]; simpa using this
    clear hown2 hgrow hown q0 q1
    go_wp2_with fail
    refine wp_loop_rounds 1 ?_
    rw [rounds_succ]
    go_wp2_with fail
    go_ret
    exact ⟨_, rfl, by rw [← HS.out]; exact hownM, hbl0.trans (blM.mono (by omega))⟩
theorem put_any (a : Option Addr) (c : Nat) (l : List Hd) (h s id : Int) (w : World) (hw : HdsAt w a l) (hm : l.length ≤ 100) :
    Calls Tryz.prog 35 #[.slice a l.length c, .agg #[.int .i64 h, .int .i64 s], .int .i64 id] w
      fun e w' => ∃ a' c', e = .returned (.slice a' (putL l h s id).length c') ∧ HdsAt w' a' (putL l h s id) ∧ Below w.heap.size w w' := by
  rcases hw with rfl | ⟨b, o, rfl, hb, hx⟩
  · refine (put_nil a c h s id w).mono ?_
    rintro e w1 ⟨v, rfl, hrow, hbl⟩
    obtain ⟨a', c', rfl, hat⟩ := hds_of_row hrow
    exact ⟨a', c', rfl, hat, hbl⟩
  · refine (put_some b o c l h s id w hx hb hm).mono ?_
    rintro e w1 ⟨v, rfl, hrow, hbl⟩
    obtain ⟨a', c', rfl, hat⟩ := hds_of_row hrow
    exact ⟨a', c', rfl, hat, hbl⟩
end Go.Proofs.YtddgpgldbekamaaGreat
