/- The document's Beneath, walked. -/
import Derived.Test.YtddgpgldbekamaaGreatAllMore
import Derived.Test.YtddgpgldbekamaaGreatBeneathW
import Derived.Test.YtddgpgldbekamaaGreatRefA
import Derived.Deep.QuietTactic
import Derived.BigQuiet
set_option linter.unusedVariables false
set_option linter.unusedSimpArgs false
set_option linter.unnecessarySimpa false
namespace Go.Proofs.YtddgpgldbekamaaGreat
open Go.RowKit

theorem idx_lt {l : List Wr} (hp : l.Pairwise (fun x y => x.id < y.id)) {k j : Nat} {x y : Wr} (hx : l[k]? = some x) (hy : l[j]? = some y) (h : y.id < x.id) : j < k := by
  obtain ⟨hk1, hk2⟩ := List.getElem?_eq_some_iff.1 hx
  obtain ⟨hj1, hj2⟩ := List.getElem?_eq_some_iff.1 hy
  rcases Nat.lt_trichotomy j k with h1 | h1 | h1
  · exact h1
  · subst h1; rw [hx] at hy; cases hy; omega
  · have := List.pairwise_iff_getElem.1 hp k j hk1 hj1 h1; rw [hk2, hj2] at this; omega
/-- where the way up from a number stands, for the one that is looked for -/
theorem up_stop {l : List Wr} {f a : Int} {L : List Int} (h : Up l f L) (he : f = a) (ha : 1 ≤ a) : a ∈ L := by
  rcases h with ⟨h0, _⟩ | ⟨_, y, _, _, M, _, hL⟩
  · omega
  · rw [hL, he]; simp
set_option maxHeartbeats 2000000 in
set_option maxRecDepth 100000 in
theorem rbeneath_some (b o c : Nat) (l : List Wr) (id : Int) (w : World) (hw : ∀ j x, l[j]? = some x → WrAt w b (o + j * 5) x) (hb : b < w.heap.size) (hm : l.length ≤ 1000) (hg : GoodW l) :
    Calls Tryz.prog 98 #[.slice (some ⟨b, o, none⟩) l.length c, .int .i64 id] w
      fun e w' => ∃ v, e = .returned v ∧ w'.ownsRow w.heap.size 3 1 v (beneathL l id).length ((beneathL l id).flatMap icells) ∧ Below w.heap.size w w' := by
  obtain ⟨i0, hi, hi0, hi1, hi2⟩ := info_parts infoInt
  have HG : Hid (GoodW l) := hg
  have HB : Hid (beneathL l id = l.flatMap (bnPart l id)) := bn_parts hg id
  clear hg
  go_enter Tryz.func98, Tryz.ntmps98
  go_wp2_with fail
  go_loopw [5, 6] (fun v i wr => ∃ k : Nat, k ≤ l.length ∧ i = .int .i64 k ∧ wr.ownsRow w.heap.size 3 1 v ((l.take k).flatMap (bnPart l id)).length (((l.take k).flatMap (bnPart l id)).flatMap icells) ∧ Below w.heap.size w wr)
    (fun _ i _ => l.length - (intOf i).toNat)
  case atStart => exact ⟨0, Nat.zero_le _, rfl, by simpa using World.ownsRow_nil _ _ _ _, Below.refl _ _⟩
  case round =>
    obtain ⟨k, hk, rfl, hown, hbl⟩ := hrel
    by_cases hlt : k < l.length
    · obtain ⟨x, hx⟩ : ∃ x, l[k]? = some x := ⟨l[k], List.getElem?_eq_getElem hlt⟩
      obtain ⟨q1, q2, q3, q4, q5⟩ := (hw k x hx).below hbl hb
      have HX : Hid (l[k]? = some x) := hx
      have hxl : x ∈ l := List.mem_of_getElem? hx
      have HU : Hid (Up l x.frm (aboveL l x.id)) := isAbv_up HG.out hxl
      have hle := bnp_len (bnPart_le l id) (l.take k)
      have hle2 : (l.take k).length ≤ l.length := by rw [List.length_take]; omega
      have hbz : b < wr.heap.size := Nat.lt_of_lt_of_le hb hbl.size
      have hat := WrsAt.below hbl (.inr ⟨b, o, rfl, hb, hw⟩ : WrsAt w (some ⟨b, o, none⟩) l)
      clear hx hxl
      generalize hM : (l.take k).flatMap (bnPart l id) = M0 at hown hle
      have HM : Hid ((l.take k).flatMap (bnPart l id) = M0) := hM
      clear hM
      go_wp2_with fail
      go_loopw [7] (fun fv wr' => ∃ (f : Int) (L : List Int), fv = .int .i64 f ∧ 0 ≤ f ∧ f ≤ 999 ∧ Hid (Up l f L ∧ (isAbv l id x = true ↔ id ∈ L)) ∧ wr' = wr) (fun fv _ => (intOf fv).toNat)
      case atStart =>
        refine ⟨x.frm, aboveL l x.id, rfl, up_pos HU.out, ?_, (show Hid _ from ⟨HU.out, ?_⟩), rfl⟩
        · have := HG.out.1 x (List.mem_of_getElem? HX.out)
          obtain ⟨h1, h2, _, _, _, _, h7, h8, _, _⟩ := this
          omega
        · unfold isAbv inB; rw [List.contains_iff_mem]
      case round =>
        obtain ⟨f, L, rfl, hf0, hf9, HL, rfl⟩ := hrel
        by_cases hz : f = 0
        · subst hz
          have HN : Hid (bnPart l id x = []) := by
            show bnPart l id x = []
            unfold bnPart
            rw [if_neg]
            rw [HL.out.2, up_zero HL.out.1]; simp
          have HO : Hid ((l.take (k + 1)).flatMap (bnPart l id) = M0) := by show _ = _; rw [bnp_same HX.out HN.out]; exact HM.out
          by_cases h0 : (0 : Int) = id
          · have d1 : ((0 : Int) == id) = true := by simp [h0]
            have d2 : decide (0 < id) = false := decide_eq_false (by omega)
            clear h0 hat hw
            go_wp2_with fail
            go_roundw
            case rel => exact ⟨k + 1, by omega, by go_num, by rw [HO.out]; exact hown, hbl⟩
            case measure => simp [intOf]; omega
          · have d1 : ((0 : Int) == id) = false := by simp [h0]
            clear h0 hat hw
            go_wp2_with fail
            go_roundw
            case rel => exact ⟨k + 1, by omega, by go_num, by rw [HO.out]; exact hown, hbl⟩
            case measure => simp [intOf]; omega
        · have d0 : decide (0 < f) = true := decide_eq_true (by omega)
          by_cases he : f = id
          · have d1 : (f == id) = true := by simp [he]
            have d1' : (f != id) = false := by simp [he]
            have d2 : decide (0 < id) = true := decide_eq_true (by omega)
            have HN : Hid (bnPart l id x = [x.id]) := by
              show bnPart l id x = [x.id]
              unfold bnPart
              rw [if_pos]
              exact HL.out.2.2 (up_stop HL.out.1 he (by omega))
            clear he hat hw hz
            go_wp2_with (at_builtin; refine wpList_append_own _ rfl _ _ 119 rfl w.heap.size 3 i0 (.int .i64 0) 1 8 Tryz.underlying119 hi hi0 hi1 hi2 rfl (by decide) _ _ _ rfl (hown.alloc _) _ 1 1 [.int .i64 x.id] rfl rfl (new1 _ _ _) (one1 _) ?c3 ?c4 ?c5 ?_)
            case c3 => unfold maxLen; omega
            case c4 => omega
            case c5 => have := hbl.size; simp; omega
            intro v' w3 hown2' hgrow _
            have bl2 := app1_below hbl hown hgrow
            have hown2 := row1_snoc hown2'
            clear hgrow hown2' hown
            go_wp2_with fail
            go_roundw
            case rel => exact ⟨k + 1, by omega, by go_num, by rw [bnp_snoc HX.out HN.out, HM.out]; exact hown2, bl2⟩
            case measure => simp [intOf]; omega
          · have d1' : (f != id) = true := by simp [he]
            obtain ⟨j, y, M, hj, hy, hye, hf1, hlt', hy0, hLM, hupM⟩ := up_next HG.out HL.out.1 hz
            have HY : Hid (Up l y.frm M ∧ (isAbv l id x = true ↔ id ∈ M)) := by
              refine ⟨hupM, ?_⟩
              rw [HL.out.2, hLM, List.mem_cons]
              constructor
              · rintro (h | h)
                · exact absurd h.symm he
                · exact h
              · exact .inr
            obtain ⟨p1, p2, p3, p4, p5⟩ := (hw j y hy).below hbl hb
            have hjl : j < l.length := (List.getElem?_eq_some_iff.1 hy).1
            clear he hz hy hye hLM hupM
            go_wp2_with fail
            refine (findWrit_any (some ⟨b, o, none⟩) c l f _ hat (by omega)).mono ?_
            rintro e w2 ⟨rfl, hq⟩
            obtain rfl := hq.symm
            rw [hj]
            clear hj hat hw
            go_wp2_with fail
            go_roundw
            case rel => exact ⟨y.frm, M, rfl, hy0, by omega, (show Hid _ from HY.out), by first | rfl | trivial⟩
            case measure => simp [intOf]; omega
    · rw [List.take_of_length_le (by omega), ← HB.out] at hown
      clear hw
      go_wp2_with fail
      go_ret
      exact ⟨_, rfl, hown, hbl⟩
theorem rbeneath_any (a : Option Addr) (c : Nat) (l : List Wr) (id : Int) (w : World) (hw : WrsAt w a l) (hm : l.length ≤ 1000) (hg : GoodW l) :
    Calls Tryz.prog 98 #[.slice a l.length c, .int .i64 id] w
      fun e w' => ∃ a' c', e = .returned (.slice a' (beneathL l id).length c') ∧ IntsAt w' a' (beneathL l id) ∧ (∀ b o, a' = some ⟨b, o, none⟩ → b < w'.heap.size) ∧ Below w.heap.size w w' := by
  rcases hw with rfl | ⟨b, o, rfl, hb, hx⟩
  · go_enter Tryz.func98, Tryz.ntmps98
    go_wp2_with fail
    refine wp_loop_rounds 1 ?_
    rw [rounds_succ]
    go_wp2_with fail
    go_ret
    exact ⟨none, 0, rfl, .inl rfl, (fun b o e => by cases e), Below.refl _ _⟩
  · refine (rbeneath_some b o c l id w hx hb hm hg).mono ?_
    rintro e w1 ⟨v, rfl, hrow, hbl⟩
    obtain ⟨a', c', rfl, hat, hlt⟩ := ints_of_row hrow
    exact ⟨a', c', rfl, hat, hlt, hbl⟩
end Go.Proofs.YtddgpgldbekamaaGreat
