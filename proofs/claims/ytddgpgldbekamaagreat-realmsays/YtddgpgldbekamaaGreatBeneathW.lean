/- Beneath: the walks alone (the plain part stands in AllPure). -/
import Derived.Test.YtddgpgldbekamaaGreatProg
import Derived.Test.YtddgpgldbekamaaGreatAllPure
import Derived.Test.YtddgpgldbekamaaGreatInfoW
import Derived.Maps.OwnSet
import Derived.Maps.AppendAt
set_option linter.unusedSimpArgs false
set_option linter.unusedVariables false
namespace Go.Proofs.YtddgpgldbekamaaGreat
open Go.RowKit Go.Maps

theorem lawInt : Keyed Tryz.prog 3 := int_keyed Tryz.underlying3
theorem zeroUnit (w : World) : (zeroValue 138).run Tryz.prog w = .ok (.agg #[]) w := by kernel_rfl
set_option maxHeartbeats 2000000 in
theorem beneath_some (b o c : Nat) (l : List Wr) (id : Int) (w : World) (hw : ∀ j x, l[j]? = some x → WrAt w b (o + j * 5) x) (hb : b < w.heap.size) (hm : l.length ≤ 1000) (hwf : ∀ x ∈ l, (Lit.int .i64 x.id).wf = true ∧ (Lit.int .i64 x.frm).wf = true) :
    Calls Tryz.prog 90 #[.slice (some ⟨b, o, none⟩) l.length c, .int .i64 id] w
      fun e w' => ∃ v, e = .returned v ∧ w'.ownsRow (w.heap.size + 1) 3 1 v (beneathL l id).length ((beneathL l id).flatMap icells) ∧ Below w.heap.size w w' := by
  have hmm := @run_makeMap Tryz.prog
  obtain ⟨i0, hi, hi0, hi1, hi2⟩ := info_parts infoInt
  go_enter Tryz.func90, Tryz.ntmps90
  go_wp2
  go_loopw [5, 14] (fun v i wr => ∃ (k : Nat) (out : List Int), k ≤ l.length ∧ i = .int .i64 k ∧ out.length ≤ k ∧ wr.ownsMap Tryz.prog 3 unitElem w.heap.size k (Sd out) ∧ wr.ownsRow (w.heap.size + 1) 3 1 v out.length (out.flatMap icells) ∧ Hid ((l.take k).foldl (bnStep id) [] = out) ∧ Below w.heap.size w wr ∧ w.heap.size + 1 ≤ wr.heap.size)
    (fun _ i _ => l.length - (intOf i).toNat)
  case atStart => exact ⟨0, [], Nat.zero_le _, rfl, Nat.le_refl _, World.ownsMap_made _ _ _ _, by simpa using World.ownsRow_nil _ _ _ _, (show Hid _ from rfl), (Below.refl _ _).alloc (Nat.le_refl _) _, by simp⟩
  case round =>
    obtain ⟨k, out, hk, rfl, hol, hown, hrow, hn, hbl, hws⟩ := hrel
    by_cases hlt : k < l.length
    · obtain ⟨x, hx⟩ : ∃ x, l[k]? = some x := ⟨l[k], List.getElem?_eq_getElem hlt⟩
      obtain ⟨q1, q2, q3, q4, q5⟩ := (hw k x hx).below hbl hb
      have hxl : x ∈ l := List.mem_of_getElem? hx
      have HX : Hid (l[k]? = some x) := hx
      have hkf : keyOf Tryz.prog 3 (.int .i64 x.frm) = some (.int .i64 x.frm) := keyOf_int_mk Tryz.underlying3 (hwf x hxl).2
      have hki : keyOf Tryz.prog 3 (.int .i64 x.id) = some (.int .i64 x.id) := keyOf_int_mk Tryz.underlying3 (hwf x hxl).1
      have hbz : b < wr.heap.size := Nat.lt_of_lt_of_le hb hbl.size
      clear hx hw hxl hwf
      by_cases h1 : x.frm = 0
      · have d1 : (x.frm != 0) = false := by simp [h1]
        have HY : Hid (¬ bnIs id out x) := fun h => h.1 h1
        clear h1
        go_wp2_with (at_lookup; refine wpList_lookup_own_unit _ rfl _ _ 137 rfl 3 138 lawInt Tryz.underlying137 (zeroUnit _) w.heap.size k _ rfl (hown.alloc _) _ _ rfl hkf ?_)
        go_roundw
        case rel => exact ⟨k + 1, out, by omega, by go_num, by omega, ((hown.alloc _).alloc _).mono (Nat.le_succ _), (hrow.alloc _).alloc _, (show Hid _ from bn_no HX.out hn.out HY.out), (hbl.alloc hbl.size _).alloc (by simp; omega) _, by simp; omega⟩
        case measure => simp [intOf]; omega

      · have d1 : (x.frm != 0) = true := by simp [h1]
        by_cases h2 : x.frm = id
        · have d2 : (x.frm == id) = true := by simp [h2]
          have HY : Hid (bnIs id out x) := (show Hid _ from ⟨h1, .inl h2⟩)
          clear h1 h2
          go_wp2_with (first
            | (at_lookup; refine wpList_lookup_own_unit _ rfl _ _ 137 rfl 3 138 lawInt Tryz.underlying137 (zeroUnit _) w.heap.size k _ rfl (hown.alloc _) _ _ rfl hkf ?_)
            | (at_mapUpdate; refine wpList_mapUpdate_own _ rfl _ _ _ 137 rfl 3 138 lawInt Tryz.underlying137 (unitElem (H := Unit)) w.heap.size k _ rfl ((hown.alloc _).alloc _) (by unfold maxLen; omega) _ _ _ rfl rfl hki _ [] unitElem_mk ?_; intro w1 hown1 hgrow1; have s1 := hgrow1.size; simp at s1; have gx0 : w1.cell? ⟨wr.heap.size, 0, none⟩ = some (.int .i64 x.id) := (by rw [grown_cell hgrow1 (by omega) (by simp; omega)]; simp); have hz2 : wr.heap.size < w1.heap.size := (by omega); have hrow1 := ((hrow.alloc _).alloc _).kept hgrow1 (Or.inr (row_neq hrow (Nat.lt_succ_self _)).symm))
            | (at_builtin; refine wpList_append_own _ rfl _ _ 119 rfl (w.heap.size + 1) 3 i0 (.int .i64 0) 1 8 Tryz.underlying119 hi hi0 hi1 hi2 rfl (by decide) _ _ _ rfl (hrow1.alloc _) _ 1 1 [.int .i64 x.id] rfl rfl (new1 _ _ _) (one1 _) (by unfold maxLen; omega) (by omega) (by simp; omega) ?_; intro v' w2 hown2' hgrow2 _))
          have bl1 : Below w.heap.size w w1 := (((hbl.alloc hbl.size _).alloc (by simp; omega) _).grown hgrow1 (by simp; omega) (fun j hj => by cases hj; exact Nat.le_refl _))
          have bl2 : Below w.heap.size w w2 := (bl1.alloc bl1.size _).grown hgrow2 (by simp; omega) (fun j hj => Nat.le_trans (Nat.le_succ _) (hrow1.lt j hj).1)
          have hown2 := row1_snoc hown2'
          have s2 := hgrow2.size
          simp at s2
          have hownM := (hown1.alloc (.cells #[.int .i64 x.id] 3)).kept hgrow2 (row_neq hrow1 (Nat.lt_succ_self _))
          clear hown2' hown1
          go_roundw
          case rel => exact ⟨k + 1, out ++ [x.id], by omega, by go_num, by simp; omega, by rw [Sd_snoc]; exact hownM, hown2, (show Hid _ from bn_yes HX.out hn.out HY.out), bl2, by omega⟩
          case measure => simp [intOf]; omega

        · have d2 : (x.frm == id) = false := by simp [h2]
          cases h3 : out.contains x.frm with
          | true =>
            have d3 : Maps.has (Sd out) (.int .i64 x.frm) = true := by rw [has_Sd]; exact h3
            have HY : Hid (bnIs id out x) := (show Hid _ from ⟨h1, .inr h3⟩)
            clear h1 h2 h3
            go_wp2_with (first
              | (at_lookup; refine wpList_lookup_own_unit _ rfl _ _ 137 rfl 3 138 lawInt Tryz.underlying137 (zeroUnit _) w.heap.size k _ rfl (hown.alloc _) _ _ rfl hkf ?_)
              | (at_mapUpdate; refine wpList_mapUpdate_own _ rfl _ _ _ 137 rfl 3 138 lawInt Tryz.underlying137 (unitElem (H := Unit)) w.heap.size k _ rfl ((hown.alloc _).alloc _) (by unfold maxLen; omega) _ _ _ rfl rfl hki _ [] unitElem_mk ?_; intro w1 hown1 hgrow1; have s1 := hgrow1.size; simp at s1; have gx0 : w1.cell? ⟨wr.heap.size, 0, none⟩ = some (.int .i64 x.id) := (by rw [grown_cell hgrow1 (by omega) (by simp; omega)]; simp); have hz2 : wr.heap.size < w1.heap.size := (by omega); have hrow1 := ((hrow.alloc _).alloc _).kept hgrow1 (Or.inr (row_neq hrow (Nat.lt_succ_self _)).symm))
              | (at_builtin; refine wpList_append_own _ rfl _ _ 119 rfl (w.heap.size + 1) 3 i0 (.int .i64 0) 1 8 Tryz.underlying119 hi hi0 hi1 hi2 rfl (by decide) _ _ _ rfl (hrow1.alloc _) _ 1 1 [.int .i64 x.id] rfl rfl (new1 _ _ _) (one1 _) (by unfold maxLen; omega) (by omega) (by simp; omega) ?_; intro v' w2 hown2' hgrow2 _))
            have bl1 : Below w.heap.size w w1 := (((hbl.alloc hbl.size _).alloc (by simp; omega) _).grown hgrow1 (by simp; omega) (fun j hj => by cases hj; exact Nat.le_refl _))
            have bl2 : Below w.heap.size w w2 := (bl1.alloc bl1.size _).grown hgrow2 (by simp; omega) (fun j hj => Nat.le_trans (Nat.le_succ _) (hrow1.lt j hj).1)
            have hown2 := row1_snoc hown2'
            have s2 := hgrow2.size
            simp at s2
            have hownM := (hown1.alloc (.cells #[.int .i64 x.id] 3)).kept hgrow2 (row_neq hrow1 (Nat.lt_succ_self _))
            clear hown2' hown1
            go_roundw
            case rel => exact ⟨k + 1, out ++ [x.id], by omega, by go_num, by simp; omega, by rw [Sd_snoc]; exact hownM, hown2, (show Hid _ from bn_yes HX.out hn.out HY.out), bl2, by omega⟩
            case measure => simp [intOf]; omega

          | false =>
            have d3 : Maps.has (Sd out) (.int .i64 x.frm) = false := by rw [has_Sd]; exact h3
            have HY : Hid (¬ bnIs id out x) := (show Hid _ from fun h => h.2.elim h2 (fun h => by rw [h3] at h; cases h))
            clear h1 h2 h3
            go_wp2_with (at_lookup; refine wpList_lookup_own_unit _ rfl _ _ 137 rfl 3 138 lawInt Tryz.underlying137 (zeroUnit _) w.heap.size k _ rfl (hown.alloc _) _ _ rfl hkf ?_)
            go_roundw
            case rel => exact ⟨k + 1, out, by omega, by go_num, by omega, ((hown.alloc _).alloc _).mono (Nat.le_succ _), (hrow.alloc _).alloc _, (show Hid _ from bn_no HX.out hn.out HY.out), (hbl.alloc hbl.size _).alloc (by simp; omega) _, by simp; omega⟩
            case measure => simp [intOf]; omega

    · have hn' := hn.out
      rw [List.take_of_length_le (by omega)] at hn'
      have HF : Hid (beneathL l id = out) := hn'
      clear hw hn'
      go_wp2_with fail
      go_ret
      exact ⟨_, rfl, by rw [HF.out]; exact hrow, hbl⟩
theorem beneath_any (a : Option Addr) (c : Nat) (l : List Wr) (id : Int) (w : World) (hw : WrsAt w a l) (hm : l.length ≤ 1000) (hwf : ∀ x ∈ l, (Lit.int .i64 x.id).wf = true ∧ (Lit.int .i64 x.frm).wf = true) :
    Calls Tryz.prog 90 #[.slice a l.length c, .int .i64 id] w
      fun e w' => ∃ a' c', e = .returned (.slice a' (beneathL l id).length c') ∧ IntsAt w' a' (beneathL l id) ∧ (∀ b o, a' = some ⟨b, o, none⟩ → b < w'.heap.size) ∧ Below w.heap.size w w' := by
  rcases hw with rfl | ⟨b, o, rfl, hb, hx⟩
  · have hmm := @run_makeMap Tryz.prog
    go_enter Tryz.func90, Tryz.ntmps90
    go_wp2
    refine wp_loop_rounds 1 ?_
    rw [rounds_succ]
    go_wp2
    go_ret
    exact ⟨none, 0, rfl, .inl rfl, (fun b o e => by cases e), (Below.refl _ _).alloc (Nat.le_refl _) _⟩
  · refine (beneath_some b o c l id w hx hb hm hwf).mono ?_
    rintro e w1 ⟨v, rfl, hrow, hbl⟩
    obtain ⟨a', c', rfl, hat, hlt⟩ := ints_of_row hrow
    exact ⟨a', c', rfl, hat, hlt, hbl⟩
end Go.Proofs.YtddgpgldbekamaaGreat
