/- CheckC: the walks alone (the plain part stands in AllPure). -/
import Derived.Test.YtddgpgldbekamaaGreatDoorAllPure
import Derived.Test.YtddgpgldbekamaaGreatDoorProg
import Derived.Test.YtddgpgldbekamaaGreatDoorCheckBW
set_option linter.unusedSimpArgs false
set_option linter.unusedVariables false
namespace Go.Proofs.YtddgpgldbekamaaGreatDoor
open Go.RowKit

theorem cf_good (a : Option Addr) (c : Nat) (l : List Wr) (x : Wr) (w : World) (hw : WrsAt w a l) (hm : l.length ≤ 1000) (h : cfCode l x = 0) :
    Calls Tryz.prog 60 #[.slice a l.length c, .agg #[.int .i64 x.id, .int .i64 x.thing, .int .i64 x.rights, .int .i64 x.badge, .int .i64 x.frm]] w fun e w' => e = .returned .nilIface ∧ Below w.heap.size w w' := by
  by_cases hf : x.frm = 0
  · exact cf_zero a l.length c x w hf
  · have hbd := find_bd l x.frm
    by_cases hn : find l x.frm < 0
    · unfold cfCode at h; rw [if_neg hf, if_pos hn] at h; cases h
    · obtain ⟨j, hj⟩ : ∃ j : Nat, find l x.frm = (j : Int) := ⟨(find l x.frm).toNat, by omega⟩
      obtain ⟨y, hy, he⟩ := find_get hj
      rw [cfCode_at hf hj hy] at h
      rcases hw with rfl | ⟨b, o, rfl, hb, hx⟩
      · simp at hy
      · unfold cfOf at h
        by_cases hd : drvCode y x.rights x.badge = 0
        · rw [if_neg (by simp [hd])] at h
          by_cases h2 : y.thing = x.thing ∧ (y.badge = 0 ∨ y.badge = x.badge)
          · by_cases hb0 : y.badge = 0
            · exact cf_ok0 b o c l x y j w hb hx hm hf hj hy hd hb0 h2.1 he
            · exact cf_ok1 b o c l x y j w hb hx hm hf hj hy hd hb0 h2.1 he (h2.2.resolve_left hb0)
          · rw [if_neg h2] at h; cases h
        · rw [if_pos hd] at h; exact absurd h hd
theorem cf_bad (a : Option Addr) (c : Nat) (l : List Wr) (x : Wr) (w : World) (hw : WrsAt w a l) (hm : l.length ≤ 1000) (h : ¬ cfCode l x = 0) :
    Calls Tryz.prog 60 #[.slice a l.length c, .agg #[.int .i64 x.id, .int .i64 x.thing, .int .i64 x.rights, .int .i64 x.badge, .int .i64 x.frm]] w fun e w' => e = .returned (.iface 82 (.int .i64 (cfCode l x))) ∧ Below w.heap.size w w' := by
  by_cases hf : x.frm = 0
  · unfold cfCode at h; rw [if_pos hf] at h; exact absurd rfl h
  · have hbd := find_bd l x.frm
    by_cases hn : find l x.frm < 0
    · rw [show cfCode l x = 5 by unfold cfCode; rw [if_neg hf, if_pos hn]]
      exact cf_none a c l x w hw hm hf (by omega)
    · obtain ⟨j, hj⟩ : ∃ j : Nat, find l x.frm = (j : Int) := ⟨(find l x.frm).toNat, by omega⟩
      obtain ⟨y, hy, he⟩ := find_get hj
      rw [cfCode_at hf hj hy] at h ⊢
      rcases hw with rfl | ⟨b, o, rfl, hb, hx⟩
      · simp at hy
      · unfold cfOf at h ⊢
        by_cases hd : drvCode y x.rights x.badge = 0
        · rw [if_neg (by simp [hd])] at h ⊢
          by_cases h2 : y.thing = x.thing ∧ (y.badge = 0 ∨ y.badge = x.badge)
          · rw [if_pos h2] at h; exact absurd rfl h
          · rw [if_neg h2]
            by_cases ht : y.thing = x.thing
            · by_cases hb0 : y.badge = 0
              · exact absurd ⟨ht, .inl hb0⟩ h2
              · exact cf_ne2 b o c l x y j w hb hx hm hf hj hy hd hb0 ht (fun e => h2 ⟨ht, .inr e⟩)
            · by_cases hb0 : y.badge = 0
              · exact cf_ne0 b o c l x y j w hb hx hm hf hj hy hd hb0 ht
              · exact cf_ne1 b o c l x y j w hb hx hm hf hj hy hd hb0 ht
        · rw [if_pos hd]
          exact cf_derr b o c l x y j w hb hx hm hf hj hy hd
set_option maxHeartbeats 4000000 in
theorem chk_some (b o c : Nat) (l : List Wr) (w : World) (hw : ∀ j x, l[j]? = some x → WrAt w b (o + j * 5) x) (hb : b < w.heap.size) (hm : l.length ≤ 1000) (hcap : l.length ≤ c) (hc63 : c ≤ maxLen) :
    Calls Tryz.prog 26 #[.slice (some ⟨b, o, none⟩) l.length c] w fun e w' => ∃ v, e = .returned v ∧ ErrIs 82 v (chk l) ∧ Below w.heap.size w w' := by
  unfold maxLen at hc63
  go_enter Tryz.func26, Tryz.ntmps26
  go_wp2
  go_loopw [9] (fun i wr => ∃ k : Nat, k ≤ l.length ∧ i = .int .i64 k ∧ Hid (chkFrom l (l.length - k) k = chk l) ∧ Below w.heap.size w wr) (fun i _ => l.length - (intOf i).toNat)
  case atStart => exact ⟨0, Nat.zero_le _, rfl, (show Hid _ from rfl), Below.refl _ _⟩
  case round =>
    obtain ⟨k, hk, rfl, hn, hbl⟩ := hrel
    by_cases hlt : k < l.length
    · obtain ⟨x, hx⟩ : ∃ x, l[k]? = some x := ⟨l[k], List.getElem?_eq_getElem hlt⟩
      obtain ⟨q1, q2, q3, q4, q5⟩ := (hw k x hx).below hbl hb
      have HX : Hid (l[k]? = some x) := hx
      clear hx
      have hbz : b < wr.heap.size := Nat.lt_of_lt_of_le hb hbl.size
      by_cases hok : wrOk x
      · cases k with
        | zero =>
          have e0 : o + 0 * 5 = o := by omega
          rw [e0] at q1 q2 q3 q4 q5
          have HS : Hid (shapeBad l 0 x = false) := (show Hid _ from rfl)
          go_wp2_with fail
          refine (wcheck_ok x _ hok).mono ?_
          rintro e w1 ⟨rfl, hb1⟩
          have bl1 : Below w.heap.size w w1 := Below_after (hbl.alloc hbl.size _) hb1
          obtain ⟨p1, p2, p3, p4, p5⟩ := (WrAt_new wr 88 x).below hb1 (by simp)
          have hz1 : wr.heap.size < w1.heap.size := by have := hb1.size; simp at this; omega
          have sy1 : ∀ m, SY wr.heap.size x (w1.drewN m) := fun m => SY_below (below_drewN (Below.refl _ _) m) ⟨p1, p2, p3, p4, p5, hz1⟩
          clear hb1
          have hkt : (l.take 0).length = 0 := by simp <;> omega
          have hwt : ∀ v : World, Below w.heap.size w v → WrsAt v (some ⟨b, o, none⟩) (l.take 0) := fun v hv => WrsTake (Nat.lt_of_lt_of_le hb hv.size) (fun j y hy => (hw j y hy).below hv hb) _
          rcases Classical.em (cfCode (l.take 0) x = 0) with hcf' | hcf'
          · have hcf : Hid (cfCode (l.take 0) x = 0) := hcf'
            clear hcf'
            go_wp2_with fail
            go_quiet (fail)
            go_wp2_with fail
            have hcon := fun v hv => cf_good (some ⟨b, o, none⟩) c (l.take 0) x v (hwt v hv) (by omega) hcf.out
            rw [hkt] at hcon
            refine wp_region_held_drew (S := SY wr.heap.size x) (by kernel_rfl) ?_ (fun hHeld => ?_)
            · first | exact sy1 _ | exact sy1 0
            refine tkI 0 (.slice (some ⟨b, o, none⟩) l.length c) rfl ?_
            refine tkI 1 (.int .i64 ((0 : Nat) : Int)) rfl ?_
            refine tkJ 2 (.slice (some ⟨b, o, none⟩) 0 c) rfl (by intro w hSw; (try dsimp only at hSw); go_simp <;> (intro hh; exfalso; have := hh (by omega); omega)) ?_
            refine tkI 3 (.agg #[.int .i64 x.id, .int .i64 x.thing, .int .i64 x.rights, .int .i64 x.badge, .int .i64 x.frm]) rfl ?_
            refine rdI 4 rfl (fun K hK => ?_)
            go_wp2_with (go_at_call 60; refine (hcon _ (below_drewN bl1 _).drew).mono ?_; rintro e w2 ⟨rfl, hb2⟩)
            refine hK.out _ _ ?_ (fun hHeld => ?_)
            · exact SY_below hb2 (by assumption)
            clear hK K
            (try simp only [Act.put, List.setIfInBounds_toArray, List.set_cons_zero, List.set_cons_succ])
            have bl2 : Below w.heap.size w w2 := by
              refine Below_after ?_ hb2
              exact (below_drewN bl1 _).drew
            refine rdI 5 rfl (fun K hK => ?_)
            go_wp2_with fail
            refine hK.out _ _ ?_ (fun hHeld => ?_)
            · assumption
            clear hK K
            (try simp only [Act.put, List.setIfInBounds_toArray, List.set_cons_zero, List.set_cons_succ])
            refine wpAnyH_done (by kernel_rfl) ?_ _
            go_wp2_with fail
            go_roundw
            case rel => exact ⟨0 + 1, by omega, by go_num, (show Hid _ from chk_next HX.out hn.out (ckCode_cf HX.out hok HS.out hcf.out)), bl2⟩
            case measure => simp [intOf]; omega
          · have hcf : Hid (¬ cfCode (l.take 0) x = 0) := hcf'
            clear hcf'
            go_wp2_with fail
            go_quiet (fail)
            go_wp2_with fail
            have hcon := fun v hv => cf_bad (some ⟨b, o, none⟩) c (l.take 0) x v (hwt v hv) (by omega) hcf.out
            rw [hkt] at hcon
            refine wp_region_held_drew (S := SY wr.heap.size x) (by kernel_rfl) ?_ (fun hHeld => ?_)
            · first | exact sy1 _ | exact sy1 0
            refine tkI 0 (.slice (some ⟨b, o, none⟩) l.length c) rfl ?_
            refine tkI 1 (.int .i64 ((0 : Nat) : Int)) rfl ?_
            refine tkJ 2 (.slice (some ⟨b, o, none⟩) 0 c) rfl (by intro w hSw; (try dsimp only at hSw); go_simp <;> (intro hh; exfalso; have := hh (by omega); omega)) ?_
            refine tkI 3 (.agg #[.int .i64 x.id, .int .i64 x.thing, .int .i64 x.rights, .int .i64 x.badge, .int .i64 x.frm]) rfl ?_
            refine rdI 4 rfl (fun K hK => ?_)
            go_wp2_with (go_at_call 60; refine (hcon _ (below_drewN bl1 _).drew).mono ?_; rintro e w2 ⟨rfl, hb2⟩)
            refine hK.out _ _ ?_ (fun hHeld => ?_)
            · exact SY_below hb2 (by assumption)
            clear hK K
            (try simp only [Act.put, List.setIfInBounds_toArray, List.set_cons_zero, List.set_cons_succ])
            have bl2 : Below w.heap.size w w2 := by
              refine Below_after ?_ hb2
              exact (below_drewN bl1 _).drew
            refine rdI 5 rfl (fun K hK => ?_)
            go_wp2_with fail
            refine hK.out _ _ ?_ (fun hHeld => ?_)
            · assumption
            clear hK K
            (try simp only [Act.put, List.setIfInBounds_toArray, List.set_cons_zero, List.set_cons_succ])
            refine wpAnyH_done (by kernel_rfl) ?_ _
            go_wp2_with fail
            go_ret
            exact ⟨_, rfl, chk_stop HX.out hn.out (ckCode_cfn HX.out hok HS.out) hcf.out, bl2⟩
        | succ j =>
          obtain ⟨y, hy⟩ : ∃ y, l[j]? = some y := ⟨l[j], List.getElem?_eq_getElem (by omega)⟩
          have HY : Hid (l[j]? = some y) := hy
          clear hy
          have dk : decide ((0 : Int) < ((j + 1 : Nat) : Int)) = true := by simp <;> omega
          by_cases h1 : x.id ≤ y.id
          · have f1 : decide (x.id ≤ y.id) = true := decide_eq_true h1
            have HS : Hid (shapeBad l (j + 1) x = true) := by show shapeBad l (j + 1) x = true; rw [shapeBad_succ HY.out]; exact f1
            clear h1
            go_wp2_with fail
            refine (wcheck_ok x _ hok).mono ?_
            rintro e w1 ⟨rfl, hb1⟩
            have bl1 : Below w.heap.size w w1 := Below_after (hbl.alloc hbl.size _) hb1
            obtain ⟨p1, p2, p3, p4, p5⟩ := (WrAt_new wr 88 x).below hb1 (by simp)
            have hz1 : wr.heap.size < w1.heap.size := by have := hb1.size; simp at this; omega
            have sy1 : ∀ m, SY wr.heap.size x (w1.drewN m) := fun m => SY_below (below_drewN (Below.refl _ _) m) ⟨p1, p2, p3, p4, p5, hz1⟩
            obtain ⟨r1, r2, r3, r4, r5⟩ := (hw _ y HY.out).below bl1 hb
            clear hb1 hw
            go_wp2_with fail
            go_quiet (fail)
            go_wp2_with fail
            go_ret
            exact ⟨_, rfl, chk_stop HX.out hn.out (ckCode_shape hok HS.out) (by decide), below_drewN bl1 _⟩
          · have f1 : decide (x.id ≤ y.id) = false := decide_eq_false h1
            have HS : Hid (shapeBad l (j + 1) x = false) := by show shapeBad l (j + 1) x = false; rw [shapeBad_succ HY.out]; exact f1
            clear h1
            go_wp2_with fail
            refine (wcheck_ok x _ hok).mono ?_
            rintro e w1 ⟨rfl, hb1⟩
            have bl1 : Below w.heap.size w w1 := Below_after (hbl.alloc hbl.size _) hb1
            obtain ⟨p1, p2, p3, p4, p5⟩ := (WrAt_new wr 88 x).below hb1 (by simp)
            have hz1 : wr.heap.size < w1.heap.size := by have := hb1.size; simp at this; omega
            have sy1 : ∀ m, SY wr.heap.size x (w1.drewN m) := fun m => SY_below (below_drewN (Below.refl _ _) m) ⟨p1, p2, p3, p4, p5, hz1⟩
            obtain ⟨r1, r2, r3, r4, r5⟩ := (hw _ y HY.out).below bl1 hb
            clear hb1
            have hkt : (l.take (j + 1)).length = (j + 1) := by simp <;> omega
            have hwt : ∀ v : World, Below w.heap.size w v → WrsAt v (some ⟨b, o, none⟩) (l.take (j + 1)) := fun v hv => WrsTake (Nat.lt_of_lt_of_le hb hv.size) (fun j y hy => (hw j y hy).below hv hb) _
            rcases Classical.em (cfCode (l.take (j + 1)) x = 0) with hcf' | hcf'
            · have hcf : Hid (cfCode (l.take (j + 1)) x = 0) := hcf'
              clear hcf'
              go_wp2_with fail
              go_quiet (fail)
              go_wp2_with fail
              have hcon := fun v hv => cf_good (some ⟨b, o, none⟩) c (l.take (j + 1)) x v (hwt v hv) (by omega) hcf.out
              rw [hkt] at hcon
              refine wp_region_held_drew (S := SY wr.heap.size x) (by kernel_rfl) ?_ (fun hHeld => ?_)
              · first | exact sy1 _ | exact sy1 0
              refine tkI 0 (.slice (some ⟨b, o, none⟩) l.length c) rfl ?_
              refine tkI 1 (.int .i64 (((j + 1) : Nat) : Int)) rfl ?_
              refine tkJ 2 (.slice (some ⟨b, o, none⟩) (j + 1) c) rfl (by intro w hSw; (try dsimp only at hSw); go_simp <;> (intro hh; exfalso; have := hh (by omega); omega)) ?_
              refine tkI 3 (.agg #[.int .i64 x.id, .int .i64 x.thing, .int .i64 x.rights, .int .i64 x.badge, .int .i64 x.frm]) rfl ?_
              refine rdI 4 rfl (fun K hK => ?_)
              go_wp2_with (go_at_call 60; refine (hcon _ (below_drewN bl1 _).drew).mono ?_; rintro e w2 ⟨rfl, hb2⟩)
              refine hK.out _ _ ?_ (fun hHeld => ?_)
              · exact SY_below hb2 (by assumption)
              clear hK K
              (try simp only [Act.put, List.setIfInBounds_toArray, List.set_cons_zero, List.set_cons_succ])
              have bl2 : Below w.heap.size w w2 := by
                refine Below_after ?_ hb2
                exact (below_drewN bl1 _).drew
              refine rdI 5 rfl (fun K hK => ?_)
              go_wp2_with fail
              refine hK.out _ _ ?_ (fun hHeld => ?_)
              · assumption
              clear hK K
              (try simp only [Act.put, List.setIfInBounds_toArray, List.set_cons_zero, List.set_cons_succ])
              refine wpAnyH_done (by kernel_rfl) ?_ _
              go_wp2_with fail
              go_roundw
              case rel => exact ⟨(j + 1) + 1, by omega, by go_num, (show Hid _ from chk_next HX.out hn.out (ckCode_cf HX.out hok HS.out hcf.out)), bl2⟩
              case measure => simp [intOf]; omega
            · have hcf : Hid (¬ cfCode (l.take (j + 1)) x = 0) := hcf'
              clear hcf'
              go_wp2_with fail
              go_quiet (fail)
              go_wp2_with fail
              have hcon := fun v hv => cf_bad (some ⟨b, o, none⟩) c (l.take (j + 1)) x v (hwt v hv) (by omega) hcf.out
              rw [hkt] at hcon
              refine wp_region_held_drew (S := SY wr.heap.size x) (by kernel_rfl) ?_ (fun hHeld => ?_)
              · first | exact sy1 _ | exact sy1 0
              refine tkI 0 (.slice (some ⟨b, o, none⟩) l.length c) rfl ?_
              refine tkI 1 (.int .i64 (((j + 1) : Nat) : Int)) rfl ?_
              refine tkJ 2 (.slice (some ⟨b, o, none⟩) (j + 1) c) rfl (by intro w hSw; (try dsimp only at hSw); go_simp <;> (intro hh; exfalso; have := hh (by omega); omega)) ?_
              refine tkI 3 (.agg #[.int .i64 x.id, .int .i64 x.thing, .int .i64 x.rights, .int .i64 x.badge, .int .i64 x.frm]) rfl ?_
              refine rdI 4 rfl (fun K hK => ?_)
              go_wp2_with (go_at_call 60; refine (hcon _ (below_drewN bl1 _).drew).mono ?_; rintro e w2 ⟨rfl, hb2⟩)
              refine hK.out _ _ ?_ (fun hHeld => ?_)
              · exact SY_below hb2 (by assumption)
              clear hK K
              (try simp only [Act.put, List.setIfInBounds_toArray, List.set_cons_zero, List.set_cons_succ])
              have bl2 : Below w.heap.size w w2 := by
                refine Below_after ?_ hb2
                exact (below_drewN bl1 _).drew
              refine rdI 5 rfl (fun K hK => ?_)
              go_wp2_with fail
              refine hK.out _ _ ?_ (fun hHeld => ?_)
              · assumption
              clear hK K
              (try simp only [Act.put, List.setIfInBounds_toArray, List.set_cons_zero, List.set_cons_succ])
              refine wpAnyH_done (by kernel_rfl) ?_ _
              go_wp2_with fail
              go_ret
              exact ⟨_, rfl, chk_stop HX.out hn.out (ckCode_cfn HX.out hok HS.out) hcf.out, bl2⟩
      · go_wp2_with fail
        refine (wcheck_bad x _ hok).mono ?_
        rintro e w1 ⟨rfl, hb1⟩
        have bl1 : Below w.heap.size w w1 := Below_after (hbl.alloc hbl.size _) hb1
        clear hb1 hw
        go_wp2_with fail
        go_ret
        exact ⟨_, rfl, chk_stop HX.out hn.out (ckCode_no hok) (by decide), bl1⟩
    · have h0 := chk_end hn.out hlt
      have H0 : Hid (chk l = 0) := h0
      clear hw h0
      go_wp2_with fail
      go_ret
      exact ⟨_, rfl, .inl ⟨H0.out, rfl⟩, hbl⟩
theorem chk_any (a : Option Addr) (c : Nat) (l : List Wr) (w : World) (hw : WrsAt w a l) (hm : l.length ≤ 1000) (hcap : l.length ≤ c) (hc63 : c ≤ maxLen) :
    Calls Tryz.prog 26 #[.slice a l.length c] w fun e w' => ∃ v, e = .returned v ∧ ErrIs 82 v (chk l) ∧ Below w.heap.size w w' := by
  rcases hw with rfl | ⟨b, o, rfl, hb, hx⟩
  · go_enter Tryz.func26, Tryz.ntmps26
    go_wp2_with fail
    refine wp_loop_rounds 1 ?_
    rw [rounds_succ]
    go_wp2_with fail
    go_ret
    exact ⟨_, rfl, .inl ⟨rfl, rfl⟩, Below.refl _ _⟩
  · exact chk_some b o c l w hx hb hm hcap hc63
theorem chk_good (a : Option Addr) (c : Nat) (l : List Wr) (w : World) (hw : WrsAt w a l) (hm : l.length ≤ 1000) (hcap : l.length ≤ c) (hc63 : c ≤ maxLen) (h : chk l = 0) :
    Calls Tryz.prog 26 #[.slice a l.length c] w fun e w' => e = .returned .nilIface ∧ Below w.heap.size w w' := by
  refine (chk_any a c l w hw hm hcap hc63).mono ?_
  rintro e w1 ⟨v, rfl, hv, hbl⟩
  rcases hv with ⟨_, rfl⟩ | ⟨hn, _⟩
  · exact ⟨rfl, hbl⟩
  · exact absurd h hn
theorem chk_bad (a : Option Addr) (c : Nat) (l : List Wr) (w : World) (hw : WrsAt w a l) (hm : l.length ≤ 1000) (hcap : l.length ≤ c) (hc63 : c ≤ maxLen) (h : ¬ chk l = 0) :
    Calls Tryz.prog 26 #[.slice a l.length c] w fun e w' => e = .returned (.iface 82 (.int .i64 (chk l))) ∧ Below w.heap.size w w' := by
  refine (chk_any a c l w hw hm hcap hc63).mono ?_
  rintro e w1 ⟨v, rfl, hv, hbl⟩
  rcases hv with ⟨hn, _⟩ | ⟨_, rfl⟩
  · exact absurd hn h
  · exact ⟨rfl, hbl⟩
end Go.Proofs.YtddgpgldbekamaaGreatDoor
