/- CheckB: the walks alone (the plain part stands in AllPure). -/
import Derived.Test.YtddgpgldbekamaaGreatDoorAllPure
import Derived.Test.YtddgpgldbekamaaGreatDoorProg
import Derived.Test.YtddgpgldbekamaaGreatDoorCheckW
set_option linter.unusedSimpArgs false
set_option linter.unusedVariables false
namespace Go.Proofs.YtddgpgldbekamaaGreatDoor
open Go.RowKit


set_option maxHeartbeats 1000000 in
theorem cf_derr (b o c : Nat) (l : List Wr) (x y : Wr) (j : Nat) (w : World) (hb : b < w.heap.size) (hw : ∀ j x, l[j]? = some x → WrAt w b (o + j * 5) x) (hm : l.length ≤ 1000) (hf : ¬ x.frm = 0) (hn : find l x.frm = (j : Int)) (hy : l[j]? = some y) (hd : drvCode y x.rights x.badge ≠ 0) :
    Calls Tryz.prog 60 #[.slice (some ⟨b, o, none⟩) l.length c, .agg #[.int .i64 x.id, .int .i64 x.thing, .int .i64 x.rights, .int .i64 x.badge, .int .i64 x.frm]] w fun e w' => e = .returned (.iface 82 (.int .i64 (drvCode y x.rights x.badge))) ∧ Below w.heap.size w w' := by
  have d1 : (x.frm == 0) = false := by simp [hf]
  have hjl : j < l.length := (List.getElem?_eq_some_iff.1 hy).1
  have hbl0 : Below w.heap.size w (w.alloc (.cells #[.int .i64 x.id, .int .i64 x.thing, .int .i64 x.rights, .int .i64 x.badge, .int .i64 x.frm] 88)) := (Below.refl _ _).alloc (Nat.le_refl _) _
  have px0 := WrAt_new w 88 x
  clear hf
  go_enter Tryz.func60, Tryz.ntmps60
  go_wp2_with fail
  refine (find_any (some ⟨b, o, none⟩) c l x.frm _ (WrsAt.below hbl0 (.inr ⟨b, o, rfl, hb, hw⟩)) (by omega)).mono ?_
  rintro e w1 ⟨rfl, hb1⟩
  have bl1 : Below w.heap.size w w1 := Below_after hbl0 hb1
  have px : WrAt w1 w.heap.size 0 x := px0.below hb1 (by simp)
  have py : WrAt w1 b (o + j * 5) y := (hw j y hy).below bl1 hb
  have hz1 : w.heap.size < w1.heap.size := by have := hb1.size; simp at this; omega
  have hbz : b < w1.heap.size := by omega
  clear hb1 px0 hbl0 hw hy
  have sx1 : SX w.heap.size b (o + j * 5) x y w1 := SX_mk px py hz1 hbz
  clear px py
  go_wp2_with fail
  refine wp_region_held_drew (S := SX w.heap.size b (o + j * 5) x y) (by kernel_rfl) ?_ (fun hHeld => ?_)
  · exact sx1
  refine tkI 0 (.slice (some ⟨b, o, none⟩) l.length c) rfl ?_
  refine tkI 1 (.int .i64 (j : Int)) rfl ?_
  refine tkI 2 (.pointer (some ⟨b, o + j * 5, none⟩)) rfl ?_
  refine tkI 3 (.agg #[.int .i64 y.id, .int .i64 y.thing, .int .i64 y.rights, .int .i64 y.badge, .int .i64 y.frm]) rfl ?_
  refine tkI 4 (.pointer (some ⟨w.heap.size, 0, none⟩)) rfl ?_
  refine tkI 5 (.int .i64 x.id) rfl ?_
  refine tkI 6 (.pointer (some ⟨w.heap.size, 2, none⟩)) rfl ?_
  refine tkI 7 (.int .i64 x.rights) rfl ?_
  refine tkI 8 (.pointer (some ⟨w.heap.size, 3, none⟩)) rfl ?_
  refine tkI 9 (.int .i64 x.badge) rfl ?_
  refine rdJ 10 14 rfl rfl (fun K hK => ?_) (fun K hK => ?_)
  · go_wp2_with (go_at_call 120; refine (derive_err y x.id x.rights x.badge _ hd).mono ?_; rintro e w2 ⟨rfl, hb2⟩)
    refine hK.out _ _ ?_ (fun hHeld => ?_)
    · exact SX_below hb2 (by assumption)
    clear hK K
    (try simp only [Act.put, List.setIfInBounds_toArray, List.set_cons_zero, List.set_cons_succ])
    refine tkI 11 (.tuple #[.agg #[.int .i64 0, .int .i64 0, .int .i64 0, .int .i64 0, .int .i64 0], .iface 82 (.int .i64 (drvCode y x.rights x.badge))]) rfl ?_
    refine tkI 12 (.agg #[.int .i64 0, .int .i64 0, .int .i64 0, .int .i64 0, .int .i64 0]) rfl ?_
    refine tkI 13 (.iface 82 (.int .i64 (drvCode y x.rights x.badge))) rfl ?_
    refine rdI 14 rfl (fun K hK => ?_)
    go_wp2_with fail
    refine hK.out _ _ ?_ (fun hHeld => ?_)
    · exact SX_alloc _ (by assumption)
    clear hK K
    (try simp only [Act.put, List.setIfInBounds_toArray, List.set_cons_zero, List.set_cons_succ])
    have hz2 : w.heap.size < w2.heap.size := Nat.lt_of_lt_of_le hz1 hb2.size
    have hy2 : b < w2.heap.size := Nat.lt_of_lt_of_le hbz hb2.size
    have bl2 : Below w.heap.size w w2 := by
      refine Below_after ?_ hb2
      exact bl1.drew
    refine rdI 15 rfl (fun K hK => ?_)
    go_wp2_with fail
    refine hK.out _ _ ?_ (fun hHeld => ?_)
    · (repeat (first | exact SX_alloc _ (by assumption) | refine SX_set _ _ (by simp; omega) (by simp; omega) ?_ | assumption))
    clear hK K
    (try simp only [Act.put, List.setIfInBounds_toArray, List.set_cons_zero, List.set_cons_succ])
    refine rdI 16 rfl (fun K hK => ?_)
    go_wp2_with fail
    refine hK.out _ _ ?_ (fun hHeld => ?_)
    · assumption
    clear hK K
    (try simp only [Act.put, List.setIfInBounds_toArray, List.set_cons_zero, List.set_cons_succ])
    refine wpAnyH_done (by kernel_rfl) ?_ _
    go_wp2_with fail
    go_ret
    refine ⟨rfl, ?_⟩
    repeat (first | exact bl2 | refine Below.drew ?_ | refine Below.setCell ?_ (by first | omega | (simp; omega)) _ | refine Below.alloc ?_ (by first | omega | (simp; omega)) _)
  · go_wp2_with fail
    refine hK.out _ _ ?_ (fun hHeld => ?_)
    · exact SX_alloc _ (by assumption)
    clear hK K
    (try simp only [Act.put, List.setIfInBounds_toArray, List.set_cons_zero, List.set_cons_succ])
    refine rdI 10 rfl (fun K hK => ?_)
    go_wp2_with (go_at_call 120; refine (derive_err y x.id x.rights x.badge _ hd).mono ?_; rintro e w2 ⟨rfl, hb2⟩)
    refine hK.out _ _ ?_ (fun hHeld => ?_)
    · exact SX_below hb2 (by assumption)
    clear hK K
    (try simp only [Act.put, List.setIfInBounds_toArray, List.set_cons_zero, List.set_cons_succ])
    have g0 : w2.cell? ⟨w1.heap.size, 0, none⟩ = some (.int .i64 0) := by rw [(bcell hb2).1 _ _ (by simp)]; simp
    have f0 : w2.frozen? ⟨w1.heap.size, 0, none⟩ = false := by rw [(bcell hb2).2 _ _ (by simp)]; simp
    have g1 : w2.cell? ⟨w1.heap.size, 1, none⟩ = some (.int .i64 0) := by rw [(bcell hb2).1 _ _ (by simp)]; simp
    have f1 : w2.frozen? ⟨w1.heap.size, 1, none⟩ = false := by rw [(bcell hb2).2 _ _ (by simp)]; simp
    have g2 : w2.cell? ⟨w1.heap.size, 2, none⟩ = some (.int .i64 0) := by rw [(bcell hb2).1 _ _ (by simp)]; simp
    have f2 : w2.frozen? ⟨w1.heap.size, 2, none⟩ = false := by rw [(bcell hb2).2 _ _ (by simp)]; simp
    have g3 : w2.cell? ⟨w1.heap.size, 3, none⟩ = some (.int .i64 0) := by rw [(bcell hb2).1 _ _ (by simp)]; simp
    have f3 : w2.frozen? ⟨w1.heap.size, 3, none⟩ = false := by rw [(bcell hb2).2 _ _ (by simp)]; simp
    have g4 : w2.cell? ⟨w1.heap.size, 4, none⟩ = some (.int .i64 0) := by rw [(bcell hb2).1 _ _ (by simp)]; simp
    have f4 : w2.frozen? ⟨w1.heap.size, 4, none⟩ = false := by rw [(bcell hb2).2 _ _ (by simp)]; simp
    have hz2 : w1.heap.size < w2.heap.size := by have := hb2.size; simp at this; omega
    have hy2 : b < w2.heap.size := by omega
    have bl2 : Below w.heap.size w w2 := by
      refine Below_after ?_ hb2
      exact bl1.drew.alloc (Nat.le_of_lt hz1) _
    refine tkI 11 (.tuple #[.agg #[.int .i64 0, .int .i64 0, .int .i64 0, .int .i64 0, .int .i64 0], .iface 82 (.int .i64 (drvCode y x.rights x.badge))]) rfl ?_
    refine tkI 12 (.agg #[.int .i64 0, .int .i64 0, .int .i64 0, .int .i64 0, .int .i64 0]) rfl ?_
    refine tkI 13 (.iface 82 (.int .i64 (drvCode y x.rights x.badge))) rfl ?_
    refine rdI 15 rfl (fun K hK => ?_)
    go_wp2_with fail
    refine hK.out _ _ ?_ (fun hHeld => ?_)
    · (repeat (first | refine SX_set _ _ (by simp; omega) (by simp; omega) ?_ | assumption))
    clear hK K
    (try simp only [Act.put, List.setIfInBounds_toArray, List.set_cons_zero, List.set_cons_succ])
    refine rdI 16 rfl (fun K hK => ?_)
    go_wp2_with fail
    refine hK.out _ _ ?_ (fun hHeld => ?_)
    · assumption
    clear hK K
    (try simp only [Act.put, List.setIfInBounds_toArray, List.set_cons_zero, List.set_cons_succ])
    refine wpAnyH_done (by kernel_rfl) ?_ _
    go_wp2_with fail
    go_ret
    refine ⟨rfl, ?_⟩
    repeat (first | exact bl2 | refine Below.drew ?_ | refine Below.setCell ?_ (by first | omega | (simp; omega)) _ | refine Below.alloc ?_ (by first | omega | (simp; omega)) _)
set_option maxHeartbeats 1000000 in
theorem cf_ok0 (b o c : Nat) (l : List Wr) (x y : Wr) (j : Nat) (w : World) (hb : b < w.heap.size) (hw : ∀ j x, l[j]? = some x → WrAt w b (o + j * 5) x) (hm : l.length ≤ 1000) (hf : ¬ x.frm = 0) (hn : find l x.frm = (j : Int)) (hy : l[j]? = some y) (hd : drvCode y x.rights x.badge = 0) (hyb : Hid (y.badge = 0)) (he1 : Hid (y.thing = x.thing)) (he2 : Hid (y.id = x.frm)) :
    Calls Tryz.prog 60 #[.slice (some ⟨b, o, none⟩) l.length c, .agg #[.int .i64 x.id, .int .i64 x.thing, .int .i64 x.rights, .int .i64 x.badge, .int .i64 x.frm]] w fun e w' => e = .returned .nilIface ∧ Below w.heap.size w w' := by
  have d1 : (x.frm == 0) = false := by simp [hf]
  have hjl : j < l.length := (List.getElem?_eq_some_iff.1 hy).1
  have hbl0 : Below w.heap.size w (w.alloc (.cells #[.int .i64 x.id, .int .i64 x.thing, .int .i64 x.rights, .int .i64 x.badge, .int .i64 x.frm] 88)) := (Below.refl _ _).alloc (Nat.le_refl _) _
  have px0 := WrAt_new w 88 x
  clear hf
  go_enter Tryz.func60, Tryz.ntmps60
  go_wp2_with fail
  refine (find_any (some ⟨b, o, none⟩) c l x.frm _ (WrsAt.below hbl0 (.inr ⟨b, o, rfl, hb, hw⟩)) (by omega)).mono ?_
  rintro e w1 ⟨rfl, hb1⟩
  have bl1 : Below w.heap.size w w1 := Below_after hbl0 hb1
  have px : WrAt w1 w.heap.size 0 x := px0.below hb1 (by simp)
  have py : WrAt w1 b (o + j * 5) y := (hw j y hy).below bl1 hb
  have hz1 : w.heap.size < w1.heap.size := by have := hb1.size; simp at this; omega
  have hbz : b < w1.heap.size := by omega
  clear hb1 px0 hbl0 hw hy
  have sx1 : SX w.heap.size b (o + j * 5) x y w1 := SX_mk px py hz1 hbz
  clear px py
  go_wp2_with fail
  refine wp_region_held_drew (S := SX w.heap.size b (o + j * 5) x y) (by kernel_rfl) ?_ (fun hHeld => ?_)
  · exact sx1
  refine tkI 0 (.slice (some ⟨b, o, none⟩) l.length c) rfl ?_
  refine tkI 1 (.int .i64 (j : Int)) rfl ?_
  refine tkI 2 (.pointer (some ⟨b, o + j * 5, none⟩)) rfl ?_
  refine tkI 3 (.agg #[.int .i64 y.id, .int .i64 y.thing, .int .i64 y.rights, .int .i64 y.badge, .int .i64 y.frm]) rfl ?_
  refine tkI 4 (.pointer (some ⟨w.heap.size, 0, none⟩)) rfl ?_
  refine tkI 5 (.int .i64 x.id) rfl ?_
  refine tkI 6 (.pointer (some ⟨w.heap.size, 2, none⟩)) rfl ?_
  refine tkI 7 (.int .i64 x.rights) rfl ?_
  refine tkI 8 (.pointer (some ⟨w.heap.size, 3, none⟩)) rfl ?_
  refine tkI 9 (.int .i64 x.badge) rfl ?_
  refine rdJ 10 14 rfl rfl (fun K hK => ?_) (fun K hK => ?_)
  · go_wp2_with (go_at_call 120; refine (derive_ok0 y x.id x.rights x.badge _ hd hyb.out).mono ?_; rintro e w2 ⟨rfl, hb2⟩)
    refine hK.out _ _ ?_ (fun hHeld => ?_)
    · exact SX_below hb2 (by assumption)
    clear hK K
    (try simp only [Act.put, List.setIfInBounds_toArray, List.set_cons_zero, List.set_cons_succ])
    refine tkI 11 (.tuple #[.agg #[.int .i64 x.id, .int .i64 y.thing, .int .i64 x.rights, .int .i64 x.badge, .int .i64 y.id], .nilIface]) rfl ?_
    refine tkI 12 (.agg #[.int .i64 x.id, .int .i64 y.thing, .int .i64 x.rights, .int .i64 x.badge, .int .i64 y.id]) rfl ?_
    refine tkI 13 (.nilIface) rfl ?_
    refine rdI 14 rfl (fun K hK => ?_)
    go_wp2_with fail
    refine hK.out _ _ ?_ (fun hHeld => ?_)
    · exact SX_alloc _ (by assumption)
    clear hK K
    (try simp only [Act.put, List.setIfInBounds_toArray, List.set_cons_zero, List.set_cons_succ])
    have hz2 : w.heap.size < w2.heap.size := Nat.lt_of_lt_of_le hz1 hb2.size
    have hy2 : b < w2.heap.size := Nat.lt_of_lt_of_le hbz hb2.size
    have bl2 : Below w.heap.size w w2 := by
      refine Below_after ?_ hb2
      exact bl1.drew
    refine rdI 15 rfl (fun K hK => ?_)
    go_wp2_with fail
    refine hK.out _ _ ?_ (fun hHeld => ?_)
    · (repeat (first | exact SX_alloc _ (by assumption) | refine SX_set _ _ (by simp; omega) (by simp; omega) ?_ | assumption))
    clear hK K
    (try simp only [Act.put, List.setIfInBounds_toArray, List.set_cons_zero, List.set_cons_succ])
    refine rdI 16 rfl (fun K hK => ?_)
    go_wp2_with fail
    refine hK.out _ _ ?_ (fun hHeld => ?_)
    · assumption
    clear hK K
    (try simp only [Act.put, List.setIfInBounds_toArray, List.set_cons_zero, List.set_cons_succ])
    refine wpAnyH_done (by kernel_rfl) ?_ _
    have e1 := he1.out
    have e2 := he2.out
    go_wp2_with fail
    go_ret
    refine ⟨rfl, ?_⟩
    repeat (first | exact bl2 | refine Below.drew ?_ | refine Below.setCell ?_ (by first | omega | (simp; omega)) _ | refine Below.alloc ?_ (by first | omega | (simp; omega)) _)
  · go_wp2_with fail
    refine hK.out _ _ ?_ (fun hHeld => ?_)
    · exact SX_alloc _ (by assumption)
    clear hK K
    (try simp only [Act.put, List.setIfInBounds_toArray, List.set_cons_zero, List.set_cons_succ])
    refine rdI 10 rfl (fun K hK => ?_)
    go_wp2_with (go_at_call 120; refine (derive_ok0 y x.id x.rights x.badge _ hd hyb.out).mono ?_; rintro e w2 ⟨rfl, hb2⟩)
    refine hK.out _ _ ?_ (fun hHeld => ?_)
    · exact SX_below hb2 (by assumption)
    clear hK K
    (try simp only [Act.put, List.setIfInBounds_toArray, List.set_cons_zero, List.set_cons_succ])
    have g0 : w2.cell? ⟨w1.heap.size, 0, none⟩ = some (.int .i64 0) := by rw [(bcell hb2).1 _ _ (by simp)]; simp
    have f0 : w2.frozen? ⟨w1.heap.size, 0, none⟩ = false := by rw [(bcell hb2).2 _ _ (by simp)]; simp
    have g1 : w2.cell? ⟨w1.heap.size, 1, none⟩ = some (.int .i64 0) := by rw [(bcell hb2).1 _ _ (by simp)]; simp
    have f1 : w2.frozen? ⟨w1.heap.size, 1, none⟩ = false := by rw [(bcell hb2).2 _ _ (by simp)]; simp
    have g2 : w2.cell? ⟨w1.heap.size, 2, none⟩ = some (.int .i64 0) := by rw [(bcell hb2).1 _ _ (by simp)]; simp
    have f2 : w2.frozen? ⟨w1.heap.size, 2, none⟩ = false := by rw [(bcell hb2).2 _ _ (by simp)]; simp
    have g3 : w2.cell? ⟨w1.heap.size, 3, none⟩ = some (.int .i64 0) := by rw [(bcell hb2).1 _ _ (by simp)]; simp
    have f3 : w2.frozen? ⟨w1.heap.size, 3, none⟩ = false := by rw [(bcell hb2).2 _ _ (by simp)]; simp
    have g4 : w2.cell? ⟨w1.heap.size, 4, none⟩ = some (.int .i64 0) := by rw [(bcell hb2).1 _ _ (by simp)]; simp
    have f4 : w2.frozen? ⟨w1.heap.size, 4, none⟩ = false := by rw [(bcell hb2).2 _ _ (by simp)]; simp
    have hz2 : w1.heap.size < w2.heap.size := by have := hb2.size; simp at this; omega
    have hy2 : b < w2.heap.size := by omega
    have bl2 : Below w.heap.size w w2 := by
      refine Below_after ?_ hb2
      exact bl1.drew.alloc (Nat.le_of_lt hz1) _
    refine tkI 11 (.tuple #[.agg #[.int .i64 x.id, .int .i64 y.thing, .int .i64 x.rights, .int .i64 x.badge, .int .i64 y.id], .nilIface]) rfl ?_
    refine tkI 12 (.agg #[.int .i64 x.id, .int .i64 y.thing, .int .i64 x.rights, .int .i64 x.badge, .int .i64 y.id]) rfl ?_
    refine tkI 13 (.nilIface) rfl ?_
    refine rdI 15 rfl (fun K hK => ?_)
    go_wp2_with fail
    refine hK.out _ _ ?_ (fun hHeld => ?_)
    · (repeat (first | refine SX_set _ _ (by simp; omega) (by simp; omega) ?_ | assumption))
    clear hK K
    (try simp only [Act.put, List.setIfInBounds_toArray, List.set_cons_zero, List.set_cons_succ])
    refine rdI 16 rfl (fun K hK => ?_)
    go_wp2_with fail
    refine hK.out _ _ ?_ (fun hHeld => ?_)
    · assumption
    clear hK K
    (try simp only [Act.put, List.setIfInBounds_toArray, List.set_cons_zero, List.set_cons_succ])
    refine wpAnyH_done (by kernel_rfl) ?_ _
    have e1 := he1.out
    have e2 := he2.out
    go_wp2_with fail
    go_ret
    refine ⟨rfl, ?_⟩
    repeat (first | exact bl2 | refine Below.drew ?_ | refine Below.setCell ?_ (by first | omega | (simp; omega)) _ | refine Below.alloc ?_ (by first | omega | (simp; omega)) _)
set_option maxHeartbeats 1000000 in
theorem cf_ok1 (b o c : Nat) (l : List Wr) (x y : Wr) (j : Nat) (w : World) (hb : b < w.heap.size) (hw : ∀ j x, l[j]? = some x → WrAt w b (o + j * 5) x) (hm : l.length ≤ 1000) (hf : ¬ x.frm = 0) (hn : find l x.frm = (j : Int)) (hy : l[j]? = some y) (hd : drvCode y x.rights x.badge = 0) (hyb : Hid (¬ y.badge = 0)) (he1 : Hid (y.thing = x.thing)) (he2 : Hid (y.id = x.frm)) (he3 : Hid (y.badge = x.badge)) :
    Calls Tryz.prog 60 #[.slice (some ⟨b, o, none⟩) l.length c, .agg #[.int .i64 x.id, .int .i64 x.thing, .int .i64 x.rights, .int .i64 x.badge, .int .i64 x.frm]] w fun e w' => e = .returned .nilIface ∧ Below w.heap.size w w' := by
  have d1 : (x.frm == 0) = false := by simp [hf]
  have hjl : j < l.length := (List.getElem?_eq_some_iff.1 hy).1
  have hbl0 : Below w.heap.size w (w.alloc (.cells #[.int .i64 x.id, .int .i64 x.thing, .int .i64 x.rights, .int .i64 x.badge, .int .i64 x.frm] 88)) := (Below.refl _ _).alloc (Nat.le_refl _) _
  have px0 := WrAt_new w 88 x
  clear hf
  go_enter Tryz.func60, Tryz.ntmps60
  go_wp2_with fail
  refine (find_any (some ⟨b, o, none⟩) c l x.frm _ (WrsAt.below hbl0 (.inr ⟨b, o, rfl, hb, hw⟩)) (by omega)).mono ?_
  rintro e w1 ⟨rfl, hb1⟩
  have bl1 : Below w.heap.size w w1 := Below_after hbl0 hb1
  have px : WrAt w1 w.heap.size 0 x := px0.below hb1 (by simp)
  have py : WrAt w1 b (o + j * 5) y := (hw j y hy).below bl1 hb
  have hz1 : w.heap.size < w1.heap.size := by have := hb1.size; simp at this; omega
  have hbz : b < w1.heap.size := by omega
  clear hb1 px0 hbl0 hw hy
  have sx1 : SX w.heap.size b (o + j * 5) x y w1 := SX_mk px py hz1 hbz
  clear px py
  go_wp2_with fail
  refine wp_region_held_drew (S := SX w.heap.size b (o + j * 5) x y) (by kernel_rfl) ?_ (fun hHeld => ?_)
  · exact sx1
  refine tkI 0 (.slice (some ⟨b, o, none⟩) l.length c) rfl ?_
  refine tkI 1 (.int .i64 (j : Int)) rfl ?_
  refine tkI 2 (.pointer (some ⟨b, o + j * 5, none⟩)) rfl ?_
  refine tkI 3 (.agg #[.int .i64 y.id, .int .i64 y.thing, .int .i64 y.rights, .int .i64 y.badge, .int .i64 y.frm]) rfl ?_
  refine tkI 4 (.pointer (some ⟨w.heap.size, 0, none⟩)) rfl ?_
  refine tkI 5 (.int .i64 x.id) rfl ?_
  refine tkI 6 (.pointer (some ⟨w.heap.size, 2, none⟩)) rfl ?_
  refine tkI 7 (.int .i64 x.rights) rfl ?_
  refine tkI 8 (.pointer (some ⟨w.heap.size, 3, none⟩)) rfl ?_
  refine tkI 9 (.int .i64 x.badge) rfl ?_
  refine rdJ 10 14 rfl rfl (fun K hK => ?_) (fun K hK => ?_)
  · go_wp2_with (go_at_call 120; refine (derive_ok1 y x.id x.rights x.badge _ hd hyb.out).mono ?_; rintro e w2 ⟨rfl, hb2⟩)
    refine hK.out _ _ ?_ (fun hHeld => ?_)
    · exact SX_below hb2 (by assumption)
    clear hK K
    (try simp only [Act.put, List.setIfInBounds_toArray, List.set_cons_zero, List.set_cons_succ])
    refine tkI 11 (.tuple #[.agg #[.int .i64 x.id, .int .i64 y.thing, .int .i64 x.rights, .int .i64 y.badge, .int .i64 y.id], .nilIface]) rfl ?_
    refine tkI 12 (.agg #[.int .i64 x.id, .int .i64 y.thing, .int .i64 x.rights, .int .i64 y.badge, .int .i64 y.id]) rfl ?_
    refine tkI 13 (.nilIface) rfl ?_
    refine rdI 14 rfl (fun K hK => ?_)
    go_wp2_with fail
    refine hK.out _ _ ?_ (fun hHeld => ?_)
    · exact SX_alloc _ (by assumption)
    clear hK K
    (try simp only [Act.put, List.setIfInBounds_toArray, List.set_cons_zero, List.set_cons_succ])
    have hz2 : w.heap.size < w2.heap.size := Nat.lt_of_lt_of_le hz1 hb2.size
    have hy2 : b < w2.heap.size := Nat.lt_of_lt_of_le hbz hb2.size
    have bl2 : Below w.heap.size w w2 := by
      refine Below_after ?_ hb2
      exact bl1.drew
    refine rdI 15 rfl (fun K hK => ?_)
    go_wp2_with fail
    refine hK.out _ _ ?_ (fun hHeld => ?_)
    · (repeat (first | exact SX_alloc _ (by assumption) | refine SX_set _ _ (by simp; omega) (by simp; omega) ?_ | assumption))
    clear hK K
    (try simp only [Act.put, List.setIfInBounds_toArray, List.set_cons_zero, List.set_cons_succ])
    refine rdI 16 rfl (fun K hK => ?_)
    go_wp2_with fail
    refine hK.out _ _ ?_ (fun hHeld => ?_)
    · assumption
    clear hK K
    (try simp only [Act.put, List.setIfInBounds_toArray, List.set_cons_zero, List.set_cons_succ])
    refine wpAnyH_done (by kernel_rfl) ?_ _
    have e1 := he1.out
    have e2 := he2.out
    have e3 := he3.out
    go_wp2_with fail
    go_ret
    refine ⟨rfl, ?_⟩
    repeat (first | exact bl2 | refine Below.drew ?_ | refine Below.setCell ?_ (by first | omega | (simp; omega)) _ | refine Below.alloc ?_ (by first | omega | (simp; omega)) _)
  · go_wp2_with fail
    refine hK.out _ _ ?_ (fun hHeld => ?_)
    · exact SX_alloc _ (by assumption)
    clear hK K
    (try simp only [Act.put, List.setIfInBounds_toArray, List.set_cons_zero, List.set_cons_succ])
    refine rdI 10 rfl (fun K hK => ?_)
    go_wp2_with (go_at_call 120; refine (derive_ok1 y x.id x.rights x.badge _ hd hyb.out).mono ?_; rintro e w2 ⟨rfl, hb2⟩)
    refine hK.out _ _ ?_ (fun hHeld => ?_)
    · exact SX_below hb2 (by assumption)
    clear hK K
    (try simp only [Act.put, List.setIfInBounds_toArray, List.set_cons_zero, List.set_cons_succ])
    have g0 : w2.cell? ⟨w1.heap.size, 0, none⟩ = some (.int .i64 0) := by rw [(bcell hb2).1 _ _ (by simp)]; simp
    have f0 : w2.frozen? ⟨w1.heap.size, 0, none⟩ = false := by rw [(bcell hb2).2 _ _ (by simp)]; simp
    have g1 : w2.cell? ⟨w1.heap.size, 1, none⟩ = some (.int .i64 0) := by rw [(bcell hb2).1 _ _ (by simp)]; simp
    have f1 : w2.frozen? ⟨w1.heap.size, 1, none⟩ = false := by rw [(bcell hb2).2 _ _ (by simp)]; simp
    have g2 : w2.cell? ⟨w1.heap.size, 2, none⟩ = some (.int .i64 0) := by rw [(bcell hb2).1 _ _ (by simp)]; simp
    have f2 : w2.frozen? ⟨w1.heap.size, 2, none⟩ = false := by rw [(bcell hb2).2 _ _ (by simp)]; simp
    have g3 : w2.cell? ⟨w1.heap.size, 3, none⟩ = some (.int .i64 0) := by rw [(bcell hb2).1 _ _ (by simp)]; simp
    have f3 : w2.frozen? ⟨w1.heap.size, 3, none⟩ = false := by rw [(bcell hb2).2 _ _ (by simp)]; simp
    have g4 : w2.cell? ⟨w1.heap.size, 4, none⟩ = some (.int .i64 0) := by rw [(bcell hb2).1 _ _ (by simp)]; simp
    have f4 : w2.frozen? ⟨w1.heap.size, 4, none⟩ = false := by rw [(bcell hb2).2 _ _ (by simp)]; simp
    have hz2 : w1.heap.size < w2.heap.size := by have := hb2.size; simp at this; omega
    have hy2 : b < w2.heap.size := by omega
    have bl2 : Below w.heap.size w w2 := by
      refine Below_after ?_ hb2
      exact bl1.drew.alloc (Nat.le_of_lt hz1) _
    refine tkI 11 (.tuple #[.agg #[.int .i64 x.id, .int .i64 y.thing, .int .i64 x.rights, .int .i64 y.badge, .int .i64 y.id], .nilIface]) rfl ?_
    refine tkI 12 (.agg #[.int .i64 x.id, .int .i64 y.thing, .int .i64 x.rights, .int .i64 y.badge, .int .i64 y.id]) rfl ?_
    refine tkI 13 (.nilIface) rfl ?_
    refine rdI 15 rfl (fun K hK => ?_)
    go_wp2_with fail
    refine hK.out _ _ ?_ (fun hHeld => ?_)
    · (repeat (first | refine SX_set _ _ (by simp; omega) (by simp; omega) ?_ | assumption))
    clear hK K
    (try simp only [Act.put, List.setIfInBounds_toArray, List.set_cons_zero, List.set_cons_succ])
    refine rdI 16 rfl (fun K hK => ?_)
    go_wp2_with fail
    refine hK.out _ _ ?_ (fun hHeld => ?_)
    · assumption
    clear hK K
    (try simp only [Act.put, List.setIfInBounds_toArray, List.set_cons_zero, List.set_cons_succ])
    refine wpAnyH_done (by kernel_rfl) ?_ _
    have e1 := he1.out
    have e2 := he2.out
    have e3 := he3.out
    go_wp2_with fail
    go_ret
    refine ⟨rfl, ?_⟩
    repeat (first | exact bl2 | refine Below.drew ?_ | refine Below.setCell ?_ (by first | omega | (simp; omega)) _ | refine Below.alloc ?_ (by first | omega | (simp; omega)) _)
set_option maxHeartbeats 1000000 in
theorem cf_ne0 (b o c : Nat) (l : List Wr) (x y : Wr) (j : Nat) (w : World) (hb : b < w.heap.size) (hw : ∀ j x, l[j]? = some x → WrAt w b (o + j * 5) x) (hm : l.length ≤ 1000) (hf : ¬ x.frm = 0) (hn : find l x.frm = (j : Int)) (hy : l[j]? = some y) (hd : drvCode y x.rights x.badge = 0) (hyb : Hid (y.badge = 0)) (hdiff : Hid (¬ y.thing = x.thing)) :
    Calls Tryz.prog 60 #[.slice (some ⟨b, o, none⟩) l.length c, .agg #[.int .i64 x.id, .int .i64 x.thing, .int .i64 x.rights, .int .i64 x.badge, .int .i64 x.frm]] w fun e w' => e = .returned (.iface 82 (.int .i64 7)) ∧ Below w.heap.size w w' := by
  have d1 : (x.frm == 0) = false := by simp [hf]
  have hjl : j < l.length := (List.getElem?_eq_some_iff.1 hy).1
  have hbl0 : Below w.heap.size w (w.alloc (.cells #[.int .i64 x.id, .int .i64 x.thing, .int .i64 x.rights, .int .i64 x.badge, .int .i64 x.frm] 88)) := (Below.refl _ _).alloc (Nat.le_refl _) _
  have px0 := WrAt_new w 88 x
  clear hf
  go_enter Tryz.func60, Tryz.ntmps60
  go_wp2_with fail
  refine (find_any (some ⟨b, o, none⟩) c l x.frm _ (WrsAt.below hbl0 (.inr ⟨b, o, rfl, hb, hw⟩)) (by omega)).mono ?_
  rintro e w1 ⟨rfl, hb1⟩
  have bl1 : Below w.heap.size w w1 := Below_after hbl0 hb1
  have px : WrAt w1 w.heap.size 0 x := px0.below hb1 (by simp)
  have py : WrAt w1 b (o + j * 5) y := (hw j y hy).below bl1 hb
  have hz1 : w.heap.size < w1.heap.size := by have := hb1.size; simp at this; omega
  have hbz : b < w1.heap.size := by omega
  clear hb1 px0 hbl0 hw hy
  have sx1 : SX w.heap.size b (o + j * 5) x y w1 := SX_mk px py hz1 hbz
  clear px py
  go_wp2_with fail
  refine wp_region_held_drew (S := SX w.heap.size b (o + j * 5) x y) (by kernel_rfl) ?_ (fun hHeld => ?_)
  · exact sx1
  refine tkI 0 (.slice (some ⟨b, o, none⟩) l.length c) rfl ?_
  refine tkI 1 (.int .i64 (j : Int)) rfl ?_
  refine tkI 2 (.pointer (some ⟨b, o + j * 5, none⟩)) rfl ?_
  refine tkI 3 (.agg #[.int .i64 y.id, .int .i64 y.thing, .int .i64 y.rights, .int .i64 y.badge, .int .i64 y.frm]) rfl ?_
  refine tkI 4 (.pointer (some ⟨w.heap.size, 0, none⟩)) rfl ?_
  refine tkI 5 (.int .i64 x.id) rfl ?_
  refine tkI 6 (.pointer (some ⟨w.heap.size, 2, none⟩)) rfl ?_
  refine tkI 7 (.int .i64 x.rights) rfl ?_
  refine tkI 8 (.pointer (some ⟨w.heap.size, 3, none⟩)) rfl ?_
  refine tkI 9 (.int .i64 x.badge) rfl ?_
  refine rdJ 10 14 rfl rfl (fun K hK => ?_) (fun K hK => ?_)
  · go_wp2_with (go_at_call 120; refine (derive_ok0 y x.id x.rights x.badge _ hd hyb.out).mono ?_; rintro e w2 ⟨rfl, hb2⟩)
    refine hK.out _ _ ?_ (fun hHeld => ?_)
    · exact SX_below hb2 (by assumption)
    clear hK K
    (try simp only [Act.put, List.setIfInBounds_toArray, List.set_cons_zero, List.set_cons_succ])
    refine tkI 11 (.tuple #[.agg #[.int .i64 x.id, .int .i64 y.thing, .int .i64 x.rights, .int .i64 x.badge, .int .i64 y.id], .nilIface]) rfl ?_
    refine tkI 12 (.agg #[.int .i64 x.id, .int .i64 y.thing, .int .i64 x.rights, .int .i64 x.badge, .int .i64 y.id]) rfl ?_
    refine tkI 13 (.nilIface) rfl ?_
    refine rdI 14 rfl (fun K hK => ?_)
    go_wp2_with fail
    refine hK.out _ _ ?_ (fun hHeld => ?_)
    · exact SX_alloc _ (by assumption)
    clear hK K
    (try simp only [Act.put, List.setIfInBounds_toArray, List.set_cons_zero, List.set_cons_succ])
    have hz2 : w.heap.size < w2.heap.size := Nat.lt_of_lt_of_le hz1 hb2.size
    have hy2 : b < w2.heap.size := Nat.lt_of_lt_of_le hbz hb2.size
    have bl2 : Below w.heap.size w w2 := by
      refine Below_after ?_ hb2
      exact bl1.drew
    refine rdI 15 rfl (fun K hK => ?_)
    go_wp2_with fail
    refine hK.out _ _ ?_ (fun hHeld => ?_)
    · (repeat (first | exact SX_alloc _ (by assumption) | refine SX_set _ _ (by simp; omega) (by simp; omega) ?_ | assumption))
    clear hK K
    (try simp only [Act.put, List.setIfInBounds_toArray, List.set_cons_zero, List.set_cons_succ])
    refine rdI 16 rfl (fun K hK => ?_)
    go_wp2_with fail
    refine hK.out _ _ ?_ (fun hHeld => ?_)
    · assumption
    clear hK K
    (try simp only [Act.put, List.setIfInBounds_toArray, List.set_cons_zero, List.set_cons_succ])
    refine wpAnyH_done (by kernel_rfl) ?_ _
    go_wp2_with fail
    all_goals first
      | (exfalso; have hne := hdiff.out; simp_all; done)
      | (go_ret; refine ⟨rfl, ?_⟩; repeat (first | exact bl2 | refine Below.drew ?_ | refine Below.setCell ?_ (by first | omega | (simp; omega)) _ | refine Below.alloc ?_ (by first | omega | (simp; omega)) _))
  · go_wp2_with fail
    refine hK.out _ _ ?_ (fun hHeld => ?_)
    · exact SX_alloc _ (by assumption)
    clear hK K
    (try simp only [Act.put, List.setIfInBounds_toArray, List.set_cons_zero, List.set_cons_succ])
    refine rdI 10 rfl (fun K hK => ?_)
    go_wp2_with (go_at_call 120; refine (derive_ok0 y x.id x.rights x.badge _ hd hyb.out).mono ?_; rintro e w2 ⟨rfl, hb2⟩)
    refine hK.out _ _ ?_ (fun hHeld => ?_)
    · exact SX_below hb2 (by assumption)
    clear hK K
    (try simp only [Act.put, List.setIfInBounds_toArray, List.set_cons_zero, List.set_cons_succ])
    have g0 : w2.cell? ⟨w1.heap.size, 0, none⟩ = some (.int .i64 0) := by rw [(bcell hb2).1 _ _ (by simp)]; simp
    have f0 : w2.frozen? ⟨w1.heap.size, 0, none⟩ = false := by rw [(bcell hb2).2 _ _ (by simp)]; simp
    have g1 : w2.cell? ⟨w1.heap.size, 1, none⟩ = some (.int .i64 0) := by rw [(bcell hb2).1 _ _ (by simp)]; simp
    have f1 : w2.frozen? ⟨w1.heap.size, 1, none⟩ = false := by rw [(bcell hb2).2 _ _ (by simp)]; simp
    have g2 : w2.cell? ⟨w1.heap.size, 2, none⟩ = some (.int .i64 0) := by rw [(bcell hb2).1 _ _ (by simp)]; simp
    have f2 : w2.frozen? ⟨w1.heap.size, 2, none⟩ = false := by rw [(bcell hb2).2 _ _ (by simp)]; simp
    have g3 : w2.cell? ⟨w1.heap.size, 3, none⟩ = some (.int .i64 0) := by rw [(bcell hb2).1 _ _ (by simp)]; simp
    have f3 : w2.frozen? ⟨w1.heap.size, 3, none⟩ = false := by rw [(bcell hb2).2 _ _ (by simp)]; simp
    have g4 : w2.cell? ⟨w1.heap.size, 4, none⟩ = some (.int .i64 0) := by rw [(bcell hb2).1 _ _ (by simp)]; simp
    have f4 : w2.frozen? ⟨w1.heap.size, 4, none⟩ = false := by rw [(bcell hb2).2 _ _ (by simp)]; simp
    have hz2 : w1.heap.size < w2.heap.size := by have := hb2.size; simp at this; omega
    have hy2 : b < w2.heap.size := by omega
    have bl2 : Below w.heap.size w w2 := by
      refine Below_after ?_ hb2
      exact bl1.drew.alloc (Nat.le_of_lt hz1) _
    refine tkI 11 (.tuple #[.agg #[.int .i64 x.id, .int .i64 y.thing, .int .i64 x.rights, .int .i64 x.badge, .int .i64 y.id], .nilIface]) rfl ?_
    refine tkI 12 (.agg #[.int .i64 x.id, .int .i64 y.thing, .int .i64 x.rights, .int .i64 x.badge, .int .i64 y.id]) rfl ?_
    refine tkI 13 (.nilIface) rfl ?_
    refine rdI 15 rfl (fun K hK => ?_)
    go_wp2_with fail
    refine hK.out _ _ ?_ (fun hHeld => ?_)
    · (repeat (first | refine SX_set _ _ (by simp; omega) (by simp; omega) ?_ | assumption))
    clear hK K
    (try simp only [Act.put, List.setIfInBounds_toArray, List.set_cons_zero, List.set_cons_succ])
    refine rdI 16 rfl (fun K hK => ?_)
    go_wp2_with fail
    refine hK.out _ _ ?_ (fun hHeld => ?_)
    · assumption
    clear hK K
    (try simp only [Act.put, List.setIfInBounds_toArray, List.set_cons_zero, List.set_cons_succ])
    refine wpAnyH_done (by kernel_rfl) ?_ _
    go_wp2_with fail
    all_goals first
      | (exfalso; have hne := hdiff.out; simp_all; done)
      | (go_ret; refine ⟨rfl, ?_⟩; repeat (first | exact bl2 | refine Below.drew ?_ | refine Below.setCell ?_ (by first | omega | (simp; omega)) _ | refine Below.alloc ?_ (by first | omega | (simp; omega)) _))
set_option maxHeartbeats 1000000 in
theorem cf_ne1 (b o c : Nat) (l : List Wr) (x y : Wr) (j : Nat) (w : World) (hb : b < w.heap.size) (hw : ∀ j x, l[j]? = some x → WrAt w b (o + j * 5) x) (hm : l.length ≤ 1000) (hf : ¬ x.frm = 0) (hn : find l x.frm = (j : Int)) (hy : l[j]? = some y) (hd : drvCode y x.rights x.badge = 0) (hyb : Hid (¬ y.badge = 0)) (hdiff : Hid (¬ y.thing = x.thing)) :
    Calls Tryz.prog 60 #[.slice (some ⟨b, o, none⟩) l.length c, .agg #[.int .i64 x.id, .int .i64 x.thing, .int .i64 x.rights, .int .i64 x.badge, .int .i64 x.frm]] w fun e w' => e = .returned (.iface 82 (.int .i64 7)) ∧ Below w.heap.size w w' := by
  have d1 : (x.frm == 0) = false := by simp [hf]
  have hjl : j < l.length := (List.getElem?_eq_some_iff.1 hy).1
  have hbl0 : Below w.heap.size w (w.alloc (.cells #[.int .i64 x.id, .int .i64 x.thing, .int .i64 x.rights, .int .i64 x.badge, .int .i64 x.frm] 88)) := (Below.refl _ _).alloc (Nat.le_refl _) _
  have px0 := WrAt_new w 88 x
  clear hf
  go_enter Tryz.func60, Tryz.ntmps60
  go_wp2_with fail
  refine (find_any (some ⟨b, o, none⟩) c l x.frm _ (WrsAt.below hbl0 (.inr ⟨b, o, rfl, hb, hw⟩)) (by omega)).mono ?_
  rintro e w1 ⟨rfl, hb1⟩
  have bl1 : Below w.heap.size w w1 := Below_after hbl0 hb1
  have px : WrAt w1 w.heap.size 0 x := px0.below hb1 (by simp)
  have py : WrAt w1 b (o + j * 5) y := (hw j y hy).below bl1 hb
  have hz1 : w.heap.size < w1.heap.size := by have := hb1.size; simp at this; omega
  have hbz : b < w1.heap.size := by omega
  clear hb1 px0 hbl0 hw hy
  have sx1 : SX w.heap.size b (o + j * 5) x y w1 := SX_mk px py hz1 hbz
  clear px py
  go_wp2_with fail
  refine wp_region_held_drew (S := SX w.heap.size b (o + j * 5) x y) (by kernel_rfl) ?_ (fun hHeld => ?_)
  · exact sx1
  refine tkI 0 (.slice (some ⟨b, o, none⟩) l.length c) rfl ?_
  refine tkI 1 (.int .i64 (j : Int)) rfl ?_
  refine tkI 2 (.pointer (some ⟨b, o + j * 5, none⟩)) rfl ?_
  refine tkI 3 (.agg #[.int .i64 y.id, .int .i64 y.thing, .int .i64 y.rights, .int .i64 y.badge, .int .i64 y.frm]) rfl ?_
  refine tkI 4 (.pointer (some ⟨w.heap.size, 0, none⟩)) rfl ?_
  refine tkI 5 (.int .i64 x.id) rfl ?_
  refine tkI 6 (.pointer (some ⟨w.heap.size, 2, none⟩)) rfl ?_
  refine tkI 7 (.int .i64 x.rights) rfl ?_
  refine tkI 8 (.pointer (some ⟨w.heap.size, 3, none⟩)) rfl ?_
  refine tkI 9 (.int .i64 x.badge) rfl ?_
  refine rdJ 10 14 rfl rfl (fun K hK => ?_) (fun K hK => ?_)
  · go_wp2_with (go_at_call 120; refine (derive_ok1 y x.id x.rights x.badge _ hd hyb.out).mono ?_; rintro e w2 ⟨rfl, hb2⟩)
    refine hK.out _ _ ?_ (fun hHeld => ?_)
    · exact SX_below hb2 (by assumption)
    clear hK K
    (try simp only [Act.put, List.setIfInBounds_toArray, List.set_cons_zero, List.set_cons_succ])
    refine tkI 11 (.tuple #[.agg #[.int .i64 x.id, .int .i64 y.thing, .int .i64 x.rights, .int .i64 y.badge, .int .i64 y.id], .nilIface]) rfl ?_
    refine tkI 12 (.agg #[.int .i64 x.id, .int .i64 y.thing, .int .i64 x.rights, .int .i64 y.badge, .int .i64 y.id]) rfl ?_
    refine tkI 13 (.nilIface) rfl ?_
    refine rdI 14 rfl (fun K hK => ?_)
    go_wp2_with fail
    refine hK.out _ _ ?_ (fun hHeld => ?_)
    · exact SX_alloc _ (by assumption)
    clear hK K
    (try simp only [Act.put, List.setIfInBounds_toArray, List.set_cons_zero, List.set_cons_succ])
    have hz2 : w.heap.size < w2.heap.size := Nat.lt_of_lt_of_le hz1 hb2.size
    have hy2 : b < w2.heap.size := Nat.lt_of_lt_of_le hbz hb2.size
    have bl2 : Below w.heap.size w w2 := by
      refine Below_after ?_ hb2
      exact bl1.drew
    refine rdI 15 rfl (fun K hK => ?_)
    go_wp2_with fail
    refine hK.out _ _ ?_ (fun hHeld => ?_)
    · (repeat (first | exact SX_alloc _ (by assumption) | refine SX_set _ _ (by simp; omega) (by simp; omega) ?_ | assumption))
    clear hK K
    (try simp only [Act.put, List.setIfInBounds_toArray, List.set_cons_zero, List.set_cons_succ])
    refine rdI 16 rfl (fun K hK => ?_)
    go_wp2_with fail
    refine hK.out _ _ ?_ (fun hHeld => ?_)
    · assumption
    clear hK K
    (try simp only [Act.put, List.setIfInBounds_toArray, List.set_cons_zero, List.set_cons_succ])
    refine wpAnyH_done (by kernel_rfl) ?_ _
    go_wp2_with fail
    all_goals first
      | (exfalso; have hne := hdiff.out; simp_all; done)
      | (go_ret; refine ⟨rfl, ?_⟩; repeat (first | exact bl2 | refine Below.drew ?_ | refine Below.setCell ?_ (by first | omega | (simp; omega)) _ | refine Below.alloc ?_ (by first | omega | (simp; omega)) _))
  · go_wp2_with fail
    refine hK.out _ _ ?_ (fun hHeld => ?_)
    · exact SX_alloc _ (by assumption)
    clear hK K
    (try simp only [Act.put, List.setIfInBounds_toArray, List.set_cons_zero, List.set_cons_succ])
    refine rdI 10 rfl (fun K hK => ?_)
    go_wp2_with (go_at_call 120; refine (derive_ok1 y x.id x.rights x.badge _ hd hyb.out).mono ?_; rintro e w2 ⟨rfl, hb2⟩)
    refine hK.out _ _ ?_ (fun hHeld => ?_)
    · exact SX_below hb2 (by assumption)
    clear hK K
    (try simp only [Act.put, List.setIfInBounds_toArray, List.set_cons_zero, List.set_cons_succ])
    have g0 : w2.cell? ⟨w1.heap.size, 0, none⟩ = some (.int .i64 0) := by rw [(bcell hb2).1 _ _ (by simp)]; simp
    have f0 : w2.frozen? ⟨w1.heap.size, 0, none⟩ = false := by rw [(bcell hb2).2 _ _ (by simp)]; simp
    have g1 : w2.cell? ⟨w1.heap.size, 1, none⟩ = some (.int .i64 0) := by rw [(bcell hb2).1 _ _ (by simp)]; simp
    have f1 : w2.frozen? ⟨w1.heap.size, 1, none⟩ = false := by rw [(bcell hb2).2 _ _ (by simp)]; simp
    have g2 : w2.cell? ⟨w1.heap.size, 2, none⟩ = some (.int .i64 0) := by rw [(bcell hb2).1 _ _ (by simp)]; simp
    have f2 : w2.frozen? ⟨w1.heap.size, 2, none⟩ = false := by rw [(bcell hb2).2 _ _ (by simp)]; simp
    have g3 : w2.cell? ⟨w1.heap.size, 3, none⟩ = some (.int .i64 0) := by rw [(bcell hb2).1 _ _ (by simp)]; simp
    have f3 : w2.frozen? ⟨w1.heap.size, 3, none⟩ = false := by rw [(bcell hb2).2 _ _ (by simp)]; simp
    have g4 : w2.cell? ⟨w1.heap.size, 4, none⟩ = some (.int .i64 0) := by rw [(bcell hb2).1 _ _ (by simp)]; simp
    have f4 : w2.frozen? ⟨w1.heap.size, 4, none⟩ = false := by rw [(bcell hb2).2 _ _ (by simp)]; simp
    have hz2 : w1.heap.size < w2.heap.size := by have := hb2.size; simp at this; omega
    have hy2 : b < w2.heap.size := by omega
    have bl2 : Below w.heap.size w w2 := by
      refine Below_after ?_ hb2
      exact bl1.drew.alloc (Nat.le_of_lt hz1) _
    refine tkI 11 (.tuple #[.agg #[.int .i64 x.id, .int .i64 y.thing, .int .i64 x.rights, .int .i64 y.badge, .int .i64 y.id], .nilIface]) rfl ?_
    refine tkI 12 (.agg #[.int .i64 x.id, .int .i64 y.thing, .int .i64 x.rights, .int .i64 y.badge, .int .i64 y.id]) rfl ?_
    refine tkI 13 (.nilIface) rfl ?_
    refine rdI 15 rfl (fun K hK => ?_)
    go_wp2_with fail
    refine hK.out _ _ ?_ (fun hHeld => ?_)
    · (repeat (first | refine SX_set _ _ (by simp; omega) (by simp; omega) ?_ | assumption))
    clear hK K
    (try simp only [Act.put, List.setIfInBounds_toArray, List.set_cons_zero, List.set_cons_succ])
    refine rdI 16 rfl (fun K hK => ?_)
    go_wp2_with fail
    refine hK.out _ _ ?_ (fun hHeld => ?_)
    · assumption
    clear hK K
    (try simp only [Act.put, List.setIfInBounds_toArray, List.set_cons_zero, List.set_cons_succ])
    refine wpAnyH_done (by kernel_rfl) ?_ _
    go_wp2_with fail
    all_goals first
      | (exfalso; have hne := hdiff.out; simp_all; done)
      | (go_ret; refine ⟨rfl, ?_⟩; repeat (first | exact bl2 | refine Below.drew ?_ | refine Below.setCell ?_ (by first | omega | (simp; omega)) _ | refine Below.alloc ?_ (by first | omega | (simp; omega)) _))
set_option maxHeartbeats 1000000 in
theorem cf_ne2 (b o c : Nat) (l : List Wr) (x y : Wr) (j : Nat) (w : World) (hb : b < w.heap.size) (hw : ∀ j x, l[j]? = some x → WrAt w b (o + j * 5) x) (hm : l.length ≤ 1000) (hf : ¬ x.frm = 0) (hn : find l x.frm = (j : Int)) (hy : l[j]? = some y) (hd : drvCode y x.rights x.badge = 0) (hyb : Hid (¬ y.badge = 0)) (he1 : Hid (y.thing = x.thing)) (hdiff : Hid (¬ y.badge = x.badge)) :
    Calls Tryz.prog 60 #[.slice (some ⟨b, o, none⟩) l.length c, .agg #[.int .i64 x.id, .int .i64 x.thing, .int .i64 x.rights, .int .i64 x.badge, .int .i64 x.frm]] w fun e w' => e = .returned (.iface 82 (.int .i64 7)) ∧ Below w.heap.size w w' := by
  have d1 : (x.frm == 0) = false := by simp [hf]
  have hjl : j < l.length := (List.getElem?_eq_some_iff.1 hy).1
  have hbl0 : Below w.heap.size w (w.alloc (.cells #[.int .i64 x.id, .int .i64 x.thing, .int .i64 x.rights, .int .i64 x.badge, .int .i64 x.frm] 88)) := (Below.refl _ _).alloc (Nat.le_refl _) _
  have px0 := WrAt_new w 88 x
  clear hf
  go_enter Tryz.func60, Tryz.ntmps60
  go_wp2_with fail
  refine (find_any (some ⟨b, o, none⟩) c l x.frm _ (WrsAt.below hbl0 (.inr ⟨b, o, rfl, hb, hw⟩)) (by omega)).mono ?_
  rintro e w1 ⟨rfl, hb1⟩
  have bl1 : Below w.heap.size w w1 := Below_after hbl0 hb1
  have px : WrAt w1 w.heap.size 0 x := px0.below hb1 (by simp)
  have py : WrAt w1 b (o + j * 5) y := (hw j y hy).below bl1 hb
  have hz1 : w.heap.size < w1.heap.size := by have := hb1.size; simp at this; omega
  have hbz : b < w1.heap.size := by omega
  clear hb1 px0 hbl0 hw hy
  have sx1 : SX w.heap.size b (o + j * 5) x y w1 := SX_mk px py hz1 hbz
  clear px py
  go_wp2_with fail
  refine wp_region_held_drew (S := SX w.heap.size b (o + j * 5) x y) (by kernel_rfl) ?_ (fun hHeld => ?_)
  · exact sx1
  refine tkI 0 (.slice (some ⟨b, o, none⟩) l.length c) rfl ?_
  refine tkI 1 (.int .i64 (j : Int)) rfl ?_
  refine tkI 2 (.pointer (some ⟨b, o + j * 5, none⟩)) rfl ?_
  refine tkI 3 (.agg #[.int .i64 y.id, .int .i64 y.thing, .int .i64 y.rights, .int .i64 y.badge, .int .i64 y.frm]) rfl ?_
  refine tkI 4 (.pointer (some ⟨w.heap.size, 0, none⟩)) rfl ?_
  refine tkI 5 (.int .i64 x.id) rfl ?_
  refine tkI 6 (.pointer (some ⟨w.heap.size, 2, none⟩)) rfl ?_
  refine tkI 7 (.int .i64 x.rights) rfl ?_
  refine tkI 8 (.pointer (some ⟨w.heap.size, 3, none⟩)) rfl ?_
  refine tkI 9 (.int .i64 x.badge) rfl ?_
  refine rdJ 10 14 rfl rfl (fun K hK => ?_) (fun K hK => ?_)
  · go_wp2_with (go_at_call 120; refine (derive_ok1 y x.id x.rights x.badge _ hd hyb.out).mono ?_; rintro e w2 ⟨rfl, hb2⟩)
    refine hK.out _ _ ?_ (fun hHeld => ?_)
    · exact SX_below hb2 (by assumption)
    clear hK K
    (try simp only [Act.put, List.setIfInBounds_toArray, List.set_cons_zero, List.set_cons_succ])
    refine tkI 11 (.tuple #[.agg #[.int .i64 x.id, .int .i64 y.thing, .int .i64 x.rights, .int .i64 y.badge, .int .i64 y.id], .nilIface]) rfl ?_
    refine tkI 12 (.agg #[.int .i64 x.id, .int .i64 y.thing, .int .i64 x.rights, .int .i64 y.badge, .int .i64 y.id]) rfl ?_
    refine tkI 13 (.nilIface) rfl ?_
    refine rdI 14 rfl (fun K hK => ?_)
    go_wp2_with fail
    refine hK.out _ _ ?_ (fun hHeld => ?_)
    · exact SX_alloc _ (by assumption)
    clear hK K
    (try simp only [Act.put, List.setIfInBounds_toArray, List.set_cons_zero, List.set_cons_succ])
    have hz2 : w.heap.size < w2.heap.size := Nat.lt_of_lt_of_le hz1 hb2.size
    have hy2 : b < w2.heap.size := Nat.lt_of_lt_of_le hbz hb2.size
    have bl2 : Below w.heap.size w w2 := by
      refine Below_after ?_ hb2
      exact bl1.drew
    refine rdI 15 rfl (fun K hK => ?_)
    go_wp2_with fail
    refine hK.out _ _ ?_ (fun hHeld => ?_)
    · (repeat (first | exact SX_alloc _ (by assumption) | refine SX_set _ _ (by simp; omega) (by simp; omega) ?_ | assumption))
    clear hK K
    (try simp only [Act.put, List.setIfInBounds_toArray, List.set_cons_zero, List.set_cons_succ])
    refine rdI 16 rfl (fun K hK => ?_)
    go_wp2_with fail
    refine hK.out _ _ ?_ (fun hHeld => ?_)
    · assumption
    clear hK K
    (try simp only [Act.put, List.setIfInBounds_toArray, List.set_cons_zero, List.set_cons_succ])
    refine wpAnyH_done (by kernel_rfl) ?_ _
    have e1 := he1.out
    go_wp2_with fail
    all_goals first
      | (exfalso; have hne := hdiff.out; simp_all; done)
      | (go_ret; refine ⟨rfl, ?_⟩; repeat (first | exact bl2 | refine Below.drew ?_ | refine Below.setCell ?_ (by first | omega | (simp; omega)) _ | refine Below.alloc ?_ (by first | omega | (simp; omega)) _))
  · go_wp2_with fail
    refine hK.out _ _ ?_ (fun hHeld => ?_)
    · exact SX_alloc _ (by assumption)
    clear hK K
    (try simp only [Act.put, List.setIfInBounds_toArray, List.set_cons_zero, List.set_cons_succ])
    refine rdI 10 rfl (fun K hK => ?_)
    go_wp2_with (go_at_call 120; refine (derive_ok1 y x.id x.rights x.badge _ hd hyb.out).mono ?_; rintro e w2 ⟨rfl, hb2⟩)
    refine hK.out _ _ ?_ (fun hHeld => ?_)
    · exact SX_below hb2 (by assumption)
    clear hK K
    (try simp only [Act.put, List.setIfInBounds_toArray, List.set_cons_zero, List.set_cons_succ])
    have g0 : w2.cell? ⟨w1.heap.size, 0, none⟩ = some (.int .i64 0) := by rw [(bcell hb2).1 _ _ (by simp)]; simp
    have f0 : w2.frozen? ⟨w1.heap.size, 0, none⟩ = false := by rw [(bcell hb2).2 _ _ (by simp)]; simp
    have g1 : w2.cell? ⟨w1.heap.size, 1, none⟩ = some (.int .i64 0) := by rw [(bcell hb2).1 _ _ (by simp)]; simp
    have f1 : w2.frozen? ⟨w1.heap.size, 1, none⟩ = false := by rw [(bcell hb2).2 _ _ (by simp)]; simp
    have g2 : w2.cell? ⟨w1.heap.size, 2, none⟩ = some (.int .i64 0) := by rw [(bcell hb2).1 _ _ (by simp)]; simp
    have f2 : w2.frozen? ⟨w1.heap.size, 2, none⟩ = false := by rw [(bcell hb2).2 _ _ (by simp)]; simp
    have g3 : w2.cell? ⟨w1.heap.size, 3, none⟩ = some (.int .i64 0) := by rw [(bcell hb2).1 _ _ (by simp)]; simp
    have f3 : w2.frozen? ⟨w1.heap.size, 3, none⟩ = false := by rw [(bcell hb2).2 _ _ (by simp)]; simp
    have g4 : w2.cell? ⟨w1.heap.size, 4, none⟩ = some (.int .i64 0) := by rw [(bcell hb2).1 _ _ (by simp)]; simp
    have f4 : w2.frozen? ⟨w1.heap.size, 4, none⟩ = false := by rw [(bcell hb2).2 _ _ (by simp)]; simp
    have hz2 : w1.heap.size < w2.heap.size := by have := hb2.size; simp at this; omega
    have hy2 : b < w2.heap.size := by omega
    have bl2 : Below w.heap.size w w2 := by
      refine Below_after ?_ hb2
      exact bl1.drew.alloc (Nat.le_of_lt hz1) _
    refine tkI 11 (.tuple #[.agg #[.int .i64 x.id, .int .i64 y.thing, .int .i64 x.rights, .int .i64 y.badge, .int .i64 y.id], .nilIface]) rfl ?_
    refine tkI 12 (.agg #[.int .i64 x.id, .int .i64 y.thing, .int .i64 x.rights, .int .i64 y.badge, .int .i64 y.id]) rfl ?_
    refine tkI 13 (.nilIface) rfl ?_
    refine rdI 15 rfl (fun K hK => ?_)
    go_wp2_with fail
    refine hK.out _ _ ?_ (fun hHeld => ?_)
    · (repeat (first | refine SX_set _ _ (by simp; omega) (by simp; omega) ?_ | assumption))
    clear hK K
    (try simp only [Act.put, List.setIfInBounds_toArray, List.set_cons_zero, List.set_cons_succ])
    refine rdI 16 rfl (fun K hK => ?_)
    go_wp2_with fail
    refine hK.out _ _ ?_ (fun hHeld => ?_)
    · assumption
    clear hK K
    (try simp only [Act.put, List.setIfInBounds_toArray, List.set_cons_zero, List.set_cons_succ])
    refine wpAnyH_done (by kernel_rfl) ?_ _
    have e1 := he1.out
    go_wp2_with fail
    all_goals first
      | (exfalso; have hne := hdiff.out; simp_all; done)
      | (go_ret; refine ⟨rfl, ?_⟩; repeat (first | exact bl2 | refine Below.drew ?_ | refine Below.setCell ?_ (by first | omega | (simp; omega)) _ | refine Below.alloc ?_ (by first | omega | (simp; omega)) _))
end Go.Proofs.YtddgpgldbekamaaGreatDoor
