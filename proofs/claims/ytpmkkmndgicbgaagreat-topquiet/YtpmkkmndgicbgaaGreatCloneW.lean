/- slices.Clone at the types of a realm's lists; realm.Copy (E1). -/
import Derived.Test.YtpmkkmndgicbgaaGreatInfoW
import Derived.Test.YtpmkkmndgicbgaaGreatRealmPure
import Derived.Lib.SliceRun
set_option linter.unusedSimpArgs false
set_option linter.unusedVariables false
namespace Go.Proofs.YtpmkkmndgicbgaaGreat
open Go.RowKit
theorem infoThing : (Tryz.prog.info? 60).map (fun i => (i.zero, i.size, i.bytes)) = some (some (.agg #[.int .i64 0, .int .i64 0, .string ByteArray.empty]), 3, 32) := by kernel_rfl
theorem infoNote : (Tryz.prog.info? 62).map (fun i => (i.zero, i.size, i.bytes)) = some (some (.agg #[.int .i64 0, .string ByteArray.empty, .int .i64 0, .int .i64 0]), 4, 40) := by kernel_rfl

set_option maxHeartbeats 1000000 in
theorem clone_w (a : Option Addr) (c : Nat) (l : List Wr) (w : World) (hw : WrsAt w a l) (hm : l.length ≤ 1000000) :
    Calls Tryz.prog 35 #[.slice a l.length c] w fun e w' => ∃ v, e = .returned v ∧ w'.ownsRow w.heap.size 45 5 v l.length (l.flatMap wcells) ∧ Below w.heap.size w w' := by
  obtain ⟨i0, hi, hi0, hi1, hi2⟩ := info_parts infoWrit
  have q0 : ∀ (w : World) (a : Option Addr) (n c n' c' : Nat), (binOp .eql 24 (.slice a n c) (.slice none n' c')).run Tryz.prog w = .ok (.bool a.isNone) w := fun w a n c n' c' => Lib.run_eql_slice_nil w _ _ a n c n' c' Tryz.underlying24
  cases a with
  | none =>
    have hl : l = [] := by rcases hw with h | ⟨b, o, ha, _⟩; exact h; cases ha
    subst hl
    go_enter Tryz.func35, Tryz.ntmps35
    go_wp2
    go_ret
    exact ⟨_, rfl, World.ownsRow_nil _ _ _ _, Below.refl _ _⟩
  | some ad =>
    have hcl : ∀ j u, (l.flatMap wcells)[j]? = some u → (w.alloc (.cells #[] 45)).cell? (ad.add j) = some u := by
      rcases hw with rfl | ⟨b, o, ha, hb, hc⟩
      · intro j u hu; simp at hu
      · intro j u hu
        cases ha
        rw [Addr.add_lit]
        exact Lib.cell?_alloc_some _ (wr_flat hc j u hu)
    have A : Hid (∀ j u, (l.flatMap wcells)[j]? = some u → (w.alloc (.cells #[] 45)).cell? (ad.add j) = some u) := hcl
    have hfl := flatlen_w l
    have hon := wcells_one l
    have FL : Hid ((l.flatMap wcells).length = l.length * 5) := hfl
    have ON : Hid (∀ u ∈ l.flatMap wcells, u.oneCell' = true) := hon
    clear hcl hw hfl hon
    generalize l.flatMap wcells = news at *
    go_enter Tryz.func35, Tryz.ntmps35
    go_wp2_with (at_builtin; refine wpList_append_own _ rfl _ _ 24 rfl w.heap.size 45 i0 (.agg #[.int .i64 0, .int .i64 0, .int .i64 0, .int .i64 0, .int .i64 0]) 5 40 Tryz.underlying24 hi hi0 hi1 hi2 rfl (by decide) _ _ _ rfl (World.ownsRow_made w #[] 0 (Nat.le_refl _) (Nat.zero_le _) (by simp)) ad l.length c news rfl FL.out A.out ON.out ?c3 ?c4 ?c5 ?_)
    case c3 => unfold maxLen; omega
    case c4 => omega
    case c5 => simp
    intro v' w1 hown hgrow hnil
    go_wp2
    go_ret
    exact ⟨v', rfl, by simpa using hown, ((Below.refl _ w).alloc (Nat.le_refl _) _).grown hgrow (by simp) (by intro k hk; simp [Value.ownBlock] at hk; omega)⟩
set_option maxHeartbeats 1000000 in
theorem clone_t (a : Option Addr) (c : Nat) (l : List Th) (w : World) (hw : ThsAt w a l) (hm : l.length ≤ 1000000) :
    Calls Tryz.prog 36 #[.slice a l.length c] w fun e w' => ∃ v, e = .returned v ∧ w'.ownsRow w.heap.size 60 3 v l.length (l.flatMap tcells) ∧ Below w.heap.size w w' := by
  obtain ⟨i0, hi, hi0, hi1, hi2⟩ := info_parts infoThing
  have q0 : ∀ (w : World) (a : Option Addr) (n c n' c' : Nat), (binOp .eql 25 (.slice a n c) (.slice none n' c')).run Tryz.prog w = .ok (.bool a.isNone) w := fun w a n c n' c' => Lib.run_eql_slice_nil w _ _ a n c n' c' Tryz.underlying25
  cases a with
  | none =>
    have hl : l = [] := by rcases hw with h | ⟨b, o, ha, _⟩; exact h; cases ha
    subst hl
    go_enter Tryz.func36, Tryz.ntmps36
    go_wp2
    go_ret
    exact ⟨_, rfl, World.ownsRow_nil _ _ _ _, Below.refl _ _⟩
  | some ad =>
    have hcl : ∀ j u, (l.flatMap tcells)[j]? = some u → (w.alloc (.cells #[] 60)).cell? (ad.add j) = some u := by
      rcases hw with rfl | ⟨b, o, ha, hb, hc⟩
      · intro j u hu; simp at hu
      · intro j u hu
        cases ha
        rw [Addr.add_lit]
        exact Lib.cell?_alloc_some _ (th_flat hc j u hu)
    have A : Hid (∀ j u, (l.flatMap tcells)[j]? = some u → (w.alloc (.cells #[] 60)).cell? (ad.add j) = some u) := hcl
    have hfl := flatlen_t l
    have hon := tcells_one l
    have FL : Hid ((l.flatMap tcells).length = l.length * 3) := hfl
    have ON : Hid (∀ u ∈ l.flatMap tcells, u.oneCell' = true) := hon
    clear hcl hw hfl hon
    generalize l.flatMap tcells = news at *
    go_enter Tryz.func36, Tryz.ntmps36
    go_wp2_with (at_builtin; refine wpList_append_own _ rfl _ _ 25 rfl w.heap.size 60 i0 (.agg #[.int .i64 0, .int .i64 0, .string ByteArray.empty]) 3 32 Tryz.underlying25 hi hi0 hi1 hi2 rfl (by decide) _ _ _ rfl (World.ownsRow_made w #[] 0 (Nat.le_refl _) (Nat.zero_le _) (by simp)) ad l.length c news rfl FL.out A.out ON.out ?c3 ?c4 ?c5 ?_)
    case c3 => unfold maxLen; omega
    case c4 => omega
    case c5 => simp
    intro v' w1 hown hgrow hnil
    go_wp2
    go_ret
    exact ⟨v', rfl, by simpa using hown, ((Below.refl _ w).alloc (Nat.le_refl _) _).grown hgrow (by simp) (by intro k hk; simp [Value.ownBlock] at hk; omega)⟩
set_option maxHeartbeats 1000000 in
theorem clone_h (a : Option Addr) (c : Nat) (l : List Hd) (w : World) (hw : HdsAt w a l) (hm : l.length ≤ 1000000) :
    Calls Tryz.prog 37 #[.slice a l.length c] w fun e w' => ∃ v, e = .returned v ∧ w'.ownsRow w.heap.size 64 3 v l.length (l.flatMap hcells) ∧ Below w.heap.size w w' := by
  obtain ⟨i0, hi, hi0, hi1, hi2⟩ := info_parts infoHeld
  have q0 : ∀ (w : World) (a : Option Addr) (n c n' c' : Nat), (binOp .eql 26 (.slice a n c) (.slice none n' c')).run Tryz.prog w = .ok (.bool a.isNone) w := fun w a n c n' c' => Lib.run_eql_slice_nil w _ _ a n c n' c' Tryz.underlying26
  cases a with
  | none =>
    have hl : l = [] := by rcases hw with h | ⟨b, o, ha, _⟩; exact h; cases ha
    subst hl
    go_enter Tryz.func37, Tryz.ntmps37
    go_wp2
    go_ret
    exact ⟨_, rfl, World.ownsRow_nil _ _ _ _, Below.refl _ _⟩
  | some ad =>
    have hcl : ∀ j u, (l.flatMap hcells)[j]? = some u → (w.alloc (.cells #[] 64)).cell? (ad.add j) = some u := by
      rcases hw with rfl | ⟨b, o, ha, hb, hc⟩
      · intro j u hu; simp at hu
      · intro j u hu
        cases ha
        rw [Addr.add_lit]
        exact Lib.cell?_alloc_some _ (hd_flat hc j u hu)
    have A : Hid (∀ j u, (l.flatMap hcells)[j]? = some u → (w.alloc (.cells #[] 64)).cell? (ad.add j) = some u) := hcl
    have hfl := flatlen_h l
    have hon := hcells_one l
    have FL : Hid ((l.flatMap hcells).length = l.length * 3) := hfl
    have ON : Hid (∀ u ∈ l.flatMap hcells, u.oneCell' = true) := hon
    clear hcl hw hfl hon
    generalize l.flatMap hcells = news at *
    go_enter Tryz.func37, Tryz.ntmps37
    go_wp2_with (at_builtin; refine wpList_append_own _ rfl _ _ 26 rfl w.heap.size 64 i0 (.agg #[.int .i64 0, .int .i64 0, .int .i64 0]) 3 24 Tryz.underlying26 hi hi0 hi1 hi2 rfl (by decide) _ _ _ rfl (World.ownsRow_made w #[] 0 (Nat.le_refl _) (Nat.zero_le _) (by simp)) ad l.length c news rfl FL.out A.out ON.out ?c3 ?c4 ?c5 ?_)
    case c3 => unfold maxLen; omega
    case c4 => omega
    case c5 => simp
    intro v' w1 hown hgrow hnil
    go_wp2
    go_ret
    exact ⟨v', rfl, by simpa using hown, ((Below.refl _ w).alloc (Nat.le_refl _) _).grown hgrow (by simp) (by intro k hk; simp [Value.ownBlock] at hk; omega)⟩
set_option maxHeartbeats 1000000 in
theorem clone_n (a : Option Addr) (c : Nat) (l : List Nt) (w : World) (hw : NtsAt w a l) (hm : l.length ≤ 1000000) :
    Calls Tryz.prog 38 #[.slice a l.length c] w fun e w' => ∃ v, e = .returned v ∧ w'.ownsRow w.heap.size 62 4 v l.length (l.flatMap ncells) ∧ Below w.heap.size w w' := by
  obtain ⟨i0, hi, hi0, hi1, hi2⟩ := info_parts infoNote
  have q0 : ∀ (w : World) (a : Option Addr) (n c n' c' : Nat), (binOp .eql 27 (.slice a n c) (.slice none n' c')).run Tryz.prog w = .ok (.bool a.isNone) w := fun w a n c n' c' => Lib.run_eql_slice_nil w _ _ a n c n' c' Tryz.underlying27
  cases a with
  | none =>
    have hl : l = [] := by rcases hw with h | ⟨b, o, ha, _⟩; exact h; cases ha
    subst hl
    go_enter Tryz.func38, Tryz.ntmps38
    go_wp2
    go_ret
    exact ⟨_, rfl, World.ownsRow_nil _ _ _ _, Below.refl _ _⟩
  | some ad =>
    have hcl : ∀ j u, (l.flatMap ncells)[j]? = some u → (w.alloc (.cells #[] 62)).cell? (ad.add j) = some u := by
      rcases hw with rfl | ⟨b, o, ha, hb, hc⟩
      · intro j u hu; simp at hu
      · intro j u hu
        cases ha
        rw [Addr.add_lit]
        exact Lib.cell?_alloc_some _ (nt_flat hc j u hu)
    have A : Hid (∀ j u, (l.flatMap ncells)[j]? = some u → (w.alloc (.cells #[] 62)).cell? (ad.add j) = some u) := hcl
    have hfl := flatlen_n l
    have hon := ncells_one l
    have FL : Hid ((l.flatMap ncells).length = l.length * 4) := hfl
    have ON : Hid (∀ u ∈ l.flatMap ncells, u.oneCell' = true) := hon
    clear hcl hw hfl hon
    generalize l.flatMap ncells = news at *
    go_enter Tryz.func38, Tryz.ntmps38
    go_wp2_with (at_builtin; refine wpList_append_own _ rfl _ _ 27 rfl w.heap.size 62 i0 (.agg #[.int .i64 0, .string ByteArray.empty, .int .i64 0, .int .i64 0]) 4 40 Tryz.underlying27 hi hi0 hi1 hi2 rfl (by decide) _ _ _ rfl (World.ownsRow_made w #[] 0 (Nat.le_refl _) (Nat.zero_le _) (by simp)) ad l.length c news rfl FL.out A.out ON.out ?c3 ?c4 ?c5 ?_)
    case c3 => unfold maxLen; omega
    case c4 => omega
    case c5 => simp
    intro v' w1 hown hgrow hnil
    go_wp2
    go_ret
    exact ⟨v', rfl, by simpa using hown, ((Below.refl _ w).alloc (Nat.le_refl _) _).grown hgrow (by simp) (by intro k hk; simp [Value.ownBlock] at hk; omega)⟩
end Go.Proofs.YtpmkkmndgicbgaaGreat
