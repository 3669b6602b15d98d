/- image: rows that were made, as a list that is handed on; what Parse says of a quiet realm's rows. -/
/- writkeepref: SameChanges; SameNumbers of a list and itself; Applied: that it ends, and where its rows lie. -/
import Derived.Test.YtddgpgldbekamaaGreatDoorImRw
import Derived.Test.YtddgpgldbekamaaGreatDoorImPa
import Derived.Test.YtddgpgldbekamaaGreatDoorImPure
set_option linter.unusedVariables false
set_option linter.unusedSimpArgs false
namespace Go.Proofs.YtddgpgldbekamaaGreatDoor
open Go.RowKit

theorem chs_of_row {w : World} {base : Nat} {e : TypeId} {v : Value} {l : List Ch} (h : w.ownsRow base e 3 v l.length (l.flatMap chI)) (hs : ∀ c ∈ l, c.key.size ≤ maxLen ∧ c.val.size ≤ maxLen) : ∃ a c, v = .slice a l.length c ∧ ChsAt w a l := by
  rcases row_open h with ⟨rfl, rfl⟩ | ⟨g, cap, rfl, hbg, hg, hf, hc⟩
  · exact ⟨none, 0, rfl, .inl rfl⟩
  · refine ⟨_, _, rfl, .inr ⟨g, 0, rfl, hg, fun j x hx => ?_⟩⟩
    have key : ∀ k, k < 3 → (l.flatMap chI)[j * 3 + k]? = (chI x)[k]? := fun k hk => flat_get chI 3 (fun _ => rfl) l j k x hx hk
    obtain ⟨s1, s2⟩ := hs x (List.mem_of_getElem? hx)
    refine ⟨⟨?_, ?_, ?_⟩, s1, s2⟩
    · have := hc (j * 3 + 0) _ (key 0 (by omega)); simpa using this
    · have := hc (j * 3 + 1) _ (key 1 (by omega)); simpa using this
    · have := hc (j * 3 + 2) _ (key 2 (by omega)); simpa using this
theorem rows_small {r : Rm} (h : ImOk r) : ∀ c ∈ rowsL r, c.key.size ≤ 8 ∧ c.val.size ≤ 24 := by
  intro c hc
  unfold rowsL at hc
  simp only [List.mem_append, List.mem_map, List.mem_singleton] at hc
  rcases hc with ((⟨x, -, rfl⟩ | ⟨x, hx, rfl⟩) | ⟨x, -, rfl⟩) | rfl
  · simp [hRow, bsO_size, d4]
  · have := (h.t x hx).2.2
    have h2 : x.data.data.toList.length = x.data.size := by simp
    constructor
    · simp [tRow, bsO_size, d4]
    · show (bsO _).size ≤ 24
      rw [bsO_size, List.length_append, d4_len]; omega
  · simp [wRow, bsO_size, d4]
  · simp [xRow, bsO_size, d4]
theorem rows_max {r : Rm} (h : ImOk r) : ∀ c ∈ rowsL r, c.key.size ≤ maxLen ∧ c.val.size ≤ maxLen := fun c hc => by
  have := rows_small h c hc
  unfold maxLen; omega
end Go.Proofs.YtddgpgldbekamaaGreatDoor
set_option linter.unusedVariables false
set_option linter.unusedSimpArgs false
set_option linter.unnecessarySimpa false
namespace Go.Proofs.YtddgpgldbekamaaGreatDoor
open Go.RowKit

theorem tl_inj {a b : ByteArray} (h : a.toList = b.toList) : a = b := by
  rw [ByteArray.toList_eq, ByteArray.toList_eq] at h
  exact ByteArray.ext (Array.ext' h)
theorem ch_ext {x y : Ch} (h1 : x.key = y.key) (h2 : x.val = y.val) (h3 : x.gone = y.gone) : x = y := by cases x; cases y; simp_all
set_option maxHeartbeats 4000000 in
set_option maxRecDepth 100000 in
theorem samech_any (a b : Option Addr) (c c' : Nat) (l m : List Ch) (w : World) (ha : ChsAt w a l) (hb : ChsAt w b m) (hm : l.length ≤ maxLen) (hm2 : m.length ≤ maxLen) :
    Calls Tryz.prog 14 #[.slice a l.length c, .slice b m.length c'] w fun e w' => (∃ r, e = .returned (.bool r) ∧ (r = true ↔ l = m)) ∧ Below w.heap.size w w' := by
  unfold maxLen at hm hm2
  by_cases hlm : l.length = m.length
  rotate_left
  · have d0 : ((l.length : Int) == (m.length : Int)) = false := by simp; omega
    go_enter Tryz.func14, Tryz.ntmps14
    go_wp2_with fail
    go_ret
    exact ⟨⟨false, rfl, by simp; intro e; exact hlm (by rw [e])⟩, Below.refl _ _⟩
  rw [← hlm]
  have HLM : Hid (l.length = m.length) := hlm
  clear hlm hm2
  go_enter Tryz.func14, Tryz.ntmps14
  go_wp2_with fail
  go_loopw [5, 4] (fun i _ wr => ∃ k : Nat, k ≤ l.length ∧ i = .int .i64 k ∧ Below w.heap.size w wr ∧ Hid (l.take k = m.take k)) (fun i _ _ => l.length - (intOf i).toNat)
  case atStart => exact ⟨0, Nat.zero_le _, rfl, Below.refl _ _, rfl⟩
  case round =>
    obtain ⟨k, hk, rfl, hbl, HT⟩ := hrel
    by_cases hlt : k < l.length
    · obtain ⟨x, hx⟩ : ∃ x, l[k]? = some x := ⟨l[k], List.getElem?_eq_getElem hlt⟩
      obtain ⟨y, hy⟩ : ∃ y, m[k]? = some y := ⟨m[k]'(by have := HLM.out; omega), List.getElem?_eq_getElem _⟩
      obtain ⟨b1, o1, rfl, hb1, h1⟩ := (ha.below hbl).resolve_left (by rintro e; rw [e] at hlt; simp at hlt)
      obtain ⟨b2, o2, rfl, hb2, h2⟩ := (hb.below hbl).resolve_left (by rintro e; rw [e] at hy; simp at hy)
      obtain ⟨⟨p0, p1, p2⟩, -⟩ := h1 k x hx
      obtain ⟨⟨q0, q1, q2⟩, -⟩ := h2 k y hy
      have dlt : decide ((k : Int) < (l.length : Int)) = true := decide_eq_true (by omega)
      by_cases hxy : x = y
      · subst hxy
        have HT2 : Hid (l.take (k + 1) = m.take (k + 1)) := by
          show _ = _
          rw [List.take_add_one, List.take_add_one, hx, hy, HT.out]
        clear h1 h2 hx hy HT
        go_wp2_with fail
        refine wp_region_held_drew (S := fun w' => w'.cell? ⟨b1, o1 + k * 3, none⟩ = some (.string x.key) ∧ w'.cell? ⟨b1, o1 + k * 3 + 1, none⟩ = some (.string x.val) ∧ w'.cell? ⟨b1, o1 + k * 3 + 2, none⟩ = some (.bool x.gone) ∧ w'.cell? ⟨b2, o2 + k * 3, none⟩ = some (.string x.key) ∧ w'.cell? ⟨b2, o2 + k * 3 + 1, none⟩ = some (.string x.val) ∧ w'.cell? ⟨b2, o2 + k * 3 + 2, none⟩ = some (.bool x.gone)) (by kernel_rfl) ?_ (fun hHeld => ?_)
        · exact ⟨p0, p1, p2, q0, q1, q2⟩
        refine tkI 0 (.slice (some ⟨b1, o1, none⟩) l.length c) rfl ?_
        refine tkI 1 (.int .i64 k) rfl ?_
        refine tkI 2 (.pointer (some ⟨b1, o1 + k * 3, none⟩)) rfl ?_
        refine tkI 3 (.agg #[.string x.key, .string x.val, .bool x.gone]) rfl ?_
        refine tkI 4 (.slice (some ⟨b2, o2, none⟩) l.length c') rfl ?_
        refine tkI 5 (.int .i64 k) rfl ?_
        refine tkI 6 (.pointer (some ⟨b2, o2 + k * 3, none⟩)) rfl ?_
        refine tkI 7 (.agg #[.string x.key, .string x.val, .bool x.gone]) rfl ?_
        refine tkI 8 (.bool false) rfl ?_
        refine wpAnyH_done (by kernel_rfl) ?_ _
        go_wp2_with fail
        go_roundw
        case rel => exact ⟨k + 1, by omega, by go_num, below_drewN hbl 1, HT2⟩
        case measure => simp [intOf]; omega
      · have HN : Hid (l ≠ m) := fun e => hxy (by rw [e, hy] at hx; exact (Option.some.inj hx).symm)
        have hne : x.key.toList = y.key.toList → x.val.toList = y.val.toList → ¬ x.gone = y.gone := fun e1 e2 e3 => hxy (ch_ext (tl_inj e1) (tl_inj e2) e3)
        clear h1 h2 hx hy HT hxy
        go_wp2_with fail
        refine wp_region_held_drew (S := fun w' => w'.cell? ⟨b1, o1 + k * 3, none⟩ = some (.string x.key) ∧ w'.cell? ⟨b1, o1 + k * 3 + 1, none⟩ = some (.string x.val) ∧ w'.cell? ⟨b1, o1 + k * 3 + 2, none⟩ = some (.bool x.gone) ∧ w'.cell? ⟨b2, o2 + k * 3, none⟩ = some (.string y.key) ∧ w'.cell? ⟨b2, o2 + k * 3 + 1, none⟩ = some (.string y.val) ∧ w'.cell? ⟨b2, o2 + k * 3 + 2, none⟩ = some (.bool y.gone)) (by kernel_rfl) ?_ (fun hHeld => ?_)
        · exact ⟨p0, p1, p2, q0, q1, q2⟩
        refine tkI 0 (.slice (some ⟨b1, o1, none⟩) l.length c) rfl ?_
        refine tkI 1 (.int .i64 k) rfl ?_
        refine tkI 2 (.pointer (some ⟨b1, o1 + k * 3, none⟩)) rfl ?_
        refine tkI 3 (.agg #[.string x.key, .string x.val, .bool x.gone]) rfl ?_
        refine tkI 4 (.slice (some ⟨b2, o2, none⟩) l.length c') rfl ?_
        refine tkI 5 (.int .i64 k) rfl ?_
        refine tkI 6 (.pointer (some ⟨b2, o2 + k * 3, none⟩)) rfl ?_
        refine tkI 7 (.agg #[.string y.key, .string y.val, .bool y.gone]) rfl ?_
        refine tkJ 8 (.bool true) rfl (by intro w hSw; go_simp; exact hne) ?_
        refine wpAnyH_done (by kernel_rfl) ?_ _
        go_wp2_with fail
        go_ret
        exact ⟨⟨false, rfl, by simp; exact HN.out⟩, below_drewN hbl 1⟩
    · have HE : Hid (l = m) := by
        show _ = _
        have h1 := HT.out
        have := HLM.out
        rwa [List.take_of_length_le (by omega), List.take_of_length_le (by omega)] at h1
      have dlt : decide ((k : Int) < (l.length : Int)) = false := decide_eq_false (by omega)
      clear HT
      go_wp2_with fail
      go_ret
      exact ⟨⟨true, rfl, by simp; exact HE.out⟩, hbl⟩
set_option maxHeartbeats 4000000 in
set_option maxRecDepth 100000 in
theorem sameN_some (b1 o1 c1 b2 o2 c2 : Nat) (A : List Int) (w : World) (hA : ∀ j, j < A.length → w.cell? ⟨b1, o1 + j, none⟩ = some (.int .i64 (A.getD j 0))) (hB : ∀ j, j < A.length → w.cell? ⟨b2, o2 + j, none⟩ = some (.int .i64 (A.getD j 0))) (hz1 : b1 < w.heap.size) (hz2 : b2 < w.heap.size) (hm : A.length ≤ 1000000) :
    Calls Tryz.prog 28 #[.slice (some ⟨b1, o1, none⟩) A.length c1, .slice (some ⟨b2, o2, none⟩) A.length c2] w fun e w' => e = .returned (.bool true) ∧ Below w.heap.size w w' := by
  go_enter Tryz.func28, Tryz.ntmps28
  go_wp2_with fail
  go_loopw [5, 4] (fun i _ wr => ∃ k : Nat, k ≤ A.length ∧ i = .int .i64 k ∧ Below w.heap.size w wr) (fun i _ _ => A.length - (intOf i).toNat)
  case atStart => exact ⟨0, Nat.zero_le _, rfl, Below.refl _ _⟩
  case round =>
    obtain ⟨k, hk, rfl, bl⟩ := hrel
    by_cases hlt : k < A.length
    · obtain ⟨x, hx⟩ : ∃ x, A[k]? = some x := ⟨A[k], List.getElem?_eq_getElem hlt⟩
      have q1 := hA k hlt
      have q2 := hB k hlt
      rw [List.getD_eq_getElem?_getD, hx] at q1 q2
      have hS0 : wr.drew.cell? ⟨b1, o1 + k, none⟩ = some (.int .i64 x) ∧ wr.drew.cell? ⟨b2, o2 + k, none⟩ = some (.int .i64 x) := ⟨(((bcell bl.drew).1 _ _ hz1)).trans q1, (((bcell bl.drew).1 _ _ hz2)).trans q2⟩
      have dlt : decide ((k : Int) < (A.length : Int)) = true := decide_eq_true (by omega)
      clear hx q1 q2 hA hB
      go_wp2_with fail
      refine wp_region_held_drew (S := fun w' => w'.cell? ⟨b1, o1 + k, none⟩ = some (.int .i64 x) ∧ w'.cell? ⟨b2, o2 + k, none⟩ = some (.int .i64 x)) (by kernel_rfl) ?_ (fun hHeld => ?_)
      · exact hS0
      refine tkI 0 (.slice (some ⟨b1, o1, none⟩) A.length c1) rfl ?_
      refine tkI 1 (.int .i64 k) rfl ?_
      refine tkJ 2 (.pointer (some ⟨b1, o1 + k, none⟩)) rfl (by intro w hSw; go_simp; all_goals (intro hx; exact absurd hx (by omega))) ?_
      refine tkJ 3 (.int .i64 x) rfl (by intro w hSw; (try dsimp only at hSw); obtain ⟨z0, z1⟩ := hSw; go_simp) ?_
      refine tkI 4 (.slice (some ⟨b2, o2, none⟩) A.length c2) rfl ?_
      refine tkI 5 (.int .i64 k) rfl ?_
      refine tkJ 6 (.pointer (some ⟨b2, o2 + k, none⟩)) rfl (by intro w hSw; go_simp; all_goals (intro hx; exact absurd hx (by omega))) ?_
      refine tkJ 7 (.int .i64 x) rfl (by intro w hSw; (try dsimp only at hSw); obtain ⟨z0, z1⟩ := hSw; go_simp) ?_
      refine tkI 8 (.bool false) rfl ?_
      refine wpAnyH_done (by kernel_rfl) ?_ _
      go_wp2_with fail
      go_roundw
      case rel => exact ⟨k + 1, by omega, by go_num, bl.drew⟩
      case measure => simp [intOf]; omega
    · have dlt : decide ((k : Int) < (A.length : Int)) = false := decide_eq_false (by omega)
      clear hA hB
      go_wp2_with fail
      go_ret
      exact ⟨rfl, bl⟩
theorem sameN_any (a1 a2 : Option Addr) (c1 c2 : Nat) (A : List Int) (w : World) (hA : IntsAt w a1 A) (hB : IntsAt w a2 A) (hz1 : ∀ b o, a1 = some ⟨b, o, none⟩ → b < w.heap.size) (hz2 : ∀ b o, a2 = some ⟨b, o, none⟩ → b < w.heap.size) (hm : A.length ≤ 1000000) :
    Calls Tryz.prog 28 #[.slice a1 A.length c1, .slice a2 A.length c2] w fun e w' => e = .returned (.bool true) ∧ Below w.heap.size w w' := by
  by_cases h0 : A = []
  · subst h0
    go_enter Tryz.func28, Tryz.ntmps28
    go_wp2_with fail
    refine wp_loop_rounds 1 ?_
    rw [rounds_succ]
    go_wp2_with fail
    go_ret
    exact ⟨rfl, Below.refl _ _⟩
  · rcases hA with e | ⟨b1, o1, rfl, hA⟩
    · exact absurd e h0
    · rcases hB with e | ⟨b2, o2, rfl, hB⟩
      · exact absurd e h0
      · exact sameN_some b1 o1 c1 b2 o2 c2 A w hA hB (hz1 _ _ rfl) (hz2 _ _ rfl) hm
theorem chs_fitI {w : World} {a : Option Addr} {l : List Ch} (h : ChsAt w a l) : ∀ c ∈ l, c.key.size ≤ maxLen ∧ c.val.size ≤ maxLen := by
  intro c hc
  rcases h with h | ⟨b, o, -, -, h⟩
  · rw [h] at hc; cases hc
  · obtain ⟨j, hj⟩ := List.mem_iff_getElem?.1 hc
    exact (h j c hj).2
set_option maxHeartbeats 4000000 in
set_option maxRecDepth 100000 in
theorem copyI (b o c : Nat) (l : List Ch) (w : World) (hx : ∀ j x, l[j]? = some x → ChAt w b (o + j * 3) x) (hm : l.length ≤ 100) : ∃ v W', (Builtin.append_ #[23, 23] 23 #[.slice none 0 0, .slice (some ⟨b, o, none⟩) l.length c]).run Tryz.prog w = .ok v W' ∧ W'.ownsRow w.heap.size 52 3 v l.length (l.flatMap chI) ∧ Below w.heap.size w W' := by
  obtain ⟨i0, hi, hi0, hi1, hi2⟩ := info_parts infoChI
  have hfl : ∀ j u, (l.flatMap chI)[j]? = some u → w.cell? ⟨b, o + j, none⟩ = some u := by
    refine flat_cells chI 3 (by decide) (fun _ => rfl) l w b o ?_
    intro k x hk j u hu
    obtain ⟨⟨h0, h1, h2⟩, -⟩ := hx k x hk
    match j, hu with
    | 0, hu => simp [chI] at hu; subst hu; exact h0
    | 1, hu => simp [chI] at hu; subst hu; exact h1
    | 2, hu => simp [chI] at hu; subst hu; exact h2
  have hone : ∀ u ∈ l.flatMap chI, u.oneCell' = true := by
    intro u hu
    obtain ⟨x, -, hu⟩ := List.mem_flatMap.1 hu
    exact oneC _ _ _ u hu
  obtain ⟨v', W', r1, hown, hgrow, -⟩ := run_append_own (P := Tryz.prog) w w.heap.size 23 23 52 i0 (.agg #[.string ByteArray.empty, .string ByteArray.empty, .bool false]) 3 40 Tryz.underlying23 hi hi0 hi1 hi2 rfl (by decide) (.slice none 0 0) 0 [] (World.ownsRow_nil _ _ _ _) ⟨b, o, none⟩ l.length c (l.flatMap chI) (flat_len chI 3 (fun _ => rfl) l) (fun j u hu => by rw [Addr.add_lit]; exact hfl j u hu) hone (by unfold maxLen; omega) (by omega) (Nat.le_refl _)
  refine ⟨v', W', r1, by simpa using hown, (Below.refl _ w).grown hgrow (Nat.le_refl _) (fun k hk => by simp [Value.ownBlock] at hk)⟩
theorem RwI.drw {V W : World} {v : Value} {l : List Ch} (h : RwI V W v l) : RwI V W.drew v l := h.below (below_drewN (Below.refl _ _) 1)
theorem fit_snoc {l : List Ch} {c : Ch} (h : ∀ x ∈ l, x.key.size ≤ maxLen ∧ x.val.size ≤ maxLen) (hc : c.key.size ≤ maxLen ∧ c.val.size ≤ maxLen) : ∀ x ∈ l ++ [c], x.key.size ≤ maxLen ∧ x.val.size ≤ maxLen := by
  intro x hx
  rcases List.mem_append.1 hx with hx | hx
  · exact h x hx
  · rw [List.mem_singleton.1 hx]; exact hc
set_option maxHeartbeats 4000000 in
set_option maxRecDepth 100000 in
theorem applied_end (b1 o1 c1 b2 o2 c2 : Nat) (l cs : List Ch) (w : World) (hl : ∀ j x, l[j]? = some x → ChAt w b1 (o1 + j * 3) x) (hb1 : b1 < w.heap.size) (hc : ∀ j x, cs[j]? = some x → ChAt w b2 (o2 + j * 3) x) (hb2 : b2 < w.heap.size) (hm : l.length ≤ 90) (hm2 : cs.length ≤ 1) :
    Calls Tryz.prog 25 #[.slice (some ⟨b1, o1, none⟩) l.length c1, .slice (some ⟨b2, o2, none⟩) cs.length c2] w fun e w' => ∃ L a5 c5, e = .returned (.slice a5 L.length c5) ∧ ChsAt w' a5 L ∧ L.length ≤ 100 ∧ Below w.heap.size w w' := by
  obtain ⟨v0, w0, r0, hown, hb0⟩ := copyI b1 o1 c1 l w hl (by omega)
  have hfl := chs_fitI (.inr ⟨b1, o1, rfl, hb1, hl⟩ : ChsAt w (some ⟨b1, o1, none⟩) l)
  obtain ⟨a5, c5, rfl, hat⟩ := chs_of_row hown hfl
  clear hown hfl hl
  go_enter Tryz.func25, Tryz.ntmps25
  go_wp2_with (refine wpList_run (by rfl) (exec_appI _ _ _ _ (by rfl) (by rfl) (by rfl) (by rfl) (by rfl) (by rfl) r0) ?_)
  clear r0
  go_loopw [6, 5] (fun i v wr => ∃ (j : Nat) (L5 : List Ch) (a5 : Option Addr) (c5 : Nat), j ≤ cs.length ∧ i = .int .i64 j ∧ v = .slice a5 L5.length c5 ∧ ChsAt wr a5 L5 ∧ L5.length ≤ l.length + j ∧ Below w.heap.size w wr) (fun i _ _ => cs.length - (intOf i).toNat)
  case atStart => exact ⟨0, l, a5, c5, Nat.zero_le _, rfl, rfl, hat, Nat.le_refl _, hb0⟩
  case round =>
    clear hat hb0
    obtain ⟨j, L5, a5, c5, hj, rfl, rfl, hat, hL5, bl⟩ := hrel
    by_cases hlt : j < cs.length
    · obtain ⟨c, hcj⟩ : ∃ c, cs[j]? = some c := ⟨cs[j], List.getElem?_eq_getElem hlt⟩
      have hcA := (hc j c hcj).below bl hb2
      have hfc := hcA.2
      obtain ⟨y0, y1, y2⟩ := hcA.1
      have hb2' : b2 < wr.heap.size := Nat.lt_of_lt_of_le hb2 bl.size
      have dlt : decide ((j : Int) < (cs.length : Int)) = true := decide_eq_true (by omega)
      clear hcj hc
      go_wp2_with fail
      generalize hV : wr = V at *
      clear hV
      have hCV : ∀ W, Below V.heap.size V W → W.cell? ⟨b2, o2 + j * 3, none⟩ = some (.string c.key) ∧ W.cell? ⟨b2, o2 + j * 3 + 1, none⟩ = some (.string c.val) ∧ W.cell? ⟨b2, o2 + j * 3 + 2, none⟩ = some (.bool c.gone) := fun W h => ⟨((bcell h).1 _ _ hb2').trans y0, ((bcell h).1 _ _ hb2').trans y1, ((bcell h).1 _ _ hb2').trans y2⟩
      have hbl := bl
      go_loopw [9, 7, 8] (fun i v d wr => ∃ (k : Nat) (bd : Bool) (L7 : List Ch), k ≤ L5.length ∧ i = .int .i64 k ∧ d = .bool bd ∧ RwI V wr v L7 ∧ (∀ x ∈ L7, x.key.size ≤ maxLen ∧ x.val.size ≤ maxLen) ∧ L7.length ≤ k + 1 ∧ (bd = false → L7.length ≤ k)) (fun i _ _ _ => L5.length - (intOf i).toNat)
      case atStart => exact ⟨0, c.gone, [], Nat.zero_le _, rfl, rfl, ⟨Below.refl _ _, World.ownsRow_nil _ _ _ _⟩, (fun x hx => by cases hx), by simp, fun _ => by simp⟩
      case round =>
        obtain ⟨i, bd, L7, hi, rfl, rfl, hI, hf7, hl7, hb7⟩ := hrel
        by_cases hlt2 : i < L5.length
        · obtain ⟨x, hxi⟩ : ∃ x, L5[i]? = some x := ⟨L5[i], List.getElem?_eq_getElem hlt2⟩
          obtain ⟨b5, o5, rfl, hb5, hx5⟩ := hat.resolve_left (fun e => by rw [e] at hlt2; simp at hlt2)
          have hxA := hx5 i x hxi
          have hfx := hxA.2
          obtain ⟨x0, x1, x2⟩ := hxA.1
          have hXV : ∀ W, Below V.heap.size V W → W.cell? ⟨b5, o5 + i * 3, none⟩ = some (.string x.key) ∧ W.cell? ⟨b5, o5 + i * 3 + 1, none⟩ = some (.string x.val) ∧ W.cell? ⟨b5, o5 + i * 3 + 2, none⟩ = some (.bool x.gone) := fun W h => ⟨((bcell h).1 _ _ hb5).trans x0, ((bcell h).1 _ _ hb5).trans x1, ((bcell h).1 _ _ hb5).trans x2⟩
          have hSV : ∀ W, Below V.heap.size V W → W.cell? ⟨b2, o2 + j * 3, none⟩ = some (.string c.key) ∧ W.cell? ⟨b5, o5 + i * 3, none⟩ = some (.string x.key) := fun W h => ⟨(hCV W h).1, (hXV W h).1⟩
          have hS0 := hSV _ hI.bl.drew
          have dlt2 : decide ((i : Int) < (L5.length : Int)) = true := decide_eq_true (by omega)
          clear x0 x1 x2 hxA hx5 hxi y0 y1 y2 hat
          go_wp2_with fail
          cases bd
          · refine wp_region_held_drew (S := fun w' => w'.cell? ⟨b2, o2 + j * 3, none⟩ = some (.string c.key) ∧ w'.cell? ⟨b5, o5 + i * 3, none⟩ = some (.string x.key)) (by kernel_rfl) ?_ (fun hHeld => ?_)
            · exact hS0
            refine tkI 0 (.bool false) rfl ?_
            refine tkI 1 (.bool true) rfl ?_
            refine tkI 2 (.bool true) rfl ?_
            refine tkI 3 (.slice (some ⟨b2, o2, none⟩) cs.length c2) rfl ?_
            refine tkI 4 (.int .i64 (j : Int)) rfl ?_
            refine tkJ 5 (.pointer (some ⟨b2, o2 + j * 3, none⟩)) rfl (by intro w hSw; go_simp; all_goals (intro hx; exact absurd hx (by omega))) ?_
            refine tkI 6 (.pointer (some ⟨b2, o2 + j * 3, none⟩)) rfl ?_
            refine tkJ 7 (.string c.key) rfl (by intro w hSw; (try dsimp only at hSw); obtain ⟨z0, z1⟩ := hSw; go_simp) ?_
            refine tkI 8 (.slice (some ⟨b5, o5, none⟩) L5.length c5) rfl ?_
            refine tkI 9 (.int .i64 (i : Int)) rfl ?_
            refine tkJ 10 (.pointer (some ⟨b5, o5 + i * 3, none⟩)) rfl (by intro w hSw; go_simp; all_goals (intro hx; exact absurd hx (by omega))) ?_
            refine tkI 11 (.pointer (some ⟨b5, o5 + i * 3, none⟩)) rfl ?_
            refine tkJ 12 (.string x.key) rfl (by intro w hSw; (try dsimp only at hSw); obtain ⟨z0, z1⟩ := hSw; go_simp) ?_
            refine tkI 13 (.bool (Op.bytesLess c.key.toList x.key.toList || c.key.toList == x.key.toList)) rfl ?_
            refine tkI 14 (.bool (Op.bytesLess c.key.toList x.key.toList || c.key.toList == x.key.toList)) rfl ?_
            refine wpAnyH_done (by kernel_rfl) ?_ _
            have hI2 := hI.drw
            have hcc := hCV _ hI2.bl
            generalize wr.drew = wd at *
            generalize (Op.bytesLess c.key.toList x.key.toList || c.key.toList == x.key.toList) = le
            clear hS0
            have hb7' := hb7 rfl
            cases le
            · go_wp2_with fail
              have q := hI2.bl
              have hS1 : wd.drew.cell? ⟨b2, o2 + j * 3, none⟩ = some (.string c.key) ∧ wd.drew.cell? ⟨b5, o5 + i * 3, none⟩ = some (.string x.key) := hSV _ q.drew
              go_wp2_with fail
              refine wp_region_held_drew (S := fun w' => w'.cell? ⟨b2, o2 + j * 3, none⟩ = some (.string c.key) ∧ w'.cell? ⟨b5, o5 + i * 3, none⟩ = some (.string x.key)) (by kernel_rfl) ?_ (fun hHeld => ?_)
              · exact hS1
              refine tkI 0 (.slice (some ⟨b5, o5, none⟩) L5.length c5) rfl ?_
              refine tkI 1 (.int .i64 (i : Int)) rfl ?_
              refine tkJ 2 (.pointer (some ⟨b5, o5 + i * 3, none⟩)) rfl (by intro w hSw; go_simp; all_goals (intro hx; exact absurd hx (by omega))) ?_
              refine tkI 3 (.pointer (some ⟨b5, o5 + i * 3, none⟩)) rfl ?_
              refine tkJ 4 (.string x.key) rfl (by intro w hSw; (try dsimp only at hSw); obtain ⟨z0, z1⟩ := hSw; go_simp) ?_
              refine tkI 5 (.slice (some ⟨b2, o2, none⟩) cs.length c2) rfl ?_
              refine tkI 6 (.int .i64 (j : Int)) rfl ?_
              refine tkJ 7 (.pointer (some ⟨b2, o2 + j * 3, none⟩)) rfl (by intro w hSw; go_simp; all_goals (intro hx; exact absurd hx (by omega))) ?_
              refine tkI 8 (.pointer (some ⟨b2, o2 + j * 3, none⟩)) rfl ?_
              refine tkJ 9 (.string c.key) rfl (by intro w hSw; (try dsimp only at hSw); obtain ⟨z0, z1⟩ := hSw; go_simp) ?_
              refine tkI 10 (.bool (!(x.key.toList == c.key.toList))) rfl ?_
              refine wpAnyH_done (by kernel_rfl) ?_ _
              have R3 := hI2.drw
              have hcx := hXV _ q.drew
              generalize wd.drew = wd3 at *
              generalize (!(x.key.toList == c.key.toList)) = ne
              clear hS1 q
              cases ne
              · go_wp2_with fail
                go_roundw
                case rel => exact ⟨i + 1, false, L7, by omega, by go_num, rfl, R3, hf7, by omega, fun _ => by omega⟩
                case measure => simp [intOf]; omega
              · have R4' := R3.below ((Below.refl wd3.heap.size wd3).alloc (Nat.le_refl _) (.cells #[.string x.key, .string x.val, .bool x.gone] 52))
                obtain ⟨qa4, qn4, qk4, W4, r4, R4, -⟩ := R4'.run (by omega) x wd3.heap.size (Bx.new wd3 [.string x.key, .string x.val, .bool x.gone] 52)
                clear R4'
                obtain ⟨x0, x1, x2⟩ := hcx
                go_wp2_with (refine wpList_run (by rfl) (exec_appI _ _ _ _ (by rfl) (by rfl) (by rfl) (by rfl) (by rfl) (by rfl) r4) ?_)
                clear r4
                go_roundw
                case rel => exact ⟨i + 1, false, L7 ++ [x], by omega, by go_num, rfl, R4, fit_snoc (hf7) hfx, by simp; omega, fun _ => by simp; omega⟩
                case measure => simp [intOf]; omega
            · have R2' := hI2.below ((Below.refl wd.heap.size wd).alloc (Nat.le_refl _) (.cells #[.string c.key, .string c.val, .bool c.gone] 52))
              obtain ⟨qa2, qn2, qk2, W2, r2, R2, -⟩ := R2'.run (by omega) c wd.heap.size (Bx.new wd [.string c.key, .string c.val, .bool c.gone] 52)
              clear R2'
              obtain ⟨y0, y1, y2⟩ := hcc
              go_wp2_with (refine wpList_run (by rfl) (exec_appI _ _ _ _ (by rfl) (by rfl) (by rfl) (by rfl) (by rfl) (by rfl) r2) ?_)
              clear r2 y0 y1 y2
              have q := R2.bl
              have hS1 : W2.drew.cell? ⟨b2, o2 + j * 3, none⟩ = some (.string c.key) ∧ W2.drew.cell? ⟨b5, o5 + i * 3, none⟩ = some (.string x.key) := hSV _ q.drew
              go_wp2_with fail
              refine wp_region_held_drew (S := fun w' => w'.cell? ⟨b2, o2 + j * 3, none⟩ = some (.string c.key) ∧ w'.cell? ⟨b5, o5 + i * 3, none⟩ = some (.string x.key)) (by kernel_rfl) ?_ (fun hHeld => ?_)
              · exact hS1
              refine tkI 0 (.slice (some ⟨b5, o5, none⟩) L5.length c5) rfl ?_
              refine tkI 1 (.int .i64 (i : Int)) rfl ?_
              refine tkJ 2 (.pointer (some ⟨b5, o5 + i * 3, none⟩)) rfl (by intro w hSw; go_simp; all_goals (intro hx; exact absurd hx (by omega))) ?_
              refine tkI 3 (.pointer (some ⟨b5, o5 + i * 3, none⟩)) rfl ?_
              refine tkJ 4 (.string x.key) rfl (by intro w hSw; (try dsimp only at hSw); obtain ⟨z0, z1⟩ := hSw; go_simp) ?_
              refine tkI 5 (.slice (some ⟨b2, o2, none⟩) cs.length c2) rfl ?_
              refine tkI 6 (.int .i64 (j : Int)) rfl ?_
              refine tkJ 7 (.pointer (some ⟨b2, o2 + j * 3, none⟩)) rfl (by intro w hSw; go_simp; all_goals (intro hx; exact absurd hx (by omega))) ?_
              refine tkI 8 (.pointer (some ⟨b2, o2 + j * 3, none⟩)) rfl ?_
              refine tkJ 9 (.string c.key) rfl (by intro w hSw; (try dsimp only at hSw); obtain ⟨z0, z1⟩ := hSw; go_simp) ?_
              refine tkI 10 (.bool (!(x.key.toList == c.key.toList))) rfl ?_
              refine wpAnyH_done (by kernel_rfl) ?_ _
              have R3 := R2.drw
              have hcx := hXV _ q.drew
              generalize W2.drew = wd3 at *
              generalize (!(x.key.toList == c.key.toList)) = ne
              clear hS1 q
              cases ne
              · go_wp2_with fail
                go_roundw
                case rel => exact ⟨i + 1, true, (L7 ++ [c]), by omega, by go_num, rfl, R3, fit_snoc hf7 hfc, by simp; omega, fun e => by cases e⟩
                case measure => simp [intOf]; omega
              · have R4' := R3.below ((Below.refl wd3.heap.size wd3).alloc (Nat.le_refl _) (.cells #[.string x.key, .string x.val, .bool x.gone] 52))
                obtain ⟨qa4, qn4, qk4, W4, r4, R4, -⟩ := R4'.run (by simp; omega) x wd3.heap.size (Bx.new wd3 [.string x.key, .string x.val, .bool x.gone] 52)
                clear R4'
                obtain ⟨x0, x1, x2⟩ := hcx
                go_wp2_with (refine wpList_run (by rfl) (exec_appI _ _ _ _ (by rfl) (by rfl) (by rfl) (by rfl) (by rfl) (by rfl) r4) ?_)
                clear r4
                go_roundw
                case rel => exact ⟨i + 1, true, (L7 ++ [c]) ++ [x], by omega, by go_num, rfl, R4, fit_snoc (fit_snoc hf7 hfc) hfx, by simp; omega, fun e => by cases e⟩
                case measure => simp [intOf]; omega
          · refine wp_region_held_drew (S := fun w' => w'.cell? ⟨b2, o2 + j * 3, none⟩ = some (.string c.key) ∧ w'.cell? ⟨b5, o5 + i * 3, none⟩ = some (.string x.key)) (by kernel_rfl) ?_ (fun hHeld => ?_)
            · exact hS0
            refine tkI 0 (.bool true) rfl ?_
            refine tkI 1 (.bool false) rfl ?_
            refine tkI 2 (.bool false) rfl ?_
            refine tkS 3 rfl ?_
            refine tkS 4 rfl ?_
            refine tkS 5 rfl ?_
            refine tkS 6 rfl ?_
            refine tkS 7 rfl ?_
            refine tkS 8 rfl ?_
            refine tkS 9 rfl ?_
            refine tkS 10 rfl ?_
            refine tkS 11 rfl ?_
            refine tkS 12 rfl ?_
            refine tkS 13 rfl ?_
            refine tkI 14 (.bool false) rfl ?_
            refine wpAnyH_done (by kernel_rfl) ?_ _
            have hI2 := hI.drw
            generalize wr.drew = wd at *
            clear hS0
            go_wp2_with fail
            have q := hI2.bl
            have hS1 : wd.drew.cell? ⟨b2, o2 + j * 3, none⟩ = some (.string c.key) ∧ wd.drew.cell? ⟨b5, o5 + i * 3, none⟩ = some (.string x.key) := hSV _ q.drew
            go_wp2_with fail
            refine wp_region_held_drew (S := fun w' => w'.cell? ⟨b2, o2 + j * 3, none⟩ = some (.string c.key) ∧ w'.cell? ⟨b5, o5 + i * 3, none⟩ = some (.string x.key)) (by kernel_rfl) ?_ (fun hHeld => ?_)
            · exact hS1
            refine tkI 0 (.slice (some ⟨b5, o5, none⟩) L5.length c5) rfl ?_
            refine tkI 1 (.int .i64 (i : Int)) rfl ?_
            refine tkJ 2 (.pointer (some ⟨b5, o5 + i * 3, none⟩)) rfl (by intro w hSw; go_simp; all_goals (intro hx; exact absurd hx (by omega))) ?_
            refine tkI 3 (.pointer (some ⟨b5, o5 + i * 3, none⟩)) rfl ?_
            refine tkJ 4 (.string x.key) rfl (by intro w hSw; (try dsimp only at hSw); obtain ⟨z0, z1⟩ := hSw; go_simp) ?_
            refine tkI 5 (.slice (some ⟨b2, o2, none⟩) cs.length c2) rfl ?_
            refine tkI 6 (.int .i64 (j : Int)) rfl ?_
            refine tkJ 7 (.pointer (some ⟨b2, o2 + j * 3, none⟩)) rfl (by intro w hSw; go_simp; all_goals (intro hx; exact absurd hx (by omega))) ?_
            refine tkI 8 (.pointer (some ⟨b2, o2 + j * 3, none⟩)) rfl ?_
            refine tkJ 9 (.string c.key) rfl (by intro w hSw; (try dsimp only at hSw); obtain ⟨z0, z1⟩ := hSw; go_simp) ?_
            refine tkI 10 (.bool (!(x.key.toList == c.key.toList))) rfl ?_
            refine wpAnyH_done (by kernel_rfl) ?_ _
            have R3 := hI2.drw
            have hcx := hXV _ q.drew
            generalize wd.drew = wd3 at *
            generalize (!(x.key.toList == c.key.toList)) = ne
            clear hS1 q
            cases ne
            · go_wp2_with fail
              go_roundw
              case rel => exact ⟨i + 1, true, L7, by omega, by go_num, rfl, R3, hf7, by omega, fun e => by cases e⟩
              case measure => simp [intOf]; omega
            · have R4' := R3.below ((Below.refl wd3.heap.size wd3).alloc (Nat.le_refl _) (.cells #[.string x.key, .string x.val, .bool x.gone] 52))
              obtain ⟨qa4, qn4, qk4, W4, r4, R4, -⟩ := R4'.run (by omega) x wd3.heap.size (Bx.new wd3 [.string x.key, .string x.val, .bool x.gone] 52)
              clear R4'
              obtain ⟨x0, x1, x2⟩ := hcx
              go_wp2_with (refine wpList_run (by rfl) (exec_appI _ _ _ _ (by rfl) (by rfl) (by rfl) (by rfl) (by rfl) (by rfl) r4) ?_)
              clear r4
              go_roundw
              case rel => exact ⟨i + 1, true, L7 ++ [x], by omega, by go_num, rfl, R4, fit_snoc (hf7) hfx, by simp; omega, fun e => by cases e⟩
              case measure => simp [intOf]; omega
        · have dlt2 : decide ((i : Int) < (L5.length : Int)) = false := decide_eq_false (by omega)
          have hcc := hCV _ hI.bl
          clear hat y0 y1 y2
          cases bd
          · have R2' := hI.below ((Below.refl wr.heap.size wr).alloc (Nat.le_refl _) (.cells #[.string c.key, .string c.val, .bool c.gone] 52))
            obtain ⟨qa2, qn2, qk2, W2, r2, R2, -⟩ := R2'.run (by omega) c wr.heap.size (Bx.new wr [.string c.key, .string c.val, .bool c.gone] 52)
            clear R2'
            obtain ⟨y0, y1, y2⟩ := hcc
            have hb7' := hb7 rfl
            go_wp2_with (refine wpList_run (by rfl) (exec_appI _ _ _ _ (by rfl) (by rfl) (by rfl) (by rfl) (by rfl) (by rfl) r2) ?_)
            obtain ⟨a7, c7, hv7, hat7⟩ := chs_of_row R2.own (fit_snoc hf7 hfc)
            go_roundw
            case rel => exact ⟨j + 1, L7 ++ [c], a7, c7, by omega, by go_num, hv7, hat7, by simp; omega, hbl.trans (R2.bl.mono hbl.size)⟩
            case measure => simp [intOf]; omega
          · obtain ⟨a7, c7, rfl, hat7⟩ := chs_of_row hI.own hf7
            go_wp2_with fail
            go_roundw
            case rel => exact ⟨j + 1, L7, a7, c7, by omega, by go_num, rfl, hat7, by omega, hbl.trans (hI.bl.mono hbl.size)⟩
            case measure => simp [intOf]; omega
    · have dlt : decide ((j : Int) < (cs.length : Int)) = false := decide_eq_false (by omega)
      clear hc
      go_wp2_with fail
      go_ret
      exact ⟨L5, a5, c5, rfl, hat, by omega, bl⟩
end Go.Proofs.YtddgpgldbekamaaGreatDoor
