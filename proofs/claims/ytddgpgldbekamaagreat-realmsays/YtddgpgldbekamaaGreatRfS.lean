/- The document's AtPlace, FreeSlot, PutAt, walked. -/
import Derived.Test.YtddgpgldbekamaaGreatShelfW
import Derived.Test.YtddgpgldbekamaaGreatPutW
import Derived.Test.YtddgpgldbekamaaGreatSameW
import Derived.Deep.QuietTactic
import Derived.BigQuiet
set_option linter.unusedVariables false
set_option linter.unusedSimpArgs false
set_option linter.unnecessarySimpa false
namespace Go.Proofs.YtddgpgldbekamaaGreat
open Go.RowKit

theorem findDrop_no {α : Type} {p : α → Bool} {l : List α} {k : Nat} {x : α} (hx : l[k]? = some x) (he : p x = false) (hp : (l.drop k).find? p = l.find? p) : (l.drop (k + 1)).find? p = l.find? p := by
  rw [List.drop_eq_getElem?_toList_append, hx] at hp
  simpa [he] using hp
theorem findDrop_yes {α : Type} {p : α → Bool} {l : List α} {k : Nat} {x : α} (hx : l[k]? = some x) (he : p x = true) (hp : (l.drop k).find? p = l.find? p) : l.find? p = some x := by
  rw [List.drop_eq_getElem?_toList_append, hx] at hp
  rw [← hp]; simp [he]
theorem findDrop_end {α : Type} {p : α → Bool} {l : List α} {k : Nat} (hk : ¬ k < l.length) (hp : (l.drop k).find? p = l.find? p) : l.find? p = none := by
  rw [List.drop_of_length_le (by omega)] at hp; rw [← hp]; rfl
set_option maxHeartbeats 1000000 in
theorem atPlace_some (b o c : Nat) (l : List Hd) (h s : Int) (w : World) (hw : ∀ j x, l[j]? = some x → HdAt w b (o + j * 3) x) (hb : b < w.heap.size) (hm : l.length ≤ 100) :
    Calls Tryz.prog 28 #[.slice (some ⟨b, o, none⟩) l.length c, .agg #[.int .i64 h, .int .i64 s]] w fun e w' => e = .returned (.int .i64 (atP l h s)) ∧ Below w.heap.size w w' := by
  go_enter Tryz.func28, Tryz.ntmps28
  go_wp2
  have q0 : (w.alloc (.cells #[.int .i64 h, .int .i64 s] 33)).cell? ⟨w.heap.size, 0, none⟩ = some (.int .i64 h) := by simp
  have q1 : (w.alloc (.cells #[.int .i64 h, .int .i64 s] 33)).cell? ⟨w.heap.size, 1, none⟩ = some (.int .i64 s) := by simp
  have hbl0 : Below w.heap.size w (w.alloc (.cells #[.int .i64 h, .int .i64 s] 33)) := (Below.refl _ _).alloc (Nat.le_refl _) _
  have hsz0 : (w.alloc (.cells #[.int .i64 h, .int .i64 s] 33)).heap.size = w.heap.size + 1 := by simp
  generalize w.alloc (.cells #[.int .i64 h, .int .i64 s] 33) = w0 at *
  have hw0 : ∀ j x, l[j]? = some x → HdAt w0 b (o + j * 3) x := fun j x hx => (hw j x hx).below hbl0 hb
  clear hw
  go_loopw [5] (fun i wr => ∃ k : Nat, k ≤ l.length ∧ i = .int .i64 k ∧ Hid ((l.drop k).find? (isAt h s) = l.find? (isAt h s)) ∧ ∃ m, wr = w0.drewN m) (fun i _ => l.length - (intOf i).toNat)
  case atStart => exact ⟨0, Nat.zero_le _, rfl, show Hid _ from rfl, 0, rfl⟩
  case round =>
    obtain ⟨k, hk, rfl, hn, m, rfl⟩ := hrel
    by_cases hlt : k < l.length
    · obtain ⟨x, hx⟩ : ∃ x, l[k]? = some x := ⟨l[k], List.getElem?_eq_getElem hlt⟩
      obtain ⟨p1, p2, p3⟩ := hw0 k x hx
      have HX : Hid (l[k]? = some x) := hx
      clear hx hw0
      by_cases e1 : x.holder = h
      · by_cases e2 : x.slot = s
        · have H : Hid (isAt h s x = true) := by show isAt h s x = true; simp [isAt, e1, e2]
          subst e1; subst e2
          go_wp2
          go_quiet (fail)
          go_wp2
          have := findDrop_yes HX.out H.out hn.out
          go_ret
          refine ⟨retInt (by unfold atP; rw [this]), ?_⟩
          repeat (first | exact hbl0 | refine below_drewN ?_ _)
        · have H : Hid (isAt h s x = false) := by show isAt h s x = false; simp [isAt, e2]
          have d1 : (x.slot == s) = false := by simp [e2]
          subst e1
          go_wp2
          go_quiet (fail)
          go_wp2
          go_roundw
          case rel => exact ⟨k + 1, by omega, by go_num, show Hid _ from findDrop_no HX.out H.out hn.out, _, rfl⟩
          case measure => simp [intOf]; omega
      · have H : Hid (isAt h s x = false) := by show isAt h s x = false; simp [isAt, e1]
        have d1 : (x.holder == h) = false := by simp [e1]
        go_wp2
        go_quiet (fail)
        go_wp2
        go_roundw
        case rel => exact ⟨k + 1, by omega, by go_num, show Hid _ from findDrop_no HX.out H.out hn.out, _, rfl⟩
        case measure => simp [intOf]; omega
    · have := findDrop_end hlt hn.out
      have HF : Hid (atP l h s = 0) := by show atP l h s = 0; unfold atP; rw [this]
      clear hw0 this
      go_wp2
      go_ret
      refine ⟨retInt HF.out.symm, ?_⟩
      repeat (first | exact hbl0 | refine below_drewN ?_ _)
theorem atPlace_any (a : Option Addr) (c : Nat) (l : List Hd) (h s : Int) (w : World) (hw : HdsAt w a l) (hm : l.length ≤ 100) :
    Calls Tryz.prog 28 #[.slice a l.length c, .agg #[.int .i64 h, .int .i64 s]] w fun e w' => e = .returned (.int .i64 (atP l h s)) ∧ Below w.heap.size w w' := by
  rcases hw with rfl | ⟨b, o, rfl, hb, hx⟩
  · clear hm
    go_enter Tryz.func28, Tryz.ntmps28
    go_wp2
    refine wp_loop_rounds 1 ?_
    rw [rounds_succ]
    go_wp2
    go_ret
    exact ⟨rfl, (Below.refl _ _).alloc (Nat.le_refl _) _⟩
  · exact atPlace_some b o c l h s w hx hb hm
theorem freeSlot_any (a : Option Addr) (c : Nat) (l : List Hd) (h : Int) (w : World) (hw : HdsAt w a l) (hm : l.length ≤ 100) :
    Calls Tryz.prog 73 #[.slice a l.length c, .int .i64 h] w fun e w' => e = .returned (.int .i64 (freeP l h)) ∧ Below w.heap.size w w' := by
  go_enter Tryz.func73, Tryz.ntmps73
  go_wp2
  go_loopw [5] (fun i wr => ∃ k : Nat, k ≤ 6 ∧ i = .int .i64 k ∧ Hid (freeFrom l h (6 - k) k = freeP l h) ∧ Below w.heap.size w wr) (fun i _ => 6 - (intOf i).toNat)
  case atStart => exact ⟨0, by omega, rfl, show Hid _ from rfl, Below.refl _ _⟩
  case round =>
    obtain ⟨k, hk, rfl, hn, hbl⟩ := hrel
    by_cases hlt' : k < 6
    · go_wp2_with fail
      refine (atPlace_any a c l h k _ (hw.below hbl) hm).mono ?_
      rintro e w1 ⟨rfl, hb1⟩
      have bl1 : Below w.heap.size w w1 := Below_after hbl hb1
      go_wp2_with fail
      · have := free_yes hlt' (by simpa using ‹(atP l h k == 0) = true›) hn.out
        go_ret
        exact ⟨retInt this.symm, bl1⟩
      · go_roundw
        case rel => exact ⟨k + 1, by omega, by go_num, show Hid _ from free_no hlt' (by simpa using ‹(atP l h k == 0) = false›) hn.out, bl1⟩
        case measure => simp [intOf]; omega
    · have HF : Hid (freeP l h = -1) := free_end hk hlt' hn.out
      go_wp2
      go_ret
      exact ⟨retInt HF.out.symm, hbl⟩
theorem sameHeld_true (a1 a2 : Option Addr) (c1 c2 : Nat) (l : List Hd) (w : World) (h1 : HdsAt w a1 l) (h2 : HdsAt w a2 l) (hm : l.length ≤ 1000) :
    Calls Tryz.prog 39 #[.slice a1 l.length c1, .slice a2 l.length c2] w fun e w' => e = .returned (.bool true) ∧ Below w.heap.size w w' := by
  by_cases h0 : l = []
  · subst h0
    go_enter Tryz.func39, Tryz.ntmps39
    go_wp2
    refine wp_loop_rounds 1 ?_
    rw [rounds_succ]
    go_wp2
    go_ret
    exact ⟨rfl, Below.refl _ _⟩
  · obtain ⟨b, o, rfl, hb, hc1⟩ := h1.resolve_left h0
    obtain ⟨b', o', rfl, hb', hc2⟩ := h2.resolve_left h0
    go_enter Tryz.func39, Tryz.ntmps39
    go_wp2
    go_loopw [5] (fun i wr => ∃ k : Nat, k ≤ l.length ∧ i = .int .i64 k ∧ ∃ m, wr = w.drewN m) (fun i _ => l.length - (intOf i).toNat)
    case atStart => exact ⟨0, Nat.zero_le _, rfl, 0, rfl⟩
    case round =>
      obtain ⟨k, hk, rfl, m, rfl⟩ := hrel
      by_cases hlt : k < l.length
      · obtain ⟨x, hx⟩ : ∃ x, l[k]? = some x := ⟨l[k], List.getElem?_eq_getElem hlt⟩
        obtain ⟨p1, p2, p3⟩ := hc1 k x hx
        obtain ⟨q1, q2, q3⟩ := hc2 k x hx
        clear hc1 hc2 hx
        go_wp2
        go_quiet (fail)
        go_wp2
        go_roundw
        case rel => exact ⟨k + 1, by omega, by go_num, _, rfl⟩
        case measure => simp [intOf]; omega
      · clear hc1 hc2
        go_wp2
        go_ret
        exact ⟨rfl, below_drewN (Below.refl _ _) _⟩
/-- what PutAt hands back, from the front: 'laid': the new one has been laid (or is none) -/
def pa (h s id : Int) : Bool → List Hd → List Hd
  | laid, [] => if laid = true then [] else [⟨h, s, id⟩]
  | laid, x :: r => (if laid = true ∨ lowP h s x = true then [] else [⟨h, s, id⟩]) ++ (if isAt h s x = true then [] else [x]) ++ pa h s id (laid || !lowP h s x) r
theorem pa_step {h s id : Int} {laid : Bool} {l out : List Hd} {k : Nat} {x : Hd} {R : List Hd} (hx : l[k]? = some x) (hp : out ++ pa h s id laid (l.drop k) = R) :
    out ++ (if laid = true ∨ lowP h s x = true then [] else [⟨h, s, id⟩]) ++ (if isAt h s x = true then [] else [x]) ++ pa h s id (laid || !lowP h s x) (l.drop (k + 1)) = R := by
  rw [List.drop_eq_getElem?_toList_append, hx] at hp
  rw [← hp]; simp [pa]
theorem pa_true (h s id : Int) : ∀ l : List Hd, pa h s id true l = l.filter (fun x => !isAt h s x)
  | [] => by simp [pa]
  | x :: r => by
    have := pa_true h s id r
    simp only [pa, Bool.true_or, this]
    cases hx : isAt h s x <;> simp [hx]
theorem low_later {h s : Int} {x y : Hd} (h1 : lowP h s x = false) (h2 : befB x.holder x.slot y.holder y.slot = true) : lowP h s y = false := by
  unfold lowP befB at *
  by_cases e1 : x.holder = h <;> by_cases e2 : y.holder = h <;> by_cases e3 : x.holder = y.holder <;> simp_all <;> omega
theorem rise_nonlow {h s : Int} {x : Hd} {r : List Hd} (hr : Rise (x :: r)) (hx : lowP h s x = false) : ∀ y ∈ x :: r, lowP h s y = false := by
  intro y hy
  rcases List.mem_cons.1 hy with rfl | hy
  · exact hx
  · exact low_later hx ((List.pairwise_cons.1 hr).1 y hy)
theorem nonlow_filters {h s : Int} {l : List Hd} (hl : ∀ y ∈ l, lowP h s y = false) : l.filter (lowP h s) = [] ∧ l.filter (fun x => !isAt h s x) = l.filter (highP h s) := by
  constructor
  · rw [List.filter_eq_nil_iff]; intro y hy; simp [hl y hy]
  · apply List.filter_congr
    intro y hy
    rcases low_or (hl y hy) with ⟨h1, h2⟩ | ⟨h1, h2⟩ <;> simp [h1, h2]
theorem pa_putL (h s id : Int) : ∀ l : List Hd, Rise l → pa h s id (decide (id = 0)) l = putL l h s id
  | [], _ => by
    by_cases hid : id = 0 <;> simp [pa, putL, putM, hid]
  | x :: r, hr => by
    have ih := pa_putL h s id r (List.pairwise_cons.1 hr).2
    cases hx : lowP h s x with
    | true =>
      obtain ⟨h1, h2⟩ := low_not hx
      simp only [pa, hx, h1, Bool.not_true, Bool.or_false, ih]
      simp [putL, putM, hx, h2]
    | false =>
      obtain ⟨f1, f2⟩ := nonlow_filters (rise_nonlow hr hx)
      by_cases hid : id = 0
      · rw [show decide (id = 0) = true from decide_eq_true hid, pa_true, f2]
        unfold putL putM
        rw [f1, if_pos hid]; simp
      · have e : pa h s id (decide (id = 0)) (x :: r) = [⟨h, s, id⟩] ++ pa h s id true (x :: r) := by
          simp [pa, hx, hid]
        rw [e, pa_true, f2]
        unfold putL putM
        rw [f1, if_neg hid]; simp
theorem new3n (w : World) (n : Nat) (hn : n = w.heap.size) (t : TypeId) (x y z : Value) : ∀ j u, [x, y, z][j]? = some u → (w.alloc (.cells #[x, y, z] t)).cell? ((⟨n, 0, none⟩ : Addr).add j) = some u := by
  subst hn; exact new3 w t x y z
theorem lowP_iff (h s : Int) (x : Hd) : lowP h s x = decide (x.holder < h ∨ x.holder = h ∧ x.slot < s) := by
  unfold lowP befB
  by_cases e : x.holder = h <;> simp [e]
set_option maxHeartbeats 4000000 in
theorem putAt_some (b o c : Nat) (l : List Hd) (h s id : Int) (w : World) (hw : ∀ j x, l[j]? = some x → HdAt w b (o + j * 3) x) (hb : b < w.heap.size) (hm : l.length ≤ 100) :
    Calls Tryz.prog 74 #[.slice (some ⟨b, o, none⟩) l.length c, .agg #[.int .i64 h, .int .i64 s], .int .i64 id] w
      fun e w' => ∃ v, e = .returned v ∧ w'.ownsRow (w.heap.size + 1) 93 3 v (pa h s id (decide (id = 0)) l).length ((pa h s id (decide (id = 0)) l).flatMap hcells) ∧ Below w.heap.size w w' := by
  obtain ⟨i0, hi, hi0, hi1, hi2⟩ := info_parts infoHeld
  go_enter Tryz.func74, Tryz.ntmps74
  go_wp2
  have q0 : (w.alloc (.cells #[.int .i64 h, .int .i64 s] 33)).cell? ⟨w.heap.size, 0, none⟩ = some (.int .i64 h) := by simp
  have q1 : (w.alloc (.cells #[.int .i64 h, .int .i64 s] 33)).cell? ⟨w.heap.size, 1, none⟩ = some (.int .i64 s) := by simp
  have hbl0 : Below w.heap.size w (w.alloc (.cells #[.int .i64 h, .int .i64 s] 33)) := (Below.refl _ _).alloc (Nat.le_refl _) _
  have hsz0 : (w.alloc (.cells #[.int .i64 h, .int .i64 s] 33)).heap.size = w.heap.size + 1 := by simp
  generalize w.alloc (.cells #[.int .i64 h, .int .i64 s] 33) = w0 at *
  have hw0 : ∀ j x, l[j]? = some x → HdAt w0 b (o + j * 3) x := fun j x hx => (hw j x hx).below hbl0 hb
  have hb0 : b < w0.heap.size := by omega
  have hwz : w.heap.size < w0.heap.size := by omega
  have HS : Hid (w0.heap.size = w.heap.size + 1) := hsz0
  clear hw hsz0
  go_loopw [7, 8, 9] (fun v lb i wr => ∃ (k : Nat) (out : List Hd) (laid : Bool), k ≤ l.length ∧ i = .int .i64 k ∧ lb = .bool laid ∧ out.length ≤ 2 * k ∧ wr.ownsRow w0.heap.size 93 3 v out.length (out.flatMap hcells) ∧ Hid (out ++ pa h s id laid (l.drop k) = pa h s id (decide (id = 0)) l) ∧ Below w0.heap.size w0 wr)
    (fun _ _ i _ => l.length - (intOf i).toNat)
  case atStart => exact ⟨0, [], id == 0, Nat.zero_le _, rfl, rfl, by simp, by simpa using World.ownsRow_nil _ _ _ _, (show [] ++ pa h s id (id == 0) l = pa h s id (decide (id = 0)) l from by rw [show (id == 0) = decide (id = 0) from by rw [Bool.eq_iff_iff]; simp]; rfl), Below.refl _ _⟩
  case round =>
    obtain ⟨k, out, laid, hk, rfl, rfl, hlen, hown, hpa, hbl⟩ := hrel
    by_cases hlt : k < l.length
    · obtain ⟨x, hx⟩ : ∃ x, l[k]? = some x := ⟨l[k], List.getElem?_eq_getElem hlt⟩
      have HX : Hid (l[k]? = some x) := hx
      clear hx
      cases laid with
      | true =>
        by_cases hat : x.holder = h ∧ x.slot = s
        · have HP := pa_step (x := x) HX.out hpa.out
          rw [show isAt h s x = true from decide_eq_true hat] at HP
          simp only [true_or, if_true, Bool.true_or, List.append_nil] at HP
          obtain ⟨e1, e2⟩ := hat
          have E1 : Hid (x.holder = h) := e1
          have E2 : Hid (x.slot = s) := e2
          clear e1 e2
          obtain ⟨p1, p2, p3⟩ := (hw0 k x HX.out).below hbl hb0
          have c0 : wr.cell? ⟨w.heap.size, 0, none⟩ = some (.int .i64 h) := by rw [(bcell hbl).1 _ _ hwz]; exact q0
          have c1 : wr.cell? ⟨w.heap.size, 1, none⟩ = some (.int .i64 s) := by rw [(bcell hbl).1 _ _ hwz]; exact q1
          have hzwr : w.heap.size < wr.heap.size := Nat.lt_of_lt_of_le hwz hbl.size
          have hywr : w.heap.size < wr.heap.size + 1 := by omega
          have hxwr : b < wr.heap.size := Nat.lt_of_lt_of_le hb0 hbl.size
          rw [E1.out] at p1
          rw [E2.out] at p2
          go_wp2_with fail
          go_roundw
          case rel => exact ⟨k + 1, out, true, by omega, by go_num, rfl, by omega, hown.alloc _, (show Hid _ from HP), hbl.alloc hbl.size _⟩
          case measure => simp [intOf]; omega
        · have HP := pa_step (x := x) HX.out hpa.out
          rw [show isAt h s x = false from decide_eq_false hat] at HP
          simp only [true_or, if_true, Bool.true_or, List.append_nil, Bool.false_eq_true, if_false] at HP
          have hd : x.holder = h → ¬ x.slot = s := fun e1 e2 => hat ⟨e1, e2⟩
          clear hat
          by_cases e1 : x.holder = h
          · have d1 : (x.slot == s) = false := by simp [hd e1]
            have E1 : Hid (x.holder = h) := e1
            clear hd e1
            obtain ⟨p1, p2, p3⟩ := (hw0 k x HX.out).below hbl hb0
            have c0 : wr.cell? ⟨w.heap.size, 0, none⟩ = some (.int .i64 h) := by rw [(bcell hbl).1 _ _ hwz]; exact q0
            have c1 : wr.cell? ⟨w.heap.size, 1, none⟩ = some (.int .i64 s) := by rw [(bcell hbl).1 _ _ hwz]; exact q1
            have hzwr : w.heap.size < wr.heap.size := Nat.lt_of_lt_of_le hwz hbl.size
            have hywr : w.heap.size < wr.heap.size + 1 := by omega
            have hxwr : b < wr.heap.size := Nat.lt_of_lt_of_le hb0 hbl.size
            rw [E1.out] at p1
            have hownA := hown.alloc (.cells #[.int .i64 h, .int .i64 x.slot] 33)
            have blA := hbl.alloc hbl.size (.cells #[.int .i64 h, .int .i64 x.slot] 33)
            go_wp2_with (at_builtin; refine wpList_append_own _ rfl _ _ 27 rfl w0.heap.size 93 i0 (.agg #[.int .i64 0, .int .i64 0, .int .i64 0]) 3 24 Tryz.underlying27 hi hi0 hi1 hi2 rfl (by decide) _ _ _ rfl (hownA.alloc _) _ 1 1 [.int .i64 h, .int .i64 x.slot, .int .i64 x.writ] rfl rfl (new3n _ _ (by simp) _ _ _ _) (one3 _ _ _) ?c3 ?c4 ?c5 ?_)
            case c3 => unfold maxLen; omega
            case c4 => omega
            case c5 => have := hbl.size; simp; omega
            intro v3 w3 hown3' hgrow3 _
            have bl3 := app_below blA hownA hgrow3
            have hown3 : w3.ownsRow w0.heap.size 93 3 v3 (out ++ [x]).length ((out ++ [x]).flatMap hcells) := by
              have hc : hcells x = [.int .i64 h, .int .i64 x.slot, .int .i64 x.writ] := by unfold hcells; rw [E1.out]
              simpa [hc] using hown3'
            clear hgrow3 hown3' c0 c1 p1 p2 p3 hownA blA
            go_wp2_with fail
            go_roundw
            case rel => exact ⟨k + 1, out ++ [x], true, by omega, by go_num, rfl, by simp; omega, hown3, (show Hid _ from HP), bl3⟩
            case measure => simp [intOf]; omega
          · have d1 : (x.holder == h) = false := by simp [e1]
            clear hd
            obtain ⟨p1, p2, p3⟩ := (hw0 k x HX.out).below hbl hb0
            have c0 : wr.cell? ⟨w.heap.size, 0, none⟩ = some (.int .i64 h) := by rw [(bcell hbl).1 _ _ hwz]; exact q0
            have c1 : wr.cell? ⟨w.heap.size, 1, none⟩ = some (.int .i64 s) := by rw [(bcell hbl).1 _ _ hwz]; exact q1
            have hzwr : w.heap.size < wr.heap.size := Nat.lt_of_lt_of_le hwz hbl.size
            have hywr : w.heap.size < wr.heap.size + 1 := by omega
            have hxwr : b < wr.heap.size := Nat.lt_of_lt_of_le hb0 hbl.size
            have hownA := hown.alloc (.cells #[.int .i64 x.holder, .int .i64 x.slot] 33)
            have blA := hbl.alloc hbl.size (.cells #[.int .i64 x.holder, .int .i64 x.slot] 33)
            go_wp2_with (at_builtin; refine wpList_append_own _ rfl _ _ 27 rfl w0.heap.size 93 i0 (.agg #[.int .i64 0, .int .i64 0, .int .i64 0]) 3 24 Tryz.underlying27 hi hi0 hi1 hi2 rfl (by decide) _ _ _ rfl (hownA.alloc _) _ 1 1 [.int .i64 x.holder, .int .i64 x.slot, .int .i64 x.writ] rfl rfl (new3n _ _ (by simp) _ _ _ _) (one3 _ _ _) ?c3 ?c4 ?c5 ?_)
            case c3 => unfold maxLen; omega
            case c4 => omega
            case c5 => have := hbl.size; simp; omega
            intro v3 w3 hown3' hgrow3 _
            have bl3 := app_below blA hownA hgrow3
            have hown3 : w3.ownsRow w0.heap.size 93 3 v3 (out ++ [x]).length ((out ++ [x]).flatMap hcells) := by
              have hc : hcells x = [.int .i64 x.holder, .int .i64 x.slot, .int .i64 x.writ] := by unfold hcells; rfl
              simpa [hc] using hown3'
            clear hgrow3 hown3' c0 c1 p1 p2 p3 hownA blA
            go_wp2_with fail
            go_roundw
            case rel => exact ⟨k + 1, out ++ [x], true, by omega, by go_num, rfl, by simp; omega, hown3, (show Hid _ from HP), bl3⟩
            case measure => simp [intOf]; omega
      | false =>
        by_cases h1 : h < x.holder
        · have f1 : decide (h < x.holder) = true := decide_eq_true h1
          have d1 : (x.holder == h) = false := by simp; omega
          have HP := pa_step (x := x) HX.out hpa.out
          rw [show isAt h s x = false from decide_eq_false (by omega), show lowP h s x = false from by rw [lowP_iff]; exact decide_eq_false (by omega)] at HP
          simp only [Bool.false_eq_true, or_false, if_false, Bool.not_false, Bool.or_true] at HP
          clear h1
          obtain ⟨p1, p2, p3⟩ := (hw0 k x HX.out).below hbl hb0
          have c0 : wr.cell? ⟨w.heap.size, 0, none⟩ = some (.int .i64 h) := by rw [(bcell hbl).1 _ _ hwz]; exact q0
          have c1 : wr.cell? ⟨w.heap.size, 1, none⟩ = some (.int .i64 s) := by rw [(bcell hbl).1 _ _ hwz]; exact q1
          have hzwr : w.heap.size < wr.heap.size := Nat.lt_of_lt_of_le hwz hbl.size
          have hywr : w.heap.size < wr.heap.size + 1 := by omega
          have hxwr : b < wr.heap.size := Nat.lt_of_lt_of_le hb0 hbl.size
          have hownA := hown.alloc (.cells #[.int .i64 x.holder, .int .i64 x.slot] 33)
          have blA := hbl.alloc hbl.size (.cells #[.int .i64 x.holder, .int .i64 x.slot] 33)
          go_wp2_with (at_builtin; refine wpList_append_own _ rfl _ _ 27 rfl w0.heap.size 93 i0 (.agg #[.int .i64 0, .int .i64 0, .int .i64 0]) 3 24 Tryz.underlying27 hi hi0 hi1 hi2 rfl (by decide) _ _ _ rfl (hownA.alloc _) _ 1 1 [.int .i64 h, .int .i64 s, .int .i64 id] rfl rfl (new3n _ _ (by simp) _ _ _ _) (one3 _ _ _) ?c3 ?c4 ?c5 ?_)
          case c3 => unfold maxLen; omega
          case c4 => omega
          case c5 => have := hbl.size; simp; omega
          intro v2 w2 hown2' hgrow2 _
          have bl2 := app_below blA hownA hgrow2
          have hown2 := row_snoc (x := ⟨h, s, id⟩) hown2'
          have hq : wr.heap.size < w2.heap.size := by have := hgrow2.size; simp at this; omega
          have hne : some wr.heap.size ≠ u7.ownBlock := by intro e; have := hown.lt _ e.symm; omega
          have g0 : w2.cell? ⟨wr.heap.size, 0, none⟩ = some (.int .i64 x.holder) := hgrow2.cell (by rw [World.cell?_alloc_past _ _ _ (by simp)]; simp) hne
          have g1 : w2.cell? ⟨wr.heap.size, 1, none⟩ = some (.int .i64 x.slot) := hgrow2.cell (by rw [World.cell?_alloc_past _ _ _ (by simp)]; simp) hne
          clear hgrow2 hown2' c0 c1 p1 p2 p3 hownA blA hne hzwr hywr hxwr
          obtain ⟨p1, p2, p3⟩ := (hw0 k x HX.out).below bl2 hb0
          have c0 : w2.cell? ⟨w.heap.size, 0, none⟩ = some (.int .i64 h) := by rw [(bcell bl2).1 _ _ hwz]; exact q0
          have c1 : w2.cell? ⟨w.heap.size, 1, none⟩ = some (.int .i64 s) := by rw [(bcell bl2).1 _ _ hwz]; exact q1
          have hzw2 : w.heap.size < w2.heap.size := Nat.lt_of_lt_of_le hwz bl2.size
          have hyw2 : w.heap.size < w2.heap.size + 1 := by omega
          have hxw2 : b < w2.heap.size := Nat.lt_of_lt_of_le hb0 bl2.size
          have hlen2 : (out ++ [(⟨h, s, id⟩ : Hd)]).length ≤ 2 * k + 1 := by simp; omega
          go_wp2_with (at_builtin; refine wpList_append_own _ rfl _ _ 27 rfl w0.heap.size 93 i0 (.agg #[.int .i64 0, .int .i64 0, .int .i64 0]) 3 24 Tryz.underlying27 hi hi0 hi1 hi2 rfl (by decide) _ _ _ rfl (hown2.alloc _) _ 1 1 [.int .i64 x.holder, .int .i64 x.slot, .int .i64 x.writ] rfl rfl (new3n _ _ (by simp) _ _ _ _) (one3 _ _ _) ?c3 ?c4 ?c5 ?_)
          case c3 => unfold maxLen; omega
          case c4 => omega
          case c5 => have := bl2.size; simp; omega
          intro v3 w3 hown3' hgrow3 _
          have bl3 := app_below bl2 hown2 hgrow3
          have hown3 : w3.ownsRow w0.heap.size 93 3 v3 ((out ++ [(⟨h, s, id⟩ : Hd)]) ++ [x]).length (((out ++ [(⟨h, s, id⟩ : Hd)]) ++ [x]).flatMap hcells) := by
            have hc : hcells x = [.int .i64 x.holder, .int .i64 x.slot, .int .i64 x.writ] := by unfold hcells; rfl
            simpa [hc] using hown3'
          clear hgrow3 hown3' c0 c1 p1 p2 p3 hown2 bl2
          go_wp2_with fail
          go_roundw
          case rel => exact ⟨k + 1, (out ++ [(⟨h, s, id⟩ : Hd)]) ++ [x], true, by omega, by go_num, rfl, by simp; omega, hown3, (show Hid _ from HP), bl3⟩
          case measure => simp [intOf]; omega
        · have f1 : decide (h < x.holder) = false := decide_eq_false h1
          by_cases h2 : h = x.holder
          · have f2 : (h == x.holder) = true := by simp [h2]
            by_cases h3 : s ≤ x.slot
            · have f3 : decide (s ≤ x.slot) = true := decide_eq_true h3
              by_cases h4 : x.slot = s
              · have HP := pa_step (x := x) HX.out hpa.out
                rw [show isAt h s x = true from decide_eq_true ⟨h2.symm, h4⟩, show lowP h s x = false from by rw [lowP_iff]; exact decide_eq_false (by omega)] at HP
                simp only [Bool.false_eq_true, or_false, if_false, Bool.not_false, Bool.or_true, if_true, List.append_nil] at HP
                have E1 : Hid (x.holder = h) := h2.symm
                have E2 : Hid (x.slot = s) := h4
                clear h1 h2 h3 h4 f1 f2 f3
                obtain ⟨p1, p2, p3⟩ := (hw0 k x HX.out).below hbl hb0
                have c0 : wr.cell? ⟨w.heap.size, 0, none⟩ = some (.int .i64 h) := by rw [(bcell hbl).1 _ _ hwz]; exact q0
                have c1 : wr.cell? ⟨w.heap.size, 1, none⟩ = some (.int .i64 s) := by rw [(bcell hbl).1 _ _ hwz]; exact q1
                have hzwr : w.heap.size < wr.heap.size := Nat.lt_of_lt_of_le hwz hbl.size
                have hywr : w.heap.size < wr.heap.size + 1 := by omega
                have hxwr : b < wr.heap.size := Nat.lt_of_lt_of_le hb0 hbl.size
                rw [E1.out] at p1
                rw [E2.out] at p2
                have hownA := hown.alloc (.cells #[.int .i64 h, .int .i64 s] 33)
                have blA := hbl.alloc hbl.size (.cells #[.int .i64 h, .int .i64 s] 33)
                go_wp2_with (at_builtin; refine wpList_append_own _ rfl _ _ 27 rfl w0.heap.size 93 i0 (.agg #[.int .i64 0, .int .i64 0, .int .i64 0]) 3 24 Tryz.underlying27 hi hi0 hi1 hi2 rfl (by decide) _ _ _ rfl (hownA.alloc _) _ 1 1 [.int .i64 h, .int .i64 s, .int .i64 id] rfl rfl (new3n _ _ (by simp) _ _ _ _) (one3 _ _ _) ?c3 ?c4 ?c5 ?_)
                case c3 => unfold maxLen; omega
                case c4 => omega
                case c5 => have := hbl.size; simp; omega
                intro v2 w2 hown2' hgrow2 _
                have bl2 := app_below blA hownA hgrow2
                have hown2 := row_snoc (x := ⟨h, s, id⟩) hown2'
                have hq : wr.heap.size < w2.heap.size := by have := hgrow2.size; simp at this; omega
                have hne : some wr.heap.size ≠ u7.ownBlock := by intro e; have := hown.lt _ e.symm; omega
                have g0 : w2.cell? ⟨wr.heap.size, 0, none⟩ = some (.int .i64 h) := hgrow2.cell (by rw [World.cell?_alloc_past _ _ _ (by simp)]; simp) hne
                have g1 : w2.cell? ⟨wr.heap.size, 1, none⟩ = some (.int .i64 s) := hgrow2.cell (by rw [World.cell?_alloc_past _ _ _ (by simp)]; simp) hne
                clear hgrow2 hown2' c0 c1 p1 p2 p3 hownA blA hne hzwr hywr hxwr
                obtain ⟨p1, p2, p3⟩ := (hw0 k x HX.out).below bl2 hb0
                have c0 : w2.cell? ⟨w.heap.size, 0, none⟩ = some (.int .i64 h) := by rw [(bcell bl2).1 _ _ hwz]; exact q0
                have c1 : w2.cell? ⟨w.heap.size, 1, none⟩ = some (.int .i64 s) := by rw [(bcell bl2).1 _ _ hwz]; exact q1
                have hzw2 : w.heap.size < w2.heap.size := Nat.lt_of_lt_of_le hwz bl2.size
                have hyw2 : w.heap.size < w2.heap.size + 1 := by omega
                have hxw2 : b < w2.heap.size := Nat.lt_of_lt_of_le hb0 bl2.size
                rw [E1.out] at p1
                rw [E2.out] at p2
                go_wp2_with fail
                go_roundw
                case rel => exact ⟨k + 1, (out ++ [(⟨h, s, id⟩ : Hd)]), true, by omega, by go_num, rfl, by simp; omega, hown2, (show Hid _ from HP), bl2⟩
                case measure => simp [intOf]; omega
              · have d1 : (x.slot == s) = false := by simp [h4]
                have HP := pa_step (x := x) HX.out hpa.out
                rw [show isAt h s x = false from decide_eq_false (by omega), show lowP h s x = false from by rw [lowP_iff]; exact decide_eq_false (by omega)] at HP
                simp only [Bool.false_eq_true, or_false, if_false, Bool.not_false, Bool.or_true] at HP
                have E1 : Hid (x.holder = h) := h2.symm
                clear h1 h2 h3 h4 f1 f2
                obtain ⟨p1, p2, p3⟩ := (hw0 k x HX.out).below hbl hb0
                have c0 : wr.cell? ⟨w.heap.size, 0, none⟩ = some (.int .i64 h) := by rw [(bcell hbl).1 _ _ hwz]; exact q0
                have c1 : wr.cell? ⟨w.heap.size, 1, none⟩ = some (.int .i64 s) := by rw [(bcell hbl).1 _ _ hwz]; exact q1
                have hzwr : w.heap.size < wr.heap.size := Nat.lt_of_lt_of_le hwz hbl.size
                have hywr : w.heap.size < wr.heap.size + 1 := by omega
                have hxwr : b < wr.heap.size := Nat.lt_of_lt_of_le hb0 hbl.size
                rw [E1.out] at p1
                have hownA := hown.alloc (.cells #[.int .i64 h, .int .i64 x.slot] 33)
                have blA := hbl.alloc hbl.size (.cells #[.int .i64 h, .int .i64 x.slot] 33)
                go_wp2_with (at_builtin; refine wpList_append_own _ rfl _ _ 27 rfl w0.heap.size 93 i0 (.agg #[.int .i64 0, .int .i64 0, .int .i64 0]) 3 24 Tryz.underlying27 hi hi0 hi1 hi2 rfl (by decide) _ _ _ rfl (hownA.alloc _) _ 1 1 [.int .i64 h, .int .i64 s, .int .i64 id] rfl rfl (new3n _ _ (by simp) _ _ _ _) (one3 _ _ _) ?c3 ?c4 ?c5 ?_)
                case c3 => unfold maxLen; omega
                case c4 => omega
                case c5 => have := hbl.size; simp; omega
                intro v2 w2 hown2' hgrow2 _
                have bl2 := app_below blA hownA hgrow2
                have hown2 := row_snoc (x := ⟨h, s, id⟩) hown2'
                have hq : wr.heap.size < w2.heap.size := by have := hgrow2.size; simp at this; omega
                have hne : some wr.heap.size ≠ u7.ownBlock := by intro e; have := hown.lt _ e.symm; omega
                have g0 : w2.cell? ⟨wr.heap.size, 0, none⟩ = some (.int .i64 h) := hgrow2.cell (by rw [World.cell?_alloc_past _ _ _ (by simp)]; simp) hne
                have g1 : w2.cell? ⟨wr.heap.size, 1, none⟩ = some (.int .i64 x.slot) := hgrow2.cell (by rw [World.cell?_alloc_past _ _ _ (by simp)]; simp) hne
                clear hgrow2 hown2' c0 c1 p1 p2 p3 hownA blA hne hzwr hywr hxwr
                obtain ⟨p1, p2, p3⟩ := (hw0 k x HX.out).below bl2 hb0
                have c0 : w2.cell? ⟨w.heap.size, 0, none⟩ = some (.int .i64 h) := by rw [(bcell bl2).1 _ _ hwz]; exact q0
                have c1 : w2.cell? ⟨w.heap.size, 1, none⟩ = some (.int .i64 s) := by rw [(bcell bl2).1 _ _ hwz]; exact q1
                have hzw2 : w.heap.size < w2.heap.size := Nat.lt_of_lt_of_le hwz bl2.size
                have hyw2 : w.heap.size < w2.heap.size + 1 := by omega
                have hxw2 : b < w2.heap.size := Nat.lt_of_lt_of_le hb0 bl2.size
                rw [E1.out] at p1
                have hlen2 : (out ++ [(⟨h, s, id⟩ : Hd)]).length ≤ 2 * k + 1 := by simp; omega
                go_wp2_with (at_builtin; refine wpList_append_own _ rfl _ _ 27 rfl w0.heap.size 93 i0 (.agg #[.int .i64 0, .int .i64 0, .int .i64 0]) 3 24 Tryz.underlying27 hi hi0 hi1 hi2 rfl (by decide) _ _ _ rfl (hown2.alloc _) _ 1 1 [.int .i64 h, .int .i64 x.slot, .int .i64 x.writ] rfl rfl (new3n _ _ (by simp) _ _ _ _) (one3 _ _ _) ?c3 ?c4 ?c5 ?_)
                case c3 => unfold maxLen; omega
                case c4 => omega
                case c5 => have := bl2.size; simp; omega
                intro v3 w3 hown3' hgrow3 _
                have bl3 := app_below bl2 hown2 hgrow3
                have hown3 : w3.ownsRow w0.heap.size 93 3 v3 ((out ++ [(⟨h, s, id⟩ : Hd)]) ++ [x]).length (((out ++ [(⟨h, s, id⟩ : Hd)]) ++ [x]).flatMap hcells) := by
                  have hc : hcells x = [.int .i64 h, .int .i64 x.slot, .int .i64 x.writ] := by unfold hcells; rw [E1.out]
                  simpa [hc] using hown3'
                clear hgrow3 hown3' c0 c1 p1 p2 p3 hown2 bl2
                go_wp2_with fail
                go_roundw
                case rel => exact ⟨k + 1, (out ++ [(⟨h, s, id⟩ : Hd)]) ++ [x], true, by omega, by go_num, rfl, by simp; omega, hown3, (show Hid _ from HP), bl3⟩
                case measure => simp [intOf]; omega
            · have f3 : decide (s ≤ x.slot) = false := decide_eq_false h3
              have d1 : (x.slot == s) = false := by simp; omega
              have HP := pa_step (x := x) HX.out hpa.out
              rw [show isAt h s x = false from decide_eq_false (by omega), show lowP h s x = true from by rw [lowP_iff]; exact decide_eq_true (by omega)] at HP
              simp only [Bool.false_eq_true, or_true, if_false, if_true, Bool.not_true, Bool.or_false, List.append_nil] at HP
              have E1 : Hid (x.holder = h) := h2.symm
              clear h1 h2 h3 f1 f2
              obtain ⟨p1, p2, p3⟩ := (hw0 k x HX.out).below hbl hb0
              have c0 : wr.cell? ⟨w.heap.size, 0, none⟩ = some (.int .i64 h) := by rw [(bcell hbl).1 _ _ hwz]; exact q0
              have c1 : wr.cell? ⟨w.heap.size, 1, none⟩ = some (.int .i64 s) := by rw [(bcell hbl).1 _ _ hwz]; exact q1
              have hzwr : w.heap.size < wr.heap.size := Nat.lt_of_lt_of_le hwz hbl.size
              have hywr : w.heap.size < wr.heap.size + 1 := by omega
              have hxwr : b < wr.heap.size := Nat.lt_of_lt_of_le hb0 hbl.size
              rw [E1.out] at p1
              have hownA := hown.alloc (.cells #[.int .i64 h, .int .i64 x.slot] 33)
              have blA := hbl.alloc hbl.size (.cells #[.int .i64 h, .int .i64 x.slot] 33)
              go_wp2_with (at_builtin; refine wpList_append_own _ rfl _ _ 27 rfl w0.heap.size 93 i0 (.agg #[.int .i64 0, .int .i64 0, .int .i64 0]) 3 24 Tryz.underlying27 hi hi0 hi1 hi2 rfl (by decide) _ _ _ rfl (hownA.alloc _) _ 1 1 [.int .i64 h, .int .i64 x.slot, .int .i64 x.writ] rfl rfl (new3n _ _ (by simp) _ _ _ _) (one3 _ _ _) ?c3 ?c4 ?c5 ?_)
              case c3 => unfold maxLen; omega
              case c4 => omega
              case c5 => have := hbl.size; simp; omega
              intro v3 w3 hown3' hgrow3 _
              have bl3 := app_below blA hownA hgrow3
              have hown3 : w3.ownsRow w0.heap.size 93 3 v3 (out ++ [x]).length ((out ++ [x]).flatMap hcells) := by
                have hc : hcells x = [.int .i64 h, .int .i64 x.slot, .int .i64 x.writ] := by unfold hcells; rw [E1.out]
                simpa [hc] using hown3'
              clear hgrow3 hown3' c0 c1 p1 p2 p3 hownA blA
              go_wp2_with fail
              go_roundw
              case rel => exact ⟨k + 1, out ++ [x], false, by omega, by go_num, rfl, by simp; omega, hown3, (show Hid _ from HP), bl3⟩
              case measure => simp [intOf]; omega
          · have f2 : (h == x.holder) = false := by simp [h2]
            have d1 : (x.holder == h) = false := by simp; omega
            have HP := pa_step (x := x) HX.out hpa.out
            rw [show isAt h s x = false from decide_eq_false (by omega), show lowP h s x = true from by rw [lowP_iff]; exact decide_eq_true (by omega)] at HP
            simp only [Bool.false_eq_true, or_true, if_false, if_true, Bool.not_true, Bool.or_false, List.append_nil] at HP
            clear h1 h2
            obtain ⟨p1, p2, p3⟩ := (hw0 k x HX.out).below hbl hb0
            have c0 : wr.cell? ⟨w.heap.size, 0, none⟩ = some (.int .i64 h) := by rw [(bcell hbl).1 _ _ hwz]; exact q0
            have c1 : wr.cell? ⟨w.heap.size, 1, none⟩ = some (.int .i64 s) := by rw [(bcell hbl).1 _ _ hwz]; exact q1
            have hzwr : w.heap.size < wr.heap.size := Nat.lt_of_lt_of_le hwz hbl.size
            have hywr : w.heap.size < wr.heap.size + 1 := by omega
            have hxwr : b < wr.heap.size := Nat.lt_of_lt_of_le hb0 hbl.size
            have hownA := hown.alloc (.cells #[.int .i64 x.holder, .int .i64 x.slot] 33)
            have blA := hbl.alloc hbl.size (.cells #[.int .i64 x.holder, .int .i64 x.slot] 33)
            go_wp2_with (at_builtin; refine wpList_append_own _ rfl _ _ 27 rfl w0.heap.size 93 i0 (.agg #[.int .i64 0, .int .i64 0, .int .i64 0]) 3 24 Tryz.underlying27 hi hi0 hi1 hi2 rfl (by decide) _ _ _ rfl (hownA.alloc _) _ 1 1 [.int .i64 x.holder, .int .i64 x.slot, .int .i64 x.writ] rfl rfl (new3n _ _ (by simp) _ _ _ _) (one3 _ _ _) ?c3 ?c4 ?c5 ?_)
            case c3 => unfold maxLen; omega
            case c4 => omega
            case c5 => have := hbl.size; simp; omega
            intro v3 w3 hown3' hgrow3 _
            have bl3 := app_below blA hownA hgrow3
            have hown3 : w3.ownsRow w0.heap.size 93 3 v3 (out ++ [x]).length ((out ++ [x]).flatMap hcells) := by
              have hc : hcells x = [.int .i64 x.holder, .int .i64 x.slot, .int .i64 x.writ] := by unfold hcells; rfl
              simpa [hc] using hown3'
            clear hgrow3 hown3' c0 c1 p1 p2 p3 hownA blA
            go_wp2_with fail
            go_roundw
            case rel => exact ⟨k + 1, out ++ [x], false, by omega, by go_num, rfl, by simp; omega, hown3, (show Hid _ from HP), bl3⟩
            case measure => simp [intOf]; omega
    · have hfin := hpa.out
      rw [List.drop_of_length_le (by omega)] at hfin
      have c0 : wr.cell? ⟨w.heap.size, 0, none⟩ = some (.int .i64 h) := by rw [(bcell hbl).1 _ _ hwz]; exact q0
      have c1 : wr.cell? ⟨w.heap.size, 1, none⟩ = some (.int .i64 s) := by rw [(bcell hbl).1 _ _ hwz]; exact q1
      have hz : w.heap.size < wr.heap.size := Nat.lt_of_lt_of_le hwz hbl.size
      have HF : Hid (out ++ pa h s id laid [] = pa h s id (decide (id = 0)) l) := hfin
      clear hfin hpa hw0
      cases laid with
      | true =>
        have hF : out = pa h s id (decide (id = 0)) l := by have := HF.out; simpa [pa] using this
        have hfin : wr.ownsRow (w.heap.size + 1) 93 3 u7 (pa h s id (decide (id = 0)) l).length ((pa h s id (decide (id = 0)) l).flatMap hcells) := by rw [← hF, ← HS.out]; exact hown
        clear hown hF
        go_wp2_with fail
        go_ret
        exact ⟨_, rfl, hfin, hbl0.trans (hbl.mono (by omega))⟩
      | false =>
        have HF2 : Hid (out ++ [⟨h, s, id⟩] = pa h s id (decide (id = 0)) l) := by have := HF.out; show out ++ [⟨h, s, id⟩] = _; simpa [pa] using this
        go_wp2_with (at_builtin; refine wpList_append_own _ rfl _ _ 27 rfl w0.heap.size 93 i0 (.agg #[.int .i64 0, .int .i64 0, .int .i64 0]) 3 24 Tryz.underlying27 hi hi0 hi1 hi2 rfl (by decide) _ _ _ rfl (hown.alloc _) _ 1 1 [.int .i64 h, .int .i64 s, .int .i64 id] rfl rfl (new3n _ _ (by simp) _ _ _ _) (one3 _ _ _) ?c3 ?c4 ?c5 ?_)
        case c3 => unfold maxLen; omega
        case c4 => omega
        case c5 => have := hbl.size; simp; omega
        intro v2 w2 hown2' hgrow2 _
        have bl2 := app_below hbl hown hgrow2
        have hown2 := row_snoc (x := ⟨h, s, id⟩) hown2'
        rw [HF2.out, HS.out] at hown2
        clear hgrow2 hown2' hown
        go_wp2_with fail
        go_ret
        exact ⟨_, rfl, hown2, hbl0.trans (bl2.mono (by omega))⟩
theorem putAt_nil (a : Option Addr) (c : Nat) (h s id : Int) (w : World) :
    Calls Tryz.prog 74 #[.slice a 0 c, .agg #[.int .i64 h, .int .i64 s], .int .i64 id] w
      fun e w' => ∃ v, e = .returned v ∧ w'.ownsRow (w.heap.size + 1) 93 3 v (putL [] h s id).length ((putL [] h s id).flatMap hcells) ∧ Below w.heap.size w w' := by
  obtain ⟨i0, hi, hi0, hi1, hi2⟩ := info_parts infoHeld
  by_cases hid : id = 0
  · subst hid
    go_enter Tryz.func74, Tryz.ntmps74
    go_wp2
    refine wp_loop_rounds 1 ?_
    rw [rounds_succ]
    go_wp2
    go_ret
    exact ⟨_, rfl, by simpa [putL, putM] using World.ownsRow_nil _ _ _ _, (Below.refl _ _).alloc (Nat.le_refl _) _⟩
  · have d1 : (id == 0) = false := by simp [hid]
    have HI : Hid (¬ id = 0) := hid
    clear hid
    go_enter Tryz.func74, Tryz.ntmps74
    go_wp2
    have q0 : (w.alloc (.cells #[.int .i64 h, .int .i64 s] 33)).cell? ⟨w.heap.size, 0, none⟩ = some (.int .i64 h) := by simp
    have q1 : (w.alloc (.cells #[.int .i64 h, .int .i64 s] 33)).cell? ⟨w.heap.size, 1, none⟩ = some (.int .i64 s) := by simp
    have hbl0 : Below w.heap.size w (w.alloc (.cells #[.int .i64 h, .int .i64 s] 33)) := (Below.refl _ _).alloc (Nat.le_refl _) _
    have hsz0 : (w.alloc (.cells #[.int .i64 h, .int .i64 s] 33)).heap.size = w.heap.size + 1 := by simp
    generalize w.alloc (.cells #[.int .i64 h, .int .i64 s] 33) = w0 at *
    have HS : Hid (w0.heap.size = w.heap.size + 1) := hsz0
    have hwz : w.heap.size < w0.heap.size := by omega
    clear hsz0
    have hown : w0.ownsRow w0.heap.size 93 3 (.slice none 0 0) 0 [] := World.ownsRow_nil _ _ _ _
    refine wp_loop_rounds 1 ?_
    rw [rounds_succ]
    go_wp2_with (at_builtin; refine wpList_append_own _ rfl _ _ 27 rfl w0.heap.size 93 i0 (.agg #[.int .i64 0, .int .i64 0, .int .i64 0]) 3 24 Tryz.underlying27 hi hi0 hi1 hi2 rfl (by decide) _ _ _ rfl (hown.alloc _) _ 1 1 [.int .i64 h, .int .i64 s, .int .i64 id] rfl rfl (new3 _ _ _ _ _) (one3 _ _ _) ?c3 ?c4 ?c5 ?_)
    case c3 => unfold maxLen; omega
    case c4 => omega
    case c5 => simp
    intro v' w2 hown2 hgrow _
    have blM := app_below (Below.refl _ _) hown hgrow
    have hownM : w2.ownsRow w0.heap.size 93 3 v' (putL [] h s id).length ((putL [] h s id).flatMap hcells) := by
      have := row_snoc (l := []) (x := ⟨h, s, id⟩) hown2
      unfold putL putM; rw [if_neg HI.out]; simpa using this
    clear hown2 hgrow hown q0 q1
    go_wp2_with fail
    go_ret
    exact ⟨_, rfl, by rw [← HS.out]; exact hownM, hbl0.trans (blM.mono (by omega))⟩
theorem putAt_any (a : Option Addr) (c : Nat) (l : List Hd) (h s id : Int) (w : World) (hw : HdsAt w a l) (hm : l.length ≤ 100) (hg : Good l) :
    Calls Tryz.prog 74 #[.slice a l.length c, .agg #[.int .i64 h, .int .i64 s], .int .i64 id] w
      fun e w' => ∃ a' c', e = .returned (.slice a' (putL l h s id).length c') ∧ HdsAt w' a' (putL l h s id) ∧ Below w.heap.size w w' := by
  rcases hw with rfl | ⟨b, o, rfl, hb, hx⟩
  · refine (putAt_nil a c h s id w).mono ?_
    rintro e w1 ⟨v, rfl, hrow, hbl⟩
    obtain ⟨a', c', rfl, hat⟩ := hds_of_row hrow
    exact ⟨a', c', rfl, hat, hbl⟩
  · refine (putAt_some b o c l h s id w hx hb hm).mono ?_
    rintro e w1 ⟨v, rfl, hrow, hbl⟩
    rw [pa_putL h s id l (good_rise hg)] at hrow
    obtain ⟨a', c', rfl, hat⟩ := hds_of_row hrow
    exact ⟨a', c', rfl, hat, hbl⟩
end Go.Proofs.YtddgpgldbekamaaGreat
