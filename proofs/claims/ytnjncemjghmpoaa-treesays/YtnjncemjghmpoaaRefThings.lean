/- The walks of tree.Things, as the landed code has it, and of the pattern's ThingsOf (C4). -/
import Derived.Test.YtnjncemjghmpoaaThingsPure
import Derived.Test.YtnjncemjghmpoaaSortLay
import Derived.Test.YtnjncemjghmpoaaAbove
set_option linter.unusedSimpArgs false
set_option linter.unusedVariables false
namespace Go.Proofs.Ytnjncemjghmpoaa
open Go.RowKit Go.Sort

/-- the things of writs, sorted, with doubles struck -/
def thingsL (l : List Wr) : List Int := Lib.compact ((l.map (·.thing)).mergeSort fun x y => decide (x ≤ y))
theorem thE : thingsL [] = [] := by simp [thingsL, Lib.compact, Lib.compactUpTo]
theorem thingsLen (l : List Wr) : (thingsL l).length ≤ l.length := by
  have h := Lib.compact_length_le ((l.map (·.thing)).mergeSort fun x y => decide (x ≤ y))
  rw [List.length_mergeSort, List.length_map] at h
  exact h
theorem th_next {l : List Wr} {k : Nat} {x : Wr} (hx : l[k]? = some x) : (l.take (k + 1)).map (·.thing) = (l.take k).map (·.thing) ++ [x.thing] := by
  rw [List.take_add_one, hx]; simp
theorem icells_map (l : List Int) : l.flatMap icells = l.map (Value.int .i64) := by
  induction l with
  | nil => rfl
  | cons x r ih => rw [List.flatMap_cons, ih]; rfl
theorem app2_below {w0 w1 w' : World} {e : TypeId} {size n : Nat} {v : Value} {xs : List Value} {ob ob' : Obj} (bl : Below w0.heap.size w0 w1) (hown : w1.ownsRow w0.heap.size e size v n xs) (hg : ((w1.alloc ob).alloc ob').grownBy w' v.ownBlock) : Below w0.heap.size w0 w' :=
  ((bl.alloc bl.size ob).alloc (Nat.le_trans bl.size (by simp)) ob').grown hg (Nat.le_trans bl.size (by simp; omega)) (fun k hk => (hown.lt k hk).1)
theorem new1b (w : World) (ob : Obj) (t : TypeId) (x : Value) : ∀ j q, [x][j]? = some q → ((w.alloc ob).alloc (.cells #[x] t)).cell? ((⟨w.heap.size + 1, 0, none⟩ : Addr).add j) = some q := by
  intro j q hj
  have := new1 (w.alloc ob) t x j q hj
  rwa [show (w.alloc ob).heap.size = w.heap.size + 1 by simp] at this
/-- behind both: from what the contracts leave to a list of numbers of the call's own -/
theorem things_left {w w1 : World} {g cap nn q : Nat} {os : Array Obj} {ss : List Int} (hown : w1.ownsRow w.heap.size 3 1 (.slice (some ⟨g, 0, none⟩) ss.length cap) ss.length (ss.map (Value.int .i64))) (hbel : Below w.heap.size w w1) (hbg : w.heap.size ≤ g) :
    (putRow (Value.int .i64) (Sort.ahead (grow (putRow (Value.int .i64) (Sort.ahead w1 nn) g 0 (ss.mergeSort fun x y => decide (x ≤ y)).toArray) os) q) g 0 (Lib.compact (ss.mergeSort fun x y => decide (x ≤ y)) ++ List.replicate (ss.length - (Lib.compact (ss.mergeSort fun x y => decide (x ≤ y))).length) 0).toArray).ownsRow w.heap.size 3 1 (.slice (some ⟨g, 0, none⟩) (Lib.compact (ss.mergeSort fun x y => decide (x ≤ y))).length cap) (Lib.compact (ss.mergeSort fun x y => decide (x ≤ y))).length ((Lib.compact (ss.mergeSort fun x y => decide (x ≤ y))).map (Value.int .i64)) ∧
    Below w.heap.size w (putRow (Value.int .i64) (Sort.ahead (grow (putRow (Value.int .i64) (Sort.ahead w1 nn) g 0 (ss.mergeSort fun x y => decide (x ≤ y)).toArray) os) q) g 0 (Lib.compact (ss.mergeSort fun x y => decide (x ≤ y)) ++ List.replicate (ss.length - (Lib.compact (ss.mergeSort fun x y => decide (x ≤ y))).length) 0).toArray) := by
  have hl2 : (ss.mergeSort fun x y => decide (x ≤ y)).length = ss.length := List.length_mergeSort ss
  have hle := Lib.compact_length_le (ss.mergeSort fun x y => decide (x ≤ y))
  rcases hown.2 with ⟨h0, _⟩ | ⟨g', cap', cur, hv, hbase, hb, h1, h2, h3, h4⟩
  · cases h0
  cases hv
  have hs := ownsRow_sortedI (n := nn) (os := os) (ts := ss.mergeSort fun x y => decide (x ≤ y)) hl2 hbase hb h1 h2 h3
  have hc := Lib.ownsRow_putRow (q := q) (k := (Lib.compact (ss.mergeSort fun x y => decide (x ≤ y))).length) (ys := Lib.compact (ss.mergeSort fun x y => decide (x ≤ y)) ++ List.replicate (ss.length - (Lib.compact (ss.mergeSort fun x y => decide (x ≤ y))).length) 0) hs (by simp; omega) (by omega)
  rw [List.take_left] at hc
  exact ⟨hc, Lib.below_putRow (hbel.grown (grownBy_sortedI _) hbel.size (fun j hj => by cases hj; exact hbase)) hbg⟩

set_option maxHeartbeats 1000000 in
theorem things_some (b o c : Nat) (l : List Wr) (w : World) (hw : ∀ j x, l[j]? = some x → WrAt w b (o + j * 5) x) (hb : b < w.heap.size) (hm : l.length ≤ 1000) (h0 : ¬ l = []) :
    Calls Try.prog 34 #[.slice (some ⟨b, o, none⟩) l.length c] w
      fun e w' => ∃ v, e = .returned v ∧ w'.ownsRow w.heap.size 3 1 v (thingsL l).length ((thingsL l).flatMap icells) ∧ Below w.heap.size w w' := by
  obtain ⟨i0, hi, hi0, hi1, hi2⟩ := info_parts infoInt
  have hpos : 0 < l.length := by cases l with | nil => exact absurd rfl h0 | cons => simp
  clear h0
  go_enter Try.func34, Try.ntmps34
  go_wp2_with fail
  go_loopw [3, 8] (fun v i wr => ∃ k : Nat, k ≤ l.length ∧ i = .int .i64 k ∧ wr.ownsRow w.heap.size 3 1 v ((l.take k).map (·.thing)).length (((l.take k).map (·.thing)).flatMap icells) ∧ Below w.heap.size w wr)
    (fun _ i _ => l.length - (intOf i).toNat)
  case atStart => exact ⟨0, Nat.zero_le _, rfl, by simpa using World.ownsRow_nil _ _ _ _, Below.refl _ _⟩
  case round =>
    obtain ⟨k, hk, rfl, hown, hbl⟩ := hrel
    by_cases hlt : k < l.length
    · obtain ⟨x, hx⟩ : ∃ x, l[k]? = some x := ⟨l[k], List.getElem?_eq_getElem hlt⟩
      obtain ⟨q1, q2, q3, q4, q5⟩ := (hw k x hx).below hbl hb
      have HT : Hid ((l.take (k + 1)).map (·.thing) = (l.take k).map (·.thing) ++ [x.thing]) := th_next hx
      have hle : ((l.take k).map (·.thing)).length ≤ l.length := by simp; omega
      have hbz : b < wr.heap.size := Nat.lt_of_lt_of_le hb hbl.size
      clear hx hw
      generalize hM : (l.take k).map (·.thing) = M at hown hle
      have HM : Hid ((l.take k).map (·.thing) = M) := hM
      clear hM
      go_wp2_with (at_builtin; refine wpList_append_own _ rfl _ _ 48 rfl w.heap.size 3 i0 (.int .i64 0) 1 8 Try.underlying48 hi hi0 hi1 hi2 rfl (by decide) _ _ _ rfl ((hown.alloc _).alloc _) _ 1 1 [.int .i64 x.thing] rfl rfl (new1b _ _ _ _) (one1 _) ?c3 ?c4 ?c5 ?_)
      case c3 => unfold maxLen; omega
      case c4 => omega
      case c5 => have := hbl.size; simp; omega
      intro v' w2 hown2' hgrow _
      have bl2 := app2_below hbl hown hgrow
      have hown2 := row1_snoc hown2'
      clear hgrow hown2' hown
      go_wp2_with fail
      go_roundw
      case rel => exact ⟨k + 1, by omega, by go_num, by rw [HT.out, HM.out]; exact hown2, bl2⟩
      case measure => simp [intOf]; omega
    · rw [List.take_of_length_le (by omega), icells_map] at hown
      have hnl : (l.map (·.thing)).length ≤ 1000 := by simpa using hm
      have hnp : 0 < (l.map (·.thing)).length := by simpa using hpos
      have HE : Hid (thingsL l = Lib.compact ((l.map (·.thing)).mergeSort fun x y => decide (x ≤ y))) := show _ = _ from rfl
      clear hw
      generalize l.map (·.thing) = ss at *
      obtain ⟨g, cap, rfl, hbg, hgl, hncap, hcm, hlen, hH⟩ := Lib.holds_of_ownsRow hown (by rintro rfl; have := hown.1; rcases hown.2 with ⟨_, hn⟩ | ⟨g', cap', cur, hv, _⟩ <;> simp_all)
      unfold maxLen at hcm
      have hsort := sort_ints g 0 cap ss wr hH hgl (by omega)
      have X : Hid (wr.ownsRow w.heap.size 3 1 (.slice (some ⟨g, 0, none⟩) ss.length cap) ss.length (ss.map (Value.int .i64)) ∧ Below w.heap.size w wr ∧ Holds (Value.int .i64) wr g 0 ss.toArray) := ⟨hown, hbl, hH⟩
      clear hown hbl hH hlen
      go_wp2_with fail
      refine hsort.mono ?_
      rintro e w2 ⟨rfl, nn, os, rfl⟩
      have hl2 : (ss.mergeSort fun x y => decide (x ≤ y)).length = ss.length := List.length_mergeSort ss
      have hH2 : Holds (Value.int .i64) (grow (putRow (Value.int .i64) (Sort.ahead wr nn) g 0 (ss.mergeSort fun x y => decide (x ≤ y)).toArray) os) g 0 (ss.mergeSort fun x y => decide (x ≤ y)).toArray :=
        holds_grow (Value.int .i64) _ os g 0 _ (by simpa [putRow, mapBlock, Sort.ahead] using hgl) (holds_putRow (Value.int .i64) _ g 0 _ _ (holds_ahead (Value.int .i64) wr nn g 0 _ X.out.2.2) (by simp))
      have hcomp := compact_ints g 0 cap (ss.mergeSort fun x y => decide (x ≤ y)) _ hH2 (by omega) (by omega)
      rw [hl2] at hcomp
      clear hH2 hsort
      go_wp2_with fail
      refine hcomp.mono ?_
      rintro e w3 ⟨rfl, q, rfl⟩
      clear hcomp
      obtain ⟨r1, r2⟩ := things_left (nn := nn) (q := q) (os := os) X.out.1 X.out.2.1 hbg
      have R : Hid _ := show Hid _ from (And.intro r1 r2)
      clear r1 r2
      go_wp2_with fail
      go_ret
      refine ⟨_, rfl, ?_, R.out.2⟩
      rw [HE.out, icells_map]
      exact R.out.1
theorem things_any (a : Option Addr) (c : Nat) (l : List Wr) (w : World) (hw : WrsAt w a l) (hm : l.length ≤ 1000) :
    Calls Try.prog 34 #[.slice a l.length c] w
      fun e w' => ∃ a' c', e = .returned (.slice a' (thingsL l).length c') ∧ IntsAt w' a' (thingsL l) ∧ (∀ b o, a' = some ⟨b, o, none⟩ → b < w'.heap.size) ∧ Below w.heap.size w w' := by
  by_cases h0 : l = []
  · subst h0
    go_enter Try.func34, Try.ntmps34
    go_wp2_with fail
    refine wp_loop_rounds 1 ?_
    rw [rounds_succ]
    go_wp2_with fail
    refine (sort_none none 0 w).mono ?_
    rintro e w1 ⟨rfl, hq⟩
    obtain rfl := hq.symm
    go_wp2_with fail
    refine (compact_none none 0 w).mono ?_
    rintro e w1 ⟨rfl, hq⟩
    obtain rfl := hq.symm
    go_wp2_with fail
    go_ret
    exact ⟨none, 0, by rw [thE]; rfl, .inl thE, (fun b o e => by cases e), Below.refl _ _⟩
  · obtain ⟨b, o, rfl, hb, hx⟩ := hw.resolve_left h0
    refine (things_some b o c l w hx hb hm h0).mono ?_
    rintro e w1 ⟨v, rfl, hrow, hbl⟩
    obtain ⟨a', c', rfl, hat, hlt⟩ := ints_of_row hrow
    exact ⟨a', c', rfl, hat, hlt, hbl⟩

theorem any_stop {l : List Wr} {k j : Nat} {x : Wr} (hx : l[j]? = some x) (he : x.thing = (k : Int) + 1) : thStep l k = [(k : Int) + 1] := by
  unfold thStep
  rw [if_pos (List.any_eq_true.2 ⟨x, List.mem_of_getElem? hx, by simp [he]⟩)]
theorem any_end {l : List Wr} {k j : Nat} (hj : ¬ j < l.length) (h : ∀ i x, i < j → l[i]? = some x → ¬ x.thing = (k : Int) + 1) : thStep l k = [] := by
  unfold thStep
  rw [if_neg]
  intro hh
  obtain ⟨x, hx, he⟩ := List.any_eq_true.1 hh
  obtain ⟨i, hi⟩ := List.mem_iff_getElem?.1 hx
  exact h i x (by have := (List.getElem?_eq_some_iff.1 hi).1; omega) hi (by simpa using he)
set_option maxHeartbeats 1000000 in
set_option maxRecDepth 100000 in
theorem thingsOf_row (a : Option Addr) (c : Nat) (l : List Wr) (w : World) (hw : WrsAt w a l) (hm : l.length ≤ 1000) :
    Calls Try.prog 35 #[.slice a l.length c] w
      fun e w' => ∃ v, e = .returned v ∧ w'.ownsRow w.heap.size 3 1 v (thUp l 999).length ((thUp l 999).flatMap icells) ∧ Below w.heap.size w w' := by
  obtain ⟨i0, hi, hi0, hi1, hi2⟩ := info_parts infoInt
  go_enter Try.func35, Try.ntmps35
  go_wp2_with fail
  go_loopw [3, 4] (fun v i wr => ∃ k : Nat, k ≤ 999 ∧ i = .int .i64 ((k : Int) + 1) ∧ wr.ownsRow w.heap.size 3 1 v (thUp l k).length ((thUp l k).flatMap icells) ∧ Below w.heap.size w wr)
    (fun _ i _ => 1000 - (intOf i).toNat)
  case atStart => exact ⟨0, Nat.zero_le _, rfl, by simpa [thUp] using World.ownsRow_nil _ _ _ _, Below.refl _ _⟩
  case round =>
    obtain ⟨k, hk, rfl, hown, hbl⟩ := hrel
    by_cases hlt : k < 999
    · have hle := thUp_len l k
      have HS : Hid (thUp l (k + 1) = thUp l k ++ thStep l k) := thUp_succ l k
      generalize hM : thUp l k = M at hown hle
      have HM : Hid (thUp l k = M) := hM
      clear hM
      generalize hvv : u3 = vv at hown ⊢
      clear hvv
      have d0 : decide ((k : Int) + 1 < 1000) = true := decide_eq_true (by omega)
      go_wp2_with fail
      go_loopw [3, 5] (fun v' j wr' => ∃ jj : Nat, jj ≤ l.length ∧ j = .int .i64 jj ∧ v' = vv ∧ wr' = wr ∧ Hid (∀ i x, i < jj → l[i]? = some x → ¬ x.thing = (k : Int) + 1)) (fun _ j _ => l.length - (intOf j).toNat)
      case atStart => exact ⟨0, Nat.zero_le _, rfl, by first | rfl | assumption | trivial, by first | rfl | trivial, (show Hid _ from fun i x h => by omega)⟩
      case round =>
        obtain ⟨jj, hjj, rfl, rfl, rfl, hno⟩ := hrel
        by_cases hlt2 : jj < l.length
        · obtain ⟨x, hx⟩ : ∃ x, l[jj]? = some x := ⟨l[jj], List.getElem?_eq_getElem hlt2⟩
          obtain ⟨b, o, rfl, hb, hww⟩ := hw.resolve_left (by rintro rfl; simp at hlt2)
          obtain ⟨q1, q2, q3, q4, q5⟩ := (hww jj x hx).below hbl hb
          have HX : Hid (l[jj]? = some x) := hx
          clear hx hw hww
          by_cases he : x.thing = (k : Int) + 1
          · have HT : Hid (thStep l k = [(k : Int) + 1]) := any_stop HX.out he
            have d1 : (x.thing == (k : Int) + 1) = true := by simp [he]
            clear he
            go_wp2_with (at_builtin; refine wpList_append_own _ rfl _ _ 48 rfl w.heap.size 3 i0 (.int .i64 0) 1 8 Try.underlying48 hi hi0 hi1 hi2 rfl (by decide) _ _ _ rfl (hown.alloc _) _ 1 1 [.int .i64 ((k : Int) + 1)] rfl rfl (new1 _ _ _) (one1 _) ?c3 ?c4 ?c5 ?_)
            case c3 => unfold maxLen; omega
            case c4 => omega
            case c5 => have := hbl.size; simp; omega
            intro v' w2 hown2' hgrow _
            have bl2 := app1_below hbl hown hgrow
            have hown2 := row1_snoc hown2'
            clear hgrow hown2' hown
            go_wp2_with fail
            go_roundw
            case rel => exact ⟨k + 1, by omega, by go_num, by rw [HS.out, HM.out, HT.out]; exact hown2, bl2⟩
            case measure => simp [intOf]; omega
          · have d1 : (x.thing == (k : Int) + 1) = false := by simp [he]
            have HN : Hid (∀ i y, i < jj + 1 → l[i]? = some y → ¬ y.thing = (k : Int) + 1) := by
              intro i y hi' hy
              by_cases e : i = jj
              · subst e; rw [HX.out] at hy; cases hy; exact he
              · exact hno.out i y (by omega) hy
            clear he
            go_wp2_with fail
            go_roundw
            case rel => exact ⟨jj + 1, by omega, by go_num, by first | rfl | trivial, by first | rfl | trivial, (show Hid _ from HN.out)⟩
            case measure => simp [intOf]; omega
        · have HT : Hid (thStep l k = []) := any_end hlt2 hno.out
          clear hw
          go_wp2_with fail
          go_roundw
          case rel => exact ⟨k + 1, by omega, by go_num, by rw [HS.out, HM.out, HT.out, List.append_nil]; exact hown, hbl⟩
          case measure => simp [intOf]; omega
    · obtain rfl : k = 999 := by omega
      clear hw
      go_wp2_with fail
      go_ret
      exact ⟨_, rfl, hown, hbl⟩
theorem thingsOf_any (a : Option Addr) (c : Nat) (l : List Wr) (w : World) (hw : WrsAt w a l) (hm : l.length ≤ 1000) :
    Calls Try.prog 35 #[.slice a l.length c] w
      fun e w' => ∃ a' c', e = .returned (.slice a' (thUp l 999).length c') ∧ IntsAt w' a' (thUp l 999) ∧ (∀ b o, a' = some ⟨b, o, none⟩ → b < w'.heap.size) ∧ Below w.heap.size w w' := by
  refine (thingsOf_row a c l w hw hm).mono ?_
  rintro e w1 ⟨v, rfl, hrow, hbl⟩
  obtain ⟨a', c', rfl, hat, hlt⟩ := ints_of_row hrow
  exact ⟨a', c', rfl, hat, hlt, hbl⟩
end Go.Proofs.Ytnjncemjghmpoaa
