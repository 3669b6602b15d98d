/- Things: the walks alone (the plain part stands in AllPure). -/
import Derived.Test.YtddgpgldbekamaaGreatProg
import Derived.Test.YtddgpgldbekamaaGreatAllPure
import Derived.Test.YtddgpgldbekamaaGreatInfoW
import Derived.Test.YtddgpgldbekamaaGreatSortLay
set_option linter.unusedSimpArgs false
set_option linter.unusedVariables false
namespace Go.Proofs.YtddgpgldbekamaaGreat
open Go.RowKit Go.Sort

theorem thingsLen (l : List Wr) : (thingsL l).length ≤ l.length := by
  have h := Lib.compact_length_le ((l.map (·.thing)).mergeSort fun x y => decide (x ≤ y))
  rw [List.length_mergeSort, List.length_map] at h
  exact h
/-- behind both: from what the contracts leave to a list of numbers of the call's own -/
theorem things_left {w w1 : World} {g cap nn q : Nat} {os : Array Obj} {ss : List Int} (hown : w1.ownsRow w.heap.size 3 1 (.slice (some ⟨g, 0, none⟩) ss.length cap) ss.length (ss.map (Value.int .i64))) (hbel : Below w.heap.size w w1) (hbg : w.heap.size ≤ g) :
    (putRow (Value.int .i64) (Sort.ahead (grow (putRow (Value.int .i64) (Sort.ahead w1 nn) g 0 (ss.mergeSort fun x y => decide (x ≤ y)).toArray) os) q) g 0 (Lib.compact (ss.mergeSort fun x y => decide (x ≤ y)) ++ List.replicate (ss.length - (Lib.compact (ss.mergeSort fun x y => decide (x ≤ y))).length) 0).toArray).ownsRow w.heap.size 3 1 (.slice (some ⟨g, 0, none⟩) (Lib.compact (ss.mergeSort fun x y => decide (x ≤ y))).length cap) (Lib.compact (ss.mergeSort fun x y => decide (x ≤ y))).length ((Lib.compact (ss.mergeSort fun x y => decide (x ≤ y))).map (Value.int .i64)) ∧
    Below w.heap.size w (putRow (Value.int .i64) (Sort.ahead (grow (putRow (Value.int .i64) (Sort.ahead w1 nn) g 0 (ss.mergeSort fun x y => decide (x ≤ y)).toArray) os) q) g 0 (Lib.compact (ss.mergeSort fun x y => decide (x ≤ y)) ++ List.replicate (ss.length - (Lib.compact (ss.mergeSort fun x y => decide (x ≤ y))).length) 0).toArray) := by
  have hl2 : (ss.mergeSort fun x y => decide (x ≤ y)).length = ss.length := List.length_mergeSort ss
  have hle := Lib.compact_length_le (ss.mergeSort fun x y => decide (x ≤ y))
  rcases hown.2 with ⟨h0, _⟩ | ⟨g', cap', cur, hv, hbase, hb, h1, h2, h3, h4⟩
  · cases h0
  cases hv
  have hs := ownsRow_sortedI (n := nn) (os := os) (ts := ss.mergeSort fun x y => decide (x ≤ y)) hl2 hbase hb h1 h2 h3
  have hc := Lib.ownsRow_putRow (q := q) (k := (Lib.compact (ss.mergeSort fun x y => decide (x ≤ y))).length) (ys := Lib.compact (ss.mergeSort fun x y => decide (x ≤ y)) ++ List.replicate (ss.length - (Lib.compact (ss.mergeSort fun x y => decide (x ≤ y))).length) 0) hs (by simp; omega) (by omega)
  rw [List.take_left] at hc
  exact ⟨hc, Lib.below_putRow (hbel.grown (grownBy_sortedI _) hbel.size (fun j hj => by cases hj; exact hbase)) hbg⟩
set_option maxHeartbeats 1000000 in
theorem things_some (b o c : Nat) (l : List Wr) (w : World) (hw : ∀ j x, l[j]? = some x → WrAt w b (o + j * 5) x) (hb : b < w.heap.size) (hm : l.length ≤ 1000) (h0 : ¬ l = []) :
    Calls Tryz.prog 80 #[.slice (some ⟨b, o, none⟩) l.length c] w
      fun e w' => ∃ v, e = .returned v ∧ w'.ownsRow w.heap.size 3 1 v (thingsL l).length ((thingsL l).flatMap icells) ∧ Below w.heap.size w w' := by
  obtain ⟨i0, hi, hi0, hi1, hi2⟩ := info_parts infoInt
  have hpos : 0 < l.length := by cases l with | nil => exact absurd rfl h0 | cons => simp
  clear h0
  go_enter Tryz.func80, Tryz.ntmps80
  go_wp2_with fail
  go_loopw [3, 8] (fun v i wr => ∃ k : Nat, k ≤ l.length ∧ i = .int .i64 k ∧ wr.ownsRow w.heap.size 3 1 v ((l.take k).map (·.thing)).length (((l.take k).map (·.thing)).flatMap icells) ∧ Below w.heap.size w wr)
    (fun _ i _ => l.length - (intOf i).toNat)
  case atStart => exact ⟨0, Nat.zero_le _, rfl, by simpa using World.ownsRow_nil _ _ _ _, Below.refl _ _⟩
  case round =>
    obtain ⟨k, hk, rfl, hown, hbl⟩ := hrel
    by_cases hlt : k < l.length
    · obtain ⟨x, hx⟩ : ∃ x, l[k]? = some x := ⟨l[k], List.getElem?_eq_getElem hlt⟩
      obtain ⟨q1, q2, q3, q4, q5⟩ := (hw k x hx).below hbl hb
      have HT : Hid ((l.take (k + 1)).map (·.thing) = (l.take k).map (·.thing) ++ [x.thing]) := th_next hx
      have hle : ((l.take k).map (·.thing)).length ≤ l.length := by simp; omega
      have hbz : b < wr.heap.size := Nat.lt_of_lt_of_le hb hbl.size
      clear hx hw
      generalize hM : (l.take k).map (·.thing) = M at hown hle
      have HM : Hid ((l.take k).map (·.thing) = M) := hM
      clear hM
      go_wp2_with (at_builtin; refine wpList_append_own _ rfl _ _ 119 rfl w.heap.size 3 i0 (.int .i64 0) 1 8 Tryz.underlying119 hi hi0 hi1 hi2 rfl (by decide) _ _ _ rfl ((hown.alloc _).alloc _) _ 1 1 [.int .i64 x.thing] rfl rfl (new1b _ _ _ _) (one1 _) ?c3 ?c4 ?c5 ?_)
      case c3 => unfold maxLen; omega
      case c4 => omega
      case c5 => have := hbl.size; simp; omega
      intro v' w2 hown2' hgrow _
      have bl2 := app2_below hbl hown hgrow
      have hown2 := row1_snoc hown2'
      clear hgrow hown2' hown
      go_wp2_with fail
      go_roundw
      case rel => exact ⟨k + 1, by omega, by go_num, by rw [HT.out, HM.out]; exact hown2, bl2⟩
      case measure => simp [intOf]; omega
    · rw [List.take_of_length_le (by omega), icells_map] at hown
      have hnl : (l.map (·.thing)).length ≤ 1000 := by simpa using hm
      have hnp : 0 < (l.map (·.thing)).length := by simpa using hpos
      have HE : Hid (thingsL l = Lib.compact ((l.map (·.thing)).mergeSort fun x y => decide (x ≤ y))) := show _ = _ from rfl
      clear hw
      generalize l.map (·.thing) = ss at *
      obtain ⟨g, cap, rfl, hbg, hgl, hncap, hcm, hlen, hH⟩ := Lib.holds_of_ownsRow hown (by rintro rfl; have := hown.1; rcases hown.2 with ⟨_, hn⟩ | ⟨g', cap', cur, hv, _⟩ <;> simp_all)
      unfold maxLen at hcm
      have hsort := sort_ints g 0 cap ss wr hH hgl (by omega)
      have X : Hid (wr.ownsRow w.heap.size 3 1 (.slice (some ⟨g, 0, none⟩) ss.length cap) ss.length (ss.map (Value.int .i64)) ∧ Below w.heap.size w wr ∧ Holds (Value.int .i64) wr g 0 ss.toArray) := ⟨hown, hbl, hH⟩
      clear hown hbl hH hlen
      go_wp2_with fail
      refine hsort.mono ?_
      rintro e w2 ⟨rfl, nn, os, rfl⟩
      have hl2 : (ss.mergeSort fun x y => decide (x ≤ y)).length = ss.length := List.length_mergeSort ss
      have hH2 : Holds (Value.int .i64) (grow (putRow (Value.int .i64) (Sort.ahead wr nn) g 0 (ss.mergeSort fun x y => decide (x ≤ y)).toArray) os) g 0 (ss.mergeSort fun x y => decide (x ≤ y)).toArray :=
        holds_grow (Value.int .i64) _ os g 0 _ (by simpa [putRow, mapBlock, Sort.ahead] using hgl) (holds_putRow (Value.int .i64) _ g 0 _ _ (holds_ahead (Value.int .i64) wr nn g 0 _ X.out.2.2) (by simp))
      have hcomp := compact_ints g 0 cap (ss.mergeSort fun x y => decide (x ≤ y)) _ hH2 (by omega) (by omega)
      rw [hl2] at hcomp
      clear hH2 hsort
      go_wp2_with fail
      refine hcomp.mono ?_
      rintro e w3 ⟨rfl, q, rfl⟩
      clear hcomp
      obtain ⟨r1, r2⟩ := things_left (nn := nn) (q := q) (os := os) X.out.1 X.out.2.1 hbg
      have R : Hid _ := show Hid _ from (And.intro r1 r2)
      clear r1 r2
      go_wp2_with fail
      go_ret
      refine ⟨_, rfl, ?_, R.out.2⟩
      rw [HE.out, icells_map]
      exact R.out.1
theorem things_any (a : Option Addr) (c : Nat) (l : List Wr) (w : World) (hw : WrsAt w a l) (hm : l.length ≤ 1000) :
    Calls Tryz.prog 80 #[.slice a l.length c] w
      fun e w' => ∃ a' c', e = .returned (.slice a' (thingsL l).length c') ∧ IntsAt w' a' (thingsL l) ∧ (∀ b o, a' = some ⟨b, o, none⟩ → b < w'.heap.size) ∧ Below w.heap.size w w' := by
  by_cases h0 : l = []
  · subst h0
    go_enter Tryz.func80, Tryz.ntmps80
    go_wp2_with fail
    refine wp_loop_rounds 1 ?_
    rw [rounds_succ]
    go_wp2_with fail
    refine (sort_none none 0 w).mono ?_
    rintro e w1 ⟨rfl, hq⟩
    obtain rfl := hq.symm
    go_wp2_with fail
    refine (compact_none none 0 w).mono ?_
    rintro e w1 ⟨rfl, hq⟩
    obtain rfl := hq.symm
    go_wp2_with fail
    go_ret
    exact ⟨none, 0, by rw [thE]; rfl, .inl thE, (fun b o e => by cases e), Below.refl _ _⟩
  · obtain ⟨b, o, rfl, hb, hx⟩ := hw.resolve_left h0
    refine (things_some b o c l w hx hb hm h0).mono ?_
    rintro e w1 ⟨v, rfl, hrow, hbl⟩
    obtain ⟨a', c', rfl, hat, hlt⟩ := ints_of_row hrow
    exact ⟨a', c', rfl, hat, hlt, hbl⟩
end Go.Proofs.YtddgpgldbekamaaGreat
