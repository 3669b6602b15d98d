/- image: the text of numbers. -/
import Derived.Test.YtddgpgldbekamaaGreatDoorImPure
import Derived.Test.YtddgpgldbekamaaGreatDoorItoaLay
set_option linter.unusedVariables false
set_option linter.unusedSimpArgs false
set_option linter.unnecessarySimpa false
namespace Go.Proofs.YtddgpgldbekamaaGreatDoor
open Go.RowKit

/-- a number's digits behind noughts -/
def pdL (d n : Nat) : List UInt8 := List.replicate (d - (Lib.itoa (n : Int)).length) 48 ++ Lib.itoa (n : Int)
def txL (d : Nat) (ns : List Nat) : List UInt8 := ns.flatMap (pdL d)
theorem bsO_app (a b : List UInt8) : bsO a ++ bsO b = bsO (a ++ b) := by
  apply ByteArray.ext
  simp [bsO]
theorem txL_take {d : Nat} {ns : List Nat} {k n : Nat} (h : ns[k]? = some n) : txL d (ns.take (k + 1)) = txL d (ns.take k) ++ pdL d n := by
  unfold txL
  rw [List.take_add_one, h, List.flatMap_append]
  simp
theorem txL_len {d : Nat} : ∀ {ns : List Nat}, (∀ n ∈ ns, n ≤ 1000 ∧ (Lib.itoa (n : Int)).length ≤ d) → (txL d ns).length = d * ns.length
  | [], _ => rfl
  | n :: ns, h => by
    have h1 := (h n (List.mem_cons_self ..)).2
    have ih := txL_len (fun m hm => h m (List.mem_cons_of_mem _ hm))
    show (pdL d n ++ txL d ns).length = _
    rw [List.length_append, ih, pdL, List.length_append, List.length_replicate, List.length_cons, Nat.mul_succ]
    omega
theorem dec_small {n : Nat} (h : n < 10) : Lib.decDigits n = [dg n] := by
  rw [Lib.decDigits, dif_pos h, dg, Nat.mod_eq_of_lt h]
theorem dec_step {n : Nat} (h : ¬ n < 10) : Lib.decDigits n = Lib.decDigits (n / 10) ++ [dg n] := by
  rw [Lib.decDigits, dif_neg h]; rfl
theorem dg_zero {n : Nat} (h : n % 10 = 0) : dg n = 48 := by unfold dg; rw [h]; rfl
theorem itoa_nat (n : Nat) : Lib.itoa (n : Int) = Lib.decDigits n := by
  unfold Lib.itoa
  rw [if_neg (by omega), Int.toNat_natCast]
theorem dec_len {n : Nat} (h : n ≤ 1000) : (Lib.decDigits n).length ≤ 4 := by
  by_cases h1 : n < 10
  · rw [dec_small h1]; simp
  · rw [dec_step h1]
    by_cases h2 : n / 10 < 10
    · rw [dec_small h2]; simp
    · rw [dec_step h2]
      by_cases h3 : n / 10 / 10 < 10
      · rw [dec_small h3]; simp
      · rw [dec_step h3, dec_small (by omega)]; simp
theorem pdL_four {n : Nat} (h : n ≤ 1000) : pdL 4 n = d4 n := by
  unfold pdL d4
  rw [itoa_nat]
  have e1 : n / 10 / 10 = n / 100 := by omega
  have e2 : n / 10 / 10 / 10 = n / 1000 := by omega
  by_cases h1 : n < 10
  · rw [dec_small h1, dg_zero (n := n / 1000) (by omega), dg_zero (n := n / 100) (by omega), dg_zero (n := n / 10) (by omega)]; rfl
  · rw [dec_step h1]
    by_cases h2 : n / 10 < 10
    · rw [dec_small h2, dg_zero (n := n / 1000) (by omega), dg_zero (n := n / 100) (by omega)]; rfl
    · rw [dec_step h2]
      by_cases h3 : n / 10 / 10 < 10
      · rw [dec_small h3, dg_zero (n := n / 1000) (by omega), e1]; rfl
      · rw [dec_step h3, dec_small (by omega), e2, e1]; rfl
theorem pdL_one {n : Nat} (h : n ≤ 9) : pdL 1 n = [dg n] := by
  unfold pdL
  rw [itoa_nat, dec_small (by omega)]; rfl
theorem itoa_four {n : Nat} (h : n ≤ 1000) : (Lib.itoa (n : Int)).length ≤ 4 := by rw [itoa_nat]; exact dec_len h
theorem itoa_one {n : Nat} (h : n ≤ 9) : (Lib.itoa (n : Int)).length ≤ 1 := by rw [itoa_nat, dec_small (by omega)]; simp
set_option maxHeartbeats 2000000 in
set_option maxRecDepth 100000 in
theorem text_any (d : Nat) (hd : d ≤ 4) (g c : Nat) (ns : List Nat) (h1 : ∀ n ∈ ns, n ≤ 1000 ∧ (Lib.itoa (n : Int)).length ≤ d) (hl : ns.length ≤ 4) (w : World) (hw : Bx w g (inV ns)) (ht : Tab w) :
    Calls Tryz.prog 46 #[.int .i64 (d : Int), .slice (some ⟨g, 0, none⟩) ns.length c] w fun e w' => e = .returned (.string (bsO (txL d ns))) ∧ Below w.heap.size w w' := by
  have hg := hw.1
  go_enter Tryz.func46, Tryz.ntmps46
  go_wp2_with fail
  go_loopw [11, 5] (fun i s wr => ∃ k : Nat, k ≤ ns.length ∧ i = .int .i64 k ∧ s = .string (bsO (txL d (ns.take k))) ∧ Below w.heap.size w wr) (fun i _ _ => ns.length - (intOf i).toNat)
  case atStart => exact ⟨0, Nat.zero_le _, rfl, rfl, Below.refl _ _⟩
  case round =>
    obtain ⟨k, hk, rfl, rfl, bl⟩ := hrel
    by_cases hlt : k < ns.length
    · obtain ⟨n, hn⟩ : ∃ n, ns[k]? = some n := ⟨ns[k], List.getElem?_eq_getElem hlt⟩
      obtain ⟨n1, n2⟩ := h1 n (List.mem_of_getElem? hn)
      have hc := (hw.below bl).2 k (.int .i64 (n : Int)) (by unfold inV; rw [List.getElem?_map, hn]; rfl)
      obtain ⟨hc1, -⟩ := hc
      have htk := txL_take (d := d) hn
      have HTK : Hid (txL d (ns.take (k + 1)) = txL d (ns.take k) ++ pdL d n) := htk
      have hcon := itoa_any n (by omega) wr (ht.below bl)
      clear htk hn
      go_wp2_with (go_at_call 92; refine hcon.mono ?_; rintro e w1 ⟨rfl, hb1⟩)
      have bl1 := Below_after bl hb1
      clear hcon hc1 bl hb1
      have hbs : (⟨(Lib.itoa (n : Int)).toArray⟩ : ByteArray) = bsO (Lib.itoa (n : Int)) := rfl
      rw [hbs]
      have hsz : (bsO (Lib.itoa (n : Int))).size = (Lib.itoa (n : Int)).length := bsO_size _
      have htl : (txL d (ns.take k)).length ≤ 16 := by
        rw [txL_len (fun m hm => h1 m (List.mem_of_mem_take hm)), List.length_take]
        have : d * min k ns.length ≤ 4 * 4 := Nat.mul_le_mul hd (by omega)
        omega
      generalize hL : (Lib.itoa (n : Int)).length = L at *
      clear hw h1
      generalize hP : txL d (ns.take k) = P at *
      generalize hI : Lib.itoa (n : Int) = I at *
      go_loop [21, 5] (fun i s => ∃ j : Nat, j ≤ d - L ∧ i = .int .i64 j ∧ s = .string (bsO (P ++ List.replicate j 48))) (fun i _ => d - L - (intOf i).toNat)
      case atStart => exact ⟨0, Nat.zero_le _, rfl, by simp⟩
      case round =>
        obtain ⟨j, hj, rfl, rfl⟩ := hrel
        have hss : (bsO (P ++ List.replicate j 48)).size ≤ 20 := by rw [bsO_size, List.length_append, List.length_replicate]; omega
        by_cases hlt2 : j < d - L
        · have dj : decide ((j : Int) < (d : Int) - (L : Int)) = true := decide_eq_true (by omega)
          have hno : ¬ 9223372036854775807 < (bsO (P ++ List.replicate j 48)).size + 1 := by omega
          go_wp2_with fail
          refine ⟨⟨j + 1, by omega, by go_num, ?_⟩, by simp [intOf]; omega⟩
          rw [show ({ data := #[48] } : ByteArray) = bsO [48] from rfl, bsO_app, List.append_assoc, ← List.replicate_succ']
        · have dj : decide ((j : Int) < (d : Int) - (L : Int)) = false := decide_eq_false (by omega)
          have hno : ¬ 9223372036854775807 < (bsO (P ++ List.replicate j 48)).size + (bsO I).size := by omega
          have hjL : Hid (j = d - L) := (show j = d - L by omega)
          clear hsz
          go_wp2_with fail
          go_roundw
          case rel =>
            refine ⟨k + 1, by omega, by go_num, ?_, bl1⟩
            rw [HTK.out, bsO_app, List.append_assoc, pdL, hI, hL, hjL.out]
          case measure => simp [intOf]; omega
    · have hkn : k = ns.length := by omega
      have HT : Hid (txL d (ns.take k) = txL d ns) := by rw [hkn, List.take_length]; exact rfl
      generalize txL d (ns.take k) = P at *
      go_wp2_with fail
      go_ret
      rw [HT.out]
      exact ⟨rfl, bl⟩
theorem flat_congr {f g : Nat → List UInt8} : ∀ {l : List Nat}, (∀ n ∈ l, f n = g n) → l.flatMap f = l.flatMap g
  | [], _ => rfl
  | n :: l, h => by
    show f n ++ l.flatMap f = g n ++ l.flatMap g
    rw [h n (List.mem_cons_self ..), flat_congr (fun m hm => h m (List.mem_cons_of_mem _ hm))]
/-- numbers of four digits each -/
theorem text4 (g c : Nat) (ns : List Nat) (h1 : ∀ n ∈ ns, n ≤ 1000) (hl : ns.length ≤ 4) (w : World) (hw : Bx w g (inV ns)) (ht : Tab w) :
    Calls Tryz.prog 46 #[.int .i64 4, .slice (some ⟨g, 0, none⟩) ns.length c] w fun e w' => e = .returned (.string (bsO (ns.flatMap d4))) ∧ Below w.heap.size w w' := by
  refine (text_any 4 (by decide) g c ns (fun n hn => ⟨h1 n hn, itoa_four (h1 n hn)⟩) hl w hw ht).mono ?_
  rintro e w' ⟨rfl, hb⟩
  have : txL 4 ns = ns.flatMap d4 := by
    unfold txL
    exact flat_congr fun n hn => pdL_four (h1 n hn)
  rw [this]
  exact ⟨rfl, hb⟩
/-- a place -/
theorem text1 (g c : Nat) (a b : Nat) (ha : a ≤ 9) (hb : b ≤ 9) (w : World) (hw : Bx w g (inV [a, b])) (ht : Tab w) :
    Calls Tryz.prog 46 #[.int .i64 1, .slice (some ⟨g, 0, none⟩) 2 c] w fun e w' => e = .returned (.string (bsO [dg a, dg b])) ∧ Below w.heap.size w w' := by
  have h1 : ∀ n ∈ [a, b], n ≤ 1000 ∧ (Lib.itoa (n : Int)).length ≤ 1 := by
    intro n hn
    rcases List.mem_cons.1 hn with rfl | hn
    · exact ⟨by omega, itoa_one ha⟩
    · rw [List.mem_singleton.1 hn]; exact ⟨by omega, itoa_one hb⟩
  refine (text_any 1 (by decide) g c [a, b] h1 (by simp) w hw ht).mono ?_
  rintro e w' ⟨rfl, hb'⟩
  have : txL 1 [a, b] = [dg a, dg b] := by
    show pdL 1 a ++ (pdL 1 b ++ []) = _
    rw [pdL_one ha, pdL_one hb]; rfl
  rw [this]
  exact ⟨rfl, hb'⟩
end Go.Proofs.YtddgpgldbekamaaGreatDoor
