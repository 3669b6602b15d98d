/- TopDisk, walked. -/
import Derived.Test.YtjhkabhhlpdpaaaDkAny
import Derived.Test.YtjhkabhhlpdpaaaLightW
set_option linter.unusedVariables false
set_option linter.unusedSimpArgs false
set_option linter.unnecessarySimpa false
namespace Go.Proofs.Ytjhkabhhlpdpaaa
open Go.RowKit

/-- a disk of four sectors that isn't armed -/
structure D4 (d : Dk) : Prop where
  left : d.left = -1
  down : d.down = false
  len : d.now.length = 4
theorem D4.dn {d : Dk} (h : D4 d) : stepDn d = false := by simp [stepDn, h.left, h.down]
theorem D4.st {d : Dk} (h : D4 d) : stepR d = d := by
  obtain ⟨h1, h2, h3⟩ := h
  cases d with
  | mk n k wr l dn => dsimp only at h1 h2; subst h1; subst h2; simp [stepR, stepDn]
theorem D4.fl {d : Dk} (h : D4 d) : flR d = ⟨d.now, d.now, [], -1, false⟩ ∧ flC d = 0 := by
  constructor
  · simp only [flR, h.dn, h.st, h.left]; rfl
  · simp [flC, h.dn]
theorem D4.wr {d : Dk} (h : D4 d) (i : Int) (s : ByteArray) : D4 (wrR d i s) := by
  unfold wrR
  split
  · rw [h.dn, h.st]
    exact ⟨h.left, h.down, by simpa [wroteR] using h.len⟩
  · exact h
/-- a write that is refused leaves the disk; one that isn't lies behind the others -/
theorem D4.wrote {d : Dk} (h : D4 d) (i : Int) (s : ByteArray) : (wrC d i s ≠ 0 ∧ wrR d i s = d) ∨ (wrC d i s = 0 ∧ ∃ j : Nat, i = j ∧ j < 4 ∧ s.size ≤ 48 ∧ wrR d i s = wroteR d j (padS s)) := by
  by_cases hb : hasB2 d i = true ∧ s.size ≤ 48
  · right
    have h1 := (hasB2_iff d i).1 hb.1
    refine ⟨by simp [wrC, hb, h.dn], i.toNat, by omega, by have := h.len; omega, hb.2, by simp only [wrR, if_pos hb, h.dn, h.st]; rfl⟩
  · left
    exact ⟨by simp only [wrC, if_neg hb]; decide, by simp only [wrR, if_neg hb]⟩
theorem D4.rd {d : Dk} (h : D4 d) {k : Nat} (hk : k < 4) : rdC d k = 0 ∧ ∃ s, d.now[k]? = some s ∧ rdS d k = strOf s := by
  have hh : hasB2 d k = true := (hasB2_iff d k).2 ⟨by omega, by have := h.len; omega⟩
  have h0 : rdC d k = 0 := by simp [rdC, h.down, hh]
  have hl : k < d.now.length := by have := h.len; omega
  refine ⟨h0, d.now[k], List.getElem?_eq_getElem hl, ?_⟩
  simp [rdS, h0, hl]
def wantC (l : List ByteArray) : Array Value := (l.map Value.string).toArray
def WantAt (w : World) (g : Nat) (l : List ByteArray) : Prop := l.length = 4 ∧ w.heap[g]? = some (.cells (wantC l) 79 (0, 0))
theorem WantAt.cell {w : World} {g : Nat} {l : List ByteArray} (h : WantAt w g l) {k : Nat} {s : ByteArray} (hk : l[k]? = some s) : w.cell? ⟨g, k, none⟩ = some (.string s) := by
  rw [cell_of_row w g _ _ _ _ h.2]; simp [wantC, hk]
theorem WantAt.free {w : World} {g : Nat} {l : List ByteArray} (h : WantAt w g l) (k : Nat) : w.frozen? ⟨g, k, none⟩ = false := frozen_of_row w g k _ _ h.2
theorem WantAt.set {w : World} {g : Nat} {l : List ByteArray} (h : WantAt w g l) (k : Nat) (s : ByteArray) : WantAt (w.setCell ⟨g, k, none⟩ (.string s)) g (l.set k s) := by
  refine ⟨by simpa using h.1, ?_⟩
  rw [setCell_eq_setRow w g k _ _ _ _ h.2, setRow_heap w g _ _ _ _ h.2]
  simp [wantC, List.map_set]
theorem WantAt.same {w w' : World} {g : Nat} {l : List ByteArray} (h : WantAt w g l) (hk : w'.heap[g]? = w.heap[g]?) : WantAt w' g l := ⟨h.1, hk.trans h.2⟩
/-- the disk, what is wanted of it, and nothing older has turned -/
structure DW (w0 w : World) (p b1 b2 g : Nat) (v : Value) (d : Dk) (l : List ByteArray) : Prop where
  at_ : DkAt w w0.heap.size p b1 b2 v d
  bl : Below w0.heap.size w0 w
  off : Off g p b1 b2 v
  lt : g < w.heap.size
  ge : w0.heap.size ≤ g
  wt : WantAt w g l
  d4 : D4 d
theorem DW.to {w0 w w' : World} {p b1 b2 g : Nat} {v v' : Value} {d d' : Dk} {l : List ByteArray} (h : DW w0 w p b1 b2 g v d l) (hT : DkTo w w' w0.heap.size p b1 b2 v v' d') (h4 : D4 d') : DW w0 w' p b1 b2 g v' d' l := by
  obtain ⟨h1, h2, h3⟩ := hT.off h.off h.lt
  exact ⟨hT.at_, h.bl.trans (hT.to_below h.at_ h.bl.size), h1, h3, h.ge, h.wt.same h2, h4⟩
theorem DW.drew {w0 w : World} {p b1 b2 g : Nat} {v : Value} {d : Dk} {l : List ByteArray} (h : DW w0 w p b1 b2 g v d l) : DW w0 w.drew p b1 b2 g v d l :=
  ⟨h.at_.drew, below_drewN h.bl 1, h.off, h.lt, h.ge, h.wt.same rfl, h.d4⟩
theorem DW.set {w0 w : World} {p b1 b2 g : Nat} {v : Value} {d : Dk} {l : List ByteArray} (h : DW w0 w p b1 b2 g v d l) (k : Nat) (s : ByteArray) : DW w0 (w.setCell ⟨g, k, none⟩ (.string s)) p b1 b2 g v d (l.set k s) :=
  ⟨h.at_.set_off h.off _ _, h.bl.setCell (p := ⟨g, k, none⟩) h.ge _, h.off, by simpa using h.lt, h.ge, h.wt.set k s, h.d4⟩
theorem bit_small {n : Nat} (h : n < 64) (keep : Nat) (hkp : keep < 18446744073709551616) : (bits BinOp.and IntKind.u64 ((keep : Int) / 2 ^ n) 1 == 1) = bitB keep n := by
  have hA : bits BinOp.and IntKind.u64 ((keep : Int) / 2 ^ n) 1 = (((keep >>> n) &&& 1 : Nat) : Int) := by
    have e := bits_and_u64_nat (keep >>> n) 1 (shr_lt hkp) (by decide)
    rw [Nat.shiftRight_eq_div_pow] at e ⊢
    push_cast at e ⊢
    exact e
  rw [hA]
  unfold bitB
  rw [Nat.mod_eq_of_lt h]
  rw [Bool.eq_iff_iff]
  simp only [beq_iff_eq]
  exact ⟨fun h => by exact_mod_cast h, fun h => by exact_mod_cast h⟩
theorem lac_len2 {l : List Ac} {m : Int} (h : lacB l m = true) : (l.length : Int) ≤ m := by
  unfold lacB at h
  rw [Bool.and_eq_true] at h
  exact of_decide_eq_true h.1
theorem lac_sz {l : List Ac} {m : Int} (h : lacB l m = true) (x : Ac) (hx : x ∈ l) : x.sd.size ≤ 100 := by
  unfold lacB at h
  rw [Bool.and_eq_true, List.all_eq_true] at h
  have := h.2 x hx
  rw [Bool.and_eq_true] at this
  exact of_decide_eq_true this.1
theorem D4.re {d : Dk} (h : D4 d) (hok : DkOk d) (keep : Nat) : D4 (reR d keep) := ⟨rfl, rfl, by show (landW keep d.kept d.wr 0).length = 4; rw [land_len, hok.len, h.len]⟩
theorem map_set_str (l : List (List UInt8)) (k : Nat) (s : List UInt8) : (l.map strOf).set k (strOf s) = (l.set k s).map strOf := by rw [List.map_set]
theorem want_step {l : List (List UInt8)} {k : Nat} {s : List UInt8} (hs : l[k]? = some s) (h4 : l.length = 4) (hk : k < 4) : ((l.take k).map strOf ++ List.replicate (4 - k) (⟨#[]⟩ : ByteArray)).set k (strOf s) = (l.take (k + 1)).map strOf ++ List.replicate (4 - (k + 1)) (⟨#[]⟩ : ByteArray) := by
  obtain ⟨hk', rfl⟩ := List.getElem?_eq_some_iff.1 hs
  rw [List.take_succ_eq_append_getElem hk', List.map_append]
  have hl : ((l.take k).map strOf).length = k := by simp; omega
  rw [List.set_append_right _ _ (by omega), hl, Nat.sub_self, show 4 - k = (4 - (k + 1)) + 1 by omega, List.replicate_succ]
  simp
set_option maxHeartbeats 2000000 in
set_option maxRecDepth 100000 in
theorem tdisk_no1 (a a2 : Option Addr) (c c2 : Nat) (l more : List Ac) (keep : Nat) (w : World) (hw : AcsAt w a l) (hm : l.length ≤ maxLen) (hw2 : AcsAt w a2 more) (hm2 : more.length ≤ maxLen) (hkp : keep < 18446744073709551616) (hq : lacB l 40 = false) :
    Calls Try.prog 6 #[.slice a l.length c, .slice a2 more.length c2, .int .u64 (keep : Int)] w fun e w' => e = .returned (.bool true) ∧ Below w.heap.size w w' := by
  have hcon := new_go 4 w (by decide) (by decide)
  rw [show ((4 : Nat) : Int) = 4 from rfl] at hcon
  go_enter Try.func6, Try.ntmps6
  go_wp2_with fail
  refine hcon.mono ?_
  rintro e w1 ⟨p, b1, b2, rfl, hA, hb⟩
  clear hcon
  have h4 : D4 (newD 4) := ⟨rfl, rfl, by simp [newD]⟩
  have hcon := flush_any _ p b1 b2 _ _ w1 hA
  rw [h4.fl.1, h4.fl.2, errV_zero] at hcon
  go_wp2_with fail
  refine hcon.mono ?_
  rintro e w2 ⟨v2, rfl, hT⟩
  clear hcon
  have hb2 : Below w.heap.size w w2 := hb.trans (hT.to_below hA hb.size)
  have hA2 := hT.at_
  clear hT hA hb
  have h4' : D4 (⟨(newD 4).now, (newD 4).now, [], -1, false⟩ : Dk) := ⟨rfl, rfl, by simp [newD]⟩
  have hwr : (⟨(newD 4).now, (newD 4).now, [], -1, false⟩ : Dk).wr.length ≤ 0 := by simp
  generalize (⟨(newD 4).now, (newD 4).now, [], -1, false⟩ : Dk) = d at *
  have hcon := sectors_any _ p b1 b2 _ d w2 hA2
  rw [h4'.len, show ((4 : Nat) : Int) = 4 from rfl] at hcon
  go_wp2_with fail
  refine hcon.mono ?_
  rintro e w3 ⟨rfl, rfl⟩
  clear hcon
  have hcon := lac_any a c l 40 w3 (hw.below hb2) hm (by decide) (by decide)
  rw [hq] at hcon
  go_wp2_with fail
  refine hcon.mono ?_
  rintro e w4 ⟨rfl, rfl⟩
  go_wp2_with fail
  go_ret
  exact ⟨rfl, hb2⟩
set_option maxHeartbeats 2000000 in
set_option maxRecDepth 100000 in
theorem tdisk_no2 (a a2 : Option Addr) (c c2 : Nat) (l more : List Ac) (keep : Nat) (w : World) (hw : AcsAt w a l) (hm : l.length ≤ maxLen) (hw2 : AcsAt w a2 more) (hm2 : more.length ≤ maxLen) (hkp : keep < 18446744073709551616) (hq : lacB l 40 = true) (hq2 : lacB more 60 = false) :
    Calls Try.prog 6 #[.slice a l.length c, .slice a2 more.length c2, .int .u64 (keep : Int)] w fun e w' => e = .returned (.bool true) ∧ Below w.heap.size w w' := by
  have hcon := new_go 4 w (by decide) (by decide)
  rw [show ((4 : Nat) : Int) = 4 from rfl] at hcon
  go_enter Try.func6, Try.ntmps6
  go_wp2_with fail
  refine hcon.mono ?_
  rintro e w1 ⟨p, b1, b2, rfl, hA, hb⟩
  clear hcon
  have h4 : D4 (newD 4) := ⟨rfl, rfl, by simp [newD]⟩
  have hcon := flush_any _ p b1 b2 _ _ w1 hA
  rw [h4.fl.1, h4.fl.2, errV_zero] at hcon
  go_wp2_with fail
  refine hcon.mono ?_
  rintro e w2 ⟨v2, rfl, hT⟩
  clear hcon
  have hb2 : Below w.heap.size w w2 := hb.trans (hT.to_below hA hb.size)
  have hA2 := hT.at_
  clear hT hA hb
  have h4' : D4 (⟨(newD 4).now, (newD 4).now, [], -1, false⟩ : Dk) := ⟨rfl, rfl, by simp [newD]⟩
  have hwr : (⟨(newD 4).now, (newD 4).now, [], -1, false⟩ : Dk).wr.length ≤ 0 := by simp
  generalize (⟨(newD 4).now, (newD 4).now, [], -1, false⟩ : Dk) = d at *
  have hcon := sectors_any _ p b1 b2 _ d w2 hA2
  rw [h4'.len, show ((4 : Nat) : Int) = 4 from rfl] at hcon
  go_wp2_with fail
  refine hcon.mono ?_
  rintro e w3 ⟨rfl, rfl⟩
  clear hcon
  have hcon := lac_any a c l 40 w3 (hw.below hb2) hm (by decide) (by decide)
  rw [hq] at hcon
  go_wp2_with fail
  refine hcon.mono ?_
  rintro e w4 ⟨rfl, rfl⟩
  clear hcon
  have hcon := lac_any a2 c2 more 60 w4 (hw2.below hb2) hm2 (by decide) (by decide)
  rw [hq2] at hcon
  go_wp2_with fail
  refine hcon.mono ?_
  rintro e w5 ⟨rfl, rfl⟩
  go_wp2_with fail
  go_ret
  exact ⟨rfl, hb2⟩
set_option maxHeartbeats 2000000 in
set_option maxRecDepth 100000 in
theorem tdisk_yes (a a2 : Option Addr) (c c2 : Nat) (l more : List Ac) (keep : Nat) (w : World) (hw : AcsAt w a l) (hm : l.length ≤ maxLen) (hw2 : AcsAt w a2 more) (hm2 : more.length ≤ maxLen) (hkp : keep < 18446744073709551616) (hq : lacB l 40 = true) (hq2 : lacB more 60 = true) :
    Calls Try.prog 6 #[.slice a l.length c, .slice a2 more.length c2, .int .u64 (keep : Int)] w fun e w' => e = .returned (.bool true) ∧ Below w.heap.size w w' := by
  have hcon := new_go 4 w (by decide) (by decide)
  rw [show ((4 : Nat) : Int) = 4 from rfl] at hcon
  go_enter Try.func6, Try.ntmps6
  go_wp2_with fail
  refine hcon.mono ?_
  rintro e w1 ⟨p, b1, b2, rfl, hA, hb⟩
  clear hcon
  have h4 : D4 (newD 4) := ⟨rfl, rfl, by simp [newD]⟩
  have hcon := flush_any _ p b1 b2 _ _ w1 hA
  rw [h4.fl.1, h4.fl.2, errV_zero] at hcon
  go_wp2_with fail
  refine hcon.mono ?_
  rintro e w2 ⟨v2, rfl, hT⟩
  clear hcon
  have hb2 : Below w.heap.size w w2 := hb.trans (hT.to_below hA hb.size)
  have hA2 := hT.at_
  clear hT hA hb
  have h4' : D4 (⟨(newD 4).now, (newD 4).now, [], -1, false⟩ : Dk) := ⟨rfl, rfl, by simp [newD]⟩
  have hwr : (⟨(newD 4).now, (newD 4).now, [], -1, false⟩ : Dk).wr.length ≤ 0 := by simp
  generalize (⟨(newD 4).now, (newD 4).now, [], -1, false⟩ : Dk) = d at *
  have hcon := sectors_any _ p b1 b2 _ d w2 hA2
  rw [h4'.len, show ((4 : Nat) : Int) = 4 from rfl] at hcon
  go_wp2_with fail
  refine hcon.mono ?_
  rintro e w3 ⟨rfl, rfl⟩
  clear hcon
  have hcon := lac_any a c l 40 w3 (hw.below hb2) hm (by decide) (by decide)
  rw [hq] at hcon
  go_wp2_with fail
  refine hcon.mono ?_
  rintro e w4 ⟨rfl, rfl⟩
  clear hcon
  have hcon := lac_any a2 c2 more 60 w4 (hw2.below hb2) hm2 (by decide) (by decide)
  rw [hq2] at hcon
  go_wp2_with fail
  refine hcon.mono ?_
  rintro e w5 ⟨rfl, rfl⟩
  clear hcon
  have hll : l.length ≤ 40 := by have := lac_len2 hq; omega
  have hlm : more.length ≤ 60 := by have := lac_len2 hq2; omega
  have hsz : ∀ x ∈ more, x.sd.size ≤ maxLen := fun x hx => by have := lac_sz hq2 x hx; simp [maxLen]; omega
  have hsz1 : ∀ x ∈ l, x.sd.size ≤ maxLen := fun x hx => by have := lac_sz hq x hx; simp [maxLen]; omega
  clear hq hq2 hm hm2 h4
  go_wp2_with fail
  go_loopw [9] (fun i wr => ∃ (k : Nat) (v : Value) (d : Dk), k ≤ l.length ∧ i = .int .i64 k ∧ DkAt wr w.heap.size p b1 b2 v d ∧ Below w.heap.size w wr ∧ d.wr.length ≤ k ∧ D4 d) (fun i _ => l.length - (intOf i).toNat)
  case atStart => exact ⟨0, _, _, Nat.zero_le _, rfl, hA2, hb2, hwr, h4'⟩
  case round =>
    clear hA2 hb2 hwr h4' v2 d
    obtain ⟨k, v, d, hk, rfl, hA, hb, hwr, h4⟩ := hrel
    by_cases hlt : k < l.length
    rotate_left
    · have dlt : decide ((k : Int) < (l.length : Int)) = false := decide_eq_false (by omega)
      have hcon := flush_any _ p b1 b2 _ _ wr hA
      rw [h4.fl.1, h4.fl.2, errV_zero] at hcon
      go_wp2_with fail
      refine hcon.mono ?_
      rintro e w6 ⟨v6, rfl, hT⟩
      clear hcon
      have hb6 : Below w.heap.size w w6 := hb.trans (hT.to_below hA hb.size)
      have hA6 := hT.at_
      have h46 : D4 (⟨d.now, d.now, [], -1, false⟩ : Dk) := ⟨rfl, rfl, h4.len⟩
      clear hT hA hb hwr hlt dlt hk
      have hDW : DW w (w6.alloc (.cells (wantC (List.replicate 4 ⟨#[]⟩)) 79)) p b1 b2 w6.heap.size v6 (⟨d.now, d.now, [], -1, false⟩ : Dk) (List.replicate 4 ⟨#[]⟩) :=
        ⟨hA6.alloc _, hb6.alloc hb6.size _, hA6.off_new (Nat.le_refl _), by simp, hb6.size, ⟨rfl, heap_alloc_last _ _⟩, h46⟩
      simp only [wantC, List.replicate_succ, List.replicate_zero, List.map_cons, List.map_nil] at hDW
      have hn4 := h4.len
      clear h4
      go_wp2_with fail
      generalize w6.alloc (.cells #[.string ⟨#[]⟩, .string ⟨#[]⟩, .string ⟨#[]⟩, .string ⟨#[]⟩] 79) = w7 at *
      clear hA6 hb6 h46
      generalize w6.heap.size = g at *
      go_loopw [11, 12, 13] (fun i _ _ wr => ∃ (k : Nat), k ≤ 4 ∧ i = .int .i64 k ∧ DW w wr p b1 b2 g v6 ⟨d.now, d.now, [], -1, false⟩ ((d.now.take k).map strOf ++ List.replicate (4 - k) ⟨#[]⟩)) (fun i _ _ _ => 4 - (intOf i).toNat)
      case atStart => exact ⟨0, by decide, rfl, by simpa using hDW⟩
      case round =>
        clear hDW
        obtain ⟨k, hk, rfl, hD⟩ := hrel
        by_cases hlt : k < 4
        rotate_left
        · have e : (d.now.take k).map strOf ++ List.replicate (4 - k) (⟨#[]⟩ : ByteArray) = d.now.map strOf := by rw [List.take_of_length_le (by omega), show 4 - k = 0 by omega]; simp
          rw [e] at hD
          have dlt : decide ((k : Int) < 4) = false := decide_eq_false (by omega)
          clear e hlt hk
          go_wp2_with fail
          clear dlt
          go_loopw [14, 15, 16, 17] (fun n i _ _ wr => ∃ (k : Nat) (v : Value) (d : Dk), k ≤ more.length ∧ n = .int .i64 (d.wr.length : Int) ∧ i = .int .i64 k ∧ d.wr.length ≤ k ∧ DW w wr p b1 b2 g v d ((landW keep d.kept d.wr 0).map strOf)) (fun _ i _ _ _ => more.length - (intOf i).toNat)
          case atStart => exact ⟨0, _, _, Nat.zero_le _, rfl, rfl, Nat.le_refl _, hD⟩
          case round =>
            clear hD hn4
            obtain ⟨k, v, d, hk, rfl, rfl, hn, hD⟩ := hrel
            by_cases hlt : k < more.length
            rotate_left
            · have dlt : decide ((k : Int) < (more.length : Int)) = false := decide_eq_false (by omega)
              have hcon := restart_any _ p b1 b2 v d keep wr hD.at_ (by omega) hkp
              go_wp2_with fail
              refine hcon.mono ?_
              rintro e w8 ⟨rfl, hT⟩
              clear hcon
              have hD8 := hD.to hT (hD.d4.re hD.at_.ok keep)
              clear hD hT
              have hN : (landW keep d.kept d.wr 0) = (reR d keep).now := rfl
              rw [hN] at hD8
              clear hN
              generalize reR d keep = d8 at *
              go_wp2_with fail
              go_loopw [18, 19, 20] (fun i _ _ wr => ∃ (k : Nat), k ≤ 4 ∧ i = .int .i64 k ∧ wr = w8) (fun i _ _ _ => 4 - (intOf i).toNat)
              case atStart => exact ⟨0, by decide, rfl, rfl⟩
              case round =>
                obtain ⟨k, hk, rfl, rfl⟩ := hrel
                by_cases hlt : k < 4
                · obtain ⟨r0, s, hs, r1⟩ := hD8.d4.rd hlt
                  have hcon := read_any _ p b1 b2 _ d8 (k : Int) wr hD8.at_
                  rw [r0, r1, errV_zero] at hcon
                  have hc := hD8.wt.cell (k := k) (s := strOf s) (by simp [hs])
                  have hlt8 := hD8.lt
                  have dlt : decide ((k : Int) < 4) = true := decide_eq_true (by omega)
                  clear r0 r1 hs
                  generalize strOf s = t at *
                  go_wp2_with fail
                  refine hcon.mono ?_
                  rintro e w9 ⟨rfl, rfl⟩
                  go_wp2_with fail
                  go_roundw
                  case rel => exact ⟨k + 1, by omega, by go_num, by first | trivial | rfl⟩
                  case measure => simp [intOf]; omega
                · have dlt : decide ((k : Int) < 4) = false := decide_eq_false (by omega)
                  go_wp2_with fail
                  go_ret
                  exact ⟨rfl, hD8.bl⟩
            · obtain ⟨x, hx⟩ : ∃ x, more[k]? = some x := ⟨more[k], List.getElem?_eq_getElem hlt⟩
              have hxm := List.mem_of_getElem? hx
              have hsx := hsz x hxm
              obtain ⟨b', o', e', hbase, -⟩ := hw2.resolve_left (by rintro e; rw [e] at hlt; simp at hlt)
              obtain ⟨b, o, rfl, hbb, hww⟩ := (hw2.below hD.bl).resolve_left (by rintro e; rw [e] at hlt; simp at hlt)
              simp only [Option.some.injEq, Addr.mk.injEq, and_true] at e'
              obtain ⟨rfl, rfl⟩ := e'
              obtain ⟨⟨q0, q1, q2, q3, q4, q5, q6, q7, q8, q9, q10⟩, -⟩ := hww k x hx
              clear q0 q2 q3 q4 q5 q6 q7 q9 q10 hww
              have dlt : decide ((k : Int) < (more.length : Int)) = true := decide_eq_true (by omega)
              have hDd := hD.drew
              have hcon := write_any _ p b1 b2 v d x.nn x.sd wr.drew hDd.at_ hsx (by omega)
              rcases hD.d4.wrote x.nn x.sd with ⟨hc, hr⟩ | ⟨hc, j, hj, hj4, hs48, hr⟩
              · rw [hr, errV_pos hc] at hcon
                clear hr
                generalize wrC d x.nn x.sd = cc at *
                clear hc hsx hx hxm hD
                go_wp2_with fail
                refine wp_region_held_drew (S := fun w' => w'.cell? ⟨b, o + k * 11 + 8, none⟩ = some (.int .i64 x.nn) ∧ w'.cell? ⟨b, o + k * 11 + 1, none⟩ = some (.string x.sd)) (by kernel_rfl) ?_ (fun hHeld => ?_)
                · exact ⟨q8, q1⟩
                refine wpAnyH_take (i := 0) (oi := ({ dst := some 91, op := Op.move (Operand.tmp 7), type := 25, pos := "parts.go:693", after := #[], guard := none } : Oper)) (v := .pointer (some ⟨p, 0, none⟩)) rfl (by kernel_rfl) (by kernel_rfl) (by kernel_rfl) (fun _ _ _ h => h) (Or.inl ⟨by rfl, ?_⟩) (by assumption) ?_
                · intro w hSw; (try dsimp only at hSw); go_simp
                (try simp only [Act.put, List.setIfInBounds_toArray, List.set_cons_zero, List.set_cons_succ])
                refine wpAnyH_take (i := 1) (oi := ({ dst := some 92, op := Op.move (Operand.tmp 1), type := 22, pos := "parts.go:693", after := #[], guard := none } : Oper)) (v := .slice (some ⟨b, o, none⟩) more.length c2) rfl (by kernel_rfl) (by kernel_rfl) (by kernel_rfl) (fun _ _ _ h => h) (Or.inl ⟨by rfl, ?_⟩) (by assumption) ?_
                · intro w hSw; (try dsimp only at hSw); go_simp
                (try simp only [Act.put, List.setIfInBounds_toArray, List.set_cons_zero, List.set_cons_succ])
                refine wpAnyH_take (i := 2) (oi := ({ dst := some 93, op := Op.move (Operand.tmp 15), type := 3, pos := "parts.go:693", after := #[], guard := none } : Oper)) (v := .int .i64 k) rfl (by kernel_rfl) (by kernel_rfl) (by kernel_rfl) (fun _ _ _ h => h) (Or.inl ⟨by rfl, ?_⟩) (by assumption) ?_
                · intro w hSw; (try dsimp only at hSw); go_simp
                (try simp only [Act.put, List.setIfInBounds_toArray, List.set_cons_zero, List.set_cons_succ])
                refine wpAnyH_take (i := 3) (oi := ({ dst := some 94, op := Op.indexAddr 22 (Operand.tmp 92) (Operand.tmp 93), type := 0, pos := "parts.go:693", after := #[{ on := 1, ground := Ground.data }, { on := 2, ground := Ground.data }], guard := none } : Oper)) (v := .pointer (some ⟨b, o + k * 11, none⟩)) rfl (by kernel_rfl) (by kernel_rfl) (by kernel_rfl) (fun _ _ _ h => h) (Or.inl ⟨by rfl, ?_⟩) (by assumption) ?_
                · intro w hSw; (try dsimp only at hSw); go_simp
                (try simp only [Act.put, List.setIfInBounds_toArray, List.set_cons_zero, List.set_cons_succ])
                refine wpAnyH_take (i := 4) (oi := ({ dst := some 95, op := Op.fieldAddr 40 (Operand.tmp 94) 6, type := 0, pos := "parts.go:693", after := #[{ on := 3, ground := Ground.data }], guard := none } : Oper)) (v := .pointer (some ⟨b, o + k * 11 + 8, none⟩)) rfl (by kernel_rfl) (by kernel_rfl) (by kernel_rfl) (fun _ _ _ h => h) (Or.inl ⟨by rfl, ?_⟩) (by assumption) ?_
                · intro w hSw; (try dsimp only at hSw); go_simp
                (try simp only [Act.put, List.setIfInBounds_toArray, List.set_cons_zero, List.set_cons_succ])
                refine wpAnyH_take (i := 5) (oi := ({ dst := some 96, op := Op.load 3 (Operand.tmp 95), type := 3, pos := "parts.go:693", after := #[{ on := 4, ground := Ground.data }], guard := none } : Oper)) (v := .int .i64 x.nn) rfl (by kernel_rfl) (by kernel_rfl) (by kernel_rfl) (fun _ _ _ h => h) (Or.inl ⟨by rfl, ?_⟩) (by assumption) ?_
                · intro w hSw; (try dsimp only at hSw); go_simp
                (try simp only [Act.put, List.setIfInBounds_toArray, List.set_cons_zero, List.set_cons_succ])
                refine wpAnyH_take (i := 6) (oi := ({ dst := some 97, op := Op.move (Operand.tmp 1), type := 22, pos := "parts.go:693", after := #[], guard := none } : Oper)) (v := .slice (some ⟨b, o, none⟩) more.length c2) rfl (by kernel_rfl) (by kernel_rfl) (by kernel_rfl) (fun _ _ _ h => h) (Or.inl ⟨by rfl, ?_⟩) (by assumption) ?_
                · intro w hSw; (try dsimp only at hSw); go_simp
                (try simp only [Act.put, List.setIfInBounds_toArray, List.set_cons_zero, List.set_cons_succ])
                refine wpAnyH_take (i := 7) (oi := ({ dst := some 98, op := Op.move (Operand.tmp 15), type := 3, pos := "parts.go:693", after := #[], guard := none } : Oper)) (v := .int .i64 k) rfl (by kernel_rfl) (by kernel_rfl) (by kernel_rfl) (fun _ _ _ h => h) (Or.inl ⟨by rfl, ?_⟩) (by assumption) ?_
                · intro w hSw; (try dsimp only at hSw); go_simp
                (try simp only [Act.put, List.setIfInBounds_toArray, List.set_cons_zero, List.set_cons_succ])
                refine wpAnyH_take (i := 8) (oi := ({ dst := some 99, op := Op.indexAddr 22 (Operand.tmp 97) (Operand.tmp 98), type := 0, pos := "parts.go:693", after := #[{ on := 6, ground := Ground.data }, { on := 7, ground := Ground.data }], guard := none } : Oper)) (v := .pointer (some ⟨b, o + k * 11, none⟩)) rfl (by kernel_rfl) (by kernel_rfl) (by kernel_rfl) (fun _ _ _ h => h) (Or.inl ⟨by rfl, ?_⟩) (by assumption) ?_
                · intro w hSw; (try dsimp only at hSw); go_simp
                (try simp only [Act.put, List.setIfInBounds_toArray, List.set_cons_zero, List.set_cons_succ])
                refine wpAnyH_take (i := 9) (oi := ({ dst := some 100, op := Op.fieldAddr 40 (Operand.tmp 99) 1, type := 0, pos := "parts.go:693", after := #[{ on := 8, ground := Ground.data }], guard := none } : Oper)) (v := .pointer (some ⟨b, o + k * 11 + 1, none⟩)) rfl (by kernel_rfl) (by kernel_rfl) (by kernel_rfl) (fun _ _ _ h => h) (Or.inl ⟨by rfl, ?_⟩) (by assumption) ?_
                · intro w hSw; (try dsimp only at hSw); go_simp
                (try simp only [Act.put, List.setIfInBounds_toArray, List.set_cons_zero, List.set_cons_succ])
                refine wpAnyH_take (i := 10) (oi := ({ dst := some 101, op := Op.load 9 (Operand.tmp 100), type := 9, pos := "parts.go:693", after := #[{ on := 9, ground := Ground.data }], guard := none } : Oper)) (v := .string x.sd) rfl (by kernel_rfl) (by kernel_rfl) (by kernel_rfl) (fun _ _ _ h => h) (Or.inl ⟨by rfl, ?_⟩) (by assumption) ?_
                · intro w hSw; (try dsimp only at hSw); go_simp
                (try simp only [Act.put, List.setIfInBounds_toArray, List.set_cons_zero, List.set_cons_succ])
                refine wpAnyH_ready (rs := [11]) (by kernel_rfl) (by simp) ?_
                refine AllReadyH.cons (o := ({ dst := some 102, op := Op.call { callee := Callee.value (Operand.func 14), args := #[Operand.tmp 91, Operand.tmp 96, Operand.tmp 101], argTypes := #[25, 3, 9] }, type := 27, pos := "parts.go:693", after := #[{ on := 0, ground := Ground.data }, { on := 5, ground := Ground.data }, { on := 10, ground := Ground.data }], guard := none } : Oper)) rfl (fun K hK => ?_) AllReadyH.nil
                rw [if_pos (by rfl)]
                go_wp2_with fail
                refine hcon.mono ?_
                rintro e w9 ⟨v9, rfl, hT⟩
                clear hcon
                have hS9 : w9.cell? ⟨b, o + k * 11 + 8, none⟩ = some (.int .i64 x.nn) ∧ w9.cell? ⟨b, o + k * 11 + 1, none⟩ = some (.string x.sd) := by
                  have hbo : Off b p b1 b2 v := hDd.at_.off_old hbase
                  have hk9 := (hT.off hbo hbb).2.1
                  exact ⟨(World.cell?_of_block (a := ⟨b, _, none⟩) hk9).trans q8, (World.cell?_of_block (a := ⟨b, _, none⟩) hk9).trans q1⟩
                go_wp2_with fail
                refine hK.out _ _ ?_ (fun hHeld => ?_)
                · exact hS9
                clear hK K
                (try simp only [Act.put, List.setIfInBounds_toArray, List.set_cons_zero, List.set_cons_succ])
                refine wpAnyH_take (i := 12) (oi := ({ dst := some 103, op := Op.binOp BinOp.neq 27 (Operand.tmp 102) (Operand.const Value.nilIface) 27, type := 4, pos := "parts.go:693", after := #[{ on := 11, ground := Ground.data }], guard := none } : Oper)) (v := .bool true) rfl (by kernel_rfl) (by kernel_rfl) (by kernel_rfl) (fun _ _ _ h => h) (Or.inl ⟨by rfl, ?_⟩) (by assumption) ?_
                · intro w hSw; (try dsimp only at hSw); go_simp
                (try simp only [Act.put, List.setIfInBounds_toArray, List.set_cons_zero, List.set_cons_succ])
                refine wpAnyH_done (by kernel_rfl) ?_ _
                go_wp2_with fail
                go_roundw
                case rel => exact ⟨k + 1, _, d, by omega, rfl, by go_num, by omega, hDd.to hT hDd.d4⟩
                case measure => simp [intOf]; omega
              · rw [hr, hc, errV_zero] at hcon
                have h4d : D4 (wroteR d j (padS x.sd)) := by have := hD.d4.wr x.nn x.sd; rwa [hr] at this
                have hdn : (wroteR d j (padS x.sd)).now[j]? = some (padS x.sd) := by show (d.now.set j (padS x.sd))[j]? = _; rw [List.getElem?_set_self (by have := hD.d4.len; omega)]
                have hland := land_snoc keep (j, padS x.sd) d.wr d.kept 0
                have hwl : (wroteR d j (padS x.sd)).wr.length = d.wr.length + 1 := by simp [wroteR]
                have HWK : Hid ((landW keep (wroteR d j (padS x.sd)).kept (wroteR d j (padS x.sd)).wr 0) = landW keep d.kept (d.wr ++ [(j, padS x.sd)]) 0) := rfl
                have hbit := bit_small (n := d.wr.length) (by omega) keep hkp
                rw [Nat.zero_add] at hland
                clear hr hc hsx hx hxm hD
                obtain ⟨r0, s', hs', r1⟩ := h4d.rd hj4
                obtain rfl : s' = padS x.sd := by rw [hdn] at hs'; exact (Option.some.inj hs').symm
                have hnn : x.nn = (j : Int) := hj
                rw [hnn] at q8 hcon
                have HL : Hid (landW keep d.kept (d.wr ++ [(j, padS x.sd)]) 0 = if bitB keep d.wr.length then (landW keep d.kept d.wr 0).set j (padS x.sd) else landW keep d.kept d.wr 0) := hland
                clear hland hs' hdn hnn hj
                generalize wroteR d j (padS x.sd) = d2 at *
                have hn2 : (d2.wr.length : Int) = (d.wr.length : Int) + 1 := by omega
                have HN2 : Hid ((d2.wr.length : Int) = (d.wr.length : Int) + 1) := hn2
                have HWL : Hid (d2.wr.length = d.wr.length + 1) := hwl
                clear hn2 hwl
                have hdl : d.wr.length ≤ 60 := by omega
                cases hbt : bitB keep d.wr.length
                · rw [hbt] at hbit
                  have HL2 : Hid (landW keep d2.kept d2.wr 0 = landW keep d.kept d.wr 0) := by show _ = _; rw [HWK.out, HL.out, hbt]; rfl
                  clear hbt HL r0 r1 HWK
                  go_wp2_with fail
                  refine wp_region_held_drew (S := fun w' => w'.cell? ⟨b, o + k * 11 + 8, none⟩ = some (.int .i64 (j : Int)) ∧ w'.cell? ⟨b, o + k * 11 + 1, none⟩ = some (.string x.sd)) (by kernel_rfl) ?_ (fun hHeld => ?_)
                  · exact ⟨q8, q1⟩
                  refine wpAnyH_take (i := 0) (oi := ({ dst := some 91, op := Op.move (Operand.tmp 7), type := 25, pos := "parts.go:693", after := #[], guard := none } : Oper)) (v := .pointer (some ⟨p, 0, none⟩)) rfl (by kernel_rfl) (by kernel_rfl) (by kernel_rfl) (fun _ _ _ h => h) (Or.inl ⟨by rfl, ?_⟩) (by assumption) ?_
                  · intro w hSw; (try dsimp only at hSw); go_simp
                  (try simp only [Act.put, List.setIfInBounds_toArray, List.set_cons_zero, List.set_cons_succ])
                  refine wpAnyH_take (i := 1) (oi := ({ dst := some 92, op := Op.move (Operand.tmp 1), type := 22, pos := "parts.go:693", after := #[], guard := none } : Oper)) (v := .slice (some ⟨b, o, none⟩) more.length c2) rfl (by kernel_rfl) (by kernel_rfl) (by kernel_rfl) (fun _ _ _ h => h) (Or.inl ⟨by rfl, ?_⟩) (by assumption) ?_
                  · intro w hSw; (try dsimp only at hSw); go_simp
                  (try simp only [Act.put, List.setIfInBounds_toArray, List.set_cons_zero, List.set_cons_succ])
                  refine wpAnyH_take (i := 2) (oi := ({ dst := some 93, op := Op.move (Operand.tmp 15), type := 3, pos := "parts.go:693", after := #[], guard := none } : Oper)) (v := .int .i64 k) rfl (by kernel_rfl) (by kernel_rfl) (by kernel_rfl) (fun _ _ _ h => h) (Or.inl ⟨by rfl, ?_⟩) (by assumption) ?_
                  · intro w hSw; (try dsimp only at hSw); go_simp
                  (try simp only [Act.put, List.setIfInBounds_toArray, List.set_cons_zero, List.set_cons_succ])
                  refine wpAnyH_take (i := 3) (oi := ({ dst := some 94, op := Op.indexAddr 22 (Operand.tmp 92) (Operand.tmp 93), type := 0, pos := "parts.go:693", after := #[{ on := 1, ground := Ground.data }, { on := 2, ground := Ground.data }], guard := none } : Oper)) (v := .pointer (some ⟨b, o + k * 11, none⟩)) rfl (by kernel_rfl) (by kernel_rfl) (by kernel_rfl) (fun _ _ _ h => h) (Or.inl ⟨by rfl, ?_⟩) (by assumption) ?_
                  · intro w hSw; (try dsimp only at hSw); go_simp
                  (try simp only [Act.put, List.setIfInBounds_toArray, List.set_cons_zero, List.set_cons_succ])
                  refine wpAnyH_take (i := 4) (oi := ({ dst := some 95, op := Op.fieldAddr 40 (Operand.tmp 94) 6, type := 0, pos := "parts.go:693", after := #[{ on := 3, ground := Ground.data }], guard := none } : Oper)) (v := .pointer (some ⟨b, o + k * 11 + 8, none⟩)) rfl (by kernel_rfl) (by kernel_rfl) (by kernel_rfl) (fun _ _ _ h => h) (Or.inl ⟨by rfl, ?_⟩) (by assumption) ?_
                  · intro w hSw; (try dsimp only at hSw); go_simp
                  (try simp only [Act.put, List.setIfInBounds_toArray, List.set_cons_zero, List.set_cons_succ])
                  refine wpAnyH_take (i := 5) (oi := ({ dst := some 96, op := Op.load 3 (Operand.tmp 95), type := 3, pos := "parts.go:693", after := #[{ on := 4, ground := Ground.data }], guard := none } : Oper)) (v := .int .i64 (j : Int)) rfl (by kernel_rfl) (by kernel_rfl) (by kernel_rfl) (fun _ _ _ h => h) (Or.inl ⟨by rfl, ?_⟩) (by assumption) ?_
                  · intro w hSw; (try dsimp only at hSw); go_simp
                  (try simp only [Act.put, List.setIfInBounds_toArray, List.set_cons_zero, List.set_cons_succ])
                  refine wpAnyH_take (i := 6) (oi := ({ dst := some 97, op := Op.move (Operand.tmp 1), type := 22, pos := "parts.go:693", after := #[], guard := none } : Oper)) (v := .slice (some ⟨b, o, none⟩) more.length c2) rfl (by kernel_rfl) (by kernel_rfl) (by kernel_rfl) (fun _ _ _ h => h) (Or.inl ⟨by rfl, ?_⟩) (by assumption) ?_
                  · intro w hSw; (try dsimp only at hSw); go_simp
                  (try simp only [Act.put, List.setIfInBounds_toArray, List.set_cons_zero, List.set_cons_succ])
                  refine wpAnyH_take (i := 7) (oi := ({ dst := some 98, op := Op.move (Operand.tmp 15), type := 3, pos := "parts.go:693", after := #[], guard := none } : Oper)) (v := .int .i64 k) rfl (by kernel_rfl) (by kernel_rfl) (by kernel_rfl) (fun _ _ _ h => h) (Or.inl ⟨by rfl, ?_⟩) (by assumption) ?_
                  · intro w hSw; (try dsimp only at hSw); go_simp
                  (try simp only [Act.put, List.setIfInBounds_toArray, List.set_cons_zero, List.set_cons_succ])
                  refine wpAnyH_take (i := 8) (oi := ({ dst := some 99, op := Op.indexAddr 22 (Operand.tmp 97) (Operand.tmp 98), type := 0, pos := "parts.go:693", after := #[{ on := 6, ground := Ground.data }, { on := 7, ground := Ground.data }], guard := none } : Oper)) (v := .pointer (some ⟨b, o + k * 11, none⟩)) rfl (by kernel_rfl) (by kernel_rfl) (by kernel_rfl) (fun _ _ _ h => h) (Or.inl ⟨by rfl, ?_⟩) (by assumption) ?_
                  · intro w hSw; (try dsimp only at hSw); go_simp
                  (try simp only [Act.put, List.setIfInBounds_toArray, List.set_cons_zero, List.set_cons_succ])
                  refine wpAnyH_take (i := 9) (oi := ({ dst := some 100, op := Op.fieldAddr 40 (Operand.tmp 99) 1, type := 0, pos := "parts.go:693", after := #[{ on := 8, ground := Ground.data }], guard := none } : Oper)) (v := .pointer (some ⟨b, o + k * 11 + 1, none⟩)) rfl (by kernel_rfl) (by kernel_rfl) (by kernel_rfl) (fun _ _ _ h => h) (Or.inl ⟨by rfl, ?_⟩) (by assumption) ?_
                  · intro w hSw; (try dsimp only at hSw); go_simp
                  (try simp only [Act.put, List.setIfInBounds_toArray, List.set_cons_zero, List.set_cons_succ])
                  refine wpAnyH_take (i := 10) (oi := ({ dst := some 101, op := Op.load 9 (Operand.tmp 100), type := 9, pos := "parts.go:693", after := #[{ on := 9, ground := Ground.data }], guard := none } : Oper)) (v := .string x.sd) rfl (by kernel_rfl) (by kernel_rfl) (by kernel_rfl) (fun _ _ _ h => h) (Or.inl ⟨by rfl, ?_⟩) (by assumption) ?_
                  · intro w hSw; (try dsimp only at hSw); go_simp
                  (try simp only [Act.put, List.setIfInBounds_toArray, List.set_cons_zero, List.set_cons_succ])
                  refine wpAnyH_ready (rs := [11]) (by kernel_rfl) (by simp) ?_
                  refine AllReadyH.cons (o := ({ dst := some 102, op := Op.call { callee := Callee.value (Operand.func 14), args := #[Operand.tmp 91, Operand.tmp 96, Operand.tmp 101], argTypes := #[25, 3, 9] }, type := 27, pos := "parts.go:693", after := #[{ on := 0, ground := Ground.data }, { on := 5, ground := Ground.data }, { on := 10, ground := Ground.data }], guard := none } : Oper)) rfl (fun K hK => ?_) AllReadyH.nil
                  rw [if_pos (by rfl)]
                  go_wp2_with fail
                  refine hcon.mono ?_
                  rintro e w9 ⟨v9, rfl, hT⟩
                  clear hcon
                  have hS9 : w9.cell? ⟨b, o + k * 11 + 8, none⟩ = some (.int .i64 (j : Int)) ∧ w9.cell? ⟨b, o + k * 11 + 1, none⟩ = some (.string x.sd) := by
                    have hbo : Off b p b1 b2 v := hDd.at_.off_old hbase
                    have hk9 := (hT.off hbo hbb).2.1
                    exact ⟨(World.cell?_of_block (a := ⟨b, _, none⟩) hk9).trans q8, (World.cell?_of_block (a := ⟨b, _, none⟩) hk9).trans q1⟩
                  go_wp2_with fail
                  refine hK.out _ _ ?_ (fun hHeld => ?_)
                  · exact hS9
                  clear hK K
                  (try simp only [Act.put, List.setIfInBounds_toArray, List.set_cons_zero, List.set_cons_succ])
                  refine wpAnyH_take (i := 12) (oi := ({ dst := some 103, op := Op.binOp BinOp.neq 27 (Operand.tmp 102) (Operand.const Value.nilIface) 27, type := 4, pos := "parts.go:693", after := #[{ on := 11, ground := Ground.data }], guard := none } : Oper)) (v := .bool false) rfl (by kernel_rfl) (by kernel_rfl) (by kernel_rfl) (fun _ _ _ h => h) (Or.inl ⟨by rfl, ?_⟩) (by assumption) ?_
                  · intro w hSw; (try dsimp only at hSw); go_simp
                  (try simp only [Act.put, List.setIfInBounds_toArray, List.set_cons_zero, List.set_cons_succ])
                  refine wpAnyH_done (by kernel_rfl) ?_ _
                  go_wp2_with fail
                  have hD9 := hDd.to hT h4d
                  go_roundw
                  case rel => exact ⟨k + 1, _, d2, by omega, by rw [HN2.out], by go_num, by rw [HWL.out]; omega, by rw [HL2.out]; exact hD9⟩
                  case measure => simp [intOf]; omega
                · rw [hbt] at hbit
                  have HL2 : Hid (landW keep d2.kept d2.wr 0 = (landW keep d.kept d.wr 0).set j (padS x.sd)) := by show _ = _; rw [HWK.out, HL.out, hbt]; rfl
                  clear hbt HL HWK
                  go_wp2_with fail
                  refine wp_region_held_drew (S := fun w' => w'.cell? ⟨b, o + k * 11 + 8, none⟩ = some (.int .i64 (j : Int)) ∧ w'.cell? ⟨b, o + k * 11 + 1, none⟩ = some (.string x.sd)) (by kernel_rfl) ?_ (fun hHeld => ?_)
                  · exact ⟨q8, q1⟩
                  refine wpAnyH_take (i := 0) (oi := ({ dst := some 91, op := Op.move (Operand.tmp 7), type := 25, pos := "parts.go:693", after := #[], guard := none } : Oper)) (v := .pointer (some ⟨p, 0, none⟩)) rfl (by kernel_rfl) (by kernel_rfl) (by kernel_rfl) (fun _ _ _ h => h) (Or.inl ⟨by rfl, ?_⟩) (by assumption) ?_
                  · intro w hSw; (try dsimp only at hSw); go_simp
                  (try simp only [Act.put, List.setIfInBounds_toArray, List.set_cons_zero, List.set_cons_succ])
                  refine wpAnyH_take (i := 1) (oi := ({ dst := some 92, op := Op.move (Operand.tmp 1), type := 22, pos := "parts.go:693", after := #[], guard := none } : Oper)) (v := .slice (some ⟨b, o, none⟩) more.length c2) rfl (by kernel_rfl) (by kernel_rfl) (by kernel_rfl) (fun _ _ _ h => h) (Or.inl ⟨by rfl, ?_⟩) (by assumption) ?_
                  · intro w hSw; (try dsimp only at hSw); go_simp
                  (try simp only [Act.put, List.setIfInBounds_toArray, List.set_cons_zero, List.set_cons_succ])
                  refine wpAnyH_take (i := 2) (oi := ({ dst := some 93, op := Op.move (Operand.tmp 15), type := 3, pos := "parts.go:693", after := #[], guard := none } : Oper)) (v := .int .i64 k) rfl (by kernel_rfl) (by kernel_rfl) (by kernel_rfl) (fun _ _ _ h => h) (Or.inl ⟨by rfl, ?_⟩) (by assumption) ?_
                  · intro w hSw; (try dsimp only at hSw); go_simp
                  (try simp only [Act.put, List.setIfInBounds_toArray, List.set_cons_zero, List.set_cons_succ])
                  refine wpAnyH_take (i := 3) (oi := ({ dst := some 94, op := Op.indexAddr 22 (Operand.tmp 92) (Operand.tmp 93), type := 0, pos := "parts.go:693", after := #[{ on := 1, ground := Ground.data }, { on := 2, ground := Ground.data }], guard := none } : Oper)) (v := .pointer (some ⟨b, o + k * 11, none⟩)) rfl (by kernel_rfl) (by kernel_rfl) (by kernel_rfl) (fun _ _ _ h => h) (Or.inl ⟨by rfl, ?_⟩) (by assumption) ?_
                  · intro w hSw; (try dsimp only at hSw); go_simp
                  (try simp only [Act.put, List.setIfInBounds_toArray, List.set_cons_zero, List.set_cons_succ])
                  refine wpAnyH_take (i := 4) (oi := ({ dst := some 95, op := Op.fieldAddr 40 (Operand.tmp 94) 6, type := 0, pos := "parts.go:693", after := #[{ on := 3, ground := Ground.data }], guard := none } : Oper)) (v := .pointer (some ⟨b, o + k * 11 + 8, none⟩)) rfl (by kernel_rfl) (by kernel_rfl) (by kernel_rfl) (fun _ _ _ h => h) (Or.inl ⟨by rfl, ?_⟩) (by assumption) ?_
                  · intro w hSw; (try dsimp only at hSw); go_simp
                  (try simp only [Act.put, List.setIfInBounds_toArray, List.set_cons_zero, List.set_cons_succ])
                  refine wpAnyH_take (i := 5) (oi := ({ dst := some 96, op := Op.load 3 (Operand.tmp 95), type := 3, pos := "parts.go:693", after := #[{ on := 4, ground := Ground.data }], guard := none } : Oper)) (v := .int .i64 (j : Int)) rfl (by kernel_rfl) (by kernel_rfl) (by kernel_rfl) (fun _ _ _ h => h) (Or.inl ⟨by rfl, ?_⟩) (by assumption) ?_
                  · intro w hSw; (try dsimp only at hSw); go_simp
                  (try simp only [Act.put, List.setIfInBounds_toArray, List.set_cons_zero, List.set_cons_succ])
                  refine wpAnyH_take (i := 6) (oi := ({ dst := some 97, op := Op.move (Operand.tmp 1), type := 22, pos := "parts.go:693", after := #[], guard := none } : Oper)) (v := .slice (some ⟨b, o, none⟩) more.length c2) rfl (by kernel_rfl) (by kernel_rfl) (by kernel_rfl) (fun _ _ _ h => h) (Or.inl ⟨by rfl, ?_⟩) (by assumption) ?_
                  · intro w hSw; (try dsimp only at hSw); go_simp
                  (try simp only [Act.put, List.setIfInBounds_toArray, List.set_cons_zero, List.set_cons_succ])
                  refine wpAnyH_take (i := 7) (oi := ({ dst := some 98, op := Op.move (Operand.tmp 15), type := 3, pos := "parts.go:693", after := #[], guard := none } : Oper)) (v := .int .i64 k) rfl (by kernel_rfl) (by kernel_rfl) (by kernel_rfl) (fun _ _ _ h => h) (Or.inl ⟨by rfl, ?_⟩) (by assumption) ?_
                  · intro w hSw; (try dsimp only at hSw); go_simp
                  (try simp only [Act.put, List.setIfInBounds_toArray, List.set_cons_zero, List.set_cons_succ])
                  refine wpAnyH_take (i := 8) (oi := ({ dst := some 99, op := Op.indexAddr 22 (Operand.tmp 97) (Operand.tmp 98), type := 0, pos := "parts.go:693", after := #[{ on := 6, ground := Ground.data }, { on := 7, ground := Ground.data }], guard := none } : Oper)) (v := .pointer (some ⟨b, o + k * 11, none⟩)) rfl (by kernel_rfl) (by kernel_rfl) (by kernel_rfl) (fun _ _ _ h => h) (Or.inl ⟨by rfl, ?_⟩) (by assumption) ?_
                  · intro w hSw; (try dsimp only at hSw); go_simp
                  (try simp only [Act.put, List.setIfInBounds_toArray, List.set_cons_zero, List.set_cons_succ])
                  refine wpAnyH_take (i := 9) (oi := ({ dst := some 100, op := Op.fieldAddr 40 (Operand.tmp 99) 1, type := 0, pos := "parts.go:693", after := #[{ on := 8, ground := Ground.data }], guard := none } : Oper)) (v := .pointer (some ⟨b, o + k * 11 + 1, none⟩)) rfl (by kernel_rfl) (by kernel_rfl) (by kernel_rfl) (fun _ _ _ h => h) (Or.inl ⟨by rfl, ?_⟩) (by assumption) ?_
                  · intro w hSw; (try dsimp only at hSw); go_simp
                  (try simp only [Act.put, List.setIfInBounds_toArray, List.set_cons_zero, List.set_cons_succ])
                  refine wpAnyH_take (i := 10) (oi := ({ dst := some 101, op := Op.load 9 (Operand.tmp 100), type := 9, pos := "parts.go:693", after := #[{ on := 9, ground := Ground.data }], guard := none } : Oper)) (v := .string x.sd) rfl (by kernel_rfl) (by kernel_rfl) (by kernel_rfl) (fun _ _ _ h => h) (Or.inl ⟨by rfl, ?_⟩) (by assumption) ?_
                  · intro w hSw; (try dsimp only at hSw); go_simp
                  (try simp only [Act.put, List.setIfInBounds_toArray, List.set_cons_zero, List.set_cons_succ])
                  refine wpAnyH_ready (rs := [11]) (by kernel_rfl) (by simp) ?_
                  refine AllReadyH.cons (o := ({ dst := some 102, op := Op.call { callee := Callee.value (Operand.func 14), args := #[Operand.tmp 91, Operand.tmp 96, Operand.tmp 101], argTypes := #[25, 3, 9] }, type := 27, pos := "parts.go:693", after := #[{ on := 0, ground := Ground.data }, { on := 5, ground := Ground.data }, { on := 10, ground := Ground.data }], guard := none } : Oper)) rfl (fun K hK => ?_) AllReadyH.nil
                  rw [if_pos (by rfl)]
                  go_wp2_with fail
                  refine hcon.mono ?_
                  rintro e w9 ⟨v9, rfl, hT⟩
                  clear hcon
                  have hS9 : w9.cell? ⟨b, o + k * 11 + 8, none⟩ = some (.int .i64 (j : Int)) ∧ w9.cell? ⟨b, o + k * 11 + 1, none⟩ = some (.string x.sd) := by
                    have hbo : Off b p b1 b2 v := hDd.at_.off_old hbase
                    have hk9 := (hT.off hbo hbb).2.1
                    exact ⟨(World.cell?_of_block (a := ⟨b, _, none⟩) hk9).trans q8, (World.cell?_of_block (a := ⟨b, _, none⟩) hk9).trans q1⟩
                  go_wp2_with fail
                  refine hK.out _ _ ?_ (fun hHeld => ?_)
                  · exact hS9
                  clear hK K
                  (try simp only [Act.put, List.setIfInBounds_toArray, List.set_cons_zero, List.set_cons_succ])
                  refine wpAnyH_take (i := 12) (oi := ({ dst := some 103, op := Op.binOp BinOp.neq 27 (Operand.tmp 102) (Operand.const Value.nilIface) 27, type := 4, pos := "parts.go:693", after := #[{ on := 11, ground := Ground.data }], guard := none } : Oper)) (v := .bool false) rfl (by kernel_rfl) (by kernel_rfl) (by kernel_rfl) (fun _ _ _ h => h) (Or.inl ⟨by rfl, ?_⟩) (by assumption) ?_
                  · intro w hSw; (try dsimp only at hSw); go_simp
                  (try simp only [Act.put, List.setIfInBounds_toArray, List.set_cons_zero, List.set_cons_succ])
                  refine wpAnyH_done (by kernel_rfl) ?_ _
                  have hD9 := hDd.to hT h4d
                  have hcon2 := read_any _ p b1 b2 _ d2 (j : Int) w9 hD9.at_
                  rw [r0, r1, errV_zero] at hcon2
                  have q8b : w9.cell? ⟨b, o + k * 11 + 8, none⟩ = some (.int .i64 (j : Int)) := hS9.1
                  have hbb9 : b < w9.heap.size := Nat.lt_of_lt_of_le hbb hT.kp.size
                  have hf9 := hD9.wt.free j
                  have hlt9 := hD9.lt
                  have hDs := hD9.set j (strOf (padS x.sd))
                  rw [map_set_str] at hDs
                  have hc9 : ∃ u, w9.cell? ⟨g, j, none⟩ = some u := ⟨_, hD9.wt.cell (List.getElem?_eq_getElem (by rw [hD9.wt.1]; exact hj4))⟩
                  obtain ⟨u9, hc9⟩ := hc9
                  clear r0 r1 hD9 hT hS9
                  generalize strOf (padS x.sd) = tt at *
                  go_wp2_with fail
                  refine hcon2.mono ?_
                  rintro e w10 ⟨rfl, rfl⟩
                  go_wp2_with fail
                  go_roundw
                  case rel => exact ⟨k + 1, _, d2, by omega, by rw [HN2.out], by go_num, by rw [HWL.out]; omega, by rw [HL2.out]; exact hDs⟩
                  case measure => simp [intOf]; omega
        · obtain ⟨r0, s, hs, r1⟩ := hD.d4.rd hlt
          have hcon := read_any _ p b1 b2 _ _ (k : Int) wr hD.at_
          rw [r0, r1, errV_zero] at hcon
          have hf := hD.wt.free k
          have hltg := hD.lt
          obtain ⟨u, hu⟩ : ∃ u, wr.cell? ⟨g, k, none⟩ = some u := ⟨_, hD.wt.cell (List.getElem?_eq_getElem (by rw [hD.wt.1]; exact hlt))⟩
          have hDs := hD.set k (strOf s)
          rw [want_step hs hn4 hlt] at hDs
          have dlt : decide ((k : Int) < 4) = true := decide_eq_true (by omega)
          clear r0 r1 hs hD
          generalize strOf s = t at *
          go_wp2_with fail
          refine hcon.mono ?_
          rintro e w9 ⟨rfl, rfl⟩
          go_wp2_with fail
          go_roundw
          case rel => exact ⟨k + 1, by omega, by go_num, hDs⟩
          case measure => simp [intOf]; omega
    · obtain ⟨x, hx⟩ : ∃ x, l[k]? = some x := ⟨l[k], List.getElem?_eq_getElem hlt⟩
      have hxm := List.mem_of_getElem? hx
      have hsx := hsz1 x hxm
      obtain ⟨b', o', e', hbase, -⟩ := hw.resolve_left (by rintro e; rw [e] at hlt; simp at hlt)
      obtain ⟨b, o, rfl, hbb, hww⟩ := (hw.below hb).resolve_left (by rintro e; rw [e] at hlt; simp at hlt)
      simp only [Option.some.injEq, Addr.mk.injEq, and_true] at e'
      obtain ⟨rfl, rfl⟩ := e'
      obtain ⟨⟨q0, q1, q2, q3, q4, q5, q6, q7, q8, q9, q10⟩, -⟩ := hww k x hx
      clear q0 q2 q3 q4 q5 q6 q7 q9 q10 hww
      have dlt : decide ((k : Int) < (l.length : Int)) = true := decide_eq_true (by omega)
      have hcon := write_any _ p b1 b2 v d x.nn x.sd wr.drew hA.drew hsx (by omega)
      have h4w := h4.wr x.nn x.sd
      have hwl := wr_wr_len d x.nn x.sd
      clear hx hxm hsx
      generalize wrR d x.nn x.sd = d2 at *
      generalize errV (wrC d x.nn x.sd) = ev at *
      go_wp2_with fail
      refine wp_region_held_drew (S := fun w' => w'.cell? ⟨b, o + k * 11 + 8, none⟩ = some (.int .i64 x.nn) ∧ w'.cell? ⟨b, o + k * 11 + 1, none⟩ = some (.string x.sd)) (by kernel_rfl) ?_ (fun hHeld => ?_)
      · exact ⟨q8, q1⟩
      refine wpAnyH_take (i := 0) (oi := ({ dst := some 55, op := Op.move (Operand.tmp 7), type := 25, pos := "parts.go:678", after := #[], guard := none } : Oper)) (v := .pointer (some ⟨p, 0, none⟩)) rfl (by kernel_rfl) (by kernel_rfl) (by kernel_rfl) (fun _ _ _ h => h) (Or.inl ⟨by rfl, ?_⟩) (by assumption) ?_
      · intro w hSw; (try dsimp only at hSw); go_simp
      (try simp only [Act.put, List.setIfInBounds_toArray, List.set_cons_zero, List.set_cons_succ])
      refine wpAnyH_take (i := 1) (oi := ({ dst := some 56, op := Op.move (Operand.tmp 0), type := 22, pos := "parts.go:678", after := #[], guard := none } : Oper)) (v := .slice (some ⟨b, o, none⟩) l.length c) rfl (by kernel_rfl) (by kernel_rfl) (by kernel_rfl) (fun _ _ _ h => h) (Or.inl ⟨by rfl, ?_⟩) (by assumption) ?_
      · intro w hSw; (try dsimp only at hSw); go_simp
      (try simp only [Act.put, List.setIfInBounds_toArray, List.set_cons_zero, List.set_cons_succ])
      refine wpAnyH_take (i := 2) (oi := ({ dst := some 57, op := Op.move (Operand.tmp 9), type := 3, pos := "parts.go:678", after := #[], guard := none } : Oper)) (v := .int .i64 k) rfl (by kernel_rfl) (by kernel_rfl) (by kernel_rfl) (fun _ _ _ h => h) (Or.inl ⟨by rfl, ?_⟩) (by assumption) ?_
      · intro w hSw; (try dsimp only at hSw); go_simp
      (try simp only [Act.put, List.setIfInBounds_toArray, List.set_cons_zero, List.set_cons_succ])
      refine wpAnyH_take (i := 3) (oi := ({ dst := some 58, op := Op.indexAddr 22 (Operand.tmp 56) (Operand.tmp 57), type := 0, pos := "parts.go:678", after := #[{ on := 1, ground := Ground.data }, { on := 2, ground := Ground.data }], guard := none } : Oper)) (v := .pointer (some ⟨b, o + k * 11, none⟩)) rfl (by kernel_rfl) (by kernel_rfl) (by kernel_rfl) (fun _ _ _ h => h) (Or.inl ⟨by rfl, ?_⟩) (by assumption) ?_
      · intro w hSw; (try dsimp only at hSw); go_simp
      (try simp only [Act.put, List.setIfInBounds_toArray, List.set_cons_zero, List.set_cons_succ])
      refine wpAnyH_take (i := 4) (oi := ({ dst := some 59, op := Op.fieldAddr 40 (Operand.tmp 58) 6, type := 0, pos := "parts.go:678", after := #[{ on := 3, ground := Ground.data }], guard := none } : Oper)) (v := .pointer (some ⟨b, o + k * 11 + 8, none⟩)) rfl (by kernel_rfl) (by kernel_rfl) (by kernel_rfl) (fun _ _ _ h => h) (Or.inl ⟨by rfl, ?_⟩) (by assumption) ?_
      · intro w hSw; (try dsimp only at hSw); go_simp
      (try simp only [Act.put, List.setIfInBounds_toArray, List.set_cons_zero, List.set_cons_succ])
      refine wpAnyH_take (i := 5) (oi := ({ dst := some 60, op := Op.load 3 (Operand.tmp 59), type := 3, pos := "parts.go:678", after := #[{ on := 4, ground := Ground.data }], guard := none } : Oper)) (v := .int .i64 x.nn) rfl (by kernel_rfl) (by kernel_rfl) (by kernel_rfl) (fun _ _ _ h => h) (Or.inl ⟨by rfl, ?_⟩) (by assumption) ?_
      · intro w hSw; (try dsimp only at hSw); go_simp
      (try simp only [Act.put, List.setIfInBounds_toArray, List.set_cons_zero, List.set_cons_succ])
      refine wpAnyH_take (i := 6) (oi := ({ dst := some 61, op := Op.move (Operand.tmp 0), type := 22, pos := "parts.go:678", after := #[], guard := none } : Oper)) (v := .slice (some ⟨b, o, none⟩) l.length c) rfl (by kernel_rfl) (by kernel_rfl) (by kernel_rfl) (fun _ _ _ h => h) (Or.inl ⟨by rfl, ?_⟩) (by assumption) ?_
      · intro w hSw; (try dsimp only at hSw); go_simp
      (try simp only [Act.put, List.setIfInBounds_toArray, List.set_cons_zero, List.set_cons_succ])
      refine wpAnyH_take (i := 7) (oi := ({ dst := some 62, op := Op.move (Operand.tmp 9), type := 3, pos := "parts.go:678", after := #[], guard := none } : Oper)) (v := .int .i64 k) rfl (by kernel_rfl) (by kernel_rfl) (by kernel_rfl) (fun _ _ _ h => h) (Or.inl ⟨by rfl, ?_⟩) (by assumption) ?_
      · intro w hSw; (try dsimp only at hSw); go_simp
      (try simp only [Act.put, List.setIfInBounds_toArray, List.set_cons_zero, List.set_cons_succ])
      refine wpAnyH_take (i := 8) (oi := ({ dst := some 63, op := Op.indexAddr 22 (Operand.tmp 61) (Operand.tmp 62), type := 0, pos := "parts.go:678", after := #[{ on := 6, ground := Ground.data }, { on := 7, ground := Ground.data }], guard := none } : Oper)) (v := .pointer (some ⟨b, o + k * 11, none⟩)) rfl (by kernel_rfl) (by kernel_rfl) (by kernel_rfl) (fun _ _ _ h => h) (Or.inl ⟨by rfl, ?_⟩) (by assumption) ?_
      · intro w hSw; (try dsimp only at hSw); go_simp
      (try simp only [Act.put, List.setIfInBounds_toArray, List.set_cons_zero, List.set_cons_succ])
      refine wpAnyH_take (i := 9) (oi := ({ dst := some 64, op := Op.fieldAddr 40 (Operand.tmp 63) 1, type := 0, pos := "parts.go:678", after := #[{ on := 8, ground := Ground.data }], guard := none } : Oper)) (v := .pointer (some ⟨b, o + k * 11 + 1, none⟩)) rfl (by kernel_rfl) (by kernel_rfl) (by kernel_rfl) (fun _ _ _ h => h) (Or.inl ⟨by rfl, ?_⟩) (by assumption) ?_
      · intro w hSw; (try dsimp only at hSw); go_simp
      (try simp only [Act.put, List.setIfInBounds_toArray, List.set_cons_zero, List.set_cons_succ])
      refine wpAnyH_take (i := 10) (oi := ({ dst := some 65, op := Op.load 9 (Operand.tmp 64), type := 9, pos := "parts.go:678", after := #[{ on := 9, ground := Ground.data }], guard := none } : Oper)) (v := .string x.sd) rfl (by kernel_rfl) (by kernel_rfl) (by kernel_rfl) (fun _ _ _ h => h) (Or.inl ⟨by rfl, ?_⟩) (by assumption) ?_
      · intro w hSw; (try dsimp only at hSw); go_simp
      (try simp only [Act.put, List.setIfInBounds_toArray, List.set_cons_zero, List.set_cons_succ])
      refine wpAnyH_ready (rs := [11]) (by kernel_rfl) (by simp) ?_
      refine AllReadyH.cons (o := ({ dst := some 66, op := Op.call { callee := Callee.value (Operand.func 14), args := #[Operand.tmp 55, Operand.tmp 60, Operand.tmp 65], argTypes := #[25, 3, 9] }, type := 27, pos := "parts.go:678", after := #[{ on := 0, ground := Ground.data }, { on := 5, ground := Ground.data }, { on := 10, ground := Ground.data }], guard := none } : Oper)) rfl (fun K hK => ?_) AllReadyH.nil
      rw [if_pos (by rfl)]
      go_wp2_with fail
      refine hcon.mono ?_
      rintro e w9 ⟨v9, rfl, hT⟩
      clear hcon
      have hS9 : w9.cell? ⟨b, o + k * 11 + 8, none⟩ = some (.int .i64 x.nn) ∧ w9.cell? ⟨b, o + k * 11 + 1, none⟩ = some (.string x.sd) := by
        have hbo : Off b p b1 b2 v := hA.off_old hbase
        have hk9 := (hT.off hbo hbb).2.1
        exact ⟨(World.cell?_of_block (a := ⟨b, _, none⟩) hk9).trans q8, (World.cell?_of_block (a := ⟨b, _, none⟩) hk9).trans q1⟩
      go_wp2_with fail
      refine hK.out _ _ ?_ (fun hHeld => ?_)
      · exact hS9
      clear hK K
      (try simp only [Act.put, List.setIfInBounds_toArray, List.set_cons_zero, List.set_cons_succ])
      refine wpAnyH_done (by kernel_rfl) ?_ _
      go_wp2_with fail
      have hbD : Below w.heap.size w wr.drew := below_drewN hb 1
      go_roundw
      case rel => exact ⟨k + 1, _, d2, by omega, by go_num, hT.at_, hbD.trans (hT.to_below hA.drew hbD.size), by omega, h4w⟩
      case measure => simp [intOf]; omega
theorem u64_nat {x : Int} (h : (Lit.int .u64 x).wf = true) : ∃ n : Nat, x = n ∧ n < 18446744073709551616 := by
  simp [Lit.wf, IntKind.min, IntKind.max, IntKind.bits, IntKind.signed] at h
  exact ⟨x.toNat, by omega, by omega⟩
theorem tdisk_any (w : World) (a : Option Addr) (l : List Ac) (c : Nat) (hw : AcsAt w a l) (hm : l.length ≤ maxLen) (a2 : Option Addr) (more : List Ac) (c2 : Nat) (hw2 : AcsAt w a2 more) (hm2 : more.length ≤ maxLen) (x : Int) (hx : (Lit.int .u64 x).wf = true) :
    Calls Try.prog 6 #[.slice a l.length c, .slice a2 more.length c2, .int .u64 x] w fun e w' => e = .returned (.bool true) ∧ Below w.heap.size w w' := by
  obtain ⟨keep, rfl, hk⟩ := u64_nat hx
  cases hq : lacB l 40
  · exact tdisk_no1 a a2 c c2 l more keep w hw hm hw2 hm2 hk hq
  · cases hq2 : lacB more 60
    · exact tdisk_no2 a a2 c c2 l more keep w hw hm hw2 hm2 hk hq hq2
    · exact tdisk_yes a a2 c c2 l more keep w hw hm hw2 hm2 hk hq hq2
end Go.Proofs.Ytjhkabhhlpdpaaa
