/- What an argument of type Act, or []Act, is, opened: plain data and where it lies. -/
/- What arguments of types []api.Change, api.Change are, opened: plain data and where it lies. -/
import Derived.Test.YtddgpgldbekamaaGreatProg
import Derived.Test.YtddgpgldbekamaaGreatLightW
import Derived.ProofKit
import Derived.Deep.Slices
namespace Go.Proofs.YtddgpgldbekamaaGreat
open Go.ChangeShapes Go.WideShapes Go.ChangeAt Go.RowKit Go.Deep
set_option maxRecDepth 100000
set_option linter.unusedVariables false

theorem cellsAct : Tryz.prog.cellsOf 37 = 11 := by kernel_rfl
theorem cellsChg : Tryz.prog.cellsOf 107 = 3 := by kernel_rfl
theorem cellsPl : Tryz.prog.cellsOf 33 = 2 := by kernel_rfl
theorem cellsI : Tryz.prog.cellsOf 3 = 1 := by kernel_rfl
theorem cellsU : Tryz.prog.cellsOf 34 = 1 := by kernel_rfl
theorem cellsS : Tryz.prog.cellsOf 9 = 1 := by kernel_rfl
theorem cellsB : Tryz.prog.cellsOf 4 = 1 := by kernel_rfl
theorem cellsLC : Tryz.prog.cellsOf 35 = 1 := by kernel_rfl
theorem list11 {α : Type} {l : List α} (h : l.length = 11) : ∃ c0 c1 c2 c3 c4 c5 c6 c7 c8 c9 c10, l = [c0, c1, c2, c3, c4, c5, c6, c7, c8, c9, c10] := by
  match l, h with
  | [c0, c1, c2, c3, c4, c5, c6, c7, c8, c9, c10], _ => exact ⟨c0, c1, c2, c3, c4, c5, c6, c7, c8, c9, c10, rfl⟩
theorem list3 {α : Type} {l : List α} (h : l.length = 3) : ∃ a b c, l = [a, b, c] := by
  match l, h with
  | [a, b, c], _ => exact ⟨a, b, c, rfl⟩
theorem list2 {α : Type} {l : List α} (h : l.length = 2) : ∃ a b, l = [a, b] := by
  match l, h with
  | [a, b], _ => exact ⟨a, b, rfl⟩
theorem some_of {α : Type} {l : List α} {i : Nat} (h : i < l.length) : ∃ y, l[i]? = some y := ⟨l[i], List.getElem?_eq_getElem h⟩
theorem lt_of_cell {w : World} {a : Addr} {v : Value} (h : w.cell? a = some v) : a.block < w.heap.size := by
  refine Nat.lt_of_not_le fun hn => ?_
  have : w.heap[a.block]? = none := by simp [hn]
  simp [World.cell?, this] at h
theorem trod_ch {H : Type} {enc : TypeId × Value → H} {w : World} {base : Nat} {spare : Nat → Bool} {held : Bool} {fuel : Nat} {cs : List Value} {y : DataW H × List MemPlace}
    (h : DataW.trod enc Tryz.prog w base spare held fuel 107 cs = some y) : ∃ x : Ch, cs = [.string x.key, .string x.val, .bool x.gone] ∧ x.key.size ≤ maxLen ∧ x.val.size ≤ maxLen := by
  obtain ⟨xs, n, _, _, hl, hlen, hf⟩ := DataW.trod_struct Tryz.underlying107 h
  rw [cellsChg] at hl
  obtain ⟨c0, c1, c2, rfl⟩ := list3 hl
  have g0 : DataW.trod enc Tryz.prog w base spare held n 9 (([c0, c1, c2].drop 0).take (Tryz.prog.cellsOf 9)) = xs[0]? := hf 0 _ rfl
  have g1 : DataW.trod enc Tryz.prog w base spare held n 9 (([c0, c1, c2].drop 1).take (Tryz.prog.cellsOf 9)) = xs[1]? := hf 1 _ rfl
  have g2 : DataW.trod enc Tryz.prog w base spare held n 4 (([c0, c1, c2].drop 2).take (Tryz.prog.cellsOf 4)) = xs[2]? := hf 2 _ rfl
  have hl3 : xs.length = 3 := hlen
  obtain ⟨y0, e0⟩ := some_of (l := xs) (i := 0) (by omega)
  obtain ⟨y1, e1⟩ := some_of (l := xs) (i := 1) (by omega)
  obtain ⟨y2, e2⟩ := some_of (l := xs) (i := 2) (by omega)
  rw [e0] at g0; rw [e1] at g1; rw [e2] at g2
  simp only [cellsS, cellsB] at g0 g1 g2
  obtain ⟨n0, k0, _, s0⟩ := DataW.trod_string Tryz.underlying9 g0
  obtain ⟨n1, k1, _, s1⟩ := DataW.trod_string Tryz.underlying9 g1
  obtain ⟨n2, k2, _⟩ := DataW.trod_bool Tryz.underlying4 g2
  simp at k0 k1 k2
  exact ⟨⟨n0, n1, n2⟩, by rw [k0, k1, k2], s0, s1⟩
theorem trod_pl {H : Type} {enc : TypeId × Value → H} {w : World} {base : Nat} {spare : Nat → Bool} {held : Bool} {fuel : Nat} {cs : List Value} {y : DataW H × List MemPlace}
    (h : DataW.trod enc Tryz.prog w base spare held fuel 33 cs = some y) : ∃ a b : Int, cs = [.int .i64 a, .int .i64 b] := by
  obtain ⟨xs, n, _, _, hl, hlen, hf⟩ := DataW.trod_struct Tryz.underlying33 h
  rw [cellsPl] at hl
  obtain ⟨c0, c1, rfl⟩ := list2 hl
  have g0 : DataW.trod enc Tryz.prog w base spare held n 3 (([c0, c1].drop 0).take (Tryz.prog.cellsOf 3)) = xs[0]? := hf 0 _ rfl
  have g1 : DataW.trod enc Tryz.prog w base spare held n 3 (([c0, c1].drop 1).take (Tryz.prog.cellsOf 3)) = xs[1]? := hf 1 _ rfl
  have hl2 : xs.length = 2 := hlen
  obtain ⟨y0, e0⟩ := some_of (l := xs) (i := 0) (by omega)
  obtain ⟨y1, e1⟩ := some_of (l := xs) (i := 1) (by omega)
  rw [e0] at g0; rw [e1] at g1
  simp only [cellsI] at g0 g1
  obtain ⟨n0, k0, _⟩ := DataW.trod_int Tryz.underlying3 g0
  obtain ⟨n1, k1, _⟩ := DataW.trod_int Tryz.underlying3 g1
  simp at k0 k1
  exact ⟨n0, n1, by rw [k0, k1]⟩
theorem trod_chs {H : Type} {enc : TypeId × Value → H} {w : World} {base : Nat} {spare : Nat → Bool} {held : Bool} {fuel : Nat} {cs : List Value} {y : DataW H × List MemPlace}
    (h : DataW.trod enc Tryz.prog w base spare held fuel 35 cs = some y) : ∃ (a : Option Addr) (l : List Ch) (c : Nat), cs = [.slice a l.length c] ∧ ChsAt w a l ∧ l.length ≤ maxLen := by
  rcases open_slice Tryz.underlying35 h with ⟨hcs, _⟩ | ⟨a, len, cap, m, n, D, Pl, hcs, _, hl, hm, hmm, hx, hel⟩
  · exact ⟨none, [], 0, hcs, .inl rfl, by simp⟩
  · have hlm : len ≤ m := by rw [hmm]; split <;> omega
    rw [cellsChg] at hel
    by_cases h0 : len = 0
    · subst h0
      exact ⟨some a, [], cap, hcs, .inl rfl, by simp⟩
    have each : ∀ i, i < len → ∃ x : Ch, (w.cell? (a.add (i * 3)) = some (.string x.key) ∧ w.cell? (a.add (i * 3 + 1)) = some (.string x.val) ∧ w.cell? (a.add (i * 3 + 2)) = some (.bool x.gone)) ∧ x.key.size ≤ maxLen ∧ x.val.size ≤ maxLen := by
      intro i hi
      obtain ⟨cs', h1, h2⟩ := hel i (by omega)
      obtain ⟨_, hlen, hcell⟩ := World.cells?_some h1
      obtain ⟨x, rfl, s0, s1⟩ := trod_ch h2
      have e0 := hcell 0 (by omega)
      have e1 := hcell 1 (by omega)
      have e2 := hcell 2 (by omega)
      rw [add_add] at e0 e1 e2
      exact ⟨x, ⟨by simpa using e0, by simpa using e1, by simpa using e2⟩, s0, s1⟩
    obtain ⟨f, hfam⟩ := @choose_lt Ch ⟨⟨ByteArray.empty, ByteArray.empty, false⟩⟩ len _ each
    obtain ⟨b, o, spot⟩ := a
    have hspot : spot = none := by simpa [Addr.add] using World.cell?_spot (hfam 0 (by omega)).1.1
    subst hspot
    refine ⟨some ⟨b, o, none⟩, (List.range len).map f, cap, by simpa using hcs, .inr ⟨b, o, rfl, ?_, ?_⟩, by simp; omega⟩
    · exact lt_of_cell (hfam 0 (by omega)).1.1
    · intro j x hx'
      have hj : j < len := by
        have := (List.getElem?_eq_some_iff.1 hx').1
        simpa using this
      have hxe : f j = x := by simpa [hj] using hx'
      subst hxe
      have := hfam j hj
      simp only [add_plain] at this
      obtain ⟨⟨c0, c1, c2⟩, s0, s1⟩ := this
      exact ⟨⟨c0, by simpa [Nat.add_assoc] using c1, by simpa [Nat.add_assoc] using c2⟩, s0, s1⟩
/-- what an act's own fields tell besides its cells -/
def AcOk (w : World) (x : Ac) : Prop := x.sd.size ≤ maxLen ∧ x.lc = x.ch.length ∧ x.ch.length ≤ maxLen ∧ ChsAt w x.xc x.ch
theorem trod_ac {H : Type} {enc : TypeId × Value → H} {w : World} {base : Nat} {spare : Nat → Bool} {held : Bool} {fuel : Nat} {cs : List Value} {y : DataW H × List MemPlace}
    (h : DataW.trod enc Tryz.prog w base spare held fuel 37 cs = some y) : ∃ x : Ac, cs = [.string x.kd, .string x.sd, .int .i64 x.ph, .int .i64 x.ps, .int .i64 x.qh, .int .i64 x.qs, .int .i64 x.aa, .int .i64 x.bb, .int .i64 x.nn, .int .u64 x.kk, .slice x.xc x.lc x.cc] ∧ AcOk w x := by
  obtain ⟨xs, n, _, _, hl, hlen, hf⟩ := DataW.trod_struct Tryz.underlying37 h
  rw [cellsAct] at hl
  obtain ⟨c0, c1, c2, c3, c4, c5, c6, c7, c8, c9, c10, rfl⟩ := list11 hl
  have g0 : DataW.trod enc Tryz.prog w base spare held n 9 (([c0, c1, c2, c3, c4, c5, c6, c7, c8, c9, c10].drop 0).take (Tryz.prog.cellsOf 9)) = xs[0]? := hf 0 _ rfl
  have g1 : DataW.trod enc Tryz.prog w base spare held n 9 (([c0, c1, c2, c3, c4, c5, c6, c7, c8, c9, c10].drop 1).take (Tryz.prog.cellsOf 9)) = xs[1]? := hf 1 _ rfl
  have g2 : DataW.trod enc Tryz.prog w base spare held n 33 (([c0, c1, c2, c3, c4, c5, c6, c7, c8, c9, c10].drop 2).take (Tryz.prog.cellsOf 33)) = xs[2]? := hf 2 _ rfl
  have g3 : DataW.trod enc Tryz.prog w base spare held n 33 (([c0, c1, c2, c3, c4, c5, c6, c7, c8, c9, c10].drop 4).take (Tryz.prog.cellsOf 33)) = xs[3]? := hf 3 _ rfl
  have g4 : DataW.trod enc Tryz.prog w base spare held n 3 (([c0, c1, c2, c3, c4, c5, c6, c7, c8, c9, c10].drop 6).take (Tryz.prog.cellsOf 3)) = xs[4]? := hf 4 _ rfl
  have g5 : DataW.trod enc Tryz.prog w base spare held n 3 (([c0, c1, c2, c3, c4, c5, c6, c7, c8, c9, c10].drop 7).take (Tryz.prog.cellsOf 3)) = xs[5]? := hf 5 _ rfl
  have g6 : DataW.trod enc Tryz.prog w base spare held n 3 (([c0, c1, c2, c3, c4, c5, c6, c7, c8, c9, c10].drop 8).take (Tryz.prog.cellsOf 3)) = xs[6]? := hf 6 _ rfl
  have g7 : DataW.trod enc Tryz.prog w base spare held n 34 (([c0, c1, c2, c3, c4, c5, c6, c7, c8, c9, c10].drop 9).take (Tryz.prog.cellsOf 34)) = xs[7]? := hf 7 _ rfl
  have g8 : DataW.trod enc Tryz.prog w base spare held n 35 (([c0, c1, c2, c3, c4, c5, c6, c7, c8, c9, c10].drop 10).take (Tryz.prog.cellsOf 35)) = xs[8]? := hf 8 _ rfl
  have hl9 : xs.length = 9 := hlen
  obtain ⟨y0, e0⟩ := some_of (l := xs) (i := 0) (by omega)
  obtain ⟨y1, e1⟩ := some_of (l := xs) (i := 1) (by omega)
  obtain ⟨y2, e2⟩ := some_of (l := xs) (i := 2) (by omega)
  obtain ⟨y3, e3⟩ := some_of (l := xs) (i := 3) (by omega)
  obtain ⟨y4, e4⟩ := some_of (l := xs) (i := 4) (by omega)
  obtain ⟨y5, e5⟩ := some_of (l := xs) (i := 5) (by omega)
  obtain ⟨y6, e6⟩ := some_of (l := xs) (i := 6) (by omega)
  obtain ⟨y7, e7⟩ := some_of (l := xs) (i := 7) (by omega)
  obtain ⟨y8, e8⟩ := some_of (l := xs) (i := 8) (by omega)
  rw [e0] at g0; rw [e1] at g1; rw [e2] at g2; rw [e3] at g3; rw [e4] at g4; rw [e5] at g5; rw [e6] at g6; rw [e7] at g7; rw [e8] at g8
  simp only [cellsS, cellsI, cellsU, cellsPl, cellsLC] at g0 g1 g2 g3 g4 g5 g6 g7 g8
  obtain ⟨n0, k0, _, s0⟩ := DataW.trod_string Tryz.underlying9 g0
  obtain ⟨n1, k1, _, s1⟩ := DataW.trod_string Tryz.underlying9 g1
  obtain ⟨n2, n3, k2⟩ := trod_pl g2
  obtain ⟨n4, n5, k3⟩ := trod_pl g3
  obtain ⟨n6, k4, _⟩ := DataW.trod_int Tryz.underlying3 g4
  obtain ⟨n7, k5, _⟩ := DataW.trod_int Tryz.underlying3 g5
  obtain ⟨n8, k6, _, q6⟩ := DataW.trod_int Tryz.underlying3 g6
  obtain ⟨n9, k7, _, q7⟩ := DataW.trod_int Tryz.underlying34 g7
  obtain ⟨xc, lch, cc, k8, hat, hm⟩ := trod_chs g8
  simp at k0 k1 k2 k3 k4 k5 k6 k7 k8
  refine ⟨⟨n0, n1, n2, n3, n4, n5, n6, n7, n8, n9, xc, lch.length, cc, lch, by simpa [Lit.wf, IntKind.min, IntKind.max, IntKind.bits, IntKind.signed] using q6, by simp [Lit.wf, IntKind.min, IntKind.max, IntKind.bits, IntKind.signed] at q7; omega⟩, ?_, s1, rfl, hm, hat⟩
  rw [k0, k1, k2.1, k2.2, k3.1, k3.2, k4, k5, k6, k7, k8]
theorem open_ac {H : Type} {enc : TypeId × Value → H} {w : World} {base : Nat} {spare : Nat → Bool} {held : Bool} {r : Reach} {b0 : Nat} {v : Value} {d : DataW H} {p : List MemPlace}
    (hv : Value.okWide Tryz.prog w r b0 37 v) (h : DataW.Trod enc Tryz.prog w base spare held 37 v d p) : ∃ x : Ac, v = .agg #[.string x.kd, .string x.sd, .int .i64 x.ph, .int .i64 x.ps, .int .i64 x.qh, .int .i64 x.qs, .int .i64 x.aa, .int .i64 x.bb, .int .i64 x.nn, .int .u64 x.kk, .slice x.xc x.lc x.cc] ∧ AcOk w x := by
  obtain ⟨cs, rfl, hsz⟩ := okWide_struct Tryz.underlying37 hv
  obtain ⟨fuel, hf⟩ := h
  obtain ⟨x, hx, hok⟩ := trod_ac hf
  refine ⟨x, ?_, hok⟩
  have hx' : cs.toList = [.string x.kd, .string x.sd, .int .i64 x.ph, .int .i64 x.ps, .int .i64 x.qh, .int .i64 x.qs, .int .i64 x.aa, .int .i64 x.bb, .int .i64 x.nn, .int .u64 x.kk, .slice x.xc x.lc x.cc] := by simpa [Value.cells] using hx
  congr 1
  rw [← Array.toList_inj]; exact hx'
theorem open_acs {H : Type} {enc : TypeId × Value → H} {w : World} {base : Nat} {spare : Nat → Bool} {held : Bool} {r : Reach} {b0 : Nat} {v : Value} {d : DataW H} {p : List MemPlace}
    (hv : Value.okWide Tryz.prog w r b0 22 v) (h : DataW.Trod enc Tryz.prog w base spare held 22 v d p) :
    ∃ (a : Option Addr) (l : List Ac) (c : Nat), v = .slice a l.length c ∧ AcsAt w a l ∧ l.length ≤ maxLen := by
  obtain ⟨a0, len, cap, rfl⟩ := okWide_slice Tryz.underlying22 hv
  obtain ⟨fuel, hf⟩ := h
  rcases open_slice Tryz.underlying22 hf with ⟨hcs, _⟩ | ⟨a, len', cap', m, n, D, Pl, hcs, _, hl, hm, hmm, hx, hel⟩
  · simp [Value.cells] at hcs
    obtain ⟨rfl, rfl, rfl⟩ := hcs
    exact ⟨none, [], 0, rfl, .inl rfl, by simp⟩
  · simp [Value.cells] at hcs
    obtain ⟨rfl, rfl, rfl⟩ := hcs
    have hlm : len ≤ m := by rw [hmm]; split <;> omega
    rw [cellsAct] at hel
    by_cases h0 : len = 0
    · subst h0
      exact ⟨some a, [], cap, rfl, .inl rfl, by simp⟩
    have each : ∀ i, i < len → ∃ x : Ac, (w.cell? (a.add (i * 11)) = some (.string x.kd) ∧ w.cell? (a.add (i * 11 + 1)) = some (.string x.sd) ∧ w.cell? (a.add (i * 11 + 2)) = some (.int .i64 x.ph) ∧ w.cell? (a.add (i * 11 + 3)) = some (.int .i64 x.ps) ∧ w.cell? (a.add (i * 11 + 4)) = some (.int .i64 x.qh) ∧ w.cell? (a.add (i * 11 + 5)) = some (.int .i64 x.qs) ∧ w.cell? (a.add (i * 11 + 6)) = some (.int .i64 x.aa) ∧ w.cell? (a.add (i * 11 + 7)) = some (.int .i64 x.bb) ∧ w.cell? (a.add (i * 11 + 8)) = some (.int .i64 x.nn) ∧ w.cell? (a.add (i * 11 + 9)) = some (.int .u64 x.kk) ∧ w.cell? (a.add (i * 11 + 10)) = some (.slice x.xc x.lc x.cc)) ∧ AcOk w x := by
      intro i hi
      obtain ⟨cs', h1, h2⟩ := hel i (by omega)
      obtain ⟨_, hlen, hcell⟩ := World.cells?_some h1
      obtain ⟨x, rfl, hok⟩ := trod_ac h2
      have e0 := hcell 0 (by omega)
      have e1 := hcell 1 (by omega)
      have e2 := hcell 2 (by omega)
      have e3 := hcell 3 (by omega)
      have e4 := hcell 4 (by omega)
      have e5 := hcell 5 (by omega)
      have e6 := hcell 6 (by omega)
      have e7 := hcell 7 (by omega)
      have e8 := hcell 8 (by omega)
      have e9 := hcell 9 (by omega)
      have e10 := hcell 10 (by omega)
      rw [add_add] at e0 e1 e2 e3 e4 e5 e6 e7 e8 e9 e10
      exact ⟨x, ⟨by simpa using e0, by simpa using e1, by simpa using e2, by simpa using e3, by simpa using e4, by simpa using e5, by simpa using e6, by simpa using e7, by simpa using e8, by simpa using e9, by simpa using e10⟩, hok⟩
    obtain ⟨f, hfam⟩ := @choose_lt Ac ⟨⟨ByteArray.empty, ByteArray.empty, 0, 0, 0, 0, 0, 0, 0, 0, none, 0, 0, [], by decide, by decide⟩⟩ len _ each
    obtain ⟨b, o, spot⟩ := a
    have hspot : spot = none := by simpa [Addr.add] using World.cell?_spot (hfam 0 (by omega)).1.1
    subst hspot
    refine ⟨some ⟨b, o, none⟩, (List.range len).map f, cap, by simp, .inr ⟨b, o, rfl, ?_, ?_⟩, by simp; omega⟩
    · exact lt_of_cell (hfam 0 (by omega)).1.1
    · intro j x hx'
      have hj : j < len := by
        have := (List.getElem?_eq_some_iff.1 hx').1
        simpa using this
      have hxe : f j = x := by simpa [hj] using hx'
      subst hxe
      have := hfam j hj
      simp only [add_plain] at this
      obtain ⟨⟨c0, c1, c2, c3, c4, c5, c6, c7, c8, c9, c10⟩, hok⟩ := this
      exact ⟨⟨c0, by simpa [Nat.add_assoc] using c1, by simpa [Nat.add_assoc] using c2, by simpa [Nat.add_assoc] using c3, by simpa [Nat.add_assoc] using c4, by simpa [Nat.add_assoc] using c5, by simpa [Nat.add_assoc] using c6, by simpa [Nat.add_assoc] using c7, by simpa [Nat.add_assoc] using c8, by simpa [Nat.add_assoc] using c9, by simpa [Nat.add_assoc] using c10⟩, hok⟩
end Go.Proofs.YtddgpgldbekamaaGreat
namespace Go.Proofs.YtddgpgldbekamaaGreat
open Go.ChangeShapes Go.WideShapes Go.ChangeAt Go.RowKit Go.Deep
set_option maxRecDepth 100000
set_option linter.unusedVariables false

theorem open_chs {H : Type} {enc : TypeId × Value → H} {w : World} {base : Nat} {spare : Nat → Bool} {held : Bool} {r : Reach} {b0 : Nat} {v : Value} {d : DataW H} {p : List MemPlace}
    (hv : Value.okWide Tryz.prog w r b0 35 v) (h : DataW.Trod enc Tryz.prog w base spare held 35 v d p) :
    ∃ (a : Option Addr) (l : List Ch) (c : Nat), v = .slice a l.length c ∧ ChsAt w a l ∧ l.length ≤ maxLen := by
  obtain ⟨a0, len, cap, rfl⟩ := okWide_slice Tryz.underlying35 hv
  obtain ⟨fuel, hf⟩ := h
  obtain ⟨a, l, c, hcs, h1, h2⟩ := trod_chs hf
  simp [Value.cells] at hcs
  obtain ⟨rfl, rfl, rfl⟩ := hcs
  exact ⟨a0, l, cap, rfl, h1, h2⟩
theorem open_ch {H : Type} {enc : TypeId × Value → H} {w : World} {base : Nat} {spare : Nat → Bool} {held : Bool} {r : Reach} {b0 : Nat} {v : Value} {d : DataW H} {p : List MemPlace}
    (hv : Value.okWide Tryz.prog w r b0 107 v) (h : DataW.Trod enc Tryz.prog w base spare held 107 v d p) : ∃ x : Ch, v = .agg #[.string x.key, .string x.val, .bool x.gone] ∧ x.key.size ≤ maxLen ∧ x.val.size ≤ maxLen := by
  obtain ⟨cs, rfl, hsz⟩ := okWide_struct Tryz.underlying107 hv
  obtain ⟨fuel, hf⟩ := h
  obtain ⟨x, hx, hok⟩ := trod_ch hf
  refine ⟨x, ?_, hok⟩
  have hx' : cs.toList = [.string x.key, .string x.val, .bool x.gone] := by simpa [Value.cells] using hx
  congr 1
  rw [← Array.toList_inj]; exact hx'
end Go.Proofs.YtddgpgldbekamaaGreat
