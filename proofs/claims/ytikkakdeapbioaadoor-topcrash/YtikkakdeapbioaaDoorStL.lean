/- store.lay: rows as a whole in a half, and a head, with a new log. -/
import Derived.Test.YtikkakdeapbioaaDoorStN
set_option linter.unusedVariables false
set_option linter.unusedSimpArgs false
set_option linter.unnecessarySimpa false
namespace Go.Proofs.YtikkakdeapbioaaDoor
open Go.RowKit

def layH (h : Hd3) (rows : List Ch) : Hd3 := ⟨h.half, h.first, (joinL rows).length⟩
def lay1 (d : Dk) (h : Hd3) (rows : List Ch) : Dk × Int := lgW d (1 + 50 * h.half) (chunks (strOf (joinL rows)))
def layF (d : Dk) (h : Hd3) (rows : List Ch) : Hd3 := ⟨h.half, newF (lay1 d h rows).1.now h.first, (joinL rows).length⟩
def lay2 (d : Dk) (h : Hd3) (rows : List Ch) : Dk × Int := lgW (lay1 d h rows).1 0 (chunks (strOf (headL (layF d h rows))))
def layC (d : Dk) (h : Hd3) (rows : List Ch) : Int := if (lay1 d h rows).2 = 0 then (lay2 d h rows).2 else (lay1 d h rows).2
def layR (d : Dk) (h : Hd3) (rows : List Ch) : Dk := if (lay1 d h rows).2 = 0 then (lay2 d h rows).1 else (lay1 d h rows).1
theorem lgW_up {d : Dk} {a : Nat} {ss : List ByteArray} (h : (lgW d a ss).2 = 0) : (lgW d a ss).1.down = false ∧ (lgW d a ss).1.wr = [] := by
  unfold lgW at h ⊢
  split
  · rename_i h1
    rw [if_pos h1] at h
    dsimp only at h ⊢
    unfold flC at h
    cases hs : stepDn (lwrs d a ss).1 with
    | true => rw [hs] at h; simp at h
    | false => unfold flR; rw [hs]; exact ⟨rfl, rfl⟩
  · rename_i h1
    rw [if_neg h1] at h
    exact absurd h h1
theorem wr_now (d : Dk) (a : Int) (s : ByteArray) : (wrR d a s).now.length = d.now.length := wr_now_len d a s
theorem lwrs_now : ∀ (l : List ByteArray) (d : Dk) (a : Nat), (lwrs d a l).1.now.length = d.now.length
  | [], d, a => rfl
  | x :: l, d, a => by
    unfold lwrs
    split
    · rw [lwrs_now l, wr_now]
    · exact wr_now _ _ _
theorem fl_now (d : Dk) : (flR d).now.length = d.now.length := by
  unfold flR
  split
  · rw [(step_now d).1]
  · rfl
theorem lgW_now (d : Dk) (a : Nat) (ss : List ByteArray) : (lgW d a ss).1.now.length = d.now.length := by
  unfold lgW
  split
  · dsimp only; rw [fl_now, lwrs_now]
  · exact lwrs_now _ _ _
theorem chunks_many (t : ByteArray) : (chunks t).length ≤ t.size := pcs_len _ _ _
theorem DkO.set_out {w : World} {B : Nat → Prop} {p : Nat} {d : Dk} (h : DkO w B p d) {b : Nat} (hb : ¬ B b) (j : Nat) (u : Value) : DkO (w.setCell ⟨b, j, none⟩ u) B p d :=
  h.same (fun k hk => Below.heap_setCell _ _ _ _ (fun e => by dsimp only at e; rw [e] at hk; exact hb hk))
theorem Tr.set_new {B B' : Nat → Prop} {w W : World} (h : Tr B B' w W) {b : Nat} (hb : w.heap.size ≤ b) (j : Nat) (u : Value) : Tr B B' w (W.setCell ⟨b, j, none⟩ u) :=
  ⟨h.os, h.tape, h.output, by simpa using h.size, fun k hk hn => (Below.heap_setCell _ _ _ _ (fun e => by dsimp only at e; omega)).trans (h.block k hk hn), h.fr⟩
theorem DkO.set3 {w : World} {B : Nat → Prop} {p : Nat} {d : Dk} (h : DkO w B p d) {b : Nat} (hb : ¬ B b) (u0 u1 u2 : Value) : DkO (((w.setCell ⟨b, 0, none⟩ u0).setCell ⟨b, 1, none⟩ u1).setCell ⟨b, 2, none⟩ u2) B p d := ((h.set_out hb 0 u0).set_out hb 1 u1).set_out hb 2 u2
theorem Tr.set3 {B B' : Nat → Prop} {w W : World} (h : Tr B B' w W) {b : Nat} (hb : w.heap.size ≤ b) (u0 u1 u2 : Value) : Tr B B' w (((W.setCell ⟨b, 0, none⟩ u0).setCell ⟨b, 1, none⟩ u1).setCell ⟨b, 2, none⟩ u2) := ((h.set_new hb 0 u0).set_new hb 1 u1).set_new hb 2 u2
def zh : Value := .agg #[.int .i64 0, .int .i64 0, .int .i64 0]
set_option maxHeartbeats 2000000 in
set_option maxRecDepth 100000 in
theorem lay_bad1 (B : Nat → Prop) (p : Nat) (d : Dk) (h : Hd3) (a : Option Addr) (c : Nat) (rows : List Ch) (w : World) (hd : DkO w B p d) (hw : ChsAt w a rows) (hg : ∀ x ∈ rows, chkC x = 0) (hl : rows.length ≤ 200) (h1 : h.half ≤ 1) (hwr : d.wr.length ≤ 10000) (hC : (lay1 d h rows).2 ≠ 0) :
    Calls Tryd.prog 31 #[.pointer (some ⟨p, 0, none⟩), hdV h, .slice a rows.length c] w fun e w' => ∃ B', e = .returned (.tuple #[zh, .pointer none, errV (lay1 d h rows).2]) ∧ DkO w' B' p (lay1 d h rows).1 ∧ Tr B B' w w' := by
  have hjl : (joinL rows).length ≤ 7000 := by have := join_len rows hg; omega
  have B0 := Bx.new w (hdC h) 72
  have bl0 := (Below.refl w.heap.size w).alloc (Nat.le_refl _) (.cells (hdC h).toArray 72)
  have B1 := Bx.new (w.alloc (.cells (hdC h).toArray 72)) [.int .i64 0, .int .i64 0, .int .i64 0] 72
  rw [sz_alloc] at B1
  replace B0 := B0.alloc (.cells #[.int .i64 0, .int .i64 0, .int .i64 0] 72)
  replace bl0 := bl0.alloc (by simp) (.cells #[.int .i64 0, .int .i64 0, .int .i64 0] 72)
  have hjn := fun W hW => join_good a c rows W hW hg hl
  have hts : (strOf (joinL rows)).size = (joinL rows).length := str_size _
  have hcm := chunks_many (strOf (joinL rows))
  have hwt := fun W hW => wtext_any B p d (1 + 50 * h.half) (strOf (joinL rows)) W hW hwr (by omega) (by omega) (by omega)
  have hatc := fun (h' : Hd3) W hh => at_any h' W hh
  rw [errV_pos hC]
  change ∀ W, _ → Calls _ _ _ W (fun e w' => ∃ B', e = .returned (errV (lay1 d h rows).2) ∧ DkO w' B' p (lay1 d h rows).1 ∧ Tr B B' W w') at hwt
  rw [errV_pos hC] at hwt
  have hj' := hjn _ (hw.below bl0)
  generalize (lay1 d h rows).1 = d1 at *
  generalize (lay1 d h rows).2 = C1 at *
  generalize strOf (joinL rows) = T at *
  clear hjn
  go_enter Tryd.func31, Tryd.ntmps31
  go_wp2_with fail
  refine hj'.mono ?_
  rintro e w1 ⟨rfl, hb1⟩
  replace B0 := B0.below hb1
  replace B1 := B1.below hb1
  replace bl0 := Below_after bl0 hb1
  have c0 := (B0.2 0 _ rfl).1
  have c1 := (B0.2 1 _ rfl).1
  have f2 := (B0.2 2 _ rfl).2
  have c2 := (B0.2 2 _ rfl).1
  have z0 := B0.1
  go_wp2_with fail
  replace B0 := B0.set 2 (.int .i64 ((joinL rows).length : Int))
  replace B1 := B1.other (b' := w.heap.size) (by omega) 2 (.int .i64 ((joinL rows).length : Int))
  replace bl0 := bl0.setCell (p := ⟨w.heap.size, 2, none⟩) (Nat.le_refl _) (.int .i64 ((joinL rows).length : Int))
  generalize hV : w1.setCell ⟨w.heap.size, 2, none⟩ (.int .i64 ((joinL rows).length : Int)) = V at *
  clear hV c0 c1 c2 f2 z0
  refine (hatc (layH h rows) _ h1).mono ?_
  rintro e w2 ⟨rfl, hb2⟩
  replace B0 := B0.below hb2
  replace B1 := B1.below hb2
  replace bl0 := Below_after bl0 hb2
  have hwt' := hwt _ (hd.below bl0)
  have hnB : ∀ k, w.heap.size ≤ k → ¬ B k := fun k hk hb => by have := hd.lt k hb; omega
  rw [show ((1 + 50 * (layH h rows).half : Nat) : Int) = ((1 + 50 * h.half : Nat) : Int) from rfl]
  clear hwt hatc
  go_wp2_with fail
  refine hwt'.mono ?_
  rintro e w3 ⟨B3, rfl, k1, k2⟩
  have hlt2 := B1.1
  replace B1 := B1.tr k2 (hnB _ (by omega))
  obtain ⟨y0, y1, y2⟩ := B1.three
  have f0 := (B1.2 0 _ rfl).2
  have f1 := (B1.2 1 _ rfl).2
  have f2 := (B1.2 2 _ rfl).2
  have hzz := B1.1
  have hz2 : w.heap.size + 1 < w2.heap.size := by have := hlt2; omega
  have ht := (Tr.of_below (B := B) bl0).trans k2
  clear hwt' B0
  go_wp2_with fail
  have hnb : ¬ B3 (w.heap.size + 1) := fun hb => by
    rcases k2.fr _ hb with hb | hb
    · exact hnB _ (by omega) hb
    · omega
  obtain ⟨q0, q1, q2⟩ := (B1.put3 (.int .i64 0) (.int .i64 0) (.int .i64 0)).three
  refine bodyPost_ret (v := .tuple #[zh, .pointer none, .iface 63 (.int .i64 C1)]) (by simp [results, zh, Tryd.results31, go_sem, q0, q1, q2]) rfl ⟨B3, rfl, k1.set3 hnb _ _ _, ht.set3 (by omega) _ _ _⟩
set_option maxHeartbeats 4000000 in
set_option maxRecDepth 100000 in
theorem lay_bad2 (B : Nat → Prop) (p : Nat) (d : Dk) (h : Hd3) (a : Option Addr) (c : Nat) (rows : List Ch) (w : World) (hd : DkO w B p d) (hw : ChsAt w a rows) (hg : ∀ x ∈ rows, chkC x = 0) (hl : rows.length ≤ 60) (h1 : h.half ≤ 1) (hwr : d.wr.length ≤ 10000) (hn : 166 ≤ d.now.length) (hf1 : 1 ≤ h.first) (hf2 : h.first ≤ 10000000000) (hC : (lay1 d h rows).2 = 0) (hC2 : (lay2 d h rows).2 ≠ 0) :
    Calls Tryd.prog 31 #[.pointer (some ⟨p, 0, none⟩), hdV h, .slice a rows.length c] w fun e w' => ∃ B', e = .returned (.tuple #[zh, .pointer none, errV (lay2 d h rows).2]) ∧ DkO w' B' p (lay2 d h rows).1 ∧ Tr B B' w w' := by
  have hjl : (joinL rows).length ≤ 2400 := by have := join_len rows hg; omega
  have B0 := Bx.new w (hdC h) 72
  have bl0 := (Below.refl w.heap.size w).alloc (Nat.le_refl _) (.cells (hdC h).toArray 72)
  have B1 := Bx.new (w.alloc (.cells (hdC h).toArray 72)) [.int .i64 0, .int .i64 0, .int .i64 0] 72
  rw [sz_alloc] at B1
  replace B0 := B0.alloc (.cells #[.int .i64 0, .int .i64 0, .int .i64 0] 72)
  replace bl0 := bl0.alloc (by simp) (.cells #[.int .i64 0, .int .i64 0, .int .i64 0] 72)
  have hjn := fun W hW => join_good a c rows W hW hg (by omega)
  have hts : (strOf (joinL rows)).size = (joinL rows).length := str_size _
  have hcm := chunks_many (strOf (joinL rows))
  have hwt := fun W hW => wtext_any B p d (1 + 50 * h.half) (strOf (joinL rows)) W hW hwr (by omega) (by omega) (by omega)
  have hatc := fun (h' : Hd3) W hh => at_any h' W hh
  change ∀ W, _ → Calls _ _ _ W (fun e w' => ∃ B', e = .returned (errV (lay1 d h rows).2) ∧ DkO w' B' p (lay1 d h rows).1 ∧ Tr B B' W w') at hwt
  rw [hC, errV_zero] at hwt
  have hj' := hjn _ (hw.below bl0)
  have hup : (lay1 d h rows).1.down = false := (lgW_up hC).1
  have hwr1 : (lay1 d h rows).1.wr = [] := (lgW_up hC).2
  have hnl : (lay1 d h rows).1.now.length = d.now.length := lgW_now _ _ _
  have hbd := newF_bd (lay1 d h rows).1.now h.first
  have hFok : HdOk (layF d h rows) := ⟨h1, by show 1 ≤ newF _ _; omega, by show newF _ _ < _; omega, by show (joinL rows).length ≤ 2400; omega⟩
  have HC2 : Hid (lay2 d h rows = lgW (lay1 d h rows).1 0 (chunks (strOf (headL (layF d h rows))))) := show _ = _ from rfl
  generalize hd1 : (lay1 d h rows).1 = d1 at *
  have hFe : layF d h rows = ⟨h.half, newF d1.now h.first, (joinL rows).length⟩ := by unfold layF; rw [hd1]
  generalize hF : layF d h rows = hF' at *
  have hFg : Hid (layF d h rows = hF') := hF
  clear hF
  clear hd1 hC
  generalize strOf (joinL rows) = T at *
  clear hjn
  go_enter Tryd.func31, Tryd.ntmps31
  go_wp2_with fail
  refine hj'.mono ?_
  rintro e w1 ⟨rfl, hb1⟩
  replace B0 := B0.below hb1
  replace B1 := B1.below hb1
  replace bl0 := Below_after bl0 hb1
  have c0 := (B0.2 0 _ rfl).1
  have c1 := (B0.2 1 _ rfl).1
  have f2 := (B0.2 2 _ rfl).2
  have c2 := (B0.2 2 _ rfl).1
  have z0 := B0.1
  go_wp2_with fail
  replace B0 := B0.set 2 (.int .i64 ((joinL rows).length : Int))
  replace B1 := B1.other (b' := w.heap.size) (by omega) 2 (.int .i64 ((joinL rows).length : Int))
  replace bl0 := bl0.setCell (p := ⟨w.heap.size, 2, none⟩) (Nat.le_refl _) (.int .i64 ((joinL rows).length : Int))
  generalize hV : w1.setCell ⟨w.heap.size, 2, none⟩ (.int .i64 ((joinL rows).length : Int)) = V at *
  clear hV c0 c1 c2 f2 z0
  refine (hatc (layH h rows) _ h1).mono ?_
  rintro e w2 ⟨rfl, hb2⟩
  replace B0 := B0.below hb2
  replace B1 := B1.below hb2
  replace bl0 := Below_after bl0 hb2
  have hwt' := hwt _ (hd.below bl0)
  have hnB : ∀ k, w.heap.size ≤ k → ¬ B k := fun k hk hb => by have := hd.lt k hb; omega
  rw [show ((1 + 50 * (layH h rows).half : Nat) : Int) = ((1 + 50 * h.half : Nat) : Int) from rfl]
  clear hwt hatc
  go_wp2_with fail
  refine hwt'.mono ?_
  rintro e w3 ⟨B3, rfl, k1, k2⟩
  have hzq := B0.1
  have hlt2 := B1.1
  replace B0 := B0.tr k2 (hnB _ (Nat.le_refl _))
  replace B1 := B1.tr k2 (hnB _ (by omega))
  have hlt3 := B1.1
  have ht := (Tr.of_below (B := B) bl0).trans k2
  have hnl1 := newLog_any B3 p d1 h.first w3 k1 hup (by omega) hf1 (by omega)
  have c1 := (B0.2 1 _ rfl).1
  have z0 := B0.1
  clear hwt'
  go_wp2_with fail
  refine hnl1.mono ?_
  rintro e w4 ⟨q, rfl, hL, hq, hb4⟩
  have hB3 : ∀ k, w.heap.size ≤ k → k < w3.heap.size → k < w2.heap.size → ¬ B3 k := fun k hk _ h3 hb => by
    rcases k2.fr _ hb with hb | hb
    · exact hnB _ hk hb
    · omega
  have hqB : ¬ B3 q := fun hb => by have := k1.lt q hb; omega
  replace B0 := B0.below hb4
  replace B1 := B1.below hb4
  replace k1 := k1.below hb4
  replace ht := ht.below hb4
  generalize hf : newF d1.now h.first = f at *
  have c0 := (B0.2 0 _ rfl).1
  have c1 := (B0.2 1 _ rfl).1
  have c2 := (B0.2 2 _ rfl).1
  have f1 := (B0.2 1 _ rfl).2
  have z0 := B0.1
  clear hnl1
  go_wp2_with fail
  replace B0 := B0.set 1 (.int .i64 (f : Int))
  replace B1 := B1.other (b' := w.heap.size) (by omega) 1 (.int .i64 (f : Int))
  replace k1 := k1.set_out (hB3 w.heap.size (Nat.le_refl _) (by omega) (by omega)) 1 (.int .i64 (f : Int))
  replace ht := ht.set_new (Nat.le_refl _) 1 (.int .i64 (f : Int))
  have hL2 : LgAt (w4.setCell ⟨w.heap.size, 1, none⟩ (.int .i64 (f : Int))) q p ⟨102, d1.now.length - 102, f, 0⟩ := (Below.heap_setCell _ _ _ _ (fun e => by dsimp only at e; omega)).trans hL
  simp only [List.set_cons_zero, List.set_cons_succ] at B0
  generalize hV2 : w4.setCell ⟨w.heap.size, 1, none⟩ (.int .i64 (f : Int)) = V2 at *
  have hV2z : w3.heap.size ≤ V2.heap.size := by rw [← hV2]; simpa using hb4.size
  have htx := text_any hF' V2 hFok
  have hst : (strOf (headL hF')).size = 19 := by rw [str_size, headL_len]
  have hcm2 := chunks_many (strOf (headL hF'))
  have hw2 := fun W hW => wtext_any B3 p d1 0 (strOf (headL hF')) W hW (by rw [hwr1]; simp) (by omega) (by omega) (by omega)
  rw [show ((0 : Nat) : Int) = 0 from rfl] at hw2
  change ∀ W, _ → Calls _ _ _ W (fun e w' => ∃ B', e = .returned (errV (lgW d1 0 (chunks (strOf (headL hF')))).2) ∧ DkO w' B' p (lgW d1 0 (chunks (strOf (headL hF')))).1 ∧ Tr B3 B' W w') at hw2
  rw [← HC2.out] at hw2
  have hFv : hdV hF' = .agg #[.int .i64 (h.half : Int), .int .i64 (f : Int), .int .i64 ((joinL rows).length : Int)] := by rw [hFe]
  rw [hFv] at htx
  generalize strOf (headL hF') = T2 at *
  generalize hd2 : (lay2 d h rows).1 = d2 at *
  have HD2 : Hid ((lay2 d h rows).1 = d2) := hd2
  generalize hc2 : (lay2 d h rows).2 = C2 at *
  have HCC : Hid ((lay2 d h rows).2 = C2) := hc2
  clear hd2 hc2
  clear hV2 hL c0 c1 c2 f1 z0 hFok HC2
  refine htx.mono ?_
  rintro e w5 ⟨rfl, hb5⟩
  replace B0 := B0.below hb5
  replace B1 := B1.below hb5
  replace k1 := k1.below hb5
  replace ht := ht.below hb5
  replace hL2 := hL2.below hb5
  have hw2' := hw2 _ k1
  clear hw2 htx
  rw [errV_pos hC2] at hw2'
  go_wp2_with fail
  refine hw2'.mono ?_
  rintro e w6 ⟨B6, rfl, g1, g2⟩
  have hzB := B1.1
  replace B1 := B1.tr g2 (hB3 _ (by omega) (by omega) (by omega))
  obtain ⟨y0, y1, y2⟩ := B1.three
  have f0 := (B1.2 0 _ rfl).2
  have f1 := (B1.2 1 _ rfl).2
  have f2 := (B1.2 2 _ rfl).2
  have hzz := B1.1
  replace ht := ht.trans g2
  clear hw2' B0
  go_wp2_with fail
  have hnb : ¬ B6 (w.heap.size + 1) := fun hb => by
    rcases g2.fr _ hb with hb | hb
    · exact hB3 _ (by omega) (by omega) (by omega) hb
    · omega
  obtain ⟨q0, q1, q2⟩ := (B1.put3 (.int .i64 0) (.int .i64 0) (.int .i64 0)).three
  refine bodyPost_ret (v := .tuple #[zh, .pointer none, .iface 63 (.int .i64 C2)]) (by simp [results, zh, Tryd.results31, go_sem, q0, q1, q2]) rfl ⟨B6, by rw [HCC.out, errV_pos hC2], by rw [HD2.out]; exact g1.set3 hnb _ _ _, ht.set3 (by omega) _ _ _⟩
set_option maxHeartbeats 4000000 in
set_option maxRecDepth 100000 in
theorem lay_good (B : Nat → Prop) (p : Nat) (d : Dk) (h : Hd3) (a : Option Addr) (c : Nat) (rows : List Ch) (w : World) (hd : DkO w B p d) (hw : ChsAt w a rows) (hg : ∀ x ∈ rows, chkC x = 0) (hl : rows.length ≤ 60) (h1 : h.half ≤ 1) (hwr : d.wr.length ≤ 10000) (hn : 166 ≤ d.now.length) (hf1 : 1 ≤ h.first) (hf2 : h.first ≤ 10000000000) (hC : (lay1 d h rows).2 = 0) (hC2 : (lay2 d h rows).2 = 0) :
    Calls Tryd.prog 31 #[.pointer (some ⟨p, 0, none⟩), hdV h, .slice a rows.length c] w fun e w' => ∃ B' q, e = .returned (.tuple #[hdV (layF d h rows), .pointer (some ⟨q, 0, none⟩), .nilIface]) ∧ DkO w' B' p (lay2 d h rows).1 ∧ LgAt w' q p ⟨102, d.now.length - 102, (layF d h rows).first, 0⟩ ∧ ¬ B' q ∧ w.heap.size ≤ q ∧ Tr B B' w w' := by
  have hjl : (joinL rows).length ≤ 2400 := by have := join_len rows hg; omega
  have B0 := Bx.new w (hdC h) 72
  have bl0 := (Below.refl w.heap.size w).alloc (Nat.le_refl _) (.cells (hdC h).toArray 72)
  have B1 := Bx.new (w.alloc (.cells (hdC h).toArray 72)) [.int .i64 0, .int .i64 0, .int .i64 0] 72
  rw [sz_alloc] at B1
  replace B0 := B0.alloc (.cells #[.int .i64 0, .int .i64 0, .int .i64 0] 72)
  replace bl0 := bl0.alloc (by simp) (.cells #[.int .i64 0, .int .i64 0, .int .i64 0] 72)
  have hjn := fun W hW => join_good a c rows W hW hg (by omega)
  have hts : (strOf (joinL rows)).size = (joinL rows).length := str_size _
  have hcm := chunks_many (strOf (joinL rows))
  have hwt := fun W hW => wtext_any B p d (1 + 50 * h.half) (strOf (joinL rows)) W hW hwr (by omega) (by omega) (by omega)
  have hatc := fun (h' : Hd3) W hh => at_any h' W hh
  change ∀ W, _ → Calls _ _ _ W (fun e w' => ∃ B', e = .returned (errV (lay1 d h rows).2) ∧ DkO w' B' p (lay1 d h rows).1 ∧ Tr B B' W w') at hwt
  rw [hC, errV_zero] at hwt
  have hj' := hjn _ (hw.below bl0)
  have hup : (lay1 d h rows).1.down = false := (lgW_up hC).1
  have hwr1 : (lay1 d h rows).1.wr = [] := (lgW_up hC).2
  have hnl : (lay1 d h rows).1.now.length = d.now.length := lgW_now _ _ _
  have hbd := newF_bd (lay1 d h rows).1.now h.first
  have hFok : HdOk (layF d h rows) := ⟨h1, by show 1 ≤ newF _ _; omega, by show newF _ _ < _; omega, by show (joinL rows).length ≤ 2400; omega⟩
  have HC2 : Hid (lay2 d h rows = lgW (lay1 d h rows).1 0 (chunks (strOf (headL (layF d h rows))))) := show _ = _ from rfl
  generalize hd1 : (lay1 d h rows).1 = d1 at *
  have hFe : layF d h rows = ⟨h.half, newF d1.now h.first, (joinL rows).length⟩ := by unfold layF; rw [hd1]
  generalize hF : layF d h rows = hF' at *
  have hFg : Hid (layF d h rows = hF') := hF
  clear hF
  clear hd1 hC
  generalize strOf (joinL rows) = T at *
  clear hjn
  go_enter Tryd.func31, Tryd.ntmps31
  go_wp2_with fail
  refine hj'.mono ?_
  rintro e w1 ⟨rfl, hb1⟩
  replace B0 := B0.below hb1
  replace B1 := B1.below hb1
  replace bl0 := Below_after bl0 hb1
  have c0 := (B0.2 0 _ rfl).1
  have c1 := (B0.2 1 _ rfl).1
  have f2 := (B0.2 2 _ rfl).2
  have c2 := (B0.2 2 _ rfl).1
  have z0 := B0.1
  go_wp2_with fail
  replace B0 := B0.set 2 (.int .i64 ((joinL rows).length : Int))
  replace B1 := B1.other (b' := w.heap.size) (by omega) 2 (.int .i64 ((joinL rows).length : Int))
  replace bl0 := bl0.setCell (p := ⟨w.heap.size, 2, none⟩) (Nat.le_refl _) (.int .i64 ((joinL rows).length : Int))
  generalize hV : w1.setCell ⟨w.heap.size, 2, none⟩ (.int .i64 ((joinL rows).length : Int)) = V at *
  clear hV c0 c1 c2 f2 z0
  refine (hatc (layH h rows) _ h1).mono ?_
  rintro e w2 ⟨rfl, hb2⟩
  replace B0 := B0.below hb2
  replace B1 := B1.below hb2
  replace bl0 := Below_after bl0 hb2
  have hwt' := hwt _ (hd.below bl0)
  have hnB : ∀ k, w.heap.size ≤ k → ¬ B k := fun k hk hb => by have := hd.lt k hb; omega
  rw [show ((1 + 50 * (layH h rows).half : Nat) : Int) = ((1 + 50 * h.half : Nat) : Int) from rfl]
  clear hwt hatc
  go_wp2_with fail
  refine hwt'.mono ?_
  rintro e w3 ⟨B3, rfl, k1, k2⟩
  have hzq := B0.1
  have hlt2 := B1.1
  replace B0 := B0.tr k2 (hnB _ (Nat.le_refl _))
  replace B1 := B1.tr k2 (hnB _ (by omega))
  have hlt3 := B1.1
  have ht := (Tr.of_below (B := B) bl0).trans k2
  have hnl1 := newLog_any B3 p d1 h.first w3 k1 hup (by omega) hf1 (by omega)
  have c1 := (B0.2 1 _ rfl).1
  have z0 := B0.1
  clear hwt'
  go_wp2_with fail
  refine hnl1.mono ?_
  rintro e w4 ⟨q, rfl, hL, hq, hb4⟩
  have hB3 : ∀ k, w.heap.size ≤ k → k < w3.heap.size → k < w2.heap.size → ¬ B3 k := fun k hk _ h3 hb => by
    rcases k2.fr _ hb with hb | hb
    · exact hnB _ hk hb
    · omega
  have hqB : ¬ B3 q := fun hb => by have := k1.lt q hb; omega
  replace B0 := B0.below hb4
  replace B1 := B1.below hb4
  replace k1 := k1.below hb4
  replace ht := ht.below hb4
  generalize hf : newF d1.now h.first = f at *
  have c0 := (B0.2 0 _ rfl).1
  have c1 := (B0.2 1 _ rfl).1
  have c2 := (B0.2 2 _ rfl).1
  have f1 := (B0.2 1 _ rfl).2
  have z0 := B0.1
  clear hnl1
  go_wp2_with fail
  replace B0 := B0.set 1 (.int .i64 (f : Int))
  replace B1 := B1.other (b' := w.heap.size) (by omega) 1 (.int .i64 (f : Int))
  replace k1 := k1.set_out (hB3 w.heap.size (Nat.le_refl _) (by omega) (by omega)) 1 (.int .i64 (f : Int))
  replace ht := ht.set_new (Nat.le_refl _) 1 (.int .i64 (f : Int))
  have hL2 : LgAt (w4.setCell ⟨w.heap.size, 1, none⟩ (.int .i64 (f : Int))) q p ⟨102, d1.now.length - 102, f, 0⟩ := (Below.heap_setCell _ _ _ _ (fun e => by dsimp only at e; omega)).trans hL
  simp only [List.set_cons_zero, List.set_cons_succ] at B0
  generalize hV2 : w4.setCell ⟨w.heap.size, 1, none⟩ (.int .i64 (f : Int)) = V2 at *
  have hV2z : w3.heap.size ≤ V2.heap.size := by rw [← hV2]; simpa using hb4.size
  have htx := text_any hF' V2 hFok
  have hst : (strOf (headL hF')).size = 19 := by rw [str_size, headL_len]
  have hcm2 := chunks_many (strOf (headL hF'))
  have hw2 := fun W hW => wtext_any B3 p d1 0 (strOf (headL hF')) W hW (by rw [hwr1]; simp) (by omega) (by omega) (by omega)
  rw [show ((0 : Nat) : Int) = 0 from rfl] at hw2
  change ∀ W, _ → Calls _ _ _ W (fun e w' => ∃ B', e = .returned (errV (lgW d1 0 (chunks (strOf (headL hF')))).2) ∧ DkO w' B' p (lgW d1 0 (chunks (strOf (headL hF')))).1 ∧ Tr B3 B' W w') at hw2
  rw [← HC2.out] at hw2
  have hFv : hdV hF' = .agg #[.int .i64 (h.half : Int), .int .i64 (f : Int), .int .i64 ((joinL rows).length : Int)] := by rw [hFe]
  rw [hFv] at htx
  generalize strOf (headL hF') = T2 at *
  generalize hd2 : (lay2 d h rows).1 = d2 at *
  have HD2 : Hid ((lay2 d h rows).1 = d2) := hd2
  generalize hc2 : (lay2 d h rows).2 = C2 at *
  have HCC : Hid ((lay2 d h rows).2 = C2) := hc2
  clear hd2 hc2
  clear hV2 hL c0 c1 c2 f1 z0 hFok HC2
  refine htx.mono ?_
  rintro e w5 ⟨rfl, hb5⟩
  replace B0 := B0.below hb5
  replace B1 := B1.below hb5
  replace k1 := k1.below hb5
  replace ht := ht.below hb5
  replace hL2 := hL2.below hb5
  have hw2' := hw2 _ k1
  clear hw2 htx
  rw [hC2, errV_zero] at hw2'
  go_wp2_with fail
  refine hw2'.mono ?_
  rintro e w6 ⟨B6, rfl, g1, g2⟩
  have hzB := B1.1
  have hz0 := B0.1
  obtain ⟨hL6, hq6⟩ := hL2.tr g2 hqB
  replace B0 := B0.tr g2 (hB3 _ (by omega) (by omega) (by omega))
  replace B1 := B1.tr g2 (hB3 _ (by omega) (by omega) (by omega))
  obtain ⟨y0, y1, y2⟩ := B1.three
  obtain ⟨x0, x1, x2⟩ := B0.three
  have f0 := (B1.2 0 _ rfl).2
  have f1 := (B1.2 1 _ rfl).2
  have f2 := (B1.2 2 _ rfl).2
  have hzz := B1.1
  replace ht := ht.trans g2
  clear hw2'
  go_wp2_with fail
  have hnb : ¬ B6 (w.heap.size + 1) := fun hb => by
    rcases g2.fr _ hb with hb | hb
    · exact hB3 _ (by omega) (by omega) (by omega) hb
    · omega
  obtain ⟨q0, q1, q2⟩ := (B1.put3 (.int .i64 (h.half : Int)) (.int .i64 (f : Int)) (.int .i64 ((joinL rows).length : Int))).three
  have hLz : LgAt (((w6.setCell ⟨w.heap.size + 1, 0, none⟩ (.int .i64 (h.half : Int))).setCell ⟨w.heap.size + 1, 1, none⟩ (.int .i64 (f : Int))).setCell ⟨w.heap.size + 1, 2, none⟩ (.int .i64 ((joinL rows).length : Int))) q p ⟨102, d1.now.length - 102, f, 0⟩ :=
    (Below.heap_setCell _ _ _ _ (fun e => by dsimp only at e; omega)).trans ((Below.heap_setCell _ _ _ _ (fun e => by dsimp only at e; omega)).trans ((Below.heap_setCell _ _ _ _ (fun e => by dsimp only at e; omega)).trans hL6))
  refine bodyPost_ret (v := .tuple #[.agg #[.int .i64 (h.half : Int), .int .i64 (f : Int), .int .i64 ((joinL rows).length : Int)], .pointer (some ⟨q, 0, none⟩), .nilIface]) (by simp [results, Tryd.results31, go_sem, q0, q1, q2]) rfl ⟨B6, q, by rw [hFv], by rw [HD2.out]; exact g1.set3 hnb _ _ _, ?_, hq6, by omega, ht.set3 (by omega) _ _ _⟩
  rw [hFe, ← hnl]
  exact hLz
end Go.Proofs.YtikkakdeapbioaaDoor
