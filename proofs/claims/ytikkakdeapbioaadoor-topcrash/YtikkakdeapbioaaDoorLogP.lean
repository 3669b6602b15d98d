/- Package log: Open, Add, as the landed code has it. -/
import Derived.Test.YtikkakdeapbioaaDoorLogO
set_option linter.unusedVariables false
set_option linter.unusedSimpArgs false
set_option linter.unnecessarySimpa false
namespace Go.Proofs.YtikkakdeapbioaaDoor
open Go.RowKit

/-- the log's sectors -/
def secsOf (d : Dk) (lg : Lg) : List (List UInt8) := (d.now.drop lg.frm).take lg.many
def logOf (d : Dk) (lg : Lg) : Lst := lgOf lg.first (secsOf d lg)
set_option maxHeartbeats 4000000 in
set_option maxRecDepth 100000 in
theorem lopen_no (B : Nat → Prop) (p : Nat) (d : Dk) (frm many first : Int) (w : World) (h : DkO w B p d) (hno : ¬ (0 ≤ frm ∧ 1 ≤ many ∧ 1 ≤ first ∧ many ≤ (d.now.length : Int) - frm)) (hhi : frm ≤ 9223372036854775807) :
    Calls Tryd.prog 47 #[.pointer (some ⟨p, 0, none⟩), .int .i64 frm, .int .i64 many, .int .i64 first] w fun e w' => e = .returned (.tuple #[.pointer none, .slice none 0 0, .iface 63 (.int .i64 1)]) ∧ w' = w := by
  have hm := h.ok.most
  have hcon := sectors_o B p d w h
  by_cases h1 : frm < 0
  · have d1 : decide (frm < 0) = true := decide_eq_true h1
    go_enter Tryd.func47, Tryd.ntmps47
    go_wp2_with fail
    refine bodyPost_ret (v := .tuple #[.pointer none, .slice none 0 0, .iface 63 (.int .i64 1)]) (by simp [results, Tryd.results47, go_sem]) rfl ⟨rfl, rfl⟩
  have d1 : decide (frm < 0) = false := decide_eq_false h1
  by_cases h2 : many < 1
  · have d2 : decide (many < 1) = true := decide_eq_true h2
    go_enter Tryd.func47, Tryd.ntmps47
    go_wp2_with fail
    refine bodyPost_ret (v := .tuple #[.pointer none, .slice none 0 0, .iface 63 (.int .i64 1)]) (by simp [results, Tryd.results47, go_sem]) rfl ⟨rfl, rfl⟩
  have d2 : decide (many < 1) = false := decide_eq_false h2
  by_cases h3 : first < 1
  · have d3 : decide (first < 1) = true := decide_eq_true h3
    go_enter Tryd.func47, Tryd.ntmps47
    go_wp2_with fail
    refine bodyPost_ret (v := .tuple #[.pointer none, .slice none 0 0, .iface 63 (.int .i64 1)]) (by simp [results, Tryd.results47, go_sem]) rfl ⟨rfl, rfl⟩
  have d3 : decide (first < 1) = false := decide_eq_false h3
  have h4 : (d.now.length : Int) - frm < many := by omega
  have d4 : decide ((d.now.length : Int) - frm < many) = true := decide_eq_true h4
  go_enter Tryd.func47, Tryd.ntmps47
  go_wp2_with fail
  refine hcon.mono ?_
  rintro e w1 ⟨rfl, rfl⟩
  go_wp2_with fail
  refine bodyPost_ret (v := .tuple #[.pointer none, .slice none 0 0, .iface 63 (.int .i64 1)]) (by simp [results, Tryd.results47, go_sem]) rfl ⟨rfl, rfl⟩
set_option maxHeartbeats 4000000 in
set_option maxRecDepth 100000 in
theorem lopen_any (B : Nat → Prop) (p : Nat) (d : Dk) (frm many first : Nat) (w : World) (h : DkO w B p d) (hdn : d.down = false) (hm1 : 1 ≤ many) (hf1 : 1 ≤ first) (hfm : frm + many ≤ d.now.length) (hf2 : first ≤ 1000000000000) :
    Calls Tryd.prog 47 #[.pointer (some ⟨p, 0, none⟩), .int .i64 (frm : Int), .int .i64 (many : Int), .int .i64 (first : Int)] w fun e w' => ∃ q a c, e = .returned (.tuple #[.pointer (some ⟨q, 0, none⟩), .slice a (lgOf first ((d.now.drop frm).take many)).deeds.length c, .nilIface]) ∧
      LgAt w' q p ⟨frm, many, first, (lgOf first ((d.now.drop frm).take many)).used⟩ ∧ DdsB (fun k => k < w.heap.size + 1) w' a (lgOf first ((d.now.drop frm).take many)).deeds ∧ q = w.heap.size ∧ Below w.heap.size w w' := by
  have hm := h.ok.most
  have hcon := sectors_o B p d w h
  have bl := (Below.refl w.heap.size w).alloc (Nat.le_refl _) (.cells (lgCells p ⟨frm, many, first, 0⟩) 110)
  have hL : LgAt (w.alloc (.cells (lgCells p ⟨frm, many, first, 0⟩) 110)) w.heap.size p ⟨frm, many, first, 0⟩ := heap_alloc_last w _
  have hnq : ¬ B w.heap.size := fun e => by have := h.lt _ e; omega
  have hrd := lread_any B p w.heap.size d ⟨frm, many, first, 0⟩ _ (h.below bl) hL hnq hdn hfm hf2
  dsimp only [lgCells] at hrd bl
  rw [sz_alloc] at hrd
  have d1 : decide ((frm : Int) < 0) = false := decide_eq_false (by omega)
  have d2 : decide ((many : Int) < 1) = false := decide_eq_false (by omega)
  have d3 : decide ((first : Int) < 1) = false := decide_eq_false (by omega)
  have d4 : decide ((d.now.length : Int) - (frm : Int) < (many : Int)) = false := decide_eq_false (by omega)
  have h4 : ¬ (d.now.length : Int) - (frm : Int) < (many : Int) := by omega
  generalize lgOf first ((d.now.drop frm).take many) = R at *
  clear hL
  go_enter Tryd.func47, Tryd.ntmps47
  go_wp2_with fail
  refine hcon.mono ?_
  rintro e w1 ⟨rfl, rfl⟩
  clear hcon
  go_wp2_with fail
  refine hrd.mono ?_
  rintro e w2 ⟨a, c, rfl, hD, hL2, hT⟩
  have bl2 : Below w1.heap.size w1 w2 := bl.trans (hT.to_below (fun k hk => by unfold On at hk; omega) bl.size)
  clear hrd
  go_wp2_with fail
  refine bodyPost_ret (v := .tuple #[.pointer (some ⟨w1.heap.size, 0, none⟩), .slice a R.deeds.length c, .nilIface]) (by simp [results, Tryd.results47, go_sem]) rfl ⟨_, a, c, rfl, hL2, hD, rfl, bl2⟩
theorem lwrs_wr (ss : List ByteArray) : ∀ (d : Dk) (at_ : Nat), (lwrs d at_ ss).1.wr.length ≤ d.wr.length + ss.length := by
  induction ss with
  | nil => intro d at_; simp [lwrs]
  | cons s r ih =>
    intro d at_
    have h1 := wr_wr_len d at_ s
    unfold lwrs
    split
    · have h2 := ih (wrR d at_ s) (at_ + 1)
      simp only [List.length_cons]; omega
    · simp only [List.length_cons]; omega
theorem lgW_wr (d : Dk) (at_ : Nat) (ss : List ByteArray) : (lgW d at_ ss).1.wr.length ≤ d.wr.length + ss.length := by
  have h1 := lwrs_wr ss d at_
  unfold lgW
  split
  · dsimp only
    unfold flR
    split
    · rw [(step_now _).2.2]; exact h1
    · simp
  · exact h1
theorem made_strs (n : Nat) : madeCells #[.string ⟨#[]⟩] n = (strV (List.replicate n [])).toArray := by
  have h := made_rep 1 n (.string ⟨#[]⟩) (by decide)
  simp only [strV, List.map_replicate]
  exact h
theorem exec_makeStrs (ρ : Operand → Value) (o : Oper) (x : Operand) (n : Nat) (hn : n ≤ 100000) (w : World) (ho : o.op = .makeSlice 111 x x) (hx : ρ x = .int .i64 (n : Int)) : (execOp ρ o).run Tryd.prog w = .ok (.value (.slice (some ⟨w.heap.size, 0, none⟩) n n)) (w.alloc (.cells (strV (List.replicate n [])).toArray 9)) := by
  have hI := infoSt
  cases hq : Tryd.prog.info? 9 with
  | none => simp [hq] at hI
  | some inf =>
    obtain ⟨h1, h2, h3⟩ : inf.zero = some (.string ⟨#[]⟩) ∧ inf.size = 1 ∧ inf.bytes = 16 := by simpa [hq] using hI
    have hr := run_make w 111 9 inf _ Tryd.underlying111 hq h1 .i64 .i64 (n : Int) (n : Int) (by omega) (Int.le_refl _) (by rw [h3]; omega) (by omega)
    simp only [Int.toNat_natCast, h2, Value.cells, Nat.mul_one, made_strs] at hr
    unfold execOp
    simp only [ho, hx, Sem.run_bind, hr, Result.andThen_ok, Sem.run_pure]
theorem noughts_at (w : World) (n : Nat) (B : Nat → Prop) (hB : Lt B w) : StrsB B (w.alloc (.cells (strV (List.replicate n [])).toArray 9)) (some ⟨w.heap.size, 0, none⟩) (List.replicate n ⟨#[]⟩) := by
  refine .inr ⟨w.heap.size, 0, rfl, by simp, fun e => by have := hB _ e; omega, fun j s hs => ?_⟩
  obtain ⟨hj, rfl⟩ := List.getElem?_eq_some_iff.1 hs
  simp only [List.length_replicate] at hj
  refine ⟨?_, by rw [List.getElem_replicate]; exact Nat.zero_le _⟩
  rw [cell_of_row _ w.heap.size _ _ _ _ (heap_alloc_last w _)]
  simp [strV, hj]
  rfl
set_option maxHeartbeats 4000000 in
set_option maxRecDepth 100000 in
theorem ladd_any (B : Nat → Prop) (p q : Nat) (d : Dk) (lg : Lg) (a : Option Addr) (c : Nat) (l : List Ch) (w : World) (h : DkO w B p d) (hq : LgAt w q p lg) (hnq : ¬ B q) (hl : ChsB B w a l) (hlm : l.length ≤ maxLen) (hu : lg.used ≤ lg.many) (hm : lg.many ≤ 1000) (hfr : lg.frm ≤ 1000) (hf : lg.first ≤ 1000000000000) (hw : d.wr.length ≤ 50000) :
    Calls Tryd.prog 34 #[.pointer (some ⟨q, 0, none⟩), .slice a l.length c] w fun e w' => e = .returned (errV (addR d lg l).2.2) ∧ ∃ B', DkO w' B' p (addR d lg l).1 ∧ LgAt w' q p (addR d lg l).2.1 ∧ ¬ B' q ∧ Tr (Un B (On q)) (Un B' (On q)) w w' := by
  have HA : Hid (addR d lg l = addR d lg l) := rfl
  unfold maxLen at hlm
  by_cases h62 : 62 < l.length
  · have HR : Hid (addR d lg l = (d, lg, 2)) := by show _ = _; unfold addR; rw [if_pos h62]
    have d1 : decide ((62 : Int) < (l.length : Int)) = true := decide_eq_true (by omega)
    go_enter Tryd.func34, Tryd.ntmps34
    go_wp2_with fail
    go_ret
    exact ⟨by rw [HR.out]; rfl, B, by rw [HR.out]; exact h, by rw [HR.out]; exact hq, hnq, Tr.refl _ _⟩
  have d1 : decide ((62 : Int) < (l.length : Int)) = false := decide_eq_false (by omega)
  have hrm := room_any p q lg w hq (by omega) (by omega)
  by_cases hro : lg.many - lg.used < l.length + 1
  · have HR : Hid (addR d lg l = (d, lg, 9)) := by show _ = _; unfold addR; rw [if_neg h62, if_pos hro]
    have h2 : (lg.many : Int) - (lg.used : Int) < (l.length : Int) + 1 := by omega
    go_enter Tryd.func34, Tryd.ntmps34
    go_wp2_with fail
    refine hrm.mono ?_
    rintro e w1 ⟨rfl, hb1⟩
    go_wp2_with fail
    go_ret
    exact ⟨by rw [HR.out]; rfl, B, by rw [HR.out]; exact h.below hb1, by rw [HR.out]; exact hq.below hb1, hnq, Tr.of_below hb1⟩
  have h2 : ¬ (lg.many : Int) - (lg.used : Int) < (l.length : Int) + 1 := by omega
  by_cases hck : chksC l = 0
  rotate_left
  · have HR : Hid (addR d lg l = (d, lg, chksC l)) := by show _ = _; unfold addR; rw [if_neg h62, if_neg hro, if_pos hck]
    have HK : Hid (¬ chksC l = 0) := hck
    go_enter Tryd.func34, Tryd.ntmps34
    go_wp2_with fail
    refine hrm.mono ?_
    rintro e w1 ⟨rfl, hb1⟩
    clear hrm
    have hsc := lsectors_any p q lg a c l w1 (hq.below hb1) (hl.at_.below hb1) (by omega) hf (by omega)
    clear hck
    go_wp2_with fail
    refine hsc.mono ?_
    rintro e w2 ⟨hb2, hor⟩
    clear hsc
    rcases hor with ⟨h0, -⟩ | ⟨-, rfl⟩
    · exact absurd h0 HK.out
    have hev : errV (chksC l) = .iface 63 (.int .i64 (chksC l)) := errV_pos HK.out
    rw [hev]
    have HEV : Hid (errV (chksC l) = .iface 63 (.int .i64 (chksC l))) := hev
    clear hev
    generalize chksC l = cl at *
    have bl2 := Below_after hb1 hb2
    go_wp2_with fail
    go_ret
    exact ⟨by rw [HR.out]; exact congrArg _ HEV.out.symm, B, by rw [HR.out]; exact h.below bl2, by rw [HR.out]; exact hq.below bl2, hnq, Tr.of_below bl2⟩
  have HAD : Hid (addR d lg l = (let x := lgW d (lg.frm + lg.used) (List.replicate (addN lg l) ⟨#[]⟩)
    if x.2 ≠ 0 then (x.1, lg, x.2)
    else
      let y := lgW x.1 (lg.frm + lg.used) (deedS (lg.first + lg.used) l)
      if y.2 ≠ 0 then (y.1, lg, y.2) else (y.1, ⟨lg.frm, lg.many, lg.first, lg.used + (l.length + 1)⟩, 0))) := by
    show _ = _
    unfold addR
    rw [if_neg h62, if_neg hro, if_neg (by rw [hck]; decide)]
  have HK : Hid (chksC l = 0) := hck
  have hdl : (deedS (lg.first + lg.used) l).length = l.length + 1 := by unfold deedS; rw [List.length_map, deedL_len]
  have hAN : ((addN lg l : Nat) : Int) = min ((l.length : Int) + 1 + 1) ((lg.many : Int) - (lg.used : Int)) := by unfold addN; omega
  have hANl : addN lg l ≤ 1000 := by unfold addN; omega
  clear HA hck
  generalize addN lg l = AN at *
  go_enter Tryd.func34, Tryd.ntmps34
  go_wp2_with fail
  refine hrm.mono ?_
  rintro e w1 ⟨rfl, hb1⟩
  clear hrm
  have hsc := lsectors_any p q lg a c l w1 (hq.below hb1) (hl.at_.below hb1) (by omega) hf (by omega)
  rw [hdl] at hsc
  go_wp2_with fail
  refine hsc.mono ?_
  rintro e w2 ⟨hb2, hor⟩
  clear hsc
  rcases hor with ⟨-, a', c', rfl, hS⟩ | ⟨h0, -⟩
  rotate_left
  · exact absurd HK.out h0
  have bl2 := Below_after hb1 hb2
  have hrm := room_any p q lg w2 (hq.below bl2) (by omega) (by omega)
  go_wp2_with fail
  refine hrm.mono ?_
  rintro e w3 ⟨rfl, hb3⟩
  clear hrm
  have bl3 := Below_after bl2 hb3
  have hS3 : StrsB B (w3.alloc (.cells (strV (List.replicate AN [])).toArray 9)) (some ⟨w3.heap.size, 0, none⟩) (List.replicate AN ⟨#[]⟩) := noughts_at w3 AN B (h.below bl3).lt
  have bl4 := bl3.alloc bl3.size (.cells (strV (List.replicate AN [])).toArray 9)
  have hSd : StrsB B w2 a' (deedS (lg.first + lg.used) l) := by
    rcases hS with hS | ⟨b, o, h1, h2, h3, h4⟩
    · exact .inl hS
    · exact .inr ⟨b, o, h1, h2, fun e => h3 (Nat.lt_of_lt_of_le (h.lt b e) hb1.size), h4⟩
  have hSd4 : StrsB B (w3.alloc (.cells (strV (List.replicate AN [])).toArray 9)) a' (deedS (lg.first + lg.used) l) := hSd.tr (Tr.of_below (Below_after hb3 ((Below.refl _ _).alloc (Nat.le_refl _) _)))
  have hw1 := lwrite_any B p q d lg (some ⟨w3.heap.size, 0, none⟩) AN (List.replicate AN ⟨#[]⟩) _ (h.below bl4) (hq.below bl4) hnq hS3 (by rw [List.length_replicate]; exact hANl) (by omega) (by omega) (by omega)
  rw [List.length_replicate] at hw1
  have hwl1 := lgW_wr d (lg.frm + lg.used) (List.replicate AN ⟨#[]⟩)
  rw [List.length_replicate] at hwl1
  clear hS hSd hS3
  have HAD2 := HAD.out
  (try dsimp only at HAD2)
  clear HAD
  have hh4 := h.below bl4
  have hq4 := hq.below bl4
  by_cases hmin : (l.length : Int) + 1 + 1 ≤ (lg.many : Int) - (lg.used : Int)
  all_goals
    generalize hX : lgW d (lg.frm + lg.used) (List.replicate AN ⟨#[]⟩) = X at *
    go_wp2_with (refine wpList_run (by rfl) (exec_makeStrs _ _ (.tmp 35) AN (by omega) _ (by rfl) (by first | rfl | (show Value.int .i64 _ = Value.int .i64 _; congr 1; omega))) ?_)
    refine hw1.mono ?_
    rintro e w5 ⟨B5, rfl, hD5, hT5⟩
    clear hw1
    by_cases hx0 : X.2 = 0
    · rw [hx0, errV_zero]
      rw [if_neg (by rw [hx0]; decide)] at HAD2
      obtain ⟨hq5, hnq5⟩ := hq4.tr hT5 hnq
      have hSd5 := hSd4.tr hT5
      have hw2 := lwrite_any B5 p q X.1 lg a' c' (deedS (lg.first + lg.used) l) w5 hD5 hq5 hnq5 hSd5 (by rw [hdl]; omega) (by omega) (by omega) (by omega)
      rw [hdl] at hw2
      clear hx0 hX
      generalize hY : lgW X.1 (lg.frm + lg.used) (deedS (lg.first + lg.used) l) = Y at *
      clear hY
      go_wp2_with fail
      refine hw2.mono ?_
      rintro e w6 ⟨B6, rfl, hD6, hT6⟩
      clear hw2
      obtain ⟨hq6, hnq6⟩ := hq5.tr hT6 hnq5
      have hTT : Tr B B6 w w6 := ((Tr.of_below bl4).trans hT5).trans hT6
      by_cases hy0 : Y.2 = 0
      · rw [hy0, errV_zero]
        rw [if_neg (by rw [hy0]; decide)] at HAD2
        have HR : Hid (addR d lg l = _) := HAD2
        obtain ⟨-, -, -, -, e4⟩ := hq6.cells
        have f4 := hq6.free 4
        have hql := heap_lt hq6
        have hL := hq6.set (lg.used + (l.length + 1))
        rw [show ((lg.used + (l.length + 1) : Nat) : Int) = (lg.used : Int) + ((l.length : Int) + 1) by omega] at hL
        have hDn : DkO (w6.setCell ⟨q, 4, none⟩ (.int .i64 ((lg.used : Int) + ((l.length : Int) + 1)))) B6 p Y.1 := hD6.same (fun k hk => Below.heap_setCell _ _ _ _ (fun e => hnq6 (by dsimp only at e; exact e ▸ hk)))
        have hTn : Tr (Un B (On q)) (Un B6 (On q)) w (w6.setCell ⟨q, 4, none⟩ (.int .i64 ((lg.used : Int) + ((l.length : Int) + 1)))) := (hTT.frame (On q)).trans (Tr.setCell w6 (.inr rfl) _ _)
        clear HAD2 hy0 hT6 hT5 hD6 hq6 hTT hq5 hD5 hSd5 hSd4 hq4 hh4
        go_wp2_with fail
        go_ret
        exact ⟨by rw [HR.out]; rfl, B6, by rw [HR.out]; exact hDn, by rw [HR.out]; exact hL, hnq6, hTn⟩
      · rw [if_pos hy0] at HAD2
        have HR : Hid (addR d lg l = _) := HAD2
        rw [errV_pos hy0]
        have HY : Hid (¬ Y.2 = 0) := hy0
        clear HAD2 hy0
        go_wp2_with fail
        go_ret
        exact ⟨by rw [HR.out]; exact congrArg _ (errV_pos HY.out).symm, B6, by rw [HR.out]; exact hD6, by rw [HR.out]; exact hq6, hnq6, hTT.frame _⟩
    · rw [if_pos hx0] at HAD2
      have HR : Hid (addR d lg l = _) := HAD2
      obtain ⟨hq5, hnq5⟩ := hq4.tr hT5 hnq
      rw [errV_pos hx0]
      have HX : Hid (¬ X.2 = 0) := hx0
      clear HAD2 hx0 hX
      go_wp2_with fail
      go_ret
      exact ⟨by rw [HR.out]; exact congrArg _ (errV_pos HX.out).symm, B5, by rw [HR.out]; exact hD5, by rw [HR.out]; exact hq5, hnq5, ((Tr.of_below bl4).trans hT5).frame _⟩
end Go.Proofs.YtikkakdeapbioaaDoor
