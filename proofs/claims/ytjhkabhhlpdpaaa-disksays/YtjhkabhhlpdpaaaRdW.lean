/- The document's own disk (writkeepref.Disk): Flush, Write walked. -/
import Derived.Test.YtjhkabhhlpdpaaaRdD
set_option linter.unusedVariables false
set_option linter.unusedSimpArgs false
set_option linter.unnecessarySimpa false
namespace Go.Proofs.Ytjhkabhhlpdpaaa
open Go.RowKit

theorem Tr.re {B C C' : Nat → Prop} {w w' : World} (h : Tr B C w w') (hc : ∀ k, C' k → B k ∨ w.heap.size ≤ k) : Tr B C' w w' := ⟨h.os, h.tape, h.output, h.size, h.block, hc⟩
/-- a copy of strings -/
theorem run_cpyS {w : World} {base : Nat} {v : Value} {l : List (List UInt8)} (h : w.ownsRow base 9 1 v l.length (strV l)) (hl : l.length ≤ 100000) (ty : TypeId) :
    ∃ v' w', (Builtin.append_ #[49, 49] ty #[.slice none 0 0, v]).run Try.prog w = .ok v' w' ∧ w'.ownsRow w.heap.size 9 1 v' l.length (strV l) ∧ Below w.heap.size w w' := by
  have hI := infoSt
  cases hq : Try.prog.info? 9 with
  | none => simp [hq] at hI
  | some inf =>
    obtain ⟨h1, h2, h3⟩ : inf.zero = some (.string ⟨#[]⟩) ∧ inf.size = 1 ∧ inf.bytes = 16 := by simpa [hq] using hI
    rcases h.2 with ⟨rfl, h0⟩ | ⟨g, cap, cur, rfl, -, hg, -⟩
    · have hl0 : l = [] := List.length_eq_zero_iff.1 h0
      subst hl0
      refine ⟨.slice none 0 0, w, ?_, World.ownsRow_nil _ _ _ _, Below.refl _ _⟩
      simp [Builtin.append_, run_underlying Try.underlying49, sizeOf, typeInfo, hq, Builtin.lenOf, Builtin.firstCells, loadCells, loadCellsFrom]
    · obtain ⟨v', w', r1, r2, r3, -, r5⟩ := run_append_own_at (P := Try.prog) w w.heap.size 49 ty 9 inf (.string ⟨#[]⟩) 1 16 Try.underlying49 hq h1 h2 h3 rfl (by decide) (.slice none 0 0) 0 [] (World.ownsRow_nil _ _ _ _) ⟨g, 0, none⟩ l.length cap (strV l) (by simp [strV]) (fun j u hu => by rw [Addr.add_mid, Nat.zero_add]; exact own_at h rfl hu) (by intro u hu; simp only [strV, List.mem_map] at hu; obtain ⟨x, -, rfl⟩ := hu; rfl) (by simp [maxLen]; omega) (by omega) (Nat.le_refl _)
      rw [Nat.zero_add, List.nil_append] at r2
      exact ⟨v', w', r1, r2, r3.os, r3.tape, r3.output, r3.size, fun k hk => r3.block k hk (by simp [Value.ownBlock])⟩
theorem stepR_up {d : Dk} (h : stepDn d = false) : (stepR d).down = false := by unfold stepR; rw [h]; rfl
theorem own0 {w : World} {base : Nat} {e : TypeId} {size : Nat} {v : Value} {n : Nat} {xs : List Value} (h : w.ownsRow base e size v n xs) : w.ownsRow 0 e size v n xs := ownsRow_mono h (Nat.zero_le _)
theorem own_past {w w' : World} {base : Nat} {e : TypeId} {size : Nat} {v : Value} {n : Nat} {xs : List Value} (h : w.ownsRow base e size v n xs) (hb : Below w.heap.size w w') : w'.ownsRow base e size v n xs := own_keep h (fun k hk => hb.block k (h.lt k hk).2)
set_option maxHeartbeats 1000000 in
set_option maxRecDepth 100000 in
theorem rflush_any (B : Nat → Prop) (m : Nat) (d : Dk) (fu : Int) (w : World) (h : RdO w B m d fu) :
    Calls Try.prog 19 #[.pointer (some ⟨m, 0, none⟩)] w fun e w' => e = .returned (.int .i64 (flC d)) ∧ ∃ B' fu', RdO w' B' m (flR d) fu' ∧ Tr B B' w w' := by
  have hst := rstep_any B m d fu w h
  cases hs : stepDn d
  · have HC : Hid (flC d = 0) := by show _ = _; unfold flC; rw [hs]; rfl
    have HR : Hid (flR d = ⟨d.now, d.now, [], (stepR d).left, false⟩) := by show _ = _; unfold flR; rw [hs]; rfl
    have HL := stepR_up hs
    have HLh : Hid ((stepR d).down = false) := HL
    rw [show stC d = 0 by unfold stC; rw [hs]; rfl] at hst
    clear HL
    go_enter Try.func19, Try.ntmps19
    go_wp2_with fail
    refine hst.mono ?_
    rintro e w1 ⟨rfl, ⟨fu1, vk, vn, vw, hA, rfl⟩, hT⟩
    clear hst
    obtain ⟨hn1, hk1, hw1⟩ := step_now d
    obtain ⟨c0, c1, c2, c3, c4⟩ := hA.cells
    have hnow := hA.hn
    rw [hn1] at hnow
    have hml : d.now.length ≤ 200 := h.ok.most
    obtain ⟨v2, w2, r1, r2, r3⟩ := run_cpyS hnow (by omega) 49
    have hA2 := hA.below r3
    obtain ⟨b0, b1, b2, b3, b4⟩ := hA2.cells
    have f0 := hA2.free 0
    have f2 := hA2.free 2
    have hlt := heap_lt hA2.hp
    have hnow2 := own_past hnow r3
    have hdis : Dist v2 vn := fun k hk hk' => by have := (r2.lt k hk).1; have := (hnow.lt k hk').2; omega
    have hfr := hA2.fr.resolve_left (by rw [HLh.out]; decide)
    have hok := h.ok
    have hX : RdC (w2.setCell ⟨m, 0, none⟩ v2) m v2 vn vw ⟨d.now, d.now, d.wr, (stepR d).left, false⟩ fu1 := hA2.put 0 v2 (by rw [HLh.out]; rfl) (own0 r2) hnow2 (by have := hA2.hw; rw [hw1] at this; exact this) hdis ⟨rfl, hok.pos, hok.most, hok.nows, hok.nows, hok.wrs, hA2.ok.lo, hA2.ok.hi⟩ hA2.lo hA2.hi (.inr hfr)
    have hY : RdC ((w2.setCell ⟨m, 0, none⟩ v2).setCell ⟨m, 2, none⟩ (.slice none 0 0)) m v2 vn (.slice none 0 0) ⟨d.now, d.now, [], (stepR d).left, false⟩ fu1 := hX.put 2 _ rfl hX.hk hX.hn (World.ownsRow_nil _ _ _ _) hdis ⟨rfl, hok.pos, hok.most, hok.nows, hok.nows, (fun x hx => by simp at hx), hA2.ok.lo, hA2.ok.hi⟩ hX.lo hX.hi (.inr hfr)
    have hTT : Tr (rdF m vk vn vw) (rdF m v2 vn (.slice none 0 0)) w ((w2.setCell ⟨m, 0, none⟩ v2).setCell ⟨m, 2, none⟩ (.slice none 0 0)) := by
      refine Tr.re (((hT.below r3).trans (Tr.setCell _ (.inl rfl) 0 v2)).trans (Tr.setCell _ (.inl rfl) 2 _)) (fun k hk => ?_)
      rcases hk with hk | hk | hk | hk
      · exact hT.fr k (.inl hk)
      · exact .inr (Nat.le_trans hT.size (r2.lt k hk).1)
      · exact hT.fr k (.inr (.inr (.inl hk)))
      · cases hk
    have HY : Hid _ := hY
    obtain ⟨av2, cv2, hv2⟩ := own_form r2
    subst hv2
    clear hX hY hfr hdis hnow2 hA2 r2 r3 hA c0 c2 c3 c4 b1 b3 b4 hnow h hok hn1 hk1 hw1
    go_wp2_with (refine wpList_run (by rfl) (exec_append _ _ (.const (.slice none 0 0)) (.tmp 13) (by rfl) (by rfl) (by rfl) (by rfl) (by rfl) (by rfl) r1) ?_)
    go_ret
    exact ⟨by rw [HC.out]; rfl, _, _, ⟨_, _, _, by rw [HR.out]; exact HY.out, rfl⟩, hTT⟩
  · have HC : Hid (flC d = 10) := by show _ = _; unfold flC; rw [hs]; rfl
    have HR : Hid (flR d = stepR d) := by show _ = _; unfold flR; rw [hs]; rfl
    rw [show stC d = 10 by unfold stC; rw [hs]; rfl] at hst
    go_enter Try.func19, Try.ntmps19
    go_wp2_with fail
    refine hst.mono ?_
    rintro e w1 ⟨rfl, ⟨fu1, hA⟩, hT⟩
    clear hst
    go_wp2_with fail
    go_ret
    exact ⟨by rw [HC.out]; rfl, _, fu1, by rw [HR.out]; exact hA, hT⟩
/-- a write that is let go ahead -/
def woR (d : Dk) (k : Nat) (s : List UInt8) : Dk := if stepDn d then stepR d else wroteR (stepR d) k s
theorem infoTu : (Try.prog.info? 98).map (fun i => (i.zero, i.size, i.bytes)) = some (some (.agg #[.int .i64 0, .string ⟨#[]⟩]), 2, 24) := by kernel_rfl
theorem pad_app (s : ByteArray) : s ++ strOf (zeroL (48 - s.size)) = strOf (padS s) := by
  apply ByteArray.ext
  simp [strOf, padS, zeroL, ByteArray.data_append]
theorem strV_set (l : List (List UInt8)) (k : Nat) (s : List UInt8) : (strV l).set k (.string (strOf s)) = strV (l.set k s) := by simp [strV, List.map_set]
set_option maxHeartbeats 2000000 in
set_option maxRecDepth 100000 in
theorem rwrite_no (B : Nat → Prop) (m : Nat) (d : Dk) (fu : Int) (at_ : Int) (s : ByteArray) (w : World) (h : RdO w B m d fu) (hm : s.size ≤ maxLen) (hno : ¬ (hasB2 d at_ = true ∧ s.size ≤ 48)) :
    Calls Try.prog 15 #[.pointer (some ⟨m, 0, none⟩), .int .i64 at_, .string s] w fun e w' => e = .returned (.int .i64 1) ∧ w' = w := by
  obtain ⟨vk, vn, vw, h, rfl⟩ := h
  obtain ⟨-, c1, -, -, -⟩ := h.cells
  have hlt := heap_lt h.hp
  obtain ⟨a, c, hv⟩ := own_form h.hn
  subst hv
  have hmost := h.ok.most
  unfold maxLen at hm
  by_cases h1 : at_ < 0
  · have d1 : decide (at_ < 0) = true := decide_eq_true h1
    clear h hno
    go_enter Try.func15, Try.ntmps15
    go_wp2_with fail
    go_ret
    exact ⟨rfl, rfl⟩
  have d1 : decide (at_ < 0) = false := decide_eq_false h1
  by_cases h2 : (d.now.length : Int) ≤ at_
  · have d2 : decide ((d.now.length : Int) ≤ at_) = true := decide_eq_true h2
    clear h hno
    go_enter Try.func15, Try.ntmps15
    go_wp2_with fail
    go_ret
    exact ⟨rfl, rfl⟩
  have d2 : decide ((d.now.length : Int) ≤ at_) = false := decide_eq_false h2
  have h3 : 48 < (s.size : Int) := by
    have hh : hasB2 d at_ = true := (hasB2_iff d at_).2 ⟨by omega, by omega⟩
    have : ¬ s.size ≤ 48 := fun e => hno ⟨hh, e⟩
    omega
  have d3 : decide ((48 : Int) < (s.size : Int)) = true := decide_eq_true h3
  clear h hno
  go_enter Try.func15, Try.ntmps15
  go_wp2_with fail
  go_ret
  exact ⟨rfl, rfl⟩
set_option maxHeartbeats 4000000 in
set_option maxRecDepth 100000 in
theorem rwrite_go (B : Nat → Prop) (m : Nat) (d : Dk) (fu : Int) (k : Nat) (s : ByteArray) (w : World) (h : RdO w B m d fu) (hs : s.size ≤ 48) (hk : k < d.now.length) (hwl : d.wr.length ≤ 100000) :
    Calls Try.prog 15 #[.pointer (some ⟨m, 0, none⟩), .int .i64 (k : Int), .string s] w fun e w' => e = .returned (.int .i64 (stC d)) ∧ ∃ B' fu', RdO w' B' m (woR d k (padS s)) fu' ∧ Tr B B' w w' := by
  have hst := fun W (hW : RdO W B m d fu) => rstep_any B m d fu W hW
  have hO := h
  obtain ⟨vk, vn, vw, h, rfl⟩ := h
  obtain ⟨-, c1, -, -, -⟩ := h.cells
  have hlt := heap_lt h.hp
  have hmost := h.ok.most
  obtain ⟨a, c, hv⟩ := own_form h.hn
  rw [hv] at c1
  clear hv
  have d1 : decide ((k : Int) < 0) = false := decide_eq_false (by omega)
  have d2 : decide ((d.now.length : Int) ≤ (k : Int)) = false := decide_eq_false (by omega)
  have d2n : ¬ d.now.length ≤ k := by omega
  have d3 : decide ((48 : Int) < (s.size : Int)) = false := decide_eq_false (by omega)
  have d3n : ¬ 48 < s.size := by omega
  have hokd := h.ok
  cases hsd : stepDn d
  · have HC : Hid (stC d = 0) := by show _ = _; unfold stC; rw [hsd]; rfl
    have hst0 := hst w hO
    rw [HC.out] at hst0
    clear hst
    have HL : Hid ((stepR d).down = false) := stepR_up hsd
    have HR : Hid (woR d k (padS s) = wroteR (stepR d) k (padS s)) := by show _ = _; unfold woR; rw [hsd]; rfl
    clear hsd
    obtain ⟨hn1, hk1, hw1⟩ := step_now d
    clear h hO
    go_enter Try.func15, Try.ntmps15
    go_wp2_with fail
    refine hst0.mono ?_
    rintro e w1 ⟨rfl, ⟨fu1, vk1, vn1, vw1, hA, hF⟩, hT⟩
    clear hst0 c1 hlt
    have hng := noughts_any (48 - s.size) w1 (by omega)
    rw [show ((48 - s.size : Nat) : Int) = 48 - (s.size : Int) by omega] at hng
    go_wp2_with fail
    refine hng.mono ?_
    rintro e w2 ⟨rfl, hb2⟩
    clear hng
    have hA2 := hA.below hb2
    have hT2 := hT.below hb2
    clear hA hT hb2
    have hnow := hA2.hn
    rw [hn1] at hnow
    obtain ⟨g, c1, hv⟩ : ∃ g c, vn1 = .slice (some ⟨g, 0, none⟩) d.now.length c := by
      rcases hnow.2 with ⟨-, h0⟩ | ⟨g, cap, cur, e, -⟩
      · omega
      · exact ⟨g, cap, e⟩
    subst hv
    obtain ⟨e0, e1, e2, e3, e4⟩ := hA2.cells
    have hg := (hnow.lt g rfl).2
    have hgm : g ≠ m := fun e => hA2.nn (by rw [← e]; rfl)
    have hce : w2.cell? ⟨g, k, none⟩ = some (.string (strOf d.now[k])) := own_at hnow rfl (by simp [strV, hk])
    have hfg := hnow.frozenAt k
    have hmz := heap_lt hA2.hp
    have hap := pad_app s
    have hsum : s.size + (strOf (zeroL (48 - s.size))).size ≤ 9223372036854775807 := by rw [str_size]; simp [zeroL]; omega
    have hsum2 : ¬ 9223372036854775807 < s.size + (strOf (zeroL (48 - s.size))).size := by omega
    have hvn := (hnow.stored k (.string (strOf (padS s)))).1
    have hgb := (hnow.stored k (.string (strOf (padS s)))).2
    rw [strV_set] at hvn
    have hsg : ∀ {vv : Value} {e : TypeId} {sz n : Nat} {xs : List Value}, w2.ownsRow 0 e sz vv n xs → vv.ownBlock ≠ some g → (w2.setCell ⟨g, k, none⟩ (.string (strOf (padS s)))).ownsRow 0 e sz vv n xs := fun ho hne => ownsRow_set_other ho hne k _
    have hdw : vw1.ownBlock ≠ some g := own_dist hnow hA2.hw (by decide) g rfl
    have hdk : vk1.ownBlock ≠ some g := fun e => hA2.dkn g e rfl
    have hp3 : (w2.setCell ⟨g, k, none⟩ (.string (strOf (padS s)))).heap[m]? = some (.cells (rcells vk1 (.slice (some ⟨g, 0, none⟩) d.now.length c1) vw1 fu1 (stepR d).down) 52 (0, 0)) := by rw [Below.heap_setCell _ _ _ _ (fun e => hgm (by simpa using e.symm))]; exact hA2.hp
    have hvk := hsg hA2.hk hdk
    have hvw := hsg hA2.hw hdw
    have hT3 : Tr (rdF m vk vn vw) (rdF m vk1 (.slice (some ⟨g, 0, none⟩) d.now.length c1) vw1) w (w2.setCell ⟨g, k, none⟩ (.string (strOf (padS s)))) := by
      rw [← hF]
      refine hT2.trans (Tr.setCell _ ?_ k _)
      rw [hF]; exact .inr (.inr (.inl rfl))
    rw [hw1] at hvw
    rw [hk1] at hvk
    have HFR := hA2.fr.resolve_left (by rw [HL.out]; decide)
    have lo := hA2.lo
    have hi := hA2.hi
    have lo2 := hA2.ok.lo
    have hi2 := hA2.ok.hi
    have hdkn := hA2.dkn
    have hok := hokd
    rw [HL.out] at hp3
    have hpl : (padS s).length = 48 := padS_len hs
    have hokX : DkOk (wroteR (stepR d) k (padS s)) := wrote_ok (step_ok hokd) (by rw [hn1]; exact hk) hpl
    have hWE : wroteR (stepR d) k (padS s) = ⟨d.now.set k (padS s), d.kept, d.wr ++ [(k, padS s)], (stepR d).left, false⟩ := by unfold wroteR; rw [hn1, hk1, hw1, HL.out]
    rw [hWE] at hokX
    have HRX : Hid (woR d k (padS s) = ⟨d.now.set k (padS s), d.kept, d.wr ++ [(k, padS s)], (stepR d).left, false⟩) := HR.out.trans hWE
    have hdkw : Dist vk1 vw1 := own_dist hvk hvw (by decide)
    have hdnw : Dist (.slice (some ⟨g, 0, none⟩) d.now.length c1) vw1 := own_dist hvn hvw (by decide)
    have hz3 : (w2.setCell ⟨g, k, none⟩ (.string (strOf (padS s)))).heap.size = w2.heap.size := by simp
    have hg4 : ((w2.setCell ⟨g, k, none⟩ (.string (strOf (padS s)))).alloc (.cells #[.int .i64 (k : Int), .string (strOf (padS s))] 98)).heap[w2.heap.size]? = some (.cells (tuV (k, padS s)).toArray 98 (0, 0)) := by
      rw [← hz3]; exact heap_alloc_last _ _
    have b34 := (Below.refl (w2.setCell ⟨g, k, none⟩ (.string (strOf (padS s)))).heap.size (w2.setCell ⟨g, k, none⟩ (.string (strOf (padS s))))).alloc (Nat.le_refl _) (.cells #[.int .i64 (k : Int), .string (strOf (padS s))] 98)
    obtain ⟨v5, w5, r1, r2, r3, r5⟩ := run_app 50 98 50 Try.underlying50 infoTu rfl (by decide) (by decide) (hvw.alloc (.cells #[.int .i64 (k : Int), .string (strOf (padS s))] 98)) (by omega) (Nat.zero_le _) (news := tuV (k, padS s)) rfl (tuV_one _) w2.heap.size hg4
    have hp4 := (b34.block m (by rw [hz3]; exact hmz)).trans hp3
    have hp5 := (r3.block m (by rw [sz_alloc, hz3]; omega) (fun e => own_tag hvw hp3 (by decide) e.symm)).trans hp4
    have hk5 := Dist.kept (own_past hvk b34) r3 hdkw
    have hn5 := Dist.kept (own_past hvn b34) r3 hdnw
    have hX := RdC.made hp5 2 v5 (d' := ⟨d.now.set k (padS s), d.kept, d.wr ++ [(k, padS s)], (stepR d).left, false⟩) (vk' := vk1) (vn' := .slice (some ⟨g, 0, none⟩) d.now.length c1) (vw' := v5) (fu' := fu1) rfl hk5 (by rw [List.length_set]; exact hn5) (by rw [List.flatMap_append, List.length_append]; simpa using r2) hdkn hokX lo hi (.inr HFR)
    have hT5 : Tr (rdF m vk vn vw) (rdF m vk1 (.slice (some ⟨g, 0, none⟩) d.now.length c1) v5) w (w5.setCell ⟨m, 2, none⟩ v5) := by
      have t4 := hT3.below b34
      have t5 := t4.trans (Tr.grown r3 (fun k hk => .inr (.inr (.inr hk))))
      refine Tr.re (t5.trans (Tr.setCell _ (.inl rfl) 2 v5)) (fun j hj => ?_)
      rcases hj with hj | hj | hj | hj
      · exact hT3.fr j (.inl hj)
      · exact hT3.fr j (.inr (.inl hj))
      · exact hT3.fr j (.inr (.inr (.inl hj)))
      · rcases r5 with e | e
        · exact hT3.fr j (.inr (.inr (.inr (e ▸ hj))))
        · rw [e] at hj
          have := t4.size
          simp only [Option.some.injEq] at hj
          exact .inr (by omega)
    obtain ⟨aw, cw, hvwf⟩ := own_form hvw
    have HX : Hid _ := hX
    have hm5 := heap_lt hp5
    have hf5 : w5.frozen? ⟨m, 2, none⟩ = false := frozen_of_row w5 m 2 _ _ hp5
    have hc5 : w5.cell? ⟨m, 2, none⟩ = some vw1 := by rw [cell_of_row w5 m _ _ _ _ hp5]; rfl
    subst hvwf
    obtain ⟨av5, cv5, hv5⟩ := own_form r2
    subst hv5
    clear hsg hA2 hT2 hF hnow hvn hvk hvw hT3 hp3 hp4 hp5 hk5 hn5 hX hdkw hdnw r2 r3 r5 b34 hg4 hokX hWE hgb
    go_wp2_with (refine wpList_run (by rfl) (exec_append _ _ (.tmp 46) (.tmp 50) (by rfl) (by rfl) (by rfl) (by rfl) (by rfl) (by rfl) r1) ?_)
    go_ret
    exact ⟨by rw [HC.out]; rfl, _, fu1, ⟨_, _, _, by rw [HRX.out]; exact HX.out, rfl⟩, hT5⟩
  · have HC : Hid (stC d = 10) := by show _ = _; unfold stC; rw [hsd]; rfl
    have HR : Hid (woR d k (padS s) = stepR d) := by show _ = _; unfold woR; rw [hsd]; rfl
    have hst0 := hst w hO
    clear hsd
    rw [HC.out] at hst0
    clear hst h hO
    go_enter Try.func15, Try.ntmps15
    go_wp2_with fail
    refine hst0.mono ?_
    rintro e w1 ⟨rfl, ⟨fu1, hA⟩, hT⟩
    clear hst0
    go_wp2_with fail
    go_ret
    exact ⟨by rw [HC.out]; rfl, _, fu1, by rw [HR.out]; exact hA, hT⟩
theorem rwrite_any (B : Nat → Prop) (m : Nat) (d : Dk) (fu : Int) (at_ : Int) (s : ByteArray) (w : World) (h : RdO w B m d fu) (hm : s.size ≤ maxLen) (hwl : d.wr.length ≤ 100000) :
    Calls Try.prog 15 #[.pointer (some ⟨m, 0, none⟩), .int .i64 at_, .string s] w fun e w' => e = .returned (.int .i64 (wrC d at_ s)) ∧ ∃ B' fu', RdO w' B' m (wrR d at_ s) fu' ∧ Tr B B' w w' := by
  by_cases hok : hasB2 d at_ = true ∧ s.size ≤ 48
  · have h1 := (hasB2_iff d at_).1 hok.1
    obtain ⟨k, rfl⟩ : ∃ k : Nat, at_ = k := ⟨at_.toNat, by omega⟩
    have e1 : wrC d k s = stC d := by unfold wrC stC; rw [if_pos hok]
    have e2 : wrR d k s = woR d k (padS s) := by unfold wrR woR; rw [if_pos hok]; rfl
    rw [e1, e2]
    exact rwrite_go B m d fu k s w h hok.2 (by omega) hwl
  · have e1 : wrC d at_ s = 1 := by unfold wrC; rw [if_neg hok]
    have e2 : wrR d at_ s = d := by unfold wrR; rw [if_neg hok]
    rw [e1, e2]
    refine (rwrite_no B m d fu at_ s w h hm hok).mono ?_
    rintro e w' ⟨rfl, rfl⟩
    exact ⟨rfl, B, fu, h, Tr.refl _ _⟩
end Go.Proofs.Ytjhkabhhlpdpaaa
