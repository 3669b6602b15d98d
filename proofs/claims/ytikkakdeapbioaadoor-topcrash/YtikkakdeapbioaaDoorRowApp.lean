/- row.apply, row.Apply (H3), as the landed code has them. -/
import Derived.Test.YtikkakdeapbioaaDoorRowBs
import Derived.Test.YtikkakdeapbioaaDoorRowIns
set_option linter.unusedSimpArgs false
set_option linter.unnecessarySimpa false
set_option linter.unusedVariables false
namespace Go.Proofs.YtikkakdeapbioaaDoor
open Go.RowKit

theorem grown_bl {w w' : World} (h : Below w.heap.size w w') (row : Option Nat) : w.grownBy w' row := ⟨h.os, h.tape, h.output, h.size, fun k hk _ => h.block k hk⟩
theorem grown_wide {w w' : World} {row row' : Option Nat} (h : w.grownBy w' row') (hr : ∀ k, row' = some k → row = some k ∨ w.heap.size ≤ k) : w.grownBy w' row :=
  ⟨h.os, h.tape, h.output, h.size, fun k hk hne => h.block k hk (fun e => by rcases hr k e.symm with e2 | e2; exact hne e2.symm; omega)⟩
theorem own_pst {w w' : World} {base : Nat} {e : TypeId} {size : Nat} {v : Value} {n : Nat} {xs : List Value} (h : w.ownsRow base e size v n xs) (hb : Below w.heap.size w w') : w'.ownsRow base e size v n xs := own_keep h (fun k hk => hb.block k (h.lt k hk).2)
theorem below_newrow3 {w wr w' : World} {row : Option Nat} (h : Below w.heap.size w wr) (hg : wr.grownBy w' row) (hr : ∀ k, row = some k → w.heap.size ≤ k) : Below w.heap.size w w' :=
  ⟨hg.os.trans h.os, hg.tape.trans h.tape, hg.output.trans h.output, Nat.le_trans h.size hg.size, fun k hk => (hg.block k (Nat.lt_of_lt_of_le hk h.size) (fun e => by have := hr k e.symm; omega)).trans (h.block k hk)⟩
def KFit (l : List Ch) : Prop := ∀ c ∈ l, c.key.size ≤ maxLen ∧ c.val.size ≤ maxLen
theorem own_at_chs {w : World} {base : Nat} {v : Value} {l : List Ch} (h : w.ownsRow base 61 3 v l.length (l.flatMap chC)) (hs : KFit l) : ∃ a c, v = .slice a l.length c ∧ ChsAt w a l := by
  obtain ⟨a, c, hv, hor⟩ := own_chs h hs
  refine ⟨a, c, hv, ?_⟩
  rcases hor with h0 | ⟨b, ha, ho, hb, _, hc⟩
  · exact .inl h0
  · exact .inr ⟨b, 0, ha, (h.lt b ho).2, hc⟩
theorem ap_yes {l : List Ch} {c : Ch} (hf : fdB l (kl c) (bsI (kl c) l) = true) : apC l c = if c.gone then l.eraseIdx (bsI (kl c) l) else insL (l.eraseIdx (bsI (kl c) l)) (bsI (kl c) l) c := by
  have hi := fd_lt hf
  unfold apC apI insL
  rw [hf, List.eraseIdx_eq_take_drop_succ]
  generalize bsI (kl c) l = i at *
  have hl : (l.take i).length = i := by rw [List.length_take]; omega
  split
  · simp
  · rw [List.take_left' hl, List.drop_left' hl]; simp
theorem ins_len (l : List Ch) (i : Nat) (hi : i ≤ l.length) (x : Ch) : (insL l i x).length = l.length + 1 := by simp [insL]; omega
theorem ap_no {l : List Ch} {c : Ch} (hf : fdB l (kl c) (bsI (kl c) l) = false) : apC l c = if c.gone then l else insL l (bsI (kl c) l) c := by
  unfold apC apI insL
  rw [hf]
  split <;> simp
set_option maxHeartbeats 2000000 in
set_option maxRecDepth 100000 in
theorem rapply_any (v : Value) (l : List Ch) (x : Ch) (w : World) (base : Nat) (hown : w.ownsRow base 61 3 v l.length (l.flatMap chC)) (hr : Ris l) (hs : KFit l) (hm : l.length ≤ 900) (hb : base ≤ w.heap.size) :
    Calls Tryd.prog 48 #[v, .agg #[.string x.key, .string x.val, .bool x.gone]] w fun e w' => ∃ v', e = .returned v' ∧ w'.ownsRow base 61 3 v' (apC l x).length ((apC l x).flatMap chC) ∧ w.grownBy w' v.ownBlock ∧ (∀ k, v'.ownBlock = some k → v.ownBlock = some k ∨ w.heap.size ≤ k) := by
  obtain ⟨a, c, hv, hat⟩ := own_at_chs hown hs
  subst hv
  have hbs := fun W (hW : Below w.heap.size w W) => bs_any a c l x.key W (hat.below hW) hr (by omega)
  have BX := Bx.new w [.string x.key, .string x.val, .bool x.gone] 61
  have bl := (Below.refl w.heap.size w).alloc (Nat.le_refl _) (.cells #[.string x.key, .string x.val, .bool x.gone] 61)
  have hbi := (bs_at (t := kl x) hr).le
  rw [show x.key.toList = kl x from rfl] at hbs
  have hY := fun hf => ap_yes (l := l) (c := x) hf
  have hN := fun hf => ap_no (l := l) (c := x) hf
  have hfl := fun hf => fd_lt (l := l) (t := kl x) (i := bsI (kl x) l) hf
  have hvm : ∀ k, (Value.slice a l.length c).ownBlock = some k → k < w.heap.size := fun k hk => (hown.lt k hk).2
  have HOWN : Hid (w.ownsRow base 61 3 (.slice a l.length c) l.length (l.flatMap chC)) := hown
  obtain ⟨AP, hAP⟩ : ∃ AP, apC l x = AP := ⟨_, rfl⟩
  rw [hAP] at hY hN ⊢
  clear hAP hat hown hr
  generalize bsI (kl x) l = i at *
  have hcb := BX.1
  cases hfd : fdB l (kl x) i
  · have hap := hN hfd
    rw [hfd] at hbs
    clear hY hN hfl hfd
    cases hg : x.gone
    · rw [hg] at hap BX bl
      have HAP : Hid (AP = insL l i x) := hap
      have HG : Hid (x.gone = false) := hg
      clear hap
      have hxc : chC x = [.string x.key, .string x.val, .bool false] := by unfold chC; rw [hg]
      clear hg
      go_enter Tryd.func48, Tryd.ntmps48
      have c0 := (BX.2 0 _ rfl).1
      go_wp2_with fail
      clear c0
      refine (hbs _ bl).mono ?_
      rintro e w1 ⟨rfl, hb1⟩
      clear hbs
      replace BX := BX.below hb1
      have bl1 := Below_after bl hb1
      have c0 := (BX.2 0 _ rfl).1
      have c1 := (BX.2 1 _ rfl).1
      have c2 := (BX.2 2 _ rfl).1
      have zX := BX.1
      have hg9 := heap_alloc_last w1 (.cells #[.string x.key, .string x.val, .bool false] 61)
      have bl9 := (Below.refl w1.heap.size w1).alloc (Nat.le_refl _) (.cells #[.string x.key, .string x.val, .bool false] 61)
      have hin := ins_any (.slice a l.length c) l i hbi x w1.heap.size (w1.alloc (.cells #[.string x.key, .string x.val, .bool false] 61)) base (own_pst (own_pst HOWN.out bl1) bl9) (by rw [hxc]; exact hg9) (fun e => by have := ((own_pst HOWN.out bl1).lt _ e).2; omega) (by omega) (by have := bl9.size; have := bl1.size; omega)

      go_wp2_with fail
      refine hin.mono ?_
      rintro e w3 ⟨v3, rfl, hO3, hG3, hB3⟩
      clear hin
      go_wp2_with fail
      go_ret
      refine ⟨v3, rfl, by rw [HAP.out, ins_len l i hbi]; exact hO3, grown_two (grown_bl (Below_after bl1 bl9) _) hG3, fun k hk => ?_⟩
      rcases hB3 with e | e
      · exact .inl (e ▸ hk)
      · rw [e] at hk
        simp only [Option.some.injEq] at hk
        have := (Below_after bl1 bl9).size
        exact .inr (by omega)
    · rw [hg] at hap BX bl
      have HAP : Hid (AP = l) := hap
      clear hap hg
      go_enter Tryd.func48, Tryd.ntmps48
      have c0 := (BX.2 0 _ rfl).1
      go_wp2_with fail
      clear c0
      refine (hbs _ bl).mono ?_
      rintro e w1 ⟨rfl, hb1⟩
      clear hbs
      replace BX := BX.below hb1
      have bl1 := Below_after bl hb1
      have c0 := (BX.2 0 _ rfl).1
      have c1 := (BX.2 1 _ rfl).1
      have c2 := (BX.2 2 _ rfl).1
      have zX := BX.1
      go_wp2_with fail
      go_ret
      exact ⟨_, rfl, by rw [HAP.out]; exact own_pst HOWN.out bl1, grown_bl bl1 _, fun k hk => .inl hk⟩
  · have hap := hY hfd
    have hil := hfl hfd
    rw [hfd] at hbs
    clear hY hN hfl hfd
    cases hg : x.gone
    · rw [hg] at hap BX bl
      have HAP : Hid (AP = insL (l.eraseIdx i) i x) := hap
      have hxc : chC x = [.string x.key, .string x.val, .bool false] := by unfold chC; rw [hg]
      clear hap hg
      go_enter Tryd.func48, Tryd.ntmps48
      have c0 := (BX.2 0 _ rfl).1
      go_wp2_with fail
      clear c0
      refine (hbs _ bl).mono ?_
      rintro e w1 ⟨rfl, hb1⟩
      clear hbs
      replace BX := BX.below hb1
      have bl1 := Below_after bl hb1
      have c0 := (BX.2 0 _ rfl).1
      have c1 := (BX.2 1 _ rfl).1
      have c2 := (BX.2 2 _ rfl).1
      have zX := BX.1
      have hcut := cut_c (.slice a l.length c) l i hil w1 base (own_pst HOWN.out bl1) (by omega)
      go_wp2_with fail
      refine hcut.mono ?_
      rintro e w2 ⟨v2, rfl, hO2, hG2, hB2⟩
      clear hcut c0 c1 c2 zX
      have hne : some w.heap.size ≠ (Value.slice a l.length c).ownBlock := fun e => by have := hvm _ e.symm; omega
      replace BX := BX.grown hG2 hne
      have c0 := (BX.2 0 _ rfl).1
      have c1 := (BX.2 1 _ rfl).1
      have c2 := (BX.2 2 _ rfl).1
      have zX := BX.1
      have hs2 := hG2.size
      have hs1 := bl1.size
      have hel : (l.eraseIdx i).length = l.length - 1 := by rw [List.length_eraseIdx, if_pos hil]
      have HEL : Hid ((l.eraseIdx i).length = l.length - 1) := hel
      clear hel
      have hg9 := heap_alloc_last w2 (.cells #[.string x.key, .string x.val, .bool false] 61)
      have bl9 := (Below.refl w2.heap.size w2).alloc (Nat.le_refl _) (.cells #[.string x.key, .string x.val, .bool false] 61)
      have hin := ins_any v2 (l.eraseIdx i) i (by have := HEL.out; omega) x w2.heap.size (w2.alloc (.cells #[.string x.key, .string x.val, .bool false] 61)) base (own_pst hO2 bl9) (by rw [hxc]; exact hg9) (fun e => by have := (hO2.lt _ e).2; omega) (by have := HEL.out; omega) (by have := bl9.size; have := hs2; omega)

      go_wp2_with fail
      refine hin.mono ?_
      rintro e w3 ⟨v3, rfl, hO3, hG3, hB3⟩
      clear hin
      go_wp2_with fail
      go_ret
      rw [hB2] at hG3 hB3
      refine ⟨v3, rfl, by rw [HAP.out, ins_len (l.eraseIdx i) i (by have := HEL.out; omega)]; exact hO3, grown_two (grown_two (grown_bl bl1 _) hG2) (grown_two (grown_bl bl9 _) hG3), fun k hk => ?_⟩
      rcases hB3 with e | e
      · exact .inl (e ▸ hk)
      · rw [e] at hk
        simp only [Option.some.injEq] at hk
        have := bl9.size
        exact .inr (by omega)
    · rw [hg] at hap BX bl
      have HAP : Hid (AP = l.eraseIdx i) := hap
      clear hap hg
      go_enter Tryd.func48, Tryd.ntmps48
      have c0 := (BX.2 0 _ rfl).1
      go_wp2_with fail
      clear c0
      refine (hbs _ bl).mono ?_
      rintro e w1 ⟨rfl, hb1⟩
      clear hbs
      replace BX := BX.below hb1
      have bl1 := Below_after bl hb1
      have c0 := (BX.2 0 _ rfl).1
      have c1 := (BX.2 1 _ rfl).1
      have c2 := (BX.2 2 _ rfl).1
      have zX := BX.1
      have hcut := cut_c (.slice a l.length c) l i hil w1 base (own_pst HOWN.out bl1) (by omega)
      go_wp2_with fail
      refine hcut.mono ?_
      rintro e w2 ⟨v2, rfl, hO2, hG2, hB2⟩
      clear hcut c0 c1 c2 zX
      have hne : some w.heap.size ≠ (Value.slice a l.length c).ownBlock := fun e => by have := hvm _ e.symm; omega
      replace BX := BX.grown hG2 hne
      have c0 := (BX.2 0 _ rfl).1
      have c1 := (BX.2 1 _ rfl).1
      have c2 := (BX.2 2 _ rfl).1
      have zX := BX.1
      have hs2 := hG2.size
      have hs1 := bl1.size
      go_wp2_with fail
      go_ret
      exact ⟨v2, rfl, by rw [HAP.out]; exact hO2, grown_two (grown_bl bl1 _) hG2, fun k hk => .inl (hB2 ▸ hk)⟩
theorem chs_fit {w : World} {a : Option Addr} {l : List Ch} (h : ChsAt w a l) : KFit l := fun c hc => by
  rcases h with rfl | ⟨b, o, -, -, hh⟩
  · cases hc
  · obtain ⟨j, hj⟩ := List.mem_iff_getElem?.1 hc
    exact (hh j c hj).2
theorem apL_fit : ∀ (cs l : List Ch), KFit l → KFit cs → KFit (apL l cs)
  | [], l, h, _ => h
  | c :: cs, l, h, hc => apL_fit cs _ (fun y hy => by
      rcases mem_apC hy with h2 | rfl
      · exact h y h2
      · exact hc _ List.mem_cons_self) (fun y hy => hc y (List.mem_cons_of_mem _ hy))
theorem KFit.take {l : List Ch} (h : KFit l) (k : Nat) : KFit (l.take k) := fun c hc => h c (List.mem_of_mem_take hc)
set_option maxHeartbeats 2000000 in
set_option maxRecDepth 100000 in
theorem rApply_any (a a2 : Option Addr) (c c2 : Nat) (l cs : List Ch) (w : World) (hl : ChsAt w a l) (hcs : ChsAt w a2 cs) (hr : Ris l) (hm : l.length ≤ 400) (hm2 : cs.length ≤ 400) :
    Calls Tryd.prog 30 #[.slice a l.length c, .slice a2 cs.length c2] w fun e w' => ∃ v', e = .returned v' ∧ w'.ownsRow w.heap.size 61 3 v' (apL l cs).length ((apL l cs).flatMap chC) ∧ Below w.heap.size w w' := by
  have hcl := clone_c a c l w hl (by omega)
  have hf := chs_fit hl
  have hf2 := chs_fit hcs
  have HL : Hid (KFit l ∧ KFit cs ∧ Ris l) := ⟨hf, hf2, hr⟩
  clear hf hf2 hr hl
  go_enter Tryd.func30, Tryd.ntmps30
  go_wp2_with fail
  refine hcl.mono ?_
  rintro e w1 ⟨v1, rfl, hO1, hb1⟩
  clear hcl
  go_wp2_with fail
  go_loopw [5, 7, 12] (fun xo _ i wr => ∃ (k : Nat), k ≤ cs.length ∧ i = .int .i64 k ∧ wr.ownsRow w.heap.size 61 3 xo (apL l (cs.take k)).length ((apL l (cs.take k)).flatMap chC) ∧ Below w.heap.size w wr) (fun _ _ i _ => cs.length - (intOf i).toNat)
  case atStart => exact ⟨0, Nat.zero_le _, rfl, by simpa [apL] using hO1, hb1⟩
  case round =>
    clear hO1 hb1
    obtain ⟨k, hk, rfl, hO, hbl⟩ := hrel
    by_cases hlt : k < cs.length
    · have dlt : decide ((k : Int) < (cs.length : Int)) = true := decide_eq_true (by omega)
      obtain ⟨x, hx⟩ : ∃ x, cs[k]? = some x := ⟨cs[k], List.getElem?_eq_getElem hlt⟩
      obtain ⟨b, o, rfl, hbb, hww⟩ := (hcs.below hbl).resolve_left (by rintro e; rw [e] at hlt; simp at hlt)
      obtain ⟨⟨q0, q1, q2⟩, z0, z1⟩ := hww k x hx
      have HT : Hid (apL l (cs.take (k + 1)) = apC (apL l (cs.take k)) x) := apL_take l cs k x hx
      have hlen : (apL l (cs.take k)).length ≤ 800 := by
        have := apL_len (cs.take k) l
        have : (cs.take k).length ≤ k := by rw [List.length_take]; omega
        omega
      have hR : Ris (apL l (cs.take k)) := apL_ris _ _ HL.out.2.2
      have hF : KFit (apL l (cs.take k)) := apL_fit _ _ HL.out.1 (HL.out.2.1.take k)
      have bx := (Below.refl wr.heap.size wr).alloc (Nat.le_refl _) (.cells #[.string x.key, .string x.val, .bool x.gone] 61)
      have BX := Bx.new wr [.string x.key, .string x.val, .bool x.gone] 61
      have hap := rapply_any u5 (apL l (cs.take k)) x _ w.heap.size (own_pst hO bx) hR hF (by omega) (by have := bx.size; have := hbl.size; omega)
      have HO : Hid (∀ k', u5.ownBlock = some k' → w.heap.size ≤ k') := fun k' hk' => (hO.lt k' hk').1
      have c0 := (BX.2 0 _ rfl).1
      have c1 := (BX.2 1 _ rfl).1
      have c2 := (BX.2 2 _ rfl).1
      have zX := BX.1
      clear hww hx hR hF hO BX
      generalize apL l (cs.take k) = L1 at *
      go_wp2_with fail
      refine hap.mono ?_
      rintro e w2 ⟨v2, rfl, hO2, hG2, hB2⟩
      clear hap
      have hb2 : Below w.heap.size w w2 := below_newrow3 (Below_after hbl bx) hG2 (fun k' hk' => HO.out k' hk')
      go_wp2_with fail
      go_roundw
      case rel => exact ⟨k + 1, by omega, by go_num, by rw [HT.out]; exact hO2, hb2⟩
      case measure => simp [intOf]; omega
    · have dlt : decide ((k : Int) < (cs.length : Int)) = false := decide_eq_false (by omega)
      rw [List.take_of_length_le (by omega)] at hO
      go_wp2_with fail
      go_ret
      exact ⟨u5, rfl, hO, hbl⟩
end Go.Proofs.YtikkakdeapbioaaDoor
