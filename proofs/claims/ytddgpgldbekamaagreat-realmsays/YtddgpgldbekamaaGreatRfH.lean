/- The document's Taken, walked (F3). -/
import Derived.Test.YtddgpgldbekamaaGreatRefC
import Derived.Test.YtddgpgldbekamaaGreatSendW
import Derived.Test.YtddgpgldbekamaaGreatTakeB
import Derived.Test.YtddgpgldbekamaaGreatFr
set_option linter.unusedSimpArgs false
set_option linter.unnecessarySimpa false
set_option linter.unusedVariables false
namespace Go.Proofs.YtddgpgldbekamaaGreat
open Go.RowKit

/-- what is answered of a note that is taken -/
def OutT (w w' : World) (e : Ending) (C : Int) (R : Rm) (n : Nt) (s : Int) : Prop :=
  (C ≠ 0 ∧ e = .returned (.tuple #[.agg #[.slice none 0 0, .slice none 0 0, .slice none 0 0, .slice none 0 0, .int .i64 0, .int .i64 0], .agg #[.int .i64 0, .string ⟨#[]⟩, .int .i64 0, .int .i64 0], .int .i64 0, .int .i64 C]) ∨ C = 0 ∧ ∃ a0 a1 a2 a3 c0 c1 c2 c3, e = .returned (.tuple #[.agg #[.slice a0 R.ws.length c0, .slice a1 R.ts.length c1, .slice a2 R.hs.length c2, .slice a3 R.ns.length c3, .int .i64 R.nw, .int .i64 R.nt], .agg #[.int .i64 n.port, .string n.data, .int .i64 n.badge, .int .i64 n.writ], .int .i64 s, .int .i64 0]) ∧ RmAt w' a0 a1 a2 a3 c0 c1 c2 c3 R ∧ HiA w.heap.size a0 ∧ HiA w.heap.size a1 ∧ HiA w.heap.size a2 ∧ HiA w.heap.size a3) ∧ Below w.heap.size w w'
theorem OutT.ok {w w' : World} {C : Int} {R : Rm} {base : Nat} {v0 v1 v2 v3 : Value} {n : Nt} {s : Int} (h0 : C = 0) (ho : OwnsR w' base v0 v1 v2 v3 R) (hb : Below w.heap.size w w') (hl : w.heap.size ≤ base := by omega) : OutT w w' (.returned (.tuple #[.agg #[v0, v1, v2, v3, .int .i64 R.nw, .int .i64 R.nt], .agg #[.int .i64 n.port, .string n.data, .int .i64 n.badge, .int .i64 n.writ], .int .i64 s, .int .i64 0])) C R n s := by
  obtain ⟨a0, a1, a2, a3, c0, c1, c2, c3, rfl, rfl, rfl, rfl, hr⟩ := ho.at
  exact ⟨.inr ⟨h0, a0, a1, a2, a3, c0, c1, c2, c3, rfl, hr, (hi_of_row ho.rw_).mono hl, (hi_of_row ho.rt).mono hl, (hi_of_row ho.rh).mono hl, (hi_of_row ho.rn).mono hl⟩, hb⟩
theorem Fr.nm {w V : World} {L : List (Nat × List Value)} (F : Fr w V L) : ∃ V', V = V' ∧ Fr w V' L := ⟨V, rfl, F⟩
theorem wr_id {n : Int} (h1 : -9223372036854775808 ≤ n) (h2 : n ≤ 9223372036854775807) : IntKind.i64.wrap n = n := by
  simp [IntKind.wrap, IntKind.bits, IntKind.signed]; omega
theorem NtsAt.drop {w : World} {b o : Nat} {l : List Nt} (k : Nat) (hb : b < w.heap.size) (h : ∀ j x, l[j]? = some x → NtAt w b (o + j * 4) x) : ∀ j u, ((l.drop k).flatMap ncells)[j]? = some u → w.cell? ((⟨b, o + k * 4, none⟩ : Addr).add j) = some u := by
  intro j u hu
  rw [Addr.add_lit]
  refine nt_flat (l := l.drop k) (fun i x hx => ?_) j u hu
  rw [List.getElem?_drop] at hx
  have := h (k + i) x hx
  rwa [show o + k * 4 + i * 4 = o + (k + i) * 4 by omega]
set_option maxHeartbeats 4000000 in
set_option maxRecDepth 100000 in
theorem rtaken_any (aw at_ ah an : Option Addr) (cw ct ch cn : Nat) (r : Rm) (h s : Int) (w : World) (hr : RmAt w aw at_ ah an cw ct ch cn r) (hz : RmSz r) (hg : Good r.hs) (hpos : ∀ n ∈ r.ns, 0 ≤ n.writ) (hxr : getC r h s = 0 → 0 ≤ (getW r h s).rights ∧ (getW r h s).rights ≤ 7) (C : Int) (HC : Hid (takeC r h s = C)) :
    Calls Tryz.prog 37 #[.agg #[.slice aw r.ws.length cw, .slice at_ r.ts.length ct, .slice ah r.hs.length ch, .slice an r.ns.length cn, .int .i64 r.nw, .int .i64 r.nt], .agg #[.int .i64 h, .int .i64 s]] w fun e w' => OutT w w' e C (takeR r h s) (noteAt r h s) (takeSlot r h s) := by
  have F := fr4 w [.slice aw r.ws.length cw, .slice at_ r.ts.length ct, .slice ah r.hs.length ch, .slice an r.ns.length cn, .int .i64 r.nw, .int .i64 r.nt] 30 [.int .i64 h, .int .i64 s] 33 [.slice none 0 0, .slice none 0 0, .slice none 0 0, .slice none 0 0, .int .i64 0, .int .i64 0] 30 [.int .i64 0, .string ⟨#[]⟩, .int .i64 0, .int .i64 0] 52
  have u := F.u4
  go_enter Tryz.func37, Tryz.ntmps37
  go_wp2_with fail
  refine (rmay_any aw at_ ah an cw ct ch cn r h s 2 1 _ (hr.below F.bl) hz hxr (by decide)).mono ?_
  rintro e w1 ⟨rfl, hb⟩
  replace F := F.below hb
  replace u := F.u4
  clear hb
  by_cases hw : whoC r h s 2 1 = 0
  rotate_left
  · have hC : whoC r h s 2 1 = C := by rw [← HC.out]; exact (if_pos hw).symm
    have hp := whoC_pos r h s 2 1
    have e1 : mayW r h s 2 1 = zeroW := if_neg hw
    have e2 : mayI r h s 2 1 = 0 := if_neg hw
    rw [e1, e2, hC]
    rw [hC] at hw hp
    have hd0 : decide (0 < C) = true := decide_eq_true (by omega)
    clear hC HC hxr e1 e2 hr hpos hg
    go_wp2_with fail
    refine bodyPost_ret (v := .tuple #[.agg #[.slice none 0 0, .slice none 0 0, .slice none 0 0, .slice none 0 0, .int .i64 0, .int .i64 0], .agg #[.int .i64 0, .string ⟨#[]⟩, .int .i64 0, .int .i64 0], .int .i64 0, .int .i64 C]) (by simp [results, Tryz.results37, go_sem, u]) rfl ⟨.inl ⟨hw, rfl⟩, ?_⟩
    exact ((((F.set6 1 _ _ _ _ _ _).set4 0 _ _ _ _).al _ _)).bl
  have e1 : mayW r h s 2 1 = getW r h s := if_pos hw
  obtain ⟨iv, hiv⟩ : ∃ v, mayI r h s 2 1 = v := ⟨_, rfl⟩
  rw [e1, hiv, hw]
  have HC1 : Hid ((if r.ns.find? (atPort (getW r h s).thing) |>.isNone then 5 else if ¬ (noteAt r h s).writ = 0 ∧ freeP r.hs h < 0 then 9 else 0) = C) := (show _ = _ from by rw [← HC.out]; exact (if_neg (fun h' => h' hw)).symm)
  have HNA : Hid (noteAt r h s = match r.ns.find? (atPort (getW r h s).thing) with
    | some n => n
    | none => zeroN) := (show _ = _ from rfl)
  have HS : Hid (takeSlot r h s = if (noteAt r h s).writ = 0 then -1 else freeP r.hs h) := (show _ = _ from rfl)
  have HR : Hid (takeR r h s = ⟨r.ws, r.ts, if (noteAt r h s).writ = 0 then r.hs else putL r.hs h (freeP r.hs h) (noteAt r h s).writ, r.ns.eraseIdx (idx (atPort (getW r h s).thing) r.ns).toNat, r.nw, r.nt⟩) := (show _ = _ from rfl)
  generalize hn0 : noteAt r h s = n at *
  have HN0 : Hid (noteAt r h s = n) := hn0
  clear hn0
  generalize getW r h s = x at *
  clear HC e1 hw hiv hxr
  go_wp2_with fail
  replace F := F.al [.int .i64 x.id, .int .i64 x.thing, .int .i64 x.rights, .int .i64 x.badge, .int .i64 x.frm] 39
  replace u := F.u5
  refine (copyOf_own aw at_ ah an cw ct ch cn r _ (hr.below F.bl) hz).mono ?_
  rintro e w2 ⟨b0, b1, b2, b3, d0, d1, d2, d3, rfl, hO, hb⟩
  have hs1 : w.heap.size + 4 ≤ w1.heap.size := by have := u.2.2.2.2.2; omega
  replace F := F.below hb
  replace u := F.u5
  clear hb hr
  go_wp2_with fail
  obtain ⟨V, eV, G⟩ := (F.set6 4 (.slice b0 r.ws.length d0) (.slice b1 r.ts.length d1) (.slice b2 r.hs.length d2) (.slice b3 r.ns.length d3) (.int .i64 r.nw) (.int .i64 r.nt)).nm
  have O := (hO.mono (base' := w.heap.size + 4) (by simp; omega)).set6 (b := w.heap.size) (by omega) (.slice b0 r.ws.length d0) (.slice b1 r.ts.length d1) (.slice b2 r.hs.length d2) (.slice b3 r.ns.length d3) (.int .i64 r.nw) (.int .i64 r.nt)
  rw [eV] at O ⊢
  clear F u eV hO
  have F := G
  have u := G.u5
  clear G
  have hns : NtsAt V b3 r.ns := O.rm.n
  have mn := hz.n
  have fn2 := O.rm.fn.2
  unfold maxLen at fn2
  go_loopw [11] (fun i wr => ∃ k : Nat, k ≤ r.ns.length ∧ i = .int .i64 k ∧ Hid (idxFrom (atPort x.thing) (r.ns.drop k) k = idx (atPort x.thing) r.ns) ∧ Below V.heap.size V wr) (fun i _ => r.ns.length - (intOf i).toNat)
  case atStart => exact ⟨0, Nat.zero_le _, rfl, rfl, Below.refl _ _⟩
  case round =>
    obtain ⟨k, hk, rfl, hx, hbl⟩ := hrel
    replace F := F.below hbl
    replace u := F.u5
    have lwr := hbl.size
    by_cases hlt : k < r.ns.length
    rotate_left
    · have hi := idx_end hlt hx.out
      have hf : r.ns.find? (atPort x.thing) = none := by
        rcases idx_cases (atPort x.thing) r.ns with ⟨_, h⟩ | ⟨j, _, h, _⟩
        · exact h
        · rw [hi] at h; omega
      have hC : C = 5 := by rw [← HC1.out, hf]; rfl
      subst hC
      have dlt : decide ((k : Int) < (r.ns.length : Int)) = false := decide_eq_false (by omega)
      clear hx HC1 HNA HS HR hns O hi hf
      go_wp2_with fail
      refine bodyPost_ret (v := .tuple #[.agg #[.slice none 0 0, .slice none 0 0, .slice none 0 0, .slice none 0 0, .int .i64 0, .int .i64 0], .agg #[.int .i64 0, .string ⟨#[]⟩, .int .i64 0, .int .i64 0], .int .i64 0, .int .i64 5]) (by simp [results, Tryz.results37, go_sem, u]) rfl ⟨.inl ⟨(by decide), rfl⟩, ?_⟩
      exact ((F.set6 2 _ _ _ _ _ _).set4 1 _ _ _ _).bl
    obtain ⟨b, o, rfl, hbb, hny⟩ := (hns.below hbl).resolve_left (fun e => by rw [e] at hlt; simp at hlt)
    obtain ⟨y, hy⟩ : ∃ y, r.ns[k]? = some y := ⟨_, List.getElem?_eq_getElem hlt⟩
    obtain ⟨q0, q1, q2, q3⟩ := hny k y hy
    have dlt : decide ((k : Int) < (r.ns.length : Int)) = true := decide_eq_true (by omega)
    by_cases he : y.port = x.thing
    rotate_left
    · have de : (y.port != x.thing) = true := by simpa using he
      have HN : Hid _ := idx_no hy (by unfold atPort; simpa using he) hx.out
      clear he hx HC1 HNA HS HR hns O hny hy
      go_wp2_with fail
      go_roundw
      case rel => exact ⟨k + 1, by omega, by go_num, HN, hbl.alloc hbl.size _⟩
      case measure => simp [intOf]; omega
    have hpy : atPort x.thing y = true := by unfold atPort; simpa using he
    have hi : idx (atPort x.thing) r.ns = (k : Int) := idx_yes hy hpy hx.out
    have hf : r.ns.find? (atPort x.thing) = some y := by
      rcases idx_cases (atPort x.thing) r.ns with ⟨h, _⟩ | ⟨j, z, h, h2, _, h4⟩
      · omega
      · have : j = k := by omega
        subst this; rw [h4, ← h2, hy]
    have hn : n = y := by rw [HNA.out, hf]
    subst hn
    have HC2 : Hid ((if ¬ n.writ = 0 ∧ freeP r.hs h < 0 then 9 else 0) = C) := (show _ = _ from by rw [← HC1.out, hf]; rfl)
    have HR2 : Hid (takeR r h s = ⟨r.ws, r.ts, if n.writ = 0 then r.hs else putL r.hs h (freeP r.hs h) n.writ, r.ns.eraseIdx k, r.nw, r.nt⟩) := (show _ = _ from by rw [HR.out, hi]; rfl)
    have de : (n.port != x.thing) = false := by simpa using he
    have hp0 := hpos n (List.mem_of_getElem? hy)
    clear he hx HC1 HNA HR hns hpy hi hf
    by_cases h0 : n.writ = 0
    · have dw : decide (0 < n.writ) = false := decide_eq_false (by omega)
      have hC : C = 0 := by rw [← HC2.out, if_neg (fun h => h.1 h0)]
      rw [if_pos h0] at HR2 HS
      have H0 : Hid (n.writ = 0) := h0
      clear h0 HC2 hny
      go_wp2_with fail
      obtain ⟨W, eW, G⟩ := (F.al [.int .i64 n.port, .string n.data, .int .i64 n.badge, .int .i64 n.writ] 52).nm
      replace O := (O.below hbl).below ((Below.refl _ _).alloc (Nat.le_refl _) (.cells #[.int .i64 n.port, .string n.data, .int .i64 n.badge, .int .i64 n.writ] 52))
      rw [eW] at O ⊢
      clear eW
      replace F := G
      replace u := F.u6
      clear G
      refine wp_region_held_drew (S := fun _ => True) (by kernel_rfl) trivial (fun _ => ?_)
      obtain ⟨X, eX, G⟩ := F.drew.nm
      replace O := O.below (below_drewN (Below.refl _ _) 1)
      have eX' : W.drewN 1 = X := eX
      rw [eX'] at O
      rw [eX]
      clear eX eX'
      replace F := G
      replace u := F.u6
      clear G
      obtain ⟨b', o', e', hbX, hnX⟩ := O.rm.n.resolve_left (fun e => by rw [show r.ns = [] from e] at hlt; simp at hlt)
      obtain ⟨rfl, rfl⟩ : b = b' ∧ o = o' := by simpa using e'
      clear e'
      have fn1 : r.ns.length ≤ d3 := O.rm.fn.1
      obtain ⟨i0, hi, hi0, hi1, hi2⟩ := info_parts infoNote
      obtain ⟨vA, wA, hrA, hoA, hbA⟩ := nilapp_n (some ⟨b, o, none⟩) d3 (r.ns.take k) X (.inr ⟨b, o, rfl, hbX, fun j x hj => hnX j x (by rw [List.getElem?_take] at hj; split at hj; exact hj; cases hj)⟩) (by rw [List.length_take]; omega)
      have hlk : (r.ns.take k).length = k := by rw [List.length_take]; omega
      rw [hlk] at hrA hoA
      obtain ⟨AD, hAD, hnews⟩ : ∃ AD : Addr, (if d3 = k + 1 then some (⟨b, o, none⟩ : Addr) else some ⟨b, o + (k + 1) * 4, none⟩) = some AD ∧ ∀ j q, ((r.ns.drop (k + 1)).flatMap ncells)[j]? = some q → wA.cell? (AD.add j) = some q := by
        have h := NtsAt.drop (k + 1) hbX hnX
        by_cases hc : d3 = k + 1
        · exact ⟨_, if_pos hc, fun j q hj => by rw [List.drop_eq_nil_of_le (by omega)] at hj; simp at hj⟩
        · refine ⟨_, if_neg hc, fun j q hj => ?_⟩
          have h2 := h j q hj
          rw [Addr.add_lit] at h2 ⊢
          rw [(bcell hbA).1 _ _ hbX]; exact h2
      have HAD : Hid (_ = some AD) := hAD
      clear hAD
      obtain ⟨vB, wB, hrB, hoB, hgB, -⟩ := run_append_own (P := Tryz.prog) wA X.heap.size 28 28 52 i0 (.agg #[.int .i64 0, .string ByteArray.empty, .int .i64 0, .int .i64 0]) 4 40 Tryz.underlying28 hi hi0 hi1 hi2 rfl (by decide) vA k _ hoA AD (r.ns.length - (k + 1)) (d3 - (k + 1)) ((r.ns.drop (k + 1)).flatMap ncells) (by rw [flatlen_n, List.length_drop]) hnews (ncells_one _) (by unfold maxLen; omega) (by omega) hbA.size
      have hbB : Below X.heap.size X wB := hbA.grown hgB hbA.size (fun j hj => (hoA.lt j hj).1)
      have hlen : k + (r.ns.length - (k + 1)) = (r.ns.eraseIdx k).length := by rw [List.length_eraseIdx, if_pos hlt]; omega
      rw [hlen, ← List.flatMap_append, ← List.eraseIdx_eq_take_drop_succ] at hoB
      have hs2 : w.heap.size + 4 ≤ X.heap.size := by have h1 := u.1.1; have h2 := u.2.2.2.2.2.2; omega
      have OB := OwnsR.of4 (r := ⟨r.ws, r.ts, r.hs, r.ns.eraseIdx k, r.nw, r.nt⟩) (O.below hbB).rw_ (O.below hbB).rt (O.below hbB).rh (ownsRow_mono hoB hs2)
      obtain ⟨aB, cB, hvB, -, -⟩ := nrow_at hoB
      obtain ⟨T, hT⟩ : ∃ T, (r.ns.eraseIdx k).length = T := ⟨_, rfl⟩
      rw [hT] at hvB
      subst hvB
      clear hT hlen hgB hoB hnX hoA hnews
      refine tkI 0 (.pointer (some ⟨w.heap.size, 3, none⟩)) rfl ?_
      refine tkI 2 (.int .i64 k) rfl ?_
      refine tkI 5 (.pointer (some ⟨w.heap.size, 3, none⟩)) rfl ?_
      refine tkI 7 (.int .i64 k) rfl ?_
      refine tkJ 8 (.int .i64 ((k : Int) + 1)) rfl (by intro w' _; go_simp; exact wr_id (by omega) (by omega)) ?_
      refine rdJ 1 6 rfl rfl (fun K hK => ?_) (fun K hK => ?_)
      all_goals go_wp2_with fail
      all_goals (refine hK.out _ _ trivial (fun _ => ?_); clear hK K)
      refine tkJ 3 (.slice (some ⟨b, o, none⟩) k d3) rfl (by intro w' _; go_simp <;> (intro hh; exfalso; omega)) ?_
      refine rdJ 4 6 rfl rfl (fun K hK => ?_) (fun K hK => ?_)
      rotate_left
      focus
        go_wp2_with fail
        refine hK.out _ _ trivial (fun _ => ?_)
        clear hK K
        refine tkJ 9 (.slice (some AD) (r.ns.length - (k + 1)) (d3 - (k + 1))) rfl (by intro w' _; go_simp; rw [if_pos ⟨by omega, by omega⟩, HAD.out]) ?_
        refine rdI 4 rfl (fun K hK => ?_)
        refine wp_append_eq _ _ _ rfl _ _ _ rfl rfl hrA ?_
        refine hK.out _ _ trivial (fun _ => ?_)
        clear hK K
      rotate_left
      focus
        refine tkJ 9 (.slice (some AD) (r.ns.length - (k + 1)) (d3 - (k + 1))) rfl (by intro w' _; go_simp; rw [if_pos ⟨by omega, by omega⟩, HAD.out]) ?_
        refine rdI 1 rfl (fun K hK => ?_)
        go_wp2_with fail
        refine hK.out _ _ trivial (fun _ => ?_)
        clear hK K
        refine tkJ 3 (.slice (some ⟨b, o, none⟩) k d3) rfl (by intro w' _; go_simp <;> (intro hh; exfalso; omega)) ?_
        refine rdI 4 rfl (fun K hK => ?_)
        refine wp_append_eq _ _ _ rfl _ _ _ rfl rfl hrA ?_
        refine hK.out _ _ trivial (fun _ => ?_)
        clear hK K
      rotate_left
      focus
        refine wp_append_eq _ _ _ rfl _ _ _ rfl rfl hrA ?_
        refine hK.out _ _ trivial (fun _ => ?_)
        clear hK K
        have u' := (F.below hbA).u6
        refine rdI 6 rfl (fun K hK => ?_)
        go_wp2_with fail
        refine hK.out _ _ trivial (fun _ => ?_)
        clear hK K u'
        refine tkJ 9 (.slice (some AD) (r.ns.length - (k + 1)) (d3 - (k + 1))) rfl (by intro w' _; go_simp; rw [if_pos ⟨by omega, by omega⟩, HAD.out]) ?_
      all_goals
        refine rdI 10 rfl (fun K hK => ?_)
        refine wp_append_eq _ _ _ rfl _ _ _ rfl rfl hrB ?_
        refine hK.out _ _ trivial (fun _ => ?_)
        clear hK K
        replace F := F.below hbB
        replace u := F.u6
        refine tkI 11 (.pointer (some ⟨w.heap.size, 3, none⟩)) rfl ?_
        refine rdI 12 rfl (fun K hK => ?_)
        go_wp2_with fail
        refine hK.out _ _ trivial (fun _ => ?_)
        clear hK K
        refine wpAnyH_done (by kernel_rfl) ?_ _
        obtain ⟨Y, eY, G⟩ := (F.set 5 3 (.slice aB T cB)).nm
        replace OB := OB.setLow (b := w.heap.size) (by omega) 3 (.slice aB T cB)
        rw [eY] at OB ⊢
        clear eY O hrA hrB
        simp only [List.set_cons_zero, List.set_cons_succ] at G
        replace F := G
        replace u := F.u6
        clear G
        go_wp2_with fail
        refine wp_region_held_drew (S := fun w' => Bx w' w.heap.size [.slice b0 r.ws.length d0, .slice b1 r.ts.length d1, .slice b2 r.hs.length d2, .slice aB T cB, .int .i64 r.nw, .int .i64 r.nt] ∧ Bx w' wr.heap.size [.int .i64 n.port, .string n.data, .int .i64 n.badge, .int .i64 n.writ]) (by kernel_rfl) ⟨F.drew.b 5, F.drew.b 0⟩ (fun hS0 => ?_)
        obtain ⟨M, eM, G⟩ := F.drew.nm
        replace OB := OB.below (below_drewN (Below.refl _ _) 1)
        have eM' : Y.drewN 1 = M := eM
        rw [eM'] at OB
        rw [eM] at hS0
        rw [eM]
        clear eM eM'
        replace F := G
        replace u := F.u6
        clear G
        refine tkJ 0 (.agg #[.slice b0 r.ws.length d0, .slice b1 r.ts.length d1, .slice b2 r.hs.length d2, .slice aB T cB, .int .i64 r.nw, .int .i64 r.nt]) rfl (by intro w' hS; have z := hS.1.bf; clear hS u; go_simp) ?_
        refine tkJ 1 (.agg #[.int .i64 n.port, .string n.data, .int .i64 n.badge, .int .i64 n.writ]) rfl (by intro w' hS; have z := hS.2.bf; clear hS u; go_simp) ?_
        refine tkI 2 (.int .i64 (-1)) rfl ?_
        refine rdI 3 rfl (fun K hK => ?_)
        go_wp2_with fail
        have G := F.set6 3 (.slice b0 r.ws.length d0) (.slice b1 r.ts.length d1) (.slice b2 r.hs.length d2) (.slice aB T cB) (.int .i64 r.nw) (.int .i64 r.nt)
        refine hK.out _ _ ?_ (fun _ => ?_)
        · exact ⟨G.b 5, G.b 0⟩
        clear hK K
        replace F := G
        clear G
        replace OB := OB.set6 (b := w.heap.size + 1 + 1) (by omega) (.slice b0 r.ws.length d0) (.slice b1 r.ts.length d1) (.slice b2 r.hs.length d2) (.slice aB T cB) (.int .i64 r.nw) (.int .i64 r.nt)
        refine rdI 4 rfl (fun K hK => ?_)
        go_wp2_with fail
        have G := F.set4 2 (.int .i64 n.port) (.string n.data) (.int .i64 n.badge) (.int .i64 n.writ)
        refine hK.out _ _ ?_ (fun _ => ?_)
        · exact ⟨G.b 5, G.b 0⟩
        clear hK K
        replace F := G
        clear G
        replace OB := OB.setLow4 (b := w.heap.size + 1 + 1 + 1) (by omega) (.int .i64 n.port) (.string n.data) (.int .i64 n.badge) (.int .i64 n.writ)
        refine tkI 5 (.int .i64 (-1)) rfl ?_
        refine tkI 6 (.int .i64 0) rfl ?_
        refine wpAnyH_done (by kernel_rfl) ?_ _
        have HOB : Hid (OwnsR _ _ _ _ _ _ _) := OB
        clear OB
        go_wp2_with fail
        refine bodyPost_ret (v := .tuple #[.agg #[.slice b0 r.ws.length d0, .slice b1 r.ts.length d1, .slice b2 r.hs.length d2, .slice aB T cB, .int .i64 r.nw, .int .i64 r.nt], .agg #[.int .i64 n.port, .string n.data, .int .i64 n.badge, .int .i64 n.writ], .int .i64 (-1), .int .i64 0]) (by simp [results, Tryz.results37, go_sem, u]) rfl ?_
        rw [HR2.out, HS.out, HN0.out]; subst hC
        exact OutT.ok (C := 0) rfl HOB.out F.bl
    have dw : decide (0 < n.writ) = true := decide_eq_true (by omega)
    go_wp2_with fail
    have O1 := (O.below hbl).below ((Below.refl _ _).alloc (Nat.le_refl _) (.cells #[.int .i64 n.port, .string n.data, .int .i64 n.badge, .int .i64 n.writ] 52))
    obtain ⟨W, eW, G⟩ := (F.al [.int .i64 n.port, .string n.data, .int .i64 n.badge, .int .i64 n.writ] 52).nm
    rw [eW] at O1
    rw [eW]
    clear eW O hny
    replace F := G
    replace u := F.u6
    clear G
    refine (freeSlot_any b2 d2 r.hs h W O1.rm.h hz.h).mono ?_
    rintro e w4 ⟨rfl, hb⟩
    replace F := F.below hb
    replace u := F.u6
    have O := O1.below hb
    clear O1
    obtain ⟨sl, hsl⟩ : ∃ v, freeP r.hs h = v := ⟨_, rfl⟩
    have HSL : Hid (freeP r.hs h = sl) := hsl
    rw [hsl]
    clear hsl
    by_cases hfr : sl < 0
    · have hC : C = 9 := by rw [← HC2.out, if_pos ⟨h0, by rw [HSL.out]; exact hfr⟩]
      have d9 : decide (sl < 0) = true := decide_eq_true hfr
      subst hC
      clear HR2 HS HC2 O h0 hfr hg
      go_wp2_with fail
      refine bodyPost_ret (v := .tuple #[.agg #[.slice none 0 0, .slice none 0 0, .slice none 0 0, .slice none 0 0, .int .i64 0, .int .i64 0], .agg #[.int .i64 0, .string ⟨#[]⟩, .int .i64 0, .int .i64 0], .int .i64 0, .int .i64 9]) (by simp [results, Tryz.results37, go_sem, u]) rfl ⟨.inl ⟨(by decide), rfl⟩, ?_⟩
      exact ((F.set6 3 _ _ _ _ _ _).set4 2 _ _ _ _).bl
    have hC : C = 0 := by rw [← HC2.out, if_neg (fun h => hfr (by rw [← HSL.out]; exact h.2))]
    have d9 : decide (sl < 0) = false := decide_eq_false hfr
    rw [if_neg h0, HSL.out] at HR2 HS
    clear h0 HC2
    go_wp2_with fail
    have hs4 : w.heap.size + 4 ≤ w4.heap.size := by have h1 := u.1.1; have h2 := u.2.2.2.2.2.2; omega
    obtain ⟨H1, hH⟩ : ∃ H, (putL r.hs h sl n.writ).length = H := ⟨_, rfl⟩
    refine (putAt_row b2 d2 r.hs h sl n.writ w4 O.rm.h hz.h hg H1 hH).mono ?_
    clear hH
    rintro e w5 ⟨a2, c2, rfl, hrow, hb5⟩
    replace F := F.below hb5
    replace u := F.u6
    replace O := (O.below hb5).put2 hrow hs4
    clear hrow hb hb5 hs4
    go_wp2_with fail
    obtain ⟨W9, eW, G⟩ := (F.set 5 2 (.slice a2 H1 c2)).nm
    replace O := O.setLow (b := w.heap.size) (by omega) 2 (.slice a2 H1 c2)
    rw [eW] at O ⊢
    clear eW
    simp only [List.set_cons_zero, List.set_cons_succ] at G
    replace F := G
    replace u := F.u6
    clear G
    refine wp_region_held_drew (S := fun _ => True) (by kernel_rfl) trivial (fun _ => ?_)
    obtain ⟨X, eX, G⟩ := F.drew.nm
    replace O := O.below (below_drewN (Below.refl _ _) 1)
    have eX' : W9.drewN 1 = X := eX
    rw [eX'] at O
    rw [eX]
    clear eX eX'
    replace F := G
    replace u := F.u6
    clear G
    obtain ⟨b', o', e', hbX, hnX⟩ := O.rm.n.resolve_left (fun e => by rw [show r.ns = [] from e] at hlt; simp at hlt)
    obtain ⟨rfl, rfl⟩ : b = b' ∧ o = o' := by simpa using e'
    clear e'
    have fn1 : r.ns.length ≤ d3 := O.rm.fn.1
    obtain ⟨i0, hi, hi0, hi1, hi2⟩ := info_parts infoNote
    obtain ⟨vA, wA, hrA, hoA, hbA⟩ := nilapp_n (some ⟨b, o, none⟩) d3 (r.ns.take k) X (.inr ⟨b, o, rfl, hbX, fun j x hj => hnX j x (by rw [List.getElem?_take] at hj; split at hj; exact hj; cases hj)⟩) (by rw [List.length_take]; omega)
    have hlk : (r.ns.take k).length = k := by rw [List.length_take]; omega
    rw [hlk] at hrA hoA
    obtain ⟨AD, hAD, hnews⟩ : ∃ AD : Addr, (if d3 = k + 1 then some (⟨b, o, none⟩ : Addr) else some ⟨b, o + (k + 1) * 4, none⟩) = some AD ∧ ∀ j q, ((r.ns.drop (k + 1)).flatMap ncells)[j]? = some q → wA.cell? (AD.add j) = some q := by
      have h := NtsAt.drop (k + 1) hbX hnX
      by_cases hc : d3 = k + 1
      · exact ⟨_, if_pos hc, fun j q hj => by rw [List.drop_eq_nil_of_le (by omega)] at hj; simp at hj⟩
      · refine ⟨_, if_neg hc, fun j q hj => ?_⟩
        have h2 := h j q hj
        rw [Addr.add_lit] at h2 ⊢
        rw [(bcell hbA).1 _ _ hbX]; exact h2
    have HAD : Hid (_ = some AD) := hAD
    clear hAD
    obtain ⟨vB, wB, hrB, hoB, hgB, -⟩ := run_append_own (P := Tryz.prog) wA X.heap.size 28 28 52 i0 (.agg #[.int .i64 0, .string ByteArray.empty, .int .i64 0, .int .i64 0]) 4 40 Tryz.underlying28 hi hi0 hi1 hi2 rfl (by decide) vA k _ hoA AD (r.ns.length - (k + 1)) (d3 - (k + 1)) ((r.ns.drop (k + 1)).flatMap ncells) (by rw [flatlen_n, List.length_drop]) hnews (ncells_one _) (by unfold maxLen; omega) (by omega) hbA.size
    have hbB : Below X.heap.size X wB := hbA.grown hgB hbA.size (fun j hj => (hoA.lt j hj).1)
    have hlen : k + (r.ns.length - (k + 1)) = (r.ns.eraseIdx k).length := by rw [List.length_eraseIdx, if_pos hlt]; omega
    rw [hlen, ← List.flatMap_append, ← List.eraseIdx_eq_take_drop_succ] at hoB
    have hs2 : w.heap.size + 4 ≤ X.heap.size := by have h1 := u.1.1; have h2 := u.2.2.2.2.2.2; omega
    have OB := OwnsR.of4 (r := ⟨r.ws, r.ts, putL r.hs h sl n.writ, r.ns.eraseIdx k, r.nw, r.nt⟩) (O.below hbB).rw_ (O.below hbB).rt (O.below hbB).rh (ownsRow_mono hoB hs2)
    obtain ⟨aB, cB, hvB, -, -⟩ := nrow_at hoB
    obtain ⟨T, hT⟩ : ∃ T, (r.ns.eraseIdx k).length = T := ⟨_, rfl⟩
    rw [hT] at hvB
    subst hvB
    clear hT hlen hgB hoB hnX hoA hnews
    refine tkI 0 (.pointer (some ⟨w.heap.size, 3, none⟩)) rfl ?_
    refine tkI 2 (.int .i64 k) rfl ?_
    refine tkI 5 (.pointer (some ⟨w.heap.size, 3, none⟩)) rfl ?_
    refine tkI 7 (.int .i64 k) rfl ?_
    refine tkJ 8 (.int .i64 ((k : Int) + 1)) rfl (by intro w' _; go_simp; exact wr_id (by omega) (by omega)) ?_
    refine rdJ 1 6 rfl rfl (fun K hK => ?_) (fun K hK => ?_)
    all_goals go_wp2_with fail
    all_goals (refine hK.out _ _ trivial (fun _ => ?_); clear hK K)
    refine tkJ 3 (.slice (some ⟨b, o, none⟩) k d3) rfl (by intro w' _; go_simp <;> (intro hh; exfalso; omega)) ?_
    refine rdJ 4 6 rfl rfl (fun K hK => ?_) (fun K hK => ?_)
    rotate_left
    focus
      go_wp2_with fail
      refine hK.out _ _ trivial (fun _ => ?_)
      clear hK K
      refine tkJ 9 (.slice (some AD) (r.ns.length - (k + 1)) (d3 - (k + 1))) rfl (by intro w' _; go_simp; rw [if_pos ⟨by omega, by omega⟩, HAD.out]) ?_
      refine rdI 4 rfl (fun K hK => ?_)
      refine wp_append_eq _ _ _ rfl _ _ _ rfl rfl hrA ?_
      refine hK.out _ _ trivial (fun _ => ?_)
      clear hK K
    rotate_left
    focus
      refine tkJ 9 (.slice (some AD) (r.ns.length - (k + 1)) (d3 - (k + 1))) rfl (by intro w' _; go_simp; rw [if_pos ⟨by omega, by omega⟩, HAD.out]) ?_
      refine rdI 1 rfl (fun K hK => ?_)
      go_wp2_with fail
      refine hK.out _ _ trivial (fun _ => ?_)
      clear hK K
      refine tkJ 3 (.slice (some ⟨b, o, none⟩) k d3) rfl (by intro w' _; go_simp <;> (intro hh; exfalso; omega)) ?_
      refine rdI 4 rfl (fun K hK => ?_)
      refine wp_append_eq _ _ _ rfl _ _ _ rfl rfl hrA ?_
      refine hK.out _ _ trivial (fun _ => ?_)
      clear hK K
    rotate_left
    focus
      refine wp_append_eq _ _ _ rfl _ _ _ rfl rfl hrA ?_
      refine hK.out _ _ trivial (fun _ => ?_)
      clear hK K
      have u' := (F.below hbA).u6
      refine rdI 6 rfl (fun K hK => ?_)
      go_wp2_with fail
      refine hK.out _ _ trivial (fun _ => ?_)
      clear hK K u'
      refine tkJ 9 (.slice (some AD) (r.ns.length - (k + 1)) (d3 - (k + 1))) rfl (by intro w' _; go_simp; rw [if_pos ⟨by omega, by omega⟩, HAD.out]) ?_
    all_goals
      refine rdI 10 rfl (fun K hK => ?_)
      refine wp_append_eq _ _ _ rfl _ _ _ rfl rfl hrB ?_
      refine hK.out _ _ trivial (fun _ => ?_)
      clear hK K
      replace F := F.below hbB
      replace u := F.u6
      refine tkI 11 (.pointer (some ⟨w.heap.size, 3, none⟩)) rfl ?_
      refine rdI 12 rfl (fun K hK => ?_)
      go_wp2_with fail
      refine hK.out _ _ trivial (fun _ => ?_)
      clear hK K
      refine wpAnyH_done (by kernel_rfl) ?_ _
      obtain ⟨Y, eY, G⟩ := (F.set 5 3 (.slice aB T cB)).nm
      replace OB := OB.setLow (b := w.heap.size) (by omega) 3 (.slice aB T cB)
      rw [eY] at OB ⊢
      clear eY O hrA hrB
      simp only [List.set_cons_zero, List.set_cons_succ] at G
      replace F := G
      replace u := F.u6
      clear G
      go_wp2_with fail
      refine wp_region_held_drew (S := fun w' => Bx w' w.heap.size [.slice b0 r.ws.length d0, .slice b1 r.ts.length d1, .slice a2 H1 c2, .slice aB T cB, .int .i64 r.nw, .int .i64 r.nt] ∧ Bx w' wr.heap.size [.int .i64 n.port, .string n.data, .int .i64 n.badge, .int .i64 n.writ]) (by kernel_rfl) ⟨F.drew.b 5, F.drew.b 0⟩ (fun hS0 => ?_)
      obtain ⟨M, eM, G⟩ := F.drew.nm
      replace OB := OB.below (below_drewN (Below.refl _ _) 1)
      have eM' : Y.drewN 1 = M := eM
      rw [eM'] at OB
      rw [eM] at hS0
      rw [eM]
      clear eM eM'
      replace F := G
      replace u := F.u6
      clear G
      refine tkJ 0 (.agg #[.slice b0 r.ws.length d0, .slice b1 r.ts.length d1, .slice a2 H1 c2, .slice aB T cB, .int .i64 r.nw, .int .i64 r.nt]) rfl (by intro w' hS; have z := hS.1.bf; clear hS u; go_simp) ?_
      refine tkJ 1 (.agg #[.int .i64 n.port, .string n.data, .int .i64 n.badge, .int .i64 n.writ]) rfl (by intro w' hS; have z := hS.2.bf; clear hS u; go_simp) ?_
      refine tkI 2 (.int .i64 (sl)) rfl ?_
      refine rdI 3 rfl (fun K hK => ?_)
      go_wp2_with fail
      have G := F.set6 3 (.slice b0 r.ws.length d0) (.slice b1 r.ts.length d1) (.slice a2 H1 c2) (.slice aB T cB) (.int .i64 r.nw) (.int .i64 r.nt)
      refine hK.out _ _ ?_ (fun _ => ?_)
      · exact ⟨G.b 5, G.b 0⟩
      clear hK K
      replace F := G
      clear G
      replace OB := OB.set6 (b := w.heap.size + 1 + 1) (by omega) (.slice b0 r.ws.length d0) (.slice b1 r.ts.length d1) (.slice a2 H1 c2) (.slice aB T cB) (.int .i64 r.nw) (.int .i64 r.nt)
      refine rdI 4 rfl (fun K hK => ?_)
      go_wp2_with fail
      have G := F.set4 2 (.int .i64 n.port) (.string n.data) (.int .i64 n.badge) (.int .i64 n.writ)
      refine hK.out _ _ ?_ (fun _ => ?_)
      · exact ⟨G.b 5, G.b 0⟩
      clear hK K
      replace F := G
      clear G
      replace OB := OB.setLow4 (b := w.heap.size + 1 + 1 + 1) (by omega) (.int .i64 n.port) (.string n.data) (.int .i64 n.badge) (.int .i64 n.writ)
      refine tkI 5 (.int .i64 (sl)) rfl ?_
      refine tkI 6 (.int .i64 0) rfl ?_
      refine wpAnyH_done (by kernel_rfl) ?_ _
      have HOB : Hid (OwnsR _ _ _ _ _ _ _) := OB
      clear OB
      go_wp2_with fail
      refine bodyPost_ret (v := .tuple #[.agg #[.slice b0 r.ws.length d0, .slice b1 r.ts.length d1, .slice a2 H1 c2, .slice aB T cB, .int .i64 r.nw, .int .i64 r.nt], .agg #[.int .i64 n.port, .string n.data, .int .i64 n.badge, .int .i64 n.writ], .int .i64 (sl), .int .i64 0]) (by simp [results, Tryz.results37, go_sem, u]) rfl ?_
      rw [HR2.out, HS.out, HN0.out]; subst hC
      exact OutT.ok (C := 0) rfl HOB.out F.bl
end Go.Proofs.YtddgpgldbekamaaGreat
