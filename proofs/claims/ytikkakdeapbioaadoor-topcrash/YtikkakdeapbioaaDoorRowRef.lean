/- The document's way to apply a change to rows, one row behind the other: plain data. -/
/- writkeepref: Applied, walked. -/
import Derived.Test.YtikkakdeapbioaaDoorKeyOrd
import Derived.Test.YtikkakdeapbioaaDoorRowApp
import Derived.Deep.QuietTactic
import Derived.BigQuiet
set_option linter.unusedVariables false
set_option linter.unusedSimpArgs false
namespace Go.Proofs.YtikkakdeapbioaaDoor
open Go.RowKit

/-- what is there behind k rows -/
def nx (L : List Ch) (x : Ch) (k : Nat) : List Ch :=
  L.take (min k (bsI (kl x) L)) ++ (if bsI (kl x) L < k then (if x.gone then [] else [x]) ++ (L.take k).drop (if fdB L (kl x) (bsI (kl x) L) then bsI (kl x) L + 1 else bsI (kl x) L) else [])
def ldB2 (L : List Ch) (x : Ch) (k : Nat) : Bool := x.gone || decide (bsI (kl x) L < k)
def leB2 (x y : Ch) : Bool := Op.bytesLess (kl x) (kl y) || kl x == kl y
theorem nx_zero (L : List Ch) (x : Ch) : nx L x 0 = [] := by simp [nx]
theorem nx_step {L : List Ch} (hr : Ris L) {x y : Ch} {k : Nat} (hy : L[k]? = some y) : nx L x (k + 1) = nx L x k ++ (if (!ldB2 L x k && leB2 x y) = true then [x] else []) ++ (if (kl y == kl x) = true then [] else [y]) := by
  have hb := bs_at (t := kl x) hr
  obtain ⟨hk, hye⟩ := List.getElem?_eq_some_iff.1 hy
  have htk : L.take (k + 1) = L.take k ++ [y] := by rw [List.take_succ_eq_append_getElem hk, hye]
  have hlk : (L.take k).length = k := by rw [List.length_take]; omega
  unfold nx ldB2
  have hfd : fdB L (kl x) (bsI (kl x) L) = true → bsI (kl x) L < L.length := fd_lt
  have hup := fun hj => BsAt.above (j := k) (x := y) hr hb hj hy
  have hfk : bsI (kl x) L = k → fdB L (kl x) k = (kl y == kl x) := fun e => by unfold fdB; rw [hy]
  have hlo := hb.lo k y
  have hhi := hb.hi k y
  generalize bsI (kl x) L = p at *
  rcases Nat.lt_trichotomy k p with h | h | h
  · have hl := hlo h hy
    have h1 : leB2 x y = false := by unfold leB2; rw [bl_asym hl]; simp; exact fun e => bl_ne hl e.symm
    have h2 : (kl y == kl x) = false := by simp; exact bl_ne hl
    rw [h1, h2, show min (k + 1) p = k + 1 by omega, show min k p = k by omega, if_neg (show ¬ p < k + 1 by omega), if_neg (show ¬ p < k by omega), htk]
    simp
  · subst h
    have hl := hhi (Nat.le_refl _) hy
    have h1 : leB2 x y = true := by
      unfold leB2
      rcases bl_tri (kl x) (kl y) with e | e | e
      · rw [e]; rfl
      · simp [e]
      · rw [hl] at e; cases e
    rw [h1, hfk rfl, show min (k + 1) k = k by omega, show min k k = k by omega, if_pos (show k < k + 1 by omega), if_neg (show ¬ k < k by omega), htk]
    cases hg : x.gone <;> cases he : (kl y == kl x) <;> simp [hlk]
  · have hne : (kl y == kl x) = false := by
      cases he : (kl y == kl x)
      · rfl
      · exfalso
        have e : kl y = kl x := by simpa using he
        have hl2 := hup (by split <;> omega)
        rw [e, bl_irr] at hl2; cases hl2
    have hd : (if fdB L (kl x) p then p + 1 else p) ≤ k := by split <;> omega
    rw [hne, show min (k + 1) p = p by omega, show min k p = p by omega, if_pos (show p < k + 1 by omega), if_pos h, htk, List.drop_append_of_le_length (by rw [hlk]; exact hd)]
    simp [h]
theorem ld_step {L : List Ch} (hr : Ris L) {x y : Ch} {k : Nat} (hy : L[k]? = some y) : ldB2 L x (k + 1) = (ldB2 L x k || leB2 x y) := by
  have hb := bs_at (t := kl x) hr
  unfold ldB2
  have hlo := hb.lo k y
  have hhi := hb.hi k y
  generalize bsI (kl x) L = p at *
  rcases Nat.lt_trichotomy k p with h | h | h
  · have hl := hlo h hy
    have h1 : leB2 x y = false := by unfold leB2; rw [bl_asym hl]; simp; exact fun e => bl_ne hl e.symm
    rw [h1, decide_eq_false (show ¬ p < k + 1 by omega), decide_eq_false (show ¬ p < k by omega)]; simp
  · subst h
    have hl := hhi (Nat.le_refl _) hy
    have h1 : leB2 x y = true := by
      unfold leB2
      rcases bl_tri (kl x) (kl y) with e | e | e
      · rw [e]; rfl
      · simp [e]
      · rw [hl] at e; cases e
    rw [h1, decide_eq_true (show k < k + 1 by omega)]; simp
  · rw [decide_eq_true (show p < k + 1 by omega), decide_eq_true h]; simp
theorem nx_end {L : List Ch} (hr : Ris L) (x : Ch) : apC L x = nx L x L.length ++ (if (!ldB2 L x L.length) = true then [x] else []) := by
  have hb := (bs_at (t := kl x) hr).le
  unfold apC apI nx ldB2
  have hfd : fdB L (kl x) (bsI (kl x) L) = true → bsI (kl x) L < L.length := fd_lt
  generalize bsI (kl x) L = p at *
  rw [List.take_length, Nat.min_eq_right hb]
  by_cases h : p < L.length
  · rw [if_pos h]
    simp [h]
  · have hp : p = L.length := by omega
    have hf : fdB L (kl x) p = false := by
      cases e : fdB L (kl x) p
      · rfl
      · exact absurd (hfd e) h
    rw [if_neg h, hf]
    cases x.gone <;> simp [h, hp]
theorem nx_len (L : List Ch) (x : Ch) (k : Nat) : (nx L x k).length ≤ L.length + L.length + 1 := by
  unfold nx
  simp only [List.length_append, List.length_take]
  split
  · split <;> simp <;> omega
  · simp; omega
end Go.Proofs.YtikkakdeapbioaaDoor
set_option linter.unusedSimpArgs false
set_option linter.unnecessarySimpa false
set_option linter.unusedVariables false
namespace Go.Proofs.YtikkakdeapbioaaDoor
open Go.RowKit

/-- a copy of changes -/
theorem run_cpyC {w : World} (a : Option Addr) (c : Nat) {l : List Ch} (h : ChsAt w a l) (hl : l.length ≤ 1000) (ty : TypeId) :
    ∃ v' w', (Builtin.append_ #[36, 36] ty #[.slice none 0 0, .slice a l.length c]).run Tryd.prog w = .ok v' w' ∧ w'.ownsRow w.heap.size 61 3 v' l.length (l.flatMap chC) ∧ Below w.heap.size w w' := by
  have hI := infoCh
  cases hq : Tryd.prog.info? 61 with
  | none => simp [hq] at hI
  | some inf =>
    obtain ⟨h1, h2, h3⟩ : inf.zero = some (.agg #[.string ⟨#[]⟩, .string ⟨#[]⟩, .bool false]) ∧ inf.size = 3 ∧ inf.bytes = 40 := by simpa [hq] using hI
    cases a with
    | none =>
      have hL : l = [] := by
        rcases h with h | ⟨b, o, h, -⟩
        · exact h
        · cases h
      subst hL
      refine ⟨.slice none 0 0, w, ?_, World.ownsRow_nil _ _ _ _, Below.refl _ _⟩
      simp [Builtin.append_, run_underlying Tryd.underlying36, sizeOf, typeInfo, hq, Builtin.lenOf, Builtin.firstCells, loadCells, loadCellsFrom]
    | some ad =>
      have hcells : ∀ j u, (l.flatMap chC)[j]? = some u → w.cell? (ad.add j) = some u := fun j u hu => by
        rcases h with h | ⟨b, o, h, -, hc⟩
        · rw [h] at hu; simp at hu
        · cases h
          rw [Addr.add_mid]; exact chs_flat hc j u hu
      obtain ⟨v', w', r1, r2, r3, -, r5⟩ := run_append_own_at (P := Tryd.prog) w w.heap.size 36 ty 61 inf (.agg #[.string ⟨#[]⟩, .string ⟨#[]⟩, .bool false]) 3 40 Tryd.underlying36 hq h1 h2 h3 rfl (by decide) (.slice none 0 0) 0 [] (World.ownsRow_nil _ _ _ _) ad l.length c (l.flatMap chC) (chs_len l) hcells (chs_one l) (by simp [maxLen]; omega) (by omega) (Nat.le_refl _)
      rw [Nat.zero_add, List.nil_append] at r2
      exact ⟨v', w', r1, r2, r3.os, r3.tape, r3.output, r3.size, fun k hk => r3.block k hk (by simp [Value.ownBlock])⟩
/-- one more behind the row -/
theorem run_oneC {w : World} {base : Nat} {v : Value} {l : List Ch} (h : w.ownsRow base 61 3 v l.length (l.flatMap chC)) (x : Ch) (hl : l.length ≤ 1000) (hb : base ≤ w.heap.size) :
    ∃ a' c' w', (Builtin.append_ #[36, 36] 36 #[v, .slice (some ⟨w.heap.size, 0, none⟩) 1 1]).run Tryd.prog (w.alloc (.cells #[.string x.key, .string x.val, .bool x.gone] 61)) = .ok (.slice a' (l.length + 1) c') w' ∧ w'.ownsRow base 61 3 (.slice a' (l.length + 1) c') (l ++ [x]).length ((l ++ [x]).flatMap chC) ∧ w.grownBy w' v.ownBlock := by
  have bl := (Below.refl w.heap.size w).alloc (Nat.le_refl _) (.cells #[.string x.key, .string x.val, .bool x.gone] 61)
  obtain ⟨v', w', r1, r2, r3, r5⟩ := run_app 36 61 36 Tryd.underlying36 infoCh rfl (by decide) (by decide) (own_pst h bl) (by omega) (by have := bl.size; omega) (news := chC x) rfl (chC_one x) w.heap.size (heap_alloc_last w _)
  obtain ⟨a', c', hv⟩ := own_form r2
  subst hv
  exact ⟨a', c', w', r1, by simpa using r2, grown_two (grown_bl bl _) r3⟩
set_option maxHeartbeats 4000000 in
set_option maxRecDepth 100000 in
theorem applied_any (a a2 : Option Addr) (c c2 : Nat) (l cs : List Ch) (w : World) (hl : ChsAt w a l) (hcs : ChsAt w a2 cs) (hr : Ris l) (hm : l.length ≤ 100) (hm2 : cs.length ≤ 100) :
    Calls Tryd.prog 22 #[.slice a l.length c, .slice a2 cs.length c2] w fun e w' => ∃ v', e = .returned v' ∧ w'.ownsRow w.heap.size 61 3 v' (apL l cs).length ((apL l cs).flatMap chC) ∧ Below w.heap.size w w' := by
  obtain ⟨v1, w1, r1, hO1, hb1⟩ := run_cpyC a c hl (by omega) 36
  have HL : Hid (KFit l ∧ KFit cs ∧ Ris l) := ⟨chs_fit hl, chs_fit hcs, hr⟩
  clear hr hl
  go_enter Tryd.func22, Tryd.ntmps22
  go_wp2_with (refine wpList_run (by rfl) (exec_append _ _ (.const (.slice none 0 0)) (.tmp 10) (by rfl) (by rfl) (by rfl) (by rfl) (by rfl) (by rfl) r1) ?_)
  clear r1
  go_loopw [5, 6, 7, 8, 9] (fun xo i _ _ _ wr => ∃ (k : Nat), k ≤ cs.length ∧ i = .int .i64 k ∧ wr.ownsRow w.heap.size 61 3 xo (apL l (cs.take k)).length ((apL l (cs.take k)).flatMap chC) ∧ Below w.heap.size w wr) (fun _ i _ _ _ _ => cs.length - (intOf i).toNat)
  case atStart => exact ⟨0, Nat.zero_le _, rfl, by simpa [apL] using hO1, hb1⟩
  case round =>
    clear hO1 hb1
    obtain ⟨k, hk, rfl, hO, hbl⟩ := hrel
    by_cases hlt : k < cs.length
    rotate_left
    · have dlt : decide ((k : Int) < (cs.length : Int)) = false := decide_eq_false (by omega)
      rw [List.take_of_length_le (by omega)] at hO
      go_wp2_with fail
      go_ret
      exact ⟨u5, rfl, hO, hbl⟩
    have dlt : decide ((k : Int) < (cs.length : Int)) = true := decide_eq_true (by omega)
    obtain ⟨x, hx⟩ : ∃ x, cs[k]? = some x := ⟨cs[k], List.getElem?_eq_getElem hlt⟩
    obtain ⟨b, o, rfl, hbb, hww⟩ := (hcs.below hbl).resolve_left (by rintro e; rw [e] at hlt; simp at hlt)
    obtain ⟨⟨q0, q1, q2⟩, z0, z1⟩ := hww k x hx
    have HT : Hid (apL l (cs.take (k + 1)) = apC (apL l (cs.take k)) x) := apL_take l cs k x hx
    have hlen : (apL l (cs.take k)).length ≤ 200 := by
      have := apL_len (cs.take k) l
      have : (cs.take k).length ≤ k := by rw [List.length_take]; omega
      omega
    have hR : Hid (Ris (apL l (cs.take k))) := apL_ris _ _ HL.out.2.2
    have hF : KFit (apL l (cs.take k)) := apL_fit _ _ HL.out.1 (HL.out.2.1.take k)
    obtain ⟨ao, co, hv, hat⟩ := own_at_chs hO hF
    subst hv
    clear hww hx hF
    generalize apL l (cs.take k) = L at *
    generalize wr = W0 at *
    go_wp2_with fail
    go_loopw [7, 8, 9] (fun xn xl j wr => ∃ (m : Nat), m ≤ L.length ∧ j = .int .i64 m ∧ xl = .bool (ldB2 L x m) ∧ wr.ownsRow W0.heap.size 61 3 xn (nx L x m).length ((nx L x m).flatMap chC) ∧ Below W0.heap.size W0 wr) (fun _ _ j _ => L.length - (intOf j).toNat)
    case atStart => exact ⟨0, Nat.zero_le _, rfl, by simp [ldB2], by rw [nx_zero]; exact World.ownsRow_nil _ _ _ _, Below.refl _ _⟩
    case round =>
      obtain ⟨m, hm', rfl, rfl, hN, hb0⟩ := hrel
      have hnl := nx_len L x m
      have hbw : b < wr.heap.size := Nat.lt_of_lt_of_le hbb hb0.size
      by_cases hml : m < L.length
      · have dml : decide ((m : Int) < (L.length : Int)) = true := decide_eq_true (by omega)
        obtain ⟨y, hy⟩ : ∃ y, L[m]? = some y := ⟨L[m], List.getElem?_eq_getElem hml⟩
        obtain ⟨b2, o2, rfl, hb2, hww2⟩ := hat.resolve_left (by rintro e; rw [e] at hml; simp at hml)
        obtain ⟨⟨t0, t1, t2⟩, -, -⟩ := hww2 m y hy
        have hst := nx_step hR.out (x := x) hy
        have hls := ld_step hR.out (x := x) hy
        have HA : Hid (∀ W : World, Below W0.heap.size W0 W → (W.cell? ⟨b, o + k * 3, none⟩ = some (.string x.key) ∧ W.cell? ⟨b, o + k * 3 + 1, none⟩ = some (.string x.val) ∧ W.cell? ⟨b, o + k * 3 + 2, none⟩ = some (.bool x.gone)) ∧ (W.cell? ⟨b2, o2 + m * 3, none⟩ = some (.string y.key) ∧ W.cell? ⟨b2, o2 + m * 3 + 1, none⟩ = some (.string y.val) ∧ W.cell? ⟨b2, o2 + m * 3 + 2, none⟩ = some (.bool y.gone)) ∧ b < W.heap.size ∧ b2 < W.heap.size) := fun W hW =>
          ⟨⟨((bcell hW).1 _ _ hbb).trans q0, ((bcell hW).1 _ _ hbb).trans q1, ((bcell hW).1 _ _ hbb).trans q2⟩, ⟨((bcell hW).1 _ _ hb2).trans t0, ((bcell hW).1 _ _ hb2).trans t1, ((bcell hW).1 _ _ hb2).trans t2⟩, Nat.lt_of_lt_of_le hbb hW.size, Nat.lt_of_lt_of_le hb2 hW.size⟩
        clear hww2 hy q0 q1 q2 t0 t1 t2 hbw
        have hle : leB2 x y = (Op.bytesLess x.key.toList y.key.toList || x.key.toList == y.key.toList) := rfl
        have hsy : (kl y == kl x) = (x.key.toList == y.key.toList) := by unfold kl; rw [Bool.eq_iff_iff]; simp; exact ⟨fun e => e.symm, fun e => e.symm⟩
        rw [hle, hsy] at hst
        rw [hle] at hls
        have hyx : (y.key.toList == x.key.toList) = (x.key.toList == y.key.toList) := hsy
        clear hle hsy
        obtain ⟨⟨k0, k1, k2⟩, ⟨s0, s1, s2⟩, z1, z2⟩ := HA.out wr hb0
        have hNb : W0.heap.size ≤ wr.heap.size := hb0.size
        cases hld : ldB2 L x m
        · cases e1 : Op.bytesLess x.key.toList y.key.toList
          · cases e2 : (x.key.toList == y.key.toList)
            · rw [hld, e1, e2] at hst hls
              rw [e2] at hyx
              have HST : Hid _ := hst
              have HLS : Hid (ldB2 L x (m + 1) = _) := hls
              clear hst hls hat
              have hNwr := hN
              have hBwr := hb0
              clear hN
              obtain ⟨an, cn, hv⟩ := own_form hNwr
              subst hv
              go_wp2_with fail
              go_quiet (fail)
              have hbq : Below wr.heap.size wr (wr.drewN nq) := below_drewN (Below.refl _ _) nq
              have hNw5 := own_pst hNwr hbq
              have hBw5 := Below_after hBwr hbq
              clear hbq k0 k1 k2 s0 s1 s2 z1 z2 hNwr hBwr
              generalize wr.drewN nq = w5 at *
              obtain ⟨⟨k0, k1, k2⟩, ⟨s0, s1, s2⟩, z1, z2⟩ := HA.out w5 hBw5
              go_wp2_with fail
              go_quiet (fail)
              have hbq : Below w5.heap.size w5 (w5.drewN nq) := below_drewN (Below.refl _ _) nq
              have hNw7 := own_pst hNw5 hbq
              have hBw7 := Below_after hBw5 hbq
              clear hbq k0 k1 k2 s0 s1 s2 z1 z2 hNw5 hBw5
              generalize w5.drewN nq = w7 at *
              obtain ⟨⟨k0, k1, k2⟩, ⟨s0, s1, s2⟩, z1, z2⟩ := HA.out w7 hBw7
              obtain ⟨aw8, cw8, w8, rw8, hNw8, hGw8⟩ := run_oneC hNw7 y (by have := hnl; (try simp only [List.length_append, List.length_singleton]); omega) hBw7.size
              have hBw8 : Below W0.heap.size W0 w8 := below_newrow3 hBw7 hGw8 (fun k' hk' => (hNw7.lt k' hk').1)
              clear hNw7 hGw8
              go_wp2_with (refine wpList_run (by rfl) (exec_append _ _ (.tmp 62) (.tmp 67) (by rfl) (by rfl) (by rfl) (by rfl) (by rfl) (by rfl) rw8) ?_)
              clear rw8 k0 k1 k2 s0 s1 s2 z1 z2
              obtain ⟨⟨k0, k1, k2⟩, ⟨s0, s1, s2⟩, z1, z2⟩ := HA.out w8 hBw8
              go_roundw
              case rel => exact ⟨m + 1, by omega, by go_num, by rw [HLS.out]; rfl, by rw [HST.out]; simpa using hNw8, hBw8⟩
              case measure => simp [intOf]; omega
            · rw [hld, e1, e2] at hst hls
              rw [e2] at hyx
              have HST : Hid _ := hst
              have HLS : Hid (ldB2 L x (m + 1) = _) := hls
              clear hst hls hat
              have hNwr := hN
              have hBwr := hb0
              clear hN
              obtain ⟨an, cn, hv⟩ := own_form hNwr
              subst hv
              go_wp2_with fail
              go_quiet (fail)
              have hbq : Below wr.heap.size wr (wr.drewN nq) := below_drewN (Below.refl _ _) nq
              have hNw5 := own_pst hNwr hbq
              have hBw5 := Below_after hBwr hbq
              clear hbq k0 k1 k2 s0 s1 s2 z1 z2 hNwr hBwr
              generalize wr.drewN nq = w5 at *
              obtain ⟨⟨k0, k1, k2⟩, ⟨s0, s1, s2⟩, z1, z2⟩ := HA.out w5 hBw5
              obtain ⟨aw6, cw6, w6, rw6, hNw6, hGw6⟩ := run_oneC hNw5 x (by have := hnl; (try simp only [List.length_append, List.length_singleton]); omega) hBw5.size
              have hBw6 : Below W0.heap.size W0 w6 := below_newrow3 hBw5 hGw6 (fun k' hk' => (hNw5.lt k' hk').1)
              clear hNw5 hGw6
              go_wp2_with (refine wpList_run (by rfl) (exec_append _ _ (.tmp 44) (.tmp 49) (by rfl) (by rfl) (by rfl) (by rfl) (by rfl) (by rfl) rw6) ?_)
              clear rw6 k0 k1 k2 s0 s1 s2 z1 z2
              obtain ⟨⟨k0, k1, k2⟩, ⟨s0, s1, s2⟩, z1, z2⟩ := HA.out w6 hBw6
              go_wp2_with fail
              go_quiet (fail)
              have hbq : Below w6.heap.size w6 (w6.drewN nq) := below_drewN (Below.refl _ _) nq
              have hNw7 := own_pst hNw6 hbq
              have hBw7 := Below_after hBw6 hbq
              clear hbq k0 k1 k2 s0 s1 s2 z1 z2 hNw6 hBw6
              generalize w6.drewN nq = w7 at *
              obtain ⟨⟨k0, k1, k2⟩, ⟨s0, s1, s2⟩, z1, z2⟩ := HA.out w7 hBw7
              go_wp2_with fail
              go_roundw
              case rel => exact ⟨m + 1, by omega, by go_num, by rw [HLS.out]; rfl, by rw [HST.out]; simpa using hNw7, hBw7⟩
              case measure => simp [intOf]; omega
          · have e2 : (x.key.toList == y.key.toList) = false := by simp; exact bl_ne e1
            rw [hld, e1, e2] at hst hls
            rw [e2] at hyx
            have HST : Hid _ := hst
            have HLS : Hid (ldB2 L x (m + 1) = _) := hls
            clear hst hls hat
            have hNwr := hN
            have hBwr := hb0
            clear hN
            obtain ⟨an, cn, hv⟩ := own_form hNwr
            subst hv
            go_wp2_with fail
            go_quiet (fail)
            have hbq : Below wr.heap.size wr (wr.drewN nq) := below_drewN (Below.refl _ _) nq
            have hNw5 := own_pst hNwr hbq
            have hBw5 := Below_after hBwr hbq
            clear hbq k0 k1 k2 s0 s1 s2 z1 z2 hNwr hBwr
            generalize wr.drewN nq = w5 at *
            obtain ⟨⟨k0, k1, k2⟩, ⟨s0, s1, s2⟩, z1, z2⟩ := HA.out w5 hBw5
            obtain ⟨aw6, cw6, w6, rw6, hNw6, hGw6⟩ := run_oneC hNw5 x (by have := hnl; (try simp only [List.length_append, List.length_singleton]); omega) hBw5.size
            have hBw6 : Below W0.heap.size W0 w6 := below_newrow3 hBw5 hGw6 (fun k' hk' => (hNw5.lt k' hk').1)
            clear hNw5 hGw6
            go_wp2_with (refine wpList_run (by rfl) (exec_append _ _ (.tmp 44) (.tmp 49) (by rfl) (by rfl) (by rfl) (by rfl) (by rfl) (by rfl) rw6) ?_)
            clear rw6 k0 k1 k2 s0 s1 s2 z1 z2
            obtain ⟨⟨k0, k1, k2⟩, ⟨s0, s1, s2⟩, z1, z2⟩ := HA.out w6 hBw6
            go_wp2_with fail
            go_quiet (fail)
            have hbq : Below w6.heap.size w6 (w6.drewN nq) := below_drewN (Below.refl _ _) nq
            have hNw7 := own_pst hNw6 hbq
            have hBw7 := Below_after hBw6 hbq
            clear hbq k0 k1 k2 s0 s1 s2 z1 z2 hNw6 hBw6
            generalize w6.drewN nq = w7 at *
            obtain ⟨⟨k0, k1, k2⟩, ⟨s0, s1, s2⟩, z1, z2⟩ := HA.out w7 hBw7
            obtain ⟨aw8, cw8, w8, rw8, hNw8, hGw8⟩ := run_oneC hNw7 y (by have := hnl; (try simp only [List.length_append, List.length_singleton]); omega) hBw7.size
            have hBw8 : Below W0.heap.size W0 w8 := below_newrow3 hBw7 hGw8 (fun k' hk' => (hNw7.lt k' hk').1)
            clear hNw7 hGw8
            go_wp2_with (refine wpList_run (by rfl) (exec_append _ _ (.tmp 62) (.tmp 67) (by rfl) (by rfl) (by rfl) (by rfl) (by rfl) (by rfl) rw8) ?_)
            clear rw8 k0 k1 k2 s0 s1 s2 z1 z2
            obtain ⟨⟨k0, k1, k2⟩, ⟨s0, s1, s2⟩, z1, z2⟩ := HA.out w8 hBw8
            go_roundw
            case rel => exact ⟨m + 1, by omega, by go_num, by rw [HLS.out]; rfl, by rw [HST.out]; simpa using hNw8, hBw8⟩
            case measure => simp [intOf]; omega
        · cases e1 : Op.bytesLess x.key.toList y.key.toList
          · cases e2 : (x.key.toList == y.key.toList)
            · rw [hld, e1, e2] at hst hls
              rw [e2] at hyx
              have HST : Hid _ := hst
              have HLS : Hid (ldB2 L x (m + 1) = _) := hls
              clear hst hls hat
              have hNwr := hN
              have hBwr := hb0
              clear hN
              obtain ⟨an, cn, hv⟩ := own_form hNwr
              subst hv
              go_wp2_with fail
              go_quiet (fail)
              have hbq : Below wr.heap.size wr (wr.drewN nq) := below_drewN (Below.refl _ _) nq
              have hNw5 := own_pst hNwr hbq
              have hBw5 := Below_after hBwr hbq
              clear hbq k0 k1 k2 s0 s1 s2 z1 z2 hNwr hBwr
              generalize wr.drewN nq = w5 at *
              obtain ⟨⟨k0, k1, k2⟩, ⟨s0, s1, s2⟩, z1, z2⟩ := HA.out w5 hBw5
              go_wp2_with fail
              go_quiet (fail)
              have hbq : Below w5.heap.size w5 (w5.drewN nq) := below_drewN (Below.refl _ _) nq
              have hNw7 := own_pst hNw5 hbq
              have hBw7 := Below_after hBw5 hbq
              clear hbq k0 k1 k2 s0 s1 s2 z1 z2 hNw5 hBw5
              generalize w5.drewN nq = w7 at *
              obtain ⟨⟨k0, k1, k2⟩, ⟨s0, s1, s2⟩, z1, z2⟩ := HA.out w7 hBw7
              obtain ⟨aw8, cw8, w8, rw8, hNw8, hGw8⟩ := run_oneC hNw7 y (by have := hnl; (try simp only [List.length_append, List.length_singleton]); omega) hBw7.size
              have hBw8 : Below W0.heap.size W0 w8 := below_newrow3 hBw7 hGw8 (fun k' hk' => (hNw7.lt k' hk').1)
              clear hNw7 hGw8
              go_wp2_with (refine wpList_run (by rfl) (exec_append _ _ (.tmp 62) (.tmp 67) (by rfl) (by rfl) (by rfl) (by rfl) (by rfl) (by rfl) rw8) ?_)
              clear rw8 k0 k1 k2 s0 s1 s2 z1 z2
              obtain ⟨⟨k0, k1, k2⟩, ⟨s0, s1, s2⟩, z1, z2⟩ := HA.out w8 hBw8
              go_roundw
              case rel => exact ⟨m + 1, by omega, by go_num, by rw [HLS.out]; rfl, by rw [HST.out]; simpa using hNw8, hBw8⟩
              case measure => simp [intOf]; omega
            · rw [hld, e1, e2] at hst hls
              rw [e2] at hyx
              have HST : Hid _ := hst
              have HLS : Hid (ldB2 L x (m + 1) = _) := hls
              clear hst hls hat
              have hNwr := hN
              have hBwr := hb0
              clear hN
              obtain ⟨an, cn, hv⟩ := own_form hNwr
              subst hv
              go_wp2_with fail
              go_quiet (fail)
              have hbq : Below wr.heap.size wr (wr.drewN nq) := below_drewN (Below.refl _ _) nq
              have hNw5 := own_pst hNwr hbq
              have hBw5 := Below_after hBwr hbq
              clear hbq k0 k1 k2 s0 s1 s2 z1 z2 hNwr hBwr
              generalize wr.drewN nq = w5 at *
              obtain ⟨⟨k0, k1, k2⟩, ⟨s0, s1, s2⟩, z1, z2⟩ := HA.out w5 hBw5
              go_wp2_with fail
              go_quiet (fail)
              have hbq : Below w5.heap.size w5 (w5.drewN nq) := below_drewN (Below.refl _ _) nq
              have hNw7 := own_pst hNw5 hbq
              have hBw7 := Below_after hBw5 hbq
              clear hbq k0 k1 k2 s0 s1 s2 z1 z2 hNw5 hBw5
              generalize w5.drewN nq = w7 at *
              obtain ⟨⟨k0, k1, k2⟩, ⟨s0, s1, s2⟩, z1, z2⟩ := HA.out w7 hBw7
              go_wp2_with fail
              go_roundw
              case rel => exact ⟨m + 1, by omega, by go_num, by rw [HLS.out]; rfl, by rw [HST.out]; simpa using hNw7, hBw7⟩
              case measure => simp [intOf]; omega
          · have e2 : (x.key.toList == y.key.toList) = false := by simp; exact bl_ne e1
            rw [hld, e1, e2] at hst hls
            rw [e2] at hyx
            have HST : Hid _ := hst
            have HLS : Hid (ldB2 L x (m + 1) = _) := hls
            clear hst hls hat
            have hNwr := hN
            have hBwr := hb0
            clear hN
            obtain ⟨an, cn, hv⟩ := own_form hNwr
            subst hv
            go_wp2_with fail
            go_quiet (fail)
            have hbq : Below wr.heap.size wr (wr.drewN nq) := below_drewN (Below.refl _ _) nq
            have hNw5 := own_pst hNwr hbq
            have hBw5 := Below_after hBwr hbq
            clear hbq k0 k1 k2 s0 s1 s2 z1 z2 hNwr hBwr
            generalize wr.drewN nq = w5 at *
            obtain ⟨⟨k0, k1, k2⟩, ⟨s0, s1, s2⟩, z1, z2⟩ := HA.out w5 hBw5
            go_wp2_with fail
            go_quiet (fail)
            have hbq : Below w5.heap.size w5 (w5.drewN nq) := below_drewN (Below.refl _ _) nq
            have hNw7 := own_pst hNw5 hbq
            have hBw7 := Below_after hBw5 hbq
            clear hbq k0 k1 k2 s0 s1 s2 z1 z2 hNw5 hBw5
            generalize w5.drewN nq = w7 at *
            obtain ⟨⟨k0, k1, k2⟩, ⟨s0, s1, s2⟩, z1, z2⟩ := HA.out w7 hBw7
            obtain ⟨aw8, cw8, w8, rw8, hNw8, hGw8⟩ := run_oneC hNw7 y (by have := hnl; (try simp only [List.length_append, List.length_singleton]); omega) hBw7.size
            have hBw8 : Below W0.heap.size W0 w8 := below_newrow3 hBw7 hGw8 (fun k' hk' => (hNw7.lt k' hk').1)
            clear hNw7 hGw8
            go_wp2_with (refine wpList_run (by rfl) (exec_append _ _ (.tmp 62) (.tmp 67) (by rfl) (by rfl) (by rfl) (by rfl) (by rfl) (by rfl) rw8) ?_)
            clear rw8 k0 k1 k2 s0 s1 s2 z1 z2
            obtain ⟨⟨k0, k1, k2⟩, ⟨s0, s1, s2⟩, z1, z2⟩ := HA.out w8 hBw8
            go_roundw
            case rel => exact ⟨m + 1, by omega, by go_num, by rw [HLS.out]; rfl, by rw [HST.out]; simpa using hNw8, hBw8⟩
            case measure => simp [intOf]; omega
      · have dml : decide ((m : Int) < (L.length : Int)) = false := decide_eq_false (by omega)
        have HM : Hid (m = L.length) := by show _ = _; omega
        have HE : Hid (apC L x = nx L x m ++ (if (!ldB2 L x m) = true then [x] else [])) := by show _ = _; rw [HM.out]; exact nx_end hR.out x
        have k0 : wr.cell? ⟨b, o + k * 3, none⟩ = some (.string x.key) := ((bcell hb0).1 _ _ hbb).trans q0
        have k1 : wr.cell? ⟨b, o + k * 3 + 1, none⟩ = some (.string x.val) := ((bcell hb0).1 _ _ hbb).trans q1
        have k2 : wr.cell? ⟨b, o + k * 3 + 2, none⟩ = some (.bool x.gone) := ((bcell hb0).1 _ _ hbb).trans q2
        clear q0 q1 q2 hat
        cases hld : ldB2 L x m
        · obtain ⟨a6, c6, w6, r1, hN6, hG6⟩ := run_oneC hN x (by omega) hb0.size
          have hb6 : Below W0.heap.size W0 w6 := below_newrow3 hb0 hG6 (fun k' hk' => (hN.lt k' hk').1)
          obtain ⟨an, cn, hv⟩ := own_form hN
          subst hv
          have HE2 : Hid (apC L x = nx L x m ++ [x]) := by show _ = _; rw [HE.out, hld]; rfl
          clear hN hG6
          go_wp2_with (refine wpList_run (by rfl) (exec_append _ _ (.tmp 71) (.tmp 76) (by rfl) (by rfl) (by rfl) (by rfl) (by rfl) (by rfl) r1) ?_)
          go_roundw
          case rel => exact ⟨k + 1, by omega, by go_num, by rw [HT.out, HE2.out]; simpa using ownsRow_mono hN6 hbl.size, Below_after hbl hb6⟩
          case measure => simp [intOf]; omega
        · have HE2 : Hid (apC L x = nx L x m) := by show _ = _; rw [HE.out, hld]; simp
          go_wp2_with fail
          go_roundw
          case rel => exact ⟨k + 1, by omega, by go_num, by rw [HT.out, HE2.out]; exact ownsRow_mono hN hbl.size, Below_after hbl hb0⟩
          case measure => simp [intOf]; omega
end Go.Proofs.YtikkakdeapbioaaDoor
