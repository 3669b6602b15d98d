/- Contracts of a whole store: Commit, Open, a formatted disk; the document's Commit. -/
/- writkeeplaw: Stored, stores; writkeeptop: kept; the document's Commit. -/
import Derived.Test.YtikkakdeapbioaaDoorStLawB
import Derived.Test.YtikkakdeapbioaaDoorStSame
import Derived.Test.YtikkakdeapbioaaDoorRowRef
import Derived.Test.YtikkakdeapbioaaDoorLightW
import Derived.Laws.Closers25b
set_option linter.unusedVariables false
set_option linter.unusedSimpArgs false
set_option linter.unnecessarySimpa false
namespace Go.Proofs.YtikkakdeapbioaaDoor
open Go.RowKit

theorem chk_pos {c : Ch} (h : chkC c ≠ 0) : 0 < chkC c := by
  unfold chkC at h ⊢
  split
  · decide
  · split
    · decide
    · rename_i h1 h2; rw [if_neg h1, if_neg h2] at h; exact absurd rfl h
set_option maxHeartbeats 1000000 in
set_option maxRecDepth 100000 in
theorem rfault_any (c : Ch) (w : World) (h1 : c.key.size ≤ maxLen) (h2 : c.val.size ≤ maxLen) :
    Calls Tryd.prog 35 #[.agg #[.string c.key, .string c.val, .bool c.gone]] w fun e w' => e = .returned (.int .i64 (chkC c)) ∧ Below w.heap.size w w' := by
  unfold maxLen at h1 h2
  have bl := (Below.refl w.heap.size w).alloc (Nat.le_refl _) (.cells #[.string c.key, .string c.val, .bool c.gone] 61)
  obtain ⟨key, val, gone⟩ := c
  dsimp only at h1 h2 bl ⊢
  cases gone
  all_goals
    go_enter Tryd.func35, Tryd.ntmps35
    go_wp2_with fail
    all_goals
      go_ret
      simp only [e_nil, e_emp, Bool.not_eq_true', Bool.not_eq_false', decide_eq_false_iff_not, decide_eq_true_eq] at *
      first
        | exact ⟨by rw [chk3 (by simp only [Bool.false_eq_true, reduceCtorEq, false_and, or_false, true_and] <;> omega)]; rfl, bl⟩
        | exact ⟨by rw [chk2 (by simp only [Bool.false_eq_true, reduceCtorEq, false_and, or_false, true_and] <;> omega) (by simp only [Bool.false_eq_true, reduceCtorEq, false_and, or_false, true_and] <;> omega)]; rfl, bl⟩
        | exact ⟨by rw [chk0 (by simp only [Bool.false_eq_true, reduceCtorEq, false_and, or_false, true_and] <;> omega) (by simp only [Bool.false_eq_true, reduceCtorEq, false_and, or_false, true_and] <;> omega)]; rfl, bl⟩
set_option maxHeartbeats 1000000 in
set_option maxRecDepth 100000 in
theorem same_eq (n : Int) (w : World) (h : 0 ≤ n) :
    Calls Tryd.prog 8 #[errV n, .int .i64 n] w fun e w' => e = .returned (.bool true) ∧ w' = w := by
  by_cases h0 : n = 0
  · subst h0
    rw [errV_zero]
    go_enter Tryd.func8, Tryd.ntmps8
    go_wp2_with fail
    go_ret
    exact ⟨rfl, rfl⟩
  · rw [errV_pos h0]
    have h1 : 0 < n := by omega
    have d1 : decide (0 < n) = true := decide_eq_true h1
    clear h0
    go_enter Tryd.func8, Tryd.ntmps8
    go_wp2_with fail
    go_ret
    exact ⟨rfl, rfl⟩
theorem rd_bnd (first : Nat) : ∀ (l : List (List UInt8)) (i : Nat) (st : Lst), st.deeds.length ≤ i → st.opn.length ≤ i → (∀ x ∈ st.deeds, x.length ≤ i) → (rdLog first l i st).deeds.length ≤ i + l.length ∧ ∀ x ∈ (rdLog first l i st).deeds, x.length ≤ i + l.length
  | [], i, st, h1, h2, h3 => ⟨by simpa [rdLog] using h1, by simpa [rdLog] using h3⟩
  | s :: r, i, st, h1, h2, h3 => by
    unfold rdLog
    split
    · exact ⟨by simp only [List.length_cons]; omega, fun x hx => by have := h3 x hx; simp only [List.length_cons]; omega⟩
    · rename_i st' hst
      have key : st'.deeds.length ≤ i + 1 ∧ st'.opn.length ≤ i + 1 ∧ ∀ x ∈ st'.deeds, x.length ≤ i + 1 := by
        rcases lstep_form hst with ⟨c, rfl⟩ | rfl
        · exact ⟨by dsimp only; omega, by simp; omega, fun x hx => by have := h3 x hx; omega⟩
        · refine ⟨by simp; omega, by simp, fun x hx => ?_⟩
          rcases List.mem_append.1 hx with hx | hx
          · have := h3 x hx; omega
          · simp at hx; rw [hx]; omega
      have := rd_bnd first r (i + 1) st' key.1 key.2.1 key.2.2
      exact ⟨by have := this.1; simp only [List.length_cons]; omega, fun x hx => by have := this.2 x hx; simp only [List.length_cons]; omega⟩

theorem commit_any (w : World) (B : Nat → Prop) (s p q : Nat) {F : Nat} {base : List Ch} {D : List (List Ch)} (x : Sto) (h : StoO w B s p q x) (hi : SI F x base D) (hF : F ≤ 800000) (a2 : Option Addr) (c2 : Nat) (l : List Ch) (hl : ChsB (FF B q s) w a2 l) (hm : l.length ≤ maxLen) :
    Calls Tryd.prog 11 #[.pointer (some ⟨s, 0, none⟩), .slice a2 l.length c2] w fun e w' => ∃ B' q', e = .returned (errV (cmC x l)) ∧ StoO w' B' s p q' (cmR x l) ∧ Tr (FF B q s) (FF B' q' s) w w' := by
  have hb := hi.stb (by omega)
  have hst : ∀ (n : Int), cmC x l = n → cmR x l = x → Calls Tryd.prog 11 #[.pointer (some ⟨s, 0, none⟩), .slice a2 l.length c2] w (fun e w' => e = .returned (errV n) ∧ Below w.heap.size w w') → Calls Tryd.prog 11 #[.pointer (some ⟨s, 0, none⟩), .slice a2 l.length c2] w fun e w' => ∃ B' q', e = .returned (errV (cmC x l)) ∧ StoO w' B' s p q' (cmR x l) ∧ Tr (FF B q s) (FF B' q' s) w w' := fun n e1 e2 hc => by
    refine hc.mono ?_
    rintro e w' ⟨rfl, hbl⟩
    exact ⟨B, q, by rw [e1], by rw [e2]; exact h.below hbl, Tr.of_below hbl⟩
  by_cases h1 : 62 < l.length
  · exact hst 2 (by unfold cmC; rw [if_pos h1]) (by unfold cmR; rw [if_pos h1]) (cm_many w B s p q x h hb a2 c2 l hl hm h1)
  by_cases h2 : chksC l = 0
  rotate_left
  · exact hst (chksC l) (by unfold cmC; rw [if_neg h1, if_pos h2]) (by unfold cmR; rw [if_neg h1, if_pos h2]) (cm_bad w B s p q x h hb a2 c2 l hl hm (by omega) h2)
  by_cases h3 : 60 < (apL x.rows l).length ∨ x.lg.many < l.length + 1
  · exact hst 9 (by unfold cmC; rw [if_neg h1, if_neg (by rw [h2]; decide), if_pos h3]) (by unfold cmR; rw [if_neg h1, if_neg (by rw [h2]; decide), if_pos h3]) (cm_full w B s p q x h hb a2 c2 l hl hm (by omega) h2 h3)
  have hC : cmC x l = if roomC x l ≠ 0 then roomC x l else addC (roomR x l) l := by unfold cmC; rw [if_neg h1, if_neg (by rw [h2]; decide), if_neg h3]
  have hR : cmR x l = if roomC x l ≠ 0 then roomR x l else addS (roomR x l) l (apL x.rows l) := by unfold cmR; rw [if_neg h1, if_neg (by rw [h2]; decide), if_neg h3]
  rw [hC, hR]
  by_cases h4 : l.length + 1 ≤ x.lg.many - x.lg.used
  · have r1 : roomC x l = 0 := by unfold roomC; rw [if_pos h4]
    have r2 : roomR x l = x := by unfold roomR; rw [if_pos h4]
    rw [r1, r2, if_neg (by decide), if_neg (by decide)]
    refine (cm_room w B s p q x h hb a2 c2 l hl hm (by omega) h2 h3 h4).mono ?_
    rintro e w' ⟨B', rfl, g1, g2⟩
    exact ⟨B', q, rfl, g1, g2⟩
  · have r1 : roomC x l = ckC x := by unfold roomC; rw [if_neg h4]
    have r2 : roomR x l = ckR x := by unfold roomR; rw [if_neg h4]
    rw [r1, r2]
    rcases ck_spec hi (by omega) with ⟨c0, c1, c2', c3, c4, c5⟩ | ⟨c0, -⟩
    · have hm2 : (ckR x).lg.many = x.lg.many := by
        have := c1.lg
        rw [this, hi.lg]
        dsimp only
        rw [c4]
      rw [c0, if_neg (by decide), if_neg (by decide)]
      exact cm_ckgood w B s p q x h hb a2 c2 l hl hm (by omega) h2 h3 h4 c0 (c1.stb (by omega)) (by rw [c3, hm2]; omega)
    · rw [c0, if_pos (by decide), if_pos (by decide)]
      have := cm_ckbad w B s p q x h hb a2 c2 l hl hm (by omega) h2 h3 h4 (by rw [c0]; decide)
      rw [c0] at this
      exact this
theorem chks_fit {l : List Ch} (h : chksC l = 0) : KFit l := fun c hc => by have := chk_zero (chks_mem h c hc); unfold maxLen; omega
theorem open_sk (B : Nat → Prop) (p : Nat) (d : Dk) (h : Hd3) (base : List Ch) (D : List (List Ch)) (u F : Nat) (w : World) (hd : DkO w B p d) (hq : QD d) (hs : SK d.now h base D u) (hF : h.first ≤ F) (hF2 : F ≤ 1000000) :
    Calls Tryd.prog 9 #[.pointer (some ⟨p, 0, none⟩)] w fun e w' => ∃ s q, e = .returned (.tuple #[.pointer (some ⟨s, 0, none⟩), .nilIface]) ∧ StoO w' B s p q ⟨d, h, ⟨102, d.now.length - 102, h.first, u⟩, foldR base D⟩ ∧ SI F ⟨d, h, ⟨102, d.now.length - 102, h.first, u⟩, foldR base D⟩ base D ∧ Below w.heap.size w w' ∧ w.heap.size ≤ s ∧ w.heap.size ≤ q := by
  obtain ⟨r1, r2⟩ := hs.inv.read
  have hb := (rd_bnd h.first (logT d.now) 0 ⟨[], [], 0⟩ (Nat.le_refl _) (Nat.le_refl _) (by intro x hx; cases hx)).1
  have hl : (logT d.now).length ≤ 100 := by have := hs.n2; unfold logT; simp; omega
  have hDl : D.length ≤ 1000 := by
    have e : (rdLog h.first (logT d.now) 0 ⟨[], [], 0⟩).deeds = D := r1
    rw [e] at hb; omega
  refine (open_good B p d h base D u w hd hq.down hs.n hs.hok (by omega) hs.sec0 (by rw [hs.txt]; exact split_join hs.good) hs.ris r1 r2 (fun k hk => Nat.le_trans (hs.rlen k hk) (by decide)) hDl (fun x hx => Nat.le_trans (hs.dlen x hx) (by decide)) (fun x hx => chks_fit (hs.dgood x hx))).mono ?_
  rintro e w' ⟨s, q, rfl, g1, g2, g3, g4⟩
  exact ⟨s, q, rfl, g1, ⟨hq, hs, rfl, rfl, hF⟩, g2, g3, g4⟩
theorem ris_nil' : Ris [] := by first | exact trivial | exact List.Pairwise.nil | simp [Ris]
/-- a disk that was formatted -/
theorem fmt_lay (n : Nat) (h1 : 166 ≤ n) (h2 : n ≤ 200) : LayH (newD n) h0 [] :=
  ⟨⟨rfl, rfl, rfl⟩, fun s hs => by simp [newD] at hs; rw [hs.2]; simp [zsec], by simp [newD]; exact h1, by simp [newD]; exact h2, by decide, by decide, by simp, ris_nil', by simp⟩
theorem fmt_any (B : Nat → Prop) (p n : Nat) (w : World) (hd : DkO w B p (newD n)) (h1 : 166 ≤ n) (h2 : n ≤ 200) :
    Calls Tryd.prog 10 #[.pointer (some ⟨p, 0, none⟩)] w fun e w' => ∃ B' d h, e = .returned .nilIface ∧ DkO w' B' p d ∧ Tr B B' w w' ∧ QD d ∧ SK d.now h [] [] 0 ∧ h.first ≤ 100 ∧ d.now.length = n ∧ d.left < 0 := by
  have hl := fmt_lay n h1 h2
  have hn : (newD n).now.length = n := by simp [newD]
  have hneg : (newD n).left < 0 := by show (-1 : Int) < 0; decide
  rcases lay_spec hl with ⟨k0, k1, k2, k3, k4, k5, k6⟩ | ⟨-, k1, -⟩
  · have hR : layR (newD n) h0 [] = (lay2 (newD n) h0 []).1 := by unfold layR; rw [if_pos k5]
    rw [hR] at k1 k2 k3 k4
    refine (format_good B p (newD n) w hd (by omega) (by show 0 ≤ 10000; decide) k5 k6).mono ?_
    rintro e w' ⟨B', rfl, g1, g2⟩
    refine ⟨B', _, _, rfl, g1, g2, k2, k1, ?_, k3.trans hn, by rw [k4 hneg]; exact hneg⟩
    have := (newF_bd (lay1 (newD n) h0 []).1.now 1).2
    show newF _ 1 ≤ _
    omega
  · omega
end Go.Proofs.YtikkakdeapbioaaDoor
set_option linter.unusedVariables false
set_option linter.unusedSimpArgs false
set_option linter.unnecessarySimpa false
namespace Go.Proofs.YtikkakdeapbioaaDoor
open Go.RowKit

set_option maxHeartbeats 4000000 in
set_option maxRecDepth 100000 in
theorem stored_any (n : Nat) (w : World) (h1 : 166 ≤ n) (h2 : n ≤ 200) :
    Calls Tryd.prog 18 #[.int .i64 (n : Int)] w fun e w' => ∃ B s p q x, e = .returned (.tuple #[.pointer (some ⟨p, 0, none⟩), .pointer (some ⟨s, 0, none⟩), .bool true]) ∧ StoO w' B s p q x ∧ SI 100 x [] [] ∧ x.d.now.length = n ∧ x.lg.used = 0 ∧ x.rows = [] ∧ x.d.left < 0 ∧ (∀ k, FF B q s k → w.heap.size ≤ k) ∧ Below w.heap.size w w' := by
  have hnew := new_o n w (by omega) h2
  go_enter Tryd.func18, Tryd.ntmps18
  go_wp2_with fail
  refine hnew.mono ?_
  rintro e w1 ⟨p, B, rfl, hD, hB, hb1⟩
  clear hnew
  have hf := fmt_any B p n w1 hD h1 h2
  clear hD
  go_wp2_with fail
  refine hf.mono ?_
  rintro e w2 ⟨B2, d, h, rfl, hD2, hT2, hq, hs, hF, hn, hneg⟩
  clear hf
  have hB2 := hT2.base hB hb1.size
  have bl2 : Below w.heap.size w w2 := hb1.trans (hT2.to_below hB hb1.size)
  have ho := open_sk B2 p d h [] [] 0 100 w2 hD2 hq hs hF (by decide)
  clear hB hb1 hT2 hD2
  go_wp2_with fail
  refine ho.mono ?_
  rintro e w3 ⟨s, q, rfl, hS, hI, hb3, hs3, hq3⟩
  clear ho
  have bl3 := Below_after bl2 hb3
  have hz := bl2.size
  go_wp2_with fail
  go_ret3
  refine ⟨B2, s, p, q, _, rfl, hS, hI, hn, rfl, rfl, hneg, fun k hk => ?_, bl3⟩
  rcases hk with (hk | hk) | hk
  · exact hB2 k hk
  · have : k = q := hk; omega
  · have : k = s := hk; omega
theorem room_sto (w : World) (B : Nat → Prop) (s p q : Nat) (x : Sto) (h : StoO w B s p q x) (h1 : x.lg.many ≤ 100000) (h2 : x.lg.used ≤ 100000) :
    Calls Tryd.prog 14 #[.pointer (some ⟨s, 0, none⟩)] w fun e w' => e = .returned (.int .i64 ((x.lg.many : Int) - (x.lg.used : Int))) ∧ Below w.heap.size w w' := by
  obtain ⟨a, c, e1, e2⟩ := h.st
  exact roomS_any s p q x.h _ x.lg w e1 h.lga h1 h2
theorem rows_sto (w : World) (B : Nat → Prop) (s p q : Nat) (x : Sto) (h : StoO w B s p q x) (h1 : x.rows.length ≤ 1000) :
    Calls Tryd.prog 16 #[.pointer (some ⟨s, 0, none⟩)] w fun e w' => ∃ a c, e = .returned (.slice a x.rows.length c) ∧ w'.ownsRow w.heap.size 61 3 (.slice a x.rows.length c) x.rows.length (x.rows.flatMap chC) ∧ ChsAt w' a x.rows ∧ Below w.heap.size w w' := by
  obtain ⟨a, c, e1, e2⟩ := h.st
  refine (rowsS_any s p q x.h a c x.rows w e1 e2.at_ h1).mono ?_
  rintro e w' ⟨v, rfl, hv, hb⟩
  obtain ⟨a', c', rfl, h2⟩ := own_at_chs hv (chs_fit e2.at_)
  exact ⟨a', c', rfl, hv, h2, hb⟩
def kx : Ch := ⟨⟨#[107]⟩, ⟨#[120]⟩, false⟩
theorem kx_app : apL [] [kx] = [kx] := rfl
theorem kx_chk : chksC [kx] = 0 := by decide
theorem kx_at (w : World) (B : Nat → Prop) (hB : ∀ k, B k → k < w.heap.size) : ChsB B (w.alloc (.cells #[.string ⟨#[107]⟩, .string ⟨#[120]⟩, .bool false] 61)) (some ⟨w.heap.size, 0, none⟩) [kx] := by
  refine .inr ⟨w.heap.size, 0, rfl, by simp, fun e => ?_, fun j x hx => ?_⟩
  · have := hB _ e; omega
  · have hB := (Bx.new w [.string ⟨#[107]⟩, .string ⟨#[120]⟩, .bool false] 61).2
    match j, hx with
    | 0, hx => simp [kx] at hx; subst hx; exact ⟨⟨(hB 0 _ rfl).1, (hB 1 _ rfl).1, (hB 2 _ rfl).1⟩, by decide, by decide⟩
set_option maxHeartbeats 4000000 in
set_option maxRecDepth 100000 in
theorem stores_any (w : World) : Calls Tryd.prog 5 #[] w fun e w' => e = .returned (.bool true) ∧ Below w.heap.size w w' := by
  have hst := stored_any 170 w (by decide) (by decide)
  rw [show ((170 : Nat) : Int) = 170 from rfl] at hst
  go_enter Tryd.func5, Tryd.ntmps5
  go_wp2_with fail
  refine hst.mono ?_
  rintro e w1 ⟨B, s, p, q, x, rfl, hS, hI, hn, hu, hr, hneg, hB, hb1⟩
  clear hst
  have hm : x.lg.many = 68 := by rw [hI.lg, hn]
  have ba := (Below.refl w1.heap.size w1).alloc (Nat.le_refl _) (.cells #[.string ⟨#[107]⟩, .string ⟨#[120]⟩, .bool false] 61)
  have hcm := commit_any _ B s p q x (hS.below ba) hI (by decide) (some ⟨w1.heap.size, 0, none⟩) 1 [kx] (kx_at w1 _ hS.lt) (by decide)
  have hmd : mdC x.lg.many x.rows [kx] = 0 := by rw [hm, hr]; decide
  rcases commit_spec hI (by decide) [kx] with ⟨k0, -⟩ | ⟨-, k1, ⟨base, D, k2⟩, k3, k4, k5, -⟩ | ⟨-, -, k1, -⟩
  · exact absurd hmd k0
  rotate_left
  · omega
  rw [k1, errV_zero] at hcm
  rw [hr, kx_app] at k3
  have hlm : (cmR x [kx]).lg.many = 68 := by rw [k2.lg, k5, hn]
  have hlu : (cmR x [kx]).lg.used = 2 := by rw [k4, hm, hu]; decide
  rw [show [kx].length = 1 from rfl] at hcm
  generalize cmR x [kx] = y at *
  clear k1 k4 k5 hmd hI hS
  go_wp2_with fail
  refine hcm.mono ?_
  rintro e w2 ⟨B2, q2, rfl, hS2, hT2⟩
  clear hcm
  have bl1 : Below w.heap.size w (w1.alloc (.cells #[.string ⟨#[107]⟩, .string ⟨#[120]⟩, .bool false] 61)) := Below_after hb1 ba
  have bl2 : Below w.heap.size w w2 := bl1.trans (hT2.to_below hB bl1.size)
  have hfirst : y.h.first ≤ 200 := by have := k2.first; rw [k2.lg] at this; exact this
  have ho := open_sk B2 p y.d y.h base D y.lg.used 200 w2 hS2.dk k2.q k2.sk hfirst (by decide)
  rw [← k2.rows, k3] at ho
  have hrm := fun W (hW : StoO W B2 s p q2 y) => room_sto W B2 s p q2 y hW (by rw [hlm]; decide) (by rw [hlu]; decide)
  rw [hlm, hlu] at hrm
  clear hT2 hB k2 k3 hb1 ba bl1 hlm hlu hfirst
  go_wp2_with fail
  refine ho.mono ?_
  rintro e w3 ⟨s3, q3, rfl, hS3, -, hb3, -, -⟩
  clear ho
  have hrw := rows_sto w3 B2 s3 p q3 _ hS3 (by show [kx].length ≤ 1000; decide)
  rw [show (Sto.mk y.d y.h ⟨102, y.d.now.length - 102, y.h.first, y.lg.used⟩ [kx]).rows.length = 1 from rfl] at hrw
  have hrm2 := fun W (hW : Below w3.heap.size w3 W) => hrm W ((hS2.below hb3).below hW)
  have bl3 := Below_after bl2 hb3
  clear hS3 hS2 hrm bl2 hb3
  go_wp2_with fail
  refine hrw.mono ?_
  rintro e w4 ⟨a4, c4, rfl, -, -, hb4⟩
  have hrm3 := hrm2 w4 hb4
  clear hrm2 hrw
  have bl4 := Below_after bl3 hb4
  go_wp2_with fail
  refine hrm3.mono ?_
  rintro e w5 ⟨rfl, hb5⟩
  go_wp2_with fail
  go_ret
  exact ⟨rfl, Below_after bl4 hb5⟩
set_option maxHeartbeats 4000000 in
set_option maxRecDepth 100000 in
theorem kept_any (w : World) : Calls Tryd.prog 17 #[] w fun e w' => e = .returned (.bool true) ∧ Below w.heap.size w w' := by
  have hst := stored_any 170 w (by decide) (by decide)
  rw [show ((170 : Nat) : Int) = 170 from rfl] at hst
  go_enter Tryd.func17, Tryd.ntmps17
  go_wp2_with fail
  refine hst.mono ?_
  rintro e w1 ⟨B, s, p, q, x, rfl, hS, hI, hn, hu, hr, hneg, hB, hb1⟩
  clear hst
  have hm : x.lg.many = 68 := by rw [hI.lg, hn]
  have ba := (Below.refl w1.heap.size w1).alloc (Nat.le_refl _) (.cells #[.string ⟨#[107]⟩, .string ⟨#[120]⟩, .bool false] 61)
  have hcm := commit_any _ B s p q x (hS.below ba) hI (by decide) (some ⟨w1.heap.size, 0, none⟩) 1 [kx] (kx_at w1 _ hS.lt) (by decide)
  have hmd : mdC x.lg.many x.rows [kx] = 0 := by rw [hm, hr]; decide
  rcases commit_spec hI (by decide) [kx] with ⟨k0, -⟩ | ⟨-, k1, ⟨base, D, k2⟩, k3, k4, k5, -⟩ | ⟨-, -, k1, -⟩
  · exact absurd hmd k0
  rotate_left
  · omega
  rw [k1, errV_zero] at hcm
  rw [hr, kx_app] at k3
  have hlm : (cmR x [kx]).lg.many = 68 := by rw [k2.lg, k5, hn]
  have hlu : (cmR x [kx]).lg.used = 2 := by rw [k4, hm, hu]; decide
  rw [show [kx].length = 1 from rfl] at hcm
  generalize cmR x [kx] = y at *
  clear k1 k4 k5 hmd hI hS
  go_wp2_with fail
  refine hcm.mono ?_
  rintro e w2 ⟨B2, q2, rfl, hS2, hT2⟩
  clear hcm
  have bl1 : Below w.heap.size w (w1.alloc (.cells #[.string ⟨#[107]⟩, .string ⟨#[120]⟩, .bool false] 61)) := Below_after hb1 ba
  have bl2 : Below w.heap.size w w2 := bl1.trans (hT2.to_below hB bl1.size)
  have hfirst : y.h.first ≤ 200 := by have := k2.first; rw [k2.lg] at this; exact this
  have ho := open_sk B2 p y.d y.h base D y.lg.used 200 w2 hS2.dk k2.q k2.sk hfirst (by decide)
  rw [← k2.rows, k3] at ho
  clear hT2 hB k2 k3 hb1 ba bl1 hlm hlu hfirst
  go_wp2_with fail
  refine ho.mono ?_
  rintro e w3 ⟨s3, q3, rfl, hS3, -, hb3, -, -⟩
  clear ho
  have hrw := rows_sto w3 B2 s3 p q3 _ hS3 (by show [kx].length ≤ 1000; decide)
  rw [show (Sto.mk y.d y.h ⟨102, y.d.now.length - 102, y.h.first, y.lg.used⟩ [kx]).rows.length = 1 from rfl] at hrw
  have bl3 := Below_after bl2 hb3
  clear hS3 hS2 bl2 hb3
  go_wp2_with fail
  refine hrw.mono ?_
  rintro e w4 ⟨a4, c4, rfl, -, -, hb4⟩
  clear hrw
  have bl4 := Below_after bl3 hb4
  go_wp2_with fail
  go_ret
  exact ⟨rfl, bl4⟩
/-! ### the document's Commit -/
def RsAt (w : World) (m : Nat) (v : Value) (used many : Int) : Prop := w.heap[m]? = some (.cells #[v, .int .i64 used, .int .i64 many] 38 (0, 0))
theorem RsAt.cells {w : World} {m : Nat} {v : Value} {used many : Int} (h : RsAt w m v used many) : w.cell? ⟨m, 0, none⟩ = some v ∧ w.cell? ⟨m, 1, none⟩ = some (.int .i64 used) ∧ w.cell? ⟨m, 2, none⟩ = some (.int .i64 many) := by
  refine ⟨?_, ?_, ?_⟩ <;> · rw [cell_of_row w m _ _ _ _ h]; rfl
theorem RsAt.free {w : World} {m : Nat} {v : Value} {used many : Int} (h : RsAt w m v used many) (j : Nat) : w.frozen? ⟨m, j, none⟩ = false := frozen_of_row w m j _ _ h
theorem RsAt.below {w w' : World} {m : Nat} {v : Value} {used many : Int} (h : RsAt w m v used many) (hb : Below w.heap.size w w') : RsAt w' m v used many := (hb.block m (heap_lt h)).trans h
theorem RsAt.tr {B B' : Nat → Prop} {w w' : World} {m : Nat} {v : Value} {used many : Int} (h : RsAt w m v used many) (ht : Tr B B' w w') (hn : ¬ B m) : RsAt w' m v used many := (ht.out (heap_lt h) hn).2.2.trans h
theorem RsAt.set0 {w : World} {m : Nat} {v : Value} {used many : Int} (h : RsAt w m v used many) (u : Value) : RsAt (w.setCell ⟨m, 0, none⟩ u) m u used many := by
  unfold RsAt
  rw [setCell_eq_setRow w m 0 _ _ _ _ h, setRow_heap w m _ _ _ _ h]
  rfl
theorem RsAt.set1 {w : World} {m : Nat} {v : Value} {used many : Int} (h : RsAt w m v used many) (u : Int) : RsAt (w.setCell ⟨m, 1, none⟩ (.int .i64 u)) m v u many := by
  unfold RsAt
  rw [setCell_eq_setRow w m 1 _ _ _ _ h, setRow_heap w m _ _ _ _ h]
  rfl
/-- no row of changes lies there -/
theorem RsAt.out {w : World} {m : Nat} {v : Value} {used many : Int} (h : RsAt w m v used many) (hv : ∃ a n c, v = .slice a n c) {B : Nat → Prop} {a : Option Addr} {l : List Ch} (hl : ChsB B w a l) : ChsB (Un B (On m)) w a l := by
  rcases hl with hl | ⟨b, o, ha, hb, hn, hc⟩
  · exact .inl hl
  cases l with
  | nil => exact .inl rfl
  | cons x r =>
    refine .inr ⟨b, o, ha, hb, fun e => ?_, hc⟩
    rcases e with e | e
    · exact hn e
    · have e' : b = m := e
      subst e'
      have hk := (hc 0 x rfl).1.1
      rw [cell_of_row w b _ _ _ _ h] at hk
      obtain ⟨a0, n0, c0, rfl⟩ := hv
      match o, hk with
      | 0, hk => simp at hk
      | 1, hk => simp at hk
      | 2, hk => simp at hk
      | o + 3, hk => simp at hk
set_option maxHeartbeats 4000000 in
set_option maxRecDepth 100000 in
theorem rcommit_bad (w : World) (m : Nat) (a2 : Option Addr) (c2 : Nat) (l : List Ch) (hl : ChsAt w a2 l) (hm : l.length ≤ maxLen) (h62 : l.length ≤ 62) (hz : chksC l ≠ 0) :
    Calls Tryd.prog 12 #[.pointer (some ⟨m, 0, none⟩), .slice a2 l.length c2] w fun e w' => e = .returned (.int .i64 (chksC l)) ∧ Below w.heap.size w w' := by
  have hcl := fun (c : Ch) W (h1 : c.key.size ≤ maxLen) (h2 : c.val.size ≤ maxLen) => rfault_any c W h1 h2
  go_enter Tryd.func12, Tryd.ntmps12
  go_wp2_with fail
  go_loopw [5] (fun i wr => ∃ k : Nat, k ≤ l.length ∧ i = .int .i64 k ∧ Hid (chksC (l.drop k) = chksC l) ∧ Below w.heap.size w wr) (fun i _ => l.length - (intOf i).toNat)
  case atStart => exact ⟨0, Nat.zero_le _, rfl, show Hid _ from rfl, Below.refl _ _⟩
  case round =>
    obtain ⟨k, hk, rfl, hck, bl⟩ := hrel
    by_cases hlt : k < l.length
    · have hx1 : l[k]? = some l[k] := List.getElem?_eq_getElem hlt
      have hcd := chks_drop hx1
      rw [hck.out] at hcd
      rcases hl with h0 | ⟨b, o, rfl, hbl, hc⟩
      · rw [h0] at hlt; simp at hlt
      have hcx := (hc k _ hx1).below bl hbl
      generalize hxx : l[k] = y at *
      obtain ⟨⟨q0, q1, q2⟩, hz1, hz2⟩ := hcx
      have hcc := fun W => hcl y W hz1 hz2
      have HD : Hid (chksC l = if chkC y = 0 then chksC (l.drop (k + 1)) else chkC y) := hcd
      clear hc hbl hxx hx1 hcd hcl
      by_cases hy : chkC y = 0
      · rw [hy] at hcc
        have HE : Hid (chksC (l.drop (k + 1)) = chksC l) := by have := HD.out; rw [if_pos hy] at this; exact this.symm
        clear HD hy hck
        go_wp2_with fail
        refine (hcc _).mono ?_
        rintro e w1 ⟨rfl, hb1⟩
        go_wp2_with fail
        go_roundw
        case rel => exact ⟨k + 1, by omega, by go_num, HE, Below_after bl hb1⟩
        case measure => simp [intOf]; omega
      · have hpos := chk_pos hy
        have HE : Hid (chksC l = chkC y) := by have := HD.out; rw [if_neg hy] at this; exact this
        clear HD hy hck hz
        generalize hq : chkC y = C at *
        clear hq
        have d1 : decide ((0 : Int) < C) = true := decide_eq_true hpos
        go_wp2_with fail
        refine (hcc _).mono ?_
        rintro e w1 ⟨rfl, hb1⟩
        go_wp2_with fail
        go_ret
        exact ⟨by rw [HE.out]; rfl, Below_after bl hb1⟩
    · exfalso
      have := hck.out
      rw [show k = l.length by omega, List.drop_length] at this
      exact hz this.symm
set_option maxHeartbeats 4000000 in
set_option maxRecDepth 100000 in
theorem rcommit_many (w : World) (m : Nat) (a2 : Option Addr) (c2 : Nat) (l : List Ch) (hm : l.length ≤ maxLen) (h62 : 62 < l.length) :
    Calls Tryd.prog 12 #[.pointer (some ⟨m, 0, none⟩), .slice a2 l.length c2] w fun e w' => e = .returned (.int .i64 2) ∧ w' = w := by
  unfold maxLen at hm
  have d1 : decide ((62 : Int) < (l.length : Int)) = true := decide_eq_true (by omega)
  go_enter Tryd.func12, Tryd.ntmps12
  go_wp2_with fail
  go_ret
  exact ⟨rfl, rfl⟩
theorem own_chsB {w : World} {base : Nat} {v : Value} {R : List Ch} (ho : w.ownsRow base 61 3 v R.length (R.flatMap chC)) (hf : KFit R) {B : Nat → Prop} (hB : ∀ k, B k → k < base) : ∃ a c, v = .slice a R.length c ∧ ChsB B w a R := by
  obtain ⟨a, c, hv, hat⟩ := own_at_chs ho hf
  refine ⟨a, c, hv, ?_⟩
  rcases ho.2 with ⟨e1, e2⟩ | ⟨g, cap, cur, e1, e2, e3, -⟩
  · exact .inl (List.length_eq_zero_iff.1 e2)
  · rw [hv] at e1
    cases e1
    rcases hat with hat | ⟨b', o', e6, e7, e8⟩
    · exact .inl hat
    · cases e6
      exact .inr ⟨_, _, rfl, e7, fun e => by have := hB _ e; omega, e8⟩
/-- the document's store, as it lies there -/
def RsO (C : Nat → Prop) (w : World) (m : Nat) (rows : List Ch) (used many : Nat) : Prop := ∃ a c, RsAt w m (.slice a rows.length c) used many ∧ ChsB C w a rows
theorem RsO.below {C : Nat → Prop} {w w' : World} {m : Nat} {rows : List Ch} {used many : Nat} (h : RsO C w m rows used many) (hb : Below w.heap.size w w') : RsO C w' m rows used many := by
  obtain ⟨a, c, h1, h2⟩ := h
  exact ⟨a, c, h1.below hb, h2.tr (Tr.of_below hb)⟩
set_option maxHeartbeats 4000000 in
set_option maxRecDepth 100000 in
theorem rcommit_good (C : Nat → Prop) (w : World) (m : Nat) (a2 : Option Addr) (c2 used many : Nat) (rows l : List Ch) (hCm : C m) (hC : Lt C w) (hx : RsO C w m rows used many) (hl : ChsAt w a2 l) (hr : Ris rows) (hn : rows.length ≤ 60) (hm : l.length ≤ maxLen) (hmany : many ≤ 1000) (hus : used ≤ many) (h62 : l.length ≤ 62) (hz : chksC l = 0) :
    Calls Tryd.prog 12 #[.pointer (some ⟨m, 0, none⟩), .slice a2 l.length c2] w fun e w' => e = .returned (.int .i64 (if 60 < (apL rows l).length ∨ many < l.length + 1 then 9 else 0)) ∧ RsO C w' m (if 60 < (apL rows l).length ∨ many < l.length + 1 then rows else apL rows l) (if 60 < (apL rows l).length ∨ many < l.length + 1 then used else mdU many used l) many ∧ Tr (On m) (On m) w w' := by
  have hcl := fun (c : Ch) W (h1 : c.key.size ≤ maxLen) (h2 : c.val.size ≤ maxLen) => rfault_any c W h1 h2
  go_enter Tryd.func12, Tryd.ntmps12
  go_wp2_with fail
  go_loopw [5] (fun i wr => ∃ k : Nat, k ≤ l.length ∧ i = .int .i64 k ∧ Hid (chksC (l.drop k) = chksC l) ∧ Below w.heap.size w wr) (fun i _ => l.length - (intOf i).toNat)
  case atStart => exact ⟨0, Nat.zero_le _, rfl, show Hid _ from rfl, Below.refl _ _⟩
  case round =>
    obtain ⟨k, hk, rfl, hck, bl⟩ := hrel
    by_cases hlt : k < l.length
    · have hx1 : l[k]? = some l[k] := List.getElem?_eq_getElem hlt
      have hcd := chks_drop hx1
      rw [hck.out] at hcd
      rcases hl with h0 | ⟨b, o, rfl, hbl, hc⟩
      · rw [h0] at hlt; simp at hlt
      have hcx := (hc k _ hx1).below bl hbl
      generalize hxx : l[k] = y at *
      obtain ⟨⟨q0, q1, q2⟩, hz1, hz2⟩ := hcx
      have hcc := fun W => hcl y W hz1 hz2
      have HD : Hid (chksC l = if chkC y = 0 then chksC (l.drop (k + 1)) else chkC y) := hcd
      clear hc hbl hxx hx1 hcd hcl
      by_cases hy : chkC y = 0
      · rw [hy] at hcc
        have HE : Hid (chksC (l.drop (k + 1)) = chksC l) := by have := HD.out; rw [if_pos hy] at this; exact this.symm
        clear HD hy hck
        go_wp2_with fail
        refine (hcc _).mono ?_
        rintro e w1 ⟨rfl, hb1⟩
        go_wp2_with fail
        go_roundw
        case rel => exact ⟨k + 1, by omega, by go_num, HE, Below_after bl hb1⟩
        case measure => simp [intOf]; omega
      · exfalso
        have := HD.out
        rw [if_neg hy, hz] at this
        exact hy this.symm
    · have hkk : k = l.length := by omega
      clear hck hcl hkk
      have hmw : m < w.heap.size := by obtain ⟨a, c, h1, -⟩ := hx; exact heap_lt h1
      obtain ⟨a, c, hbx, hrw⟩ := hx.below bl
      have happ := applied_any a a2 c c2 rows l wr hrw.at_ (ChsAt.below bl hl) hr (by omega) (by omega)
      have hfit := apL_fit l rows (chs_fit hrw.at_) (chs_fit hl)
      obtain ⟨c0, c1, c2'⟩ := hbx.cells
      have zm := heap_lt hbx
      generalize hR : apL rows l = R at *
      clear hx hl
      go_wp2_with fail
      refine happ.mono ?_
      rintro e w1 ⟨v', rfl, ho, hb1⟩
      obtain ⟨va, vc, rfl⟩ := own_form ho
      obtain ⟨va', vc', hve, hown⟩ := own_chsB ho hfit (B := C) (fun k hk => Nat.lt_of_lt_of_le (hC k hk) bl.size)
      cases hve
      have hbx1 := hbx.below hb1
      have hrw1 := hrw.tr (Tr.of_below (B := C) hb1)
      have bl1 := Below_after bl hb1
      clear c0 c1 c2' hbx hrw ho happ
      obtain ⟨c0, c1, c2'⟩ := hbx1.cells
      have zm1 := heap_lt hbx1
      by_cases h60 : 60 < R.length
      · have d1 : decide ((60 : Int) < (R.length : Int)) = true := decide_eq_true (by omega)
        go_wp2_with fail
        all_goals
          go_ret
          exact ⟨rfl, ⟨a, c, hbx1, hrw1⟩, Tr.of_below bl1⟩
      by_cases hmm : many < l.length + 1
      · have d1 : decide ((60 : Int) < (R.length : Int)) = false := decide_eq_false (by omega)
        have d2 : decide ((many : Int) < (l.length : Int) + 1) = true := decide_eq_true (by omega)
        go_wp2_with fail
        all_goals
          go_ret
          exact ⟨rfl, ⟨a, c, hbx1, hrw1⟩, Tr.of_below bl1⟩
      have d1 : decide ((60 : Int) < (R.length : Int)) = false := decide_eq_false (by omega)
      have d2 : decide ((many : Int) < (l.length : Int) + 1) = false := decide_eq_false (by omega)
      have f0 := hbx1.free 0
      have f1 := hbx1.free 1
      by_cases hro : many - used < l.length + 1
      · have d3 : decide ((many : Int) - (used : Int) < (l.length : Int) + 1) = true := decide_eq_true (by omega)
        have hU : mdU many used l = l.length + 1 := by unfold mdU; rw [if_pos hro]; omega
        go_wp2_with fail
        have hx2 : RsAt w1.drew m _ _ _ := hbx1.below (below_drewN (Below.refl _ _) 1)
        obtain ⟨e0, e1, e2⟩ := hx2.cells
        have g0 := hx2.free 0
        have g1 := hx2.free 1
        have ze := heap_lt hx2
        have ht2 : Tr (On m) (On m) w w1.drew := (Tr.of_below bl1).trans (Tr.drew _ _)
        have hown2 := hown.tr (Tr.drew C w1)
        clear hbx1 hrw1 hown c0 f0 f1
        refine wp_region_held_drew (S := fun w' => w'.cell? ⟨m, 2, none⟩ = some (.int .i64 (many : Int)) ∧ w'.cell? ⟨m, 1, none⟩ = some (.int .i64 (used : Int))) (by kernel_rfl) ?_ (fun hHeld => ?_)
        · exact ⟨c2', c1⟩
        refine wpAnyH_take (i := 0) (oi := ({ dst := some 44, op := Op.move (Operand.tmp 1), type := 36, pos := "store.go:216", after := #[], guard := none } : Oper)) (v := .slice a2 l.length c2) rfl (by kernel_rfl) (by kernel_rfl) (by kernel_rfl) (fun _ _ _ h => h) (Or.inl ⟨by rfl, ?_⟩) (by assumption) ?_
        · intro w hSw; (try dsimp only at hSw); go_simp
        (try simp only [Act.put, List.setIfInBounds_toArray, List.set_cons_zero, List.set_cons_succ])
        refine wpAnyH_take (i := 1) (oi := ({ dst := some 45, op := Op.call { callee := Callee.builtin Builtin.len, args := #[Operand.tmp 44], argTypes := #[36] }, type := 3, pos := "store.go:216", after := #[{ on := 0, ground := Ground.data }], guard := none } : Oper)) (v := .int .i64 (l.length : Int)) rfl (by kernel_rfl) (by kernel_rfl) (by kernel_rfl) (fun _ _ _ h => h) (Or.inl ⟨by rfl, ?_⟩) (by assumption) ?_
        · intro w hSw; (try dsimp only at hSw); go_simp
        (try simp only [Act.put, List.setIfInBounds_toArray, List.set_cons_zero, List.set_cons_succ])
        refine wpAnyH_take (i := 2) (oi := ({ dst := some 46, op := Op.binOp BinOp.add 3 (Operand.tmp 45) (Operand.const (Value.int IntKind.i64 1)) 3, type := 3, pos := "store.go:216", after := #[{ on := 1, ground := Ground.data }], guard := none } : Oper)) (v := .int .i64 ((l.length : Int) + 1)) rfl (by kernel_rfl) (by kernel_rfl) (by kernel_rfl) (fun _ _ _ h => h) (Or.inl ⟨by rfl, ?_⟩) (by assumption) ?_
        · intro w hSw; go_simp; exact wrap_id (by omega) (by omega)
        (try simp only [Act.put, List.setIfInBounds_toArray, List.set_cons_zero, List.set_cons_succ])
        refine wpAnyH_take (i := 3) (oi := ({ dst := some 47, op := Op.move (Operand.tmp 0), type := 35, pos := "store.go:216", after := #[], guard := none } : Oper)) (v := .pointer (some ⟨m, 0, none⟩)) rfl (by kernel_rfl) (by kernel_rfl) (by kernel_rfl) (fun _ _ _ h => h) (Or.inl ⟨by rfl, ?_⟩) (by assumption) ?_
        · intro w hSw; (try dsimp only at hSw); go_simp
        (try simp only [Act.put, List.setIfInBounds_toArray, List.set_cons_zero, List.set_cons_succ])
        refine wpAnyH_take (i := 4) (oi := ({ dst := some 48, op := Op.nilCheck (Operand.tmp 47), type := 0, pos := "store.go:216", after := #[{ on := 3, ground := Ground.data }], guard := none } : Oper)) (v := .pointer (some ⟨m, 0, none⟩)) rfl (by kernel_rfl) (by kernel_rfl) (by kernel_rfl) (fun _ _ _ h => h) (Or.inl ⟨by rfl, ?_⟩) (by assumption) ?_
        · intro w hSw; (try dsimp only at hSw); go_simp
        (try simp only [Act.put, List.setIfInBounds_toArray, List.set_cons_zero, List.set_cons_succ])
        refine wpAnyH_take (i := 5) (oi := ({ dst := some 49, op := Op.fieldAddr 38 (Operand.tmp 48) 2, type := 0, pos := "store.go:216", after := #[{ on := 4, ground := Ground.data }], guard := none } : Oper)) (v := .pointer (some ⟨m, 2, none⟩)) rfl (by kernel_rfl) (by kernel_rfl) (by kernel_rfl) (fun _ _ _ h => h) (Or.inl ⟨by rfl, ?_⟩) (by assumption) ?_
        · intro w hSw; (try dsimp only at hSw); go_simp
        (try simp only [Act.put, List.setIfInBounds_toArray, List.set_cons_zero, List.set_cons_succ])
        refine wpAnyH_take (i := 6) (oi := ({ dst := some 50, op := Op.load 3 (Operand.tmp 49), type := 3, pos := "store.go:216", after := #[{ on := 5, ground := Ground.data }], guard := none } : Oper)) (v := .int .i64 (many : Int)) rfl (by kernel_rfl) (by kernel_rfl) (by kernel_rfl) (fun _ _ _ h => h) (Or.inl ⟨by rfl, ?_⟩) (by assumption) ?_
        · intro w hSw; obtain ⟨q1, q2⟩ := hSw; go_simp
        (try simp only [Act.put, List.setIfInBounds_toArray, List.set_cons_zero, List.set_cons_succ])
        refine wpAnyH_take (i := 7) (oi := ({ dst := some 51, op := Op.move (Operand.tmp 0), type := 35, pos := "store.go:216", after := #[], guard := none } : Oper)) (v := .pointer (some ⟨m, 0, none⟩)) rfl (by kernel_rfl) (by kernel_rfl) (by kernel_rfl) (fun _ _ _ h => h) (Or.inl ⟨by rfl, ?_⟩) (by assumption) ?_
        · intro w hSw; (try dsimp only at hSw); go_simp
        (try simp only [Act.put, List.setIfInBounds_toArray, List.set_cons_zero, List.set_cons_succ])
        refine wpAnyH_take (i := 8) (oi := ({ dst := some 52, op := Op.nilCheck (Operand.tmp 51), type := 0, pos := "store.go:216", after := #[{ on := 7, ground := Ground.data }], guard := none } : Oper)) (v := .pointer (some ⟨m, 0, none⟩)) rfl (by kernel_rfl) (by kernel_rfl) (by kernel_rfl) (fun _ _ _ h => h) (Or.inl ⟨by rfl, ?_⟩) (by assumption) ?_
        · intro w hSw; (try dsimp only at hSw); go_simp
        (try simp only [Act.put, List.setIfInBounds_toArray, List.set_cons_zero, List.set_cons_succ])
        refine wpAnyH_take (i := 9) (oi := ({ dst := some 53, op := Op.fieldAddr 38 (Operand.tmp 52) 1, type := 0, pos := "store.go:216", after := #[{ on := 8, ground := Ground.data }], guard := none } : Oper)) (v := .pointer (some ⟨m, 1, none⟩)) rfl (by kernel_rfl) (by kernel_rfl) (by kernel_rfl) (fun _ _ _ h => h) (Or.inl ⟨by rfl, ?_⟩) (by assumption) ?_
        · intro w hSw; (try dsimp only at hSw); go_simp
        (try simp only [Act.put, List.setIfInBounds_toArray, List.set_cons_zero, List.set_cons_succ])
        refine wpAnyH_take (i := 10) (oi := ({ dst := some 54, op := Op.load 3 (Operand.tmp 53), type := 3, pos := "store.go:216", after := #[{ on := 9, ground := Ground.data }], guard := none } : Oper)) (v := .int .i64 (used : Int)) rfl (by kernel_rfl) (by kernel_rfl) (by kernel_rfl) (fun _ _ _ h => h) (Or.inl ⟨by rfl, ?_⟩) (by assumption) ?_
        · intro w hSw; obtain ⟨q1, q2⟩ := hSw; go_simp
        (try simp only [Act.put, List.setIfInBounds_toArray, List.set_cons_zero, List.set_cons_succ])
        refine wpAnyH_take (i := 11) (oi := ({ dst := some 55, op := Op.binOp BinOp.sub 3 (Operand.tmp 50) (Operand.tmp 54) 3, type := 3, pos := "store.go:216", after := #[{ on := 6, ground := Ground.data }, { on := 10, ground := Ground.data }], guard := none } : Oper)) (v := .int .i64 ((many : Int) - (used : Int))) rfl (by kernel_rfl) (by kernel_rfl) (by kernel_rfl) (fun _ _ _ h => h) (Or.inl ⟨by rfl, ?_⟩) (by assumption) ?_
        · intro w hSw; go_simp; exact wrap_id (by omega) (by omega)
        (try simp only [Act.put, List.setIfInBounds_toArray, List.set_cons_zero, List.set_cons_succ])
        refine wpAnyH_take (i := 12) (oi := ({ dst := some 56, op := Op.binOp BinOp.gtr 3 (Operand.tmp 46) (Operand.tmp 55) 3, type := 4, pos := "store.go:216", after := #[{ on := 2, ground := Ground.data }, { on := 11, ground := Ground.data }], guard := none } : Oper)) (v := .bool true) rfl (by kernel_rfl) (by kernel_rfl) (by kernel_rfl) (fun _ _ _ h => h) (Or.inl ⟨by rfl, ?_⟩) (by assumption) ?_
        · intro w hSw; go_simp
        (try simp only [Act.put, List.setIfInBounds_toArray, List.set_cons_zero, List.set_cons_succ])
        refine wpAnyH_done (by kernel_rfl) ?_ _
        clear c1 c2'
        generalize hwd : w1.drew = wd at *
        clear hwd
        go_wp2_with fail
        all_goals
          go_ret
          refine ⟨rfl, ⟨va, vc, ?_, (((hown2).tr (Tr.setCell (B := C) _ hCm 1 _)).tr (Tr.setCell (B := C) _ hCm 1 _)).tr (Tr.setCell (B := C) _ hCm 0 _)⟩, (((ht2).trans (Tr.setCell (B := On m) _ rfl 1 _)).trans (Tr.setCell (B := On m) _ rfl 1 _)).trans (Tr.setCell (B := On m) _ rfl 0 _)⟩
          rw [show ((l.length + 1 : Nat) : Int) = (l.length : Int) + 1 by omega]
          exact (((hx2).set1 _).set1 _).set0 _
-- end
      · have d3 : decide ((many : Int) - (used : Int) < (l.length : Int) + 1) = false := decide_eq_false (by omega)
        have hU : mdU many used l = used + (l.length + 1) := by unfold mdU; rw [if_neg hro]
        go_wp2_with fail
        have hx2 : RsAt w1.drew m _ _ _ := hbx1.below (below_drewN (Below.refl _ _) 1)
        obtain ⟨e0, e1, e2⟩ := hx2.cells
        have g0 := hx2.free 0
        have g1 := hx2.free 1
        have ze := heap_lt hx2
        have ht2 : Tr (On m) (On m) w w1.drew := (Tr.of_below bl1).trans (Tr.drew _ _)
        have hown2 := hown.tr (Tr.drew C w1)
        clear hbx1 hrw1 hown c0 f0 f1
        refine wp_region_held_drew (S := fun w' => w'.cell? ⟨m, 2, none⟩ = some (.int .i64 (many : Int)) ∧ w'.cell? ⟨m, 1, none⟩ = some (.int .i64 (used : Int))) (by kernel_rfl) ?_ (fun hHeld => ?_)
        · exact ⟨c2', c1⟩
        refine wpAnyH_take (i := 0) (oi := ({ dst := some 44, op := Op.move (Operand.tmp 1), type := 36, pos := "store.go:216", after := #[], guard := none } : Oper)) (v := .slice a2 l.length c2) rfl (by kernel_rfl) (by kernel_rfl) (by kernel_rfl) (fun _ _ _ h => h) (Or.inl ⟨by rfl, ?_⟩) (by assumption) ?_
        · intro w hSw; (try dsimp only at hSw); go_simp
        (try simp only [Act.put, List.setIfInBounds_toArray, List.set_cons_zero, List.set_cons_succ])
        refine wpAnyH_take (i := 1) (oi := ({ dst := some 45, op := Op.call { callee := Callee.builtin Builtin.len, args := #[Operand.tmp 44], argTypes := #[36] }, type := 3, pos := "store.go:216", after := #[{ on := 0, ground := Ground.data }], guard := none } : Oper)) (v := .int .i64 (l.length : Int)) rfl (by kernel_rfl) (by kernel_rfl) (by kernel_rfl) (fun _ _ _ h => h) (Or.inl ⟨by rfl, ?_⟩) (by assumption) ?_
        · intro w hSw; (try dsimp only at hSw); go_simp
        (try simp only [Act.put, List.setIfInBounds_toArray, List.set_cons_zero, List.set_cons_succ])
        refine wpAnyH_take (i := 2) (oi := ({ dst := some 46, op := Op.binOp BinOp.add 3 (Operand.tmp 45) (Operand.const (Value.int IntKind.i64 1)) 3, type := 3, pos := "store.go:216", after := #[{ on := 1, ground := Ground.data }], guard := none } : Oper)) (v := .int .i64 ((l.length : Int) + 1)) rfl (by kernel_rfl) (by kernel_rfl) (by kernel_rfl) (fun _ _ _ h => h) (Or.inl ⟨by rfl, ?_⟩) (by assumption) ?_
        · intro w hSw; go_simp; exact wrap_id (by omega) (by omega)
        (try simp only [Act.put, List.setIfInBounds_toArray, List.set_cons_zero, List.set_cons_succ])
        refine wpAnyH_take (i := 3) (oi := ({ dst := some 47, op := Op.move (Operand.tmp 0), type := 35, pos := "store.go:216", after := #[], guard := none } : Oper)) (v := .pointer (some ⟨m, 0, none⟩)) rfl (by kernel_rfl) (by kernel_rfl) (by kernel_rfl) (fun _ _ _ h => h) (Or.inl ⟨by rfl, ?_⟩) (by assumption) ?_
        · intro w hSw; (try dsimp only at hSw); go_simp
        (try simp only [Act.put, List.setIfInBounds_toArray, List.set_cons_zero, List.set_cons_succ])
        refine wpAnyH_take (i := 4) (oi := ({ dst := some 48, op := Op.nilCheck (Operand.tmp 47), type := 0, pos := "store.go:216", after := #[{ on := 3, ground := Ground.data }], guard := none } : Oper)) (v := .pointer (some ⟨m, 0, none⟩)) rfl (by kernel_rfl) (by kernel_rfl) (by kernel_rfl) (fun _ _ _ h => h) (Or.inl ⟨by rfl, ?_⟩) (by assumption) ?_
        · intro w hSw; (try dsimp only at hSw); go_simp
        (try simp only [Act.put, List.setIfInBounds_toArray, List.set_cons_zero, List.set_cons_succ])
        refine wpAnyH_take (i := 5) (oi := ({ dst := some 49, op := Op.fieldAddr 38 (Operand.tmp 48) 2, type := 0, pos := "store.go:216", after := #[{ on := 4, ground := Ground.data }], guard := none } : Oper)) (v := .pointer (some ⟨m, 2, none⟩)) rfl (by kernel_rfl) (by kernel_rfl) (by kernel_rfl) (fun _ _ _ h => h) (Or.inl ⟨by rfl, ?_⟩) (by assumption) ?_
        · intro w hSw; (try dsimp only at hSw); go_simp
        (try simp only [Act.put, List.setIfInBounds_toArray, List.set_cons_zero, List.set_cons_succ])
        refine wpAnyH_take (i := 6) (oi := ({ dst := some 50, op := Op.load 3 (Operand.tmp 49), type := 3, pos := "store.go:216", after := #[{ on := 5, ground := Ground.data }], guard := none } : Oper)) (v := .int .i64 (many : Int)) rfl (by kernel_rfl) (by kernel_rfl) (by kernel_rfl) (fun _ _ _ h => h) (Or.inl ⟨by rfl, ?_⟩) (by assumption) ?_
        · intro w hSw; obtain ⟨q1, q2⟩ := hSw; go_simp
        (try simp only [Act.put, List.setIfInBounds_toArray, List.set_cons_zero, List.set_cons_succ])
        refine wpAnyH_take (i := 7) (oi := ({ dst := some 51, op := Op.move (Operand.tmp 0), type := 35, pos := "store.go:216", after := #[], guard := none } : Oper)) (v := .pointer (some ⟨m, 0, none⟩)) rfl (by kernel_rfl) (by kernel_rfl) (by kernel_rfl) (fun _ _ _ h => h) (Or.inl ⟨by rfl, ?_⟩) (by assumption) ?_
        · intro w hSw; (try dsimp only at hSw); go_simp
        (try simp only [Act.put, List.setIfInBounds_toArray, List.set_cons_zero, List.set_cons_succ])
        refine wpAnyH_take (i := 8) (oi := ({ dst := some 52, op := Op.nilCheck (Operand.tmp 51), type := 0, pos := "store.go:216", after := #[{ on := 7, ground := Ground.data }], guard := none } : Oper)) (v := .pointer (some ⟨m, 0, none⟩)) rfl (by kernel_rfl) (by kernel_rfl) (by kernel_rfl) (fun _ _ _ h => h) (Or.inl ⟨by rfl, ?_⟩) (by assumption) ?_
        · intro w hSw; (try dsimp only at hSw); go_simp
        (try simp only [Act.put, List.setIfInBounds_toArray, List.set_cons_zero, List.set_cons_succ])
        refine wpAnyH_take (i := 9) (oi := ({ dst := some 53, op := Op.fieldAddr 38 (Operand.tmp 52) 1, type := 0, pos := "store.go:216", after := #[{ on := 8, ground := Ground.data }], guard := none } : Oper)) (v := .pointer (some ⟨m, 1, none⟩)) rfl (by kernel_rfl) (by kernel_rfl) (by kernel_rfl) (fun _ _ _ h => h) (Or.inl ⟨by rfl, ?_⟩) (by assumption) ?_
        · intro w hSw; (try dsimp only at hSw); go_simp
        (try simp only [Act.put, List.setIfInBounds_toArray, List.set_cons_zero, List.set_cons_succ])
        refine wpAnyH_take (i := 10) (oi := ({ dst := some 54, op := Op.load 3 (Operand.tmp 53), type := 3, pos := "store.go:216", after := #[{ on := 9, ground := Ground.data }], guard := none } : Oper)) (v := .int .i64 (used : Int)) rfl (by kernel_rfl) (by kernel_rfl) (by kernel_rfl) (fun _ _ _ h => h) (Or.inl ⟨by rfl, ?_⟩) (by assumption) ?_
        · intro w hSw; obtain ⟨q1, q2⟩ := hSw; go_simp
        (try simp only [Act.put, List.setIfInBounds_toArray, List.set_cons_zero, List.set_cons_succ])
        refine wpAnyH_take (i := 11) (oi := ({ dst := some 55, op := Op.binOp BinOp.sub 3 (Operand.tmp 50) (Operand.tmp 54) 3, type := 3, pos := "store.go:216", after := #[{ on := 6, ground := Ground.data }, { on := 10, ground := Ground.data }], guard := none } : Oper)) (v := .int .i64 ((many : Int) - (used : Int))) rfl (by kernel_rfl) (by kernel_rfl) (by kernel_rfl) (fun _ _ _ h => h) (Or.inl ⟨by rfl, ?_⟩) (by assumption) ?_
        · intro w hSw; go_simp; exact wrap_id (by omega) (by omega)
        (try simp only [Act.put, List.setIfInBounds_toArray, List.set_cons_zero, List.set_cons_succ])
        refine wpAnyH_take (i := 12) (oi := ({ dst := some 56, op := Op.binOp BinOp.gtr 3 (Operand.tmp 46) (Operand.tmp 55) 3, type := 4, pos := "store.go:216", after := #[{ on := 2, ground := Ground.data }, { on := 11, ground := Ground.data }], guard := none } : Oper)) (v := .bool false) rfl (by kernel_rfl) (by kernel_rfl) (by kernel_rfl) (fun _ _ _ h => h) (Or.inl ⟨by rfl, ?_⟩) (by assumption) ?_
        · intro w hSw; go_simp
        (try simp only [Act.put, List.setIfInBounds_toArray, List.set_cons_zero, List.set_cons_succ])
        refine wpAnyH_done (by kernel_rfl) ?_ _
        clear c1 c2'
        generalize hwd : w1.drew = wd at *
        clear hwd
        go_wp2_with fail
        all_goals
          go_ret
          refine ⟨rfl, ⟨va, vc, ?_, ((hown2).tr (Tr.setCell (B := C) _ hCm 1 _)).tr (Tr.setCell (B := C) _ hCm 0 _)⟩, ((ht2).trans (Tr.setCell (B := On m) _ rfl 1 _)).trans (Tr.setCell (B := On m) _ rfl 0 _)⟩
          rw [show ((used + (l.length + 1) : Nat) : Int) = (used : Int) + (l.length : Int) + 1 by omega]
          exact ((hx2).set1 _).set0 _
-- end
end Go.Proofs.YtikkakdeapbioaaDoor
