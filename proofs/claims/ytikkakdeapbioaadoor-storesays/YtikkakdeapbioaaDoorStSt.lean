/- writkeeplaw: StoreSays, walked. -/
/- writkeeplaw: StoreSays, of any disk, any acts. -/
import Derived.Test.YtikkakdeapbioaaDoorStFm
set_option linter.unusedVariables false
set_option linter.unusedSimpArgs false
set_option linter.unnecessarySimpa false
namespace Go.Proofs.YtikkakdeapbioaaDoor
open Go.RowKit

theorem commit_calm {F : Nat} {x : Sto} {base : List Ch} {D : List (List Ch)} (h : SI F x base D) (hF : F ≤ 800000) (hneg : x.d.left < 0) (l : List Ch) :
    cmC x l = mdC x.lg.many x.rows l ∧ (∃ b D, SI (F + 100) (cmR x l) b D) ∧ (cmR x l).rows = (if mdC x.lg.many x.rows l = 0 then apL x.rows l else x.rows) ∧ (cmR x l).lg.used = (if mdC x.lg.many x.rows l = 0 then mdU x.lg.many x.lg.used l else x.lg.used) ∧ (cmR x l).d.now.length = x.d.now.length ∧ (cmR x l).d.left = x.d.left := by
  rcases commit_spec h hF l with ⟨k0, k1, k2, k3⟩ | ⟨k0, k1, k2, k3, k4, k5, k6⟩ | ⟨-, -, k2, -⟩
  · rw [k3, if_neg k0, if_neg k0]
    exact ⟨k2, ⟨base, D, h.q, h.sk, h.lg, h.rows, by have := h.first; omega⟩, rfl, rfl, rfl, rfl⟩
  · rw [if_pos k0, if_pos k0]
    exact ⟨k1.trans k0.symm, k2, k3, k4, k5, k6 hneg⟩
  · omega
theorem mdC_nn (many : Nat) (rows l : List Ch) : 0 ≤ mdC many rows l := by
  unfold mdC
  split
  · decide
  · split
    · rcases chks_range l with h | h | h <;> rw [h] <;> decide
    · split <;> decide
theorem rcommit_any (C : Nat → Prop) (w : World) (m : Nat) (a2 : Option Addr) (c2 used many : Nat) (rows l : List Ch) (hCm : C m) (hC : Lt C w) (hx : RsO C w m rows used many) (hl : ChsAt w a2 l) (hr : Ris rows) (hn : rows.length ≤ 60) (hm : l.length ≤ maxLen) (hmany : many ≤ 1000) (hus : used ≤ many) :
    Calls Tryd.prog 12 #[.pointer (some ⟨m, 0, none⟩), .slice a2 l.length c2] w fun e w' => e = .returned (.int .i64 (mdC many rows l)) ∧ RsO C w' m (if mdC many rows l = 0 then apL rows l else rows) (if mdC many rows l = 0 then mdU many used l else used) many ∧ Tr (On m) (On m) w w' := by
  by_cases h1 : 62 < l.length
  · have e : mdC many rows l = 2 := by unfold mdC; rw [if_pos h1]
    rw [e]
    refine (rcommit_many w m a2 c2 l hm h1).mono ?_
    rintro e w' ⟨rfl, rfl⟩
    exact ⟨rfl, hx, Tr.of_below (Below.refl _ _)⟩
  by_cases h2 : chksC l = 0
  rotate_left
  · have e : mdC many rows l = chksC l := by unfold mdC; rw [if_neg h1, if_pos h2]
    rw [e, if_neg h2, if_neg h2]
    refine (rcommit_bad w m a2 c2 l hl hm (by omega) h2).mono ?_
    rintro e w' ⟨rfl, hb⟩
    exact ⟨rfl, hx.below hb, Tr.of_below hb⟩
  have e : mdC many rows l = if 60 < (apL rows l).length ∨ many < l.length + 1 then 9 else 0 := by unfold mdC; rw [if_neg h1, if_neg (by rw [h2]; decide)]
  have hgo := rcommit_good C w m a2 c2 used many rows l hCm hC hx hl hr hn hm hmany hus (by omega) h2
  rw [e]
  by_cases h3 : 60 < (apL rows l).length ∨ many < l.length + 1
  · simp only [if_pos h3] at hgo ⊢
    exact hgo
  · simp only [if_neg h3] at hgo ⊢
    exact hgo
/-- what stands in the loop -/
structure SsI (w0 wr : World) (B : Nat → Prop) (s p q m n : Nat) (x : Sto) (F : Nat) : Prop where
  S : StoO wr B s p q x
  I : ∃ base D, SI F x base D
  R : RsO (Un (FF B q s) (On m)) wr m x.rows x.lg.used (n - 102)
  many : x.lg.many = n - 102
  nl : x.d.now.length = n
  left : x.d.left < 0
  base : ∀ k, FF B q s k → w0.heap.size ≤ k
  nm : ¬ FF B q s m
  mb : w0.heap.size ≤ m
  bl : Below w0.heap.size w0 wr
theorem SsI.below {w0 wr w' : World} {B : Nat → Prop} {s p q m n : Nat} {x : Sto} {F : Nat} (h : SsI w0 wr B s p q m n x F) (hb : Below wr.heap.size wr w') : SsI w0 w' B s p q m n x F :=
  ⟨h.S.below hb, h.I, h.R.below hb, h.many, h.nl, h.left, h.base, h.nm, h.mb, Below_after h.bl hb⟩
theorem SsI.step {w0 wr w5 : World} {B B' : Nat → Prop} {s p q q' m n : Nat} {x y : Sto} {F : Nat} (h : SsI w0 wr B s p q m n x F) (hT : Tr (FF B q s) (FF B' q' s) wr w5) (hS : StoO w5 B' s p q' y) :
    RsO (Un (FF B' q' s) (On m)) w5 m x.rows x.lg.used (n - 102) ∧ ¬ FF B' q' s m ∧ (∀ k, FF B' q' s k → w0.heap.size ≤ k) ∧ Below w0.heap.size w0 w5 ∧ Lt (Un (FF B' q' s) (On m)) w5 := by
  obtain ⟨a, c, h1, h2⟩ := h.R
  have h3 := h1.tr hT h.nm
  refine ⟨⟨a, c, h3, h2.tr (hT.frame (On m))⟩, (hT.out (heap_lt h1) h.nm).2.1, hT.base h.base h.bl.size, h.bl.trans (hT.to_below h.base h.bl.size), fun k hk => ?_⟩
  rcases hk with hk | hk
  · exact hS.lt k hk
  · rw [show k = m from hk]; exact heap_lt h3
theorem SsI.next {w0 w5 w6 : World} {B : Nat → Prop} {s p q m n used : Nat} {rows : List Ch} {y : Sto} {F : Nat} (hS : StoO w5 B s p q y) (hnm : ¬ FF B q s m) (hbase : ∀ k, FF B q s k → w0.heap.size ≤ k) (hmb : w0.heap.size ≤ m) (hbl : Below w0.heap.size w0 w5) (hR5 : RsO (Un (FF B q s) (On m)) w5 m rows used (n - 102)) (hT6 : Tr (On m) (On m) w5 w6) (hR6 : RsO (Un (FF B q s) (On m)) w6 m y.rows y.lg.used (n - 102)) (hI : ∃ b D, SI F y b D) (hmany : y.lg.many = n - 102) (hnl : y.d.now.length = n) (hleft : y.d.left < 0) : SsI w0 w6 B s p q m n y F := by
  obtain ⟨a, c, h1, h2⟩ := hR5
  refine ⟨hS.past hT6 (fun k hk e => hnm (by rw [show k = m from hk] at e; exact e)) (fun a' c' _ h4 => ?_), hI, hR6, hmany, hnl, hleft, hbase, hnm, hmb, hbl.trans (hT6.to_below (fun k hk => by rw [show k = m from hk]; exact hmb) hbl.size)⟩
  have h5 := h1.out ⟨_, _, _, rfl⟩ h4
  have h6 : ChsB (Un (On m) (FF B q s)) w5 a' y.rows := h5.mono (fun k _ e => by rcases e with e | e; exact .inr e; exact .inl e)
  exact (h6.tr (hT6.frame (FF B q s))).mono (fun k _ e => .inr e)
theorem lacl' {l : List Ac} {m : Int} (h : lacB l m = true) : (l.length : Int) ≤ m := by
  unfold lacB at h
  rw [Bool.and_eq_true] at h
  exact of_decide_eq_true h.1
theorem lac_ch' {l : List Ac} {m : Int} (h : lacB l m = true) (x : Ac) (hx : x ∈ l) : x.ch.length ≤ 70 := by
  unfold lacB at h
  rw [Bool.and_eq_true, List.all_eq_true] at h
  have := h.2 x hx
  rw [Bool.and_eq_true] at this
  have := this.2
  unfold lchB at this
  rw [Bool.and_eq_true] at this
  have := of_decide_eq_true this.1
  omega
theorem SsI.again {w0 wr w5 : World} {B : Nat → Prop} {s p q s3 q3 m n : Nat} {x : Sto} {F : Nat} {base : List Ch} {D : List (List Ch)} (h : SsI w0 wr B s p q m n x F) (hr : x.rows = foldR base D) (hS : StoO w5 B s3 p q3 ⟨x.d, x.h, ⟨102, x.d.now.length - 102, x.h.first, x.lg.used⟩, foldR base D⟩) (hI : SI F ⟨x.d, x.h, ⟨102, x.d.now.length - 102, x.h.first, x.lg.used⟩, foldR base D⟩ base D) (hb : Below wr.heap.size wr w5) (h1 : wr.heap.size ≤ s3) (h2 : wr.heap.size ≤ q3) : SsI w0 w5 B s3 p q3 m n ⟨x.d, x.h, ⟨102, x.d.now.length - 102, x.h.first, x.lg.used⟩, foldR base D⟩ (F + 100) := by
  obtain ⟨a, c, r1, r2⟩ := h.R
  have hz := h.bl.size
  have hmz := heap_lt r1
  have hnl := h.nl
  refine ⟨hS, ⟨base, D, hI.q, hI.sk, hI.lg, hI.rows, by have := hI.first; omega⟩, ⟨a, c, ?_, ?_⟩, by show x.d.now.length - 102 = n - 102; rw [hnl], h.nl, h.left, fun k hk => ?_, fun e => ?_, h.mb, Below_after h.bl hb⟩
  · have := r1.below hb
    rw [hr] at this
    exact this
  · have h4 : ChsB (Un (FF B q3 s3) (On m)) wr a x.rows := r2.mono (fun k hk e => by
      rcases e with ((e | e) | e) | e
      · exact .inl (.inl (.inl e))
      · have : k = q3 := e; omega
      · have : k = s3 := e; omega
      · exact .inr e)
    have := h4.tr (Tr.of_below hb)
    rw [hr] at this
    exact this
  · rcases hk with (hk | hk) | hk
    · exact h.base k (.inl (.inl hk))
    · have : k = q3 := hk; omega
    · have : k = s3 := hk; omega
  · rcases e with (e | e) | e
    · exact h.nm (.inl (.inl e))
    · have : m = q3 := e; omega
    · have : m = s3 := e; omega
set_option maxHeartbeats 8000000 in
set_option maxRecDepth 100000 in
theorem ssays_go (n : Nat) (a : Option Addr) (l : List Ac) (c : Nat) (w : World) (hw : AcsAt w a l) (hm : l.length ≤ maxLen) (hq : lacB l 40 = true) (h1 : 166 ≤ n) (h2 : n ≤ 200) :
    Calls Tryd.prog 3 #[.int .i64 (n : Int), .slice a l.length c] w fun e w' => e = .returned (.bool true) ∧ Below w.heap.size w w' := by
  have hL40 : l.length ≤ 40 := by have := lacl' hq; omega
  have hst := stores_any w
  have hnew := fun W => new_o n W (by omega) h2
  have hla := fun W (hb : Below w.heap.size w W) => lac_any a c l 40 W (hw.below hb) hm (by decide) (by decide)
  rw [hq] at hla
  have d1 : decide ((n : Int) < 1) = false := decide_eq_false (by omega)
  have d2 : decide ((200 : Int) < (n : Int)) = false := decide_eq_false (by omega)
  have d3 : decide ((n : Int) < 166) = false := decide_eq_false (by omega)
  have HCH : Hid (∀ x ∈ l, x.ch.length ≤ 70) := lac_ch' hq
  clear hq
  go_enter Tryd.func3, Tryd.ntmps3
  go_wp2_with fail
  refine hst.mono ?_
  rintro e w1 ⟨rfl, hb1⟩
  clear hst
  go_wp2_with fail
  refine (hla w1 hb1).mono ?_
  rintro e w2 ⟨rfl, rfl⟩
  clear hla
  go_wp2_with fail
  refine (hnew _).mono ?_
  rintro e w3 ⟨p, B, rfl, hD, hB, hb3⟩
  clear hnew
  have bl3 := Below_after hb1 hb3
  have hz : (newD n).now[0]? = some zsec := by show (List.replicate n zsec)[0]? = _; rw [List.getElem?_replicate, if_pos (by omega)]
  have hno := open_no B p (newD n) w3 hD rfl hz
  replace hB : ∀ k, B k → w.heap.size ≤ k := fun k hk => Nat.le_trans hb1.size (hB k hk)
  clear hb1 hb3
  go_wp2_with fail
  refine hno.mono ?_
  rintro e w4 ⟨rfl, hb4⟩
  clear hno hz
  have hD4 := hD.below hb4
  have bl4 := Below_after bl3 hb4
  have hs4 := same_eq 4 w4 (by decide)
  rw [errV_pos (by decide)] at hs4
  clear hD bl3 hb4
  go_wp2_with fail
  refine hs4.mono ?_
  rintro e w5 ⟨rfl, rfl⟩
  clear hs4
  have hf := fmt_any B p n w5 hD4 h1 h2
  go_wp2_with fail
  refine hf.mono ?_
  rintro e w6 ⟨B6, d6, h6, rfl, hD6, hT6, hq6, hk6, hF6, hn6, hneg6⟩
  clear hf
  have hB6 := hT6.base hB bl4.size
  have bl6 : Below w.heap.size w w6 := bl4.trans (hT6.to_below hB bl4.size)
  have ho := open_sk B6 p d6 h6 [] [] 0 100 w6 hD6 hq6 hk6 hF6 (by decide)
  clear hB hT6 hD4 bl4
  go_wp2_with fail
  refine ho.mono ?_
  rintro e w7 ⟨s, q, rfl, hS, hI, hb7, hs7, hq7⟩
  clear ho
  have bl7 := Below_after bl6 hb7
  have zz := bl6.size
  have hbase : ∀ k, FF B6 q s k → w.heap.size ≤ k := fun k hk => by
    rcases hk with (hk | hk) | hk
    · exact hB6 k hk
    · have : k = q := hk; omega
    · have : k = s := hk; omega
  clear hB6 hD6 hk6 hq6 hb7 bl6 hs7 hq7 zz
  generalize hxx : Sto.mk d6 h6 ⟨102, d6.now.length - 102, h6.first, 0⟩ (foldR [] []) = x0 at hS hI
  have hx1 : x0.d.now.length = n := by rw [← hxx]; exact hn6
  have hx2 : x0.lg.used = 0 := by rw [← hxx]
  have hx3 : x0.rows = [] := by rw [← hxx]; rfl
  have hx4 : x0.d.left < 0 := by rw [← hxx]; exact hneg6
  clear hxx hF6 hn6 hneg6
  have HW : Hid (AcsAt w a l) := hw
  clear hw
  have hN0 : ∀ (W : World), W = w7.alloc (.cells #[.slice none 0 0, .int .i64 0, .int .i64 ((n : Int) - 102)] 38) → SsI w W B6 s p q w7.heap.size n x0 100 := fun W hW => by
    subst hW
    have ba := (Below.refl w7.heap.size w7).alloc (Nat.le_refl _) (.cells #[.slice none 0 0, .int .i64 0, .int .i64 ((n : Int) - 102)] 38)
    refine ⟨hS.below ba, ⟨_, _, hI⟩, ⟨none, 0, ?_, .inl hx3⟩, by rw [hI.lg]; dsimp only; rw [hx1], hx1, hx4, hbase, fun e => by have := hS.lt _ e; omega, bl7.size, Below_after bl7 ba⟩
    unfold RsAt
    rw [heap_alloc_last, hx3, hx2]
    simp only [List.length_nil]
    rw [show ((n - 102 : Nat) : Int) = (n : Int) - 102 by omega]
    rfl
  go_wp2_with fail
  have hN1 := hN0 _ rfl
  clear hN0 hS hI hx1 hx2 hx3 hx4 hbase bl7
  generalize w7.alloc (.cells #[.slice none 0 0, .int .i64 0, .int .i64 ((n : Int) - 102)] 38) = w8 at hN1 ⊢
  generalize w7.heap.size = m at hN1 ⊢
  go_loopw [12, 9] (fun i sv wr => ∃ (k : Nat) (B : Nat → Prop) (s q : Nat) (y : Sto) (F : Nat), k ≤ l.length ∧ i = .int .i64 k ∧ sv = .pointer (some ⟨s, 0, none⟩) ∧ F ≤ 100 + 100 * k ∧ SsI w wr B s p q m n y F) (fun i _ _ => l.length - (intOf i).toNat)
  case atStart => exact ⟨0, B6, s, q, x0, 100, Nat.zero_le _, rfl, rfl, by omega, hN1⟩
  case round =>
    clear hN1
    obtain ⟨k, B, s, q, y, F, hk, rfl, rfl, hF, h⟩ := hrel
    by_cases hlt : k < l.length
    rotate_left
    · have dlt : decide ((k : Int) < (l.length : Int)) = false := decide_eq_false (by omega)
      have hbl := h.bl
      clear h
      go_wp2_with fail
      go_ret
      exact ⟨rfl, hbl⟩
    have dlt : decide ((k : Int) < (l.length : Int)) = true := decide_eq_true (by omega)
    have hF8 : F ≤ 800000 := by omega
    obtain ⟨x, hx⟩ : ∃ x, l[k]? = some x := ⟨l[k], List.getElem?_eq_getElem hlt⟩
    have hc70 := HCH.out x (List.mem_of_getElem? hx)
    have hchs : ChsAt w x.xc x.ch := by
      obtain ⟨b2, o2, he, hbb2, hww2⟩ := HW.out.resolve_left (by rintro e; rw [e] at hlt; simp at hlt)
      exact (hww2 k x hx).2.2.2.2
    obtain ⟨b, o, rfl, hbb, hww⟩ := (HW.out.below h.bl).resolve_left (by rintro e; rw [e] at hlt; simp at hlt)
    obtain ⟨⟨q0, q1, q2, q3, q4, q5', q6, q7, q8, q9, q10⟩, i1, i2, i3, i4⟩ := hww k x hx
    have hchl := i3
    rw [i2] at q10
    clear hww hx i1 i2 i4
    generalize x.xc = xc at *
    have BX := Bx.new wr [.string x.kd, .string x.sd, .int .i64 x.ph, .int .i64 x.ps, .int .i64 x.qh, .int .i64 x.qs, .int .i64 x.aa, .int .i64 x.bb, .int .i64 x.nn, .int .u64 x.kk, .slice xc x.ch.length x.cc] 43
    have HGN : Hid (¬ FF B q s wr.heap.size) := fun e => by have := h.S.lt _ e; omega
    have hgm : ¬ wr.heap.size = m := fun e => by obtain ⟨_, _, hr, -⟩ := h.R; have := heap_lt hr; omega
    replace h := h.below ((Below.refl _ _).alloc (Nat.le_refl _) (.cells #[.string x.kd, .string x.sd, .int .i64 x.ph, .int .i64 x.ps, .int .i64 x.qh, .int .i64 x.qs, .int .i64 x.aa, .int .i64 x.bb, .int .i64 x.nn, .int .u64 x.kk, .slice xc x.ch.length x.cc] 43))
    have c0 := (BX.2 0 _ rfl).1
    have c10 := (BX.2 10 _ rfl).1
    have dx := BX.1
    by_cases hkd : x.kd.toList = [99, 111, 109, 109, 105, 116]
    · have k0 : (x.kd.toList == [99, 111, 109, 109, 105, 116]) = true := by simpa using hkd
      go_wp2_with fail
      generalize wr.alloc (.cells #[.string x.kd, .string x.sd, .int .i64 x.ph, .int .i64 x.ps, .int .i64 x.qh, .int .i64 x.qs, .int .i64 x.aa, .int .i64 x.bb, .int .i64 x.nn, .int .u64 x.kk, .slice xc x.ch.length x.cc] 43) = wk at *
      generalize wr.heap.size = g at *
      refine wp_region_held_drew (S := fun w' => w'.cell? ⟨g, 10, none⟩ = some (.slice xc x.ch.length x.cc)) (by kernel_rfl) ?_ (fun hHeld => ?_)
      · exact c10
      clear c0 c10 dx
      replace BX := BX.drew
      have hD : SsI w wk.drew B s p q m n y F := h.below (below_drewN (Below.refl _ _) 1)
      clear h
      generalize wk.drew = wd at BX hD hHeld ⊢
      refine wpAnyH_take (i := 0) (oi := ({ dst := some 107, op := Op.move (Operand.tmp 9), type := 31, pos := "law.go:546", after := #[], guard := none } : Oper)) (v := .pointer (some ⟨s, 0, none⟩)) rfl (by kernel_rfl) (by kernel_rfl) (by kernel_rfl) (fun _ _ _ h => h) (Or.inl ⟨by rfl, ?_⟩) (by assumption) ?_
      · intro w hSw; (try dsimp only at hSw); go_simp
      (try simp only [Act.put, List.setIfInBounds_toArray, List.set_cons_zero, List.set_cons_succ])
      refine wpAnyH_take (i := 1) (oi := ({ dst := some 108, op := Op.fieldAddr 43 (Operand.tmp 13) 8, type := 0, pos := "law.go:546", after := #[], guard := none } : Oper)) (v := .pointer (some ⟨g, 10, none⟩)) rfl (by kernel_rfl) (by kernel_rfl) (by kernel_rfl) (fun _ _ _ h => h) (Or.inl ⟨by rfl, ?_⟩) (by assumption) ?_
      · intro w hSw; (try dsimp only at hSw); go_simp
      (try simp only [Act.put, List.setIfInBounds_toArray, List.set_cons_zero, List.set_cons_succ])
      refine wpAnyH_take (i := 2) (oi := ({ dst := some 109, op := Op.load 36 (Operand.tmp 108), type := 36, pos := "law.go:546", after := #[{ on := 1, ground := Ground.data }], guard := none } : Oper)) (v := .slice xc x.ch.length x.cc) rfl (by kernel_rfl) (by kernel_rfl) (by kernel_rfl) (fun _ _ _ h => h) (Or.inl ⟨by rfl, ?_⟩) (by assumption) ?_
      · intro w hSw; go_simp
      (try simp only [Act.put, List.setIfInBounds_toArray, List.set_cons_zero, List.set_cons_succ])
      refine wpAnyH_take (i := 4) (oi := ({ dst := some 111, op := Op.move (Operand.tmp 11), type := 35, pos := "law.go:546", after := #[], guard := none } : Oper)) (v := .pointer (some ⟨m, 0, none⟩)) rfl (by kernel_rfl) (by kernel_rfl) (by kernel_rfl) (fun _ _ _ h => h) (Or.inl ⟨by rfl, ?_⟩) (by assumption) ?_
      · intro w hSw; (try dsimp only at hSw); go_simp
      (try simp only [Act.put, List.setIfInBounds_toArray, List.set_cons_zero, List.set_cons_succ])
      refine wpAnyH_take (i := 5) (oi := ({ dst := some 112, op := Op.fieldAddr 43 (Operand.tmp 13) 8, type := 0, pos := "law.go:546", after := #[], guard := none } : Oper)) (v := .pointer (some ⟨g, 10, none⟩)) rfl (by kernel_rfl) (by kernel_rfl) (by kernel_rfl) (fun _ _ _ h => h) (Or.inl ⟨by rfl, ?_⟩) (by assumption) ?_
      · intro w hSw; (try dsimp only at hSw); go_simp
      (try simp only [Act.put, List.setIfInBounds_toArray, List.set_cons_zero, List.set_cons_succ])
      refine wpAnyH_take (i := 6) (oi := ({ dst := some 113, op := Op.load 36 (Operand.tmp 112), type := 36, pos := "law.go:546", after := #[{ on := 5, ground := Ground.data }], guard := none } : Oper)) (v := .slice xc x.ch.length x.cc) rfl (by kernel_rfl) (by kernel_rfl) (by kernel_rfl) (fun _ _ _ h => h) (Or.inl ⟨by rfl, ?_⟩) (by assumption) ?_
      · intro w hSw; go_simp
      (try simp only [Act.put, List.setIfInBounds_toArray, List.set_cons_zero, List.set_cons_succ])
      refine wpAnyH_ready (rs := [3]) (by kernel_rfl) (by simp) ?_
      refine AllReadyH.cons (o := ({ dst := some 110, op := Op.call { callee := Callee.value (Operand.func 11), args := #[Operand.tmp 107, Operand.tmp 109], argTypes := #[31, 36] }, type := 27, pos := "law.go:546", after := #[{ on := 0, ground := Ground.data }, { on := 2, ground := Ground.data }], guard := none } : Oper)) rfl (fun K hK => ?_) AllReadyH.nil
      rw [if_pos (by rfl)]
      obtain ⟨base, D, hI⟩ := hD.I
      have hcm := commit_any wd B s p q y hD.S hI hF8 xc x.cc x.ch (ChsAt.outside (base := 0) hchs hD.bl (fun k hk => hD.base k hk)) hchl
      obtain ⟨k1, k2, k3, k4, k5, k6⟩ := commit_calm hI hF8 hD.left x.ch
      have HK : Hid ((∃ b D, SI (F + 100) (cmR y x.ch) b D) ∧ (cmR y x.ch).rows = (if mdC y.lg.many y.rows x.ch = 0 then apL y.rows x.ch else y.rows) ∧ (cmR y x.ch).lg.used = (if mdC y.lg.many y.rows x.ch = 0 then mdU y.lg.many y.lg.used x.ch else y.lg.used) ∧ (cmR y x.ch).d.now.length = y.d.now.length ∧ (cmR y x.ch).d.left = y.d.left) := ⟨k2, k3, k4, k5, k6⟩
      rw [k1] at hcm
      clear k1 k2 k3 k4 k5 k6
      have hcc := mdC_nn y.lg.many y.rows x.ch
      generalize hz : cmR y x.ch = z at hcm HK
      clear hz
      have hyI := hI.stb (by omega)
      clear hI
      generalize hmc : mdC y.lg.many y.rows x.ch = cc at hcm hcc HK
      have HMC : Hid (mdC y.lg.many y.rows x.ch = cc) := hmc
      clear hmc
      go_wp2_with fail
      refine hcm.mono ?_
      rintro e w5 ⟨B5, q5, rfl, hS5, hT5⟩
      obtain ⟨hR5, hnm5, hbase5, hbl5, hlt5⟩ := hD.step hT5 hS5
      have BX5 := BX.tr hT5 HGN.out
      clear hcm
      refine hK.out _ _ ?_ (fun hHeld => ?_)
      · exact (BX5.2 10 _ rfl).1
      clear hK K
      (try simp only [Act.put, List.setIfInBounds_toArray, List.set_cons_zero, List.set_cons_succ])
      refine wpAnyH_ready (rs := [7]) (by kernel_rfl) (by simp) ?_
      refine AllReadyH.cons (o := ({ dst := some 114, op := Op.call { callee := Callee.value (Operand.func 12), args := #[Operand.tmp 111, Operand.tmp 113], argTypes := #[35, 36] }, type := 3, pos := "law.go:546", after := #[{ on := 4, ground := Ground.data }, { on := 6, ground := Ground.data }, { on := 3, ground := Ground.chain }], guard := none } : Oper)) rfl (fun K hK => ?_) AllReadyH.nil
      rw [if_pos (by rfl)]
      have hrc := rcommit_any (Un (FF B5 q5 s) (On m)) w5 m xc x.cc y.lg.used (n - 102) y.rows x.ch (.inr rfl) hlt5 hR5 (ChsB.at_ (ChsAt.outside (base := 0) (B := fun _ => False) hchs hbl5 (fun k hk => hk.elim))) hyI.ris hyI.len hchl (by omega) (by rw [← hD.many]; exact hyI.used)
      rw [← hD.many, HMC.out] at hrc
      go_wp2_with fail
      refine hrc.mono ?_
      rintro e w6 ⟨rfl, hR6, hT6⟩
      have BX6 := BX5.tr hT6 (fun e => hgm e)
      clear hrc
      refine hK.out _ _ ?_ (fun hHeld => ?_)
      · exact (BX6.2 10 _ rfl).1
      clear hK K
      (try simp only [Act.put, List.setIfInBounds_toArray, List.set_cons_zero, List.set_cons_succ])
      refine wpAnyH_ready (rs := [8]) (by kernel_rfl) (by simp) ?_
      refine AllReadyH.cons (o := ({ dst := some 115, op := Op.call { callee := Callee.value (Operand.func 8), args := #[Operand.tmp 110, Operand.tmp 114], argTypes := #[27, 3] }, type := 4, pos := "law.go:546", after := #[{ on := 3, ground := Ground.data }, { on := 7, ground := Ground.data }, { on := 7, ground := Ground.chain }], guard := none } : Oper)) rfl (fun K hK => ?_) AllReadyH.nil
      rw [if_pos (by rfl)]
      go_wp2_with fail
      refine (same_eq cc w6 hcc).mono ?_
      rintro e w7 ⟨rfl, rfl⟩
      refine hK.out _ _ ?_ (fun hHeld => ?_)
      · exact (BX6.2 10 _ rfl).1
      clear hK K
      (try simp only [Act.put, List.setIfInBounds_toArray, List.set_cons_zero, List.set_cons_succ])
      refine wpAnyH_take (i := 9) (oi := ({ dst := some 116, op := Op.unOp UnOp.not 4 (Operand.tmp 115), type := 4, pos := "law.go:546", after := #[{ on := 8, ground := Ground.data }], guard := none } : Oper)) (v := .bool false) rfl (by kernel_rfl) (by kernel_rfl) (by kernel_rfl) (fun _ _ _ h => h) (Or.inl ⟨by rfl, ?_⟩) (by assumption) ?_
      · intro w hSw; (try dsimp only at hSw); go_simp
      (try simp only [Act.put, List.setIfInBounds_toArray, List.set_cons_zero, List.set_cons_succ])
      refine wpAnyH_done (by kernel_rfl) ?_ _
      obtain ⟨k2, k3, k4, k5, k6⟩ := HK.out
      rw [← k3, ← k4] at hR6
      have hN : SsI w w7 B5 s p q5 m n z (F + 100) := SsI.next hS5 hnm5 hbase5 hD.mb hbl5 hR5 hT6 (by rw [← hD.many]; exact hR6) k2 (by obtain ⟨b, D, hI⟩ := k2; rw [hI.lg]; dsimp only; rw [k5, hD.nl]) (k5.trans hD.nl) (by rw [k6]; exact hD.left)
      clear hR6 hR5 hS5 hnm5 hbase5 hbl5 hlt5 hT6 hT5 hD HK HMC hyI BX BX5 BX6 k2 k3 k4 k5 k6 hcc hHeld
      obtain ⟨base, D, hI⟩ := hN.I
      have hzb := hI.stb (by omega)
      clear hI
      have hrm := fun W (hW : StoO W B5 s p q5 z) => room_sto W B5 s p q5 z hW (by have := hN.many; omega) (by have := hN.many; have := hzb.used; omega)
      have hMU : Hid ((z.lg.many : Int) - (z.lg.used : Int) = (n : Int) - 102 - (z.lg.used : Int)) := by show _ = _; have := hN.many; omega
      rw [hMU.out] at hrm
      have huz : z.lg.used ≤ 98 := by have := hN.many; have := hzb.used; omega
      obtain ⟨ra, rc, hRA, hRC⟩ := hN.R
      obtain ⟨m0, m1, m2⟩ := hRA.cells
      rw [show ((n - 102 : Nat) : Int) = (n : Int) - 102 by omega] at m2
      have HRA : Hid (RsAt w7 m (.slice ra z.rows.length rc) z.lg.used (n - 102 : Nat) ∧ ChsB (Un (FF B5 q5 s) (On m)) w7 ra z.rows) := ⟨hRA, hRC⟩
      clear hRA hRC
      have zm := heap_lt HRA.out.1
      go_wp2_with fail
      refine wp_region_held_drew (S := fun w' => w'.cell? ⟨m, 0, none⟩ = some (.slice ra z.rows.length rc) ∧ w'.cell? ⟨m, 1, none⟩ = some (.int .i64 (z.lg.used : Int)) ∧ w'.cell? ⟨m, 2, none⟩ = some (.int .i64 ((n : Int) - 102))) (by kernel_rfl) ?_ (fun hHeld => ?_)
      · exact ⟨m0, m1, m2⟩
      clear m0 m1 m2
      have hD : SsI w w7.drew B5 s p q5 m n z (F + 100) := hN.below (below_drewN (Below.refl _ _) 1)
      have HRD : Hid (RsAt w7.drew m (.slice ra z.rows.length rc) z.lg.used (n - 102 : Nat) ∧ ChsB (Un (FF B5 q5 s) (On m)) w7.drew ra z.rows) := ⟨HRA.out.1.below (below_drewN (Below.refl _ _) 1), HRA.out.2.tr (Tr.drew _ _)⟩
      clear hN HRA
      generalize w7.drew = wd at hD HRD hHeld ⊢
      refine wpAnyH_take (i := 0) (oi := ({ dst := some 125, op := Op.move (Operand.tmp 9), type := 31, pos := "law.go:561", after := #[], guard := none } : Oper)) (v := .pointer (some ⟨s, 0, none⟩)) rfl (by kernel_rfl) (by kernel_rfl) (by kernel_rfl) (fun _ _ _ h => h) (Or.inl ⟨by rfl, ?_⟩) (by assumption) ?_
      · intro w hSw; (try dsimp only at hSw); go_simp
      (try simp only [Act.put, List.setIfInBounds_toArray, List.set_cons_zero, List.set_cons_succ])
      refine wpAnyH_take (i := 2) (oi := ({ dst := some 127, op := Op.move (Operand.tmp 11), type := 35, pos := "law.go:561", after := #[], guard := none } : Oper)) (v := .pointer (some ⟨m, 0, none⟩)) rfl (by kernel_rfl) (by kernel_rfl) (by kernel_rfl) (fun _ _ _ h => h) (Or.inl ⟨by rfl, ?_⟩) (by assumption) ?_
      · intro w hSw; (try dsimp only at hSw); go_simp
      (try simp only [Act.put, List.setIfInBounds_toArray, List.set_cons_zero, List.set_cons_succ])
      refine wpAnyH_take (i := 3) (oi := ({ dst := some 128, op := Op.nilCheck (Operand.tmp 127), type := 0, pos := "law.go:561", after := #[{ on := 2, ground := Ground.data }], guard := none } : Oper)) (v := .pointer (some ⟨m, 0, none⟩)) rfl (by kernel_rfl) (by kernel_rfl) (by kernel_rfl) (fun _ _ _ h => h) (Or.inl ⟨by rfl, ?_⟩) (by assumption) ?_
      · intro w hSw; (try dsimp only at hSw); go_simp
      (try simp only [Act.put, List.setIfInBounds_toArray, List.set_cons_zero, List.set_cons_succ])
      refine wpAnyH_take (i := 4) (oi := ({ dst := some 129, op := Op.fieldAddr 38 (Operand.tmp 128) 2, type := 0, pos := "law.go:561", after := #[{ on := 3, ground := Ground.data }], guard := none } : Oper)) (v := .pointer (some ⟨m, 2, none⟩)) rfl (by kernel_rfl) (by kernel_rfl) (by kernel_rfl) (fun _ _ _ h => h) (Or.inl ⟨by rfl, ?_⟩) (by assumption) ?_
      · intro w hSw; (try dsimp only at hSw); go_simp
      (try simp only [Act.put, List.setIfInBounds_toArray, List.set_cons_zero, List.set_cons_succ])
      refine wpAnyH_take (i := 5) (oi := ({ dst := some 130, op := Op.load 3 (Operand.tmp 129), type := 3, pos := "law.go:561", after := #[{ on := 4, ground := Ground.data }], guard := none } : Oper)) (v := .int .i64 ((n : Int) - 102)) rfl (by kernel_rfl) (by kernel_rfl) (by kernel_rfl) (fun _ _ _ h => h) (Or.inl ⟨by rfl, ?_⟩) (by assumption) ?_
      · intro w hSw; obtain ⟨u0, u1, u2⟩ := hSw; go_simp
      (try simp only [Act.put, List.setIfInBounds_toArray, List.set_cons_zero, List.set_cons_succ])
      refine wpAnyH_take (i := 6) (oi := ({ dst := some 131, op := Op.move (Operand.tmp 11), type := 35, pos := "law.go:561", after := #[], guard := none } : Oper)) (v := .pointer (some ⟨m, 0, none⟩)) rfl (by kernel_rfl) (by kernel_rfl) (by kernel_rfl) (fun _ _ _ h => h) (Or.inl ⟨by rfl, ?_⟩) (by assumption) ?_
      · intro w hSw; (try dsimp only at hSw); go_simp
      (try simp only [Act.put, List.setIfInBounds_toArray, List.set_cons_zero, List.set_cons_succ])
      refine wpAnyH_take (i := 7) (oi := ({ dst := some 132, op := Op.nilCheck (Operand.tmp 131), type := 0, pos := "law.go:561", after := #[{ on := 6, ground := Ground.data }], guard := none } : Oper)) (v := .pointer (some ⟨m, 0, none⟩)) rfl (by kernel_rfl) (by kernel_rfl) (by kernel_rfl) (fun _ _ _ h => h) (Or.inl ⟨by rfl, ?_⟩) (by assumption) ?_
      · intro w hSw; (try dsimp only at hSw); go_simp
      (try simp only [Act.put, List.setIfInBounds_toArray, List.set_cons_zero, List.set_cons_succ])
      refine wpAnyH_take (i := 8) (oi := ({ dst := some 133, op := Op.fieldAddr 38 (Operand.tmp 132) 1, type := 0, pos := "law.go:561", after := #[{ on := 7, ground := Ground.data }], guard := none } : Oper)) (v := .pointer (some ⟨m, 1, none⟩)) rfl (by kernel_rfl) (by kernel_rfl) (by kernel_rfl) (fun _ _ _ h => h) (Or.inl ⟨by rfl, ?_⟩) (by assumption) ?_
      · intro w hSw; (try dsimp only at hSw); go_simp
      (try simp only [Act.put, List.setIfInBounds_toArray, List.set_cons_zero, List.set_cons_succ])
      refine wpAnyH_take (i := 9) (oi := ({ dst := some 134, op := Op.load 3 (Operand.tmp 133), type := 3, pos := "law.go:561", after := #[{ on := 8, ground := Ground.data }], guard := none } : Oper)) (v := .int .i64 (z.lg.used : Int)) rfl (by kernel_rfl) (by kernel_rfl) (by kernel_rfl) (fun _ _ _ h => h) (Or.inl ⟨by rfl, ?_⟩) (by assumption) ?_
      · intro w hSw; obtain ⟨u0, u1, u2⟩ := hSw; go_simp
      (try simp only [Act.put, List.setIfInBounds_toArray, List.set_cons_zero, List.set_cons_succ])
      refine wpAnyH_take (i := 10) (oi := ({ dst := some 135, op := Op.binOp BinOp.sub 3 (Operand.tmp 130) (Operand.tmp 134) 3, type := 3, pos := "law.go:561", after := #[{ on := 5, ground := Ground.data }, { on := 9, ground := Ground.data }], guard := none } : Oper)) (v := .int .i64 ((n : Int) - 102 - (z.lg.used : Int))) rfl (by kernel_rfl) (by kernel_rfl) (by kernel_rfl) (fun _ _ _ h => h) (Or.inl ⟨by rfl, ?_⟩) (by assumption) ?_
      · intro w hSw; go_simp; exact wrap_id (by omega) (by omega)
      (try simp only [Act.put, List.setIfInBounds_toArray, List.set_cons_zero, List.set_cons_succ])
      refine wpAnyH_ready (rs := [1]) (by kernel_rfl) (by simp) ?_
      refine AllReadyH.cons (o := ({ dst := some 126, op := Op.call { callee := Callee.value (Operand.func 14), args := #[Operand.tmp 125], argTypes := #[31] }, type := 3, pos := "law.go:561", after := #[{ on := 0, ground := Ground.data }], guard := none } : Oper)) rfl (fun K hK => ?_) AllReadyH.nil
      rw [if_pos (by rfl)]
      go_wp2_with fail
      refine (hrm wd hD.S).mono ?_
      rintro e w8 ⟨rfl, hb8⟩
      have hR8 := HRD.out.1.below hb8
      have hE : SsI w w8 B5 s p q5 m n z (F + 100) := hD.below hb8
      have hC8 := HRD.out.2.tr (Tr.of_below hb8)
      have cs8 := hR8.cells
      rw [show ((n - 102 : Nat) : Int) = (n : Int) - 102 by omega] at cs8
      refine hK.out _ _ ?_ (fun hHeld => ?_)
      · exact cs8
      clear hK K
      (try simp only [Act.put, List.setIfInBounds_toArray, List.set_cons_zero, List.set_cons_succ])
      refine wpAnyH_take (i := 11) (oi := ({ dst := some 136, op := Op.binOp BinOp.neq 3 (Operand.tmp 126) (Operand.tmp 135) 3, type := 4, pos := "law.go:561", after := #[{ on := 1, ground := Ground.data }, { on := 10, ground := Ground.data }], guard := none } : Oper)) (v := .bool false) rfl (by kernel_rfl) (by kernel_rfl) (by kernel_rfl) (fun _ _ _ h => h) (Or.inl ⟨by rfl, ?_⟩) (by assumption) ?_
      · intro w hSw; (try dsimp only at hSw); go_simp
      (try simp only [Act.put, List.setIfInBounds_toArray, List.set_cons_zero, List.set_cons_succ])
      refine wpAnyH_take (i := 12) (oi := ({ dst := some 137, op := Op.move (Operand.tmp 136), type := 4, pos := "law.go:561", after := #[{ on := 11, ground := Ground.data }, { on := 1, ground := Ground.chain }], guard := none } : Oper)) (v := .bool false) rfl (by kernel_rfl) (by kernel_rfl) (by kernel_rfl) (fun _ _ _ h => h) (Or.inl ⟨by rfl, ?_⟩) (by assumption) ?_
      · intro w hSw; (try dsimp only at hSw); go_simp
      (try simp only [Act.put, List.setIfInBounds_toArray, List.set_cons_zero, List.set_cons_succ])
      refine wpAnyH_take (i := 13) (oi := ({ dst := some 138, op := Op.move (Operand.tmp 9), type := 31, pos := "law.go:561", after := #[{ on := 12, ground := Ground.guard }], guard := some (12, false) } : Oper)) (v := .pointer (some ⟨s, 0, none⟩)) rfl (by kernel_rfl) (by kernel_rfl) (by kernel_rfl) (fun _ _ _ h => h) (Or.inl ⟨by rfl, ?_⟩) (by assumption) ?_
      · intro w hSw; (try dsimp only at hSw); go_simp
      (try simp only [Act.put, List.setIfInBounds_toArray, List.set_cons_zero, List.set_cons_succ])
      refine wpAnyH_take (i := 15) (oi := ({ dst := some 140, op := Op.move (Operand.tmp 11), type := 35, pos := "law.go:561", after := #[{ on := 12, ground := Ground.guard }], guard := some (12, false) } : Oper)) (v := .pointer (some ⟨m, 0, none⟩)) rfl (by kernel_rfl) (by kernel_rfl) (by kernel_rfl) (fun _ _ _ h => h) (Or.inl ⟨by rfl, ?_⟩) (by assumption) ?_
      · intro w hSw; (try dsimp only at hSw); go_simp
      (try simp only [Act.put, List.setIfInBounds_toArray, List.set_cons_zero, List.set_cons_succ])
      refine wpAnyH_take (i := 16) (oi := ({ dst := some 141, op := Op.nilCheck (Operand.tmp 140), type := 0, pos := "law.go:561", after := #[{ on := 15, ground := Ground.data }, { on := 12, ground := Ground.guard }], guard := some (12, false) } : Oper)) (v := .pointer (some ⟨m, 0, none⟩)) rfl (by kernel_rfl) (by kernel_rfl) (by kernel_rfl) (fun _ _ _ h => h) (Or.inl ⟨by rfl, ?_⟩) (by assumption) ?_
      · intro w hSw; (try dsimp only at hSw); go_simp
      (try simp only [Act.put, List.setIfInBounds_toArray, List.set_cons_zero, List.set_cons_succ])
      refine wpAnyH_take (i := 17) (oi := ({ dst := some 142, op := Op.fieldAddr 38 (Operand.tmp 141) 0, type := 0, pos := "law.go:561", after := #[{ on := 16, ground := Ground.data }, { on := 12, ground := Ground.guard }], guard := some (12, false) } : Oper)) (v := .pointer (some ⟨m, 0, none⟩)) rfl (by kernel_rfl) (by kernel_rfl) (by kernel_rfl) (fun _ _ _ h => h) (Or.inl ⟨by rfl, ?_⟩) (by assumption) ?_
      · intro w hSw; (try dsimp only at hSw); go_simp
      (try simp only [Act.put, List.setIfInBounds_toArray, List.set_cons_zero, List.set_cons_succ])
      refine wpAnyH_take (i := 18) (oi := ({ dst := some 143, op := Op.load 36 (Operand.tmp 142), type := 36, pos := "law.go:561", after := #[{ on := 17, ground := Ground.data }, { on := 12, ground := Ground.guard }], guard := some (12, false) } : Oper)) (v := .slice ra z.rows.length rc) rfl (by kernel_rfl) (by kernel_rfl) (by kernel_rfl) (fun _ _ _ h => h) (Or.inl ⟨by rfl, ?_⟩) (by assumption) ?_
      · intro w hSw; obtain ⟨u0, u1, u2⟩ := hSw; go_simp
      (try simp only [Act.put, List.setIfInBounds_toArray, List.set_cons_zero, List.set_cons_succ])
      refine wpAnyH_ready (rs := [14]) (by kernel_rfl) (by simp) ?_
      refine AllReadyH.cons (o := ({ dst := some 139, op := Op.call { callee := Callee.value (Operand.func 16), args := #[Operand.tmp 138], argTypes := #[31] }, type := 36, pos := "law.go:561", after := #[{ on := 13, ground := Ground.data }, { on := 12, ground := Ground.chain }, { on := 12, ground := Ground.guard }], guard := some (12, false) } : Oper)) rfl (fun K hK => ?_) AllReadyH.nil
      rw [if_pos (by rfl)]
      go_wp2_with fail
      refine (rows_sto w8 B5 s p q5 z hE.S (by have := hzb.len; omega)).mono ?_
      rintro e w9 ⟨a9, c9, rfl, -, hw9, hb9⟩
      have hR9 := hR8.below hb9
      have hG : SsI w w9 B5 s p q5 m n z (F + 100) := hE.below hb9
      have hC9 := hC8.tr (Tr.of_below hb9)
      have cs9 := hR9.cells
      rw [show ((n - 102 : Nat) : Int) = (n : Int) - 102 by omega] at cs9
      refine hK.out _ _ ?_ (fun hHeld => ?_)
      · exact cs9
      clear hK K
      (try simp only [Act.put, List.setIfInBounds_toArray, List.set_cons_zero, List.set_cons_succ])
      refine wpAnyH_ready (rs := [19]) (by kernel_rfl) (by simp) ?_
      refine AllReadyH.cons (o := ({ dst := some 144, op := Op.call { callee := Callee.value (Operand.func 15), args := #[Operand.tmp 139, Operand.tmp 143], argTypes := #[36, 36] }, type := 4, pos := "law.go:561", after := #[{ on := 14, ground := Ground.data }, { on := 18, ground := Ground.data }, { on := 14, ground := Ground.chain }, { on := 12, ground := Ground.guard }], guard := some (12, false) } : Oper)) rfl (fun K hK => ?_) AllReadyH.nil
      rw [if_pos (by rfl)]
      have hsm := samech_any a9 ra c9 rc z.rows z.rows w9 hw9 hC9.at_ (by have := hzb.len; unfold maxLen; omega) (by have := hzb.len; unfold maxLen; omega)
      go_wp2_with fail
      refine hsm.mono ?_
      rintro e wa ⟨⟨r, rfl, hr⟩, hba⟩
      obtain rfl : r = true := hr.2 (by first | trivial | rfl)
      have hH : SsI w wa B5 s p q5 m n z (F + 100) := hG.below hba
      have csa := (hR9.below hba).cells
      rw [show ((n - 102 : Nat) : Int) = (n : Int) - 102 by omega] at csa
      clear hsm
      refine hK.out _ _ ?_ (fun hHeld => ?_)
      · exact csa
      clear hK K
      (try simp only [Act.put, List.setIfInBounds_toArray, List.set_cons_zero, List.set_cons_succ])
      refine wpAnyH_take (i := 20) (oi := ({ dst := some 145, op := Op.unOp UnOp.not 4 (Operand.tmp 144), type := 4, pos := "law.go:561", after := #[{ on := 19, ground := Ground.data }, { on := 12, ground := Ground.guard }], guard := some (12, false) } : Oper)) (v := .bool false) rfl (by kernel_rfl) (by kernel_rfl) (by kernel_rfl) (fun _ _ _ h => h) (Or.inl ⟨by rfl, ?_⟩) (by assumption) ?_
      · intro w hSw; (try dsimp only at hSw); go_simp
      (try simp only [Act.put, List.setIfInBounds_toArray, List.set_cons_zero, List.set_cons_succ])
      refine wpAnyH_take (i := 21) (oi := ({ dst := some 146, op := Op.pick (Operand.tmp 137) (Operand.const (Value.bool true)) (Operand.tmp 145), type := 4, pos := "law.go:561", after := #[{ on := 12, ground := Ground.data }, { on := 20, ground := Ground.data }], guard := none } : Oper)) (v := .bool false) rfl (by kernel_rfl) (by kernel_rfl) (by kernel_rfl) (fun _ _ _ h => h) (Or.inl ⟨by rfl, ?_⟩) (by assumption) ?_
      · intro w hSw; (try dsimp only at hSw); go_simp
      (try simp only [Act.put, List.setIfInBounds_toArray, List.set_cons_zero, List.set_cons_succ])
      refine wpAnyH_done (by kernel_rfl) ?_ _
      clear hD hE hG hR8 hR9 hC8 hC9 cs8 cs9 csa hHeld HRD hrm hw9 hMU
      go_wp2_with fail
      go_roundw
      case rel => exact ⟨k + 1, B5, s, q5, z, F + 100, by omega, by go_num, rfl, by omega, hH⟩
      case measure => simp [intOf]; omega
    have k0 : (x.kd.toList == [99, 111, 109, 109, 105, 116]) = false := by simpa using hkd
    by_cases hks : x.kd.toList = [115, 97, 118, 101]
    · have k1 : (x.kd.toList == [115, 97, 118, 101]) = true := by simpa using hks
      have hck : Hid (∃ base D, SI F y base D) := h.I
      obtain ⟨base, D, hI⟩ := h.I
      have hcm := ck_any _ B s p q y h.S (hI.stb (by omega))
      rcases ck_spec hI (by omega) with ⟨e0, e1, e2, e3, e4, e5⟩ | ⟨-, e1, -⟩
      rotate_left
      · exact absurd e1 (by have := h.left; omega)
      rw [e0, errV_zero] at hcm
      replace e5 := e5 h.left
      clear hI e0 hck
      generalize ckR y = z at *
      go_wp2_with fail
      generalize wr.alloc (.cells #[.string x.kd, .string x.sd, .int .i64 x.ph, .int .i64 x.ps, .int .i64 x.qh, .int .i64 x.qs, .int .i64 x.aa, .int .i64 x.bb, .int .i64 x.nn, .int .u64 x.kk, .slice xc x.ch.length x.cc] 43) = wk at *
      generalize wr.heap.size = g at *
      refine hcm.mono ?_
      rintro e w5 ⟨B5, q5, rfl, hS5, hT5⟩
      clear hcm c0 c10 dx q0 q1 q2 q3 q4 q5' q6 q7 q8 q9 q10 BX
      obtain ⟨hR5, hnm5, hbase5, hbl5, hlt5⟩ := h.step hT5 hS5
      obtain ⟨ra, rc, hA, hB⟩ := hR5
      obtain ⟨m0, m1, m2⟩ := hA.cells
      have f1 := hA.free 1
      have zm := heap_lt hA
      have T6 := Tr.setCell (B := On m) w5 rfl 1 (.int .i64 0)
      have hN : SsI w (w5.setCell ⟨m, 1, none⟩ (.int .i64 0)) B5 s p q5 m n z (F + 100) := SsI.next hS5 hnm5 hbase5 h.mb hbl5 ⟨ra, rc, hA, hB⟩ T6 ⟨ra, rc, by rw [e2, e3]; exact hA.set1 0, by rw [e2]; exact hB.tr (Tr.setCell (B := Un (FF B5 q5 s) (On m)) w5 (.inr rfl) 1 _)⟩ ⟨_, _, e1⟩ (by rw [e1.lg]; dsimp only; rw [e4, h.nl]) (e4.trans h.nl) (by rw [e5]; exact h.left)
      clear hA hB T6 hS5 hT5 hnm5 hbase5 hbl5 hlt5 e1 e2 e3 e4 e5 h m0 m2
      go_wp2_with fail
      clear m1 f1 zm
      generalize w5.setCell ⟨m, 1, none⟩ (.int .i64 0) = wx at *
      obtain ⟨base, D, hI⟩ := hN.I
      have hzb := hI.stb (by omega)
      clear hI
      have hrm := fun W (hW : StoO W B5 s p q5 z) => room_sto W B5 s p q5 z hW (by have := hN.many; omega) (by have := hN.many; have := hzb.used; omega)
      have hMU : Hid ((z.lg.many : Int) - (z.lg.used : Int) = (n : Int) - 102 - (z.lg.used : Int)) := by show _ = _; have := hN.many; omega
      rw [hMU.out] at hrm
      have huz : z.lg.used ≤ 98 := by have := hN.many; have := hzb.used; omega
      obtain ⟨ra, rc, hRA, hRC⟩ := hN.R
      obtain ⟨m0, m1, m2⟩ := hRA.cells
      rw [show ((n - 102 : Nat) : Int) = (n : Int) - 102 by omega] at m2
      have HRA : Hid (RsAt wx m (.slice ra z.rows.length rc) z.lg.used (n - 102 : Nat) ∧ ChsB (Un (FF B5 q5 s) (On m)) wx ra z.rows) := ⟨hRA, hRC⟩
      clear hRA hRC
      have zm := heap_lt HRA.out.1
      go_wp2_with fail
      refine wp_region_held_drew (S := fun w' => w'.cell? ⟨m, 0, none⟩ = some (.slice ra z.rows.length rc) ∧ w'.cell? ⟨m, 1, none⟩ = some (.int .i64 (z.lg.used : Int)) ∧ w'.cell? ⟨m, 2, none⟩ = some (.int .i64 ((n : Int) - 102))) (by kernel_rfl) ?_ (fun hHeld => ?_)
      · exact ⟨m0, m1, m2⟩
      clear m0 m1 m2
      have hD : SsI w wx.drew B5 s p q5 m n z (F + 100) := hN.below (below_drewN (Below.refl _ _) 1)
      have HRD : Hid (RsAt wx.drew m (.slice ra z.rows.length rc) z.lg.used (n - 102 : Nat) ∧ ChsB (Un (FF B5 q5 s) (On m)) wx.drew ra z.rows) := ⟨HRA.out.1.below (below_drewN (Below.refl _ _) 1), HRA.out.2.tr (Tr.drew _ _)⟩
      clear hN HRA
      generalize wx.drew = wd at hD HRD hHeld ⊢
      refine wpAnyH_take (i := 0) (oi := ({ dst := some 125, op := Op.move (Operand.tmp 9), type := 31, pos := "law.go:561", after := #[], guard := none } : Oper)) (v := .pointer (some ⟨s, 0, none⟩)) rfl (by kernel_rfl) (by kernel_rfl) (by kernel_rfl) (fun _ _ _ h => h) (Or.inl ⟨by rfl, ?_⟩) (by assumption) ?_
      · intro w hSw; (try dsimp only at hSw); go_simp
      (try simp only [Act.put, List.setIfInBounds_toArray, List.set_cons_zero, List.set_cons_succ])
      refine wpAnyH_take (i := 2) (oi := ({ dst := some 127, op := Op.move (Operand.tmp 11), type := 35, pos := "law.go:561", after := #[], guard := none } : Oper)) (v := .pointer (some ⟨m, 0, none⟩)) rfl (by kernel_rfl) (by kernel_rfl) (by kernel_rfl) (fun _ _ _ h => h) (Or.inl ⟨by rfl, ?_⟩) (by assumption) ?_
      · intro w hSw; (try dsimp only at hSw); go_simp
      (try simp only [Act.put, List.setIfInBounds_toArray, List.set_cons_zero, List.set_cons_succ])
      refine wpAnyH_take (i := 3) (oi := ({ dst := some 128, op := Op.nilCheck (Operand.tmp 127), type := 0, pos := "law.go:561", after := #[{ on := 2, ground := Ground.data }], guard := none } : Oper)) (v := .pointer (some ⟨m, 0, none⟩)) rfl (by kernel_rfl) (by kernel_rfl) (by kernel_rfl) (fun _ _ _ h => h) (Or.inl ⟨by rfl, ?_⟩) (by assumption) ?_
      · intro w hSw; (try dsimp only at hSw); go_simp
      (try simp only [Act.put, List.setIfInBounds_toArray, List.set_cons_zero, List.set_cons_succ])
      refine wpAnyH_take (i := 4) (oi := ({ dst := some 129, op := Op.fieldAddr 38 (Operand.tmp 128) 2, type := 0, pos := "law.go:561", after := #[{ on := 3, ground := Ground.data }], guard := none } : Oper)) (v := .pointer (some ⟨m, 2, none⟩)) rfl (by kernel_rfl) (by kernel_rfl) (by kernel_rfl) (fun _ _ _ h => h) (Or.inl ⟨by rfl, ?_⟩) (by assumption) ?_
      · intro w hSw; (try dsimp only at hSw); go_simp
      (try simp only [Act.put, List.setIfInBounds_toArray, List.set_cons_zero, List.set_cons_succ])
      refine wpAnyH_take (i := 5) (oi := ({ dst := some 130, op := Op.load 3 (Operand.tmp 129), type := 3, pos := "law.go:561", after := #[{ on := 4, ground := Ground.data }], guard := none } : Oper)) (v := .int .i64 ((n : Int) - 102)) rfl (by kernel_rfl) (by kernel_rfl) (by kernel_rfl) (fun _ _ _ h => h) (Or.inl ⟨by rfl, ?_⟩) (by assumption) ?_
      · intro w hSw; obtain ⟨u0, u1, u2⟩ := hSw; go_simp
      (try simp only [Act.put, List.setIfInBounds_toArray, List.set_cons_zero, List.set_cons_succ])
      refine wpAnyH_take (i := 6) (oi := ({ dst := some 131, op := Op.move (Operand.tmp 11), type := 35, pos := "law.go:561", after := #[], guard := none } : Oper)) (v := .pointer (some ⟨m, 0, none⟩)) rfl (by kernel_rfl) (by kernel_rfl) (by kernel_rfl) (fun _ _ _ h => h) (Or.inl ⟨by rfl, ?_⟩) (by assumption) ?_
      · intro w hSw; (try dsimp only at hSw); go_simp
      (try simp only [Act.put, List.setIfInBounds_toArray, List.set_cons_zero, List.set_cons_succ])
      refine wpAnyH_take (i := 7) (oi := ({ dst := some 132, op := Op.nilCheck (Operand.tmp 131), type := 0, pos := "law.go:561", after := #[{ on := 6, ground := Ground.data }], guard := none } : Oper)) (v := .pointer (some ⟨m, 0, none⟩)) rfl (by kernel_rfl) (by kernel_rfl) (by kernel_rfl) (fun _ _ _ h => h) (Or.inl ⟨by rfl, ?_⟩) (by assumption) ?_
      · intro w hSw; (try dsimp only at hSw); go_simp
      (try simp only [Act.put, List.setIfInBounds_toArray, List.set_cons_zero, List.set_cons_succ])
      refine wpAnyH_take (i := 8) (oi := ({ dst := some 133, op := Op.fieldAddr 38 (Operand.tmp 132) 1, type := 0, pos := "law.go:561", after := #[{ on := 7, ground := Ground.data }], guard := none } : Oper)) (v := .pointer (some ⟨m, 1, none⟩)) rfl (by kernel_rfl) (by kernel_rfl) (by kernel_rfl) (fun _ _ _ h => h) (Or.inl ⟨by rfl, ?_⟩) (by assumption) ?_
      · intro w hSw; (try dsimp only at hSw); go_simp
      (try simp only [Act.put, List.setIfInBounds_toArray, List.set_cons_zero, List.set_cons_succ])
      refine wpAnyH_take (i := 9) (oi := ({ dst := some 134, op := Op.load 3 (Operand.tmp 133), type := 3, pos := "law.go:561", after := #[{ on := 8, ground := Ground.data }], guard := none } : Oper)) (v := .int .i64 (z.lg.used : Int)) rfl (by kernel_rfl) (by kernel_rfl) (by kernel_rfl) (fun _ _ _ h => h) (Or.inl ⟨by rfl, ?_⟩) (by assumption) ?_
      · intro w hSw; obtain ⟨u0, u1, u2⟩ := hSw; go_simp
      (try simp only [Act.put, List.setIfInBounds_toArray, List.set_cons_zero, List.set_cons_succ])
      refine wpAnyH_take (i := 10) (oi := ({ dst := some 135, op := Op.binOp BinOp.sub 3 (Operand.tmp 130) (Operand.tmp 134) 3, type := 3, pos := "law.go:561", after := #[{ on := 5, ground := Ground.data }, { on := 9, ground := Ground.data }], guard := none } : Oper)) (v := .int .i64 ((n : Int) - 102 - (z.lg.used : Int))) rfl (by kernel_rfl) (by kernel_rfl) (by kernel_rfl) (fun _ _ _ h => h) (Or.inl ⟨by rfl, ?_⟩) (by assumption) ?_
      · intro w hSw; go_simp; exact wrap_id (by omega) (by omega)
      (try simp only [Act.put, List.setIfInBounds_toArray, List.set_cons_zero, List.set_cons_succ])
      refine wpAnyH_ready (rs := [1]) (by kernel_rfl) (by simp) ?_
      refine AllReadyH.cons (o := ({ dst := some 126, op := Op.call { callee := Callee.value (Operand.func 14), args := #[Operand.tmp 125], argTypes := #[31] }, type := 3, pos := "law.go:561", after := #[{ on := 0, ground := Ground.data }], guard := none } : Oper)) rfl (fun K hK => ?_) AllReadyH.nil
      rw [if_pos (by rfl)]
      go_wp2_with fail
      refine (hrm wd hD.S).mono ?_
      rintro e w8 ⟨rfl, hb8⟩
      have hR8 := HRD.out.1.below hb8
      have hE : SsI w w8 B5 s p q5 m n z (F + 100) := hD.below hb8
      have hC8 := HRD.out.2.tr (Tr.of_below hb8)
      have cs8 := hR8.cells
      rw [show ((n - 102 : Nat) : Int) = (n : Int) - 102 by omega] at cs8
      refine hK.out _ _ ?_ (fun hHeld => ?_)
      · exact cs8
      clear hK K
      (try simp only [Act.put, List.setIfInBounds_toArray, List.set_cons_zero, List.set_cons_succ])
      refine wpAnyH_take (i := 11) (oi := ({ dst := some 136, op := Op.binOp BinOp.neq 3 (Operand.tmp 126) (Operand.tmp 135) 3, type := 4, pos := "law.go:561", after := #[{ on := 1, ground := Ground.data }, { on := 10, ground := Ground.data }], guard := none } : Oper)) (v := .bool false) rfl (by kernel_rfl) (by kernel_rfl) (by kernel_rfl) (fun _ _ _ h => h) (Or.inl ⟨by rfl, ?_⟩) (by assumption) ?_
      · intro w hSw; (try dsimp only at hSw); go_simp
      (try simp only [Act.put, List.setIfInBounds_toArray, List.set_cons_zero, List.set_cons_succ])
      refine wpAnyH_take (i := 12) (oi := ({ dst := some 137, op := Op.move (Operand.tmp 136), type := 4, pos := "law.go:561", after := #[{ on := 11, ground := Ground.data }, { on := 1, ground := Ground.chain }], guard := none } : Oper)) (v := .bool false) rfl (by kernel_rfl) (by kernel_rfl) (by kernel_rfl) (fun _ _ _ h => h) (Or.inl ⟨by rfl, ?_⟩) (by assumption) ?_
      · intro w hSw; (try dsimp only at hSw); go_simp
      (try simp only [Act.put, List.setIfInBounds_toArray, List.set_cons_zero, List.set_cons_succ])
      refine wpAnyH_take (i := 13) (oi := ({ dst := some 138, op := Op.move (Operand.tmp 9), type := 31, pos := "law.go:561", after := #[{ on := 12, ground := Ground.guard }], guard := some (12, false) } : Oper)) (v := .pointer (some ⟨s, 0, none⟩)) rfl (by kernel_rfl) (by kernel_rfl) (by kernel_rfl) (fun _ _ _ h => h) (Or.inl ⟨by rfl, ?_⟩) (by assumption) ?_
      · intro w hSw; (try dsimp only at hSw); go_simp
      (try simp only [Act.put, List.setIfInBounds_toArray, List.set_cons_zero, List.set_cons_succ])
      refine wpAnyH_take (i := 15) (oi := ({ dst := some 140, op := Op.move (Operand.tmp 11), type := 35, pos := "law.go:561", after := #[{ on := 12, ground := Ground.guard }], guard := some (12, false) } : Oper)) (v := .pointer (some ⟨m, 0, none⟩)) rfl (by kernel_rfl) (by kernel_rfl) (by kernel_rfl) (fun _ _ _ h => h) (Or.inl ⟨by rfl, ?_⟩) (by assumption) ?_
      · intro w hSw; (try dsimp only at hSw); go_simp
      (try simp only [Act.put, List.setIfInBounds_toArray, List.set_cons_zero, List.set_cons_succ])
      refine wpAnyH_take (i := 16) (oi := ({ dst := some 141, op := Op.nilCheck (Operand.tmp 140), type := 0, pos := "law.go:561", after := #[{ on := 15, ground := Ground.data }, { on := 12, ground := Ground.guard }], guard := some (12, false) } : Oper)) (v := .pointer (some ⟨m, 0, none⟩)) rfl (by kernel_rfl) (by kernel_rfl) (by kernel_rfl) (fun _ _ _ h => h) (Or.inl ⟨by rfl, ?_⟩) (by assumption) ?_
      · intro w hSw; (try dsimp only at hSw); go_simp
      (try simp only [Act.put, List.setIfInBounds_toArray, List.set_cons_zero, List.set_cons_succ])
      refine wpAnyH_take (i := 17) (oi := ({ dst := some 142, op := Op.fieldAddr 38 (Operand.tmp 141) 0, type := 0, pos := "law.go:561", after := #[{ on := 16, ground := Ground.data }, { on := 12, ground := Ground.guard }], guard := some (12, false) } : Oper)) (v := .pointer (some ⟨m, 0, none⟩)) rfl (by kernel_rfl) (by kernel_rfl) (by kernel_rfl) (fun _ _ _ h => h) (Or.inl ⟨by rfl, ?_⟩) (by assumption) ?_
      · intro w hSw; (try dsimp only at hSw); go_simp
      (try simp only [Act.put, List.setIfInBounds_toArray, List.set_cons_zero, List.set_cons_succ])
      refine wpAnyH_take (i := 18) (oi := ({ dst := some 143, op := Op.load 36 (Operand.tmp 142), type := 36, pos := "law.go:561", after := #[{ on := 17, ground := Ground.data }, { on := 12, ground := Ground.guard }], guard := some (12, false) } : Oper)) (v := .slice ra z.rows.length rc) rfl (by kernel_rfl) (by kernel_rfl) (by kernel_rfl) (fun _ _ _ h => h) (Or.inl ⟨by rfl, ?_⟩) (by assumption) ?_
      · intro w hSw; obtain ⟨u0, u1, u2⟩ := hSw; go_simp
      (try simp only [Act.put, List.setIfInBounds_toArray, List.set_cons_zero, List.set_cons_succ])
      refine wpAnyH_ready (rs := [14]) (by kernel_rfl) (by simp) ?_
      refine AllReadyH.cons (o := ({ dst := some 139, op := Op.call { callee := Callee.value (Operand.func 16), args := #[Operand.tmp 138], argTypes := #[31] }, type := 36, pos := "law.go:561", after := #[{ on := 13, ground := Ground.data }, { on := 12, ground := Ground.chain }, { on := 12, ground := Ground.guard }], guard := some (12, false) } : Oper)) rfl (fun K hK => ?_) AllReadyH.nil
      rw [if_pos (by rfl)]
      go_wp2_with fail
      refine (rows_sto w8 B5 s p q5 z hE.S (by have := hzb.len; omega)).mono ?_
      rintro e w9 ⟨a9, c9, rfl, -, hw9, hb9⟩
      have hR9 := hR8.below hb9
      have hG : SsI w w9 B5 s p q5 m n z (F + 100) := hE.below hb9
      have hC9 := hC8.tr (Tr.of_below hb9)
      have cs9 := hR9.cells
      rw [show ((n - 102 : Nat) : Int) = (n : Int) - 102 by omega] at cs9
      refine hK.out _ _ ?_ (fun hHeld => ?_)
      · exact cs9
      clear hK K
      (try simp only [Act.put, List.setIfInBounds_toArray, List.set_cons_zero, List.set_cons_succ])
      refine wpAnyH_ready (rs := [19]) (by kernel_rfl) (by simp) ?_
      refine AllReadyH.cons (o := ({ dst := some 144, op := Op.call { callee := Callee.value (Operand.func 15), args := #[Operand.tmp 139, Operand.tmp 143], argTypes := #[36, 36] }, type := 4, pos := "law.go:561", after := #[{ on := 14, ground := Ground.data }, { on := 18, ground := Ground.data }, { on := 14, ground := Ground.chain }, { on := 12, ground := Ground.guard }], guard := some (12, false) } : Oper)) rfl (fun K hK => ?_) AllReadyH.nil
      rw [if_pos (by rfl)]
      have hsm := samech_any a9 ra c9 rc z.rows z.rows w9 hw9 hC9.at_ (by have := hzb.len; unfold maxLen; omega) (by have := hzb.len; unfold maxLen; omega)
      go_wp2_with fail
      refine hsm.mono ?_
      rintro e wa ⟨⟨r, rfl, hr⟩, hba⟩
      obtain rfl : r = true := hr.2 (by first | trivial | rfl)
      have hH : SsI w wa B5 s p q5 m n z (F + 100) := hG.below hba
      have csa := (hR9.below hba).cells
      rw [show ((n - 102 : Nat) : Int) = (n : Int) - 102 by omega] at csa
      clear hsm
      refine hK.out _ _ ?_ (fun hHeld => ?_)
      · exact csa
      clear hK K
      (try simp only [Act.put, List.setIfInBounds_toArray, List.set_cons_zero, List.set_cons_succ])
      refine wpAnyH_take (i := 20) (oi := ({ dst := some 145, op := Op.unOp UnOp.not 4 (Operand.tmp 144), type := 4, pos := "law.go:561", after := #[{ on := 19, ground := Ground.data }, { on := 12, ground := Ground.guard }], guard := some (12, false) } : Oper)) (v := .bool false) rfl (by kernel_rfl) (by kernel_rfl) (by kernel_rfl) (fun _ _ _ h => h) (Or.inl ⟨by rfl, ?_⟩) (by assumption) ?_
      · intro w hSw; (try dsimp only at hSw); go_simp
      (try simp only [Act.put, List.setIfInBounds_toArray, List.set_cons_zero, List.set_cons_succ])
      refine wpAnyH_take (i := 21) (oi := ({ dst := some 146, op := Op.pick (Operand.tmp 137) (Operand.const (Value.bool true)) (Operand.tmp 145), type := 4, pos := "law.go:561", after := #[{ on := 12, ground := Ground.data }, { on := 20, ground := Ground.data }], guard := none } : Oper)) (v := .bool false) rfl (by kernel_rfl) (by kernel_rfl) (by kernel_rfl) (fun _ _ _ h => h) (Or.inl ⟨by rfl, ?_⟩) (by assumption) ?_
      · intro w hSw; (try dsimp only at hSw); go_simp
      (try simp only [Act.put, List.setIfInBounds_toArray, List.set_cons_zero, List.set_cons_succ])
      refine wpAnyH_done (by kernel_rfl) ?_ _
      clear hD hE hG hR8 hR9 hC8 hC9 cs8 cs9 csa hHeld HRD hrm hw9 hMU
      go_wp2_with fail
      go_roundw
      case rel => exact ⟨k + 1, B5, s, q5, z, F + 100, by omega, by go_num, rfl, by omega, hH⟩
      case measure => simp [intOf]; omega
    · have k1 : (x.kd.toList == [115, 97, 118, 101]) = false := by simpa using hks
      obtain ⟨base, D, hI⟩ := h.I
      have hop := open_sk B p y.d y.h base D y.lg.used F _ h.S.dk hI.q hI.sk (by have := hI.first; rw [hI.lg] at this; exact this) (by omega)
      have HRW : Hid (y.rows = foldR base D) := hI.rows
      clear hI
      go_wp2_with fail
      generalize wr.alloc (.cells #[.string x.kd, .string x.sd, .int .i64 x.ph, .int .i64 x.ps, .int .i64 x.qh, .int .i64 x.qs, .int .i64 x.aa, .int .i64 x.bb, .int .i64 x.nn, .int .u64 x.kk, .slice xc x.ch.length x.cc] 43) = wk at *
      generalize wr.heap.size = g at *
      refine hop.mono ?_
      rintro e w5 ⟨s5, q5, rfl, hS5, hI5, hb5, hs5, hq5⟩
      clear hop c0 c10 dx q0 q1 q2 q3 q4 q5' q6 q7 q8 q9 q10 BX
      have hN := h.again HRW.out hS5 hI5 hb5 hs5 hq5
      clear h HRW hS5 hI5 hb5 hs5 hq5
      generalize Sto.mk y.d y.h ⟨102, y.d.now.length - 102, y.h.first, y.lg.used⟩ (foldR base D) = z at *
      obtain ⟨base, D, hI⟩ := hN.I
      have hzb := hI.stb (by omega)
      clear hI
      have hrm := fun W (hW : StoO W B s5 p q5 z) => room_sto W B s5 p q5 z hW (by have := hN.many; omega) (by have := hN.many; have := hzb.used; omega)
      have hMU : Hid ((z.lg.many : Int) - (z.lg.used : Int) = (n : Int) - 102 - (z.lg.used : Int)) := by show _ = _; have := hN.many; omega
      rw [hMU.out] at hrm
      have huz : z.lg.used ≤ 98 := by have := hN.many; have := hzb.used; omega
      obtain ⟨ra, rc, hRA, hRC⟩ := hN.R
      obtain ⟨m0, m1, m2⟩ := hRA.cells
      rw [show ((n - 102 : Nat) : Int) = (n : Int) - 102 by omega] at m2
      have HRA : Hid (RsAt w5 m (.slice ra z.rows.length rc) z.lg.used (n - 102 : Nat) ∧ ChsB (Un (FF B q5 s5) (On m)) w5 ra z.rows) := ⟨hRA, hRC⟩
      clear hRA hRC
      have zm := heap_lt HRA.out.1
      go_wp2_with fail
      refine wp_region_held_drew (S := fun w' => w'.cell? ⟨m, 0, none⟩ = some (.slice ra z.rows.length rc) ∧ w'.cell? ⟨m, 1, none⟩ = some (.int .i64 (z.lg.used : Int)) ∧ w'.cell? ⟨m, 2, none⟩ = some (.int .i64 ((n : Int) - 102))) (by kernel_rfl) ?_ (fun hHeld => ?_)
      · exact ⟨m0, m1, m2⟩
      clear m0 m1 m2
      have hD : SsI w w5.drew B s5 p q5 m n z (F + 100) := hN.below (below_drewN (Below.refl _ _) 1)
      have HRD : Hid (RsAt w5.drew m (.slice ra z.rows.length rc) z.lg.used (n - 102 : Nat) ∧ ChsB (Un (FF B q5 s5) (On m)) w5.drew ra z.rows) := ⟨HRA.out.1.below (below_drewN (Below.refl _ _) 1), HRA.out.2.tr (Tr.drew _ _)⟩
      clear hN HRA
      generalize w5.drew = wd at hD HRD hHeld ⊢
      refine wpAnyH_take (i := 0) (oi := ({ dst := some 125, op := Op.move (Operand.tmp 9), type := 31, pos := "law.go:561", after := #[], guard := none } : Oper)) (v := .pointer (some ⟨s5, 0, none⟩)) rfl (by kernel_rfl) (by kernel_rfl) (by kernel_rfl) (fun _ _ _ h => h) (Or.inl ⟨by rfl, ?_⟩) (by assumption) ?_
      · intro w hSw; (try dsimp only at hSw); go_simp
      (try simp only [Act.put, List.setIfInBounds_toArray, List.set_cons_zero, List.set_cons_succ])
      refine wpAnyH_take (i := 2) (oi := ({ dst := some 127, op := Op.move (Operand.tmp 11), type := 35, pos := "law.go:561", after := #[], guard := none } : Oper)) (v := .pointer (some ⟨m, 0, none⟩)) rfl (by kernel_rfl) (by kernel_rfl) (by kernel_rfl) (fun _ _ _ h => h) (Or.inl ⟨by rfl, ?_⟩) (by assumption) ?_
      · intro w hSw; (try dsimp only at hSw); go_simp
      (try simp only [Act.put, List.setIfInBounds_toArray, List.set_cons_zero, List.set_cons_succ])
      refine wpAnyH_take (i := 3) (oi := ({ dst := some 128, op := Op.nilCheck (Operand.tmp 127), type := 0, pos := "law.go:561", after := #[{ on := 2, ground := Ground.data }], guard := none } : Oper)) (v := .pointer (some ⟨m, 0, none⟩)) rfl (by kernel_rfl) (by kernel_rfl) (by kernel_rfl) (fun _ _ _ h => h) (Or.inl ⟨by rfl, ?_⟩) (by assumption) ?_
      · intro w hSw; (try dsimp only at hSw); go_simp
      (try simp only [Act.put, List.setIfInBounds_toArray, List.set_cons_zero, List.set_cons_succ])
      refine wpAnyH_take (i := 4) (oi := ({ dst := some 129, op := Op.fieldAddr 38 (Operand.tmp 128) 2, type := 0, pos := "law.go:561", after := #[{ on := 3, ground := Ground.data }], guard := none } : Oper)) (v := .pointer (some ⟨m, 2, none⟩)) rfl (by kernel_rfl) (by kernel_rfl) (by kernel_rfl) (fun _ _ _ h => h) (Or.inl ⟨by rfl, ?_⟩) (by assumption) ?_
      · intro w hSw; (try dsimp only at hSw); go_simp
      (try simp only [Act.put, List.setIfInBounds_toArray, List.set_cons_zero, List.set_cons_succ])
      refine wpAnyH_take (i := 5) (oi := ({ dst := some 130, op := Op.load 3 (Operand.tmp 129), type := 3, pos := "law.go:561", after := #[{ on := 4, ground := Ground.data }], guard := none } : Oper)) (v := .int .i64 ((n : Int) - 102)) rfl (by kernel_rfl) (by kernel_rfl) (by kernel_rfl) (fun _ _ _ h => h) (Or.inl ⟨by rfl, ?_⟩) (by assumption) ?_
      · intro w hSw; obtain ⟨u0, u1, u2⟩ := hSw; go_simp
      (try simp only [Act.put, List.setIfInBounds_toArray, List.set_cons_zero, List.set_cons_succ])
      refine wpAnyH_take (i := 6) (oi := ({ dst := some 131, op := Op.move (Operand.tmp 11), type := 35, pos := "law.go:561", after := #[], guard := none } : Oper)) (v := .pointer (some ⟨m, 0, none⟩)) rfl (by kernel_rfl) (by kernel_rfl) (by kernel_rfl) (fun _ _ _ h => h) (Or.inl ⟨by rfl, ?_⟩) (by assumption) ?_
      · intro w hSw; (try dsimp only at hSw); go_simp
      (try simp only [Act.put, List.setIfInBounds_toArray, List.set_cons_zero, List.set_cons_succ])
      refine wpAnyH_take (i := 7) (oi := ({ dst := some 132, op := Op.nilCheck (Operand.tmp 131), type := 0, pos := "law.go:561", after := #[{ on := 6, ground := Ground.data }], guard := none } : Oper)) (v := .pointer (some ⟨m, 0, none⟩)) rfl (by kernel_rfl) (by kernel_rfl) (by kernel_rfl) (fun _ _ _ h => h) (Or.inl ⟨by rfl, ?_⟩) (by assumption) ?_
      · intro w hSw; (try dsimp only at hSw); go_simp
      (try simp only [Act.put, List.setIfInBounds_toArray, List.set_cons_zero, List.set_cons_succ])
      refine wpAnyH_take (i := 8) (oi := ({ dst := some 133, op := Op.fieldAddr 38 (Operand.tmp 132) 1, type := 0, pos := "law.go:561", after := #[{ on := 7, ground := Ground.data }], guard := none } : Oper)) (v := .pointer (some ⟨m, 1, none⟩)) rfl (by kernel_rfl) (by kernel_rfl) (by kernel_rfl) (fun _ _ _ h => h) (Or.inl ⟨by rfl, ?_⟩) (by assumption) ?_
      · intro w hSw; (try dsimp only at hSw); go_simp
      (try simp only [Act.put, List.setIfInBounds_toArray, List.set_cons_zero, List.set_cons_succ])
      refine wpAnyH_take (i := 9) (oi := ({ dst := some 134, op := Op.load 3 (Operand.tmp 133), type := 3, pos := "law.go:561", after := #[{ on := 8, ground := Ground.data }], guard := none } : Oper)) (v := .int .i64 (z.lg.used : Int)) rfl (by kernel_rfl) (by kernel_rfl) (by kernel_rfl) (fun _ _ _ h => h) (Or.inl ⟨by rfl, ?_⟩) (by assumption) ?_
      · intro w hSw; obtain ⟨u0, u1, u2⟩ := hSw; go_simp
      (try simp only [Act.put, List.setIfInBounds_toArray, List.set_cons_zero, List.set_cons_succ])
      refine wpAnyH_take (i := 10) (oi := ({ dst := some 135, op := Op.binOp BinOp.sub 3 (Operand.tmp 130) (Operand.tmp 134) 3, type := 3, pos := "law.go:561", after := #[{ on := 5, ground := Ground.data }, { on := 9, ground := Ground.data }], guard := none } : Oper)) (v := .int .i64 ((n : Int) - 102 - (z.lg.used : Int))) rfl (by kernel_rfl) (by kernel_rfl) (by kernel_rfl) (fun _ _ _ h => h) (Or.inl ⟨by rfl, ?_⟩) (by assumption) ?_
      · intro w hSw; go_simp; exact wrap_id (by omega) (by omega)
      (try simp only [Act.put, List.setIfInBounds_toArray, List.set_cons_zero, List.set_cons_succ])
      refine wpAnyH_ready (rs := [1]) (by kernel_rfl) (by simp) ?_
      refine AllReadyH.cons (o := ({ dst := some 126, op := Op.call { callee := Callee.value (Operand.func 14), args := #[Operand.tmp 125], argTypes := #[31] }, type := 3, pos := "law.go:561", after := #[{ on := 0, ground := Ground.data }], guard := none } : Oper)) rfl (fun K hK => ?_) AllReadyH.nil
      rw [if_pos (by rfl)]
      go_wp2_with fail
      refine (hrm wd hD.S).mono ?_
      rintro e w8 ⟨rfl, hb8⟩
      have hR8 := HRD.out.1.below hb8
      have hE : SsI w w8 B s5 p q5 m n z (F + 100) := hD.below hb8
      have hC8 := HRD.out.2.tr (Tr.of_below hb8)
      have cs8 := hR8.cells
      rw [show ((n - 102 : Nat) : Int) = (n : Int) - 102 by omega] at cs8
      refine hK.out _ _ ?_ (fun hHeld => ?_)
      · exact cs8
      clear hK K
      (try simp only [Act.put, List.setIfInBounds_toArray, List.set_cons_zero, List.set_cons_succ])
      refine wpAnyH_take (i := 11) (oi := ({ dst := some 136, op := Op.binOp BinOp.neq 3 (Operand.tmp 126) (Operand.tmp 135) 3, type := 4, pos := "law.go:561", after := #[{ on := 1, ground := Ground.data }, { on := 10, ground := Ground.data }], guard := none } : Oper)) (v := .bool false) rfl (by kernel_rfl) (by kernel_rfl) (by kernel_rfl) (fun _ _ _ h => h) (Or.inl ⟨by rfl, ?_⟩) (by assumption) ?_
      · intro w hSw; (try dsimp only at hSw); go_simp
      (try simp only [Act.put, List.setIfInBounds_toArray, List.set_cons_zero, List.set_cons_succ])
      refine wpAnyH_take (i := 12) (oi := ({ dst := some 137, op := Op.move (Operand.tmp 136), type := 4, pos := "law.go:561", after := #[{ on := 11, ground := Ground.data }, { on := 1, ground := Ground.chain }], guard := none } : Oper)) (v := .bool false) rfl (by kernel_rfl) (by kernel_rfl) (by kernel_rfl) (fun _ _ _ h => h) (Or.inl ⟨by rfl, ?_⟩) (by assumption) ?_
      · intro w hSw; (try dsimp only at hSw); go_simp
      (try simp only [Act.put, List.setIfInBounds_toArray, List.set_cons_zero, List.set_cons_succ])
      refine wpAnyH_take (i := 13) (oi := ({ dst := some 138, op := Op.move (Operand.tmp 9), type := 31, pos := "law.go:561", after := #[{ on := 12, ground := Ground.guard }], guard := some (12, false) } : Oper)) (v := .pointer (some ⟨s5, 0, none⟩)) rfl (by kernel_rfl) (by kernel_rfl) (by kernel_rfl) (fun _ _ _ h => h) (Or.inl ⟨by rfl, ?_⟩) (by assumption) ?_
      · intro w hSw; (try dsimp only at hSw); go_simp
      (try simp only [Act.put, List.setIfInBounds_toArray, List.set_cons_zero, List.set_cons_succ])
      refine wpAnyH_take (i := 15) (oi := ({ dst := some 140, op := Op.move (Operand.tmp 11), type := 35, pos := "law.go:561", after := #[{ on := 12, ground := Ground.guard }], guard := some (12, false) } : Oper)) (v := .pointer (some ⟨m, 0, none⟩)) rfl (by kernel_rfl) (by kernel_rfl) (by kernel_rfl) (fun _ _ _ h => h) (Or.inl ⟨by rfl, ?_⟩) (by assumption) ?_
      · intro w hSw; (try dsimp only at hSw); go_simp
      (try simp only [Act.put, List.setIfInBounds_toArray, List.set_cons_zero, List.set_cons_succ])
      refine wpAnyH_take (i := 16) (oi := ({ dst := some 141, op := Op.nilCheck (Operand.tmp 140), type := 0, pos := "law.go:561", after := #[{ on := 15, ground := Ground.data }, { on := 12, ground := Ground.guard }], guard := some (12, false) } : Oper)) (v := .pointer (some ⟨m, 0, none⟩)) rfl (by kernel_rfl) (by kernel_rfl) (by kernel_rfl) (fun _ _ _ h => h) (Or.inl ⟨by rfl, ?_⟩) (by assumption) ?_
      · intro w hSw; (try dsimp only at hSw); go_simp
      (try simp only [Act.put, List.setIfInBounds_toArray, List.set_cons_zero, List.set_cons_succ])
      refine wpAnyH_take (i := 17) (oi := ({ dst := some 142, op := Op.fieldAddr 38 (Operand.tmp 141) 0, type := 0, pos := "law.go:561", after := #[{ on := 16, ground := Ground.data }, { on := 12, ground := Ground.guard }], guard := some (12, false) } : Oper)) (v := .pointer (some ⟨m, 0, none⟩)) rfl (by kernel_rfl) (by kernel_rfl) (by kernel_rfl) (fun _ _ _ h => h) (Or.inl ⟨by rfl, ?_⟩) (by assumption) ?_
      · intro w hSw; (try dsimp only at hSw); go_simp
      (try simp only [Act.put, List.setIfInBounds_toArray, List.set_cons_zero, List.set_cons_succ])
      refine wpAnyH_take (i := 18) (oi := ({ dst := some 143, op := Op.load 36 (Operand.tmp 142), type := 36, pos := "law.go:561", after := #[{ on := 17, ground := Ground.data }, { on := 12, ground := Ground.guard }], guard := some (12, false) } : Oper)) (v := .slice ra z.rows.length rc) rfl (by kernel_rfl) (by kernel_rfl) (by kernel_rfl) (fun _ _ _ h => h) (Or.inl ⟨by rfl, ?_⟩) (by assumption) ?_
      · intro w hSw; obtain ⟨u0, u1, u2⟩ := hSw; go_simp
      (try simp only [Act.put, List.setIfInBounds_toArray, List.set_cons_zero, List.set_cons_succ])
      refine wpAnyH_ready (rs := [14]) (by kernel_rfl) (by simp) ?_
      refine AllReadyH.cons (o := ({ dst := some 139, op := Op.call { callee := Callee.value (Operand.func 16), args := #[Operand.tmp 138], argTypes := #[31] }, type := 36, pos := "law.go:561", after := #[{ on := 13, ground := Ground.data }, { on := 12, ground := Ground.chain }, { on := 12, ground := Ground.guard }], guard := some (12, false) } : Oper)) rfl (fun K hK => ?_) AllReadyH.nil
      rw [if_pos (by rfl)]
      go_wp2_with fail
      refine (rows_sto w8 B s5 p q5 z hE.S (by have := hzb.len; omega)).mono ?_
      rintro e w9 ⟨a9, c9, rfl, -, hw9, hb9⟩
      have hR9 := hR8.below hb9
      have hG : SsI w w9 B s5 p q5 m n z (F + 100) := hE.below hb9
      have hC9 := hC8.tr (Tr.of_below hb9)
      have cs9 := hR9.cells
      rw [show ((n - 102 : Nat) : Int) = (n : Int) - 102 by omega] at cs9
      refine hK.out _ _ ?_ (fun hHeld => ?_)
      · exact cs9
      clear hK K
      (try simp only [Act.put, List.setIfInBounds_toArray, List.set_cons_zero, List.set_cons_succ])
      refine wpAnyH_ready (rs := [19]) (by kernel_rfl) (by simp) ?_
      refine AllReadyH.cons (o := ({ dst := some 144, op := Op.call { callee := Callee.value (Operand.func 15), args := #[Operand.tmp 139, Operand.tmp 143], argTypes := #[36, 36] }, type := 4, pos := "law.go:561", after := #[{ on := 14, ground := Ground.data }, { on := 18, ground := Ground.data }, { on := 14, ground := Ground.chain }, { on := 12, ground := Ground.guard }], guard := some (12, false) } : Oper)) rfl (fun K hK => ?_) AllReadyH.nil
      rw [if_pos (by rfl)]
      have hsm := samech_any a9 ra c9 rc z.rows z.rows w9 hw9 hC9.at_ (by have := hzb.len; unfold maxLen; omega) (by have := hzb.len; unfold maxLen; omega)
      go_wp2_with fail
      refine hsm.mono ?_
      rintro e wa ⟨⟨r, rfl, hr⟩, hba⟩
      obtain rfl : r = true := hr.2 (by first | trivial | rfl)
      have hH : SsI w wa B s5 p q5 m n z (F + 100) := hG.below hba
      have csa := (hR9.below hba).cells
      rw [show ((n - 102 : Nat) : Int) = (n : Int) - 102 by omega] at csa
      clear hsm
      refine hK.out _ _ ?_ (fun hHeld => ?_)
      · exact csa
      clear hK K
      (try simp only [Act.put, List.setIfInBounds_toArray, List.set_cons_zero, List.set_cons_succ])
      refine wpAnyH_take (i := 20) (oi := ({ dst := some 145, op := Op.unOp UnOp.not 4 (Operand.tmp 144), type := 4, pos := "law.go:561", after := #[{ on := 19, ground := Ground.data }, { on := 12, ground := Ground.guard }], guard := some (12, false) } : Oper)) (v := .bool false) rfl (by kernel_rfl) (by kernel_rfl) (by kernel_rfl) (fun _ _ _ h => h) (Or.inl ⟨by rfl, ?_⟩) (by assumption) ?_
      · intro w hSw; (try dsimp only at hSw); go_simp
      (try simp only [Act.put, List.setIfInBounds_toArray, List.set_cons_zero, List.set_cons_succ])
      refine wpAnyH_take (i := 21) (oi := ({ dst := some 146, op := Op.pick (Operand.tmp 137) (Operand.const (Value.bool true)) (Operand.tmp 145), type := 4, pos := "law.go:561", after := #[{ on := 12, ground := Ground.data }, { on := 20, ground := Ground.data }], guard := none } : Oper)) (v := .bool false) rfl (by kernel_rfl) (by kernel_rfl) (by kernel_rfl) (fun _ _ _ h => h) (Or.inl ⟨by rfl, ?_⟩) (by assumption) ?_
      · intro w hSw; (try dsimp only at hSw); go_simp
      (try simp only [Act.put, List.setIfInBounds_toArray, List.set_cons_zero, List.set_cons_succ])
      refine wpAnyH_done (by kernel_rfl) ?_ _
      clear hD hE hG hR8 hR9 hC8 hC9 cs8 cs9 csa hHeld HRD hrm hw9 hMU
      go_wp2_with fail
      go_roundw
      case rel => exact ⟨k + 1, B, s5, q5, z, F + 100, by omega, by go_num, rfl, by omega, hH⟩
      case measure => simp [intOf]; omega
end Go.Proofs.YtikkakdeapbioaaDoor
set_option linter.unusedVariables false
set_option linter.unusedSimpArgs false
set_option linter.unnecessarySimpa false
namespace Go.Proofs.YtikkakdeapbioaaDoor
open Go.RowKit

set_option maxHeartbeats 4000000 in
set_option maxRecDepth 100000 in
theorem ssays_no (n : Int) (a : Option Addr) (l : List Ac) (c : Nat) (w : World) (hw : AcsAt w a l) (hm : l.length ≤ maxLen) (hq : lacB l 40 = false) :
    Calls Tryd.prog 3 #[.int .i64 n, .slice a l.length c] w fun e w' => e = .returned (.bool true) ∧ Below w.heap.size w w' := by
  have hst := stores_any w
  have hla := fun W (hb : Below w.heap.size w W) => lac_any a c l 40 W (hw.below hb) hm (by decide) (by decide)
  rw [hq] at hla
  go_enter Tryd.func3, Tryd.ntmps3
  go_wp2_with fail
  refine hst.mono ?_
  rintro e w1 ⟨rfl, hb1⟩
  clear hst
  go_wp2_with fail
  refine (hla w1 hb1).mono ?_
  rintro e w2 ⟨rfl, rfl⟩
  clear hla
  go_wp2_with fail
  go_ret
  exact ⟨rfl, hb1⟩
set_option maxHeartbeats 4000000 in
set_option maxRecDepth 100000 in
theorem ssays_bnd (n : Int) (a : Option Addr) (l : List Ac) (c : Nat) (w : World) (hw : AcsAt w a l) (hm : l.length ≤ maxLen) (hq : lacB l 40 = true) (hn : ¬ (1 ≤ n ∧ n ≤ 200)) :
    Calls Tryd.prog 3 #[.int .i64 n, .slice a l.length c] w fun e w' => e = .returned (.bool true) ∧ Below w.heap.size w w' := by
  have hst := stores_any w
  have hnew := fun W => new_no n W hn
  have hla := fun W (hb : Below w.heap.size w W) => lac_any a c l 40 W (hw.below hb) hm (by decide) (by decide)
  rw [hq] at hla
  have hsm := fun W => same_eq 1 W (by decide)
  simp only [errV_pos (show (1 : Int) ≠ 0 by decide)] at hsm
  by_cases hlo : n < 1
  · have d1 : decide (n < 1) = true := decide_eq_true hlo
    clear hq
    go_enter Tryd.func3, Tryd.ntmps3
    go_wp2_with fail
    refine hst.mono ?_
    rintro e w1 ⟨rfl, hb1⟩
    clear hst
    go_wp2_with fail
    refine (hla w1 hb1).mono ?_
    rintro e w2 ⟨rfl, rfl⟩
    clear hla
    go_wp2_with fail
    refine (hnew _).mono ?_
    rintro e w3 ⟨rfl, rfl⟩
    clear hnew
    go_wp2_with fail
    refine (hsm _).mono ?_
    rintro e w4 ⟨rfl, rfl⟩
    go_wp2_with fail
    go_ret
    exact ⟨rfl, hb1⟩
  · have d1 : decide (n < 1) = false := decide_eq_false hlo
    have d2 : decide ((200 : Int) < n) = true := decide_eq_true (by omega)
    clear hq
    go_enter Tryd.func3, Tryd.ntmps3
    go_wp2_with fail
    refine hst.mono ?_
    rintro e w1 ⟨rfl, hb1⟩
    clear hst
    go_wp2_with fail
    refine (hla w1 hb1).mono ?_
    rintro e w2 ⟨rfl, rfl⟩
    clear hla
    go_wp2_with fail
    refine (hnew _).mono ?_
    rintro e w3 ⟨rfl, rfl⟩
    clear hnew
    go_wp2_with fail
    refine (hsm _).mono ?_
    rintro e w4 ⟨rfl, rfl⟩
    go_wp2_with fail
    go_ret
    exact ⟨rfl, hb1⟩
set_option maxHeartbeats 4000000 in
set_option maxRecDepth 100000 in
theorem ssays_small (n : Nat) (a : Option Addr) (l : List Ac) (c : Nat) (w : World) (hw : AcsAt w a l) (hm : l.length ≤ maxLen) (hq : lacB l 40 = true) (h1 : 1 ≤ n) (h2 : n < 166) :
    Calls Tryd.prog 3 #[.int .i64 (n : Int), .slice a l.length c] w fun e w' => e = .returned (.bool true) ∧ Below w.heap.size w w' := by
  have hst := stores_any w
  have hnew := fun W => new_o n W h1 (by omega)
  have hla := fun W (hb : Below w.heap.size w W) => lac_any a c l 40 W (hw.below hb) hm (by decide) (by decide)
  rw [hq] at hla
  have d1 : decide ((n : Int) < 1) = false := decide_eq_false (by omega)
  have d2 : decide ((200 : Int) < (n : Int)) = false := decide_eq_false (by omega)
  have d3 : decide ((n : Int) < 166) = true := decide_eq_true (by omega)
  clear hq
  go_enter Tryd.func3, Tryd.ntmps3
  go_wp2_with fail
  refine hst.mono ?_
  rintro e w1 ⟨rfl, hb1⟩
  clear hst
  go_wp2_with fail
  refine (hla w1 hb1).mono ?_
  rintro e w2 ⟨rfl, rfl⟩
  clear hla
  go_wp2_with fail
  refine (hnew _).mono ?_
  rintro e w3 ⟨p, B, rfl, hD, hB, hb3⟩
  clear hnew
  have bl3 := Below_after hb1 hb3
  have hz : (newD n).now[0]? = some zsec := by show (List.replicate n zsec)[0]? = _; rw [List.getElem?_replicate, if_pos (by omega)]
  have hno := open_no B p (newD n) w3 hD rfl hz
  clear hb1 hb3
  go_wp2_with fail
  refine hno.mono ?_
  rintro e w4 ⟨rfl, hb4⟩
  clear hno hz
  have hD4 := hD.below hb4
  have bl4 := Below_after bl3 hb4
  have hs4 := same_eq 4 w4 (by decide)
  rw [errV_pos (by decide)] at hs4
  clear hD bl3 hb4
  go_wp2_with fail
  refine hs4.mono ?_
  rintro e w5 ⟨rfl, rfl⟩
  clear hs4
  have hf := format_small B p (newD n) w5 hD4 (by show (List.replicate n zsec).length < 166; rw [List.length_replicate]; exact h2)
  have hs9 := same_eq 9 w5 (by decide)
  rw [errV_pos (by decide)] at hs9
  go_wp2_with fail
  refine hf.mono ?_
  rintro e w6 ⟨rfl, rfl⟩
  clear hf
  go_wp2_with fail
  refine hs9.mono ?_
  rintro e w7 ⟨rfl, rfl⟩
  go_wp2_with fail
  go_ret
  exact ⟨rfl, bl4⟩
theorem ssays_any (w : World) (x : Int) (hx : (Lit.int .i64 x).wf = true) (a : Option Addr) (l : List Ac) (c : Nat) (hw : AcsAt w a l) (hm : l.length ≤ maxLen) :
    Calls Tryd.prog 3 #[.int .i64 x, .slice a l.length c] w fun e w' => e = .returned (.bool true) ∧ Below w.heap.size w w' := by
  cases hq : lacB l 40
  · exact ssays_no x a l c w hw hm hq
  by_cases hn : 1 ≤ x ∧ x ≤ 200
  · obtain ⟨n, rfl⟩ := Int.eq_ofNat_of_zero_le (show 0 ≤ x by omega)
    by_cases h3 : n < 166
    · exact ssays_small n a l c w hw hm hq (by omega) h3
    · exact ssays_go n a l c w hw hm hq (by omega) (by omega)
  · exact ssays_bnd x a l c w hw hm hq hn
end Go.Proofs.YtikkakdeapbioaaDoor
