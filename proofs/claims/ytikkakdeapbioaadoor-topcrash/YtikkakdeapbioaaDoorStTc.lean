/- For TopCrash: max, min, deeds from outside, how much waits on a disk. -/
import Derived.Test.YtikkakdeapbioaaDoorStFm
set_option linter.unusedVariables false
set_option linter.unusedSimpArgs false
set_option linter.unnecessarySimpa false
namespace Go.Proofs.YtikkakdeapbioaaDoor
open Go.RowKit

theorem ld_len {L : List (List Ch)} {m : Int} (h : ldB L m = true) : (L.length : Int) ≤ m := by
  unfold ldB at h; rw [Bool.and_eq_true] at h; exact of_decide_eq_true h.1
theorem ld_each {L : List (List Ch)} {m : Int} (h : ldB L m = true) : ∀ x ∈ L, x.length ≤ 14 := by
  unfold ldB at h
  rw [Bool.and_eq_true, List.all_eq_true] at h
  intro x hx
  have := h.2 x hx
  unfold lchB at this
  rw [Bool.and_eq_true] at this
  have := of_decide_eq_true this.1
  omega
def mxI (a b : Int) : Int := if b > a then b else a
def mnI (a b : Int) : Int := if b < a then b else a
theorem exec_maxI (ρ : Operand → Value) (o : Oper) (x y : Operand) {c : Call} (a b : Int) (w : World) (ho : o.op = .call c) (hc : c.callee = .builtin .max) (hca : c.args = #[x, y]) (hx : ρ x = .int .i64 a) (hy : ρ y = .int .i64 b) : (execOp ρ o).run Tryd.prog w = .ok (.value (.int .i64 (mxI a b))) w := by
  unfold execOp
  simp only [ho, resolve, hc, hca, List.map_toArray, List.map_cons, List.map_nil, hx, hy, Sem.run_bind, Sem.run_pure, Result.andThen_ok, invoke, builtin, run_max_int2, mxI]
theorem exec_minI (ρ : Operand → Value) (o : Oper) (x y : Operand) {c : Call} (a b : Int) (w : World) (ho : o.op = .call c) (hc : c.callee = .builtin .min) (hca : c.args = #[x, y]) (hx : ρ x = .int .i64 a) (hy : ρ y = .int .i64 b) : (execOp ρ o).run Tryd.prog w = .ok (.value (.int .i64 (mnI a b))) w := by
  unfold execOp
  simp only [ho, resolve, hc, hca, List.map_toArray, List.map_cons, List.map_nil, hx, hy, Sem.run_bind, Sem.run_pure, Result.andThen_ok, invoke, builtin, run_min_int2, mnI]
/-- a guarded operation, met as a whole -/
theorem wpList_runW {P : Program} {ops : Array Oper} {rest : List Oper} {o : Oper} {a : Act} {w w' : World} {Q : Exit → Act → World → Prop} {v : Value} (h : (execOp a.eval o).run P w = .ok (.value v) w') (hw : Region.wanted o (yielded ops a.tmps) = true) (hk : wpList P ops Q rest (a.put o.dst v) w') : wpList P ops Q (o :: rest) a w := by
  refine BigFrame.wpList_want hw fun K hK => ?_
  exact wp_run h (hK _ _ hk)
theorem add_wr2 (d : Dk) (lg : Lg) (l : List Ch) : (addR d lg l).1.wr.length ≤ d.wr.length + 2 * l.length + 3 := by
  rcases add_cases d lg l with ⟨-, e⟩ | ⟨-, e⟩ | ⟨-, e⟩ | ⟨h1, h2, h3, e⟩
  · rw [e]; dsimp only; omega
  · rw [e]; dsimp only; omega
  · rw [e]; dsimp only; omega
  · have w1 := lgW_wr d (lg.frm + lg.used) (List.replicate (addN lg l) ⟨#[]⟩)
    rw [List.length_replicate] at w1
    have hA : addN lg l ≤ l.length + 2 := by unfold addN; omega
    have w2 := lgW_wr (lgW d (lg.frm + lg.used) (List.replicate (addN lg l) ⟨#[]⟩)).1 (lg.frm + lg.used) (deedS (lg.first + lg.used) l)
    have hdl : (deedS (lg.first + lg.used) l).length = l.length + 1 := by unfold deedS; rw [List.length_map, deedL_len]
    rw [e]
    dsimp only
    split
    · dsimp only; omega
    · split
      · dsimp only; omega
      · dsimp only; omega
theorem i64_wf {x : Int} (h : (Lit.int .i64 x).wf = true) : -9223372036854775808 ≤ x ∧ x ≤ 9223372036854775807 := by
  simpa [Lit.wf, IntKind.min, IntKind.max, IntKind.bits, IntKind.signed] using h
theorem u64_wf {x : Int} (h : (Lit.int .u64 x).wf = true) : ∃ n : Nat, x = n ∧ n < 18446744073709551616 := by
  simp [Lit.wf, IntKind.min, IntKind.max, IntKind.bits, IntKind.signed] at h
  exact ⟨x.toNat, by omega, by omega⟩
theorem commit_still {F : Nat} {x : Sto} {base : List Ch} {D : List (List Ch)} (h : SI F x base D) (hF : F ≤ 800000) (hneg : x.d.left < 0) (l : List Ch) :
    cmC x l = mdC x.lg.many x.rows l ∧ (∃ b D, SI (F + 100) (cmR x l) b D) ∧ (cmR x l).rows = (if mdC x.lg.many x.rows l = 0 then apL x.rows l else x.rows) ∧ (cmR x l).lg.used = (if mdC x.lg.many x.rows l = 0 then mdU x.lg.many x.lg.used l else x.lg.used) ∧ (cmR x l).d.now.length = x.d.now.length ∧ (cmR x l).d.left = x.d.left := by
  rcases commit_spec h hF l with ⟨k0, k1, k2, k3⟩ | ⟨k0, k1, k2, k3, k4, k5, k6⟩ | ⟨-, -, k2, -⟩
  · rw [k3, if_neg k0, if_neg k0]
    exact ⟨k2, ⟨base, D, h.q, h.sk, h.lg, h.rows, by have := h.first; omega⟩, rfl, rfl, rfl, rfl⟩
  · rw [if_pos k0, if_pos k0]
    exact ⟨k1.trans k0.symm, k2, k3, k4, k5, k6 hneg⟩
  · omega

theorem DdsB.outside' {w0 w : World} {a : Option Addr} {L : List (List Ch)} (h : DdsB (fun _ => False) w0 a L) (hb : Below w0.heap.size w0 w) : DdsB (fun _ => False) w a L := by
  rcases h with h | ⟨b, o, ha, hlt, -, hc⟩
  · exact .inl h
  · refine .inr ⟨b, o, ha, Nat.lt_of_lt_of_le hlt hb.size, fun e => e, fun j x hx => ?_⟩
    obtain ⟨a', c', h1, h2⟩ := hc j x hx
    exact ⟨a', c', by rw [(bcell hb).1 _ _ hlt]; exact h1, ChsAt.outside (base := 0) h2.at_ hb (fun k hk => hk.elim)⟩
/-! ### what stands behind a fall -/
def FFs (d : Dk) (want last : List Ch) : Prop := ∀ keep : Nat, ∃ h b D u, SK (landW keep d.kept d.wr 0) h b D u ∧ (foldR b D = want ∨ foldR b D = last) ∧ h.first ≤ 500000
theorem FFs.quiet {F : Nat} {x : Sto} {base : List Ch} {D : List (List Ch)} (h : SI F x base D) (hF : F ≤ 500000) (last : List Ch) : FFs x.d x.rows last := fun keep => by
  refine ⟨x.h, base, D, x.lg.used, ?_, .inl h.rows.symm, ?_⟩
  · rw [h.q.wr, h.q.kept]; exact h.sk
  · have := h.first; rw [h.lg] at this; exact Nat.le_trans this hF
theorem lay_wr {d : Dk} {h : Hd3} {rows : List Ch} (x : LayH d h rows) : (layR d h rows).wr.length ≤ 46 := by
  have hm := x.many
  have h0 : d.wr.length = 0 := by rw [x.q.wr]; rfl
  have h1 : (lay1 d h rows).1.wr.length ≤ 45 := by
    have := lgW_wr d (1 + 50 * h.half) (chunks (strOf (joinL rows)))
    show (lgW d (1 + 50 * h.half) (chunks (strOf (joinL rows)))).1.wr.length ≤ 45
    omega
  unfold layR
  split
  · have := lgW_wr (lay1 d h rows).1 0 (chunks (strOf (headL (layF d h rows))))
    rw [head_one] at this
    have e2 : lay2 d h rows = lgW (lay1 d h rows).1 0 [strOf (headL (layF d h rows))] := by show lgW _ _ (chunks _) = _; rw [head_one]
    rw [e2]
    simp only [List.length_cons, List.length_nil] at this
    omega
  · omega
theorem ck_wr {F : Nat} {x : Sto} {base : List Ch} {D : List (List Ch)} (h : SI F x base D) (hF : F ≤ 900000) : (ckR x).d.wr.length ≤ 46 := by
  have := lay_wr (h.layH hF)
  unfold ckR
  split <;> exact this
theorem cm_wr {F : Nat} {x : Sto} {base : List Ch} {D : List (List Ch)} (h : SI F x base D) (hF : F ≤ 900000) (l : List Ch) : (cmR x l).d.wr.length ≤ 400 := by
  have h0 : x.d.wr.length = 0 := by rw [h.q.wr]; rfl
  have h1 := ck_wr h hF
  have hr : (roomR x l).d.wr.length ≤ 46 := by unfold roomR; split <;> omega
  unfold cmR
  split
  · omega
  · rename_i h62
    split
    · omega
    · split
      · omega
      · split
        · omega
        · have := add_wr2 (roomR x l).d (roomR x l).lg l
          show (addR (roomR x l).d (roomR x l).lg l).1.wr.length ≤ 400
          omega
theorem chs_wide {B : Nat → Prop} {w w' : World} {s q : Nat} {a : Option Addr} {l : List Ch} (h : ChsB B w a l) (hb : Below w.heap.size w w') (h1 : w.heap.size ≤ s) (h2 : w.heap.size ≤ q) : ChsB (FF B q s) w' a l := by
  have h4 : ChsB (FF B q s) w a l := h.mono (fun k hk e => by
    rcases e with (e | e) | e
    · exact e
    · have : k = q := e; omega
    · have : k = s := e; omega)
  exact h4.tr (Tr.of_below hb)
theorem ff_base {B : Nat → Prop} {n m s q : Nat} (h : ∀ k, B k → n ≤ k) (hn : n ≤ m) (h1 : m ≤ s) (h2 : m ≤ q) : ∀ k, FF B q s k → n ≤ k := fun k hk => by
  rcases hk with (hk | hk) | hk
  · exact h k hk
  · have : k = q := hk; omega
  · have : k = s := hk; omega
theorem chs_narrow {B : Nat → Prop} {w : World} {s q : Nat} {a : Option Addr} {l : List Ch} (h : ChsB (FF B q s) w a l) : ChsB B w a l := h.mono (fun k _ e => .inl (.inl e))
/-- what stands in the loop -/
structure TcI (w0 wr : World) (B : Nat → Prop) (s p q : Nat) (x : Sto) (F : Nat) (aw al : Option Addr) (last : List Ch) : Prop where
  S : StoO wr B s p q x
  I : ∃ base D, SI F x base D
  base : ∀ k, FF B q s k → w0.heap.size ≤ k
  bl : Below w0.heap.size w0 wr
  w : ChsB (FF B q s) wr aw x.rows
  l : ChsB (FF B q s) wr al last
  ll : last.length ≤ 60
theorem TcI.below {w0 wr w' : World} {B : Nat → Prop} {s p q : Nat} {x : Sto} {F : Nat} {aw al : Option Addr} {last : List Ch} (h : TcI w0 wr B s p q x F aw al last) (hb : Below wr.heap.size wr w') : TcI w0 w' B s p q x F aw al last :=
  ⟨h.S.below hb, h.I, h.base, Below_after h.bl hb, h.w.tr (Tr.of_below hb), h.l.tr (Tr.of_below hb), h.ll⟩
/-- a step of the store that keeps its rows -/
theorem TcI.step {w0 wr w' : World} {B B' : Nat → Prop} {s p q q' : Nat} {x y : Sto} {F F' : Nat} {aw al : Option Addr} {last : List Ch} (h : TcI w0 wr B s p q x F aw al last) (hS : StoO w' B' s p q' y) (hT : Tr (FF B q s) (FF B' q' s) wr w') (hI : ∃ base D, SI F' y base D) (hr : y.rows = x.rows) : TcI w0 w' B' s p q' y F' aw al last :=
  ⟨hS, hI, hT.base h.base h.bl.size, h.bl.trans (hT.to_below h.base h.bl.size), by rw [hr]; exact h.w.tr hT, h.l.tr hT, h.ll⟩
set_option maxHeartbeats 8000000 in
set_option maxRecDepth 100000 in
theorem tcrash_yes (a : Option Addr) (L : List (List Ch)) (c : Nat) (fuse : Int) (keep : Nat) (w : World) (hin : DdsB (fun _ => False) w a L) (hm : L.length ≤ maxLen) (hs : ∀ x ∈ L, x.length ≤ maxLen) (hf0 : -9223372036854775808 ≤ fuse) (hf1 : fuse ≤ 9223372036854775807) (hkp : keep < 18446744073709551616) (hq : ldB L 20 = true) :
    Calls Tryd.prog 4 #[.slice a L.length c, .int .i64 fuse, .int .u64 (keep : Int)] w fun e w' => e = .returned (.bool true) ∧ Below w.heap.size w w' := by
  have hL20 : L.length ≤ 20 := by have := ld_len hq; omega
  have hL14 := ld_each hq
  have hkt := kept_any w
  have hsd := fun W => stored_any 170 W (by decide) (by decide)
  rw [show ((170 : Nat) : Int) = 170 from rfl] at hsd
  go_enter Tryd.func4, Tryd.ntmps4
  go_wp2_with fail
  refine hkt.mono ?_
  rintro e w1 ⟨rfl, hb1⟩
  clear hkt
  go_wp2_with fail
  refine (hsd w1).mono ?_
  rintro e w2 ⟨B, s, p, q, x, rfl, hS, hI, hn, hu, hr, hneg, hB, hb2⟩
  clear hsd
  have bl2 := Below_after hb1 hb2
  replace hB : ∀ k, FF B q s k → w.heap.size ≤ k := fun k hk => Nat.le_trans hb1.size (hB k hk)
  clear hb1 hb2
  have hld := light_any (fun _ => False) a c L 20 w2 (DdsB.outside' hin bl2) hm hs (by decide) (by decide)
  rw [hq] at hld
  clear hq
  have hf2 : -9223372036854775808 ≤ mnI (mxI fuse (-1)) 400 ∧ mnI (mxI fuse (-1)) 400 ≤ 9223372036854775807 := by unfold mnI mxI; omega
  go_wp2_with fail
  refine hld.mono ?_
  rintro e w3 ⟨rfl, rfl⟩
  clear hld
  have harm := arm_o B p x.d (mnI (mxI fuse (-1)) 400) w3 hS.dk hf2.1 hf2.2
  go_wp2_with (first | (refine wpList_run (by rfl) (exec_maxI _ _ _ _ fuse (-1) _ (by rfl) (by rfl) (by rfl) (by rfl) (by rfl)) ?_) | (refine wpList_run (by rfl) (exec_minI _ _ _ _ (mxI fuse (-1)) 400 _ (by rfl) (by rfl) (by rfl) (by rfl) (by rfl)) ?_))
  refine harm.mono ?_
  rintro e w5 ⟨B5, rfl, hD5, hT5⟩
  clear harm
  have h5 : TcI w w5 B5 s p q ⟨armR x.d (mnI (mxI fuse (-1)) 400), x.h, x.lg, x.rows⟩ 100 none none [] := by
    obtain ⟨ra, rc, r1, r2⟩ := hS.st
    have hTF := ff_wide (q := q) (s := s) hT5
    refine ⟨⟨hD5, (hS.lga.tr hT5 hS.nq).2, (r1.tr hT5 hS.ns).2, hS.qs, (hS.lga.tr hT5 hS.nq).1, ra, rc, (r1.tr hT5 hS.ns).1, r2.tr hTF⟩, ⟨[], [], ⟨hI.q.kept, hI.q.wr, hI.q.down⟩, hI.sk, hI.lg, hI.rows, hI.first⟩, hTF.base hB bl2.size, bl2.trans (hTF.to_below hB bl2.size), .inl hr, .inl rfl, by simp⟩
  clear hD5 hT5 hS hI hB bl2 hn hu hneg
  generalize hx0 : Sto.mk (armR x.d (mnI (mxI fuse (-1)) 400)) x.h x.lg x.rows = x0 at *
  have hr0 : x0.rows = [] := by rw [← hx0]; exact hr
  clear hx0 hr hf2
  go_wp2_with fail
  go_loopw [12, 10, 11, 13] (fun i xw xl _ wr => ∃ (k : Nat) (B : Nat → Prop) (q : Nat) (x : Sto) (F : Nat) (aw al : Option Addr) (cw cl : Nat) (want last : List Ch), k ≤ L.length ∧ i = .int .i64 k ∧ xw = .slice aw want.length cw ∧ xl = .slice al last.length cl ∧ F ≤ 100 + 200 * k ∧ x.rows = want ∧ TcI w wr B s p q x F aw al last) (fun i _ _ _ _ => L.length - (intOf i).toNat)
  case atStart => exact ⟨0, B5, q, x0, 100, none, none, 0, 0, [], [], Nat.zero_le _, rfl, rfl, rfl, by omega, hr0, h5⟩
  case round =>
    clear h5 hr0
    obtain ⟨k, B, q, x, F, aw, al, cw, cl, want, last, hk, rfl, rfl, rfl, hF, hwr, h⟩ := hrel
    by_cases hlt : k < L.length
    rotate_left
    · have dlt : decide ((k : Int) < (L.length : Int)) = false := decide_eq_false (by omega)
      obtain ⟨base, D, hI⟩ := h.I
      have hFF : Hid (FFs x.d want last) := by have := FFs.quiet hI (by omega) last; rw [hwr] at this; exact this
      have hwr0 : x.d.wr.length ≤ 1000 := by rw [hI.q.wr]; simp
      have hwl : want.length ≤ 60 := by rw [← hwr]; exact (hI.stb (by omega)).len
      have hll := h.ll
      have hDk := h.S.dk
      have hWt := chs_narrow h.w
      rw [hwr] at hWt
      have hLt := chs_narrow h.l
      have hBs : ∀ k, B k → w.heap.size ≤ k := fun k hk => h.base k (.inl (.inl hk))
      have hBl := h.bl
      clear h hI hwr
      have hrs := restart_o B p x.d keep wr hDk (by omega) hkp
      go_wp2_with fail
      refine hrs.mono ?_
      rintro e wa ⟨Ba, rfl, hDa, hTa⟩
      clear hrs
      obtain ⟨h', b', D', u', hSK, hEq, hFi⟩ := hFF.out keep
      have hQ : QD (reR x.d keep) := ⟨rfl, rfl, rfl⟩
      have hSK2 : SK (reR x.d keep).now h' b' D' u' := hSK
      have hneg : (reR x.d keep).left < 0 := by show (-1 : Int) < 0; decide
      have hWa := hWt.tr hTa
      have hLa := hLt.tr hTa
      have hBa := hTa.base hBs hBl.size
      have hBla := hBl.trans (hTa.to_below hBs hBl.size)
      clear hTa hDk hFF hWt hLt hBs hBl hSK hwr0
      generalize reR x.d keep = d1 at *
      have hop := open_sk Ba p d1 h' b' D' u' 500000 wa hDa hQ hSK2 hFi (by decide)
      go_wp2_with fail
      refine hop.mono ?_
      rintro e wb ⟨s1, q1, rfl, hSb, hIb, hbb, hs1, hq1⟩
      clear hop
      have hWb := chs_wide hWa hbb hs1 hq1
      have hLb := chs_wide hLa hbb hs1 hq1
      have hBb := ff_base hBa hBla.size hs1 hq1
      have hBlb := Below_after hBla hbb
      clear hWa hLa hBa hBla hbb hs1 hq1 hDa hQ hSK2
      generalize hx1 : Sto.mk d1 h' ⟨102, d1.now.length - 102, h'.first, u'⟩ (foldR b' D') = x1 at *
      have hn1 : x1.d.left < 0 := by rw [← hx1]; exact hneg
      replace hEq : x1.rows = want ∨ x1.rows = last := by rw [← hx1]; exact hEq
      clear hx1 hneg
      have hl1 := (hIb.stb (by decide)).len
      have hrw := rows_sto wb Ba s1 p q1 x1 hSb (by omega)
      go_wp2_with fail
      refine hrw.mono ?_
      rintro e wc ⟨ag, cg, rfl, hog, hag, hbc⟩
      clear hrw
      obtain ⟨ag', cg', hve, hgc⟩ := own_chsB hog (chs_fit hag) (B := FF Ba q1 s1) hSb.lt
      cases hve
      have hWc := hWb.tr (Tr.of_below hbc)
      have hLc := hLb.tr (Tr.of_below hbc)
      have hSc := hSb.below hbc
      have hBlc := Below_after hBlb hbc
      clear hog hWb hLb hSb hBlb hbc
      have hs1 := samech_any ag aw cg cw x1.rows want wc hag hWc.at_ (by unfold maxLen; omega) (by unfold maxLen; omega)
      clear hag
      go_wp2_with fail
      refine hs1.mono ?_
      rintro e wd0 ⟨⟨r1, rfl, hr1⟩, hbd⟩
      clear hs1
      cases r1
      · have hEL : x1.rows = last := by
          rcases hEq with h | h
          · exact absurd (hr1.2 h) (by decide)
          · exact h
        have hgd := hgc.tr (Tr.of_below hbd)
        have hs2 := samech_any ag al cg cl x1.rows last wd0 hgd.at_ (hLc.tr (Tr.of_below hbd)).at_ (by unfold maxLen; omega) (by unfold maxLen; omega)
        have hX0 : ∀ W, Below wd0.heap.size wd0 W → StoO W Ba s1 p q1 x1 ∧ SI 500000 x1 b' D' ∧ x1.d.left < 0 ∧ ChsB (FF Ba q1 s1) W ag x1.rows ∧ (∀ k, FF Ba q1 s1 k → w.heap.size ≤ k) ∧ Below w.heap.size w W ∧ x1.rows.length ≤ 60 := fun W hW => ⟨(hSc.below hbd).below hW, hIb, hn1, hgd.tr (Tr.of_below hW), hBb, Below_after (Below_after hBlc hbd) hW, hl1⟩
        have HEL : Hid (x1.rows = last) := hEL
        clear hEq hWc hLc hSc hBlc hbd hgd hgc hIb hBb hr1 hEL
        go_wp2_with fail
        refine hs2.mono ?_
        rintro e wd ⟨⟨r2, rfl, hr2⟩, hbe⟩
        obtain rfl : r2 = true := hr2.2 HEL.out
        have hX := hX0 wd hbe
        clear hs2 hr2 hX0 hbe HEL
        have hcm := commit_any wd Ba s1 p q1 x1 hX.1 hX.2.1 (by omega) none 0 [] (.inl rfl) (by decide)
        obtain ⟨m1, ⟨b2, D2, m2⟩, m3, m4, m5, m6⟩ := commit_still hX.2.1 (by omega) hX.2.2.1 []
        have hmd : mdC x1.lg.many x1.rows [] = 0 := by
          have h1 : x1.lg.many = x1.d.now.length - 102 := by rw [hX.2.1.lg]
          have h2 := hX.2.1.sk.n
          have h3 := (hX.2.1.stb (by omega)).len
          unfold mdC
          rw [if_neg (by simp), if_neg (by simp [chksC]), if_neg]
          rintro (h | h)
          · have h' : 60 < x1.rows.length := h
            omega
          · simp only [List.length_nil] at h
            omega
        rw [m1, hmd, errV_zero] at hcm
        rw [hmd, if_pos rfl] at m3
        have m3' : (cmR x1 []).rows = x1.rows := m3
        have m7 : (cmR x1 []).d.left < 0 := by rw [m6]; exact hX.2.2.1
        clear m1 m3 m4 m5 m6 hmd
        have HX : Hid (ChsB (FF Ba q1 s1) wd ag x1.rows ∧ (∀ k, FF Ba q1 s1 k → w.heap.size ≤ k) ∧ Below w.heap.size w wd ∧ x1.rows.length ≤ 60) := hX.2.2.2
        clear hX
        generalize cmR x1 [] = x2 at *
        rw [show ([] : List Ch).length = 0 from rfl] at hcm
        go_wp2_with fail
        refine hcm.mono ?_
        rintro e we ⟨Be, q2, rfl, hSe, hTe⟩
        obtain ⟨hg, hbs, hbl, hxl⟩ := HX.out
        have hge := hg.tr hTe
        have hbse := hTe.base hbs hbl.size
        have hble := hbl.trans (hTe.to_below hbs hbl.size)
        clear hcm hg hbs hbl hTe HX
        have hck := ck_any we Be s1 p q2 x2 hSe (m2.stb (by omega))
        rcases ck_spec m2 (by omega) with ⟨e0, e1, e2, e3, e4, e5⟩ | ⟨-, e1, -⟩
        rotate_left
        · exact absurd e1 (by omega)
        rw [e0, errV_zero] at hck
        clear e0 e3 e4 e5 hSe m2 m7
        rw [m3'] at e1 e2
        clear m3'
        generalize ckR x2 = x3 at *
        go_wp2_with fail
        refine hck.mono ?_
        rintro e wf ⟨Bf, q3, rfl, hSf, hTf⟩
        have hgf := hge.tr hTf
        have hbsf := hTf.base hbse hble.size
        have hblf := hble.trans (hTf.to_below hbse hble.size)
        clear hck hge hbse hble hTf
        have hop := open_sk Bf p x3.d x3.h x1.rows [] x3.lg.used 800000 wf hSf.dk e1.q e1.sk (by have h1 := e1.first; rw [e1.lg] at h1; exact Nat.le_trans h1 (by omega)) (by decide)
        have HR : Hid (foldR x1.rows [] = x1.rows) := show Hid _ from rfl
        rw [HR.out] at hop
        clear hSf e1 e2
        go_wp2_with fail
        refine hop.mono ?_
        rintro e wg ⟨s4, q4, rfl, hSg, -, hbg, -, -⟩
        clear hop
        have hgg := hgf.tr (Tr.of_below hbg)
        have hblg := Below_after hblf hbg
        clear hgf hblf hbg hbsf
        have hrw := rows_sto wg Bf s4 p q4 _ hSg (by show x1.rows.length ≤ 1000; omega)
        dsimp only at hrw
        clear hSg
        go_wp2_with fail
        refine hrw.mono ?_
        rintro e wh ⟨ah, ch, rfl, -, hwh, hbh⟩
        clear hrw
        have hgh := hgg.tr (Tr.of_below hbh)
        have hblh := Below_after hblg hbh
        clear hgg hblg hbh
        have hsm := samech_any ah ag ch cg x1.rows x1.rows wh hwh hgh.at_ (by unfold maxLen; omega) (by unfold maxLen; omega)
        clear hwh hgh
        go_wp2_with fail
        refine hsm.mono ?_
        rintro e wi ⟨⟨r, rfl, hr⟩, hbi⟩
        obtain rfl : r = true := hr.2 (by first | trivial | rfl)
        go_wp2_with fail
        go_ret
        exact ⟨rfl, Below_after hblh hbi⟩
      · have hX : StoO wd0 Ba s1 p q1 x1 ∧ SI 500000 x1 b' D' ∧ x1.d.left < 0 ∧ ChsB (FF Ba q1 s1) wd0 ag x1.rows ∧ (∀ k, FF Ba q1 s1 k → w.heap.size ≤ k) ∧ Below w.heap.size w wd0 ∧ x1.rows.length ≤ 60 := ⟨hSc.below hbd, hIb, hn1, hgc.tr (Tr.of_below hbd), hBb, Below_after hBlc hbd, hl1⟩
        clear hEq hWc hLc hSc hBlc hbd hgc hIb hBb hr1
        have hcm := commit_any wd0 Ba s1 p q1 x1 hX.1 hX.2.1 (by omega) none 0 [] (.inl rfl) (by decide)
        obtain ⟨m1, ⟨b2, D2, m2⟩, m3, m4, m5, m6⟩ := commit_still hX.2.1 (by omega) hX.2.2.1 []
        have hmd : mdC x1.lg.many x1.rows [] = 0 := by
          have h1 : x1.lg.many = x1.d.now.length - 102 := by rw [hX.2.1.lg]
          have h2 := hX.2.1.sk.n
          have h3 := (hX.2.1.stb (by omega)).len
          unfold mdC
          rw [if_neg (by simp), if_neg (by simp [chksC]), if_neg]
          rintro (h | h)
          · have h' : 60 < x1.rows.length := h
            omega
          · simp only [List.length_nil] at h
            omega
        rw [m1, hmd, errV_zero] at hcm
        rw [hmd, if_pos rfl] at m3
        have m3' : (cmR x1 []).rows = x1.rows := m3
        have m7 : (cmR x1 []).d.left < 0 := by rw [m6]; exact hX.2.2.1
        clear m1 m3 m4 m5 m6 hmd
        have HX : Hid (ChsB (FF Ba q1 s1) wd0 ag x1.rows ∧ (∀ k, FF Ba q1 s1 k → w.heap.size ≤ k) ∧ Below w.heap.size w wd0 ∧ x1.rows.length ≤ 60) := hX.2.2.2
        clear hX
        generalize cmR x1 [] = x2 at *
        rw [show ([] : List Ch).length = 0 from rfl] at hcm
        go_wp2_with fail
        refine hcm.mono ?_
        rintro e we ⟨Be, q2, rfl, hSe, hTe⟩
        obtain ⟨hg, hbs, hbl, hxl⟩ := HX.out
        have hge := hg.tr hTe
        have hbse := hTe.base hbs hbl.size
        have hble := hbl.trans (hTe.to_below hbs hbl.size)
        clear hcm hg hbs hbl hTe HX
        have hck := ck_any we Be s1 p q2 x2 hSe (m2.stb (by omega))
        rcases ck_spec m2 (by omega) with ⟨e0, e1, e2, e3, e4, e5⟩ | ⟨-, e1, -⟩
        rotate_left
        · exact absurd e1 (by omega)
        rw [e0, errV_zero] at hck
        clear e0 e3 e4 e5 hSe m2 m7
        rw [m3'] at e1 e2
        clear m3'
        generalize ckR x2 = x3 at *
        go_wp2_with fail
        refine hck.mono ?_
        rintro e wf ⟨Bf, q3, rfl, hSf, hTf⟩
        have hgf := hge.tr hTf
        have hbsf := hTf.base hbse hble.size
        have hblf := hble.trans (hTf.to_below hbse hble.size)
        clear hck hge hbse hble hTf
        have hop := open_sk Bf p x3.d x3.h x1.rows [] x3.lg.used 800000 wf hSf.dk e1.q e1.sk (by have h1 := e1.first; rw [e1.lg] at h1; exact Nat.le_trans h1 (by omega)) (by decide)
        have HR : Hid (foldR x1.rows [] = x1.rows) := show Hid _ from rfl
        rw [HR.out] at hop
        clear hSf e1 e2
        go_wp2_with fail
        refine hop.mono ?_
        rintro e wg ⟨s4, q4, rfl, hSg, -, hbg, -, -⟩
        clear hop
        have hgg := hgf.tr (Tr.of_below hbg)
        have hblg := Below_after hblf hbg
        clear hgf hblf hbg hbsf
        have hrw := rows_sto wg Bf s4 p q4 _ hSg (by show x1.rows.length ≤ 1000; omega)
        dsimp only at hrw
        clear hSg
        go_wp2_with fail
        refine hrw.mono ?_
        rintro e wh ⟨ah, ch, rfl, -, hwh, hbh⟩
        clear hrw
        have hgh := hgg.tr (Tr.of_below hbh)
        have hblh := Below_after hblg hbh
        clear hgg hblg hbh
        have hsm := samech_any ah ag ch cg x1.rows x1.rows wh hwh hgh.at_ (by unfold maxLen; omega) (by unfold maxLen; omega)
        clear hwh hgh
        go_wp2_with fail
        refine hsm.mono ?_
        rintro e wi ⟨⟨r, rfl, hr⟩, hbi⟩
        obtain rfl : r = true := hr.2 (by first | trivial | rfl)
        go_wp2_with fail
        go_ret
        exact ⟨rfl, Below_after hblh hbi⟩
    have dlt : decide ((k : Int) < (L.length : Int)) = true := decide_eq_true (by omega)
    have hxd : L[k]? = some L[k] := List.getElem?_eq_getElem hlt
    have hd14 := hL14 _ (List.getElem_mem hlt)
    obtain ⟨b, o, hab, hbl0, -, hcs⟩ := hin.resolve_left (by rintro e; rw [e] at hlt; simp at hlt)
    obtain ⟨a', c', hcell, hdch⟩ := hcs k _ hxd
    have HD : Hid ((∀ W, Below w.heap.size w W → W.cell? ⟨b, o + k, none⟩ = some (.slice a' L[k].length c')) ∧ b < w.heap.size ∧ ∀ (W : World) (C : Nat → Prop), Below w.heap.size w W → (∀ k, C k → w.heap.size ≤ k) → ChsB C W a' L[k]) := ⟨fun W hW => by rw [(bcell hW).1 _ _ hbl0]; exact hcell, hbl0, fun W C hW hC => ChsAt.outside (base := 0) hdch.at_ hW hC⟩
    generalize hdl : L[k] = l at *
    clear hcs hxd hcell hdch hdl
    subst hab
    by_cases h5 : k % 5 = 4
    · have d5 : decide ((k : Int) % 5 = 4) = true := decide_eq_true (by omega)
      have d5b : ((k : Int) % 5 == 4) = true := by simp; omega
      have d5c : ((k : Int).tmod 5 == 4) = true := by rw [Int.tmod_eq_emod_of_nonneg (by omega)]; simp; omega
      obtain ⟨base, D, hI⟩ := h.I
      have hck := ck_any wr B s p q x h.S (hI.stb (by omega))
      have hcw := ck_wr hI (by omega)
      have HIF : Hid (SI F x base D) := hI
      rcases ck_spec hI (by omega) with ⟨e0, e1, e2, -, -, -⟩ | ⟨e0, -, -, -, e4⟩
      · rw [e0] at hck
        clear e0 hI hcw HIF
        generalize ckR x = y at *
        go_wp2_with fail
        refine hck.mono ?_
        rintro e w6 ⟨B6, q6, rfl, hS6, hT6⟩
        clear hck
        have h6 := h.step hS6 hT6 ⟨_, _, e1⟩ e2
        have hn6 := number_err 0 w6
        clear h hS6 hT6
        replace hwr : y.rows = want := e2.trans hwr
        clear e1 e2
        rw [errV_zero] at hn6 ⊢
        go_wp2_with fail
        refine hn6.mono ?_
        rintro e w7 ⟨rfl, rfl⟩
        clear hn6
        have hF6 : F + 100 ≤ 200 + 200 * k := by omega
        have hcm := commit_any w7 B6 s p q6 y h6.S h6.I.choose_spec.choose_spec (by omega) a' c' l (HD.out.2.2 w7 _ h6.bl h6.base) (by unfold maxLen; omega)
        have hcell := HD.out.1 w7 h6.bl
        have hbW : b < w7.heap.size := Nat.lt_of_lt_of_le HD.out.2.1 h6.bl.size
        obtain ⟨base6, D6, hI6⟩ := h6.I
        have hcw := cm_wr hI6 (by omega) l
        have hstb := hI6.stb (by omega)
        have hlr := hstb.len
        have HRIS : Hid (Ris y.rows) := hstb.ris
        have HMD : Hid (mdC y.lg.many y.rows l = 0 → (apL y.rows l).length ≤ 60) := fun e => by
          unfold mdC at e
          split at e
          · cases e
          · split at e
            · rename_i h1; exact absurd e h1
            · split at e
              · cases e
              · omega
        rcases commit_spec hI6 (by omega) l with ⟨k0, k1, k2, k3⟩ | ⟨k0, k1, k2, k3, -, -, -⟩ | ⟨k0, kz, -, -, -, k4⟩
        · -- refused
          rw [k2, k3] at hcm
          clear hcw k2 k3
          generalize mdC y.lg.many y.rows l = cc at *
          have hne : (cc == 10) = false := by simpa using k1
          go_wp2_with fail
          refine hcm.mono ?_
          rintro e w8 ⟨B8, q8, rfl, hS8, hT8⟩
          have h8 := h6.step hS8 hT8 ⟨_, _, hI6⟩ rfl
          have hn8 := number_err cc w8
          clear hcm hS8 hT8 h6 hI6 hcell
          rw [errV_pos k0] at hn8 ⊢
          go_wp2_with fail
          refine hn8.mono ?_
          rintro e w9 ⟨rfl, rfl⟩
          clear hn8
          go_wp2_with fail
          go_roundw
          case rel => exact ⟨k + 1, B8, q8, y, (F + 100), aw, al, cw, cl, want, last, by omega, by go_num, rfl, rfl, by omega, hwr, h8⟩
          case measure => simp [intOf]; omega
        · -- done
          rw [k1, errV_zero] at hcm
          have hal := HMD.out k0
          clear k0 k1 hcw
          obtain ⟨b8, D8, hI8⟩ := k2
          generalize cmR y l = z at *
          have hap := fun W (h1 : ChsAt W aw y.rows) (h2 : ChsAt W a' l) => applied_any aw a' cw c' y.rows l W h1 h2 HRIS.out (by omega) (by omega)
          rw [hwr] at hap
          go_wp2_with fail
          refine hcm.mono ?_
          rintro e w8 ⟨B8, q8, rfl, hS8, hT8⟩
          clear hcm hcell hbW
          have hb8 : ∀ k, FF B8 q8 s k → w.heap.size ≤ k := hT8.base h6.base h6.bl.size
          have bl8 : Below w.heap.size w w8 := h6.bl.trans (hT8.to_below h6.base h6.bl.size)
          have hw8 := h6.w.tr hT8
          rw [hwr] at hw8
          have hd8 := HD.out.2.2 w8 (fun _ => False) bl8 (fun k hk => hk.elim)
          have hcell := HD.out.1 w8 bl8
          have hbW : b < w8.heap.size := Nat.lt_of_lt_of_le HD.out.2.1 bl8.size
          have hap8 := hap w8 hw8.at_ hd8.at_
          have hft : KFit (apL want l) := apL_fit l want (chs_fit hw8.at_) (chs_fit hd8.at_)
          rw [hwr] at k3 hal
          clear hT8 hap h6 hw8 hd8 hI6 hwr HRIS HMD
          generalize apL want l = R at *
          go_wp2_with fail
          refine hap8.mono ?_
          rintro e w9 ⟨v9, rfl, ho9, hb9⟩
          obtain ⟨a9, c9, rfl, hc9⟩ := own_chsB ho9 hft (B := FF B8 q8 s) hS8.lt
          have h9 : TcI w w9 B8 s p q8 z ((F + 100) + 100) a9 a9 R := ⟨hS8.below hb9, ⟨_, _, hI8⟩, hb8, Below_after bl8 hb9, by rw [k3]; exact hc9, hc9, hal⟩
          clear hap8 hcell hbW ho9 hc9 hb9 hS8 hI8 hb8 bl8
          go_wp2_with fail
          go_roundw
          case rel => exact ⟨k + 1, B8, q8, z, (F + 100) + 100, a9, a9, c9, c9, R, R, by omega, by go_num, rfl, rfl, by omega, k3, h9⟩
          case measure => simp [intOf]; omega
        · -- fell
          rw [k0] at hcm
          have hal := HMD.out kz
          have hFF0 : FFs (cmR y l).d y.rows (apL y.rows l) := fun keep => by
            obtain ⟨h', b', D', u', z1, z2, z3⟩ := k4 keep
            exact ⟨h', b', D', u', z1, z2, by omega⟩
          have hwr0 : (cmR y l).d.wr.length ≤ 1000 := by omega
          clear k0 kz k4 hcw
          generalize cmR y l = z at *
          rw [hwr] at hFF0 hal
          have hap := fun W (h1 : ChsAt W aw y.rows) (h2 : ChsAt W a' l) => applied_any aw a' cw c' y.rows l W h1 h2 HRIS.out (by omega) (by omega)
          have hwl : want.length ≤ 60 := by rw [← hwr]; exact hlr
          rw [hwr] at hap
          go_wp2_with fail
          refine hcm.mono ?_
          rintro e w8 ⟨B2, q8, rfl, hS8, hT8⟩
          clear hcm hcell hbW
          have hBs : ∀ k, B2 k → w.heap.size ≤ k := fun k hk => hT8.base h6.base h6.bl.size k (.inl (.inl hk))
          have bl8 : Below w.heap.size w w8 := h6.bl.trans (hT8.to_below h6.base h6.bl.size)
          have hw8 := chs_narrow (h6.w.tr hT8)
          rw [hwr] at hw8
          have hd8 := HD.out.2.2 w8 (fun _ => False) bl8 (fun k hk => hk.elim)
          have hcell := HD.out.1 w8 bl8
          have hbW : b < w8.heap.size := Nat.lt_of_lt_of_le HD.out.2.1 bl8.size
          have hap8 := hap w8 hw8.at_ hd8.at_
          have hft : KFit (apL want l) := apL_fit l want (chs_fit hw8.at_) (chs_fit hd8.at_)
          have hFF : Hid (FFs z.d want (apL want l)) := hFF0
          have hDk := hS8.dk
          have hn8 := number_err 10 w8
          rw [errV_pos (by decide)] at hn8
          clear hT8 hap h6 hd8 hI6 hwr HRIS HMD hFF0 hS8
          generalize apL want l = R at *
          generalize z.d = d at *
          rw [errV_pos (by decide)]
          go_wp2_with fail
          refine hn8.mono ?_
          rintro e w9 ⟨rfl, rfl⟩
          clear hn8
          go_wp2_with fail
          refine hap8.mono ?_
          rintro e wt ⟨v9, rfl, ho9, hb9⟩
          obtain ⟨al9, cl9, rfl, hLt⟩ := own_chsB ho9 hft (B := B2) hDk.lt
          have hWt := hw8.tr (Tr.of_below hb9)
          replace hDk := hDk.below hb9
          have hBl := Below_after bl8 hb9
          clear hap8 hcell hbW ho9 hb9 hw8 bl8 hft
          have hrs := restart_o B2 p d keep wt hDk (by omega) hkp
          go_wp2_with fail
          refine hrs.mono ?_
          rintro e wa ⟨Ba, rfl, hDa, hTa⟩
          clear hrs
          obtain ⟨h', b', D', u', hSK, hEq, hFi⟩ := hFF.out keep
          have hQ : QD (reR d keep) := ⟨rfl, rfl, rfl⟩
          have hSK2 : SK (reR d keep).now h' b' D' u' := hSK
          have hneg : (reR d keep).left < 0 := by show (-1 : Int) < 0; decide
          have hWa := hWt.tr hTa
          have hLa := hLt.tr hTa
          have hBa := hTa.base hBs hBl.size
          have hBla := hBl.trans (hTa.to_below hBs hBl.size)
          clear hTa hDk hFF hWt hLt hBs hBl hSK hwr0
          generalize reR d keep = d1 at *
          have hop := open_sk Ba p d1 h' b' D' u' 500000 wa hDa hQ hSK2 hFi (by decide)
          go_wp2_with fail
          refine hop.mono ?_
          rintro e wb ⟨s1, q1, rfl, hSb, hIb, hbb, hs1, hq1⟩
          clear hop
          have hWb := chs_wide hWa hbb hs1 hq1
          have hLb := chs_wide hLa hbb hs1 hq1
          have hBb := ff_base hBa hBla.size hs1 hq1
          have hBlb := Below_after hBla hbb
          clear hWa hLa hBa hBla hbb hs1 hq1 hDa hQ hSK2
          generalize hx1 : Sto.mk d1 h' ⟨102, d1.now.length - 102, h'.first, u'⟩ (foldR b' D') = x1 at *
          have hn1 : x1.d.left < 0 := by rw [← hx1]; exact hneg
          replace hEq : x1.rows = want ∨ x1.rows = R := by rw [← hx1]; exact hEq
          clear hx1 hneg
          have hl1 := (hIb.stb (by decide)).len
          have hrw := rows_sto wb Ba s1 p q1 x1 hSb (by omega)
          go_wp2_with fail
          refine hrw.mono ?_
          rintro e wc ⟨ag, cg, rfl, hog, hag, hbc⟩
          clear hrw
          obtain ⟨ag', cg', hve, hgc⟩ := own_chsB hog (chs_fit hag) (B := FF Ba q1 s1) hSb.lt
          cases hve
          have hWc := hWb.tr (Tr.of_below hbc)
          have hLc := hLb.tr (Tr.of_below hbc)
          have hSc := hSb.below hbc
          have hBlc := Below_after hBlb hbc
          clear hog hWb hLb hSb hBlb hbc
          have hs1 := samech_any ag aw cg cw x1.rows want wc hag hWc.at_ (by unfold maxLen; omega) (by unfold maxLen; omega)
          clear hag
          go_wp2_with fail
          refine hs1.mono ?_
          rintro e wd0 ⟨⟨r1, rfl, hr1⟩, hbd⟩
          clear hs1
          cases r1
          · have hEL : x1.rows = R := by
              rcases hEq with h | h
              · exact absurd (hr1.2 h) (by decide)
              · exact h
            have hgd := hgc.tr (Tr.of_below hbd)
            have hs2 := samech_any ag al9 cg cl9 x1.rows R wd0 hgd.at_ (hLc.tr (Tr.of_below hbd)).at_ (by unfold maxLen; omega) (by unfold maxLen; omega)
            have hX0 : ∀ W, Below wd0.heap.size wd0 W → StoO W Ba s1 p q1 x1 ∧ SI 500000 x1 b' D' ∧ x1.d.left < 0 ∧ ChsB (FF Ba q1 s1) W ag x1.rows ∧ (∀ k, FF Ba q1 s1 k → w.heap.size ≤ k) ∧ Below w.heap.size w W ∧ x1.rows.length ≤ 60 := fun W hW => ⟨(hSc.below hbd).below hW, hIb, hn1, hgd.tr (Tr.of_below hW), hBb, Below_after (Below_after hBlc hbd) hW, hl1⟩
            have HEL : Hid (x1.rows = R) := hEL
            clear hEq hWc hLc hSc hBlc hbd hgd hgc hIb hBb hr1 hEL
            go_wp2_with fail
            refine hs2.mono ?_
            rintro e wd ⟨⟨r2, rfl, hr2⟩, hbe⟩
            obtain rfl : r2 = true := hr2.2 HEL.out
            have hX := hX0 wd hbe
            clear hs2 hr2 hX0 hbe HEL
            have hcm := commit_any wd Ba s1 p q1 x1 hX.1 hX.2.1 (by omega) none 0 [] (.inl rfl) (by decide)
            obtain ⟨m1, ⟨b2, D2, m2⟩, m3, m4, m5, m6⟩ := commit_still hX.2.1 (by omega) hX.2.2.1 []
            have hmd : mdC x1.lg.many x1.rows [] = 0 := by
              have h1 : x1.lg.many = x1.d.now.length - 102 := by rw [hX.2.1.lg]
              have h2 := hX.2.1.sk.n
              have h3 := (hX.2.1.stb (by omega)).len
              unfold mdC
              rw [if_neg (by simp), if_neg (by simp [chksC]), if_neg]
              rintro (h | h)
              · have h' : 60 < x1.rows.length := h
                omega
              · simp only [List.length_nil] at h
                omega
            rw [m1, hmd, errV_zero] at hcm
            rw [hmd, if_pos rfl] at m3
            have m3' : (cmR x1 []).rows = x1.rows := m3
            have m7 : (cmR x1 []).d.left < 0 := by rw [m6]; exact hX.2.2.1
            clear m1 m3 m4 m5 m6 hmd
            have HX : Hid (ChsB (FF Ba q1 s1) wd ag x1.rows ∧ (∀ k, FF Ba q1 s1 k → w.heap.size ≤ k) ∧ Below w.heap.size w wd ∧ x1.rows.length ≤ 60) := hX.2.2.2
            clear hX
            generalize cmR x1 [] = x2 at *
            rw [show ([] : List Ch).length = 0 from rfl] at hcm
            go_wp2_with fail
            refine hcm.mono ?_
            rintro e we ⟨Be, q2, rfl, hSe, hTe⟩
            obtain ⟨hg, hbs, hbl, hxl⟩ := HX.out
            have hge := hg.tr hTe
            have hbse := hTe.base hbs hbl.size
            have hble := hbl.trans (hTe.to_below hbs hbl.size)
            clear hcm hg hbs hbl hTe HX
            have hck := ck_any we Be s1 p q2 x2 hSe (m2.stb (by omega))
            rcases ck_spec m2 (by omega) with ⟨e0, e1, e2, e3, e4, e5⟩ | ⟨-, e1, -⟩
            rotate_left
            · exact absurd e1 (by omega)
            rw [e0, errV_zero] at hck
            clear e0 e3 e4 e5 hSe m2 m7
            rw [m3'] at e1 e2
            clear m3'
            generalize ckR x2 = x3 at *
            go_wp2_with fail
            refine hck.mono ?_
            rintro e wf ⟨Bf, q3, rfl, hSf, hTf⟩
            have hgf := hge.tr hTf
            have hbsf := hTf.base hbse hble.size
            have hblf := hble.trans (hTf.to_below hbse hble.size)
            clear hck hge hbse hble hTf
            have hop := open_sk Bf p x3.d x3.h x1.rows [] x3.lg.used 800000 wf hSf.dk e1.q e1.sk (by have h1 := e1.first; rw [e1.lg] at h1; exact Nat.le_trans h1 (by omega)) (by decide)
            have HR : Hid (foldR x1.rows [] = x1.rows) := show Hid _ from rfl
            rw [HR.out] at hop
            clear hSf e1 e2
            go_wp2_with fail
            refine hop.mono ?_
            rintro e wg ⟨s4, q4, rfl, hSg, -, hbg, -, -⟩
            clear hop
            have hgg := hgf.tr (Tr.of_below hbg)
            have hblg := Below_after hblf hbg
            clear hgf hblf hbg hbsf
            have hrw := rows_sto wg Bf s4 p q4 _ hSg (by show x1.rows.length ≤ 1000; omega)
            dsimp only at hrw
            clear hSg
            go_wp2_with fail
            refine hrw.mono ?_
            rintro e wh ⟨ah, ch, rfl, -, hwh, hbh⟩
            clear hrw
            have hgh := hgg.tr (Tr.of_below hbh)
            have hblh := Below_after hblg hbh
            clear hgg hblg hbh
            have hsm := samech_any ah ag ch cg x1.rows x1.rows wh hwh hgh.at_ (by unfold maxLen; omega) (by unfold maxLen; omega)
            clear hwh hgh
            go_wp2_with fail
            refine hsm.mono ?_
            rintro e wi ⟨⟨r, rfl, hr⟩, hbi⟩
            obtain rfl : r = true := hr.2 (by first | trivial | rfl)
            go_wp2_with fail
            go_ret
            exact ⟨rfl, Below_after hblh hbi⟩
          · have hX : StoO wd0 Ba s1 p q1 x1 ∧ SI 500000 x1 b' D' ∧ x1.d.left < 0 ∧ ChsB (FF Ba q1 s1) wd0 ag x1.rows ∧ (∀ k, FF Ba q1 s1 k → w.heap.size ≤ k) ∧ Below w.heap.size w wd0 ∧ x1.rows.length ≤ 60 := ⟨hSc.below hbd, hIb, hn1, hgc.tr (Tr.of_below hbd), hBb, Below_after hBlc hbd, hl1⟩
            clear hEq hWc hLc hSc hBlc hbd hgc hIb hBb hr1
            have hcm := commit_any wd0 Ba s1 p q1 x1 hX.1 hX.2.1 (by omega) none 0 [] (.inl rfl) (by decide)
            obtain ⟨m1, ⟨b2, D2, m2⟩, m3, m4, m5, m6⟩ := commit_still hX.2.1 (by omega) hX.2.2.1 []
            have hmd : mdC x1.lg.many x1.rows [] = 0 := by
              have h1 : x1.lg.many = x1.d.now.length - 102 := by rw [hX.2.1.lg]
              have h2 := hX.2.1.sk.n
              have h3 := (hX.2.1.stb (by omega)).len
              unfold mdC
              rw [if_neg (by simp), if_neg (by simp [chksC]), if_neg]
              rintro (h | h)
              · have h' : 60 < x1.rows.length := h
                omega
              · simp only [List.length_nil] at h
                omega
            rw [m1, hmd, errV_zero] at hcm
            rw [hmd, if_pos rfl] at m3
            have m3' : (cmR x1 []).rows = x1.rows := m3
            have m7 : (cmR x1 []).d.left < 0 := by rw [m6]; exact hX.2.2.1
            clear m1 m3 m4 m5 m6 hmd
            have HX : Hid (ChsB (FF Ba q1 s1) wd0 ag x1.rows ∧ (∀ k, FF Ba q1 s1 k → w.heap.size ≤ k) ∧ Below w.heap.size w wd0 ∧ x1.rows.length ≤ 60) := hX.2.2.2
            clear hX
            generalize cmR x1 [] = x2 at *
            rw [show ([] : List Ch).length = 0 from rfl] at hcm
            go_wp2_with fail
            refine hcm.mono ?_
            rintro e we ⟨Be, q2, rfl, hSe, hTe⟩
            obtain ⟨hg, hbs, hbl, hxl⟩ := HX.out
            have hge := hg.tr hTe
            have hbse := hTe.base hbs hbl.size
            have hble := hbl.trans (hTe.to_below hbs hbl.size)
            clear hcm hg hbs hbl hTe HX
            have hck := ck_any we Be s1 p q2 x2 hSe (m2.stb (by omega))
            rcases ck_spec m2 (by omega) with ⟨e0, e1, e2, e3, e4, e5⟩ | ⟨-, e1, -⟩
            rotate_left
            · exact absurd e1 (by omega)
            rw [e0, errV_zero] at hck
            clear e0 e3 e4 e5 hSe m2 m7
            rw [m3'] at e1 e2
            clear m3'
            generalize ckR x2 = x3 at *
            go_wp2_with fail
            refine hck.mono ?_
            rintro e wf ⟨Bf, q3, rfl, hSf, hTf⟩
            have hgf := hge.tr hTf
            have hbsf := hTf.base hbse hble.size
            have hblf := hble.trans (hTf.to_below hbse hble.size)
            clear hck hge hbse hble hTf
            have hop := open_sk Bf p x3.d x3.h x1.rows [] x3.lg.used 800000 wf hSf.dk e1.q e1.sk (by have h1 := e1.first; rw [e1.lg] at h1; exact Nat.le_trans h1 (by omega)) (by decide)
            have HR : Hid (foldR x1.rows [] = x1.rows) := show Hid _ from rfl
            rw [HR.out] at hop
            clear hSf e1 e2
            go_wp2_with fail
            refine hop.mono ?_
            rintro e wg ⟨s4, q4, rfl, hSg, -, hbg, -, -⟩
            clear hop
            have hgg := hgf.tr (Tr.of_below hbg)
            have hblg := Below_after hblf hbg
            clear hgf hblf hbg hbsf
            have hrw := rows_sto wg Bf s4 p q4 _ hSg (by show x1.rows.length ≤ 1000; omega)
            dsimp only at hrw
            clear hSg
            go_wp2_with fail
            refine hrw.mono ?_
            rintro e wh ⟨ah, ch, rfl, -, hwh, hbh⟩
            clear hrw
            have hgh := hgg.tr (Tr.of_below hbh)
            have hblh := Below_after hblg hbh
            clear hgg hblg hbh
            have hsm := samech_any ah ag ch cg x1.rows x1.rows wh hwh hgh.at_ (by unfold maxLen; omega) (by unfold maxLen; omega)
            clear hwh hgh
            go_wp2_with fail
            refine hsm.mono ?_
            rintro e wi ⟨⟨r, rfl, hr⟩, hbi⟩
            obtain rfl : r = true := hr.2 (by first | trivial | rfl)
            go_wp2_with fail
            go_ret
            exact ⟨rfl, Below_after hblh hbi⟩
      · rw [e0] at hck
        have hFF : Hid (FFs (ckR x).d want last) := fun keep => by
          obtain ⟨h', b', D', u', z1, z2, z3⟩ := e4 keep
          exact ⟨h', b', D', u', z1, .inl (z2.trans hwr), by omega⟩
        have hwr0 : (ckR x).d.wr.length ≤ 1000 := by omega
        have hwl : want.length ≤ 60 := by rw [← hwr]; exact (hI.stb (by omega)).len
        have hll := h.ll
        clear e0 e4 hI hcw HIF
        generalize ckR x = y at *
        go_wp2_with fail
        refine hck.mono ?_
        rintro e wt ⟨B2, q6, rfl, hS6, hT6⟩
        clear hck
        have hWt := chs_narrow (h.w.tr hT6)
        rw [hwr] at hWt
        have hLt := chs_narrow (h.l.tr hT6)
        have hBs : ∀ k, B2 k → w.heap.size ≤ k := fun k hk => hT6.base h.base h.bl.size k (.inl (.inl hk))
        have hBl : Below w.heap.size w wt := h.bl.trans (hT6.to_below h.base h.bl.size)
        have hDk := hS6.dk
        have hn6 := number_err 10 wt
        clear h hS6 hT6 hwr
        rw [errV_pos (by decide)] at hn6
        rw [errV_pos (by decide)]
        go_wp2_with fail
        refine hn6.mono ?_
        rintro e w7 ⟨rfl, rfl⟩
        clear hn6
        generalize y.d = d at *
        have hrs := restart_o B2 p d keep w7 hDk (by omega) hkp
        go_wp2_with fail
        refine hrs.mono ?_
        rintro e wa ⟨Ba, rfl, hDa, hTa⟩
        clear hrs
        obtain ⟨h', b', D', u', hSK, hEq, hFi⟩ := hFF.out keep
        have hQ : QD (reR d keep) := ⟨rfl, rfl, rfl⟩
        have hSK2 : SK (reR d keep).now h' b' D' u' := hSK
        have hneg : (reR d keep).left < 0 := by show (-1 : Int) < 0; decide
        have hWa := hWt.tr hTa
        have hLa := hLt.tr hTa
        have hBa := hTa.base hBs hBl.size
        have hBla := hBl.trans (hTa.to_below hBs hBl.size)
        clear hTa hDk hFF hWt hLt hBs hBl hSK hwr0
        generalize reR d keep = d1 at *
        have hop := open_sk Ba p d1 h' b' D' u' 500000 wa hDa hQ hSK2 hFi (by decide)
        go_wp2_with fail
        refine hop.mono ?_
        rintro e wb ⟨s1, q1, rfl, hSb, hIb, hbb, hs1, hq1⟩
        clear hop
        have hWb := chs_wide hWa hbb hs1 hq1
        have hLb := chs_wide hLa hbb hs1 hq1
        have hBb := ff_base hBa hBla.size hs1 hq1
        have hBlb := Below_after hBla hbb
        clear hWa hLa hBa hBla hbb hs1 hq1 hDa hQ hSK2
        generalize hx1 : Sto.mk d1 h' ⟨102, d1.now.length - 102, h'.first, u'⟩ (foldR b' D') = x1 at *
        have hn1 : x1.d.left < 0 := by rw [← hx1]; exact hneg
        replace hEq : x1.rows = want ∨ x1.rows = last := by rw [← hx1]; exact hEq
        clear hx1 hneg
        have hl1 := (hIb.stb (by decide)).len
        have hrw := rows_sto wb Ba s1 p q1 x1 hSb (by omega)
        go_wp2_with fail
        refine hrw.mono ?_
        rintro e wc ⟨ag, cg, rfl, hog, hag, hbc⟩
        clear hrw
        obtain ⟨ag', cg', hve, hgc⟩ := own_chsB hog (chs_fit hag) (B := FF Ba q1 s1) hSb.lt
        cases hve
        have hWc := hWb.tr (Tr.of_below hbc)
        have hLc := hLb.tr (Tr.of_below hbc)
        have hSc := hSb.below hbc
        have hBlc := Below_after hBlb hbc
        clear hog hWb hLb hSb hBlb hbc
        have hs1 := samech_any ag aw cg cw x1.rows want wc hag hWc.at_ (by unfold maxLen; omega) (by unfold maxLen; omega)
        clear hag
        go_wp2_with fail
        refine hs1.mono ?_
        rintro e wd0 ⟨⟨r1, rfl, hr1⟩, hbd⟩
        clear hs1
        cases r1
        · have hEL : x1.rows = last := by
            rcases hEq with h | h
            · exact absurd (hr1.2 h) (by decide)
            · exact h
          have hgd := hgc.tr (Tr.of_below hbd)
          have hs2 := samech_any ag al cg cl x1.rows last wd0 hgd.at_ (hLc.tr (Tr.of_below hbd)).at_ (by unfold maxLen; omega) (by unfold maxLen; omega)
          have hX0 : ∀ W, Below wd0.heap.size wd0 W → StoO W Ba s1 p q1 x1 ∧ SI 500000 x1 b' D' ∧ x1.d.left < 0 ∧ ChsB (FF Ba q1 s1) W ag x1.rows ∧ (∀ k, FF Ba q1 s1 k → w.heap.size ≤ k) ∧ Below w.heap.size w W ∧ x1.rows.length ≤ 60 := fun W hW => ⟨(hSc.below hbd).below hW, hIb, hn1, hgd.tr (Tr.of_below hW), hBb, Below_after (Below_after hBlc hbd) hW, hl1⟩
          have HEL : Hid (x1.rows = last) := hEL
          clear hEq hWc hLc hSc hBlc hbd hgd hgc hIb hBb hr1 hEL
          go_wp2_with fail
          refine hs2.mono ?_
          rintro e wd ⟨⟨r2, rfl, hr2⟩, hbe⟩
          obtain rfl : r2 = true := hr2.2 HEL.out
          have hX := hX0 wd hbe
          clear hs2 hr2 hX0 hbe HEL
          have hcm := commit_any wd Ba s1 p q1 x1 hX.1 hX.2.1 (by omega) none 0 [] (.inl rfl) (by decide)
          obtain ⟨m1, ⟨b2, D2, m2⟩, m3, m4, m5, m6⟩ := commit_still hX.2.1 (by omega) hX.2.2.1 []
          have hmd : mdC x1.lg.many x1.rows [] = 0 := by
            have h1 : x1.lg.many = x1.d.now.length - 102 := by rw [hX.2.1.lg]
            have h2 := hX.2.1.sk.n
            have h3 := (hX.2.1.stb (by omega)).len
            unfold mdC
            rw [if_neg (by simp), if_neg (by simp [chksC]), if_neg]
            rintro (h | h)
            · have h' : 60 < x1.rows.length := h
              omega
            · simp only [List.length_nil] at h
              omega
          rw [m1, hmd, errV_zero] at hcm
          rw [hmd, if_pos rfl] at m3
          have m3' : (cmR x1 []).rows = x1.rows := m3
          have m7 : (cmR x1 []).d.left < 0 := by rw [m6]; exact hX.2.2.1
          clear m1 m3 m4 m5 m6 hmd
          have HX : Hid (ChsB (FF Ba q1 s1) wd ag x1.rows ∧ (∀ k, FF Ba q1 s1 k → w.heap.size ≤ k) ∧ Below w.heap.size w wd ∧ x1.rows.length ≤ 60) := hX.2.2.2
          clear hX
          generalize cmR x1 [] = x2 at *
          rw [show ([] : List Ch).length = 0 from rfl] at hcm
          go_wp2_with fail
          refine hcm.mono ?_
          rintro e we ⟨Be, q2, rfl, hSe, hTe⟩
          obtain ⟨hg, hbs, hbl, hxl⟩ := HX.out
          have hge := hg.tr hTe
          have hbse := hTe.base hbs hbl.size
          have hble := hbl.trans (hTe.to_below hbs hbl.size)
          clear hcm hg hbs hbl hTe HX
          have hck := ck_any we Be s1 p q2 x2 hSe (m2.stb (by omega))
          rcases ck_spec m2 (by omega) with ⟨e0, e1, e2, e3, e4, e5⟩ | ⟨-, e1, -⟩
          rotate_left
          · exact absurd e1 (by omega)
          rw [e0, errV_zero] at hck
          clear e0 e3 e4 e5 hSe m2 m7
          rw [m3'] at e1 e2
          clear m3'
          generalize ckR x2 = x3 at *
          go_wp2_with fail
          refine hck.mono ?_
          rintro e wf ⟨Bf, q3, rfl, hSf, hTf⟩
          have hgf := hge.tr hTf
          have hbsf := hTf.base hbse hble.size
          have hblf := hble.trans (hTf.to_below hbse hble.size)
          clear hck hge hbse hble hTf
          have hop := open_sk Bf p x3.d x3.h x1.rows [] x3.lg.used 800000 wf hSf.dk e1.q e1.sk (by have h1 := e1.first; rw [e1.lg] at h1; exact Nat.le_trans h1 (by omega)) (by decide)
          have HR : Hid (foldR x1.rows [] = x1.rows) := show Hid _ from rfl
          rw [HR.out] at hop
          clear hSf e1 e2
          go_wp2_with fail
          refine hop.mono ?_
          rintro e wg ⟨s4, q4, rfl, hSg, -, hbg, -, -⟩
          clear hop
          have hgg := hgf.tr (Tr.of_below hbg)
          have hblg := Below_after hblf hbg
          clear hgf hblf hbg hbsf
          have hrw := rows_sto wg Bf s4 p q4 _ hSg (by show x1.rows.length ≤ 1000; omega)
          dsimp only at hrw
          clear hSg
          go_wp2_with fail
          refine hrw.mono ?_
          rintro e wh ⟨ah, ch, rfl, -, hwh, hbh⟩
          clear hrw
          have hgh := hgg.tr (Tr.of_below hbh)
          have hblh := Below_after hblg hbh
          clear hgg hblg hbh
          have hsm := samech_any ah ag ch cg x1.rows x1.rows wh hwh hgh.at_ (by unfold maxLen; omega) (by unfold maxLen; omega)
          clear hwh hgh
          go_wp2_with fail
          refine hsm.mono ?_
          rintro e wi ⟨⟨r, rfl, hr⟩, hbi⟩
          obtain rfl : r = true := hr.2 (by first | trivial | rfl)
          go_wp2_with fail
          go_ret
          exact ⟨rfl, Below_after hblh hbi⟩
        · have hX : StoO wd0 Ba s1 p q1 x1 ∧ SI 500000 x1 b' D' ∧ x1.d.left < 0 ∧ ChsB (FF Ba q1 s1) wd0 ag x1.rows ∧ (∀ k, FF Ba q1 s1 k → w.heap.size ≤ k) ∧ Below w.heap.size w wd0 ∧ x1.rows.length ≤ 60 := ⟨hSc.below hbd, hIb, hn1, hgc.tr (Tr.of_below hbd), hBb, Below_after hBlc hbd, hl1⟩
          clear hEq hWc hLc hSc hBlc hbd hgc hIb hBb hr1
          have hcm := commit_any wd0 Ba s1 p q1 x1 hX.1 hX.2.1 (by omega) none 0 [] (.inl rfl) (by decide)
          obtain ⟨m1, ⟨b2, D2, m2⟩, m3, m4, m5, m6⟩ := commit_still hX.2.1 (by omega) hX.2.2.1 []
          have hmd : mdC x1.lg.many x1.rows [] = 0 := by
            have h1 : x1.lg.many = x1.d.now.length - 102 := by rw [hX.2.1.lg]
            have h2 := hX.2.1.sk.n
            have h3 := (hX.2.1.stb (by omega)).len
            unfold mdC
            rw [if_neg (by simp), if_neg (by simp [chksC]), if_neg]
            rintro (h | h)
            · have h' : 60 < x1.rows.length := h
              omega
            · simp only [List.length_nil] at h
              omega
          rw [m1, hmd, errV_zero] at hcm
          rw [hmd, if_pos rfl] at m3
          have m3' : (cmR x1 []).rows = x1.rows := m3
          have m7 : (cmR x1 []).d.left < 0 := by rw [m6]; exact hX.2.2.1
          clear m1 m3 m4 m5 m6 hmd
          have HX : Hid (ChsB (FF Ba q1 s1) wd0 ag x1.rows ∧ (∀ k, FF Ba q1 s1 k → w.heap.size ≤ k) ∧ Below w.heap.size w wd0 ∧ x1.rows.length ≤ 60) := hX.2.2.2
          clear hX
          generalize cmR x1 [] = x2 at *
          rw [show ([] : List Ch).length = 0 from rfl] at hcm
          go_wp2_with fail
          refine hcm.mono ?_
          rintro e we ⟨Be, q2, rfl, hSe, hTe⟩
          obtain ⟨hg, hbs, hbl, hxl⟩ := HX.out
          have hge := hg.tr hTe
          have hbse := hTe.base hbs hbl.size
          have hble := hbl.trans (hTe.to_below hbs hbl.size)
          clear hcm hg hbs hbl hTe HX
          have hck := ck_any we Be s1 p q2 x2 hSe (m2.stb (by omega))
          rcases ck_spec m2 (by omega) with ⟨e0, e1, e2, e3, e4, e5⟩ | ⟨-, e1, -⟩
          rotate_left
          · exact absurd e1 (by omega)
          rw [e0, errV_zero] at hck
          clear e0 e3 e4 e5 hSe m2 m7
          rw [m3'] at e1 e2
          clear m3'
          generalize ckR x2 = x3 at *
          go_wp2_with fail
          refine hck.mono ?_
          rintro e wf ⟨Bf, q3, rfl, hSf, hTf⟩
          have hgf := hge.tr hTf
          have hbsf := hTf.base hbse hble.size
          have hblf := hble.trans (hTf.to_below hbse hble.size)
          clear hck hge hbse hble hTf
          have hop := open_sk Bf p x3.d x3.h x1.rows [] x3.lg.used 800000 wf hSf.dk e1.q e1.sk (by have h1 := e1.first; rw [e1.lg] at h1; exact Nat.le_trans h1 (by omega)) (by decide)
          have HR : Hid (foldR x1.rows [] = x1.rows) := show Hid _ from rfl
          rw [HR.out] at hop
          clear hSf e1 e2
          go_wp2_with fail
          refine hop.mono ?_
          rintro e wg ⟨s4, q4, rfl, hSg, -, hbg, -, -⟩
          clear hop
          have hgg := hgf.tr (Tr.of_below hbg)
          have hblg := Below_after hblf hbg
          clear hgf hblf hbg hbsf
          have hrw := rows_sto wg Bf s4 p q4 _ hSg (by show x1.rows.length ≤ 1000; omega)
          dsimp only at hrw
          clear hSg
          go_wp2_with fail
          refine hrw.mono ?_
          rintro e wh ⟨ah, ch, rfl, -, hwh, hbh⟩
          clear hrw
          have hgh := hgg.tr (Tr.of_below hbh)
          have hblh := Below_after hblg hbh
          clear hgg hblg hbh
          have hsm := samech_any ah ag ch cg x1.rows x1.rows wh hwh hgh.at_ (by unfold maxLen; omega) (by unfold maxLen; omega)
          clear hwh hgh
          go_wp2_with fail
          refine hsm.mono ?_
          rintro e wi ⟨⟨r, rfl, hr⟩, hbi⟩
          obtain rfl : r = true := hr.2 (by first | trivial | rfl)
          go_wp2_with fail
          go_ret
          exact ⟨rfl, Below_after hblh hbi⟩
    · have d5 : decide ((k : Int) % 5 = 4) = false := decide_eq_false (by omega)
      have d5b : ((k : Int) % 5 == 4) = false := by simp; omega
      have d5c : ((k : Int).tmod 5 == 4) = false := by rw [Int.tmod_eq_emod_of_nonneg (by omega)]; simp; omega
      have h6 := h
      have hF6 : F ≤ 200 + 200 * k := by omega
      clear h
      have hcm := commit_any wr B s p q x h6.S h6.I.choose_spec.choose_spec (by omega) a' c' l (HD.out.2.2 wr _ h6.bl h6.base) (by unfold maxLen; omega)
      have hcell := HD.out.1 wr h6.bl
      have hbW : b < wr.heap.size := Nat.lt_of_lt_of_le HD.out.2.1 h6.bl.size
      obtain ⟨base6, D6, hI6⟩ := h6.I
      have hcw := cm_wr hI6 (by omega) l
      have hstb := hI6.stb (by omega)
      have hlr := hstb.len
      have HRIS : Hid (Ris x.rows) := hstb.ris
      have HMD : Hid (mdC x.lg.many x.rows l = 0 → (apL x.rows l).length ≤ 60) := fun e => by
        unfold mdC at e
        split at e
        · cases e
        · split at e
          · rename_i h1; exact absurd e h1
          · split at e
            · cases e
            · omega
      rcases commit_spec hI6 (by omega) l with ⟨k0, k1, k2, k3⟩ | ⟨k0, k1, k2, k3, -, -, -⟩ | ⟨k0, kz, -, -, -, k4⟩
      · -- refused
        rw [k2, k3] at hcm
        clear hcw k2 k3
        generalize mdC x.lg.many x.rows l = cc at *
        have hne : (cc == 10) = false := by simpa using k1
        go_wp2_with fail
        refine hcm.mono ?_
        rintro e w8 ⟨B8, q8, rfl, hS8, hT8⟩
        have h8 := h6.step hS8 hT8 ⟨_, _, hI6⟩ rfl
        have hn8 := number_err cc w8
        clear hcm hS8 hT8 h6 hI6 hcell
        rw [errV_pos k0] at hn8 ⊢
        go_wp2_with fail
        refine hn8.mono ?_
        rintro e w9 ⟨rfl, rfl⟩
        clear hn8
        go_wp2_with fail
        go_roundw
        case rel => exact ⟨k + 1, B8, q8, x, F, aw, al, cw, cl, want, last, by omega, by go_num, rfl, rfl, by omega, hwr, h8⟩
        case measure => simp [intOf]; omega
      · -- done
        rw [k1, errV_zero] at hcm
        have hal := HMD.out k0
        clear k0 k1 hcw
        obtain ⟨b8, D8, hI8⟩ := k2
        generalize cmR x l = z at *
        have hap := fun W (h1 : ChsAt W aw x.rows) (h2 : ChsAt W a' l) => applied_any aw a' cw c' x.rows l W h1 h2 HRIS.out (by omega) (by omega)
        rw [hwr] at hap
        go_wp2_with fail
        refine hcm.mono ?_
        rintro e w8 ⟨B8, q8, rfl, hS8, hT8⟩
        clear hcm hcell hbW
        have hb8 : ∀ k, FF B8 q8 s k → w.heap.size ≤ k := hT8.base h6.base h6.bl.size
        have bl8 : Below w.heap.size w w8 := h6.bl.trans (hT8.to_below h6.base h6.bl.size)
        have hw8 := h6.w.tr hT8
        rw [hwr] at hw8
        have hd8 := HD.out.2.2 w8 (fun _ => False) bl8 (fun k hk => hk.elim)
        have hcell := HD.out.1 w8 bl8
        have hbW : b < w8.heap.size := Nat.lt_of_lt_of_le HD.out.2.1 bl8.size
        have hap8 := hap w8 hw8.at_ hd8.at_
        have hft : KFit (apL want l) := apL_fit l want (chs_fit hw8.at_) (chs_fit hd8.at_)
        rw [hwr] at k3 hal
        clear hT8 hap h6 hw8 hd8 hI6 hwr HRIS HMD
        generalize apL want l = R at *
        go_wp2_with fail
        refine hap8.mono ?_
        rintro e w9 ⟨v9, rfl, ho9, hb9⟩
        obtain ⟨a9, c9, rfl, hc9⟩ := own_chsB ho9 hft (B := FF B8 q8 s) hS8.lt
        have h9 : TcI w w9 B8 s p q8 z (F + 100) a9 a9 R := ⟨hS8.below hb9, ⟨_, _, hI8⟩, hb8, Below_after bl8 hb9, by rw [k3]; exact hc9, hc9, hal⟩
        clear hap8 hcell hbW ho9 hc9 hb9 hS8 hI8 hb8 bl8
        go_wp2_with fail
        go_roundw
        case rel => exact ⟨k + 1, B8, q8, z, F + 100, a9, a9, c9, c9, R, R, by omega, by go_num, rfl, rfl, by omega, k3, h9⟩
        case measure => simp [intOf]; omega
      · -- fell
        rw [k0] at hcm
        have hal := HMD.out kz
        have hFF0 : FFs (cmR x l).d x.rows (apL x.rows l) := fun keep => by
          obtain ⟨h', b', D', u', z1, z2, z3⟩ := k4 keep
          exact ⟨h', b', D', u', z1, z2, by omega⟩
        have hwr0 : (cmR x l).d.wr.length ≤ 1000 := by omega
        clear k0 kz k4 hcw
        generalize cmR x l = z at *
        rw [hwr] at hFF0 hal
        have hap := fun W (h1 : ChsAt W aw x.rows) (h2 : ChsAt W a' l) => applied_any aw a' cw c' x.rows l W h1 h2 HRIS.out (by omega) (by omega)
        have hwl : want.length ≤ 60 := by rw [← hwr]; exact hlr
        rw [hwr] at hap
        go_wp2_with fail
        refine hcm.mono ?_
        rintro e w8 ⟨B2, q8, rfl, hS8, hT8⟩
        clear hcm hcell hbW
        have hBs : ∀ k, B2 k → w.heap.size ≤ k := fun k hk => hT8.base h6.base h6.bl.size k (.inl (.inl hk))
        have bl8 : Below w.heap.size w w8 := h6.bl.trans (hT8.to_below h6.base h6.bl.size)
        have hw8 := chs_narrow (h6.w.tr hT8)
        rw [hwr] at hw8
        have hd8 := HD.out.2.2 w8 (fun _ => False) bl8 (fun k hk => hk.elim)
        have hcell := HD.out.1 w8 bl8
        have hbW : b < w8.heap.size := Nat.lt_of_lt_of_le HD.out.2.1 bl8.size
        have hap8 := hap w8 hw8.at_ hd8.at_
        have hft : KFit (apL want l) := apL_fit l want (chs_fit hw8.at_) (chs_fit hd8.at_)
        have hFF : Hid (FFs z.d want (apL want l)) := hFF0
        have hDk := hS8.dk
        have hn8 := number_err 10 w8
        rw [errV_pos (by decide)] at hn8
        clear hT8 hap h6 hd8 hI6 hwr HRIS HMD hFF0 hS8
        generalize apL want l = R at *
        generalize z.d = d at *
        rw [errV_pos (by decide)]
        go_wp2_with fail
        refine hn8.mono ?_
        rintro e w9 ⟨rfl, rfl⟩
        clear hn8
        go_wp2_with fail
        refine hap8.mono ?_
        rintro e wt ⟨v9, rfl, ho9, hb9⟩
        obtain ⟨al9, cl9, rfl, hLt⟩ := own_chsB ho9 hft (B := B2) hDk.lt
        have hWt := hw8.tr (Tr.of_below hb9)
        replace hDk := hDk.below hb9
        have hBl := Below_after bl8 hb9
        clear hap8 hcell hbW ho9 hb9 hw8 bl8 hft
        have hrs := restart_o B2 p d keep wt hDk (by omega) hkp
        go_wp2_with fail
        refine hrs.mono ?_
        rintro e wa ⟨Ba, rfl, hDa, hTa⟩
        clear hrs
        obtain ⟨h', b', D', u', hSK, hEq, hFi⟩ := hFF.out keep
        have hQ : QD (reR d keep) := ⟨rfl, rfl, rfl⟩
        have hSK2 : SK (reR d keep).now h' b' D' u' := hSK
        have hneg : (reR d keep).left < 0 := by show (-1 : Int) < 0; decide
        have hWa := hWt.tr hTa
        have hLa := hLt.tr hTa
        have hBa := hTa.base hBs hBl.size
        have hBla := hBl.trans (hTa.to_below hBs hBl.size)
        clear hTa hDk hFF hWt hLt hBs hBl hSK hwr0
        generalize reR d keep = d1 at *
        have hop := open_sk Ba p d1 h' b' D' u' 500000 wa hDa hQ hSK2 hFi (by decide)
        go_wp2_with fail
        refine hop.mono ?_
        rintro e wb ⟨s1, q1, rfl, hSb, hIb, hbb, hs1, hq1⟩
        clear hop
        have hWb := chs_wide hWa hbb hs1 hq1
        have hLb := chs_wide hLa hbb hs1 hq1
        have hBb := ff_base hBa hBla.size hs1 hq1
        have hBlb := Below_after hBla hbb
        clear hWa hLa hBa hBla hbb hs1 hq1 hDa hQ hSK2
        generalize hx1 : Sto.mk d1 h' ⟨102, d1.now.length - 102, h'.first, u'⟩ (foldR b' D') = x1 at *
        have hn1 : x1.d.left < 0 := by rw [← hx1]; exact hneg
        replace hEq : x1.rows = want ∨ x1.rows = R := by rw [← hx1]; exact hEq
        clear hx1 hneg
        have hl1 := (hIb.stb (by decide)).len
        have hrw := rows_sto wb Ba s1 p q1 x1 hSb (by omega)
        go_wp2_with fail
        refine hrw.mono ?_
        rintro e wc ⟨ag, cg, rfl, hog, hag, hbc⟩
        clear hrw
        obtain ⟨ag', cg', hve, hgc⟩ := own_chsB hog (chs_fit hag) (B := FF Ba q1 s1) hSb.lt
        cases hve
        have hWc := hWb.tr (Tr.of_below hbc)
        have hLc := hLb.tr (Tr.of_below hbc)
        have hSc := hSb.below hbc
        have hBlc := Below_after hBlb hbc
        clear hog hWb hLb hSb hBlb hbc
        have hs1 := samech_any ag aw cg cw x1.rows want wc hag hWc.at_ (by unfold maxLen; omega) (by unfold maxLen; omega)
        clear hag
        go_wp2_with fail
        refine hs1.mono ?_
        rintro e wd0 ⟨⟨r1, rfl, hr1⟩, hbd⟩
        clear hs1
        cases r1
        · have hEL : x1.rows = R := by
            rcases hEq with h | h
            · exact absurd (hr1.2 h) (by decide)
            · exact h
          have hgd := hgc.tr (Tr.of_below hbd)
          have hs2 := samech_any ag al9 cg cl9 x1.rows R wd0 hgd.at_ (hLc.tr (Tr.of_below hbd)).at_ (by unfold maxLen; omega) (by unfold maxLen; omega)
          have hX0 : ∀ W, Below wd0.heap.size wd0 W → StoO W Ba s1 p q1 x1 ∧ SI 500000 x1 b' D' ∧ x1.d.left < 0 ∧ ChsB (FF Ba q1 s1) W ag x1.rows ∧ (∀ k, FF Ba q1 s1 k → w.heap.size ≤ k) ∧ Below w.heap.size w W ∧ x1.rows.length ≤ 60 := fun W hW => ⟨(hSc.below hbd).below hW, hIb, hn1, hgd.tr (Tr.of_below hW), hBb, Below_after (Below_after hBlc hbd) hW, hl1⟩
          have HEL : Hid (x1.rows = R) := hEL
          clear hEq hWc hLc hSc hBlc hbd hgd hgc hIb hBb hr1 hEL
          go_wp2_with fail
          refine hs2.mono ?_
          rintro e wd ⟨⟨r2, rfl, hr2⟩, hbe⟩
          obtain rfl : r2 = true := hr2.2 HEL.out
          have hX := hX0 wd hbe
          clear hs2 hr2 hX0 hbe HEL
          have hcm := commit_any wd Ba s1 p q1 x1 hX.1 hX.2.1 (by omega) none 0 [] (.inl rfl) (by decide)
          obtain ⟨m1, ⟨b2, D2, m2⟩, m3, m4, m5, m6⟩ := commit_still hX.2.1 (by omega) hX.2.2.1 []
          have hmd : mdC x1.lg.many x1.rows [] = 0 := by
            have h1 : x1.lg.many = x1.d.now.length - 102 := by rw [hX.2.1.lg]
            have h2 := hX.2.1.sk.n
            have h3 := (hX.2.1.stb (by omega)).len
            unfold mdC
            rw [if_neg (by simp), if_neg (by simp [chksC]), if_neg]
            rintro (h | h)
            · have h' : 60 < x1.rows.length := h
              omega
            · simp only [List.length_nil] at h
              omega
          rw [m1, hmd, errV_zero] at hcm
          rw [hmd, if_pos rfl] at m3
          have m3' : (cmR x1 []).rows = x1.rows := m3
          have m7 : (cmR x1 []).d.left < 0 := by rw [m6]; exact hX.2.2.1
          clear m1 m3 m4 m5 m6 hmd
          have HX : Hid (ChsB (FF Ba q1 s1) wd ag x1.rows ∧ (∀ k, FF Ba q1 s1 k → w.heap.size ≤ k) ∧ Below w.heap.size w wd ∧ x1.rows.length ≤ 60) := hX.2.2.2
          clear hX
          generalize cmR x1 [] = x2 at *
          rw [show ([] : List Ch).length = 0 from rfl] at hcm
          go_wp2_with fail
          refine hcm.mono ?_
          rintro e we ⟨Be, q2, rfl, hSe, hTe⟩
          obtain ⟨hg, hbs, hbl, hxl⟩ := HX.out
          have hge := hg.tr hTe
          have hbse := hTe.base hbs hbl.size
          have hble := hbl.trans (hTe.to_below hbs hbl.size)
          clear hcm hg hbs hbl hTe HX
          have hck := ck_any we Be s1 p q2 x2 hSe (m2.stb (by omega))
          rcases ck_spec m2 (by omega) with ⟨e0, e1, e2, e3, e4, e5⟩ | ⟨-, e1, -⟩
          rotate_left
          · exact absurd e1 (by omega)
          rw [e0, errV_zero] at hck
          clear e0 e3 e4 e5 hSe m2 m7
          rw [m3'] at e1 e2
          clear m3'
          generalize ckR x2 = x3 at *
          go_wp2_with fail
          refine hck.mono ?_
          rintro e wf ⟨Bf, q3, rfl, hSf, hTf⟩
          have hgf := hge.tr hTf
          have hbsf := hTf.base hbse hble.size
          have hblf := hble.trans (hTf.to_below hbse hble.size)
          clear hck hge hbse hble hTf
          have hop := open_sk Bf p x3.d x3.h x1.rows [] x3.lg.used 800000 wf hSf.dk e1.q e1.sk (by have h1 := e1.first; rw [e1.lg] at h1; exact Nat.le_trans h1 (by omega)) (by decide)
          have HR : Hid (foldR x1.rows [] = x1.rows) := show Hid _ from rfl
          rw [HR.out] at hop
          clear hSf e1 e2
          go_wp2_with fail
          refine hop.mono ?_
          rintro e wg ⟨s4, q4, rfl, hSg, -, hbg, -, -⟩
          clear hop
          have hgg := hgf.tr (Tr.of_below hbg)
          have hblg := Below_after hblf hbg
          clear hgf hblf hbg hbsf
          have hrw := rows_sto wg Bf s4 p q4 _ hSg (by show x1.rows.length ≤ 1000; omega)
          dsimp only at hrw
          clear hSg
          go_wp2_with fail
          refine hrw.mono ?_
          rintro e wh ⟨ah, ch, rfl, -, hwh, hbh⟩
          clear hrw
          have hgh := hgg.tr (Tr.of_below hbh)
          have hblh := Below_after hblg hbh
          clear hgg hblg hbh
          have hsm := samech_any ah ag ch cg x1.rows x1.rows wh hwh hgh.at_ (by unfold maxLen; omega) (by unfold maxLen; omega)
          clear hwh hgh
          go_wp2_with fail
          refine hsm.mono ?_
          rintro e wi ⟨⟨r, rfl, hr⟩, hbi⟩
          obtain rfl : r = true := hr.2 (by first | trivial | rfl)
          go_wp2_with fail
          go_ret
          exact ⟨rfl, Below_after hblh hbi⟩
        · have hX : StoO wd0 Ba s1 p q1 x1 ∧ SI 500000 x1 b' D' ∧ x1.d.left < 0 ∧ ChsB (FF Ba q1 s1) wd0 ag x1.rows ∧ (∀ k, FF Ba q1 s1 k → w.heap.size ≤ k) ∧ Below w.heap.size w wd0 ∧ x1.rows.length ≤ 60 := ⟨hSc.below hbd, hIb, hn1, hgc.tr (Tr.of_below hbd), hBb, Below_after hBlc hbd, hl1⟩
          clear hEq hWc hLc hSc hBlc hbd hgc hIb hBb hr1
          have hcm := commit_any wd0 Ba s1 p q1 x1 hX.1 hX.2.1 (by omega) none 0 [] (.inl rfl) (by decide)
          obtain ⟨m1, ⟨b2, D2, m2⟩, m3, m4, m5, m6⟩ := commit_still hX.2.1 (by omega) hX.2.2.1 []
          have hmd : mdC x1.lg.many x1.rows [] = 0 := by
            have h1 : x1.lg.many = x1.d.now.length - 102 := by rw [hX.2.1.lg]
            have h2 := hX.2.1.sk.n
            have h3 := (hX.2.1.stb (by omega)).len
            unfold mdC
            rw [if_neg (by simp), if_neg (by simp [chksC]), if_neg]
            rintro (h | h)
            · have h' : 60 < x1.rows.length := h
              omega
            · simp only [List.length_nil] at h
              omega
          rw [m1, hmd, errV_zero] at hcm
          rw [hmd, if_pos rfl] at m3
          have m3' : (cmR x1 []).rows = x1.rows := m3
          have m7 : (cmR x1 []).d.left < 0 := by rw [m6]; exact hX.2.2.1
          clear m1 m3 m4 m5 m6 hmd
          have HX : Hid (ChsB (FF Ba q1 s1) wd0 ag x1.rows ∧ (∀ k, FF Ba q1 s1 k → w.heap.size ≤ k) ∧ Below w.heap.size w wd0 ∧ x1.rows.length ≤ 60) := hX.2.2.2
          clear hX
          generalize cmR x1 [] = x2 at *
          rw [show ([] : List Ch).length = 0 from rfl] at hcm
          go_wp2_with fail
          refine hcm.mono ?_
          rintro e we ⟨Be, q2, rfl, hSe, hTe⟩
          obtain ⟨hg, hbs, hbl, hxl⟩ := HX.out
          have hge := hg.tr hTe
          have hbse := hTe.base hbs hbl.size
          have hble := hbl.trans (hTe.to_below hbs hbl.size)
          clear hcm hg hbs hbl hTe HX
          have hck := ck_any we Be s1 p q2 x2 hSe (m2.stb (by omega))
          rcases ck_spec m2 (by omega) with ⟨e0, e1, e2, e3, e4, e5⟩ | ⟨-, e1, -⟩
          rotate_left
          · exact absurd e1 (by omega)
          rw [e0, errV_zero] at hck
          clear e0 e3 e4 e5 hSe m2 m7
          rw [m3'] at e1 e2
          clear m3'
          generalize ckR x2 = x3 at *
          go_wp2_with fail
          refine hck.mono ?_
          rintro e wf ⟨Bf, q3, rfl, hSf, hTf⟩
          have hgf := hge.tr hTf
          have hbsf := hTf.base hbse hble.size
          have hblf := hble.trans (hTf.to_below hbse hble.size)
          clear hck hge hbse hble hTf
          have hop := open_sk Bf p x3.d x3.h x1.rows [] x3.lg.used 800000 wf hSf.dk e1.q e1.sk (by have h1 := e1.first; rw [e1.lg] at h1; exact Nat.le_trans h1 (by omega)) (by decide)
          have HR : Hid (foldR x1.rows [] = x1.rows) := show Hid _ from rfl
          rw [HR.out] at hop
          clear hSf e1 e2
          go_wp2_with fail
          refine hop.mono ?_
          rintro e wg ⟨s4, q4, rfl, hSg, -, hbg, -, -⟩
          clear hop
          have hgg := hgf.tr (Tr.of_below hbg)
          have hblg := Below_after hblf hbg
          clear hgf hblf hbg hbsf
          have hrw := rows_sto wg Bf s4 p q4 _ hSg (by show x1.rows.length ≤ 1000; omega)
          dsimp only at hrw
          clear hSg
          go_wp2_with fail
          refine hrw.mono ?_
          rintro e wh ⟨ah, ch, rfl, -, hwh, hbh⟩
          clear hrw
          have hgh := hgg.tr (Tr.of_below hbh)
          have hblh := Below_after hblg hbh
          clear hgg hblg hbh
          have hsm := samech_any ah ag ch cg x1.rows x1.rows wh hwh hgh.at_ (by unfold maxLen; omega) (by unfold maxLen; omega)
          clear hwh hgh
          go_wp2_with fail
          refine hsm.mono ?_
          rintro e wi ⟨⟨r, rfl, hr⟩, hbi⟩
          obtain rfl : r = true := hr.2 (by first | trivial | rfl)
          go_wp2_with fail
          go_ret
          exact ⟨rfl, Below_after hblh hbi⟩
set_option maxHeartbeats 4000000 in
set_option maxRecDepth 100000 in
theorem tcrash_no (a : Option Addr) (L : List (List Ch)) (c : Nat) (fuse : Int) (keep : Nat) (w : World) (hin : DdsB (fun _ => False) w a L) (hm : L.length ≤ maxLen) (hs : ∀ x ∈ L, x.length ≤ maxLen) (hq : ldB L 20 = false) :
    Calls Tryd.prog 4 #[.slice a L.length c, .int .i64 fuse, .int .u64 (keep : Int)] w fun e w' => e = .returned (.bool true) ∧ Below w.heap.size w w' := by
  have hkt := kept_any w
  have hsd := fun W => stored_any 170 W (by decide) (by decide)
  rw [show ((170 : Nat) : Int) = 170 from rfl] at hsd
  go_enter Tryd.func4, Tryd.ntmps4
  go_wp2_with fail
  refine hkt.mono ?_
  rintro e w1 ⟨rfl, hb1⟩
  clear hkt
  go_wp2_with fail
  refine (hsd w1).mono ?_
  rintro e w2 ⟨B, s, p, q, x, rfl, hS, hI, hn, hu, hr, hneg, hB, hb2⟩
  clear hsd
  have bl2 := Below_after hb1 hb2
  clear hb1 hb2 hS hI hB
  have hld := light_any (fun _ => False) a c L 20 w2 (DdsB.outside' hin bl2) hm hs (by decide) (by decide)
  rw [hq] at hld
  go_wp2_with fail
  refine hld.mono ?_
  rintro e w3 ⟨rfl, rfl⟩
  clear hld
  go_wp2_with fail
  go_ret
  exact ⟨rfl, bl2⟩
theorem tcrash_any (w : World) (a : Option Addr) (L : List (List Ch)) (c : Nat) (hin : DdsB (fun _ => False) w a L) (hm : L.length ≤ maxLen) (hs : ∀ x ∈ L, x.length ≤ maxLen) (fuse : Int) (hf : (Lit.int .i64 fuse).wf = true) (x : Int) (hx : (Lit.int .u64 x).wf = true) :
    Calls Tryd.prog 4 #[.slice a L.length c, .int .i64 fuse, .int .u64 x] w fun e w' => e = .returned (.bool true) ∧ Below w.heap.size w w' := by
  obtain ⟨keep, rfl, hk⟩ := u64_wf hx
  have hf2 := i64_wf hf
  cases hq : ldB L 20
  · exact tcrash_no a L c fuse keep w hin hm hs hq
  · exact tcrash_yes a L c fuse keep w hin hm hs hf2.1 hf2.2 hk hq
end Go.Proofs.YtikkakdeapbioaaDoor
