/- image: rows are read into a realm. -/
/- image: a row is read into a realm. -/
import Derived.Test.YtddgpgldbekamaaGreatDoorAllPure
import Derived.Test.YtddgpgldbekamaaGreatDoorImPure
import Derived.Test.YtddgpgldbekamaaGreatDoorAddW
set_option linter.unusedVariables false
set_option linter.unusedSimpArgs false
set_option linter.unnecessarySimpa false
namespace Go.Proofs.YtddgpgldbekamaaGreatDoor
open Go.RowKit

theorem exec_appI (ρ : Operand → Value) (o : Oper) (x y : Operand) {ats : Array TypeId} {c : Call} {w w' : World} {vx vy v' : Value} (ho : o.op = .call c) (hc : c.callee = .builtin .append) (hca : c.args = #[x, y]) (hct : c.argTypes = ats) (hx : ρ x = vx) (hy : ρ y = vy)
    (hr : (Builtin.append_ ats o.type #[vx, vy]).run Tryz.prog w = .ok v' w') : (execOp ρ o).run Tryz.prog w = .ok (.value v') w' := by
  unfold execOp
  simp only [ho, resolve, hc, hca, hct, List.map_toArray, List.map_cons, List.map_nil, hx, hy, Sem.run_bind, Sem.run_pure, Result.andThen_ok, invoke, builtin, hr]

theorem inV1 {L : List Nat} (h : L.length = 1) : inV L = [.int .i64 ((L.getD 0 0 : Nat) : Int)] := by
  match L, h with
  | [a], _ => rfl
theorem inV2 {L : List Nat} (h : L.length = 2) : inV L = [.int .i64 ((L.getD 0 0 : Nat) : Int), .int .i64 ((L.getD 1 0 : Nat) : Int)] := by
  match L, h with
  | [a, b], _ => rfl
theorem inV4 {L : List Nat} (h : L.length = 4) : inV L = [.int .i64 ((L.getD 0 0 : Nat) : Int), .int .i64 ((L.getD 1 0 : Nat) : Int), .int .i64 ((L.getD 2 0 : Nat) : Int), .int .i64 ((L.getD 3 0 : Nat) : Int)] := by
  match L, h with
  | [a, b, c, d], _ => rfl
/-- numbers that a text holds -/
def NV (d m : Nat) (l : List UInt8) : List Value := match m with
  | 1 => [.int .i64 (nAt d 1 l 0)]
  | 2 => [.int .i64 (nAt d 2 l 0), .int .i64 (nAt d 2 l 1)]
  | _ => [.int .i64 (nAt d m l 0), .int .i64 (nAt d m l 1), .int .i64 (nAt d m l 2), .int .i64 (nAt d m l 3)]
def NumOut (d m : Nat) (l : List UInt8) (w : World) (e : Ending) (w' : World) : Prop :=
  Below w.heap.size w w' ∧ ∃ sl, e = .returned (.tuple #[sl, .bool (nOk d m l)]) ∧ (nOk d m l = true → sl = .slice (some ⟨w.heap.size, 0, none⟩) m m ∧ Bx w' w.heap.size (NV d m l))
theorem num12 (s : ByteArray) (w : World) (hs : s.size ≤ maxLen) : Calls Tryz.prog 133 #[.string s, .int .i64 1, .int .i64 2] w (NumOut 1 2 s.data.toList w) := by
  have hl : s.data.toList.length = s.size := by simp
  by_cases hz : s.size = 2
  · refine (numbers12_any s w hz).mono ?_
    rintro e w' ⟨hb, ⟨h1, rfl, h2⟩ | ⟨h1, rfl⟩⟩
    · have ho : nOk 1 2 s.data.toList = true := by unfold nOk; rw [h1, decide_eq_true (by omega)]; rfl
      refine ⟨hb, _, by rw [ho], fun _ => ⟨rfl, ?_⟩⟩
      rw [inV2 (nsP_len 1 2 _ _)] at h2
      exact h2
    · have ho : nOk 1 2 s.data.toList = false := by unfold nOk; rw [h1]; simp
      exact ⟨hb, _, by rw [ho], fun h => by rw [ho] at h; cases h⟩
  · refine (numbers12_len s w hs hz).mono ?_
    rintro e w' ⟨rfl, rfl⟩
    have ho : nOk 1 2 s.data.toList = false := by unfold nOk; rw [decide_eq_false (by omega)]; rfl
    exact ⟨Below.refl _ _, _, by rw [ho], fun h => by rw [ho] at h; cases h⟩
theorem num41 (s : ByteArray) (w : World) (hs : s.size ≤ maxLen) : Calls Tryz.prog 133 #[.string s, .int .i64 4, .int .i64 1] w (NumOut 4 1 s.data.toList w) := by
  have hl : s.data.toList.length = s.size := by simp
  by_cases hz : s.size = 4
  · refine (numbers41_any s w hz).mono ?_
    rintro e w' ⟨hb, ⟨h1, rfl, h2⟩ | ⟨h1, rfl⟩⟩
    · have ho : nOk 4 1 s.data.toList = true := by unfold nOk; rw [h1, decide_eq_true (by omega)]; rfl
      refine ⟨hb, _, by rw [ho], fun _ => ⟨rfl, ?_⟩⟩
      rw [inV1 (nsP_len 4 1 _ _)] at h2
      exact h2
    · have ho : nOk 4 1 s.data.toList = false := by unfold nOk; rw [h1]; simp
      exact ⟨hb, _, by rw [ho], fun h => by rw [ho] at h; cases h⟩
  · refine (numbers41_len s w hs hz).mono ?_
    rintro e w' ⟨rfl, rfl⟩
    have ho : nOk 4 1 s.data.toList = false := by unfold nOk; rw [decide_eq_false (by omega)]; rfl
    exact ⟨Below.refl _ _, _, by rw [ho], fun h => by rw [ho] at h; cases h⟩
theorem num44 (s : ByteArray) (w : World) (hs : s.size ≤ maxLen) : Calls Tryz.prog 133 #[.string s, .int .i64 4, .int .i64 4] w (NumOut 4 4 s.data.toList w) := by
  have hl : s.data.toList.length = s.size := by simp
  by_cases hz : s.size = 16
  · refine (numbers44_any s w hz).mono ?_
    rintro e w' ⟨hb, ⟨h1, rfl, h2⟩ | ⟨h1, rfl⟩⟩
    · have ho : nOk 4 4 s.data.toList = true := by unfold nOk; rw [h1, decide_eq_true (by omega)]; rfl
      refine ⟨hb, _, by rw [ho], fun _ => ⟨rfl, ?_⟩⟩
      rw [inV4 (nsP_len 4 4 _ _)] at h2
      exact h2
    · have ho : nOk 4 4 s.data.toList = false := by unfold nOk; rw [h1]; simp
      exact ⟨hb, _, by rw [ho], fun h => by rw [ho] at h; cases h⟩
  · refine (numbers44_len s w hs hz).mono ?_
    rintro e w' ⟨rfl, rfl⟩
    have ho : nOk 4 4 s.data.toList = false := by unfold nOk; rw [decide_eq_false (by omega)]; rfl
    exact ⟨Below.refl _ _, _, by rw [ho], fun h => by rw [ho] at h; cases h⟩
theorem num42 (s : ByteArray) (w : World) (hs : s.size ≤ maxLen) : Calls Tryz.prog 133 #[.string s, .int .i64 4, .int .i64 2] w (NumOut 4 2 s.data.toList w) := by
  have hl : s.data.toList.length = s.size := by simp
  by_cases hz : s.size = 8
  · refine (numbers42_any s w hz).mono ?_
    rintro e w' ⟨hb, ⟨h1, rfl, h2⟩ | ⟨h1, rfl⟩⟩
    · have ho : nOk 4 2 s.data.toList = true := by unfold nOk; rw [h1, decide_eq_true (by omega)]; rfl
      refine ⟨hb, _, by rw [ho], fun _ => ⟨rfl, ?_⟩⟩
      rw [inV2 (nsP_len 4 2 _ _)] at h2
      exact h2
    · have ho : nOk 4 2 s.data.toList = false := by unfold nOk; rw [h1]; simp
      exact ⟨hb, _, by rw [ho], fun h => by rw [ho] at h; cases h⟩
  · refine (numbers42_len s w hs hz).mono ?_
    rintro e w' ⟨rfl, rfl⟩
    have ho : nOk 4 2 s.data.toList = false := by unfold nOk; rw [decide_eq_false (by omega)]; rfl
    exact ⟨Below.refl _ _, _, by rw [ho], fun h => by rw [ho] at h; cases h⟩
/-- a realm that is being read, behind a pointer -/
structure Pt (w : World) (base p : Nat) (v0 v1 v2 : Value) (r : Rm) : Prop where
  bx : Bx w p [v0, v1, v2, .slice none 0 0, .int .i64 r.nw, .int .i64 r.nt]
  tag : RTag w p
  own : OwnsR w base v0 v1 v2 (.slice none 0 0) r
  lo : base ≤ p
  nn : r.ns = []
theorem Pt.below {w w' : World} {base p : Nat} {v0 v1 v2 : Value} {r : Rm} (h : Pt w base p v0 v1 v2 r) (hb : Below w.heap.size w w') : Pt w' base p v0 v1 v2 r :=
  ⟨h.bx.below hb, h.tag.below hb, h.own.below hb, h.lo, h.nn⟩
theorem Pt.hs {w w' : World} {base p : Nat} {v0 v1 v2 v' : Value} {r : Rm} (h : Pt w base p v0 v1 v2 r) {x : Hd} (ho : w'.ownsRow base 85 3 v' (r.hs.length + 1) (r.hs.flatMap hcells ++ [.int .i64 x.holder, .int .i64 x.slot, .int .i64 x.writ])) (hg : w.grownBy w' v2.ownBlock) :
    Pt (w'.setCell ⟨p, 2, none⟩ v') base p v0 v1 v' ⟨r.ws, r.ts, r.hs ++ [x], r.ns, r.nw, r.nt⟩ ∧ Below base w (w'.setCell ⟨p, 2, none⟩ v') := by
  have hne : some p ≠ v2.ownBlock := (own_ne_tag h.own.rh h.tag (by decide)).symm
  have B1 := (h.bx.grown hg hne).set 2 v'
  have T1 := h.tag.grown hg hne
  have O1 : OwnsR w' base v0 v1 v' (.slice none 0 0) ⟨r.ws, r.ts, r.hs ++ [x], r.ns, r.nw, r.nt⟩ :=
    OwnsR.of4 (Dist.kept h.own.rw_ hg h.own.d02) (Dist.kept h.own.rt hg h.own.d12) (row_snoc ho) (Dist.kept h.own.rn hg h.own.d23.symm)
  have hsz : base ≤ w.heap.size := by have := h.lo; have := h.bx.1; omega
  exact ⟨⟨B1, T1.set _ _, O1.setTag T1 _ _, h.lo, h.nn⟩, ((Below.refl _ _).grown hg hsz (fun k hk => (h.own.rh.lt k hk).1)).setCell (p := ⟨p, 2, none⟩) h.lo v'⟩
theorem Pt.ts {w w' : World} {base p : Nat} {v0 v1 v2 v' : Value} {r : Rm} (h : Pt w base p v0 v1 v2 r) {x : Th} (ho : w'.ownsRow base 62 3 v' (r.ts.length + 1) (r.ts.flatMap tcells ++ [.int .i64 x.id, .int .i64 x.kind, .string x.data])) (hg : w.grownBy w' v1.ownBlock) :
    Pt (w'.setCell ⟨p, 1, none⟩ v') base p v0 v' v2 ⟨r.ws, r.ts ++ [x], r.hs, r.ns, r.nw, r.nt⟩ ∧ Below base w (w'.setCell ⟨p, 1, none⟩ v') := by
  have hne : some p ≠ v1.ownBlock := (own_ne_tag h.own.rt h.tag (by decide)).symm
  have B1 := (h.bx.grown hg hne).set 1 v'
  have T1 := h.tag.grown hg hne
  have O1 : OwnsR w' base v0 v' v2 (.slice none 0 0) ⟨r.ws, r.ts ++ [x], r.hs, r.ns, r.nw, r.nt⟩ :=
    OwnsR.of4 (Dist.kept h.own.rw_ hg h.own.d01) (by simpa [tcells] using ho) (Dist.kept h.own.rh hg h.own.d12.symm) (Dist.kept h.own.rn hg h.own.d13.symm)
  have hsz : base ≤ w.heap.size := by have := h.lo; have := h.bx.1; omega
  exact ⟨⟨B1, T1.set _ _, O1.setTag T1 _ _, h.lo, h.nn⟩, ((Below.refl _ _).grown hg hsz (fun k hk => (h.own.rt.lt k hk).1)).setCell (p := ⟨p, 1, none⟩) h.lo v'⟩
theorem Pt.ws {w w' : World} {base p : Nat} {v0 v1 v2 v' : Value} {r : Rm} (h : Pt w base p v0 v1 v2 r) {x : Wr} (ho : w'.ownsRow base 88 5 v' (r.ws.length + 1) (r.ws.flatMap wcells ++ [.int .i64 x.id, .int .i64 x.thing, .int .i64 x.rights, .int .i64 x.badge, .int .i64 x.frm])) (hg : w.grownBy w' v0.ownBlock) :
    Pt (w'.setCell ⟨p, 0, none⟩ v') base p v' v1 v2 ⟨r.ws ++ [x], r.ts, r.hs, r.ns, r.nw, r.nt⟩ ∧ Below base w (w'.setCell ⟨p, 0, none⟩ v') := by
  have hne : some p ≠ v0.ownBlock := (own_ne_tag h.own.rw_ h.tag (by decide)).symm
  have B1 := (h.bx.grown hg hne).set 0 v'
  have T1 := h.tag.grown hg hne
  have O1 : OwnsR w' base v' v1 v2 (.slice none 0 0) ⟨r.ws ++ [x], r.ts, r.hs, r.ns, r.nw, r.nt⟩ :=
    OwnsR.of4 (row5_snoc ho) (Dist.kept h.own.rt hg h.own.d01.symm) (Dist.kept h.own.rh hg h.own.d02.symm) (Dist.kept h.own.rn hg h.own.d03.symm)
  have hsz : base ≤ w.heap.size := by have := h.lo; have := h.bx.1; omega
  exact ⟨⟨B1, T1.set _ _, O1.setTag T1 _ _, h.lo, h.nn⟩, ((Below.refl _ _).grown hg hsz (fun k hk => (h.own.rw_.lt k hk).1)).setCell (p := ⟨p, 0, none⟩) h.lo v'⟩
theorem Pt.nx {w : World} {base p : Nat} {v0 v1 v2 : Value} {r : Rm} (h : Pt w base p v0 v1 v2 r) (a b : Int) :
    Pt ((w.setCell ⟨p, 4, none⟩ (.int .i64 a)).setCell ⟨p, 5, none⟩ (.int .i64 b)) base p v0 v1 v2 ⟨r.ws, r.ts, r.hs, r.ns, a, b⟩ ∧ Below base w ((w.setCell ⟨p, 4, none⟩ (.int .i64 a)).setCell ⟨p, 5, none⟩ (.int .i64 b)) :=
  ⟨⟨(h.bx.set 4 _).set 5 _, (h.tag.set _ _).set _ _, OwnsR.of4 ((h.own.setTag h.tag 4 _).setTag (h.tag.set _ _) 5 _).rw_ ((h.own.setTag h.tag 4 _).setTag (h.tag.set _ _) 5 _).rt ((h.own.setTag h.tag 4 _).setTag (h.tag.set _ _) 5 _).rh ((h.own.setTag h.tag 4 _).setTag (h.tag.set _ _) 5 _).rn, h.lo, h.nn⟩,
   ((Below.refl _ _).setCell (p := ⟨p, 4, none⟩) h.lo _).setCell (p := ⟨p, 5, none⟩) h.lo _⟩
/-- what a row's reading gives -/
def RdOut (w : World) (base p : Nat) (o : Option Rm) (e : Ending) (w' : World) : Prop :=
  Below base w w' ∧ ((∃ z u0 u1 u2, o = some z ∧ e = .returned (.bool true) ∧ Pt w' base p u0 u1 u2 z) ∨ (o = none ∧ e = .returned (.bool false)))
set_option maxHeartbeats 2000000 in
set_option maxRecDepth 100000 in
theorem readHeld_any (base p : Nat) (v0 v1 v2 : Value) (r : Rm) (k v : ByteArray) (hk : k.size ≤ maxLen) (hv : v.size ≤ maxLen) (w : World) (h : Pt w base p v0 v1 v2 r) (hl : r.hs.length ≤ 1000) :
    Calls Tryz.prog 93 #[.pointer (some ⟨p, 0, none⟩), .string k, .string v] w (RdOut w base p (rH r k.data.toList v.data.toList)) := by
  have hsz : base ≤ w.heap.size := by have := h.lo; have := h.bx.1; omega
  go_enter Tryz.func93, Tryz.ntmps93
  go_wp2_with fail
  refine (num12 k w hk).mono ?_
  rintro e w1 ⟨hb1, s1, rfl, k1⟩
  go_wp2_with fail
  refine (num41 v w1 hv).mono ?_
  rintro e w2 ⟨hb2, s2, rfl, k2⟩
  have hb : Below w.heap.size w w2 := Below_after hb1 hb2
  by_cases o1 : nOk 1 2 k.data.toList = true
  · by_cases o2 : nOk 4 1 v.data.toList = true
    · obtain ⟨rfl, x1⟩ := k1 o1
      obtain ⟨rfl, x2⟩ := k2 o2
      have HZ : Hid (rH r k.data.toList v.data.toList = some ⟨r.ws, r.ts, r.hs ++ [⟨nAt 1 2 k.data.toList 0, nAt 1 2 k.data.toList 1, nAt 4 1 v.data.toList 0⟩], r.ns, r.nw, r.nt⟩) := (show rH _ _ _ = _ from by unfold rH; rw [if_pos ⟨o1, o2⟩])
      rw [o1, o2]
      clear k1 k2 o1 o2
      replace x1 : Bx w1 w.heap.size [.int .i64 (nAt 1 2 k.data.toList 0), .int .i64 (nAt 1 2 k.data.toList 1)] := x1
      replace x2 : Bx w2 w1.heap.size [.int .i64 (nAt 4 1 v.data.toList 0)] := x2
      generalize nAt 1 2 k.data.toList 0 = a0 at *
      generalize nAt 1 2 k.data.toList 1 = a1 at *
      generalize nAt 4 1 v.data.toList 0 = a2 at *
      have y1 := x1.below hb2
      obtain ⟨i0, hi, hi0, hi1, hi2⟩ := info_parts infoHeld
      have h2 : Pt w2.drew base p v0 v1 v2 r := (h.below hb).below (below_drewN (Below.refl _ _) 1)
      have h3 : Pt (w2.drew.alloc (.cells #[.int .i64 a0, .int .i64 a1, .int .i64 a2] 85)) base p v0 v1 v2 r := h2.below ((Below.refl _ _).alloc (Nat.le_refl _) _)
      obtain ⟨v', W4, r1, hown, hgrow, -⟩ := run_append_own (P := Tryz.prog) (w2.drew.alloc (.cells #[.int .i64 a0, .int .i64 a1, .int .i64 a2] 85)) base 29 29 85 i0 (.agg #[.int .i64 0, .int .i64 0, .int .i64 0]) 3 24 Tryz.underlying29 hi hi0 hi1 hi2 rfl (by decide) _ _ _ h3.own.rh ⟨w2.heap.size, 0, none⟩ 1 1 [.int .i64 a0, .int .i64 a1, .int .i64 a2] rfl (new3 w2.drew _ _ _ _) (one3 _ _ _) (by unfold maxLen; omega) (by omega) (by have := h3.lo; have := h3.bx.1; omega)
      obtain ⟨q1, q2, q3, rfl⟩ : ∃ a m c, v' = .slice a m c := by rcases hown.2 with ⟨rfl, _⟩ | ⟨g', cap, cur, rfl, _⟩ <;> exact ⟨_, _, _, rfl⟩
      have hfin := h3.hs (x := ⟨a0, a1, a2⟩) hown hgrow
      have hp2 := h.bx.1
      have hne : some p ≠ v2.ownBlock := (own_ne_tag h3.own.rh h3.tag (by decide)).symm
      have c2 := (h2.bx.2 2 _ rfl).1
      have c3 := (h3.bx.2 2 _ rfl).1
      have B4 := h3.bx.grown hgrow hne
      have c4 := (B4.2 2 _ rfl).1
      have f4 := (B4.2 2 _ rfl).2
      have l4 := B4.1
      have mkS : ∀ W, Bx W w.heap.size [.int .i64 a0, .int .i64 a1] → Bx W w1.heap.size [.int .i64 a2] → (fun w' : World => w'.cell? ⟨w.heap.size, 0, none⟩ = some (.int .i64 a0) ∧ w'.cell? ⟨w.heap.size, 1, none⟩ = some (.int .i64 a1) ∧ w'.cell? ⟨w1.heap.size, 0, none⟩ = some (.int .i64 a2)) W := fun W q0 q1 => ⟨(q0.2 0 _ rfl).1, (q0.2 1 _ rfl).1, (q1.2 0 _ rfl).1⟩
      have hS0 := mkS w2.drew (y1.below (below_drewN (Below.refl _ _) 1)) (x2.below (below_drewN (Below.refl _ _) 1))
      have hS1 := mkS (w2.drew.alloc (.cells #[.int .i64 a0, .int .i64 a1, .int .i64 a2] 85)) ((y1.below (below_drewN (Below.refl _ _) 1)).alloc (.cells #[.int .i64 a0, .int .i64 a1, .int .i64 a2] 85)) ((x2.below (below_drewN (Below.refl _ _) 1)).alloc (.cells #[.int .i64 a0, .int .i64 a1, .int .i64 a2] 85))
      have hS2 := mkS W4 (((y1.below (below_drewN (Below.refl _ _) 1)).alloc (.cells #[.int .i64 a0, .int .i64 a1, .int .i64 a2] 85)).grown hgrow (fun e => by have := (h.own.rh.lt _ e.symm).2; have := hb1.size; omega)) (((x2.below (below_drewN (Below.refl _ _) 1)).alloc (.cells #[.int .i64 a0, .int .i64 a1, .int .i64 a2] 85)).grown hgrow (fun e => by have := (h.own.rh.lt _ e.symm).2; have := hb1.size; omega))
      have hS3 := mkS (W4.setCell ⟨p, 2, none⟩ (.slice q1 q2 q3)) ((((y1.below (below_drewN (Below.refl _ _) 1)).alloc (.cells #[.int .i64 a0, .int .i64 a1, .int .i64 a2] 85)).grown hgrow (fun e => by have := (h.own.rh.lt _ e.symm).2; have := hb1.size; omega)).other (b' := p) (by have := hb1.size; omega) 2 (.slice q1 q2 q3)) ((((x2.below (below_drewN (Below.refl _ _) 1)).alloc (.cells #[.int .i64 a0, .int .i64 a1, .int .i64 a2] 85)).grown hgrow (fun e => by have := (h.own.rh.lt _ e.symm).2; have := hb1.size; omega)).other (b' := p) (by have := hb1.size; omega) 2 (.slice q1 q2 q3))
      have hbl : Below base w (w2.drew.alloc (.cells #[.int .i64 a0, .int .i64 a1, .int .i64 a2] 85)) := ((hb.drew).alloc (by have := hb.size; exact this) _).mono hsz
      clear mkS h2 h3 hown hgrow hne B4 hb1 hb2 hb y1 x2
      go_wp2_with fail
      refine wp_region_held_drew (S := fun w' => w'.cell? ⟨w.heap.size, 0, none⟩ = some (.int .i64 a0) ∧ w'.cell? ⟨w.heap.size, 1, none⟩ = some (.int .i64 a1) ∧ w'.cell? ⟨w1.heap.size, 0, none⟩ = some (.int .i64 a2)) (by kernel_rfl) ?_ (fun hHeld => ?_)
      · exact hS0
      refine tkI 0 (.pointer (some ⟨p, 0, none⟩)) rfl ?_
      refine tkI 1 (.pointer (some ⟨p, 0, none⟩)) rfl ?_
      refine tkI 2 (.pointer (some ⟨p, 0, none⟩)) rfl ?_
      refine tkI 3 (.pointer (some ⟨p, 2, none⟩)) rfl ?_
      refine tkI 5 (.slice (some ⟨w.heap.size, 0, none⟩) 2 2) rfl ?_
      refine tkI 6 (.pointer (some ⟨w.heap.size, 0, none⟩)) rfl ?_
      refine tkJ 7 (.int .i64 a0) rfl (by intro w hSw; (try dsimp only at hSw); obtain ⟨z0, z1, z2⟩ := hSw; go_simp) ?_
      refine tkI 8 (.slice (some ⟨w.heap.size, 0, none⟩) 2 2) rfl ?_
      refine tkI 9 (.pointer (some ⟨w.heap.size, 1, none⟩)) rfl ?_
      refine tkJ 10 (.int .i64 a1) rfl (by intro w hSw; (try dsimp only at hSw); obtain ⟨z0, z1, z2⟩ := hSw; go_simp) ?_
      refine tkI 11 (.agg #[.int .i64 a0, .int .i64 a1]) rfl ?_
      refine tkI 12 (.slice (some ⟨w1.heap.size, 0, none⟩) 1 1) rfl ?_
      refine tkI 13 (.pointer (some ⟨w1.heap.size, 0, none⟩)) rfl ?_
      refine tkJ 14 (.int .i64 a2) rfl (by intro w hSw; (try dsimp only at hSw); obtain ⟨z0, z1, z2⟩ := hSw; go_simp) ?_
      refine tkI 15 (.agg #[.int .i64 a0, .int .i64 a1, .int .i64 a2]) rfl ?_
      refine rdJ 4 16 rfl rfl (fun K hK => ?_) (fun K hK => ?_)
      · go_wp2_with fail
        refine hK.out _ _ ?_ (fun hHeld => ?_)
        · exact hS0
        clear hK K
        (try simp only [Act.put, List.setIfInBounds_toArray, List.set_cons_zero, List.set_cons_succ])
        refine rdI 16 rfl (fun K hK => ?_)
        go_wp2_with fail
        refine hK.out _ _ ?_ (fun hHeld => ?_)
        · exact hS1
        clear hK K
        (try simp only [Act.put, List.setIfInBounds_toArray, List.set_cons_zero, List.set_cons_succ])
        refine rdI 17 rfl (fun K hK => ?_)
        refine wp_run (exec_appI _ _ _ _ (by rfl) (by rfl) (by rfl) (by rfl) (by rfl) (by rfl) r1) ?_
        refine hK.out _ _ ?_ (fun hHeld => ?_)
        · exact hS2
        clear hK K
        (try simp only [Act.put, List.setIfInBounds_toArray, List.set_cons_zero, List.set_cons_succ])
        refine tkI 18 (.pointer (some ⟨p, 0, none⟩)) rfl ?_
        refine tkI 19 (.pointer (some ⟨p, 2, none⟩)) rfl ?_
        refine rdI 20 rfl (fun K hK => ?_)
        go_wp2_with fail
        refine hK.out _ _ ?_ (fun hHeld => ?_)
        · exact hS3
        clear hK K
        (try simp only [Act.put, List.setIfInBounds_toArray, List.set_cons_zero, List.set_cons_succ])
        refine wpAnyH_done (by kernel_rfl) ?_ _
        go_wp2_with fail
        go_ret
        exact ⟨hbl.trans hfin.2, .inl ⟨_, _, _, _, HZ.out, rfl, hfin.1⟩⟩
      · go_wp2_with fail
        refine hK.out _ _ ?_ (fun hHeld => ?_)
        · exact hS1
        clear hK K
        (try simp only [Act.put, List.setIfInBounds_toArray, List.set_cons_zero, List.set_cons_succ])
        change wpAnyH _ _ _ _ _ _ _ _ (w2.drew.alloc (.cells #[.int .i64 a0, .int .i64 a1, .int .i64 a2] 85))
        generalize w2.drew.alloc (.cells #[.int .i64 a0, .int .i64 a1, .int .i64 a2] 85) = W3 at *
        refine rdI 4 rfl (fun K hK => ?_)
        go_wp2_with fail
        refine hK.out _ _ ?_ (fun hHeld => ?_)
        · exact hS1
        clear hK K
        (try simp only [Act.put, List.setIfInBounds_toArray, List.set_cons_zero, List.set_cons_succ])
        refine rdI 17 rfl (fun K hK => ?_)
        refine wp_run (exec_appI _ _ _ _ (by rfl) (by rfl) (by rfl) (by rfl) (by rfl) (by rfl) r1) ?_
        refine hK.out _ _ ?_ (fun hHeld => ?_)
        · exact hS2
        clear hK K
        (try simp only [Act.put, List.setIfInBounds_toArray, List.set_cons_zero, List.set_cons_succ])
        refine tkI 18 (.pointer (some ⟨p, 0, none⟩)) rfl ?_
        refine tkI 19 (.pointer (some ⟨p, 2, none⟩)) rfl ?_
        refine rdI 20 rfl (fun K hK => ?_)
        go_wp2_with fail
        refine hK.out _ _ ?_ (fun hHeld => ?_)
        · exact hS3
        clear hK K
        (try simp only [Act.put, List.setIfInBounds_toArray, List.set_cons_zero, List.set_cons_succ])
        refine wpAnyH_done (by kernel_rfl) ?_ _
        go_wp2_with fail
        go_ret
        exact ⟨hbl.trans hfin.2, .inl ⟨_, _, _, _, HZ.out, rfl, hfin.1⟩⟩
    · have o2' : nOk 4 1 v.data.toList = false := by simpa using o2
      have HN : Hid (rH r k.data.toList v.data.toList = none) := (show rH _ _ _ = none from by unfold rH; rw [if_neg (fun hh => o2 hh.2)])
      rw [o1, o2']
      clear k1 k2 o1 o2 o2' h
      go_wp2_with fail
      go_ret
      exact ⟨hb.mono hsz, .inr ⟨HN.out, rfl⟩⟩
  · have o1' : nOk 1 2 k.data.toList = false := by simpa using o1
    have HN : Hid (rH r k.data.toList v.data.toList = none) := (show rH _ _ _ = none from by unfold rH; rw [if_neg (fun hh => o1 hh.1)])
    rw [o1']
    clear k1 k2 o1 o1' h
    go_wp2_with fail
    go_ret
    exact ⟨hb.mono hsz, .inr ⟨HN.out, rfl⟩⟩
set_option maxHeartbeats 2000000 in
set_option maxRecDepth 100000 in
theorem readWrit_any (base p : Nat) (v0 v1 v2 : Value) (r : Rm) (k v : ByteArray) (hk : k.size ≤ maxLen) (hv : v.size ≤ maxLen) (w : World) (h : Pt w base p v0 v1 v2 r) (hl : r.ws.length ≤ 1000) :
    Calls Tryz.prog 95 #[.pointer (some ⟨p, 0, none⟩), .string k, .string v] w (RdOut w base p (rW r k.data.toList v.data.toList)) := by
  have hsz : base ≤ w.heap.size := by have := h.lo; have := h.bx.1; omega
  go_enter Tryz.func95, Tryz.ntmps95
  go_wp2_with fail
  refine (num41 k w hk).mono ?_
  rintro e w1 ⟨hb1, s1, rfl, k1⟩
  go_wp2_with fail
  refine (num44 v w1 hv).mono ?_
  rintro e w2 ⟨hb2, s2, rfl, k2⟩
  have hb : Below w.heap.size w w2 := Below_after hb1 hb2
  by_cases o1 : nOk 4 1 k.data.toList = true
  · by_cases o2 : nOk 4 4 v.data.toList = true
    · obtain ⟨rfl, x1⟩ := k1 o1
      obtain ⟨rfl, x2⟩ := k2 o2
      have HZ : Hid (rW r k.data.toList v.data.toList = some ⟨r.ws ++ [⟨nAt 4 1 k.data.toList 0, nAt 4 4 v.data.toList 0, nAt 4 4 v.data.toList 1, nAt 4 4 v.data.toList 2, nAt 4 4 v.data.toList 3⟩], r.ts, r.hs, r.ns, r.nw, r.nt⟩) := (show rW _ _ _ = _ from by unfold rW; rw [if_pos ⟨o1, o2⟩])
      rw [o1, o2]
      clear k1 k2 o1 o2
      replace x1 : Bx w1 w.heap.size [.int .i64 (nAt 4 1 k.data.toList 0)] := x1
      replace x2 : Bx w2 w1.heap.size [.int .i64 (nAt 4 4 v.data.toList 0), .int .i64 (nAt 4 4 v.data.toList 1), .int .i64 (nAt 4 4 v.data.toList 2), .int .i64 (nAt 4 4 v.data.toList 3)] := x2
      generalize nAt 4 1 k.data.toList 0 = a0 at *
      generalize nAt 4 4 v.data.toList 0 = a1 at *
      generalize nAt 4 4 v.data.toList 1 = a2 at *
      generalize nAt 4 4 v.data.toList 2 = a3 at *
      generalize nAt 4 4 v.data.toList 3 = a4 at *
      have y1 := x1.below hb2
      obtain ⟨i0, hi, hi0, hi1, hi2⟩ := info_parts infoWrit
      have h2 : Pt w2.drew base p v0 v1 v2 r := (h.below hb).below (below_drewN (Below.refl _ _) 1)
      have h3 : Pt (w2.drew.alloc (.cells #[.int .i64 a0, .int .i64 a1, .int .i64 a2, .int .i64 a3, .int .i64 a4] 88)) base p v0 v1 v2 r := h2.below ((Below.refl _ _).alloc (Nat.le_refl _) _)
      obtain ⟨v', W4, r1, hown, hgrow, -⟩ := run_append_own (P := Tryz.prog) (w2.drew.alloc (.cells #[.int .i64 a0, .int .i64 a1, .int .i64 a2, .int .i64 a3, .int .i64 a4] 88)) base 27 27 88 i0 (.agg #[.int .i64 0, .int .i64 0, .int .i64 0, .int .i64 0, .int .i64 0]) 5 40 Tryz.underlying27 hi hi0 hi1 hi2 rfl (by decide) _ _ _ h3.own.rw_ ⟨w2.heap.size, 0, none⟩ 1 1 [.int .i64 a0, .int .i64 a1, .int .i64 a2, .int .i64 a3, .int .i64 a4] rfl (new5 w2.drew _ _ _ _ _ _) (one5 _ _ _ _ _) (by unfold maxLen; omega) (by omega) (by have := h3.lo; have := h3.bx.1; omega)
      obtain ⟨q1, q2, q3, rfl⟩ : ∃ a m c, v' = .slice a m c := by rcases hown.2 with ⟨rfl, _⟩ | ⟨g', cap, cur, rfl, _⟩ <;> exact ⟨_, _, _, rfl⟩
      have hfin := h3.ws (x := ⟨a0, a1, a2, a3, a4⟩) hown hgrow
      have hp2 := h.bx.1
      have hne : some p ≠ v0.ownBlock := (own_ne_tag h3.own.rw_ h3.tag (by decide)).symm
      have c2 := (h2.bx.2 0 _ rfl).1
      have c3 := (h3.bx.2 0 _ rfl).1
      have B4 := h3.bx.grown hgrow hne
      have c4 := (B4.2 0 _ rfl).1
      have f4 := (B4.2 0 _ rfl).2
      have l4 := B4.1
      have mkS : ∀ W, Bx W w.heap.size [.int .i64 a0] → Bx W w1.heap.size [.int .i64 a1, .int .i64 a2, .int .i64 a3, .int .i64 a4] → (fun w' : World => w'.cell? ⟨w.heap.size, 0, none⟩ = some (.int .i64 a0) ∧ w'.cell? ⟨w1.heap.size, 0, none⟩ = some (.int .i64 a1) ∧ w'.cell? ⟨w1.heap.size, 1, none⟩ = some (.int .i64 a2) ∧ w'.cell? ⟨w1.heap.size, 2, none⟩ = some (.int .i64 a3) ∧ w'.cell? ⟨w1.heap.size, 3, none⟩ = some (.int .i64 a4)) W := fun W q0 q1 => ⟨(q0.2 0 _ rfl).1, (q1.2 0 _ rfl).1, (q1.2 1 _ rfl).1, (q1.2 2 _ rfl).1, (q1.2 3 _ rfl).1⟩
      have hS0 := mkS w2.drew (y1.below (below_drewN (Below.refl _ _) 1)) (x2.below (below_drewN (Below.refl _ _) 1))
      have hS1 := mkS (w2.drew.alloc (.cells #[.int .i64 a0, .int .i64 a1, .int .i64 a2, .int .i64 a3, .int .i64 a4] 88)) ((y1.below (below_drewN (Below.refl _ _) 1)).alloc (.cells #[.int .i64 a0, .int .i64 a1, .int .i64 a2, .int .i64 a3, .int .i64 a4] 88)) ((x2.below (below_drewN (Below.refl _ _) 1)).alloc (.cells #[.int .i64 a0, .int .i64 a1, .int .i64 a2, .int .i64 a3, .int .i64 a4] 88))
      have hS2 := mkS W4 (((y1.below (below_drewN (Below.refl _ _) 1)).alloc (.cells #[.int .i64 a0, .int .i64 a1, .int .i64 a2, .int .i64 a3, .int .i64 a4] 88)).grown hgrow (fun e => by have := (h.own.rw_.lt _ e.symm).2; have := hb1.size; omega)) (((x2.below (below_drewN (Below.refl _ _) 1)).alloc (.cells #[.int .i64 a0, .int .i64 a1, .int .i64 a2, .int .i64 a3, .int .i64 a4] 88)).grown hgrow (fun e => by have := (h.own.rw_.lt _ e.symm).2; have := hb1.size; omega))
      have hS3 := mkS (W4.setCell ⟨p, 0, none⟩ (.slice q1 q2 q3)) ((((y1.below (below_drewN (Below.refl _ _) 1)).alloc (.cells #[.int .i64 a0, .int .i64 a1, .int .i64 a2, .int .i64 a3, .int .i64 a4] 88)).grown hgrow (fun e => by have := (h.own.rw_.lt _ e.symm).2; have := hb1.size; omega)).other (b' := p) (by have := hb1.size; omega) 0 (.slice q1 q2 q3)) ((((x2.below (below_drewN (Below.refl _ _) 1)).alloc (.cells #[.int .i64 a0, .int .i64 a1, .int .i64 a2, .int .i64 a3, .int .i64 a4] 88)).grown hgrow (fun e => by have := (h.own.rw_.lt _ e.symm).2; have := hb1.size; omega)).other (b' := p) (by have := hb1.size; omega) 0 (.slice q1 q2 q3))
      have hbl : Below base w (w2.drew.alloc (.cells #[.int .i64 a0, .int .i64 a1, .int .i64 a2, .int .i64 a3, .int .i64 a4] 88)) := ((hb.drew).alloc (by have := hb.size; exact this) _).mono hsz
      clear mkS h2 h3 hown hgrow hne B4 hb1 hb2 hb y1 x2
      go_wp2_with fail
      refine wp_region_held_drew (S := fun w' => w'.cell? ⟨w.heap.size, 0, none⟩ = some (.int .i64 a0) ∧ w'.cell? ⟨w1.heap.size, 0, none⟩ = some (.int .i64 a1) ∧ w'.cell? ⟨w1.heap.size, 1, none⟩ = some (.int .i64 a2) ∧ w'.cell? ⟨w1.heap.size, 2, none⟩ = some (.int .i64 a3) ∧ w'.cell? ⟨w1.heap.size, 3, none⟩ = some (.int .i64 a4)) (by kernel_rfl) ?_ (fun hHeld => ?_)
      · exact hS0
      refine tkI 0 (.pointer (some ⟨p, 0, none⟩)) rfl ?_
      refine tkI 1 (.pointer (some ⟨p, 0, none⟩)) rfl ?_
      refine tkI 2 (.pointer (some ⟨p, 0, none⟩)) rfl ?_
      refine tkI 3 (.pointer (some ⟨p, 0, none⟩)) rfl ?_
      refine tkI 5 (.slice (some ⟨w.heap.size, 0, none⟩) 1 1) rfl ?_
      refine tkI 6 (.pointer (some ⟨w.heap.size, 0, none⟩)) rfl ?_
      refine tkJ 7 (.int .i64 a0) rfl (by intro w hSw; (try dsimp only at hSw); obtain ⟨z0, z1, z2, z3, z4⟩ := hSw; go_simp) ?_
      refine tkI 8 (.slice (some ⟨w1.heap.size, 0, none⟩) 4 4) rfl ?_
      refine tkI 9 (.pointer (some ⟨w1.heap.size, 0, none⟩)) rfl ?_
      refine tkJ 10 (.int .i64 a1) rfl (by intro w hSw; (try dsimp only at hSw); obtain ⟨z0, z1, z2, z3, z4⟩ := hSw; go_simp) ?_
      refine tkI 11 (.slice (some ⟨w1.heap.size, 0, none⟩) 4 4) rfl ?_
      refine tkI 12 (.pointer (some ⟨w1.heap.size, 1, none⟩)) rfl ?_
      refine tkJ 13 (.int .i64 a2) rfl (by intro w hSw; (try dsimp only at hSw); obtain ⟨z0, z1, z2, z3, z4⟩ := hSw; go_simp) ?_
      refine tkI 14 (.slice (some ⟨w1.heap.size, 0, none⟩) 4 4) rfl ?_
      refine tkI 15 (.pointer (some ⟨w1.heap.size, 2, none⟩)) rfl ?_
      refine tkJ 16 (.int .i64 a3) rfl (by intro w hSw; (try dsimp only at hSw); obtain ⟨z0, z1, z2, z3, z4⟩ := hSw; go_simp) ?_
      refine tkI 17 (.slice (some ⟨w1.heap.size, 0, none⟩) 4 4) rfl ?_
      refine tkI 18 (.pointer (some ⟨w1.heap.size, 3, none⟩)) rfl ?_
      refine tkJ 19 (.int .i64 a4) rfl (by intro w hSw; (try dsimp only at hSw); obtain ⟨z0, z1, z2, z3, z4⟩ := hSw; go_simp) ?_
      refine tkI 20 (.agg #[.int .i64 a0, .int .i64 a1, .int .i64 a2, .int .i64 a3, .int .i64 a4]) rfl ?_
      refine rdJ 4 21 rfl rfl (fun K hK => ?_) (fun K hK => ?_)
      · go_wp2_with fail
        refine hK.out _ _ ?_ (fun hHeld => ?_)
        · exact hS0
        clear hK K
        (try simp only [Act.put, List.setIfInBounds_toArray, List.set_cons_zero, List.set_cons_succ])
        refine rdI 21 rfl (fun K hK => ?_)
        go_wp2_with fail
        refine hK.out _ _ ?_ (fun hHeld => ?_)
        · exact hS1
        clear hK K
        (try simp only [Act.put, List.setIfInBounds_toArray, List.set_cons_zero, List.set_cons_succ])
        refine rdI 22 rfl (fun K hK => ?_)
        refine wp_run (exec_appI _ _ _ _ (by rfl) (by rfl) (by rfl) (by rfl) (by rfl) (by rfl) r1) ?_
        refine hK.out _ _ ?_ (fun hHeld => ?_)
        · exact hS2
        clear hK K
        (try simp only [Act.put, List.setIfInBounds_toArray, List.set_cons_zero, List.set_cons_succ])
        refine tkI 23 (.pointer (some ⟨p, 0, none⟩)) rfl ?_
        refine tkI 24 (.pointer (some ⟨p, 0, none⟩)) rfl ?_
        refine rdI 25 rfl (fun K hK => ?_)
        go_wp2_with fail
        refine hK.out _ _ ?_ (fun hHeld => ?_)
        · exact hS3
        clear hK K
        (try simp only [Act.put, List.setIfInBounds_toArray, List.set_cons_zero, List.set_cons_succ])
        refine wpAnyH_done (by kernel_rfl) ?_ _
        go_wp2_with fail
        go_ret
        exact ⟨hbl.trans hfin.2, .inl ⟨_, _, _, _, HZ.out, rfl, hfin.1⟩⟩
      · go_wp2_with fail
        refine hK.out _ _ ?_ (fun hHeld => ?_)
        · exact hS1
        clear hK K
        (try simp only [Act.put, List.setIfInBounds_toArray, List.set_cons_zero, List.set_cons_succ])
        change wpAnyH _ _ _ _ _ _ _ _ (w2.drew.alloc (.cells #[.int .i64 a0, .int .i64 a1, .int .i64 a2, .int .i64 a3, .int .i64 a4] 88))
        generalize w2.drew.alloc (.cells #[.int .i64 a0, .int .i64 a1, .int .i64 a2, .int .i64 a3, .int .i64 a4] 88) = W3 at *
        refine rdI 4 rfl (fun K hK => ?_)
        go_wp2_with fail
        refine hK.out _ _ ?_ (fun hHeld => ?_)
        · exact hS1
        clear hK K
        (try simp only [Act.put, List.setIfInBounds_toArray, List.set_cons_zero, List.set_cons_succ])
        refine rdI 22 rfl (fun K hK => ?_)
        refine wp_run (exec_appI _ _ _ _ (by rfl) (by rfl) (by rfl) (by rfl) (by rfl) (by rfl) r1) ?_
        refine hK.out _ _ ?_ (fun hHeld => ?_)
        · exact hS2
        clear hK K
        (try simp only [Act.put, List.setIfInBounds_toArray, List.set_cons_zero, List.set_cons_succ])
        refine tkI 23 (.pointer (some ⟨p, 0, none⟩)) rfl ?_
        refine tkI 24 (.pointer (some ⟨p, 0, none⟩)) rfl ?_
        refine rdI 25 rfl (fun K hK => ?_)
        go_wp2_with fail
        refine hK.out _ _ ?_ (fun hHeld => ?_)
        · exact hS3
        clear hK K
        (try simp only [Act.put, List.setIfInBounds_toArray, List.set_cons_zero, List.set_cons_succ])
        refine wpAnyH_done (by kernel_rfl) ?_ _
        go_wp2_with fail
        go_ret
        exact ⟨hbl.trans hfin.2, .inl ⟨_, _, _, _, HZ.out, rfl, hfin.1⟩⟩
    · have o2' : nOk 4 4 v.data.toList = false := by simpa using o2
      have HN : Hid (rW r k.data.toList v.data.toList = none) := (show rW _ _ _ = none from by unfold rW; rw [if_neg (fun hh => o2 hh.2)])
      rw [o1, o2']
      clear k1 k2 o1 o2 o2' h
      go_wp2_with fail
      go_ret
      exact ⟨hb.mono hsz, .inr ⟨HN.out, rfl⟩⟩
  · have o1' : nOk 4 1 k.data.toList = false := by simpa using o1
    have HN : Hid (rW r k.data.toList v.data.toList = none) := (show rW _ _ _ = none from by unfold rW; rw [if_neg (fun hh => o1 hh.1)])
    rw [o1']
    clear k1 k2 o1 o1' h
    go_wp2_with fail
    go_ret
    exact ⟨hb.mono hsz, .inr ⟨HN.out, rfl⟩⟩
theorem exec_min4 (ρ : Operand → Value) (o : Oper) (x y : Operand) {c : Call} (n : Nat) (w : World) (ho : o.op = .call c) (hc : c.callee = .builtin .min) (hca : c.args = #[x, y]) (hx : ρ x = .int .i64 4) (hy : ρ y = .int .i64 (n : Int)) : (execOp ρ o).run Tryz.prog w = .ok (.value (.int .i64 ((min 4 n : Nat) : Int))) w := by
  have e : ((min 4 n : Nat) : Int) = if (n : Int) < 4 then (n : Int) else 4 := by split <;> omega
  unfold execOp
  simp only [ho, resolve, hc, hca, List.map_toArray, List.map_cons, List.map_nil, hx, hy, Sem.run_bind, Sem.run_pure, Result.andThen_ok, invoke, builtin, run_min_int2, e]
theorem oneT (a b : Int) (s : ByteArray) : ∀ u ∈ [Value.int .i64 a, .int .i64 b, .string s], u.oneCell' = true := by
  intro u hu
  simp at hu
  rcases hu with rfl | rfl | rfl <;> rfl
theorem ext_take (s : ByteArray) : (s.extract 0 (min 4 s.size)).data.toList = s.data.toList.take 4 := by
  have : s.data.toList.length = s.size := by simp
  rw [ByteArray.data_extract]
  simp only [Array.toList_extract, List.extract_eq_take_drop]
  rw [List.drop_zero, Nat.sub_zero]
  by_cases h : s.size ≤ 4
  · rw [Nat.min_eq_right h, List.take_of_length_le (by omega), List.take_of_length_le (by omega)]
  · rw [Nat.min_eq_left (by omega)]
theorem ext_drop (s : ByteArray) : s.extract (min 4 s.size) s.size = bsO (s.data.toList.drop 4) := by
  have hl : s.data.toList.length = s.size := by simp
  rw [← bsO_of (s.extract _ _)]
  congr 1
  rw [ByteArray.data_extract]
  simp only [Array.toList_extract, List.extract_eq_take_drop]
  rw [List.take_of_length_le (by rw [List.length_drop]; omega)]
  by_cases h : s.size ≤ 4
  · rw [Nat.min_eq_right h, List.drop_of_length_le (by omega), List.drop_of_length_le (by omega)]
  · rw [Nat.min_eq_left (by omega)]
set_option maxHeartbeats 2000000 in
set_option maxRecDepth 100000 in
theorem readThing_any (base p : Nat) (v0 v1 v2 : Value) (r : Rm) (k v : ByteArray) (hk : k.size ≤ maxLen) (hv : v.size ≤ maxLen) (w : World) (h : Pt w base p v0 v1 v2 r) (hl : r.ts.length ≤ 1000) :
    Calls Tryz.prog 94 #[.pointer (some ⟨p, 0, none⟩), .string k, .string v] w (RdOut w base p (rT r k.data.toList v.data.toList)) := by
  have hsz : base ≤ w.heap.size := by have := h.lo; have := h.bx.1; omega
  go_enter Tryz.func94, Tryz.ntmps94
  go_wp2_with (refine wpList_run (by rfl) (exec_min4 _ _ _ _ v.size _ (by rfl) (by rfl) (by rfl) (by rfl) (by rfl)) ?_)
  refine (num41 k w hk).mono ?_
  rintro e w1 ⟨hb1, s1, rfl, k1⟩
  go_wp2_with fail
  refine (num41 (v.extract 0 (min 4 v.size)) w1 (by rw [ByteArray.size_extract]; omega)).mono ?_
  rintro e w2 ⟨hb2, s2, rfl, k2⟩
  rw [ext_take] at k2
  rw [ext_take]
  have hb : Below w.heap.size w w2 := Below_after hb1 hb2
  by_cases o1 : nOk 4 1 k.data.toList = true
  · by_cases o2 : nOk 4 1 (v.data.toList.take 4) = true
    · obtain ⟨rfl, x1⟩ := k1 o1
      obtain ⟨rfl, x2⟩ := k2 o2
      have HZ : Hid (rT r k.data.toList v.data.toList = some ⟨r.ws, r.ts ++ [⟨nAt 4 1 k.data.toList 0, nAt 4 1 (v.data.toList.take 4) 0, bsO (v.data.toList.drop 4)⟩], r.hs, r.ns, r.nw, r.nt⟩) := (show rT _ _ _ = _ from by unfold rT; rw [if_pos ⟨o1, o2⟩])
      rw [o1, o2]
      clear k1 k2 o1 o2
      replace x1 : Bx w1 w.heap.size [.int .i64 (nAt 4 1 k.data.toList 0)] := x1
      replace x2 : Bx w2 w1.heap.size [.int .i64 (nAt 4 1 (v.data.toList.take 4) 0)] := x2
      generalize nAt 4 1 k.data.toList 0 = a0 at *
      generalize nAt 4 1 (v.data.toList.take 4) 0 = a1 at *
      have hu := ext_drop v
      generalize bsO (v.data.toList.drop 4) = u at *
      have y1 := x1.below hb2
      obtain ⟨i0, hi, hi0, hi1, hi2⟩ := info_parts infoThing
      have h2 : Pt w2.drew base p v0 v1 v2 r := (h.below hb).below (below_drewN (Below.refl _ _) 1)
      have h3 : Pt (w2.drew.alloc (.cells #[.int .i64 a0, .int .i64 a1, .string u] 62)) base p v0 v1 v2 r := h2.below ((Below.refl _ _).alloc (Nat.le_refl _) _)
      obtain ⟨v', W4, r1, hown, hgrow, -⟩ := run_append_own (P := Tryz.prog) (w2.drew.alloc (.cells #[.int .i64 a0, .int .i64 a1, .string u] 62)) base 28 28 62 i0 (.agg #[.int .i64 0, .int .i64 0, .string ByteArray.empty]) 3 32 Tryz.underlying28 hi hi0 hi1 hi2 rfl (by decide) _ _ _ h3.own.rt ⟨w2.heap.size, 0, none⟩ 1 1 [.int .i64 a0, .int .i64 a1, .string u] rfl (new3 w2.drew _ _ _ _) (oneT _ _ _) (by unfold maxLen; omega) (by omega) (by have := h3.lo; have := h3.bx.1; omega)
      obtain ⟨q1, q2, q3, rfl⟩ : ∃ a m c, v' = .slice a m c := by rcases hown.2 with ⟨rfl, _⟩ | ⟨g', cap, cur, rfl, _⟩ <;> exact ⟨_, _, _, rfl⟩
      have hfin := h3.ts (x := ⟨a0, a1, u⟩) hown hgrow
      have hp2 := h.bx.1
      have hne : some p ≠ v1.ownBlock := (own_ne_tag h3.own.rt h3.tag (by decide)).symm
      have c2 := (h2.bx.2 1 _ rfl).1
      have c3 := (h3.bx.2 1 _ rfl).1
      have B4 := h3.bx.grown hgrow hne
      have c4 := (B4.2 1 _ rfl).1
      have f4 := (B4.2 1 _ rfl).2
      have l4 := B4.1
      have mkS : ∀ W, Bx W w.heap.size [.int .i64 a0] → Bx W w1.heap.size [.int .i64 a1] → (fun w' : World => w'.cell? ⟨w.heap.size, 0, none⟩ = some (.int .i64 a0) ∧ w'.cell? ⟨w1.heap.size, 0, none⟩ = some (.int .i64 a1)) W := fun W q0 q1 => ⟨(q0.2 0 _ rfl).1, (q1.2 0 _ rfl).1⟩
      have hS0 := mkS w2.drew (y1.below (below_drewN (Below.refl _ _) 1)) (x2.below (below_drewN (Below.refl _ _) 1))
      have hS1 := mkS (w2.drew.alloc (.cells #[.int .i64 a0, .int .i64 a1, .string u] 62)) ((y1.below (below_drewN (Below.refl _ _) 1)).alloc (.cells #[.int .i64 a0, .int .i64 a1, .string u] 62)) ((x2.below (below_drewN (Below.refl _ _) 1)).alloc (.cells #[.int .i64 a0, .int .i64 a1, .string u] 62))
      have hS2 := mkS W4 (((y1.below (below_drewN (Below.refl _ _) 1)).alloc (.cells #[.int .i64 a0, .int .i64 a1, .string u] 62)).grown hgrow (fun e => by have := (h.own.rt.lt _ e.symm).2; have := hb1.size; omega)) (((x2.below (below_drewN (Below.refl _ _) 1)).alloc (.cells #[.int .i64 a0, .int .i64 a1, .string u] 62)).grown hgrow (fun e => by have := (h.own.rt.lt _ e.symm).2; have := hb1.size; omega))
      have hS3 := mkS (W4.setCell ⟨p, 1, none⟩ (.slice q1 q2 q3)) ((((y1.below (below_drewN (Below.refl _ _) 1)).alloc (.cells #[.int .i64 a0, .int .i64 a1, .string u] 62)).grown hgrow (fun e => by have := (h.own.rt.lt _ e.symm).2; have := hb1.size; omega)).other (b' := p) (by have := hb1.size; omega) 1 (.slice q1 q2 q3)) ((((x2.below (below_drewN (Below.refl _ _) 1)).alloc (.cells #[.int .i64 a0, .int .i64 a1, .string u] 62)).grown hgrow (fun e => by have := (h.own.rt.lt _ e.symm).2; have := hb1.size; omega)).other (b' := p) (by have := hb1.size; omega) 1 (.slice q1 q2 q3))
      have hbl : Below base w (w2.drew.alloc (.cells #[.int .i64 a0, .int .i64 a1, .string u] 62)) := ((hb.drew).alloc (by have := hb.size; exact this) _).mono hsz
      clear mkS h2 h3 hown hgrow hne B4 hb1 hb2 hb y1 x2
      go_wp2_with fail
      refine wp_region_held_drew (S := fun w' => w'.cell? ⟨w.heap.size, 0, none⟩ = some (.int .i64 a0) ∧ w'.cell? ⟨w1.heap.size, 0, none⟩ = some (.int .i64 a1)) (by kernel_rfl) ?_ (fun hHeld => ?_)
      · exact hS0
      refine tkI 0 (.pointer (some ⟨p, 0, none⟩)) rfl ?_
      refine tkI 1 (.pointer (some ⟨p, 0, none⟩)) rfl ?_
      refine tkI 2 (.pointer (some ⟨p, 0, none⟩)) rfl ?_
      refine tkI 3 (.pointer (some ⟨p, 1, none⟩)) rfl ?_
      refine tkI 5 (.slice (some ⟨w.heap.size, 0, none⟩) 1 1) rfl ?_
      refine tkI 6 (.pointer (some ⟨w.heap.size, 0, none⟩)) rfl ?_
      refine tkJ 7 (.int .i64 a0) rfl (by intro w hSw; (try dsimp only at hSw); obtain ⟨z0, z1⟩ := hSw; go_simp) ?_
      refine tkI 8 (.slice (some ⟨w1.heap.size, 0, none⟩) 1 1) rfl ?_
      refine tkI 9 (.pointer (some ⟨w1.heap.size, 0, none⟩)) rfl ?_
      refine tkJ 10 (.int .i64 a1) rfl (by intro w hSw; (try dsimp only at hSw); obtain ⟨z0, z1⟩ := hSw; go_simp) ?_
      refine tkI 11 (.string v) rfl ?_
      refine tkI 12 (.int .i64 ((min 4 v.size : Nat) : Int)) rfl ?_
      refine tkJ 13 (.string u) rfl (by intro w hSw; go_simp; all_goals (intro hx; exact absurd hx (by omega))) ?_
      refine tkI 14 (.agg #[.int .i64 a0, .int .i64 a1, .string u]) rfl ?_
      refine rdJ 4 15 rfl rfl (fun K hK => ?_) (fun K hK => ?_)
      · go_wp2_with fail
        refine hK.out _ _ ?_ (fun hHeld => ?_)
        · exact hS0
        clear hK K
        (try simp only [Act.put, List.setIfInBounds_toArray, List.set_cons_zero, List.set_cons_succ])
        refine rdI 15 rfl (fun K hK => ?_)
        go_wp2_with fail
        refine hK.out _ _ ?_ (fun hHeld => ?_)
        · exact hS1
        clear hK K
        (try simp only [Act.put, List.setIfInBounds_toArray, List.set_cons_zero, List.set_cons_succ])
        refine rdI 16 rfl (fun K hK => ?_)
        refine wp_run (exec_appI _ _ _ _ (by rfl) (by rfl) (by rfl) (by rfl) (by rfl) (by rfl) r1) ?_
        refine hK.out _ _ ?_ (fun hHeld => ?_)
        · exact hS2
        clear hK K
        (try simp only [Act.put, List.setIfInBounds_toArray, List.set_cons_zero, List.set_cons_succ])
        refine tkI 17 (.pointer (some ⟨p, 0, none⟩)) rfl ?_
        refine tkI 18 (.pointer (some ⟨p, 1, none⟩)) rfl ?_
        refine rdI 19 rfl (fun K hK => ?_)
        go_wp2_with fail
        refine hK.out _ _ ?_ (fun hHeld => ?_)
        · exact hS3
        clear hK K
        (try simp only [Act.put, List.setIfInBounds_toArray, List.set_cons_zero, List.set_cons_succ])
        refine wpAnyH_done (by kernel_rfl) ?_ _
        go_wp2_with fail
        go_ret
        exact ⟨hbl.trans hfin.2, .inl ⟨_, _, _, _, HZ.out, rfl, hfin.1⟩⟩
      · go_wp2_with fail
        refine hK.out _ _ ?_ (fun hHeld => ?_)
        · exact hS1
        clear hK K
        (try simp only [Act.put, List.setIfInBounds_toArray, List.set_cons_zero, List.set_cons_succ])
        change wpAnyH _ _ _ _ _ _ _ _ (w2.drew.alloc (.cells #[.int .i64 a0, .int .i64 a1, .string u] 62))
        generalize w2.drew.alloc (.cells #[.int .i64 a0, .int .i64 a1, .string u] 62) = W3 at *
        refine rdI 4 rfl (fun K hK => ?_)
        go_wp2_with fail
        refine hK.out _ _ ?_ (fun hHeld => ?_)
        · exact hS1
        clear hK K
        (try simp only [Act.put, List.setIfInBounds_toArray, List.set_cons_zero, List.set_cons_succ])
        refine rdI 16 rfl (fun K hK => ?_)
        refine wp_run (exec_appI _ _ _ _ (by rfl) (by rfl) (by rfl) (by rfl) (by rfl) (by rfl) r1) ?_
        refine hK.out _ _ ?_ (fun hHeld => ?_)
        · exact hS2
        clear hK K
        (try simp only [Act.put, List.setIfInBounds_toArray, List.set_cons_zero, List.set_cons_succ])
        refine tkI 17 (.pointer (some ⟨p, 0, none⟩)) rfl ?_
        refine tkI 18 (.pointer (some ⟨p, 1, none⟩)) rfl ?_
        refine rdI 19 rfl (fun K hK => ?_)
        go_wp2_with fail
        refine hK.out _ _ ?_ (fun hHeld => ?_)
        · exact hS3
        clear hK K
        (try simp only [Act.put, List.setIfInBounds_toArray, List.set_cons_zero, List.set_cons_succ])
        refine wpAnyH_done (by kernel_rfl) ?_ _
        go_wp2_with fail
        go_ret
        exact ⟨hbl.trans hfin.2, .inl ⟨_, _, _, _, HZ.out, rfl, hfin.1⟩⟩
    · have o2' : nOk 4 1 (v.data.toList.take 4) = false := by simpa using o2
      have HN : Hid (rT r k.data.toList v.data.toList = none) := (show rT _ _ _ = none from by unfold rT; rw [if_neg (fun hh => o2 hh.2)])
      rw [o1, o2']
      clear k1 k2 o1 o2 o2' h
      go_wp2_with fail
      go_ret
      exact ⟨hb.mono hsz, .inr ⟨HN.out, rfl⟩⟩
  · have o1' : nOk 4 1 k.data.toList = false := by simpa using o1
    have HN : Hid (rT r k.data.toList v.data.toList = none) := (show rT _ _ _ = none from by unfold rT; rw [if_neg (fun hh => o1 hh.1)])
    rw [o1']
    clear k1 k2 o1 o1' h
    go_wp2_with fail
    go_ret
    exact ⟨hb.mono hsz, .inr ⟨HN.out, rfl⟩⟩
set_option maxHeartbeats 2000000 in
set_option maxRecDepth 100000 in
theorem readNext_any (base p : Nat) (v0 v1 v2 : Value) (r : Rm) (k v : ByteArray) (hk : k.size ≤ maxLen) (hv : v.size ≤ maxLen) (w : World) (h : Pt w base p v0 v1 v2 r) :
    Calls Tryz.prog 96 #[.pointer (some ⟨p, 0, none⟩), .string k, .string v] w (RdOut w base p (rX r k.data.toList v.data.toList)) := by
  have hsz : base ≤ w.heap.size := by have := h.lo; have := h.bx.1; omega
  have hkl : k.data.toList.length = k.size := by simp
  go_enter Tryz.func96, Tryz.ntmps96
  go_wp2_with fail
  refine (num42 v w hv).mono ?_
  rintro e w1 ⟨hb1, s1, rfl, k1⟩
  by_cases o0 : k = ⟨#[]⟩
  · subst o0
    by_cases o1 : nOk 4 2 v.data.toList = true
    · obtain ⟨rfl, x1⟩ := k1 o1
      have HZ : Hid (rX r (⟨#[]⟩ : ByteArray).data.toList v.data.toList = some ⟨r.ws, r.ts, r.hs, r.ns, nAt 4 2 v.data.toList 0, nAt 4 2 v.data.toList 1⟩) := (show rX _ _ _ = _ from by unfold rX; rw [if_pos ⟨rfl, o1⟩])
      rw [o1]
      clear k1 o1
      replace x1 : Bx w1 w.heap.size [.int .i64 (nAt 4 2 v.data.toList 0), .int .i64 (nAt 4 2 v.data.toList 1)] := x1
      generalize nAt 4 2 v.data.toList 0 = a0 at *
      generalize nAt 4 2 v.data.toList 1 = a1 at *
      have h1 : Pt w1.drew base p v0 v1 v2 r := (h.below hb1).below (below_drewN (Below.refl _ _) 1)
      have hfin := h1.nx a0 a1
      have hp := h.bx.1
      have hb1' : Below base w _ := ((hb1.drew).mono hsz).trans hfin.2
      have x2 : Bx w1.drew w.heap.size [.int .i64 a0, .int .i64 a1] := x1.below (below_drewN (Below.refl _ _) 1)
      have mkS : ∀ W, Bx W w.heap.size [.int .i64 a0, .int .i64 a1] → (fun w' : World => w'.cell? ⟨w.heap.size, 0, none⟩ = some (.int .i64 a0) ∧ w'.cell? ⟨w.heap.size, 1, none⟩ = some (.int .i64 a1)) W := fun W q => ⟨(q.2 0 _ rfl).1, (q.2 1 _ rfl).1⟩
      have hS0 := mkS w1.drew x2
      have hS1 := mkS (w1.drew.setCell ⟨p, 4, none⟩ (.int .i64 a0)) (x2.other (by omega) 4 _)
      have hS2 := mkS ((w1.drew.setCell ⟨p, 4, none⟩ (.int .i64 a0)).setCell ⟨p, 5, none⟩ (.int .i64 a1)) ((x2.other (by omega) 4 _).other (by omega) 5 _)
      have B1 := h1.bx
      obtain ⟨c4, f4⟩ := B1.2 4 _ rfl
      have B2 := B1.set 4 (.int .i64 a0)
      obtain ⟨c5, f5⟩ := B2.2 5 _ rfl
      have l1 := B1.1
      have l2 := B2.1
      clear mkS h h1 x1 x2 B1 B2 hb1
      go_wp2_with fail
      refine wp_region_held_drew (S := fun w' => w'.cell? ⟨w.heap.size, 0, none⟩ = some (.int .i64 a0) ∧ w'.cell? ⟨w.heap.size, 1, none⟩ = some (.int .i64 a1)) (by kernel_rfl) ?_ (fun hHeld => ?_)
      · exact hS0
      generalize w1.drew = W1 at *
      refine tkI 0 (.pointer (some ⟨p, 0, none⟩)) rfl ?_
      refine tkI 1 (.pointer (some ⟨p, 0, none⟩)) rfl ?_
      refine tkI 2 (.slice (some ⟨w.heap.size, 0, none⟩) 2 2) rfl ?_
      refine tkI 3 (.pointer (some ⟨w.heap.size, 0, none⟩)) rfl ?_
      refine tkJ 4 (.int .i64 a0) rfl (by intro w hSw; (try dsimp only at hSw); obtain ⟨z0, z1⟩ := hSw; go_simp) ?_
      refine tkI 5 (.slice (some ⟨w.heap.size, 0, none⟩) 2 2) rfl ?_
      refine tkI 6 (.pointer (some ⟨w.heap.size, 1, none⟩)) rfl ?_
      refine tkJ 7 (.int .i64 a1) rfl (by intro w hSw; (try dsimp only at hSw); obtain ⟨z0, z1⟩ := hSw; go_simp) ?_
      refine tkI 8 (.pointer (some ⟨p, 0, none⟩)) rfl ?_
      refine tkI 9 (.pointer (some ⟨p, 4, none⟩)) rfl ?_
      refine rdI 10 rfl (fun K hK => ?_)
      go_wp2_with fail
      refine hK.out _ _ ?_ (fun hHeld => ?_)
      · exact hS1
      clear hK K
      (try simp only [Act.put, List.setIfInBounds_toArray, List.set_cons_zero, List.set_cons_succ])
      refine tkI 11 (.pointer (some ⟨p, 0, none⟩)) rfl ?_
      refine tkI 12 (.pointer (some ⟨p, 5, none⟩)) rfl ?_
      refine rdI 13 rfl (fun K hK => ?_)
      go_wp2_with fail
      refine hK.out _ _ ?_ (fun hHeld => ?_)
      · exact hS2
      clear hK K
      (try simp only [Act.put, List.setIfInBounds_toArray, List.set_cons_zero, List.set_cons_succ])
      refine wpAnyH_done (by kernel_rfl) ?_ _
      go_wp2_with fail
      go_ret
      exact ⟨hb1', .inl ⟨_, _, _, _, HZ.out, rfl, hfin.1⟩⟩
    · have o1' : nOk 4 2 v.data.toList = false := by simpa using o1
      have HN : Hid (rX r (⟨#[]⟩ : ByteArray).data.toList v.data.toList = none) := (show rX _ _ _ = none from by unfold rX; rw [if_neg (fun hh => o1 hh.2)])
      rw [o1']
      clear k1 o1 o1' h
      go_wp2_with fail
      go_ret
      exact ⟨hb1.mono hsz, .inr ⟨HN.out, rfl⟩⟩
  · have hne : k.toList.isEmpty = false := by
      rw [toList_data]
      cases hq : k.data.toList with
      | nil => exact absurd (ByteArray.ext (by rw [← Array.toList_inj, hq])) o0
      | cons a b => rfl
    have HN : Hid (rX r k.data.toList v.data.toList = none) := (show rX _ _ _ = none from by
      unfold rX
      rw [if_neg]
      rintro ⟨hh, -⟩
      refine o0 (ByteArray.ext ?_)
      rw [← Array.toList_inj, hh])
    generalize nOk 4 2 v.data.toList = b at *
    clear k1 h o0
    go_wp2_with fail
    go_ret
    exact ⟨hb1.mono hsz, .inr ⟨HN.out, rfl⟩⟩
end Go.Proofs.YtddgpgldbekamaaGreatDoor
set_option linter.unusedVariables false
set_option linter.unusedSimpArgs false
set_option linter.unnecessarySimpa false
namespace Go.Proofs.YtddgpgldbekamaaGreatDoor
open Go.RowKit

theorem RdOut.pre {w w1 w' : World} {base p : Nat} {o : Option Rm} {e : Ending} (hb : Below base w w1) (h : RdOut w1 base p o e w') : RdOut w base p o e w' := ⟨hb.trans h.1, h.2⟩
theorem ext_tail (s : ByteArray) {b : UInt8} {k : List UInt8} (h : s.data.toList = b :: k) : (s.extract 1 s.size).data.toList = k := by
  have hl : s.data.toList.length = s.size := by simp
  rw [ByteArray.data_extract]
  simp only [Array.toList_extract, List.extract_eq_take_drop]
  rw [h, List.length_cons] at hl
  rw [h, List.drop_succ_cons, List.drop_zero, List.take_of_length_le (by omega)]
set_option maxHeartbeats 2000000 in
set_option maxRecDepth 100000 in
theorem read_any (base p : Nat) (v0 v1 v2 : Value) (r : Rm) (c : Ch) (hk : c.key.size ≤ maxLen) (hv : c.val.size ≤ maxLen) (w : World) (h : Pt w base p v0 v1 v2 r) (hl1 : r.hs.length ≤ 1000) (hl2 : r.ts.length ≤ 1000) (hl3 : r.ws.length ≤ 1000) :
    Calls Tryz.prog 49 #[.pointer (some ⟨p, 0, none⟩), .agg #[.string c.key, .string c.val, .bool c.gone]] w (RdOut w base p (rdC r c)) := by
  have hsz : base ≤ w.heap.size := by have := h.lo; have := h.bx.1; omega
  have B0 := Bx.new w [.string c.key, .string c.val, .bool c.gone] 52
  have ba : Below w.heap.size w (w.alloc (.cells #[.string c.key, .string c.val, .bool c.gone] 52)) := (Below.refl _ w).alloc (Nat.le_refl _) _
  have h1 := h.below ba
  have bb := ba.mono hsz
  have hz := B0.1
  obtain ⟨c0, c1, c2⟩ := B0.c3
  have HR : ∀ o, rdC r c = o → Hid (rdC r c = o) := fun _ h => h
  have hrd : rdC r c = (match c.key.data.toList with | [] => none | b :: k => rdK r b k c.val.data.toList) := rfl
  generalize hkv : c.key = kv at *
  generalize hvv : c.val = vv at *
  cases hq : kv.data.toList with
  | nil =>
    have hem : kv.toList.isEmpty = true := by rw [toList_data, hq]; rfl
    have HN := HR none (by rw [hrd, hq])
    clear HR hrd h1 h B0
    go_enter Tryz.func49, Tryz.ntmps49
    go_wp2_with fail
    go_ret
    exact ⟨bb, .inr ⟨HN.out, rfl⟩⟩
  | cons b k =>
    have hem : kv.toList.isEmpty = false := by rw [toList_data, hq]; rfl
    have hex := ext_tail kv hq
    have hlt : 0 < kv.size := by
      have h2 : kv.data.toList.length = kv.size := by simp
      rw [hq, List.length_cons] at h2
      omega
    have hb0 : kv[0] = b := by
      have : kv.data.toList[0]'(by simp; omega) = b := by simp only [hq]; rfl
      rw [← this]; simp [ByteArray.getElem_eq_getElem_data]
    have HES : Hid ((kv.extract 1 kv.size).size ≤ maxLen) := (show (kv.extract 1 kv.size).size ≤ maxLen from by rw [ByteArray.size_extract]; omega)
    have HRD : Hid (rdC r c = rdK r b k vv.data.toList) := (show rdC r c = _ from by rw [hrd, hq])
    clear hrd HR B0 h hq
    by_cases e0 : b = 104
    · subst e0
      have HN : Hid (rdC r c = rH r k vv.data.toList) := (show rdC r c = _ from by rw [HRD.out]; unfold rdK; rw [if_pos rfl])
      have hcon := readHeld_any base p v0 v1 v2 r (kv.extract 1 kv.size) vv HES.out hv _ h1 hl1
      rw [hex] at hcon
      clear hex h1
      go_enter Tryz.func49, Tryz.ntmps49
      go_wp2_with fail
      refine hcon.mono ?_
      rintro e w2 ⟨hb2, ⟨z, u0, u1, u2, q1, rfl, q2⟩ | ⟨q1, rfl⟩⟩
      · clear hcon
        have Q : Hid (rdC r c = some z) := HN.out.trans q1
        clear q1 HN HRD
        go_wp2_with fail
        go_ret
        exact ⟨bb.trans hb2, .inl ⟨z, u0, u1, u2, Q.out, rfl, q2⟩⟩
      · clear hcon
        have Q : Hid (rdC r c = none) := HN.out.trans q1
        clear q1 HN HRD
        go_wp2_with fail
        go_ret
        exact ⟨bb.trans hb2, .inr ⟨Q.out, rfl⟩⟩
    by_cases e1 : b = 116
    · subst e1
      have HN : Hid (rdC r c = rT r k vv.data.toList) := (show rdC r c = _ from by rw [HRD.out]; unfold rdK; rw [if_neg (by decide), if_pos rfl])
      have hcon := readThing_any base p v0 v1 v2 r (kv.extract 1 kv.size) vv HES.out hv _ h1 hl2
      rw [hex] at hcon
      clear hex h1
      go_enter Tryz.func49, Tryz.ntmps49
      go_wp2_with fail
      refine hcon.mono ?_
      rintro e w2 ⟨hb2, ⟨z, u0, u1, u2, q1, rfl, q2⟩ | ⟨q1, rfl⟩⟩
      · clear hcon
        have Q : Hid (rdC r c = some z) := HN.out.trans q1
        clear q1 HN HRD
        go_wp2_with fail
        go_ret
        exact ⟨bb.trans hb2, .inl ⟨z, u0, u1, u2, Q.out, rfl, q2⟩⟩
      · clear hcon
        have Q : Hid (rdC r c = none) := HN.out.trans q1
        clear q1 HN HRD
        go_wp2_with fail
        go_ret
        exact ⟨bb.trans hb2, .inr ⟨Q.out, rfl⟩⟩
    by_cases e2 : b = 119
    · subst e2
      have HN : Hid (rdC r c = rW r k vv.data.toList) := (show rdC r c = _ from by rw [HRD.out]; unfold rdK; rw [if_neg (by decide), if_neg (by decide), if_pos rfl])
      have hcon := readWrit_any base p v0 v1 v2 r (kv.extract 1 kv.size) vv HES.out hv _ h1 hl3
      rw [hex] at hcon
      clear hex h1
      go_enter Tryz.func49, Tryz.ntmps49
      go_wp2_with fail
      refine hcon.mono ?_
      rintro e w2 ⟨hb2, ⟨z, u0, u1, u2, q1, rfl, q2⟩ | ⟨q1, rfl⟩⟩
      · clear hcon
        have Q : Hid (rdC r c = some z) := HN.out.trans q1
        clear q1 HN HRD
        go_wp2_with fail
        go_ret
        exact ⟨bb.trans hb2, .inl ⟨z, u0, u1, u2, Q.out, rfl, q2⟩⟩
      · clear hcon
        have Q : Hid (rdC r c = none) := HN.out.trans q1
        clear q1 HN HRD
        go_wp2_with fail
        go_ret
        exact ⟨bb.trans hb2, .inr ⟨Q.out, rfl⟩⟩
    by_cases e3 : b = 120
    · subst e3
      have HN : Hid (rdC r c = rX r k vv.data.toList) := (show rdC r c = _ from by rw [HRD.out]; unfold rdK; rw [if_neg (by decide), if_neg (by decide), if_neg (by decide), if_pos rfl])
      have hcon := readNext_any base p v0 v1 v2 r (kv.extract 1 kv.size) vv HES.out hv _ h1
      rw [hex] at hcon
      clear hex h1
      go_enter Tryz.func49, Tryz.ntmps49
      go_wp2_with fail
      refine hcon.mono ?_
      rintro e w2 ⟨hb2, ⟨z, u0, u1, u2, q1, rfl, q2⟩ | ⟨q1, rfl⟩⟩
      · clear hcon
        have Q : Hid (rdC r c = some z) := HN.out.trans q1
        clear q1 HN HRD
        go_wp2_with fail
        go_ret
        exact ⟨bb.trans hb2, .inl ⟨z, u0, u1, u2, Q.out, rfl, q2⟩⟩
      · clear hcon
        have Q : Hid (rdC r c = none) := HN.out.trans q1
        clear q1 HN HRD
        go_wp2_with fail
        go_ret
        exact ⟨bb.trans hb2, .inr ⟨Q.out, rfl⟩⟩
    have HN : Hid (rdC r c = none) := (show rdC r c = _ from by rw [HRD.out]; unfold rdK; rw [if_neg e0, if_neg e1, if_neg e2, if_neg e3])
    have m0 : ¬ b.toNat = 104 := fun e => e0 (UInt8.toNat_inj.1 e)
    have m1 : ¬ b.toNat = 116 := fun e => e1 (UInt8.toNat_inj.1 e)
    have m2 : ¬ b.toNat = 119 := fun e => e2 (UInt8.toNat_inj.1 e)
    have m3 : ¬ b.toNat = 120 := fun e => e3 (UInt8.toNat_inj.1 e)
    have d0 : ((b.toNat : Int) == 104) = false := by rw [beq_eq_false_iff_ne]; omega
    have d1 : ((b.toNat : Int) == 116) = false := by rw [beq_eq_false_iff_ne]; omega
    have d2 : ((b.toNat : Int) == 119) = false := by rw [beq_eq_false_iff_ne]; omega
    have d3 : ((b.toNat : Int) == 120) = false := by rw [beq_eq_false_iff_ne]; omega
    clear hex h1 HRD e0 e1 e2 e3
    go_enter Tryz.func49, Tryz.ntmps49
    go_wp2_with fail
    go_ret
    exact ⟨bb, .inr ⟨HN.out, rfl⟩⟩
end Go.Proofs.YtddgpgldbekamaaGreatDoor
