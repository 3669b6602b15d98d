/- Any act by its record; a realm that has grown by acts (grown); the closed fact (made). -/
/- A realm that has grown by acts is whole. -/
import Derived.Test.YtddgpgldbekamaaGreatDoW
import Derived.Test.YtddgpgldbekamaaGreatLightW
import Derived.Test.YtddgpgldbekamaaGreatRealmTops2
set_option linter.unusedSimpArgs false
set_option linter.unnecessarySimpa false
set_option linter.unusedVariables false
namespace Go.Proofs.YtddgpgldbekamaaGreat
open Go.RowKit


/-- what an act is: its error's number, what becomes of the realm -/
def doC (r : Rm) (x : Ac) : Int :=
  if (x.kd.toList == [109, 97, 107, 101]) = true then makeC r x.ph x.ps x.aa else if (x.kd.toList == [103, 105, 118, 101]) = true then giveC r x.ph x.ps x.qh x.qs x.aa x.bb else if (x.kd.toList == [109, 111, 118, 101]) = true then moveC r x.ph x.ps x.aa else
  if (x.kd.toList == [100, 114, 111, 112]) = true then dropC r x.ph x.ps else if (x.kd.toList == [114, 101, 118, 111, 107, 101]) = true then dropC r x.ph x.ps else if (x.kd.toList == [119, 114, 105, 116, 101]) = true then writeC r x.ph x.ps x.sd else
  if (x.kd.toList == [115, 101, 110, 100]) = true then sendC r x.ph x.ps x.sd x.aa x.bb else if (x.kd.toList == [116, 97, 107, 101]) = true then takeC r x.ph x.ps else 0
def doR (r : Rm) (x : Ac) : Rm :=
  if (x.kd.toList == [109, 97, 107, 101]) = true then makeR r x.ph x.ps x.aa else if (x.kd.toList == [103, 105, 118, 101]) = true then giveR r x.ph x.ps x.qh x.qs x.aa x.bb else if (x.kd.toList == [109, 111, 118, 101]) = true then moveR r x.ph x.ps x.aa else
  if (x.kd.toList == [100, 114, 111, 112]) = true then dropR r x.ph x.ps else if (x.kd.toList == [114, 101, 118, 111, 107, 101]) = true then revokeR r x.ph x.ps else if (x.kd.toList == [119, 114, 105, 116, 101]) = true then writeR r x.ph x.ps x.sd else
  if (x.kd.toList == [115, 101, 110, 100]) = true then sendR r x.ph x.ps x.sd x.aa x.bb else if (x.kd.toList == [116, 97, 107, 101]) = true then takeR r x.ph x.ps else r
theorem inv_do {k : Nat} {r : Rm} {x : Ac} (hi : InvK k r) (hc : doC r x = 0) : InvK (k + 1) (doR r x) := by
  unfold doC at hc
  unfold doR
  split at hc
  · rw [if_pos ‹_›]; exact inv_make hi hc
  · rw [if_neg ‹_›]
    split at hc
    · rw [if_pos ‹_›]; exact inv_give hi hc
    · rw [if_neg ‹_›]
      split at hc
      · rw [if_pos ‹_›]; exact inv_move hi hc
      · rw [if_neg ‹_›]
        split at hc
        · rw [if_pos ‹_›]; exact inv_drop hi _ _
        · rw [if_neg ‹_›]
          split at hc
          · rw [if_pos ‹_›]; exact inv_revoke hi _ _
          · rw [if_neg ‹_›]
            split at hc
            · rw [if_pos ‹_›]; exact inv_write hi _ _ _
            · rw [if_neg ‹_›]
              split at hc
              · rw [if_pos ‹_›]; exact inv_send hi hc
              · rw [if_neg ‹_›]
                split at hc
                · rw [if_pos ‹_›]; exact inv_take hi hc
                · rw [if_neg ‹_›]; exact hi.mono (by omega)
/-- an act's answer, or the realm itself (an act of no kind) -/
def DoP (aw at_ ah an : Option Addr) (cw ct ch cn : Nat) (r : Rm) (base : Nat) (x : Ac) (w : World) (a0 a1 a2 a3 : Option Addr) (n0 n1 n2 n3 c0 c1 c2 c3 : Nat) (m n : Int) (ev : Value) : Prop :=
  ActP 69 base (doC r x) (doR r x) w a0 a1 a2 a3 n0 n1 n2 n3 c0 c1 c2 c3 m n ev ∨
  (doC r x = 0 ∧ doR r x = r ∧ ev = .nilIface ∧ a0 = aw ∧ a1 = at_ ∧ a2 = ah ∧ a3 = an ∧ n0 = r.ws.length ∧ n1 = r.ts.length ∧ n2 = r.hs.length ∧ n3 = r.ns.length ∧ c0 = cw ∧ c1 = ct ∧ c2 = ch ∧ c3 = cn ∧ m = r.nw ∧ n = r.nt ∧ RmAt w aw at_ ah an cw ct ch cn r)
theorem do_any (aw at_ ah an : Option Addr) (cw ct ch cn : Nat) (r : Rm) (x : Ac) (w : World) (hr : RmAt w aw at_ ah an cw ct ch cn r) (hI : RmI r) (hsd : x.sd.size ≤ maxLen) :
    Calls Tryz.prog 19 #[.agg #[.slice aw r.ws.length cw, .slice at_ r.ts.length ct, .slice ah r.hs.length ch, .slice an r.ns.length cn, .int .i64 r.nw, .int .i64 r.nt], .agg #[.string x.kd, .string x.sd, .int .i64 x.ph, .int .i64 x.ps, .int .i64 x.qh, .int .i64 x.qs, .int .i64 x.aa, .int .i64 x.bb, .int .i64 x.nn, .int .u64 x.kk, .slice x.xc x.lc x.cc]] w fun e w' => ∃ (a0 a1 a2 a3 : Option Addr) (n0 n1 n2 n3 c0 c1 c2 c3 : Nat) (m n : Int) (ev : Value), e = .returned (.tuple #[.agg #[.slice a0 n0 c0, .slice a1 n1 c1, .slice a2 n2 c2, .slice a3 n3 c3, .int .i64 m, .int .i64 n], ev]) ∧ DoP aw at_ ah an cw ct ch cn r w.heap.size x w' a0 a1 a2 a3 n0 n1 n2 n3 c0 c1 c2 c3 m n ev ∧ Below w.heap.size w w' := by
  have fin : ∀ {C : Int} {R : Rm}, doC r x = C → doR r x = R → (Calls Tryz.prog 19 #[.agg #[.slice aw r.ws.length cw, .slice at_ r.ts.length ct, .slice ah r.hs.length ch, .slice an r.ns.length cn, .int .i64 r.nw, .int .i64 r.nt], .agg #[.string x.kd, .string x.sd, .int .i64 x.ph, .int .i64 x.ps, .int .i64 x.qh, .int .i64 x.qs, .int .i64 x.aa, .int .i64 x.bb, .int .i64 x.nn, .int .u64 x.kk, .slice x.xc x.lc x.cc]] w fun e w' => ∃ (a0 a1 a2 a3 : Option Addr) (n0 n1 n2 n3 c0 c1 c2 c3 : Nat) (m n : Int) (ev : Value), e = .returned (.tuple #[.agg #[.slice a0 n0 c0, .slice a1 n1 c1, .slice a2 n2 c2, .slice a3 n3 c3, .int .i64 m, .int .i64 n], ev]) ∧ ActP 69 w.heap.size C R w' a0 a1 a2 a3 n0 n1 n2 n3 c0 c1 c2 c3 m n ev ∧ Below w.heap.size w w') → Calls Tryz.prog 19 #[.agg #[.slice aw r.ws.length cw, .slice at_ r.ts.length ct, .slice ah r.hs.length ch, .slice an r.ns.length cn, .int .i64 r.nw, .int .i64 r.nt], .agg #[.string x.kd, .string x.sd, .int .i64 x.ph, .int .i64 x.ps, .int .i64 x.qh, .int .i64 x.qs, .int .i64 x.aa, .int .i64 x.bb, .int .i64 x.nn, .int .u64 x.kk, .slice x.xc x.lc x.cc]] w fun e w' => ∃ (a0 a1 a2 a3 : Option Addr) (n0 n1 n2 n3 c0 c1 c2 c3 : Nat) (m n : Int) (ev : Value), e = .returned (.tuple #[.agg #[.slice a0 n0 c0, .slice a1 n1 c1, .slice a2 n2 c2, .slice a3 n3 c3, .int .i64 m, .int .i64 n], ev]) ∧ DoP aw at_ ah an cw ct ch cn r w.heap.size x w' a0 a1 a2 a3 n0 n1 n2 n3 c0 c1 c2 c3 m n ev ∧ Below w.heap.size w w' := by
    intro C R h1 h2 h
    refine h.mono ?_
    rintro e w1 ⟨a0, a1, a2, a3, n0, n1, n2, n3, c0, c1, c2, c3, m, n, ev, rfl, hA, hb⟩
    subst h1
    subst h2
    exact ⟨a0, a1, a2, a3, n0, n1, n2, n3, c0, c1, c2, c3, m, n, ev, rfl, .inl hA, hb⟩
  cases k0 : (x.kd.toList == [109, 97, 107, 101]) with
  | true => exact fin (by unfold doC; rw [if_pos k0]) (by unfold doR; rw [if_pos k0]) (do_make aw at_ ah an cw ct ch cn r x.kd x.sd x.ph x.ps x.qh x.qs x.aa x.bb x.nn x.kk x.xc x.lc x.cc w hr hI hsd k0)
  | false =>
    cases k1 : (x.kd.toList == [103, 105, 118, 101]) with
    | true => exact fin (by unfold doC; rw [if_neg (by simp [k0]), if_pos k1]) (by unfold doR; rw [if_neg (by simp [k0]), if_pos k1]) (do_give aw at_ ah an cw ct ch cn r x.kd x.sd x.ph x.ps x.qh x.qs x.aa x.bb x.nn x.kk x.xc x.lc x.cc w hr hI hsd k0 k1)
    | false =>
      cases k2 : (x.kd.toList == [109, 111, 118, 101]) with
      | true => exact fin (by unfold doC; rw [if_neg (by simp [k0]), if_neg (by simp [k1]), if_pos k2]) (by unfold doR; rw [if_neg (by simp [k0]), if_neg (by simp [k1]), if_pos k2]) (do_move aw at_ ah an cw ct ch cn r x.kd x.sd x.ph x.ps x.qh x.qs x.aa x.bb x.nn x.kk x.xc x.lc x.cc w hr hI hsd k0 k1 k2)
      | false =>
        cases k3 : (x.kd.toList == [100, 114, 111, 112]) with
        | true => exact fin (by unfold doC; rw [if_neg (by simp [k0]), if_neg (by simp [k1]), if_neg (by simp [k2]), if_pos k3]) (by unfold doR; rw [if_neg (by simp [k0]), if_neg (by simp [k1]), if_neg (by simp [k2]), if_pos k3]) (do_drop aw at_ ah an cw ct ch cn r x.kd x.sd x.ph x.ps x.qh x.qs x.aa x.bb x.nn x.kk x.xc x.lc x.cc w hr hI hsd k0 k1 k2 k3)
        | false =>
          cases k4 : (x.kd.toList == [114, 101, 118, 111, 107, 101]) with
          | true => exact fin (by unfold doC; rw [if_neg (by simp [k0]), if_neg (by simp [k1]), if_neg (by simp [k2]), if_neg (by simp [k3]), if_pos k4]) (by unfold doR; rw [if_neg (by simp [k0]), if_neg (by simp [k1]), if_neg (by simp [k2]), if_neg (by simp [k3]), if_pos k4]) (do_revoke aw at_ ah an cw ct ch cn r x.kd x.sd x.ph x.ps x.qh x.qs x.aa x.bb x.nn x.kk x.xc x.lc x.cc w hr hI hsd k0 k1 k2 k3 k4)
          | false =>
            cases k5 : (x.kd.toList == [119, 114, 105, 116, 101]) with
            | true => exact fin (by unfold doC; rw [if_neg (by simp [k0]), if_neg (by simp [k1]), if_neg (by simp [k2]), if_neg (by simp [k3]), if_neg (by simp [k4]), if_pos k5]) (by unfold doR; rw [if_neg (by simp [k0]), if_neg (by simp [k1]), if_neg (by simp [k2]), if_neg (by simp [k3]), if_neg (by simp [k4]), if_pos k5]) (do_write aw at_ ah an cw ct ch cn r x.kd x.sd x.ph x.ps x.qh x.qs x.aa x.bb x.nn x.kk x.xc x.lc x.cc w hr hI hsd k0 k1 k2 k3 k4 k5)
            | false =>
              cases k6 : (x.kd.toList == [115, 101, 110, 100]) with
              | true => exact fin (by unfold doC; rw [if_neg (by simp [k0]), if_neg (by simp [k1]), if_neg (by simp [k2]), if_neg (by simp [k3]), if_neg (by simp [k4]), if_neg (by simp [k5]), if_pos k6]) (by unfold doR; rw [if_neg (by simp [k0]), if_neg (by simp [k1]), if_neg (by simp [k2]), if_neg (by simp [k3]), if_neg (by simp [k4]), if_neg (by simp [k5]), if_pos k6]) (do_send aw at_ ah an cw ct ch cn r x.kd x.sd x.ph x.ps x.qh x.qs x.aa x.bb x.nn x.kk x.xc x.lc x.cc w hr hI hsd k0 k1 k2 k3 k4 k5 k6)
              | false =>
                cases k7 : (x.kd.toList == [116, 97, 107, 101]) with
                | true => exact fin (by unfold doC; rw [if_neg (by simp [k0]), if_neg (by simp [k1]), if_neg (by simp [k2]), if_neg (by simp [k3]), if_neg (by simp [k4]), if_neg (by simp [k5]), if_neg (by simp [k6]), if_pos k7]) (by unfold doR; rw [if_neg (by simp [k0]), if_neg (by simp [k1]), if_neg (by simp [k2]), if_neg (by simp [k3]), if_neg (by simp [k4]), if_neg (by simp [k5]), if_neg (by simp [k6]), if_pos k7]) (do_take aw at_ ah an cw ct ch cn r x.kd x.sd x.ph x.ps x.qh x.qs x.aa x.bb x.nn x.kk x.xc x.lc x.cc w hr hI k0 k1 k2 k3 k4 k5 k6 k7)
                | false =>
                  refine (do_none aw at_ ah an cw ct ch cn r x.kd x.sd x.ph x.ps x.qh x.qs x.aa x.bb x.nn x.kk x.xc x.lc x.cc w k0 k1 k2 k3 k4 k5 k6 k7).mono ?_
                  rintro e w1 ⟨rfl, hb⟩
                  exact ⟨aw, at_, ah, an, _, _, _, _, cw, ct, ch, cn, _, _, _, rfl, .inr ⟨by unfold doC; rw [if_neg (by simp [k0]), if_neg (by simp [k1]), if_neg (by simp [k2]), if_neg (by simp [k3]), if_neg (by simp [k4]), if_neg (by simp [k5]), if_neg (by simp [k6]), if_neg (by simp [k7])], by unfold doR; rw [if_neg (by simp [k0]), if_neg (by simp [k1]), if_neg (by simp [k2]), if_neg (by simp [k3]), if_neg (by simp [k4]), if_neg (by simp [k5]), if_neg (by simp [k6]), if_neg (by simp [k7])], rfl, rfl, rfl, rfl, rfl, rfl, rfl, rfl, rfl, rfl, rfl, rfl, rfl, rfl, rfl, hr.below hb⟩, hb⟩
theorem new_any (w : World) : Calls Tryz.prog 6 #[] w fun e w' => e = .returned (.agg #[.slice none 0 0, .slice none 0 0, .slice none 0 0, .slice none 0 0, .int .i64 1, .int .i64 1]) ∧ Below w.heap.size w w' := by
  go_enter Tryz.func6, Tryz.ntmps6
  go_wp2
  exact bodyPost_ret (v := .agg #[.slice none 0 0, .slice none 0 0, .slice none 0 0, .slice none 0 0, .int .i64 1, .int .i64 1]) (by simp [results, Tryz.results6, go_sem]) rfl ⟨rfl, (Below.refl _ _).alloc (Nat.le_refl _) _⟩
def rm0 : Rm := ⟨[], [], [], [], 1, 1⟩
def stepR (r : Rm) (x : Ac) : Rm := if doC r x = 0 then doR r x else r
def growR (l : List Ac) : Rm := l.foldl stepR rm0
theorem inv_step {k : Nat} {r : Rm} (x : Ac) (hi : InvK k r) : InvK (k + 1) (stepR r x) := by
  unfold stepR
  split
  · exact inv_do hi ‹_›
  · exact hi.mono (by omega)
theorem grow_snoc (l : List Ac) (k : Nat) (x : Ac) (h : l[k]? = some x) : growR (l.take (k + 1)) = stepR (growR (l.take k)) x := by
  unfold growR
  rw [List.take_add_one, h, List.foldl_append]; rfl
theorem inv_grow (l : List Ac) : ∀ k, k ≤ l.length → InvK k (growR (l.take k))
  | 0, _ => by simpa [growR, rm0] using inv_new
  | k + 1, h => by
    have hx : l[k]? = some l[k] := List.getElem?_eq_getElem (by omega)
    rw [grow_snoc l k _ hx]
    exact inv_step _ (inv_grow l k (by omega))
theorem RmAt.setB {w : World} {n m b : Nat} {aw at_ ah an : Option Addr} {cw ct ch cn : Nat} {r : Rm} (h : RmAt w aw at_ ah an cw ct ch cn r) (o0 : OffA n m aw) (o1 : OffA n m at_) (o2 : OffA n m ah) (o3 : OffA n m an) (hb : Boxy n m b) (j : Nat) (u : Value) : RmAt (w.setCell ⟨b, j, none⟩ u) aw at_ ah an cw ct ch cn r :=
  ⟨h.w.setOff (.inr o0) hb j u, h.t.setOff (.inr o1) hb j u, h.h.setOff (.inr o2) hb j u, h.n.setOff (.inr o3) hb j u, h.fw, h.ft, h.fh, h.fn⟩
theorem RmAt.setB6 {w : World} {n m b : Nat} {aw at_ ah an : Option Addr} {cw ct ch cn : Nat} {r : Rm} (h : RmAt w aw at_ ah an cw ct ch cn r) (o0 : OffA n m aw) (o1 : OffA n m at_) (o2 : OffA n m ah) (o3 : OffA n m an) (hb : Boxy n m b) (x0 x1 x2 x3 x4 x5 : Value) :
    RmAt ((((((w.setCell ⟨b, 0, none⟩ x0).setCell ⟨b, 1, none⟩ x1).setCell ⟨b, 2, none⟩ x2).setCell ⟨b, 3, none⟩ x3).setCell ⟨b, 4, none⟩ x4).setCell ⟨b, 5, none⟩ x5) aw at_ ah an cw ct ch cn r :=
  (((((h.setB o0 o1 o2 o3 hb 0 x0).setB o0 o1 o2 o3 hb 1 x1).setB o0 o1 o2 o3 hb 2 x2).setB o0 o1 o2 o3 hb 3 x3).setB o0 o1 o2 o3 hb 4 x4).setB o0 o1 o2 o3 hb 5 x5
end Go.Proofs.YtddgpgldbekamaaGreat
set_option linter.unusedVariables false
namespace Go.Proofs.YtddgpgldbekamaaGreat
open Go.RowKit

theorem whole_do {r : Rm} {x : Ac} (hi : Whole r) (hc : doC r x = 0) : Whole (doR r x) := by
  unfold doC at hc
  unfold doR
  split at hc
  · rw [if_pos ‹_›]; exact whole_make hi hc
  · rw [if_neg ‹_›]
    split at hc
    · rw [if_pos ‹_›]; exact whole_give hi hc
    · rw [if_neg ‹_›]
      split at hc
      · rw [if_pos ‹_›]; exact whole_move hi hc
      · rw [if_neg ‹_›]
        split at hc
        · rw [if_pos ‹_›]; exact whole_drop hi _ _
        · rw [if_neg ‹_›]
          split at hc
          · rw [if_pos ‹_›]; exact whole_revoke hi _ _
          · rw [if_neg ‹_›]
            split at hc
            · rw [if_pos ‹_›]; exact whole_write hi hc
            · rw [if_neg ‹_›]
              split at hc
              · rw [if_pos ‹_›]; exact whole_send hi hc
              · rw [if_neg ‹_›]
                split at hc
                · rw [if_pos ‹_›]; exact whole_take hi hc
                · rw [if_neg ‹_›]; exact hi
theorem whole_step {r : Rm} (x : Ac) (h : Whole r) : Whole (stepR r x) := by
  unfold stepR
  split
  · exact whole_do h ‹_›
  · exact h
theorem whole_foldl (l : List Ac) : ∀ {r : Rm}, Whole r → Whole (l.foldl stepR r) := by
  induction l with
  | nil => intro r h; exact h
  | cons x l ih => intro r h; exact ih (whole_step x h)
theorem whole_grow (l : List Ac) : Whole (growR l) := whole_foldl l whole_new
end Go.Proofs.YtddgpgldbekamaaGreat
