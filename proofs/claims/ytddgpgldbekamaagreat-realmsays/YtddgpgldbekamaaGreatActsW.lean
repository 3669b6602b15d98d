/- What every act on a realm answers, in one shape: its error's number, or the new realm (E2 to E9). -/
import Derived.Test.YtddgpgldbekamaaGreatDropW
import Derived.Test.YtddgpgldbekamaaGreatGiveW
import Derived.Test.YtddgpgldbekamaaGreatMoveW
import Derived.Test.YtddgpgldbekamaaGreatWriteW
import Derived.Test.YtddgpgldbekamaaGreatSendW
import Derived.Test.YtddgpgldbekamaaGreatTakeB
set_option linter.unusedSimpArgs false
set_option linter.unnecessarySimpa false
set_option linter.unusedVariables false
namespace Go.Proofs.YtddgpgldbekamaaGreat
open Go.RowKit


/-- an act's answer: a realm, in memory of its own, and no error; or an error, and nothing -/
def ActP (E : TypeId) (base : Nat) (C : Int) (r : Rm) (w : World) (a0 a1 a2 a3 : Option Addr) (n0 n1 n2 n3 c0 c1 c2 c3 : Nat) (m n : Int) (ev : Value) : Prop :=
  (C = 0 ∧ ev = .nilIface ∧ n0 = r.ws.length ∧ n1 = r.ts.length ∧ n2 = r.hs.length ∧ n3 = r.ns.length ∧ m = r.nw ∧ n = r.nt ∧ RmAt w a0 a1 a2 a3 c0 c1 c2 c3 r ∧ HiA base a0 ∧ HiA base a1 ∧ HiA base a2 ∧ HiA base a3) ∨
  (C ≠ 0 ∧ ev = .iface E (.int .i64 C) ∧ a0 = none ∧ a1 = none ∧ a2 = none ∧ a3 = none ∧ n0 = 0 ∧ n1 = 0 ∧ n2 = 0 ∧ n3 = 0 ∧ c0 = 0 ∧ c1 = 0 ∧ c2 = 0 ∧ c3 = 0 ∧ m = 0 ∧ n = 0)
theorem act_err {f : Nat} {args : Array Value} {w : World} {C C' : Int} {r : Rm} (h : Calls Tryz.prog f args w fun e w' => e = .returned (.tuple #[.agg #[.slice none 0 0, .slice none 0 0, .slice none 0 0, .slice none 0 0, .int .i64 0, .int .i64 0], .iface 69 (.int .i64 C')]) ∧ Below w.heap.size w w') (hC : C = C') (hne : C' ≠ 0) :
    Calls Tryz.prog f args w fun e w' => ∃ (a0 a1 a2 a3 : Option Addr) (n0 n1 n2 n3 c0 c1 c2 c3 : Nat) (m n : Int) (ev : Value), e = .returned (.tuple #[.agg #[.slice a0 n0 c0, .slice a1 n1 c1, .slice a2 n2 c2, .slice a3 n3 c3, .int .i64 m, .int .i64 n], ev]) ∧ ActP 69 w.heap.size C r w' a0 a1 a2 a3 n0 n1 n2 n3 c0 c1 c2 c3 m n ev ∧ Below w.heap.size w w' := by
  refine h.mono ?_
  rintro e w1 ⟨rfl, hb⟩
  subst hC
  exact ⟨none, none, none, none, 0, 0, 0, 0, 0, 0, 0, 0, 0, 0, _, rfl, .inr ⟨hne, rfl, rfl, rfl, rfl, rfl, rfl, rfl, rfl, rfl, rfl, rfl, rfl, rfl, rfl, rfl⟩, hb⟩
theorem act_own {f : Nat} {args : Array Value} {w : World} {C : Int} {r : Rm} {m n : Int} (h : Calls Tryz.prog f args w fun e w' => ∃ v0 v1 v2 v3, e = .returned (.tuple #[.agg #[v0, v1, v2, v3, .int .i64 m, .int .i64 n], .nilIface]) ∧ OwnsR w' w.heap.size v0 v1 v2 v3 r ∧ Below w.heap.size w w') (hC : C = 0) (hm : m = r.nw) (hn : n = r.nt) :
    Calls Tryz.prog f args w fun e w' => ∃ (a0 a1 a2 a3 : Option Addr) (n0 n1 n2 n3 c0 c1 c2 c3 : Nat) (m n : Int) (ev : Value), e = .returned (.tuple #[.agg #[.slice a0 n0 c0, .slice a1 n1 c1, .slice a2 n2 c2, .slice a3 n3 c3, .int .i64 m, .int .i64 n], ev]) ∧ ActP 69 w.heap.size C r w' a0 a1 a2 a3 n0 n1 n2 n3 c0 c1 c2 c3 m n ev ∧ Below w.heap.size w w' := by
  refine h.mono ?_
  rintro e w1 ⟨v0, v1, v2, v3, rfl, hO, hb⟩
  obtain ⟨b0, b1, b2, b3, d0, d1, d2, d3, rfl, rfl, rfl, rfl, hat⟩ := hO.at
  exact ⟨b0, b1, b2, b3, _, _, _, _, d0, d1, d2, d3, m, n, _, rfl, .inl ⟨hC, rfl, rfl, rfl, rfl, rfl, hm, hn, hat, hi_of_row hO.rw_, hi_of_row hO.rt, hi_of_row hO.rh, hi_of_row hO.rn⟩, hb⟩
theorem act_rm {f : Nat} {args : Array Value} {w : World} {C : Int} {r : Rm} {m n : Int} (h : Calls Tryz.prog f args w fun e w' => ∃ b0 b1 b2 b3 d0 d1 d2 d3, e = .returned (.tuple #[.agg #[.slice b0 r.ws.length d0, .slice b1 r.ts.length d1, .slice b2 r.hs.length d2, .slice b3 r.ns.length d3, .int .i64 m, .int .i64 n], .nilIface]) ∧ RmAt w' b0 b1 b2 b3 d0 d1 d2 d3 r ∧ (HiA w.heap.size b0 ∧ HiA w.heap.size b1 ∧ HiA w.heap.size b2 ∧ HiA w.heap.size b3) ∧ Below w.heap.size w w') (hC : C = 0) (hm : m = r.nw) (hn : n = r.nt) :
    Calls Tryz.prog f args w fun e w' => ∃ (a0 a1 a2 a3 : Option Addr) (n0 n1 n2 n3 c0 c1 c2 c3 : Nat) (m n : Int) (ev : Value), e = .returned (.tuple #[.agg #[.slice a0 n0 c0, .slice a1 n1 c1, .slice a2 n2 c2, .slice a3 n3 c3, .int .i64 m, .int .i64 n], ev]) ∧ ActP 69 w.heap.size C r w' a0 a1 a2 a3 n0 n1 n2 n3 c0 c1 c2 c3 m n ev ∧ Below w.heap.size w w' := by
  refine h.mono ?_
  rintro e w1 ⟨b0, b1, b2, b3, d0, d1, d2, d3, rfl, hat, ⟨i0, i1, i2, i3⟩, hb⟩
  exact ⟨b0, b1, b2, b3, _, _, _, _, d0, d1, d2, d3, m, n, _, rfl, .inl ⟨hC, rfl, rfl, rfl, rfl, rfl, hm, hn, hat, i0, i1, i2, i3⟩, hb⟩
def dropC (r : Rm) (h s : Int) : Int := getC r h s
/-- what the walks ask of a realm besides its size -/
structure RmI (r : Rm) : Prop where
  sz : RmSz r
  put : ∀ h s : Int, (putL r.hs h s 0).length ≤ 100
  wf : ∀ x ∈ r.ws, (Lit.int .i64 x.id).wf = true ∧ (Lit.int .i64 x.frm).wf = true
theorem act_make (aw at_ ah an : Option Addr) (cw ct ch cn : Nat) (r : Rm) (h s kind : Int) (w : World) (hr : RmAt w aw at_ ah an cw ct ch cn r) (hI : RmI r) :
    Calls Tryz.prog 21 #[.agg #[.slice aw r.ws.length cw, .slice at_ r.ts.length ct, .slice ah r.hs.length ch, .slice an r.ns.length cn, .int .i64 r.nw, .int .i64 r.nt], .agg #[.int .i64 h, .int .i64 s], .int .i64 kind] w fun e w' => ∃ (a0 a1 a2 a3 : Option Addr) (n0 n1 n2 n3 c0 c1 c2 c3 : Nat) (m n : Int) (ev : Value), e = .returned (.tuple #[.agg #[.slice a0 n0 c0, .slice a1 n1 c1, .slice a2 n2 c2, .slice a3 n3 c3, .int .i64 m, .int .i64 n], ev]) ∧ ActP 69 w.heap.size (makeC r h s kind) (makeR r h s kind) w' a0 a1 a2 a3 n0 n1 n2 n3 c0 c1 c2 c3 m n ev ∧ Below w.heap.size w w' := by
  have hz := hI.sz
  by_cases hk : kind = 1 ∨ kind = 2
  · by_cases hf : freeC r h s = 0
    · by_cases hx : 10 ≤ (r.ts.length : Int) ∨ 999 < r.nt ∨ 999 < r.nw
      · have e : makeC r h s kind = 9 := by unfold makeC; rw [if_neg (by omega), if_neg (by simp [hf]), if_pos hx]
        by_cases h1 : 10 ≤ (r.ts.length : Int)
        · exact act_err (make_fulla aw at_ ah an cw ct ch cn r h s kind w hr hz hk hf h1) e (by decide)
        · by_cases h2 : 999 < r.nt
          · exact act_err (make_fullb aw at_ ah an cw ct ch cn r h s kind w hr hz hk hf ⟨h1, h2⟩) e (by decide)
          · exact act_err (make_fullc aw at_ ah an cw ct ch cn r h s kind w hr hz hk hf ⟨h1, h2, by omega⟩) e (by decide)
      · have e : makeC r h s kind = 0 := by unfold makeC; rw [if_neg (by omega), if_neg (by simp [hf]), if_neg hx]
        exact act_own (make_yes aw at_ ah an cw ct ch cn r h s kind w hr hz hk hf hx) e rfl rfl
    · have e : makeC r h s kind = freeC r h s := by unfold makeC; rw [if_neg (by omega), if_pos hf]
      exact act_err (make_place aw at_ ah an cw ct ch cn r h s kind w hr hz hk hf) e hf
  · have e : makeC r h s kind = 8 := by unfold makeC; rw [if_pos (by omega)]
    exact act_err (make_kind aw at_ ah an cw ct ch cn r h s kind w hr hz (by omega) (by omega)) e (by decide)
theorem act_give (aw at_ ah an : Option Addr) (cw ct ch cn : Nat) (r : Rm) (h s g t rights badge : Int) (w : World) (hr : RmAt w aw at_ ah an cw ct ch cn r) (hI : RmI r) :
    Calls Tryz.prog 48 #[.agg #[.slice aw r.ws.length cw, .slice at_ r.ts.length ct, .slice ah r.hs.length ch, .slice an r.ns.length cn, .int .i64 r.nw, .int .i64 r.nt], .agg #[.int .i64 h, .int .i64 s], .agg #[.int .i64 g, .int .i64 t], .int .i64 rights, .int .i64 badge] w fun e w' => ∃ (a0 a1 a2 a3 : Option Addr) (n0 n1 n2 n3 c0 c1 c2 c3 : Nat) (m n : Int) (ev : Value), e = .returned (.tuple #[.agg #[.slice a0 n0 c0, .slice a1 n1 c1, .slice a2 n2 c2, .slice a3 n3 c3, .int .i64 m, .int .i64 n], ev]) ∧ ActP 69 w.heap.size (giveC r h s g t rights badge) (giveR r h s g t rights badge) w' a0 a1 a2 a3 n0 n1 n2 n3 c0 c1 c2 c3 m n ev ∧ Below w.heap.size w w' := by
  have hz := hI.sz
  by_cases hc : getC r h s = 0
  · by_cases hf : freeC r g t = 0
    · by_cases hgh : g = h
      · have e : giveC r h s g t rights badge = dC r (getW r h s) rights badge := by unfold giveC dC; rw [if_neg (by simp [hc]), if_neg (by simp [hf]), if_neg (by simp [hgh])]
        by_cases hd : dC r (getW r h s) rights badge = 0
        · exact act_own (give_yesa aw at_ ah an cw ct ch cn r h s g t rights badge w hr hz hc hf hgh hd) (e.trans hd) rfl rfl
        · exact act_err (give_dera aw at_ ah an cw ct ch cn r h s g t rights badge w hr hz hc hf hgh hd) e hd
      · cases hq : hasB (getW r h s).rights 4 with
        | false =>
          have e : giveC r h s g t rights badge = 7 := by unfold giveC; rw [if_neg (by simp [hc]), if_neg (by simp [hf]), if_pos ⟨hgh, hq⟩]
          exact act_err (give_right aw at_ ah an cw ct ch cn r h s g t rights badge w hr hz hc hf hgh hq) e (by decide)
        | true =>
          have e : giveC r h s g t rights badge = dC r (getW r h s) rights badge := by unfold giveC dC; rw [if_neg (by simp [hc]), if_neg (by simp [hf]), if_neg (by simp [hq])]
          by_cases hd : dC r (getW r h s) rights badge = 0
          · exact act_own (give_yesb aw at_ ah an cw ct ch cn r h s g t rights badge w hr hz hc hf hgh hq hd) (e.trans hd) rfl rfl
          · exact act_err (give_derb aw at_ ah an cw ct ch cn r h s g t rights badge w hr hz hc hf hgh hq hd) e hd
    · have e : giveC r h s g t rights badge = freeC r g t := by unfold giveC; rw [if_neg (by simp [hc]), if_pos hf]
      exact act_err (give_place aw at_ ah an cw ct ch cn r h s g t rights badge w hr hz hc hf) e hf
  · have e : giveC r h s g t rights badge = getC r h s := by unfold giveC; rw [if_pos hc]
    exact act_err (give_get aw at_ ah an cw ct ch cn r h s g t rights badge w hr hz hc) e hc
theorem act_move (aw at_ ah an : Option Addr) (cw ct ch cn : Nat) (r : Rm) (h s t : Int) (w : World) (hr : RmAt w aw at_ ah an cw ct ch cn r) (hI : RmI r) :
    Calls Tryz.prog 49 #[.agg #[.slice aw r.ws.length cw, .slice at_ r.ts.length ct, .slice ah r.hs.length ch, .slice an r.ns.length cn, .int .i64 r.nw, .int .i64 r.nt], .agg #[.int .i64 h, .int .i64 s], .int .i64 t] w fun e w' => ∃ (a0 a1 a2 a3 : Option Addr) (n0 n1 n2 n3 c0 c1 c2 c3 : Nat) (m n : Int) (ev : Value), e = .returned (.tuple #[.agg #[.slice a0 n0 c0, .slice a1 n1 c1, .slice a2 n2 c2, .slice a3 n3 c3, .int .i64 m, .int .i64 n], ev]) ∧ ActP 69 w.heap.size (moveC r h s t) (moveR r h s t) w' a0 a1 a2 a3 n0 n1 n2 n3 c0 c1 c2 c3 m n ev ∧ Below w.heap.size w w' := by
  have hz := hI.sz
  by_cases hc : getC r h s = 0
  · have e : moveC r h s t = freeC r h t := by unfold moveC; rw [if_neg (by simp [hc])]
    by_cases hf : freeC r h t = 0
    · exact act_own (move_yes aw at_ ah an cw ct ch cn r h s t w hr hz hc hf (hI.put h s)) (e.trans hf) rfl rfl
    · exact act_err (move_place aw at_ ah an cw ct ch cn r h s t w hr hz hc hf) e hf
  · have e : moveC r h s t = getC r h s := by unfold moveC; rw [if_pos hc]
    exact act_err (move_get aw at_ ah an cw ct ch cn r h s t w hr hz hc) e hc
theorem act_drop (aw at_ ah an : Option Addr) (cw ct ch cn : Nat) (r : Rm) (h s : Int) (w : World) (hr : RmAt w aw at_ ah an cw ct ch cn r) (hI : RmI r) :
    Calls Tryz.prog 50 #[.agg #[.slice aw r.ws.length cw, .slice at_ r.ts.length ct, .slice ah r.hs.length ch, .slice an r.ns.length cn, .int .i64 r.nw, .int .i64 r.nt], .agg #[.int .i64 h, .int .i64 s]] w fun e w' => ∃ (a0 a1 a2 a3 : Option Addr) (n0 n1 n2 n3 c0 c1 c2 c3 : Nat) (m n : Int) (ev : Value), e = .returned (.tuple #[.agg #[.slice a0 n0 c0, .slice a1 n1 c1, .slice a2 n2 c2, .slice a3 n3 c3, .int .i64 m, .int .i64 n], ev]) ∧ ActP 69 w.heap.size (dropC r h s) (dropR r h s) w' a0 a1 a2 a3 n0 n1 n2 n3 c0 c1 c2 c3 m n ev ∧ Below w.heap.size w w' := by
  have hz := hI.sz
  by_cases hc : getC r h s = 0
  · exact act_rm (drop_ok aw at_ ah an cw ct ch cn r h s w hr hz hc) hc rfl rfl
  · exact act_err (drop_err aw at_ ah an cw ct ch cn r h s w hr hz hc) rfl hc
theorem act_revoke (aw at_ ah an : Option Addr) (cw ct ch cn : Nat) (r : Rm) (h s : Int) (w : World) (hr : RmAt w aw at_ ah an cw ct ch cn r) (hI : RmI r) :
    Calls Tryz.prog 51 #[.agg #[.slice aw r.ws.length cw, .slice at_ r.ts.length ct, .slice ah r.hs.length ch, .slice an r.ns.length cn, .int .i64 r.nw, .int .i64 r.nt], .agg #[.int .i64 h, .int .i64 s]] w fun e w' => ∃ (a0 a1 a2 a3 : Option Addr) (n0 n1 n2 n3 c0 c1 c2 c3 : Nat) (m n : Int) (ev : Value), e = .returned (.tuple #[.agg #[.slice a0 n0 c0, .slice a1 n1 c1, .slice a2 n2 c2, .slice a3 n3 c3, .int .i64 m, .int .i64 n], ev]) ∧ ActP 69 w.heap.size (dropC r h s) (revokeR r h s) w' a0 a1 a2 a3 n0 n1 n2 n3 c0 c1 c2 c3 m n ev ∧ Below w.heap.size w w' := by
  have hz := hI.sz
  by_cases hc : getC r h s = 0
  · exact act_rm (revoke_ok aw at_ ah an cw ct ch cn r h s w hr hz hc hI.wf) hc rfl rfl
  · exact act_err (revoke_err aw at_ ah an cw ct ch cn r h s w hr hz hc) rfl hc
theorem act_write (aw at_ ah an : Option Addr) (cw ct ch cn : Nat) (r : Rm) (h s : Int) (d : ByteArray) (w : World) (hr : RmAt w aw at_ ah an cw ct ch cn r) (hI : RmI r) (hd : d.size ≤ maxLen) :
    Calls Tryz.prog 52 #[.agg #[.slice aw r.ws.length cw, .slice at_ r.ts.length ct, .slice ah r.hs.length ch, .slice an r.ns.length cn, .int .i64 r.nw, .int .i64 r.nt], .agg #[.int .i64 h, .int .i64 s], .string d] w fun e w' => ∃ (a0 a1 a2 a3 : Option Addr) (n0 n1 n2 n3 c0 c1 c2 c3 : Nat) (m n : Int) (ev : Value), e = .returned (.tuple #[.agg #[.slice a0 n0 c0, .slice a1 n1 c1, .slice a2 n2 c2, .slice a3 n3 c3, .int .i64 m, .int .i64 n], ev]) ∧ ActP 69 w.heap.size (writeC r h s d) (writeR r h s d) w' a0 a1 a2 a3 n0 n1 n2 n3 c0 c1 c2 c3 m n ev ∧ Below w.heap.size w w' := by
  have hz := hI.sz
  by_cases hc : whoC r h s 1 2 = 0
  · by_cases h8 : 8 < d.size
    · have e : writeC r h s d = 2 := by unfold writeC; rw [if_neg (by simp [hc]), if_pos h8]
      exact act_err (write_many aw at_ ah an cw ct ch cn r h s d w hr hz hc h8 hd) e (by decide)
    · have e : writeC r h s d = 0 := by unfold writeC; rw [if_neg (by simp [hc]), if_neg h8]
      exact act_own (write_yes aw at_ ah an cw ct ch cn r h s d w hr hz hc (by omega)) e rfl rfl
  · have e : writeC r h s d = whoC r h s 1 2 := by unfold writeC; rw [if_pos hc]
    exact act_err (write_who aw at_ ah an cw ct ch cn r h s d w hr hz hc) e hc
theorem act_send (aw at_ ah an : Option Addr) (cw ct ch cn : Nat) (r : Rm) (h s : Int) (d : ByteArray) (t rights : Int) (w : World) (hr : RmAt w aw at_ ah an cw ct ch cn r) (hI : RmI r) (hd : d.size ≤ maxLen) :
    Calls Tryz.prog 53 #[.agg #[.slice aw r.ws.length cw, .slice at_ r.ts.length ct, .slice ah r.hs.length ch, .slice an r.ns.length cn, .int .i64 r.nw, .int .i64 r.nt], .agg #[.int .i64 h, .int .i64 s], .string d, .int .i64 t, .int .i64 rights] w fun e w' => ∃ (a0 a1 a2 a3 : Option Addr) (n0 n1 n2 n3 c0 c1 c2 c3 : Nat) (m n : Int) (ev : Value), e = .returned (.tuple #[.agg #[.slice a0 n0 c0, .slice a1 n1 c1, .slice a2 n2 c2, .slice a3 n3 c3, .int .i64 m, .int .i64 n], ev]) ∧ ActP 69 w.heap.size (sendC r h s d t rights) (sendR r h s d t rights) w' a0 a1 a2 a3 n0 n1 n2 n3 c0 c1 c2 c3 m n ev ∧ Below w.heap.size w w' := by
  have hz := hI.sz
  by_cases hc : whoC r h s 2 2 = 0
  · by_cases h8 : 8 < d.size
    · have e : sendC r h s d t rights = 2 := by unfold sendC; rw [if_neg (by simp [hc]), if_pos h8]
      exact act_err (send_many aw at_ ah an cw ct ch cn r h s d t rights w hr hz hc h8 hd) e (by decide)
    · by_cases h3 : 3 ≤ (waitL r (getW r h s).thing).length
      · have e : sendC r h s d t rights = 9 := by unfold sendC; rw [if_neg (by simp [hc]), if_neg h8, if_pos h3]
        exact act_err (send_full aw at_ ah an cw ct ch cn r h s d t rights w hr hz hc (by omega) h3 (Nat.le_trans (List.length_filter_le _ _) hz.n)) e (by decide)
      · by_cases ht : t < 0
        · have e : sendC r h s d t rights = 0 := by unfold sendC; rw [if_neg (by simp [hc]), if_neg h8, if_neg h3, if_pos ht]
          exact act_own (send_bare aw at_ ah an cw ct ch cn r h s d t rights w hr hz hc (by omega) (by omega) ht) e (by unfold sendR; rw [if_pos ht]) (by unfold sendR; rw [if_pos ht])
        · have e : sendC r h s d t rights = eC r (getW r h s) h t rights := by
            unfold sendC eC dC
            rw [if_neg (by simp [hc]), if_neg h8, if_neg h3, if_neg ht]
          by_cases he : eC r (getW r h s) h t rights = 0
          · exact act_own (send_with aw at_ ah an cw ct ch cn r h s d t rights w hr hz hc (by omega) (by omega) ht he) (e.trans he) (by unfold sendR; rw [if_neg ht]) (by unfold sendR; rw [if_neg ht])
          · exact act_err (send_err aw at_ ah an cw ct ch cn r h s d t rights w hr hz hc (by omega) (by omega) ht he) e he
  · have e : sendC r h s d t rights = whoC r h s 2 2 := by unfold sendC; rw [if_pos hc]
    exact act_err (send_who aw at_ ah an cw ct ch cn r h s d t rights w hr hz hc) e hc
theorem act_take (aw at_ ah an : Option Addr) (cw ct ch cn : Nat) (r : Rm) (h s : Int) (w : World) (hr : RmAt w aw at_ ah an cw ct ch cn r) (hI : RmI r) :
    Calls Tryz.prog 13 #[.agg #[.slice aw r.ws.length cw, .slice at_ r.ts.length ct, .slice ah r.hs.length ch, .slice an r.ns.length cn, .int .i64 r.nw, .int .i64 r.nt], .agg #[.int .i64 h, .int .i64 s]] w fun e w' => ∃ (a0 a1 a2 a3 : Option Addr) (n0 n1 n2 n3 c0 c1 c2 c3 : Nat) (m n : Int) (ev : Value) (q : Nt) (sl : Int), e = .returned (.tuple #[.agg #[.slice a0 n0 c0, .slice a1 n1 c1, .slice a2 n2 c2, .slice a3 n3 c3, .int .i64 m, .int .i64 n], .agg #[.int .i64 q.port, .string q.data, .int .i64 q.badge, .int .i64 q.writ], .int .i64 sl, ev]) ∧ ActP 69 w.heap.size (takeC r h s) (takeR r h s) w' a0 a1 a2 a3 n0 n1 n2 n3 c0 c1 c2 c3 m n ev ∧ (takeC r h s = 0 ∧ q = noteAt r h s ∧ sl = takeSlot r h s ∨ takeC r h s ≠ 0 ∧ q = zeroN ∧ sl = 0) ∧ Below w.heap.size w w' := by
  have hz := hI.sz
  by_cases hc : whoC r h s 2 1 = 0
  · rcases idx_cases (atPort (getW r h s).thing) r.ns with ⟨hi, hf⟩ | ⟨j, q, hi, hj, -, hf⟩
    · skip
      refine (take_none aw at_ ah an cw ct ch cn r h s w hr hz hc hi).mono ?_
      rintro e' w1 ⟨rfl, hb⟩
      have e := (show takeC r h s = 5 by unfold takeC; rw [if_neg (by simp [hc]), hf]; rfl)
      exact ⟨none, none, none, none, 0, 0, 0, 0, 0, 0, 0, 0, 0, 0, _, zeroN, 0, rfl, .inr ⟨by rw [e]; exact (by decide), by rw [e], rfl, rfl, rfl, rfl, rfl, rfl, rfl, rfl, rfl, rfl, rfl, rfl, rfl, rfl⟩, .inr ⟨by rw [e]; exact (by decide), rfl, rfl⟩, hb⟩
    · have hn : noteAt r h s = q := by unfold noteAt; rw [hf]
      by_cases hw : q.writ = 0
      · skip
        refine (take_bare aw at_ ah an cw ct ch cn r h s w hr hz hc j q hi hj hn hw).mono ?_
        rintro e' w1 ⟨v0, v1, v2, v3, rfl, hO, hb⟩
        have e := (show takeC r h s = 0 by unfold takeC; rw [if_neg (by simp [hc]), hf, if_neg (by simp), hn, if_neg (by simp [hw])])
        obtain ⟨b0, b1, b2, b3, d0, d1, d2, d3, rfl, rfl, rfl, rfl, hat⟩ := hO.at
        exact ⟨b0, b1, b2, b3, _, _, _, _, d0, d1, d2, d3, _, _, _, noteAt r h s, takeSlot r h s, rfl, .inl ⟨e, rfl, rfl, rfl, rfl, rfl, rfl, rfl, hat, hi_of_row hO.rw_, hi_of_row hO.rt, hi_of_row hO.rh, hi_of_row hO.rn⟩, .inl ⟨e, rfl, rfl⟩, hb⟩
      · by_cases hfr : freeP r.hs h < 0
        · skip
          refine (take_full aw at_ ah an cw ct ch cn r h s w hr hz hc j q hi hj hw hfr).mono ?_
          rintro e' w1 ⟨rfl, hb⟩
          have e := (show takeC r h s = 9 by unfold takeC; rw [if_neg (by simp [hc]), hf, if_neg (by simp), hn, if_pos ⟨hw, hfr⟩])
          exact ⟨none, none, none, none, 0, 0, 0, 0, 0, 0, 0, 0, 0, 0, _, zeroN, 0, rfl, .inr ⟨by rw [e]; exact (by decide), by rw [e], rfl, rfl, rfl, rfl, rfl, rfl, rfl, rfl, rfl, rfl, rfl, rfl, rfl, rfl⟩, .inr ⟨by rw [e]; exact (by decide), rfl, rfl⟩, hb⟩
        · skip
          refine (take_with aw at_ ah an cw ct ch cn r h s w hr hz hc j q hi hj hn hw hfr).mono ?_
          rintro e' w1 ⟨v0, v1, v2, v3, rfl, hO, hb⟩
          have e := (show takeC r h s = 0 by unfold takeC; rw [if_neg (by simp [hc]), hf, if_neg (by simp), hn, if_neg (by simp [hfr])])
          obtain ⟨b0, b1, b2, b3, d0, d1, d2, d3, rfl, rfl, rfl, rfl, hat⟩ := hO.at
          exact ⟨b0, b1, b2, b3, _, _, _, _, d0, d1, d2, d3, _, _, _, noteAt r h s, takeSlot r h s, rfl, .inl ⟨e, rfl, rfl, rfl, rfl, rfl, rfl, rfl, hat, hi_of_row hO.rw_, hi_of_row hO.rt, hi_of_row hO.rh, hi_of_row hO.rn⟩, .inl ⟨e, rfl, rfl⟩, hb⟩
  · skip
    refine (take_who aw at_ ah an cw ct ch cn r h s w hr hz hc).mono ?_
    rintro e' w1 ⟨rfl, hb⟩
    have e := (show takeC r h s = whoC r h s 2 1 by unfold takeC; rw [if_pos hc])
    exact ⟨none, none, none, none, 0, 0, 0, 0, 0, 0, 0, 0, 0, 0, _, zeroN, 0, rfl, .inr ⟨by rw [e]; exact hc, by rw [e], rfl, rfl, rfl, rfl, rfl, rfl, rfl, rfl, rfl, rfl, rfl, rfl, rfl, rfl⟩, .inr ⟨by rw [e]; exact hc, rfl, rfl⟩, hb⟩
end Go.Proofs.YtddgpgldbekamaaGreat
