/- writkeepref: four, ClosedDeeds. -/
import Derived.Test.YtjhkabhhlpdpaaaRefRow
import Derived.Test.YtjhkabhhlpdpaaaDds
set_option linter.unusedVariables false
set_option linter.unusedSimpArgs false
set_option linter.unnecessarySimpa false
namespace Go.Proofs.Ytjhkabhhlpdpaaa
open Go.RowKit

theorem four_le (n : Nat) : leL n 4 = [UInt8.ofNat n, UInt8.ofNat (n / 256), UInt8.ofNat (n / 65536), UInt8.ofNat (n / 16777216)] := by
  simp [leL, List.range_succ]
theorem u8_mod (n : Nat) : ((UInt8.ofNat n).toNat : Int) = (n : Int) % 256 := u8_ofNat n
set_option maxHeartbeats 8000000 in
set_option maxRecDepth 100000 in
theorem four_any (n : Nat) (w : World) (hn : n < 9223372036854775808) :
    Calls Try.prog 52 #[.int .i64 (n : Int)] w fun e w' => e = .returned (.string (leB n 4)) ∧ Below w.heap.size w w' := by
  have hcv : (convert 96 9 (.slice (some ⟨w.heap.size, 0, none⟩) 4 4)).run Try.prog (w.alloc (.cells #[.int .u8 ((n : Int) % 256), .int .u8 ((n : Int) / 256 % 256), .int .u8 ((n : Int) / 65536 % 256), .int .u8 ((n : Int) / 16777216 % 256)] 5)) = .ok (.string (leB n 4)) (w.alloc (.cells #[.int .u8 ((n : Int) % 256), .int .u8 ((n : Int) / 256 % 256), .int .u8 ((n : Int) / 65536 % 256), .int .u8 ((n : Int) / 16777216 % 256)] 5)) := by
    have hB : BysAt (w.alloc (.cells #[.int .u8 ((n : Int) % 256), .int .u8 ((n : Int) / 256 % 256), .int .u8 ((n : Int) / 65536 % 256), .int .u8 ((n : Int) / 16777216 % 256)] 5)) w.heap.size (leL n 4) := by
      unfold BysAt
      rw [heap_alloc_last, four_le]
      simp only [secV, List.map_cons, List.map_nil, u8_mod]
      rfl
    exact run_secString _ w.heap.size 0 (leL n 4) 4 4 (leL_len n 4) hB.range
  go_enter Try.func52, Try.ntmps52
  go_wp2_with fail
  go_ret
  exact ⟨rfl, (Below.refl _ _).alloc (Nat.le_refl _) _⟩
/-- while the document's deeds are read -/
structure CdI (w wr : World) (st : Lst) (vd vo : Value) (cd : List Value) : Prop where
  bl : Below w.heap.size w wr
  oo : wr.ownsRow w.heap.size 56 3 vo st.opn.length (st.opn.flatMap chC)
  od : wr.ownsRow w.heap.size 38 1 vd st.deeds.length cd
  inn : ∀ (j : Nat) (x : List Ch), st.deeds[j]? = some x → ∃ (a : Option Addr) (c : Nat), cd[j]? = some (Value.slice a x.length c) ∧ (x = [] ∨ ∃ b : Nat, a = some (⟨b, 0, none⟩ : Addr) ∧ w.heap.size ≤ b ∧ b < wr.heap.size ∧ vo.ownBlock ≠ some b ∧ vd.ownBlock ≠ some b ∧ ∀ j y, x[j]? = some y → ChAt wr b (0 + j * 3) y)
  good : ∀ c ∈ st.opn, c.key.size ≤ maxLen ∧ c.val.size ≤ maxLen
section
variable {w wr w' : World} {st : Lst} {vd vo : Value} {cd : List Value}
theorem CdI.below (h : CdI w wr st vd vo cd) (hb : Below wr.heap.size wr w') : CdI w w' st vd vo cd := by
  refine ⟨Below_after h.bl hb, own_keep h.oo (fun k hk => hb.block k (h.oo.lt k hk).2), own_keep h.od (fun k hk => hb.block k (h.od.lt k hk).2), fun j x hx => ?_, h.good⟩
  obtain ⟨a, c, h1, h2⟩ := h.inn j x hx
  refine ⟨a, c, h1, ?_⟩
  rcases h2 with h2 | ⟨b, ha, h3, h4, h5, h6, h7⟩
  · exact .inl h2
  · exact .inr ⟨b, ha, h3, Nat.lt_of_lt_of_le h4 hb.size, h5, h6, fun j y hy => (h7 j y hy).below hb h4⟩
theorem below_newrow {row : Option Nat} (h : Below w.heap.size w wr) (hg : wr.grownBy w' row) (hr : ∀ k, row = some k → w.heap.size ≤ k) : Below w.heap.size w w' :=
  ⟨hg.os.trans h.os, hg.tape.trans h.tape, hg.output.trans h.output, Nat.le_trans h.size hg.size, fun k hk => (hg.block k (Nat.lt_of_lt_of_le hk h.size) (fun e => by have := hr k e.symm; omega)).trans (h.block k hk)⟩
theorem CdI.opened (h : CdI w wr st vd vo cd) {c : Ch} (hc : c.key.size ≤ maxLen ∧ c.val.size ≤ maxLen) {vo' : Value} (r2 : w'.ownsRow w.heap.size 56 3 vo' (st.opn.length + 1) (st.opn.flatMap chC ++ chC c)) (r3 : wr.grownBy w' vo.ownBlock) (r5 : vo'.ownBlock = vo.ownBlock ∨ vo'.ownBlock = some wr.heap.size) :
    CdI w w' ⟨st.deeds, st.opn ++ [c], st.used⟩ vd vo' cd := by
  have hd := own_dist h.oo h.od (by decide)
  refine ⟨below_newrow h.bl r3 (fun k hk => (h.oo.lt k hk).1), by simpa using r2, own_keep h.od (fun k hk => r3.block k (h.od.lt k hk).2 (fun e => hd k e.symm hk)), fun j x hx => ?_, ?_⟩
  · obtain ⟨a, c, k1, k2⟩ := h.inn j x hx
    refine ⟨a, c, k1, ?_⟩
    rcases k2 with k2 | ⟨b, ha, k3, k4, k5, k6, k7⟩
    · exact .inl k2
    · refine .inr ⟨b, ha, k3, Nat.lt_of_lt_of_le k4 r3.size, ?_, k6, fun j y hy => (k7 j y hy).at_same (r3.block b k4 (fun e => k5 e.symm))⟩
      rcases r5 with e | e <;> rw [e]
      · exact k5
      · intro e'; simp at e'; omega
  · intro x hx
    rcases List.mem_append.1 hx with hx | hx
    · exact h.good x hx
    · simp at hx; rw [hx]; exact hc
theorem CdI.closed (h : CdI w wr st vd vo cd) {vd' : Value} {a : Option Addr} {c : Nat} (hvo : vo = .slice a st.opn.length c) (r2 : w'.ownsRow w.heap.size 38 1 vd' (st.deeds.length + 1) (cd ++ [vo])) (r3 : wr.grownBy w' vd.ownBlock) (r5 : vd'.ownBlock = vd.ownBlock ∨ vd'.ownBlock = some wr.heap.size) (u : Nat) :
    CdI w w' ⟨st.deeds ++ [st.opn], [], u⟩ vd' (.slice none 0 0) (cd ++ [vo]) := by
  have hd := own_dist h.oo h.od (by decide)
  have hcd : cd.length = st.deeds.length := by have := h.od.1; omega
  refine ⟨below_newrow h.bl r3 (fun k hk => (h.od.lt k hk).1), World.ownsRow_nil _ _ _ _, by simpa using r2, fun j x hx => ?_, (fun c hc => nomatch hc)⟩
  by_cases hj : j < st.deeds.length
  · rw [List.getElem?_append_left hj] at hx
    obtain ⟨a, c, k1, k2⟩ := h.inn j x hx
    refine ⟨a, c, by rw [List.getElem?_append_left (by omega)]; exact k1, ?_⟩
    rcases k2 with k2 | ⟨b, ha, k3, k4, k5, k6, k7⟩
    · exact .inl k2
    · refine .inr ⟨b, ha, k3, Nat.lt_of_lt_of_le k4 r3.size, by simp [Value.ownBlock], ?_, fun j y hy => (k7 j y hy).at_same (r3.block b k4 (fun e => k6 e.symm))⟩
      rcases r5 with e | e <;> rw [e]
      · exact k6
      · intro e'; simp at e'; omega
  · have hj2 : j = st.deeds.length := by
      have := (List.getElem?_eq_some_iff.1 hx).1
      simp at this; omega
    subst hj2
    have hx2 : x = st.opn := by
      rw [List.getElem?_append_right (Nat.le_refl _)] at hx
      simpa using hx.symm
    subst hx2
    refine ⟨a, c, by rw [← hcd, List.getElem?_append_right (Nat.le_refl _)]; simp [hvo], ?_⟩
    obtain ⟨a', c', e1, e2⟩ := own_chs h.oo h.good
    rw [hvo] at e1
    simp only [Value.slice.injEq, true_and] at e1
    obtain ⟨rfl, rfl⟩ := e1
    rcases e2 with e2 | ⟨b, ha, hbo, k3, k4, k7⟩
    · exact .inl e2
    · have k6 : vd.ownBlock ≠ some b := fun e => hd b hbo e
      refine .inr ⟨b, ha, k3, Nat.lt_of_lt_of_le k4 r3.size, by simp [Value.ownBlock], ?_, fun j y hy => (k7 j y hy).at_same (r3.block b k4 (fun e => k6 e.symm))⟩
      rcases r5 with e | e <;> rw [e]
      · exact k6
      · intro e'; simp at e'; omega
theorem CdI.fin (h : CdI w wr st vd vo cd) : ∃ a c, vd = .slice a st.deeds.length c ∧ DdsB (fun k => k < w.heap.size) wr a st.deeds := by
  rcases h.od.2 with ⟨rfl, h0⟩ | ⟨g, cap, cur, rfl, hb, hg, -⟩
  · exact ⟨none, 0, by rw [h0], .inl (List.length_eq_zero_iff.1 h0)⟩
  · refine ⟨_, _, rfl, .inr ⟨g, 0, rfl, heap_lt hg, by omega, fun j x hx => ?_⟩⟩
    obtain ⟨a, c, k1, k2⟩ := h.inn j x hx
    refine ⟨a, c, by rw [Nat.zero_add]; exact own_at h.od rfl k1, ?_⟩
    rcases k2 with k2 | ⟨b, ha, k3, k4, k5, k6, k7⟩
    · exact .inl k2
    · exact .inr ⟨b, 0, ha, k4, by omega, k7⟩
end
theorem secP_eq (s : ByteArray) (n : Nat) (hs : s.size = 48) : secP s.data.toList n = if (s[0].toNat = 111 ∨ s[0].toNat = 99) ∧ s.extract 1 5 = leB n 4 ∧ s[5].toNat + 256 * s[6].toNat ≤ 41 then some (s[0], (s.extract 7 (7 + (s[5].toNat + 256 * s[6].toNat))).data.toList) else none := by
  have e0 : s.data.toList.getD 0 0 = s[0] := s_getD s 0 (by omega)
  have e5 : numL ((s.data.toList.drop 5).take 2) = s[5].toNat + 256 * s[6].toNat := by
    have hl : s.data.toList.length = 48 := by rw [Array.length_toList]; exact hs
    rw [List.drop_eq_getElem_cons (by omega), List.drop_eq_getElem_cons (by omega)]
    simp [numL]
    rfl
  have e1 : (s.data.toList.drop 1).take 4 = leL n 4 ↔ s.extract 1 5 = leB n 4 := by
    rw [← ext_toList s 1 5]
    unfold leB
    constructor
    · intro h; rw [← h, str_of]
    · intro h; rw [h, str_data]
  have e7 : ∀ z, (s.data.toList.drop 7).take z = (s.extract 7 (7 + z)).data.toList := fun z => by rw [ext_toList]; simp
  have c1 : s[0] = 111 ↔ s[0].toNat = 111 := u8_eq (k := 111) (by decide)
  have c2 : s[0] = 99 ↔ s[0].toNat = 99 := u8_eq (k := 99) (by decide)
  unfold secP
  simp only [e0, e5, e7, e1, c1, c2]
end Go.Proofs.Ytjhkabhhlpdpaaa
