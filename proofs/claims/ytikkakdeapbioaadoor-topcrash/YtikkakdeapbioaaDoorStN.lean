/- A log's first number: of two that follow one another at most one is met by what stands there. Plain data. -/
/- store.openLog, store.newLog. -/
import Derived.Test.YtikkakdeapbioaaDoorLogLaw
import Derived.Test.YtikkakdeapbioaaDoorStR
set_option linter.unusedVariables false
set_option linter.unusedSimpArgs false
namespace Go.Proofs.YtikkakdeapbioaaDoor
open Go.RowKit

theorem le4_ne (n : Nat) : leL n 4 ≠ leL (n + 1) 4 := by
  intro e
  have := congrArg (fun l => l[0]?) e
  simp [leL] at this
theorem two_firsts (first : Nat) (secs : List (List UInt8)) : (lgOf first secs).deeds = [] ∨ (lgOf (first + 1) secs).deeds = [] := by
  cases secs with
  | nil => exact .inl rfl
  | cons s r =>
    cases h1 : secP s first with
    | none => left; unfold lgOf rdLog lstep; dsimp only; rw [Nat.add_zero, h1]
    | some p =>
      right
      have h2 : secP s (first + 1) = none := by
        unfold secP at h1 ⊢
        dsimp only at h1 ⊢
        split at h1
        · rename_i hc
          rw [if_neg]
          rintro ⟨-, e, -⟩
          exact le4_ne first (hc.2.1.symm.trans e)
        · cases h1
      unfold lgOf rdLog lstep
      rw [Nat.add_zero, h2]
end Go.Proofs.YtikkakdeapbioaaDoor
set_option linter.unusedVariables false
set_option linter.unusedSimpArgs false
set_option linter.unnecessarySimpa false
namespace Go.Proofs.YtikkakdeapbioaaDoor
open Go.RowKit

/-- the log's sectors -/
def logT (now : List (List UInt8)) : List (List UInt8) := (now.drop 102).take (now.length - 102)
theorem used_deeds (first : Nat) : ∀ (l : List (List UInt8)) (i : Nat) (st : Lst), st.deeds.length ≤ (rdLog first l i st).deeds.length
  | [], i, st => Nat.le_refl _
  | s :: r, i, st => by
    cases hs : lstep first i st s with
    | none => rw [rd_none rfl hs]; exact Nat.le_refl _
    | some x =>
      rw [rd_some rfl hs]
      have := used_deeds first r (i + 1) x
      rcases lstep_form hs with ⟨c, rfl⟩ | rfl
      · exact this
      · simp at this; omega
theorem used_nil (first : Nat) : ∀ (l : List (List UInt8)) (i : Nat) (st : Lst), (rdLog first l i st).used = st.used ∨ st.deeds.length < (rdLog first l i st).deeds.length
  | [], i, st => .inl rfl
  | s :: r, i, st => by
    cases hs : lstep first i st s with
    | none => rw [rd_none rfl hs]; exact .inl rfl
    | some x =>
      rw [rd_some rfl hs]
      rcases lstep_form hs with ⟨c, rfl⟩ | rfl
      · exact used_nil first r (i + 1) ⟨st.deeds, st.opn ++ [c], st.used⟩
      · rcases used_nil first r (i + 1) ⟨st.deeds ++ [st.opn], [], i + 1⟩ with h | h
        · right
          have := used_deeds first r (i + 1) ⟨st.deeds ++ [st.opn], [], i + 1⟩
          simp at this ⊢; omega
        · right; simp at h ⊢; omega
theorem lg_zero {first : Nat} {l : List (List UInt8)} (h : (lgOf first l).deeds = []) : (lgOf first l).used = 0 := by
  rcases used_nil first l 0 ⟨[], [], 0⟩ with h1 | h1
  · exact h1
  · unfold lgOf at h; rw [h] at h1; simp at h1
def newF (now : List (List UInt8)) (first : Nat) : Nat := if (lgOf first (logT now)).deeds = [] then first else first + 1
theorem newF_nil (now : List (List UInt8)) (first : Nat) : (lgOf (newF now first) (logT now)).deeds = [] := by
  unfold newF
  split
  · assumption
  · rename_i h
    rcases two_firsts first (logT now) with e | e
    · exact absurd e h
    · exact e
theorem newF_bd (now : List (List UInt8)) (first : Nat) : first ≤ newF now first ∧ newF now first ≤ first + 1 := by unfold newF; split <;> omega
set_option maxHeartbeats 1000000 in
set_option maxRecDepth 100000 in
theorem openLog_any (B : Nat → Prop) (p : Nat) (d : Dk) (first : Nat) (w : World) (h : DkO w B p d) (hdn : d.down = false) (hl : 166 ≤ d.now.length) (hf1 : 1 ≤ first) (hf2 : first ≤ 1000000000000) :
    Calls Tryd.prog 29 #[.pointer (some ⟨p, 0, none⟩), .int .i64 (first : Int)] w fun e w' => ∃ q a c, e = .returned (.tuple #[.pointer (some ⟨q, 0, none⟩), .slice a (lgOf first (logT d.now)).deeds.length c, .nilIface]) ∧
      LgAt w' q p ⟨102, d.now.length - 102, first, (lgOf first (logT d.now)).used⟩ ∧ DdsB (fun k => k < w.heap.size + 1) w' a (lgOf first (logT d.now)).deeds ∧ q = w.heap.size ∧ Below w.heap.size w w' := by
  have hsc := sectors_o B p d w h
  have hop := lopen_any B p d 102 (d.now.length - 102) first w h hdn (by omega) hf1 (by omega) hf2
  rw [show ((d.now.length - 102 : Nat) : Int) = (d.now.length : Int) - 102 by omega, show ((102 : Nat) : Int) = 102 from rfl] at hop
  change Calls _ _ _ _ (fun e w' => ∃ q a c, e = .returned (.tuple #[.pointer (some ⟨q, 0, none⟩), .slice a (lgOf first (logT d.now)).deeds.length c, .nilIface]) ∧ LgAt w' q p ⟨102, d.now.length - 102, first, (lgOf first (logT d.now)).used⟩ ∧ DdsB (fun k => k < w.heap.size + 1) w' a (lgOf first (logT d.now)).deeds ∧ q = w.heap.size ∧ Below w.heap.size w w') at hop
  have hmost := h.ok.most
  generalize lgOf first (logT d.now) = L at *
  generalize hn : d.now.length = n at *
  clear hn
  go_enter Tryd.func29, Tryd.ntmps29
  go_wp2_with fail
  refine hsc.mono ?_
  rintro e w' ⟨rfl, rfl⟩
  go_wp2_with fail
  refine hop.mono ?_
  rintro e w1 ⟨q, a, c, rfl, h1, h2, h3, h4⟩
  subst h3
  go_wp2_with fail
  refine bodyPost_ret (results_tmp3 rfl _ _ _) rfl ⟨_, a, c, rfl, h1, h2, rfl, h4⟩
set_option maxHeartbeats 1000000 in
set_option maxRecDepth 100000 in
theorem newLog_any (B : Nat → Prop) (p : Nat) (d : Dk) (first : Nat) (w : World) (h : DkO w B p d) (hdn : d.down = false) (hl : 166 ≤ d.now.length) (hf1 : 1 ≤ first) (hf2 : first ≤ 100000000000) :
    Calls Tryd.prog 51 #[.pointer (some ⟨p, 0, none⟩), .int .i64 (first : Int)] w fun e w' => ∃ q, e = .returned (.tuple #[.pointer (some ⟨q, 0, none⟩), .int .i64 (newF d.now first : Int), .nilIface]) ∧
      LgAt w' q p ⟨102, d.now.length - 102, newF d.now first, 0⟩ ∧ w.heap.size ≤ q ∧ Below w.heap.size w w' := by
  have hbd := newF_bd d.now first
  have hnil := newF_nil d.now first
  have hz := lg_zero hnil
  go_enter Tryd.func51, Tryd.ntmps51
  go_wp2_with fail
  go_loopw [1] (fun f wr => ∃ k : Nat, f = .int .i64 k ∧ (k = newF d.now first ∨ k < newF d.now first ∧ k = first ∧ (lgOf first (logT d.now)).deeds ≠ []) ∧ Below w.heap.size w wr) (fun f _ => (newF d.now first + 1) - (intOf f).toNat)
  case atStart =>
    refine ⟨first, rfl, ?_, Below.refl _ _⟩
    unfold newF
    by_cases hd : (lgOf first (logT d.now)).deeds = []
    · rw [if_pos hd]; exact .inl rfl
    · rw [if_neg hd]; exact .inr ⟨by omega, rfl, hd⟩
  case round =>
    obtain ⟨k, rfl, hk, bl⟩ := hrel
    have hop := openLog_any B p d k wr (h.below bl) hdn hl (by omega) (by omega)
    rcases hk with rfl | ⟨h1, rfl, h3⟩
    · rw [hnil, hz] at hop
      go_wp2_with fail
      refine hop.mono ?_
      rintro e w1 ⟨q, a, c, rfl, g1, g2, rfl, g4⟩
      go_wp2_with fail
      refine bodyPost_ret (results_tmp3 rfl _ _ _) rfl ⟨_, rfl, g1, bl.size, Below_after bl g4⟩
    · have hne : (lgOf k (logT d.now)).deeds.length ≠ 0 := fun e => h3 (List.length_eq_zero_iff.1 e)
      generalize (lgOf k (logT d.now)).deeds = D at *
      generalize (lgOf k (logT d.now)).used = U at *
      have hD : decide ((D.length : Int) = 0) = false := by simp; exact h3
      have hN : Hid (newF d.now k = k + 1) := show _ = _ by omega
      go_wp2_with fail
      refine hop.mono ?_
      rintro e w1 ⟨q, a, c, rfl, g1, g2, g3, g4⟩
      go_wp2_with fail
      exact ⟨⟨k + 1, by go_num, .inl hN.out.symm, Below_after bl g4⟩, by simp [intOf]; omega⟩
end Go.Proofs.YtikkakdeapbioaaDoor
