/- The functions of package disk, one contract each. -/
import Derived.Test.YtikkakdeapbioaaDoorDkRestart
set_option linter.unusedVariables false
set_option linter.unusedSimpArgs false
set_option linter.unnecessarySimpa false
namespace Go.Proofs.YtikkakdeapbioaaDoor
open Go.RowKit

/-- an error by its number; 0: none -/
def errV (n : Int) : Value := if n = 0 then .nilIface else .iface 63 (.int .i64 n)
theorem errV_zero : errV 0 = .nilIface := rfl
theorem errV_pos {n : Int} (h : n ≠ 0) : errV n = .iface 63 (.int .i64 n) := if_neg h
theorem write_any (base p b1 b2 : Nat) (v : Value) (d : Dk) (at_ : Int) (s : ByteArray) (w : World) (h : DkAt w base p b1 b2 v d) (hm : s.size ≤ maxLen) (hw : d.wr.length ≤ 1000000) :
    Calls Tryd.prog 76 #[.pointer (some ⟨p, 0, none⟩), .int .i64 at_, .string s] w fun e w' => ∃ v', e = .returned (errV (wrC d at_ s)) ∧ DkTo w w' base p b1 b2 v v' (wrR d at_ s) := by
  by_cases hb : hasB2 d at_ = true ∧ s.size ≤ 48
  · obtain ⟨i, rfl⟩ : ∃ i : Nat, at_ = i := ⟨at_.toNat, by have := ((hasB2_iff d at_).1 hb.1).1; omega⟩
    have hi : i < d.now.length := by have := ((hasB2_iff d i).1 hb.1).2; omega
    cases hs : stepDn d
    · refine (write_go base p b1 b2 v d i s w h hi hb.2 hs hw).mono ?_
      rintro e w' ⟨rfl, v', hT⟩
      refine ⟨v', ?_, ?_⟩
      · simp [wrC, hb, hs, errV]
      · simpa [wrR, hb, hs] using hT
    · refine (write_dn base p b1 b2 v d i s w h hb.1 hb.2 hs).mono ?_
      rintro e w' ⟨rfl, hT⟩
      refine ⟨v, ?_, ?_⟩
      · simp [wrC, hb, hs, errV]
      · simpa [wrR, hb, hs] using hT
  · refine (write_bad base p b1 b2 v d at_ s w h hm hb).mono ?_
    rintro e w' ⟨rfl, rfl⟩
    refine ⟨v, ?_, ?_⟩
    · simp only [wrC, if_neg hb]; rfl
    · simp only [wrR, if_neg hb]; exact DkTo.refl h
theorem flush_any (base p b1 b2 : Nat) (v : Value) (d : Dk) (w : World) (h : DkAt w base p b1 b2 v d) :
    Calls Tryd.prog 77 #[.pointer (some ⟨p, 0, none⟩)] w fun e w' => ∃ v', e = .returned (errV (flC d)) ∧ DkTo w w' base p b1 b2 v v' (flR d) := by
  cases hs : stepDn d
  · refine (flush_go base p b1 b2 v d w h hs).mono ?_
    rintro e w' ⟨rfl, hT⟩
    exact ⟨_, by simp [flC, hs, errV], hT⟩
  · refine (flush_dn base p b1 b2 v d w h hs).mono ?_
    rintro e w' ⟨rfl, hT⟩
    exact ⟨_, by simp [flC, hs, errV], hT⟩
theorem read_any (base p b1 b2 : Nat) (v : Value) (d : Dk) (at_ : Int) (w : World) (h : DkAt w base p b1 b2 v d) :
    Calls Tryd.prog 25 #[.pointer (some ⟨p, 0, none⟩), .int .i64 at_] w fun e w' => e = .returned (.tuple #[.string (rdS d at_), errV (rdC d at_)]) ∧ w' = w := by
  cases hd : d.down
  · cases hb : hasB2 d at_
    · refine (read_no base p b1 b2 v d at_ w h hd hb).mono ?_
      rintro e w' ⟨rfl, rfl⟩
      exact ⟨by simp [rdC, rdS, hd, hb, errV]; rfl, rfl⟩
    · have hh := (hasB2_iff d at_).1 hb
      obtain ⟨i, rfl⟩ : ∃ i : Nat, at_ = i := ⟨at_.toNat, by omega⟩
      have hi : i < d.now.length := by omega
      refine (read_ok base p b1 b2 v d i d.now[i] w h hd (List.getElem?_eq_getElem hi)).mono ?_
      rintro e w' ⟨rfl, rfl⟩
      exact ⟨by simp [rdC, rdS, hd, hb, errV, hi], rfl⟩
  · refine (read_dn base p b1 b2 v d at_ w h hd).mono ?_
    rintro e w' ⟨rfl, rfl⟩
    exact ⟨by simp [rdC, rdS, hd, errV]; rfl, rfl⟩
/-- a block that is none of the disk's -/
def Off (g p b1 b2 : Nat) (v : Value) : Prop := g ≠ p ∧ g ≠ b1 ∧ g ≠ b2 ∧ v.ownBlock ≠ some g
theorem DkTo.off {w w' : World} {base p b1 b2 g : Nat} {v v' : Value} {d' : Dk} (h : DkTo w w' base p b1 b2 v v' d') (ho : Off g p b1 b2 v) (hg : g < w.heap.size) : Off g p b1 b2 v' ∧ w'.heap[g]? = w.heap[g]? ∧ g < w'.heap.size := by
  obtain ⟨h1, h2, h3, h4⟩ := ho
  refine ⟨⟨h1, h2, h3, fun e => ?_⟩, h.kp.block g hg h1 h2 h3 h4, Nat.lt_of_lt_of_le hg h.kp.size⟩
  rcases h.nx g e with e | e
  · exact h4 e
  · omega
theorem DkAt.off_old {w : World} {base p b1 b2 g : Nat} {v : Value} {d : Dk} (h : DkAt w base p b1 b2 v d) (hg : g < base) : Off g p b1 b2 v := by
  have h1 := h.bp
  have h2 := h.bb1
  have h3 := h.bb2
  exact ⟨by omega, by omega, by omega, fun e => by have := h.base_own g e; omega⟩
theorem DkAt.off_new {w : World} {base p b1 b2 : Nat} {v : Value} {d : Dk} (h : DkAt w base p b1 b2 v d) {g : Nat} (hg : w.heap.size ≤ g) : Off g p b1 b2 v := by
  have h1 := heap_lt h.hp
  have h2 := heap_lt h.h1
  have h3 := heap_lt h.h2
  exact ⟨by omega, by omega, by omega, fun e => by have := (h.ho.lt g e).2; omega⟩
/-- what keeps a disk's blocks keeps the disk: a store into another block -/
theorem DkAt.set_off {w : World} {base p b1 b2 g : Nat} {v : Value} {d : Dk} (h : DkAt w base p b1 b2 v d) (ho : Off g p b1 b2 v) (j : Nat) (u : Value) : DkAt (w.setCell ⟨g, j, none⟩ u) base p b1 b2 v d := by
  obtain ⟨h1, h2, h3, h4⟩ := ho
  refine h.same (fun k hk => Below.heap_setCell _ _ _ _ (fun e => ?_))
  dsimp only at e
  rcases hk with rfl | rfl | rfl | hk
  · exact h1 e.symm
  · exact h2 e.symm
  · exact h3 e.symm
  · exact h4 (e ▸ hk)
theorem DkAt.alloc {w : World} {base p b1 b2 : Nat} {v : Value} {d : Dk} (h : DkAt w base p b1 b2 v d) (o : Obj) : DkAt (w.alloc o) base p b1 b2 v d := h.below ((Below.refl _ _).alloc (Nat.le_refl _) o)
/-- a new block's cells are never the disk's -/
theorem wr_wr_len (d : Dk) (at_ : Int) (s : ByteArray) : (wrR d at_ s).wr.length ≤ d.wr.length + 1 := by
  unfold wrR
  split
  · split
    · rw [(step_now d).2.2]; omega
    · simp [wroteR, (step_now d).2.2]
  · omega
theorem wr_now_len (d : Dk) (at_ : Int) (s : ByteArray) : (wrR d at_ s).now.length = d.now.length := by
  unfold wrR
  split
  · split
    · rw [(step_now d).1]
    · simp [wroteR, (step_now d).1]
  · rfl
end Go.Proofs.YtikkakdeapbioaaDoor
