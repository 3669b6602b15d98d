/- An addition to a log on a disk that isn't armed (all that was written may still be lost): plain data. -/
import Derived.Test.YtikkakdeapbioaaDoorLogFall
set_option linter.unusedVariables false
set_option linter.unusedSimpArgs false
namespace Go.Proofs.YtikkakdeapbioaaDoor
open Go.RowKit

/-- the same disk, had it been flushed -/
def calm (d : Dk) : Dk := ⟨d.now, d.now, [], d.left, d.down⟩
theorem lgW_calm (ss : List ByteArray) (d : Dk) (a : Nat) (hd : d.down = false) (hneg : d.left < 0) (hl : a + ss.length ≤ d.now.length) (hs : ∀ s ∈ ss, s.size ≤ 48) : lgW d a ss = lgW (calm d) a ss ∧ (lgW d a ss).2 = 0 ∧ (lgW d a ss).1.now.length = d.now.length ∧ (lgW d a ss).1.down = false ∧ (lgW d a ss).1.left < 0 := by
  rcases lgW_spec ss d a hd hl hs with ⟨x0, x1, x2, x3, x4, x5⟩ | ⟨x0, x1, x2, x3, x4, m, x5⟩
  · rcases lgW_spec ss (calm d) a hd hl hs with ⟨y0, y1, y2, y3, y4, y5⟩ | ⟨y0, y1, y2, y3, y4, m, y5⟩
    · have hx5 := x5 hneg
      have hy5 := y5 hneg
      refine ⟨?_, x0, by rw [x1, setL_len], x4, by rw [hx5]; exact hneg⟩
      generalize lgW d a ss = X at *
      generalize lgW (calm d) a ss = Y at *
      obtain ⟨⟨n1, k1, r1, l1, b1⟩, e1⟩ := X
      obtain ⟨⟨n2, k2, r2, l2, b2⟩, e2⟩ := Y
      dsimp only [calm] at *
      subst x0 x1 x2 x3 x4 hx5 y0 y1 y2 y3 y4
      rw [hy5]
    · exact absurd y3 (by show ¬ (0 : Int) ≤ d.left; omega)
  · exact absurd x3 (by omega)
/-- what an addition leaves where nothing falls -/
theorem add_never {d : Dk} {lg : Lg} {l : List Ch} {deeds : List (List Ch)} (hd : d.down = false) (hneg : d.left < 0) (fit : lg.frm + lg.many ≤ d.now.length) (used : lg.used ≤ lg.many) (inv : LogInv lg.first (secsOf d lg) deeds lg.used) :
    ((addR d lg l).2.2 = 0 ∧ AddPre (addR d lg l).1 (addR d lg l).2.1 l (deeds ++ [l]) ∧ (addR d lg l).2.1 = ⟨lg.frm, lg.many, lg.first, lg.used + (l.length + 1)⟩ ∧ (addR d lg l).1.now.length = d.now.length ∧ (addR d lg l).1.left < 0 ∧ l.length ≤ 62 ∧ l.length + 1 ≤ lg.many - lg.used ∧ chksC l = 0) ∨
    ((addR d lg l).2.2 = (if 62 < l.length then 2 else if lg.many - lg.used < l.length + 1 then 9 else chksC l) ∧ (addR d lg l).2.2 ≠ 0 ∧ (addR d lg l).1 = d ∧ (addR d lg l).2.1 = lg) := by
  have hpre : AddPre (calm d) lg l deeds := ⟨⟨rfl, rfl, hd⟩, fit, used, inv⟩
  by_cases h62 : 62 < l.length
  · right
    have e : addR d lg l = (d, lg, 2) := by unfold addR; rw [if_pos h62]
    rw [e, if_pos h62]
    exact ⟨rfl, (by decide : (2 : Int) ≠ 0), rfl, rfl⟩
  by_cases hro : lg.many - lg.used < l.length + 1
  · right
    have e : addR d lg l = (d, lg, 9) := by unfold addR; rw [if_neg h62, if_pos hro]
    rw [e, if_neg h62, if_pos hro]
    exact ⟨rfl, (by decide : (9 : Int) ≠ 0), rfl, rfl⟩
  by_cases hck : chksC l = 0
  rotate_left
  · right
    have e : addR d lg l = (d, lg, chksC l) := by unfold addR; rw [if_neg h62, if_neg hro, if_pos hck]
    rw [e, if_neg h62, if_neg hro]
    exact ⟨rfl, hck, rfl, rfl⟩
  left
  have hAN : addN lg l ≤ lg.many - lg.used := by unfold addN; omega
  have hns : ∀ s ∈ List.replicate (addN lg l) (⟨#[]⟩ : ByteArray), s.size ≤ 48 := fun s hs => by rw [(List.mem_replicate.1 hs).2]; exact Nat.zero_le _
  have hdl : (deedS (lg.first + lg.used) l).length = l.length + 1 := by unfold deedS; rw [List.length_map, deedL_len]
  have hds : ∀ s ∈ deedS (lg.first + lg.used) l, s.size ≤ 48 := fun s hs => by
    unfold deedS at hs
    obtain ⟨x, hx, rfl⟩ := List.mem_map.1 hs
    rw [str_size]; exact deedL_small hck x hx
  obtain ⟨c1, c2, c3, c4, c5⟩ := lgW_calm (List.replicate (addN lg l) ⟨#[]⟩) d (lg.frm + lg.used) hd hneg (by rw [List.length_replicate]; omega) hns
  have e : addR d lg l = addR (calm d) lg l := by
    have k1 : ∀ d, addR d lg l = (let x := lgW d (lg.frm + lg.used) (List.replicate (addN lg l) ⟨#[]⟩)
      if x.2 ≠ 0 then (x.1, lg, x.2)
      else
        let y := lgW x.1 (lg.frm + lg.used) (deedS (lg.first + lg.used) l)
        if y.2 ≠ 0 then (y.1, lg, y.2) else (y.1, ⟨lg.frm, lg.many, lg.first, lg.used + (l.length + 1)⟩, 0)) := fun d => by
      unfold addR; rw [if_neg h62, if_neg hro, if_neg (by rw [hck]; decide)]
    rw [k1 d, k1 (calm d), c1]
  rw [e]
  rcases add_spec hpre with ⟨a1, a2, a3, a4, a5, a6⟩ | ⟨a1, a2, -⟩ | ⟨-, -, -, -, a5⟩
  · exact ⟨a1, a2, a3, a4, by rw [a5 hneg]; exact hneg, a6⟩
  · exact absurd a2 (by show ¬ (0 : Int) ≤ d.left; omega)
  · exfalso
    rcases a5 with h | h | h
    · exact h62 h
    · exact hro h
    · exact h hck
end Go.Proofs.YtikkakdeapbioaaDoor
