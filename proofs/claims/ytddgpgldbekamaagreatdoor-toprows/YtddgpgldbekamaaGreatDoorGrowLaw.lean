/- A realm that has grown by acts is whole. -/
import Derived.Test.YtddgpgldbekamaaGreatDoorGrownW
import Derived.Test.YtddgpgldbekamaaGreatDoorRealmTops2
set_option linter.unusedVariables false
namespace Go.Proofs.YtddgpgldbekamaaGreatDoor
open Go.RowKit

theorem whole_do {r : Rm} {x : Ac} (hi : Whole r) (hc : doC r x = 0) : Whole (doR r x) := by
  unfold doC at hc
  unfold doR
  split at hc
  · rw [if_pos ‹_›]; exact whole_make hi hc
  · rw [if_neg ‹_›]
    split at hc
    · rw [if_pos ‹_›]; exact whole_give hi hc
    · rw [if_neg ‹_›]
      split at hc
      · rw [if_pos ‹_›]; exact whole_move hi hc
      · rw [if_neg ‹_›]
        split at hc
        · rw [if_pos ‹_›]; exact whole_drop hi _ _
        · rw [if_neg ‹_›]
          split at hc
          · rw [if_pos ‹_›]; exact whole_revoke hi _ _
          · rw [if_neg ‹_›]
            split at hc
            · rw [if_pos ‹_›]; exact whole_write hi hc
            · rw [if_neg ‹_›]
              split at hc
              · rw [if_pos ‹_›]; exact whole_send hi hc
              · rw [if_neg ‹_›]
                split at hc
                · rw [if_pos ‹_›]; exact whole_take hi hc
                · rw [if_neg ‹_›]; exact hi
theorem whole_step {r : Rm} (x : Ac) (h : Whole r) : Whole (stepR r x) := by
  unfold stepR
  split
  · exact whole_do h ‹_›
  · exact h
theorem whole_foldl (l : List Ac) : ∀ {r : Rm}, Whole r → Whole (l.foldl stepR r) := by
  induction l with
  | nil => intro r h; exact h
  | cons x l ih => intro r h; exact ih (whole_step x h)
theorem whole_grow (l : List Ac) : Whole (growR l) := whole_foldl l whole_new
end Go.Proofs.YtddgpgldbekamaaGreatDoor
