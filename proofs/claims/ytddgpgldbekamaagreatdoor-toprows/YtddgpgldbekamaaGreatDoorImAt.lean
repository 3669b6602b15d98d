/- image: rows that were made, as a list that is handed on; what Parse says of a quiet realm's rows. -/
import Derived.Test.YtddgpgldbekamaaGreatDoorImRw
import Derived.Test.YtddgpgldbekamaaGreatDoorImPa
import Derived.Test.YtddgpgldbekamaaGreatDoorImPure
set_option linter.unusedVariables false
set_option linter.unusedSimpArgs false
namespace Go.Proofs.YtddgpgldbekamaaGreatDoor
open Go.RowKit

theorem chs_of_row {w : World} {base : Nat} {e : TypeId} {v : Value} {l : List Ch} (h : w.ownsRow base e 3 v l.length (l.flatMap chI)) (hs : ∀ c ∈ l, c.key.size ≤ maxLen ∧ c.val.size ≤ maxLen) : ∃ a c, v = .slice a l.length c ∧ ChsAt w a l := by
  rcases row_open h with ⟨rfl, rfl⟩ | ⟨g, cap, rfl, hbg, hg, hf, hc⟩
  · exact ⟨none, 0, rfl, .inl rfl⟩
  · refine ⟨_, _, rfl, .inr ⟨g, 0, rfl, hg, fun j x hx => ?_⟩⟩
    have key : ∀ k, k < 3 → (l.flatMap chI)[j * 3 + k]? = (chI x)[k]? := fun k hk => flat_get chI 3 (fun _ => rfl) l j k x hx hk
    obtain ⟨s1, s2⟩ := hs x (List.mem_of_getElem? hx)
    refine ⟨⟨?_, ?_, ?_⟩, s1, s2⟩
    · have := hc (j * 3 + 0) _ (key 0 (by omega)); simpa using this
    · have := hc (j * 3 + 1) _ (key 1 (by omega)); simpa using this
    · have := hc (j * 3 + 2) _ (key 2 (by omega)); simpa using this
theorem rows_small {r : Rm} (h : ImOk r) : ∀ c ∈ rowsL r, c.key.size ≤ 8 ∧ c.val.size ≤ 24 := by
  intro c hc
  unfold rowsL at hc
  simp only [List.mem_append, List.mem_map, List.mem_singleton] at hc
  rcases hc with ((⟨x, -, rfl⟩ | ⟨x, hx, rfl⟩) | ⟨x, -, rfl⟩) | rfl
  · simp [hRow, bsO_size, d4]
  · have := (h.t x hx).2.2
    have h2 : x.data.data.toList.length = x.data.size := by simp
    constructor
    · simp [tRow, bsO_size, d4]
    · show (bsO _).size ≤ 24
      rw [bsO_size, List.length_append, d4_len]; omega
  · simp [wRow, bsO_size, d4]
  · simp [xRow, bsO_size, d4]
theorem rows_max {r : Rm} (h : ImOk r) : ∀ c ∈ rowsL r, c.key.size ≤ maxLen ∧ c.val.size ≤ maxLen := fun c hc => by
  have := rows_small h c hc
  unfold maxLen; omega
end Go.Proofs.YtddgpgldbekamaaGreatDoor
