/- What the pattern's Beneath and Above come to in lists of writs that are right (C1): pure theory. -/
import Derived.Test.YtnjncemjghmpoaaTreePure
set_option linter.unusedVariables false
namespace Go.Proofs.Ytnjncemjghmpoaa
open Go.RowKit

theorem idPos {l : List Wr} (hg : GoodW l) {x : Wr} (hx : x ∈ l) : 1 ≤ x.id := (hg.1 x hx).1
/-- is a number above a writ? -/
def isAbv (l : List Wr) (a : Int) (x : Wr) : Bool := inB (aboveL l x.id) a
theorem isAbv_iff {l : List Wr} (hg : GoodW l) {a : Int} {x : Wr} {L : List Int} (hx : x ∈ l) (h : Abv l x L) : isAbv l a x = true ↔ a ∈ L := by
  unfold isAbv inB
  rw [List.contains_iff_mem, abv_uniq hg.2.1 (above_abv hg hx) h]
/-- those beneath, one by one -/
def bnPart (l : List Wr) (a : Int) (x : Wr) : List Int := if isAbv l a x = true then [x.id] else []
theorem bnPart_le (l : List Wr) (a : Int) (x : Wr) : (bnPart l a x).length ≤ 1 := by unfold bnPart; split <;> simp
theorem bn_parts {l : List Wr} (hg : GoodW l) (a : Int) : beneathL l a = l.flatMap (bnPart l a) := by
  have key : ∀ n, n ≤ l.length → (l.take n).foldl (bnStep a) [] = (l.take n).flatMap (bnPart l a) := by
    intro n
    induction n with
    | zero => intro _; simp
    | succ n ih =>
      intro hn
      have hlt : n < l.length := by omega
      have hx : l[n]? = some l[n] := List.getElem?_eq_getElem hlt
      have hxl : l[n] ∈ l := List.getElem_mem hlt
      rw [List.take_succ_eq_append_getElem hlt, List.foldl_append, List.flatMap_append, ih (by omega)]
      generalize hM : (l.take n).flatMap (bnPart l a) = M
      generalize hxx : l[n] = x at hx hxl
      have hb := bn_iff hg a hxl
      have h2 : x.id ∈ beneathL l a ↔ isAbv l a x = true := by
        rw [abv_beneath hg a (above_abv hg hxl) hxl]
        unfold isAbv inB
        rw [List.contains_iff_mem]
      have hmem : ∀ y ∈ l, y.id < x.id → (y.id ∈ M ↔ y.id ∈ beneathL l a) := by
        intro y hy hlt'
        have hyt := take_of_lt hg.2.1 hx hy hlt'
        rw [← hM, List.mem_flatMap]
        have hy2 : y.id ∈ beneathL l a ↔ isAbv l a y = true := by
          rw [abv_beneath hg a (above_abv hg hy) hy]
          unfold isAbv inB
          rw [List.contains_iff_mem]
        rw [hy2]
        constructor
        · rintro ⟨z, hz, hzy⟩
          unfold bnPart at hzy
          split at hzy
          · rename_i hp
            have e := List.mem_singleton.1 hzy
            have := uniqW hg.2.1 (List.mem_of_mem_take hz) hy e.symm
            subst this
            exact hp
          · cases hzy
        · intro hp
          exact ⟨y, hyt, by unfold bnPart; rw [if_pos hp]; simp⟩
      have his : bnIs a M x ↔ isAbv l a x = true := by
        rw [← h2, hb]
        unfold bnIs
        constructor
        · rintro ⟨h0, h⟩
          refine ⟨h0, ?_⟩
          rcases h with h | h
          · exact .inl h
          · right
            obtain ⟨y, hy, he, _⟩ := (hg.2.2 x hxl).resolve_left h0
            have hlt' : x.frm < x.id := (hg.1 x hxl).2.2.2.2.2.2.2.1
            rw [← he] at h ⊢
            exact (hmem y hy (by omega)).1 (by simpa using h)
        · rintro ⟨h0, h⟩
          refine ⟨h0, ?_⟩
          rcases h with h | h
          · exact .inl h
          · right
            obtain ⟨y, hy, he, _⟩ := (hg.2.2 x hxl).resolve_left h0
            have hlt' : x.frm < x.id := (hg.1 x hxl).2.2.2.2.2.2.2.1
            rw [← he] at h ⊢
            have := (hmem y hy (by omega)).2 h
            simpa using this
      show bnStep a M x = M ++ [x].flatMap (bnPart l a)
      unfold bnStep
      by_cases hp : isAbv l a x = true
      · rw [if_pos (his.2 hp)]; simp [bnPart, hp]
      · rw [if_neg (fun h => hp (his.1 h))]; simp [bnPart, hp]
  have := key l.length (Nat.le_refl _)
  rw [List.take_length] at this
  unfold beneathL
  exact this
theorem bnp_same {l : List Wr} {k : Nat} {x : Wr} {f : Wr → List Int} (hx : l[k]? = some x) (h : f x = []) : (l.take (k + 1)).flatMap f = (l.take k).flatMap f := by
  rw [List.take_add_one, hx]; simp [h]
theorem bnp_snoc {l : List Wr} {k : Nat} {x : Wr} {f : Wr → List Int} {y : Int} (hx : l[k]? = some x) (h : f x = [y]) : (l.take (k + 1)).flatMap f = (l.take k).flatMap f ++ [y] := by
  rw [List.take_add_one, hx]; simp [h]
theorem bnp_len {f : Wr → List Int} (hf : ∀ x, (f x).length ≤ 1) : ∀ l : List Wr, (l.flatMap f).length ≤ l.length
  | [] => by simp
  | x :: r => by
    have h1 := bnp_len hf r
    have h2 := hf x
    rw [List.flatMap_cons, List.length_append, List.length_cons]; omega
/-- the way up from a number -/
def Up (l : List Wr) (f : Int) (L : List Int) : Prop := (f = 0 ∧ L = []) ∨ (1 ≤ f ∧ ∃ y ∈ l, y.id = f ∧ ∃ M, Abv l y M ∧ L = f :: M)
theorem up_of {l : List Wr} (hg : GoodW l) {x : Wr} {L : List Int} (h : Abv l x L) : Up l x.frm L := by
  cases h with
  | nil h0 => exact .inl ⟨h0, rfl⟩
  | cons h0 hy he ha => exact .inr ⟨by have := idPos hg hy; omega, _, hy, he, _, ha, rfl⟩
theorem up_zero {l : List Wr} {L : List Int} (h : Up l 0 L) : L = [] := by
  rcases h with ⟨_, h⟩ | ⟨h, _⟩
  · exact h
  · omega
/-- the next one up -/
theorem up_next {l : List Wr} (hg : GoodW l) {f : Int} {L : List Int} (h : Up l f L) (h0 : ¬ f = 0) : ∃ (j : Nat) (y : Wr) (M : List Int), find l f = (j : Int) ∧ l[j]? = some y ∧ y.id = f ∧ 1 ≤ f ∧ y.frm < f ∧ 0 ≤ y.frm ∧ L = f :: M ∧ Up l y.frm M := by
  rcases h with ⟨h, _⟩ | ⟨h1, y, hy, he, M, ha, hL⟩
  · exact absurd h h0
  · obtain ⟨j, hj⟩ := find_mem hy he
    obtain ⟨z, hz, hze⟩ := find_get hj
    have := uniqW hg.2.1 (List.mem_of_getElem? hz) hy (hze.trans he.symm)
    subst this
    have hok := hg.1 z hy
    exact ⟨j, z, M, hj, hz, he, h1, by have := hok.2.2.2.2.2.2.2.1; omega, hok.2.2.2.2.2.2.1, hL, up_of hg ha⟩
theorem above_none {l : List Wr} {id : Int} (h : find l id < 0) : aboveL l id = [] := by
  unfold aboveL
  cases l.length with
  | zero => rfl
  | succ n => unfold abv; rw [if_pos h]
theorem above_up {l : List Wr} (hg : GoodW l) {id : Int} {j : Nat} (h : find l id = (j : Int)) : ∃ x, l[j]? = some x ∧ x.id = id ∧ Up l x.frm (aboveL l id) := by
  obtain ⟨x, hx, he⟩ := find_get h
  subst he
  exact ⟨x, hx, rfl, up_of hg (above_abv hg (List.mem_of_getElem? hx))⟩
theorem isAbv_up {l : List Wr} (hg : GoodW l) {x : Wr} (hx : x ∈ l) : Up l x.frm (aboveL l x.id) := up_of hg (above_abv hg hx)
theorem up_pos {l : List Wr} {f : Int} {L : List Int} (h : Up l f L) : 0 ≤ f := by
  rcases h with ⟨h, _⟩ | ⟨h, _⟩ <;> omega
end Go.Proofs.Ytnjncemjghmpoaa
