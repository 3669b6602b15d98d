/- Deeds that are copied, and one more behind them: append(append([][]api.Change(nil), l...), x). -/
import Derived.Test.YtjhkabhhlpdpaaaSameD
set_option linter.unusedVariables false
set_option linter.unusedSimpArgs false
namespace Go.Proofs.Ytjhkabhhlpdpaaa
open Go.RowKit

/-- the cells of deeds -/
def DdR (B : Nat → Prop) (w : World) (cs : List Value) (L : List (List Ch)) : Prop := cs.length = L.length ∧ ∀ (j : Nat) (x : List Ch), L[j]? = some x → ∃ (a : Option Addr) (c : Nat), cs[j]? = some (Value.slice a x.length c) ∧ ChsB B w a x
theorem DdR.tr {B B' : Nat → Prop} {w w' : World} {cs : List Value} {L : List (List Ch)} (h : DdR B w cs L) (ht : Tr B B' w w') : DdR B' w' cs L :=
  ⟨h.1, fun j x hx => by obtain ⟨a, c, h1, h2⟩ := h.2 j x hx; exact ⟨a, c, h1, h2.tr ht⟩⟩
theorem DdR.snoc {B : Nat → Prop} {w : World} {cs : List Value} {L : List (List Ch)} {a : Option Addr} {c : Nat} {x : List Ch} (h : DdR B w cs L) (hx : ChsB B w a x) : DdR B w (cs ++ [.slice a x.length c]) (L ++ [x]) := by
  refine ⟨by simp [h.1], fun j y hy => ?_⟩
  by_cases hj : j < L.length
  · rw [List.getElem?_append_left hj] at hy
    obtain ⟨a', c', h1, h2⟩ := h.2 j y hy
    exact ⟨a', c', by rw [List.getElem?_append_left (by rw [h.1]; exact hj)]; exact h1, h2⟩
  · rw [List.getElem?_append_right (by omega)] at hy
    have : j - L.length = 0 := by
      have := (List.getElem?_eq_some_iff.1 hy).1
      simp at this; omega
    rw [this] at hy
    simp at hy
    subst hy
    exact ⟨a, c, by rw [List.getElem?_append_right (by rw [h.1]; omega), h.1, this]; rfl, hx⟩
theorem DdsB.cells {B : Nat → Prop} {w : World} {a : Option Addr} {L : List (List Ch)} (h : DdsB B w a L) : ∃ cs, DdR B w cs L ∧ (L = [] ∨ ∃ b o, a = some ⟨b, o, none⟩ ∧ b < w.heap.size ∧ ¬ B b ∧ ∀ j u, cs[j]? = some u → w.cell? ⟨b, o + j, none⟩ = some u) := by
  rcases h with rfl | ⟨b, o, ha, hb, hn, hc⟩
  · exact ⟨[], ⟨rfl, fun j x hx => by simp at hx⟩, .inl rfl⟩
  · refine ⟨(List.range L.length).map (fun j => (w.cell? ⟨b, o + j, none⟩).getD undef), ⟨by simp, fun j x hx => ?_⟩, .inr ⟨b, o, ha, hb, hn, fun j u hu => ?_⟩⟩
    · obtain ⟨a', c', h1, h2⟩ := hc j x hx
      have hj := (List.getElem?_eq_some_iff.1 hx).1
      exact ⟨a', c', by simp [hj, h1], h2⟩
    · have hj : j < L.length := by have := (List.getElem?_eq_some_iff.1 hu).1; simpa using this
      obtain ⟨a', c', h1, h2⟩ := hc j L[j] (List.getElem?_eq_getElem hj)
      simp [hj, h1] at hu
      rw [h1, hu]
theorem DdsB.of_own {B : Nat → Prop} {w : World} {base : Nat} {v : Value} {n : Nat} {cs : List Value} {L : List (List Ch)} (h : w.ownsRow base 38 1 v n cs) (hr : DdR B w cs L) (hB : ∀ k, v.ownBlock = some k → ¬ B k) : ∃ a c, v = .slice a L.length c ∧ DdsB B w a L := by
  have hn : n = L.length := by have := h.1; have := hr.1; omega
  subst hn
  rcases h.2 with ⟨rfl, h0⟩ | ⟨g, cap, cur, rfl, hb, hg, -⟩
  · exact ⟨none, 0, by rw [h0], .inl (List.length_eq_zero_iff.1 h0)⟩
  · refine ⟨_, _, rfl, .inr ⟨g, 0, rfl, heap_lt hg, hB g rfl, fun j x hx => ?_⟩⟩
    obtain ⟨a, c, h1, h2⟩ := hr.2 j x hx
    exact ⟨a, c, by rw [Nat.zero_add]; exact own_at h rfl h1, h2⟩
theorem one_slices {B : Nat → Prop} {w : World} {cs : List Value} {L : List (List Ch)} (h : DdR B w cs L) : ∀ u ∈ cs, u.oneCell' = true := by
  intro u hu
  obtain ⟨j, hj⟩ := List.mem_iff_getElem?.1 hu
  have hjl : j < L.length := by have := (List.getElem?_eq_some_iff.1 hj).1; have := h.1; omega
  obtain ⟨a, c, h1, -⟩ := h.2 j L[j] (List.getElem?_eq_getElem hjl)
  rw [hj] at h1
  simp at h1
  rw [h1]; rfl
/-- append onto nothing: a copy of its own -/
theorem run_cpy {B : Nat → Prop} {w : World} (a : Option Addr) (c : Nat) {L : List (List Ch)} (h : DdsB B w a L) (hl : L.length ≤ 100000) (ty : TypeId) :
    ∃ v w' cs, (Builtin.append_ #[71, 71] ty #[.slice none 0 0, .slice a L.length c]).run Try.prog w = .ok v w' ∧ w'.ownsRow w.heap.size 38 1 v L.length cs ∧ DdR B w' cs L ∧ Below w.heap.size w w' ∧ DdR B w cs L := by
  obtain ⟨cs, hr, hcs⟩ := h.cells
  have hI := infoLC
  cases hq : Try.prog.info? 38 with
  | none => simp [hq] at hI
  | some inf =>
    obtain ⟨h1, h2, h3⟩ : inf.zero = some (.slice none 0 0) ∧ inf.size = 1 ∧ inf.bytes = 24 := by simpa [hq] using hI
    cases a with
    | none =>
      have hL : L = [] := by
        rcases hcs with h | ⟨b, o, h, -⟩
        · exact h
        · cases h
      subst hL
      have : cs = [] := List.length_eq_zero_iff.1 (by simpa using hr.1)
      subst this
      refine ⟨.slice none 0 0, w, [], ?_, World.ownsRow_nil _ _ _ _, hr, Below.refl _ _, hr⟩
      simp [Builtin.append_, run_underlying Try.underlying71, sizeOf, typeInfo, hq, Builtin.lenOf, Builtin.firstCells, loadCells, loadCellsFrom]
    | some ad =>
      have hcells : ∀ j u, cs[j]? = some u → w.cell? (ad.add j) = some u := fun j u hu => by
        rcases hcs with h | ⟨b, o, h, -, -, hc⟩
        · have : cs = [] := List.length_eq_zero_iff.1 (by rw [hr.1, h]; rfl)
          rw [this] at hu; simp at hu
        · cases h
          rw [Addr.add_mid]; exact hc j u hu
      obtain ⟨v', w', r1, r2, r3, -, r5⟩ := run_append_own_at (P := Try.prog) w w.heap.size 71 ty 38 inf (.slice none 0 0) 1 24 Try.underlying71 hq h1 h2 h3 rfl (by decide) (.slice none 0 0) 0 [] (World.ownsRow_nil _ _ _ _) ad L.length c cs (by rw [hr.1]; omega) hcells (one_slices hr) (by simp [maxLen]; omega) (by omega) (Nat.le_refl _)
      rw [Nat.zero_add, List.nil_append] at r2
      have hbw : Below w.heap.size w w' := ⟨r3.os, r3.tape, r3.output, r3.size, fun k hk => r3.block k hk (by simp [Value.ownBlock])⟩
      exact ⟨v', w', cs, r1, r2, hr.tr (Tr.of_below hbw), hbw, hr⟩
/-- one more behind the copy -/
theorem run_more {B : Nat → Prop} {w : World} {base : Nat} {v : Value} {L : List (List Ch)} {cs : List Value} (ho : w.ownsRow base 38 1 v L.length cs) (hr : DdR B w cs L) (hl : L.length ≤ 100000) (hb : base ≤ w.heap.size) (hB : ∀ k, v.ownBlock = some k → ¬ B k) (hBl : Lt B w) (g : Nat) (a : Option Addr) (c : Nat) (x : List Ch) (hg : w.heap[g]? = some (.cells #[.slice a x.length c] 38 (0, 0))) (hx : ChsB B w a x) (hxo : ∀ b o : Nat, x ≠ [] → a = some ⟨b, o, none⟩ → v.ownBlock ≠ some b) (hco : ∀ (j : Nat) (y : List Ch), L[j]? = some y → ∀ (a : Option Addr) (c : Nat), cs[j]? = some (Value.slice a y.length c) → ∀ b o : Nat, y ≠ [] → a = some (⟨b, o, none⟩ : Addr) → v.ownBlock ≠ some b) (ty : TypeId) :
    ∃ a' c' w', (Builtin.append_ #[71, 71] ty #[v, .slice (some ⟨g, 0, none⟩) 1 1]).run Try.prog w = .ok (.slice a' (L ++ [x]).length c') w' ∧ DdsB B w' a' (L ++ [x]) ∧ w.grownBy w' v.ownBlock := by
  obtain ⟨v', w', r1, r2, r3, r5⟩ := run_app 71 38 ty Try.underlying71 infoLC rfl (by decide) (by decide) ho (by omega) hb (news := [.slice a x.length c]) rfl (by intro u hu; simp at hu; rw [hu]; rfl) g hg
  have hkeep : ∀ a x, ChsB B w a x → (∀ b o, x ≠ [] → a = some ⟨b, o, none⟩ → v.ownBlock ≠ some b) → ChsB B w' a x := fun a x h hne => by
    rcases h with h | ⟨b, o, ha, hb, hn, hc⟩
    · exact .inl h
    · by_cases hx0 : x = []
      · exact .inl hx0
      · exact .inr ⟨b, o, ha, Nat.lt_of_lt_of_le hb r3.size, hn, fun j y hy => (hc j y hy).at_same (r3.block b hb (fun e => hne b o hx0 ha e.symm))⟩
  have hr' : DdR B w' cs L := ⟨hr.1, fun j y hy => by
    obtain ⟨a1, c1, h1, h2⟩ := hr.2 j y hy
    exact ⟨a1, c1, h1, hkeep a1 y h2 (hco j y hy a1 c1 h1)⟩⟩
  obtain ⟨a', c', rfl, hd⟩ := DdsB.of_own (L := L ++ [x]) r2 (hr'.snoc (c := c) (hkeep a x hx hxo)) (fun k hk => by
    rcases r5 with e | e
    · exact hB k (e ▸ hk)
    · rw [e] at hk; simp at hk; subst hk; exact fun e => by have := hBl _ e; omega)
  exact ⟨a', c', w', r1, hd, r3⟩
/-- a copy, and one more behind it -/
theorem run_both {B : Nat → Prop} {w : World} {v : Value} {L : List (List Ch)} {cs : List Value} {w1 : World} (h1 : w1.ownsRow w.heap.size 38 1 v L.length cs) (hr : DdR B w1 cs L) (hb : Below w.heap.size w w1) (hr0 : DdR B w cs L) (hl : L.length ≤ 100000) (hBl : Lt B w) (g : Nat) (a : Option Addr) (c : Nat) (x : List Ch) (hg : w1.heap[g]? = some (.cells #[.slice a x.length c] 38 (0, 0))) (hx : ChsB B w a x) (ty : TypeId) :
    ∃ a' c' w', (Builtin.append_ #[71, 71] ty #[v, .slice (some ⟨g, 0, none⟩) 1 1]).run Try.prog w1 = .ok (.slice a' (L ++ [x]).length c') w' ∧ DdsB B w' a' (L ++ [x]) ∧ Below w.heap.size w w' := by
  have hnew : ∀ k, v.ownBlock = some k → w.heap.size ≤ k := fun k hk => (h1.lt k hk).1
  have hold : ∀ a x, ChsB B w a x → ∀ b o, x ≠ [] → a = some ⟨b, o, none⟩ → v.ownBlock ≠ some b := fun a x h b o hx ha e => by
    rcases h with h | ⟨b', o', ha', hb', -⟩
    · exact hx h
    · rw [ha] at ha'
      simp at ha'
      have := hnew b e
      omega
  obtain ⟨a', c', w', r1, hd, r3⟩ := run_more h1 hr hl hb.size (fun k hk e => by have := hnew k hk; have := hBl k e; omega) (fun k hk => Nat.lt_of_lt_of_le (hBl k hk) hb.size) g a c x hg (hx.tr (Tr.of_below hb)) (hold a x hx) (fun j y hy a1 c1 h1 => by
    obtain ⟨a2, c2, k1, k2⟩ := hr0.2 j y hy
    rw [h1] at k1
    simp at k1
    rw [k1.1]
    exact hold a2 y k2) ty
  exact ⟨a', c', w', r1, hd, r3.os.trans hb.os, r3.tape.trans hb.tape, r3.output.trans hb.output, Nat.le_trans hb.size r3.size, fun k hk => (r3.block k (Nat.lt_of_lt_of_le hk hb.size) (fun e => by have := hnew k e.symm; omega)).trans (hb.block k hk)⟩
theorem DdsB.outside {B : Nat → Prop} {w0 w : World} {a : Option Addr} {L : List (List Ch)} (h : DdsB (fun _ => False) w0 a L) (hb : Below w0.heap.size w0 w) (hB : ∀ k, B k → w0.heap.size ≤ k) : DdsB B w a L := by
  rcases h with h | ⟨b, o, ha, hlt, -, hc⟩
  · exact .inl h
  · refine .inr ⟨b, o, ha, Nat.lt_of_lt_of_le hlt hb.size, fun e => by have := hB b e; omega, fun j x hx => ?_⟩
    obtain ⟨a', c', h1, h2⟩ := hc j x hx
    exact ⟨a', c', by rw [(bcell hb).1 _ _ hlt]; exact h1, ChsAt.outside (base := 0) h2.at_ hb hB⟩
end Go.Proofs.Ytjhkabhhlpdpaaa
