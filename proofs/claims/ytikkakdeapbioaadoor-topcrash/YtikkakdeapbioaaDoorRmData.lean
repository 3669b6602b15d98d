/- Things, notes and realms as plain data, and where they lie in memory: definitions and small lemmas on lists and worlds; nothing of the program. -/
import Derived.Test.YtikkakdeapbioaaDoorAllPure
set_option linter.unusedVariables false
namespace Go.Proofs.YtikkakdeapbioaaDoor
open Go.RowKit

/-- a thing -/
structure Th where
  id : Int
  kind : Int
  data : ByteArray
/-- a note -/
structure Nt where
  port : Int
  data : ByteArray
  badge : Int
  writ : Int
theorem Th.ext3 {x y : Th} (h1 : x.id = y.id) (h2 : x.kind = y.kind) (h3 : x.data = y.data) : x = y := by cases x; cases y; simp_all
theorem Nt.ext4 {x y : Nt} (h1 : x.port = y.port) (h2 : x.data = y.data) (h3 : x.badge = y.badge) (h4 : x.writ = y.writ) : x = y := by cases x; cases y; simp_all
def tcells (x : Th) : List Value := [.int .i64 x.id, .int .i64 x.kind, .string x.data]
def ncells (x : Nt) : List Value := [.int .i64 x.port, .string x.data, .int .i64 x.badge, .int .i64 x.writ]
def ThAt (w : World) (b o : Nat) (x : Th) : Prop :=
  w.cell? ⟨b, o, none⟩ = some (.int .i64 x.id) ∧ w.cell? ⟨b, o + 1, none⟩ = some (.int .i64 x.kind) ∧ w.cell? ⟨b, o + 2, none⟩ = some (.string x.data)
def ThsAt (w : World) (a : Option Addr) (l : List Th) : Prop :=
  l = [] ∨ ∃ b o, a = some ⟨b, o, none⟩ ∧ b < w.heap.size ∧ ∀ j x, l[j]? = some x → ThAt w b (o + j * 3) x
def NtAt (w : World) (b o : Nat) (x : Nt) : Prop :=
  w.cell? ⟨b, o, none⟩ = some (.int .i64 x.port) ∧ w.cell? ⟨b, o + 1, none⟩ = some (.string x.data) ∧ w.cell? ⟨b, o + 2, none⟩ = some (.int .i64 x.badge) ∧ w.cell? ⟨b, o + 3, none⟩ = some (.int .i64 x.writ)
def NtsAt (w : World) (a : Option Addr) (l : List Nt) : Prop :=
  l = [] ∨ ∃ b o, a = some ⟨b, o, none⟩ ∧ b < w.heap.size ∧ ∀ j x, l[j]? = some x → NtAt w b (o + j * 4) x
theorem ThAt.below {W w1 : World} (hb : Below W.heap.size W w1) {b o : Nat} {x : Th} (hlt : b < W.heap.size) (h : ThAt W b o x) : ThAt w1 b o x := by
  obtain ⟨h1, h2, h3⟩ := h
  have g := (bcell hb).1
  exact ⟨by rw [g _ _ hlt]; exact h1, by rw [g _ _ hlt]; exact h2, by rw [g _ _ hlt]; exact h3⟩
theorem NtAt.below {W w1 : World} (hb : Below W.heap.size W w1) {b o : Nat} {x : Nt} (hlt : b < W.heap.size) (h : NtAt W b o x) : NtAt w1 b o x := by
  obtain ⟨h1, h2, h3, h4⟩ := h
  have g := (bcell hb).1
  exact ⟨by rw [g _ _ hlt]; exact h1, by rw [g _ _ hlt]; exact h2, by rw [g _ _ hlt]; exact h3, by rw [g _ _ hlt]; exact h4⟩
theorem ThsAt.below {W w1 : World} (hb : Below W.heap.size W w1) {a : Option Addr} {l : List Th} (h : ThsAt W a l) : ThsAt w1 a l := by
  rcases h with h | ⟨b, o, ha, hlt, hc⟩
  · exact .inl h
  · exact .inr ⟨b, o, ha, Nat.lt_of_lt_of_le hlt hb.size, fun j x hx => (hc j x hx).below hb hlt⟩
theorem NtsAt.below {W w1 : World} (hb : Below W.heap.size W w1) {a : Option Addr} {l : List Nt} (h : NtsAt W a l) : NtsAt w1 a l := by
  rcases h with h | ⟨b, o, ha, hlt, hc⟩
  · exact .inl h
  · exact .inr ⟨b, o, ha, Nat.lt_of_lt_of_le hlt hb.size, fun j x hx => (hc j x hx).below hb hlt⟩

theorem ThAt_new (w : World) (t : TypeId) (x : Th) : ThAt (w.alloc (.cells #[.int .i64 x.id, .int .i64 x.kind, .string x.data] t)) w.heap.size 0 x := by
  refine ⟨?_, ?_, ?_⟩ <;> (rw [World.cell?_alloc_new]; rfl)
theorem HdAt_new (w : World) (t : TypeId) (x : Hd) : HdAt (w.alloc (.cells #[.int .i64 x.holder, .int .i64 x.slot, .int .i64 x.writ] t)) w.heap.size 0 x := by
  refine ⟨?_, ?_, ?_⟩ <;> (rw [World.cell?_alloc_new]; rfl)
theorem NtAt_new (w : World) (t : TypeId) (x : Nt) : NtAt (w.alloc (.cells #[.int .i64 x.port, .string x.data, .int .i64 x.badge, .int .i64 x.writ] t)) w.heap.size 0 x := by
  refine ⟨?_, ?_, ?_, ?_⟩ <;> (rw [World.cell?_alloc_new]; rfl)

/-! ### From elements to flat cells and back -/
theorem flat_cells {α : Type} (f : α → List Value) (s : Nat) (hs : 0 < s) (hf : ∀ x, (f x).length = s) (l : List α) (w : World) (b o : Nat)
    (h : ∀ j x, l[j]? = some x → ∀ k u, (f x)[k]? = some u → w.cell? ⟨b, o + j * s + k, none⟩ = some u) : ∀ j u, (l.flatMap f)[j]? = some u → w.cell? ⟨b, o + j, none⟩ = some u := by
  intro j u hu
  have hj : j < (l.flatMap f).length := (List.getElem?_eq_some_iff.1 hu).1
  rw [flat_len f s hf] at hj
  have hd : j / s < l.length := by rw [Nat.div_lt_iff_lt_mul hs]; exact hj
  obtain ⟨x, hx⟩ : ∃ x, l[j / s]? = some x := ⟨l[j / s], List.getElem?_eq_getElem hd⟩
  have hm : j % s < s := Nat.mod_lt _ hs
  have e : j / s * s + j % s = j := by rw [Nat.mul_comm]; exact Nat.div_add_mod j s
  have := flat_get f s hf l (j / s) (j % s) x hx hm
  rw [e, hu] at this
  have := h _ x hx _ u this.symm
  rwa [Nat.add_assoc, e] at this
theorem wr_flat {w : World} {b o : Nat} {l : List Wr} (h : ∀ j x, l[j]? = some x → WrAt w b (o + j * 5) x) : ∀ j u, (l.flatMap wcells)[j]? = some u → w.cell? ⟨b, o + j, none⟩ = some u := by
  refine flat_cells wcells 5 (by omega) (fun _ => rfl) l w b o (fun j x hx k u hu => ?_)
  obtain ⟨h1, h2, h3, h4, h5⟩ := h j x hx
  match k, hu with
  | 0, hu => simp [wcells] at hu; subst hu; exact h1
  | 1, hu => simp [wcells] at hu; subst hu; exact h2
  | 2, hu => simp [wcells] at hu; subst hu; exact h3
  | 3, hu => simp [wcells] at hu; subst hu; exact h4
  | 4, hu => simp [wcells] at hu; subst hu; exact h5
  | k + 5, hu => simp [wcells] at hu
theorem hd_flat {w : World} {b o : Nat} {l : List Hd} (h : ∀ j x, l[j]? = some x → HdAt w b (o + j * 3) x) : ∀ j u, (l.flatMap hcells)[j]? = some u → w.cell? ⟨b, o + j, none⟩ = some u := by
  refine flat_cells hcells 3 (by omega) (fun _ => rfl) l w b o (fun j x hx k u hu => ?_)
  obtain ⟨h1, h2, h3⟩ := h j x hx
  match k, hu with
  | 0, hu => simp [hcells] at hu; subst hu; exact h1
  | 1, hu => simp [hcells] at hu; subst hu; exact h2
  | 2, hu => simp [hcells] at hu; subst hu; exact h3
  | k + 3, hu => simp [hcells] at hu
theorem th_flat {w : World} {b o : Nat} {l : List Th} (h : ∀ j x, l[j]? = some x → ThAt w b (o + j * 3) x) : ∀ j u, (l.flatMap tcells)[j]? = some u → w.cell? ⟨b, o + j, none⟩ = some u := by
  refine flat_cells tcells 3 (by omega) (fun _ => rfl) l w b o (fun j x hx k u hu => ?_)
  obtain ⟨h1, h2, h3⟩ := h j x hx
  match k, hu with
  | 0, hu => simp [tcells] at hu; subst hu; exact h1
  | 1, hu => simp [tcells] at hu; subst hu; exact h2
  | 2, hu => simp [tcells] at hu; subst hu; exact h3
  | k + 3, hu => simp [tcells] at hu
theorem nt_flat {w : World} {b o : Nat} {l : List Nt} (h : ∀ j x, l[j]? = some x → NtAt w b (o + j * 4) x) : ∀ j u, (l.flatMap ncells)[j]? = some u → w.cell? ⟨b, o + j, none⟩ = some u := by
  refine flat_cells ncells 4 (by omega) (fun _ => rfl) l w b o (fun j x hx k u hu => ?_)
  obtain ⟨h1, h2, h3, h4⟩ := h j x hx
  match k, hu with
  | 0, hu => simp [ncells] at hu; subst hu; exact h1
  | 1, hu => simp [ncells] at hu; subst hu; exact h2
  | 2, hu => simp [ncells] at hu; subst hu; exact h3
  | 3, hu => simp [ncells] at hu; subst hu; exact h4
  | k + 4, hu => simp [ncells] at hu
theorem wr_unflat {w : World} {g : Nat} {l : List Wr} (hc : ∀ j u, (l.flatMap wcells)[j]? = some u → w.cell? ⟨g, j, none⟩ = some u) : ∀ j x, l[j]? = some x → WrAt w g (0 + j * 5) x := by
  intro j x hx
  have key : ∀ k, k < 5 → (l.flatMap wcells)[j * 5 + k]? = (wcells x)[k]? := fun k hk => flat_get wcells 5 (fun _ => rfl) l j k x hx hk
  refine ⟨?_, ?_, ?_, ?_, ?_⟩
  · have := hc (j * 5 + 0) _ (key 0 (by omega)); simpa using this
  · have := hc (j * 5 + 1) _ (key 1 (by omega)); simpa using this
  · have := hc (j * 5 + 2) _ (key 2 (by omega)); simpa using this
  · have := hc (j * 5 + 3) _ (key 3 (by omega)); simpa using this
  · have := hc (j * 5 + 4) _ (key 4 (by omega)); simpa using this
theorem hd_unflat {w : World} {g : Nat} {l : List Hd} (hc : ∀ j u, (l.flatMap hcells)[j]? = some u → w.cell? ⟨g, j, none⟩ = some u) : ∀ j x, l[j]? = some x → HdAt w g (0 + j * 3) x := by
  intro j x hx
  have key : ∀ k, k < 3 → (l.flatMap hcells)[j * 3 + k]? = (hcells x)[k]? := fun k hk => flat_get hcells 3 (fun _ => rfl) l j k x hx hk
  refine ⟨?_, ?_, ?_⟩
  · have := hc (j * 3 + 0) _ (key 0 (by omega)); simpa using this
  · have := hc (j * 3 + 1) _ (key 1 (by omega)); simpa using this
  · have := hc (j * 3 + 2) _ (key 2 (by omega)); simpa using this
theorem th_unflat {w : World} {g : Nat} {l : List Th} (hc : ∀ j u, (l.flatMap tcells)[j]? = some u → w.cell? ⟨g, j, none⟩ = some u) : ∀ j x, l[j]? = some x → ThAt w g (0 + j * 3) x := by
  intro j x hx
  have key : ∀ k, k < 3 → (l.flatMap tcells)[j * 3 + k]? = (tcells x)[k]? := fun k hk => flat_get tcells 3 (fun _ => rfl) l j k x hx hk
  refine ⟨?_, ?_, ?_⟩
  · have := hc (j * 3 + 0) _ (key 0 (by omega)); simpa using this
  · have := hc (j * 3 + 1) _ (key 1 (by omega)); simpa using this
  · have := hc (j * 3 + 2) _ (key 2 (by omega)); simpa using this
theorem nt_unflat {w : World} {g : Nat} {l : List Nt} (hc : ∀ j u, (l.flatMap ncells)[j]? = some u → w.cell? ⟨g, j, none⟩ = some u) : ∀ j x, l[j]? = some x → NtAt w g (0 + j * 4) x := by
  intro j x hx
  have key : ∀ k, k < 4 → (l.flatMap ncells)[j * 4 + k]? = (ncells x)[k]? := fun k hk => flat_get ncells 4 (fun _ => rfl) l j k x hx hk
  refine ⟨?_, ?_, ?_, ?_⟩
  · have := hc (j * 4 + 0) _ (key 0 (by omega)); simpa using this
  · have := hc (j * 4 + 1) _ (key 1 (by omega)); simpa using this
  · have := hc (j * 4 + 2) _ (key 2 (by omega)); simpa using this
  · have := hc (j * 4 + 3) _ (key 3 (by omega)); simpa using this

/-! ### What an owned row is read as -/
/-- a slice's length and capacity fit -/
def Fit (n c : Nat) : Prop := n ≤ c ∧ c ≤ maxLen
theorem row_open {α : Type} {f : α → List Value} {s : Nat} {w : World} {base : Nat} {e : TypeId} {v : Value} {l : List α} (h : w.ownsRow base e s v l.length (l.flatMap f)) :
    (v = .slice none 0 0 ∧ l = []) ∨ ∃ g cap, v = .slice (some ⟨g, 0, none⟩) l.length cap ∧ base ≤ g ∧ g < w.heap.size ∧ Fit l.length cap ∧ ∀ j u, (l.flatMap f)[j]? = some u → w.cell? ⟨g, j, none⟩ = some u := by
  rcases ownsRow_cells h with ⟨rfl, hn⟩ | ⟨g, cap, rfl, hbg, hg, hc⟩
  · exact .inl ⟨rfl, by cases l with | nil => rfl | cons => simp at hn⟩
  · refine .inr ⟨g, cap, rfl, hbg, hg, ?_, hc⟩
    rcases h.2 with ⟨hv, _⟩ | ⟨g', cap', cur, hv, _, _, h1, h2, _⟩
    · simp at hv
    · simp only [Value.slice.injEq, Option.some.injEq, Addr.mk.injEq, and_true, true_and] at hv
      obtain ⟨rfl, rfl⟩ := hv
      exact ⟨h1, h2⟩
theorem wrow_at {w : World} {base : Nat} {e : TypeId} {v : Value} {l : List Wr} (h : w.ownsRow base e 5 v l.length (l.flatMap wcells)) : ∃ a c, v = .slice a l.length c ∧ WrsAt w a l ∧ Fit l.length c := by
  rcases row_open h with ⟨rfl, rfl⟩ | ⟨g, cap, rfl, hbg, hg, hf, hc⟩
  · exact ⟨none, 0, rfl, .inl rfl, by simp [Fit]⟩
  · exact ⟨_, cap, rfl, .inr ⟨g, 0, rfl, hg, wr_unflat hc⟩, hf⟩
theorem hrow_at {w : World} {base : Nat} {e : TypeId} {v : Value} {l : List Hd} (h : w.ownsRow base e 3 v l.length (l.flatMap hcells)) : ∃ a c, v = .slice a l.length c ∧ HdsAt w a l ∧ Fit l.length c := by
  rcases row_open h with ⟨rfl, rfl⟩ | ⟨g, cap, rfl, hbg, hg, hf, hc⟩
  · exact ⟨none, 0, rfl, .inl rfl, by simp [Fit]⟩
  · exact ⟨_, cap, rfl, .inr ⟨g, 0, rfl, hg, hd_unflat hc⟩, hf⟩
theorem trow_at {w : World} {base : Nat} {e : TypeId} {v : Value} {l : List Th} (h : w.ownsRow base e 3 v l.length (l.flatMap tcells)) : ∃ a c, v = .slice a l.length c ∧ ThsAt w a l ∧ Fit l.length c := by
  rcases row_open h with ⟨rfl, rfl⟩ | ⟨g, cap, rfl, hbg, hg, hf, hc⟩
  · exact ⟨none, 0, rfl, .inl rfl, by simp [Fit]⟩
  · exact ⟨_, cap, rfl, .inr ⟨g, 0, rfl, hg, th_unflat hc⟩, hf⟩
theorem nrow_at {w : World} {base : Nat} {e : TypeId} {v : Value} {l : List Nt} (h : w.ownsRow base e 4 v l.length (l.flatMap ncells)) : ∃ a c, v = .slice a l.length c ∧ NtsAt w a l ∧ Fit l.length c := by
  rcases row_open h with ⟨rfl, rfl⟩ | ⟨g, cap, rfl, hbg, hg, hf, hc⟩
  · exact ⟨none, 0, rfl, .inl rfl, by simp [Fit]⟩
  · exact ⟨_, cap, rfl, .inr ⟨g, 0, rfl, hg, nt_unflat hc⟩, hf⟩
theorem wcells_one (l : List Wr) : ∀ u ∈ l.flatMap wcells, u.oneCell' = true := by
  intro u hu
  obtain ⟨x, _, hx⟩ := List.mem_flatMap.1 hu
  simp [wcells] at hx
  rcases hx with rfl | rfl | rfl | rfl | rfl <;> rfl
theorem hcells_one (l : List Hd) : ∀ u ∈ l.flatMap hcells, u.oneCell' = true := by
  intro u hu
  obtain ⟨x, _, hx⟩ := List.mem_flatMap.1 hu
  simp [hcells] at hx
  rcases hx with rfl | rfl | rfl <;> rfl
theorem tcells_one (l : List Th) : ∀ u ∈ l.flatMap tcells, u.oneCell' = true := by
  intro u hu
  obtain ⟨x, _, hx⟩ := List.mem_flatMap.1 hu
  simp [tcells] at hx
  rcases hx with rfl | rfl | rfl <;> rfl
theorem ncells_one (l : List Nt) : ∀ u ∈ l.flatMap ncells, u.oneCell' = true := by
  intro u hu
  obtain ⟨x, _, hx⟩ := List.mem_flatMap.1 hu
  simp [ncells] at hx
  rcases hx with rfl | rfl | rfl | rfl <;> rfl
theorem flatlen_w (l : List Wr) : (l.flatMap wcells).length = l.length * 5 := flat_len wcells 5 (fun _ => rfl) l
theorem flatlen_h (l : List Hd) : (l.flatMap hcells).length = l.length * 3 := flat_len hcells 3 (fun _ => rfl) l
theorem flatlen_t (l : List Th) : (l.flatMap tcells).length = l.length * 3 := flat_len tcells 3 (fun _ => rfl) l
theorem flatlen_n (l : List Nt) : (l.flatMap ncells).length = l.length * 4 := flat_len ncells 4 (fun _ => rfl) l
end Go.Proofs.YtikkakdeapbioaaDoor
