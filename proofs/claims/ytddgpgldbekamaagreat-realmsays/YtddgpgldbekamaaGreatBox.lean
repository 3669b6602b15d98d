/- Things, notes and realms as plain data, and where they lie in memory: definitions and small lemmas on lists and worlds; nothing of the program. -/
/- What is done with writs, on plain data: the answers of package realm as functions of lists and numbers; nothing of the program. -/
/- Rows that the call itself made, written into: laws on worlds and lists; nothing of the program. -/
/- Boxes (blocks of cells that a call itself made), and realms in memory: laws on worlds; nothing of the program. -/
/- Boxes: their cells at once. -/
/- Blocks that belong together (a foot), and what a step leaves alone: laws on worlds; nothing of the program. -/
import Derived.Test.YtddgpgldbekamaaGreatAllPure
set_option linter.unusedVariables false
namespace Go.Proofs.YtddgpgldbekamaaGreat
open Go.RowKit

/-- a thing -/
structure Th where
  id : Int
  kind : Int
  data : ByteArray
/-- a note -/
structure Nt where
  port : Int
  data : ByteArray
  badge : Int
  writ : Int
theorem Th.ext3 {x y : Th} (h1 : x.id = y.id) (h2 : x.kind = y.kind) (h3 : x.data = y.data) : x = y := by cases x; cases y; simp_all
theorem Nt.ext4 {x y : Nt} (h1 : x.port = y.port) (h2 : x.data = y.data) (h3 : x.badge = y.badge) (h4 : x.writ = y.writ) : x = y := by cases x; cases y; simp_all
def tcells (x : Th) : List Value := [.int .i64 x.id, .int .i64 x.kind, .string x.data]
def ncells (x : Nt) : List Value := [.int .i64 x.port, .string x.data, .int .i64 x.badge, .int .i64 x.writ]
def ThAt (w : World) (b o : Nat) (x : Th) : Prop :=
  w.cell? ⟨b, o, none⟩ = some (.int .i64 x.id) ∧ w.cell? ⟨b, o + 1, none⟩ = some (.int .i64 x.kind) ∧ w.cell? ⟨b, o + 2, none⟩ = some (.string x.data)
def ThsAt (w : World) (a : Option Addr) (l : List Th) : Prop :=
  l = [] ∨ ∃ b o, a = some ⟨b, o, none⟩ ∧ b < w.heap.size ∧ ∀ j x, l[j]? = some x → ThAt w b (o + j * 3) x
def NtAt (w : World) (b o : Nat) (x : Nt) : Prop :=
  w.cell? ⟨b, o, none⟩ = some (.int .i64 x.port) ∧ w.cell? ⟨b, o + 1, none⟩ = some (.string x.data) ∧ w.cell? ⟨b, o + 2, none⟩ = some (.int .i64 x.badge) ∧ w.cell? ⟨b, o + 3, none⟩ = some (.int .i64 x.writ)
def NtsAt (w : World) (a : Option Addr) (l : List Nt) : Prop :=
  l = [] ∨ ∃ b o, a = some ⟨b, o, none⟩ ∧ b < w.heap.size ∧ ∀ j x, l[j]? = some x → NtAt w b (o + j * 4) x
theorem ThAt.below {W w1 : World} (hb : Below W.heap.size W w1) {b o : Nat} {x : Th} (hlt : b < W.heap.size) (h : ThAt W b o x) : ThAt w1 b o x := by
  obtain ⟨h1, h2, h3⟩ := h
  have g := (bcell hb).1
  exact ⟨by rw [g _ _ hlt]; exact h1, by rw [g _ _ hlt]; exact h2, by rw [g _ _ hlt]; exact h3⟩
theorem NtAt.below {W w1 : World} (hb : Below W.heap.size W w1) {b o : Nat} {x : Nt} (hlt : b < W.heap.size) (h : NtAt W b o x) : NtAt w1 b o x := by
  obtain ⟨h1, h2, h3, h4⟩ := h
  have g := (bcell hb).1
  exact ⟨by rw [g _ _ hlt]; exact h1, by rw [g _ _ hlt]; exact h2, by rw [g _ _ hlt]; exact h3, by rw [g _ _ hlt]; exact h4⟩
theorem ThsAt.below {W w1 : World} (hb : Below W.heap.size W w1) {a : Option Addr} {l : List Th} (h : ThsAt W a l) : ThsAt w1 a l := by
  rcases h with h | ⟨b, o, ha, hlt, hc⟩
  · exact .inl h
  · exact .inr ⟨b, o, ha, Nat.lt_of_lt_of_le hlt hb.size, fun j x hx => (hc j x hx).below hb hlt⟩
theorem NtsAt.below {W w1 : World} (hb : Below W.heap.size W w1) {a : Option Addr} {l : List Nt} (h : NtsAt W a l) : NtsAt w1 a l := by
  rcases h with h | ⟨b, o, ha, hlt, hc⟩
  · exact .inl h
  · exact .inr ⟨b, o, ha, Nat.lt_of_lt_of_le hlt hb.size, fun j x hx => (hc j x hx).below hb hlt⟩

theorem ThAt_new (w : World) (t : TypeId) (x : Th) : ThAt (w.alloc (.cells #[.int .i64 x.id, .int .i64 x.kind, .string x.data] t)) w.heap.size 0 x := by
  refine ⟨?_, ?_, ?_⟩ <;> (rw [World.cell?_alloc_new]; rfl)
theorem HdAt_new (w : World) (t : TypeId) (x : Hd) : HdAt (w.alloc (.cells #[.int .i64 x.holder, .int .i64 x.slot, .int .i64 x.writ] t)) w.heap.size 0 x := by
  refine ⟨?_, ?_, ?_⟩ <;> (rw [World.cell?_alloc_new]; rfl)
theorem NtAt_new (w : World) (t : TypeId) (x : Nt) : NtAt (w.alloc (.cells #[.int .i64 x.port, .string x.data, .int .i64 x.badge, .int .i64 x.writ] t)) w.heap.size 0 x := by
  refine ⟨?_, ?_, ?_, ?_⟩ <;> (rw [World.cell?_alloc_new]; rfl)

/-! ### From elements to flat cells and back -/
theorem flat_cells {α : Type} (f : α → List Value) (s : Nat) (hs : 0 < s) (hf : ∀ x, (f x).length = s) (l : List α) (w : World) (b o : Nat)
    (h : ∀ j x, l[j]? = some x → ∀ k u, (f x)[k]? = some u → w.cell? ⟨b, o + j * s + k, none⟩ = some u) : ∀ j u, (l.flatMap f)[j]? = some u → w.cell? ⟨b, o + j, none⟩ = some u := by
  intro j u hu
  have hj : j < (l.flatMap f).length := (List.getElem?_eq_some_iff.1 hu).1
  rw [flat_len f s hf] at hj
  have hd : j / s < l.length := by rw [Nat.div_lt_iff_lt_mul hs]; exact hj
  obtain ⟨x, hx⟩ : ∃ x, l[j / s]? = some x := ⟨l[j / s], List.getElem?_eq_getElem hd⟩
  have hm : j % s < s := Nat.mod_lt _ hs
  have e : j / s * s + j % s = j := by rw [Nat.mul_comm]; exact Nat.div_add_mod j s
  have := flat_get f s hf l (j / s) (j % s) x hx hm
  rw [e, hu] at this
  have := h _ x hx _ u this.symm
  rwa [Nat.add_assoc, e] at this
theorem wr_flat {w : World} {b o : Nat} {l : List Wr} (h : ∀ j x, l[j]? = some x → WrAt w b (o + j * 5) x) : ∀ j u, (l.flatMap wcells)[j]? = some u → w.cell? ⟨b, o + j, none⟩ = some u := by
  refine flat_cells wcells 5 (by omega) (fun _ => rfl) l w b o (fun j x hx k u hu => ?_)
  obtain ⟨h1, h2, h3, h4, h5⟩ := h j x hx
  match k, hu with
  | 0, hu => simp [wcells] at hu; subst hu; exact h1
  | 1, hu => simp [wcells] at hu; subst hu; exact h2
  | 2, hu => simp [wcells] at hu; subst hu; exact h3
  | 3, hu => simp [wcells] at hu; subst hu; exact h4
  | 4, hu => simp [wcells] at hu; subst hu; exact h5
  | k + 5, hu => simp [wcells] at hu
theorem hd_flat {w : World} {b o : Nat} {l : List Hd} (h : ∀ j x, l[j]? = some x → HdAt w b (o + j * 3) x) : ∀ j u, (l.flatMap hcells)[j]? = some u → w.cell? ⟨b, o + j, none⟩ = some u := by
  refine flat_cells hcells 3 (by omega) (fun _ => rfl) l w b o (fun j x hx k u hu => ?_)
  obtain ⟨h1, h2, h3⟩ := h j x hx
  match k, hu with
  | 0, hu => simp [hcells] at hu; subst hu; exact h1
  | 1, hu => simp [hcells] at hu; subst hu; exact h2
  | 2, hu => simp [hcells] at hu; subst hu; exact h3
  | k + 3, hu => simp [hcells] at hu
theorem th_flat {w : World} {b o : Nat} {l : List Th} (h : ∀ j x, l[j]? = some x → ThAt w b (o + j * 3) x) : ∀ j u, (l.flatMap tcells)[j]? = some u → w.cell? ⟨b, o + j, none⟩ = some u := by
  refine flat_cells tcells 3 (by omega) (fun _ => rfl) l w b o (fun j x hx k u hu => ?_)
  obtain ⟨h1, h2, h3⟩ := h j x hx
  match k, hu with
  | 0, hu => simp [tcells] at hu; subst hu; exact h1
  | 1, hu => simp [tcells] at hu; subst hu; exact h2
  | 2, hu => simp [tcells] at hu; subst hu; exact h3
  | k + 3, hu => simp [tcells] at hu
theorem nt_flat {w : World} {b o : Nat} {l : List Nt} (h : ∀ j x, l[j]? = some x → NtAt w b (o + j * 4) x) : ∀ j u, (l.flatMap ncells)[j]? = some u → w.cell? ⟨b, o + j, none⟩ = some u := by
  refine flat_cells ncells 4 (by omega) (fun _ => rfl) l w b o (fun j x hx k u hu => ?_)
  obtain ⟨h1, h2, h3, h4⟩ := h j x hx
  match k, hu with
  | 0, hu => simp [ncells] at hu; subst hu; exact h1
  | 1, hu => simp [ncells] at hu; subst hu; exact h2
  | 2, hu => simp [ncells] at hu; subst hu; exact h3
  | 3, hu => simp [ncells] at hu; subst hu; exact h4
  | k + 4, hu => simp [ncells] at hu
theorem wr_unflat {w : World} {g : Nat} {l : List Wr} (hc : ∀ j u, (l.flatMap wcells)[j]? = some u → w.cell? ⟨g, j, none⟩ = some u) : ∀ j x, l[j]? = some x → WrAt w g (0 + j * 5) x := by
  intro j x hx
  have key : ∀ k, k < 5 → (l.flatMap wcells)[j * 5 + k]? = (wcells x)[k]? := fun k hk => flat_get wcells 5 (fun _ => rfl) l j k x hx hk
  refine ⟨?_, ?_, ?_, ?_, ?_⟩
  · have := hc (j * 5 + 0) _ (key 0 (by omega)); simpa using this
  · have := hc (j * 5 + 1) _ (key 1 (by omega)); simpa using this
  · have := hc (j * 5 + 2) _ (key 2 (by omega)); simpa using this
  · have := hc (j * 5 + 3) _ (key 3 (by omega)); simpa using this
  · have := hc (j * 5 + 4) _ (key 4 (by omega)); simpa using this
theorem hd_unflat {w : World} {g : Nat} {l : List Hd} (hc : ∀ j u, (l.flatMap hcells)[j]? = some u → w.cell? ⟨g, j, none⟩ = some u) : ∀ j x, l[j]? = some x → HdAt w g (0 + j * 3) x := by
  intro j x hx
  have key : ∀ k, k < 3 → (l.flatMap hcells)[j * 3 + k]? = (hcells x)[k]? := fun k hk => flat_get hcells 3 (fun _ => rfl) l j k x hx hk
  refine ⟨?_, ?_, ?_⟩
  · have := hc (j * 3 + 0) _ (key 0 (by omega)); simpa using this
  · have := hc (j * 3 + 1) _ (key 1 (by omega)); simpa using this
  · have := hc (j * 3 + 2) _ (key 2 (by omega)); simpa using this
theorem th_unflat {w : World} {g : Nat} {l : List Th} (hc : ∀ j u, (l.flatMap tcells)[j]? = some u → w.cell? ⟨g, j, none⟩ = some u) : ∀ j x, l[j]? = some x → ThAt w g (0 + j * 3) x := by
  intro j x hx
  have key : ∀ k, k < 3 → (l.flatMap tcells)[j * 3 + k]? = (tcells x)[k]? := fun k hk => flat_get tcells 3 (fun _ => rfl) l j k x hx hk
  refine ⟨?_, ?_, ?_⟩
  · have := hc (j * 3 + 0) _ (key 0 (by omega)); simpa using this
  · have := hc (j * 3 + 1) _ (key 1 (by omega)); simpa using this
  · have := hc (j * 3 + 2) _ (key 2 (by omega)); simpa using this
theorem nt_unflat {w : World} {g : Nat} {l : List Nt} (hc : ∀ j u, (l.flatMap ncells)[j]? = some u → w.cell? ⟨g, j, none⟩ = some u) : ∀ j x, l[j]? = some x → NtAt w g (0 + j * 4) x := by
  intro j x hx
  have key : ∀ k, k < 4 → (l.flatMap ncells)[j * 4 + k]? = (ncells x)[k]? := fun k hk => flat_get ncells 4 (fun _ => rfl) l j k x hx hk
  refine ⟨?_, ?_, ?_, ?_⟩
  · have := hc (j * 4 + 0) _ (key 0 (by omega)); simpa using this
  · have := hc (j * 4 + 1) _ (key 1 (by omega)); simpa using this
  · have := hc (j * 4 + 2) _ (key 2 (by omega)); simpa using this
  · have := hc (j * 4 + 3) _ (key 3 (by omega)); simpa using this

/-! ### What an owned row is read as -/
/-- a slice's length and capacity fit -/
def Fit (n c : Nat) : Prop := n ≤ c ∧ c ≤ maxLen
theorem row_open {α : Type} {f : α → List Value} {s : Nat} {w : World} {base : Nat} {e : TypeId} {v : Value} {l : List α} (h : w.ownsRow base e s v l.length (l.flatMap f)) :
    (v = .slice none 0 0 ∧ l = []) ∨ ∃ g cap, v = .slice (some ⟨g, 0, none⟩) l.length cap ∧ base ≤ g ∧ g < w.heap.size ∧ Fit l.length cap ∧ ∀ j u, (l.flatMap f)[j]? = some u → w.cell? ⟨g, j, none⟩ = some u := by
  rcases ownsRow_cells h with ⟨rfl, hn⟩ | ⟨g, cap, rfl, hbg, hg, hc⟩
  · exact .inl ⟨rfl, by cases l with | nil => rfl | cons => simp at hn⟩
  · refine .inr ⟨g, cap, rfl, hbg, hg, ?_, hc⟩
    rcases h.2 with ⟨hv, _⟩ | ⟨g', cap', cur, hv, _, _, h1, h2, _⟩
    · simp at hv
    · simp only [Value.slice.injEq, Option.some.injEq, Addr.mk.injEq, and_true, true_and] at hv
      obtain ⟨rfl, rfl⟩ := hv
      exact ⟨h1, h2⟩
theorem wrow_at {w : World} {base : Nat} {e : TypeId} {v : Value} {l : List Wr} (h : w.ownsRow base e 5 v l.length (l.flatMap wcells)) : ∃ a c, v = .slice a l.length c ∧ WrsAt w a l ∧ Fit l.length c := by
  rcases row_open h with ⟨rfl, rfl⟩ | ⟨g, cap, rfl, hbg, hg, hf, hc⟩
  · exact ⟨none, 0, rfl, .inl rfl, by simp [Fit]⟩
  · exact ⟨_, cap, rfl, .inr ⟨g, 0, rfl, hg, wr_unflat hc⟩, hf⟩
theorem hrow_at {w : World} {base : Nat} {e : TypeId} {v : Value} {l : List Hd} (h : w.ownsRow base e 3 v l.length (l.flatMap hcells)) : ∃ a c, v = .slice a l.length c ∧ HdsAt w a l ∧ Fit l.length c := by
  rcases row_open h with ⟨rfl, rfl⟩ | ⟨g, cap, rfl, hbg, hg, hf, hc⟩
  · exact ⟨none, 0, rfl, .inl rfl, by simp [Fit]⟩
  · exact ⟨_, cap, rfl, .inr ⟨g, 0, rfl, hg, hd_unflat hc⟩, hf⟩
theorem trow_at {w : World} {base : Nat} {e : TypeId} {v : Value} {l : List Th} (h : w.ownsRow base e 3 v l.length (l.flatMap tcells)) : ∃ a c, v = .slice a l.length c ∧ ThsAt w a l ∧ Fit l.length c := by
  rcases row_open h with ⟨rfl, rfl⟩ | ⟨g, cap, rfl, hbg, hg, hf, hc⟩
  · exact ⟨none, 0, rfl, .inl rfl, by simp [Fit]⟩
  · exact ⟨_, cap, rfl, .inr ⟨g, 0, rfl, hg, th_unflat hc⟩, hf⟩
theorem nrow_at {w : World} {base : Nat} {e : TypeId} {v : Value} {l : List Nt} (h : w.ownsRow base e 4 v l.length (l.flatMap ncells)) : ∃ a c, v = .slice a l.length c ∧ NtsAt w a l ∧ Fit l.length c := by
  rcases row_open h with ⟨rfl, rfl⟩ | ⟨g, cap, rfl, hbg, hg, hf, hc⟩
  · exact ⟨none, 0, rfl, .inl rfl, by simp [Fit]⟩
  · exact ⟨_, cap, rfl, .inr ⟨g, 0, rfl, hg, nt_unflat hc⟩, hf⟩
theorem wcells_one (l : List Wr) : ∀ u ∈ l.flatMap wcells, u.oneCell' = true := by
  intro u hu
  obtain ⟨x, _, hx⟩ := List.mem_flatMap.1 hu
  simp [wcells] at hx
  rcases hx with rfl | rfl | rfl | rfl | rfl <;> rfl
theorem hcells_one (l : List Hd) : ∀ u ∈ l.flatMap hcells, u.oneCell' = true := by
  intro u hu
  obtain ⟨x, _, hx⟩ := List.mem_flatMap.1 hu
  simp [hcells] at hx
  rcases hx with rfl | rfl | rfl <;> rfl
theorem tcells_one (l : List Th) : ∀ u ∈ l.flatMap tcells, u.oneCell' = true := by
  intro u hu
  obtain ⟨x, _, hx⟩ := List.mem_flatMap.1 hu
  simp [tcells] at hx
  rcases hx with rfl | rfl | rfl <;> rfl
theorem ncells_one (l : List Nt) : ∀ u ∈ l.flatMap ncells, u.oneCell' = true := by
  intro u hu
  obtain ⟨x, _, hx⟩ := List.mem_flatMap.1 hu
  simp [ncells] at hx
  rcases hx with rfl | rfl | rfl | rfl <;> rfl
theorem flatlen_w (l : List Wr) : (l.flatMap wcells).length = l.length * 5 := flat_len wcells 5 (fun _ => rfl) l
theorem flatlen_h (l : List Hd) : (l.flatMap hcells).length = l.length * 3 := flat_len hcells 3 (fun _ => rfl) l
theorem flatlen_t (l : List Th) : (l.flatMap tcells).length = l.length * 3 := flat_len tcells 3 (fun _ => rfl) l
theorem flatlen_n (l : List Nt) : (l.flatMap ncells).length = l.length * 4 := flat_len ncells 4 (fun _ => rfl) l
end Go.Proofs.YtddgpgldbekamaaGreat
set_option linter.unusedVariables false
namespace Go.Proofs.YtddgpgldbekamaaGreat
open Go.RowKit

instance (h s : Int) : Decidable (plOk h s) := by unfold plOk; infer_instance
/-- a realm -/
structure Rm where
  ws : List Wr
  ts : List Th
  hs : List Hd
  ns : List Nt
  nw : Int
  nt : Int
def zeroW : Wr := ⟨0, 0, 0, 0, 0⟩
def zeroN : Nt := ⟨0, ByteArray.empty, 0, 0⟩
/-- the writ of a place: its error's number, it (E1) -/
def getC (r : Rm) (h s : Int) : Int := if plOk h s then (if find r.ws (atP r.hs h s) < 0 then 5 else 0) else 1
def getW (r : Rm) (h s : Int) : Wr := match r.ws[(find r.ws (atP r.hs h s)).toNat]? with
  | some x => x
  | none => zeroW
/-- is a place free: its error's number (E2) -/
def freeC (r : Rm) (h s : Int) : Int := if plOk h s then (if atP r.hs h s = 0 then 0 else 6) else 1
/-- Make (E2) -/
def makeC (r : Rm) (h s kind : Int) : Int :=
  if kind ≠ 1 ∧ kind ≠ 2 then 8 else if freeC r h s ≠ 0 then freeC r h s else if 10 ≤ (r.ts.length : Int) ∨ 999 < r.nt ∨ 999 < r.nw then 9 else 0
def makeR (r : Rm) (h s kind : Int) : Rm := ⟨r.ws ++ [⟨r.nw, r.nt, 7, 0, 0⟩], r.ts ++ [⟨r.nt, kind, ByteArray.empty⟩], putL r.hs h s r.nw, r.ns, r.nw + 1, r.nt + 1⟩
/-- Give (E3) -/
def giveC (r : Rm) (h s g t rights badge : Int) : Int :=
  if getC r h s ≠ 0 then getC r h s else if freeC r g t ≠ 0 then freeC r g t else if ¬ g = h ∧ hasB (getW r h s).rights 4 = false then 7 else if 999 < r.nw then 9 else drvCode (getW r h s) rights badge
def giveR (r : Rm) (h s g t rights badge : Int) : Rm := ⟨r.ws ++ [drvW (getW r h s) r.nw rights badge], r.ts, putL r.hs g t r.nw, r.ns, r.nw + 1, r.nt⟩
/-- Move (E3) -/
def moveC (r : Rm) (h s t : Int) : Int := if getC r h s ≠ 0 then getC r h s else freeC r h t
def moveR (r : Rm) (h s t : Int) : Rm := ⟨r.ws, r.ts, putL (putL r.hs h s 0) h t (getW r h s).id, r.ns, r.nw, r.nt⟩
/-- is there a writ of a thing? -/
def hasT (ws : List Wr) (t : Int) : Bool := ws.any fun x => x.thing == t
/-- without the writs of notes -/
def woAll (ws : List Wr) (ns : List Nt) : List Wr := ns.foldl (fun l n => withoutL l n.writ) ws
/-- notes at ports of which there is no writ; the others -/
def lostL (ws : List Wr) (ns : List Nt) : List Nt := ns.filter fun n => !hasT ws n.port
def leftL (ws : List Wr) (ns : List Nt) : List Nt := ns.filter fun n => hasT ws n.port
def sweepN : Nat → List Wr → List Nt → List Wr × List Nt
  | 0, ws, ns => (ws, ns)
  | k + 1, ws, ns => if lostL ws ns = [] then (ws, ns) else sweepN k (woAll ws (lostL ws ns)) (leftL ws ns)
def forgetN (ws : List Wr) (n : Nt) : Nt := if find ws n.writ < 0 then ⟨n.port, n.data, n.badge, 0⟩ else n
/-- swept (E4) -/
def sweepR (r : Rm) : Rm :=
  ⟨(sweepN (r.ns.length + 1) r.ws r.ns).1, r.ts.filter (fun t => hasT (sweepN (r.ns.length + 1) r.ws r.ns).1 t.id), r.hs.filter (fun h => decide (0 ≤ find (sweepN (r.ns.length + 1) r.ws r.ns).1 h.writ)),
    (sweepN (r.ns.length + 1) r.ws r.ns).2.map (forgetN (sweepN (r.ns.length + 1) r.ws r.ns).1), r.nw, r.nt⟩
/-- Drop, Revoke, Quiet (E5, E6) -/
def dropR (r : Rm) (h s : Int) : Rm := sweepR ⟨withoutL r.ws (getW r h s).id, r.ts, r.hs, r.ns, r.nw, r.nt⟩
def revokeR (r : Rm) (h s : Int) : Rm := sweepR ⟨r.ws.filter (fun x => !inB (beneathL r.ws (getW r h s).id) x.id), r.ts, r.hs, r.ns, r.nw, r.nt⟩
def quietR (r : Rm) : Rm := sweepR ⟨woAll r.ws r.ns, r.ts, r.hs, [], r.nw, r.nt⟩
/-- who may (E7) -/
def thIs (t : Int) (x : Th) : Bool := x.id == t
def thAt (r : Rm) (t : Int) : Int := idx (thIs t) r.ts
def kindIs (r : Rm) (t kind : Int) : Bool := match r.ts.find? (thIs t) with
  | some x => x.kind == kind
  | none => false
def whoC (r : Rm) (h s kind rights : Int) : Int :=
  if getC r h s ≠ 0 then getC r h s else if kindIs r (getW r h s).thing kind = false then 8 else if hasB (getW r h s).rights rights = false then 7 else 0
def writeC (r : Rm) (h s : Int) (d : ByteArray) : Int := if whoC r h s 1 2 ≠ 0 then whoC r h s 1 2 else if 8 < d.size then 2 else 0
def setD (t : Int) (d : ByteArray) : List Th → List Th
  | [] => []
  | x :: l => if x.id = t then ⟨x.id, x.kind, d⟩ :: l else x :: setD t d l
def writeR (r : Rm) (h s : Int) (d : ByteArray) : Rm := ⟨r.ws, setD (getW r h s).thing d r.ts, r.hs, r.ns, r.nw, r.nt⟩
/-- Send (E8) -/
def atPort (t : Int) (n : Nt) : Bool := n.port == t
def waitL (r : Rm) (t : Int) : List Nt := r.ns.filter (atPort t)
def sendC (r : Rm) (h s : Int) (d : ByteArray) (t rights : Int) : Int :=
  if whoC r h s 2 2 ≠ 0 then whoC r h s 2 2 else if 8 < d.size then 2 else if 3 ≤ (waitL r (getW r h s).thing).length then 9 else if t < 0 then 0 else
    if hasB (getW r h s).rights 4 = false then 7 else if getC r h t ≠ 0 then getC r h t else if 999 < r.nw then 9 else drvCode (getW r h t) rights 0
def sendR (r : Rm) (h s : Int) (d : ByteArray) (t rights : Int) : Rm :=
  if t < 0 then ⟨r.ws, r.ts, r.hs, r.ns ++ [⟨(getW r h s).thing, d, (getW r h s).badge, 0⟩], r.nw, r.nt⟩
  else ⟨r.ws ++ [drvW (getW r h t) r.nw rights 0], r.ts, r.hs, r.ns ++ [⟨(getW r h s).thing, d, (getW r h s).badge, r.nw⟩], r.nw + 1, r.nt⟩
/-- Take (E9) -/
def noteAt (r : Rm) (h s : Int) : Nt := match r.ns.find? (atPort (getW r h s).thing) with
  | some n => n
  | none => zeroN
def takeC (r : Rm) (h s : Int) : Int :=
  if whoC r h s 2 1 ≠ 0 then whoC r h s 2 1 else if r.ns.find? (atPort (getW r h s).thing) |>.isNone then 5 else if ¬ (noteAt r h s).writ = 0 ∧ freeP r.hs h < 0 then 9 else 0
def takeSlot (r : Rm) (h s : Int) : Int := if (noteAt r h s).writ = 0 then -1 else freeP r.hs h
def takeR (r : Rm) (h s : Int) : Rm :=
  ⟨r.ws, r.ts, if (noteAt r h s).writ = 0 then r.hs else putL r.hs h (freeP r.hs h) (noteAt r h s).writ, r.ns.eraseIdx (idx (atPort (getW r h s).thing) r.ns).toNat, r.nw, r.nt⟩
end Go.Proofs.YtddgpgldbekamaaGreat
set_option linter.unusedVariables false
namespace Go.Proofs.YtddgpgldbekamaaGreat
open Go.RowKit

/-- clear of an owned row's tail -/
theorem run_clear_own {P : Program} {w : World} {base : Nat} {e : TypeId} {size g n cap : Nat} {xs : List Value} (t : TypeId) (z : Value)
    (hown : w.ownsRow base e size (.slice (some ⟨g, 0, none⟩) n cap) n xs) (ht : P.underlying t = some (.slice e)) (hv : ∀ w, (zeroValue e).run P w = .ok z w) (hz : z.cells.size = size)
    (h1 : ∀ u ∈ z.cells.toList, u.oneCell' = true) (i : Nat) (hi : i < n) :
    ∃ w', (∀ ty, (Builtin.clear_ #[t] ty #[.slice (some ⟨g, i * size, none⟩) (n - i) (cap - i)]).run P w = .ok (.tuple #[]) w') ∧
      w'.ownsRow base e size (.slice (some ⟨g, 0, none⟩) i cap) i (xs.take (i * size)) ∧ w.grownBy w' (some g) := by
  rcases hown.2 with ⟨h, _⟩ | ⟨g', cap', cur, h, hbg, hg, hnc, hcm, hcs, htake⟩
  · simp at h
  · simp only [Value.slice.injEq, Option.some.injEq, Addr.mk.injEq, and_true, true_and] at h
    obtain ⟨rfl, rfl⟩ := h
    have hlen : ((Builtin.zeroCells z.cells (n - i)).toList).length = (n - i) * size := by rw [Array.length_toList, size_zeroCells, hz]
    have hle : i * size + (n - i) * size = n * size := by rw [← Nat.add_mul]; congr 1; omega
    have hle2 : n * size ≤ cap * size := Nat.mul_le_mul_right _ hnc
    have hone : ∀ v ∈ (Builtin.zeroCells z.cells (n - i)).toList, v.oneCell' = true := by
      intro v hv'
      rw [Array.mem_toList_iff] at hv'
      simp only [Builtin.zeroCells, Array.mem_map] at hv'
      obtain ⟨k, hk, rfl⟩ := hv'
      have hk' : k < (n - i) * z.cells.size := by simpa using hk
      have hpos : 0 < z.cells.size := by
        rcases Nat.eq_zero_or_pos z.cells.size with h0 | h0
        · rw [h0] at hk'; simp at hk'
        · exact h0
      have hlt := Nat.mod_lt k hpos
      rw [getElem!_pos z.cells _ hlt]
      exact h1 _ (by rw [Array.mem_toList_iff]; exact Array.getElem_mem _)
    have hst := run_storeCells_at P g (i * size) e (Builtin.zeroCells z.cells (n - i)).toList 0 cur w hg (by rw [hlen, hcs]; omega) hone
    simp only [Nat.add_zero] at hst
    obtain ⟨m, hm⟩ : ∃ m, n - i = m + 1 := ⟨n - i - 1, by omega⟩
    obtain ⟨R, hR⟩ : ∃ R, R = (cur.toList.take (i * size) ++ (Builtin.zeroCells z.cells (n - i)).toList ++ cur.toList.drop (i * size + (Builtin.zeroCells z.cells (n - i)).toList.length)).toArray := ⟨_, rfl⟩
    rw [← hR] at hst
    have hsz : R.size = cap * size := by
      rw [hR]
      simp only [List.size_toArray, List.length_append, List.length_take, List.length_drop, Array.length_toList, size_zeroCells, hz, hcs]
      omega
    have htk : R.toList.take (i * size) = xs.take (i * size) := by
      rw [hR, ← htake, List.take_take, List.append_assoc, List.take_append_of_le_length (by rw [List.length_take, Array.length_toList, hcs]; omega), List.take_take]
      congr 1
      omega
    refine ⟨w.setRow g R, fun ty => ?_, ⟨?_, .inr ⟨g, cap, R, rfl, hbg, setRow_heap w g cur _ e _ hg, by omega, hcm, hsz, htk⟩⟩, ⟨rfl, rfl, rfl, by simp, fun k _ hk => setRow_other w g k _ (fun e => hk (by simp [e]))⟩⟩
    · rw [hm] at hst ⊢
      simp only [Builtin.clear_]
      simp [run_underlying ht, hv, hst]
    · rw [List.length_take, hown.1]
      have : i * size ≤ n * size := by omega
      omega

/-- what a row holds while some are left out: ahead the kept ones, behind j the old ones -/
def KInv (s i j : Nat) (xs A L : List Value) : Prop := xs.length = L.length ∧ A.length = i * s ∧ (∀ m, m < i * s → xs[m]? = A[m]?) ∧ ∀ m, j * s ≤ m → xs[m]? = L[m]?
theorem KInv.start {s i : Nat} {L : List Value} (h : i * s ≤ L.length) : KInv s i (i + 1) L (L.take (i * s)) L :=
  ⟨rfl, by rw [List.length_take]; omega, fun m hm => by rw [List.getElem?_take, if_pos hm], fun _ _ => rfl⟩
theorem KInv.skip {s i j : Nat} {xs A L : List Value} (h : KInv s i j xs A L) : KInv s i (j + 1) xs A L :=
  ⟨h.1, h.2.1, h.2.2.1, fun m hm => h.2.2.2 m (by rw [Nat.add_mul] at hm; omega)⟩
/-- cells set one behind the other -/
def setRun (xs : List Value) : Nat → List Value → List Value
  | _, [] => xs
  | k, u :: r => setRun (xs.set k u) (k + 1) r
theorem setRun_len : ∀ (us xs : List Value) (k : Nat), (setRun xs k us).length = xs.length
  | [], xs, k => rfl
  | u :: r, xs, k => by unfold setRun; rw [setRun_len r, List.length_set]
theorem setRun_get : ∀ (us xs : List Value) (k m : Nat), k + us.length ≤ xs.length → (setRun xs k us)[m]? = if k ≤ m ∧ m < k + us.length then us[m - k]? else xs[m]?
  | [], xs, k, m, h => by unfold setRun; rw [if_neg (by simp only [List.length_nil]; omega)]
  | u :: r, xs, k, m, h => by
    simp only [List.length_cons] at h
    unfold setRun
    rw [setRun_get r _ (k + 1) m (by rw [List.length_set]; omega)]
    by_cases h1 : k + 1 ≤ m ∧ m < k + 1 + r.length
    · rw [if_pos h1, if_pos (by simp only [List.length_cons]; omega), show m - k = (m - (k + 1)) + 1 by omega, List.getElem?_cons_succ]
    · rw [if_neg h1]
      by_cases h2 : m = k
      · subst h2
        rw [if_pos (by simp only [List.length_cons]; omega)]
        simp [List.getElem?_set]; omega
      · rw [if_neg (by simp only [List.length_cons]; omega), List.getElem?_set_ne (by omega)]
theorem KInv.keep {s i j : Nat} {xs A L us : List Value} (h : KInv s i j xs A L) (hij : i < j) (hj : (j + 1) * s ≤ L.length) (hu : us.length = s) : KInv s (i + 1) (j + 1) (setRun xs (i * s) us) (A ++ us) L := by
  obtain ⟨h1, h2, h3, h4⟩ := h
  have e1 : (i + 1) * s = i * s + s := by rw [Nat.add_mul]; omega
  have e2 : (j + 1) * s = j * s + s := by rw [Nat.add_mul]; omega
  have e3 : i * s + s ≤ j * s := by rw [← e1]; exact Nat.mul_le_mul_right _ hij
  refine ⟨by rw [setRun_len, h1], by rw [List.length_append, h2, hu, e1], fun m hm => ?_, fun m hm => ?_⟩
  · rw [setRun_get _ _ _ _ (by omega)]
    by_cases hlt : m < i * s
    · rw [if_neg (by omega), List.getElem?_append_left (by omega)]; exact h3 m hlt
    · rw [if_pos (by omega), List.getElem?_append_right (by omega), h2]
  · rw [setRun_get _ _ _ _ (by omega), if_neg (by omega)]
    exact h4 m (by omega)
theorem KInv.done {s i j : Nat} {xs A L : List Value} (h : KInv s i j xs A L) : xs.take (i * s) = A := by
  obtain ⟨h1, h2, h3, h4⟩ := h
  apply List.ext_getElem?
  intro m
  rw [List.getElem?_take]
  by_cases hm : m < i * s
  · rw [if_pos hm]; exact h3 m hm
  · rw [if_neg hm, List.getElem?_eq_none (by omega)]

/-! ### Lists with some left out -/
theorem filt_snoc {α : Type} {q : α → Bool} {l : List α} {k : Nat} {x : α} (hx : l[k]? = some x) : (l.take (k + 1)).filter q = (l.take k).filter q ++ (if q x = true then [x] else []) := by
  rw [List.take_add_one, hx]
  by_cases h : q x = true <;> simp [h]
theorem idx_all {α : Type} {p : α → Bool} {l : List α} (h : idx p l = -1) : l.filter (fun x => !p x) = l := by
  rw [List.filter_eq_self]
  intro x hx
  obtain ⟨k, hk⟩ := List.mem_iff_getElem?.1 hx
  rw [idx_none h k x hk]; rfl
theorem idx_first_take {α : Type} {p : α → Bool} {l : List α} {j : Nat} {x : α} (h : idx p l = (j : Int)) (hx : l[j]? = some x) (hp : p x = true) : (l.take (j + 1)).filter (fun x => !p x) = l.take j := by
  rw [filt_snoc hx, if_neg (by simp [hp]), List.append_nil, List.filter_eq_self]
  intro y hy
  obtain ⟨k, hk⟩ := List.mem_iff_getElem?.1 hy
  rw [List.getElem?_take] at hk
  split at hk
  · rename_i hlt
    rw [idx_first h k y hlt hk]; rfl
  · cases hk
end Go.Proofs.YtddgpgldbekamaaGreat
set_option linter.unusedVariables false
set_option linter.unnecessarySimpa false
namespace Go.Proofs.YtddgpgldbekamaaGreat
open Go.RowKit

theorem sz_alloc (w : World) (o : Obj) : (w.alloc o).heap.size = w.heap.size + 1 := by simp
/-- a block holds these cells, and none is frozen -/
def Bx (w : World) (b : Nat) (vs : List Value) : Prop := b < w.heap.size ∧ ∀ j u, vs[j]? = some u → w.cell? ⟨b, j, none⟩ = some u ∧ w.frozen? ⟨b, j, none⟩ = false
theorem Bx.new (w : World) (vs : List Value) (t : TypeId) : Bx (w.alloc (.cells vs.toArray t)) w.heap.size vs := by
  refine ⟨by simp, fun j u hu => ⟨?_, ?_⟩⟩
  · rw [World.cell?_alloc_new]; simpa using hu
  · have h : (w.alloc (.cells vs.toArray t)).heap[w.heap.size]? = some (.cells vs.toArray t) := heap_alloc_new w _
    exact frozen_of_row _ _ _ _ _ h
theorem Bx.below {w w1 : World} {b : Nat} {vs : List Value} (h : Bx w b vs) (hb : Below w.heap.size w w1) : Bx w1 b vs :=
  ⟨Nat.lt_of_lt_of_le h.1 hb.size, fun j u hu => ⟨by rw [(bcell hb).1 _ _ h.1]; exact (h.2 j u hu).1, by rw [(bcell hb).2 _ _ h.1]; exact (h.2 j u hu).2⟩⟩
theorem Bx.alloc {w : World} {b : Nat} {vs : List Value} (h : Bx w b vs) (o : Obj) : Bx (w.alloc o) b vs := h.below ((Below.refl _ _).alloc (Nat.le_refl _) o)
theorem Bx.set {w : World} {b : Nat} {vs : List Value} (h : Bx w b vs) (j : Nat) (u : Value) : Bx (w.setCell ⟨b, j, none⟩ u) b (vs.set j u) := by
  refine ⟨by simpa using h.1, fun k x hx => ⟨?_, ?_⟩⟩
  · by_cases e : k = j
    · subst e
      have hl : k < vs.length := by
        have := (List.getElem?_eq_some_iff.1 hx).1
        simpa using this
      have hux : u = x := by
        rw [List.getElem?_set_self hl] at hx
        exact Option.some.inj hx
      subst hux
      exact World.cell?_setCell_same _ _ _ (h.2 k _ (List.getElem?_eq_getElem hl)).1
    · rw [List.getElem?_set_ne (Ne.symm e)] at hx
      exact (World.cell?_setCell_other _ _ _ _ (by simpa using fun hh => e (by simpa using hh))).trans (h.2 k x hx).1
  · rw [World.frozen?_setCell]
    by_cases e : k = j
    · subst e
      have hl : k < vs.length := by
        have := (List.getElem?_eq_some_iff.1 hx).1
        simpa using this
      exact (h.2 k _ (List.getElem?_eq_getElem hl)).2
    · rw [List.getElem?_set_ne (Ne.symm e)] at hx
      exact (h.2 k x hx).2
theorem Bx.other {w : World} {b b' : Nat} {vs : List Value} (h : Bx w b vs) (hne : ¬ b = b') (j : Nat) (u : Value) : Bx (w.setCell ⟨b', j, none⟩ u) b vs := by
  refine ⟨by simpa using h.1, fun k x hx => ⟨?_, ?_⟩⟩
  · exact (World.cell?_setCell_other _ _ _ _ (by simpa using fun hh => absurd hh (fun e => hne e.symm))).trans (h.2 k x hx).1
  · rw [World.frozen?_setCell]; exact (h.2 k x hx).2
theorem Bx.grown {w w' : World} {b : Nat} {row : Option Nat} {vs : List Value} (h : Bx w b vs) (hg : w.grownBy w' row) (hne : some b ≠ row) : Bx w' b vs := by
  have hk := hg.block b h.1 hne
  exact ⟨Nat.lt_of_lt_of_le h.1 hg.size, fun j u hu => ⟨(World.cell?_of_block (a := ⟨b, j, none⟩) hk).trans (h.2 j u hu).1, (World.frozen?_of_block (a := ⟨b, j, none⟩) hk).trans (h.2 j u hu).2⟩⟩
theorem Bx.two {w : World} {b : Nat} {a0 a1 : Value} (h : Bx w b [a0, a1]) : w.cell? ⟨b, 0, none⟩ = some a0 ∧ w.cell? ⟨b, 1, none⟩ = some a1 := ⟨(h.2 0 _ rfl).1, (h.2 1 _ rfl).1⟩
theorem Bx.five {w : World} {b : Nat} {a0 a1 a2 a3 a4 : Value} (h : Bx w b [a0, a1, a2, a3, a4]) : w.cell? ⟨b, 0, none⟩ = some a0 ∧ w.cell? ⟨b, 1, none⟩ = some a1 ∧ w.cell? ⟨b, 2, none⟩ = some a2 ∧ w.cell? ⟨b, 3, none⟩ = some a3 ∧ w.cell? ⟨b, 4, none⟩ = some a4 :=
  ⟨(h.2 0 _ rfl).1, (h.2 1 _ rfl).1, (h.2 2 _ rfl).1, (h.2 3 _ rfl).1, (h.2 4 _ rfl).1⟩
theorem Bx.fiveF {w : World} {b : Nat} {a0 a1 a2 a3 a4 : Value} (h : Bx w b [a0, a1, a2, a3, a4]) : w.frozen? ⟨b, 0, none⟩ = false ∧ w.frozen? ⟨b, 1, none⟩ = false ∧ w.frozen? ⟨b, 2, none⟩ = false ∧ w.frozen? ⟨b, 3, none⟩ = false ∧ w.frozen? ⟨b, 4, none⟩ = false :=
  ⟨(h.2 0 _ rfl).2, (h.2 1 _ rfl).2, (h.2 2 _ rfl).2, (h.2 3 _ rfl).2, (h.2 4 _ rfl).2⟩
theorem Bx.six {w : World} {b : Nat} {a0 a1 a2 a3 a4 a5 : Value} (h : Bx w b [a0, a1, a2, a3, a4, a5]) : w.cell? ⟨b, 0, none⟩ = some a0 ∧ w.cell? ⟨b, 1, none⟩ = some a1 ∧ w.cell? ⟨b, 2, none⟩ = some a2 ∧ w.cell? ⟨b, 3, none⟩ = some a3 ∧ w.cell? ⟨b, 4, none⟩ = some a4 ∧ w.cell? ⟨b, 5, none⟩ = some a5 :=
  ⟨(h.2 0 _ rfl).1, (h.2 1 _ rfl).1, (h.2 2 _ rfl).1, (h.2 3 _ rfl).1, (h.2 4 _ rfl).1, (h.2 5 _ rfl).1⟩
theorem Bx.sixF {w : World} {b : Nat} {a0 a1 a2 a3 a4 a5 : Value} (h : Bx w b [a0, a1, a2, a3, a4, a5]) : w.frozen? ⟨b, 0, none⟩ = false ∧ w.frozen? ⟨b, 1, none⟩ = false ∧ w.frozen? ⟨b, 2, none⟩ = false ∧ w.frozen? ⟨b, 3, none⟩ = false ∧ w.frozen? ⟨b, 4, none⟩ = false ∧ w.frozen? ⟨b, 5, none⟩ = false :=
  ⟨(h.2 0 _ rfl).2, (h.2 1 _ rfl).2, (h.2 2 _ rfl).2, (h.2 3 _ rfl).2, (h.2 4 _ rfl).2, (h.2 5 _ rfl).2⟩

theorem Bx.put5 {w : World} {b : Nat} {a0 a1 a2 a3 a4 : Value} (h : Bx w b [a0, a1, a2, a3, a4]) (x0 x1 x2 x3 x4 : Value) :
    Bx (((((w.setCell ⟨b, 0, none⟩ x0).setCell ⟨b, 1, none⟩ x1).setCell ⟨b, 2, none⟩ x2).setCell ⟨b, 3, none⟩ x3).setCell ⟨b, 4, none⟩ x4) b [x0, x1, x2, x3, x4] :=
  ((((h.set 0 x0).set 1 x1).set 2 x2).set 3 x3).set 4 x4
theorem Bx.put6 {w : World} {b : Nat} {a0 a1 a2 a3 a4 a5 : Value} (h : Bx w b [a0, a1, a2, a3, a4, a5]) (x0 x1 x2 x3 x4 x5 : Value) :
    Bx ((((((w.setCell ⟨b, 0, none⟩ x0).setCell ⟨b, 1, none⟩ x1).setCell ⟨b, 2, none⟩ x2).setCell ⟨b, 3, none⟩ x3).setCell ⟨b, 4, none⟩ x4).setCell ⟨b, 5, none⟩ x5) b [x0, x1, x2, x3, x4, x5] :=
  (((((h.set 0 x0).set 1 x1).set 2 x2).set 3 x3).set 4 x4).set 5 x5
theorem below_set5 {B : Nat} {a w : World} (h : Below B a w) {b : Nat} (hb : B ≤ b) (x0 x1 x2 x3 x4 : Value) :
    Below B a (((((w.setCell ⟨b, 0, none⟩ x0).setCell ⟨b, 1, none⟩ x1).setCell ⟨b, 2, none⟩ x2).setCell ⟨b, 3, none⟩ x3).setCell ⟨b, 4, none⟩ x4) :=
  ((((h.setCell (p := ⟨b, 0, none⟩) hb x0).setCell (p := ⟨b, 1, none⟩) hb x1).setCell (p := ⟨b, 2, none⟩) hb x2).setCell (p := ⟨b, 3, none⟩) hb x3).setCell (p := ⟨b, 4, none⟩) hb x4
theorem Bx.put4 {w : World} {b : Nat} {a0 a1 a2 a3 : Value} (h : Bx w b [a0, a1, a2, a3]) (x0 x1 x2 x3 : Value) :
    Bx ((((w.setCell ⟨b, 0, none⟩ x0).setCell ⟨b, 1, none⟩ x1).setCell ⟨b, 2, none⟩ x2).setCell ⟨b, 3, none⟩ x3) b [x0, x1, x2, x3] :=
  (((h.set 0 x0).set 1 x1).set 2 x2).set 3 x3
theorem Bx.past4 {w : World} {b b' : Nat} {vs : List Value} (h : Bx w b vs) (hne : ¬ b = b') (x0 x1 x2 x3 : Value) :
    Bx ((((w.setCell ⟨b', 0, none⟩ x0).setCell ⟨b', 1, none⟩ x1).setCell ⟨b', 2, none⟩ x2).setCell ⟨b', 3, none⟩ x3) b vs :=
  (((h.other hne 0 x0).other hne 1 x1).other hne 2 x2).other hne 3 x3
theorem Bx.past6 {w : World} {b b' : Nat} {vs : List Value} (h : Bx w b vs) (hne : ¬ b = b') (x0 x1 x2 x3 x4 x5 : Value) :
    Bx ((((((w.setCell ⟨b', 0, none⟩ x0).setCell ⟨b', 1, none⟩ x1).setCell ⟨b', 2, none⟩ x2).setCell ⟨b', 3, none⟩ x3).setCell ⟨b', 4, none⟩ x4).setCell ⟨b', 5, none⟩ x5) b vs :=
  (((((h.other hne 0 x0).other hne 1 x1).other hne 2 x2).other hne 3 x3).other hne 4 x4).other hne 5 x5
theorem below_set4 {B : Nat} {a w : World} (h : Below B a w) {b : Nat} (hb : B ≤ b) (x0 x1 x2 x3 : Value) :
    Below B a ((((w.setCell ⟨b, 0, none⟩ x0).setCell ⟨b, 1, none⟩ x1).setCell ⟨b, 2, none⟩ x2).setCell ⟨b, 3, none⟩ x3) :=
  (((h.setCell (p := ⟨b, 0, none⟩) hb x0).setCell (p := ⟨b, 1, none⟩) hb x1).setCell (p := ⟨b, 2, none⟩) hb x2).setCell (p := ⟨b, 3, none⟩) hb x3
theorem Bx.four {w : World} {b : Nat} {a0 a1 a2 a3 : Value} (h : Bx w b [a0, a1, a2, a3]) : w.cell? ⟨b, 0, none⟩ = some a0 ∧ w.cell? ⟨b, 1, none⟩ = some a1 ∧ w.cell? ⟨b, 2, none⟩ = some a2 ∧ w.cell? ⟨b, 3, none⟩ = some a3 :=
  ⟨(h.2 0 _ rfl).1, (h.2 1 _ rfl).1, (h.2 2 _ rfl).1, (h.2 3 _ rfl).1⟩
/-- what a region keeps: two lists of a realm's box, and the box of a place behind it -/
@[reducible] def SRP (b : Nat) (c0 c2 p0 p1 : Value) (w : World) : Prop :=
  w.cell? ⟨b, 0, none⟩ = some c0 ∧ w.cell? ⟨b, 2, none⟩ = some c2 ∧ w.cell? ⟨b + 1, 0, none⟩ = some p0 ∧ w.cell? ⟨b + 1, 1, none⟩ = some p1 ∧ b + 1 < w.heap.size
theorem SRP_below {b : Nat} {c0 c2 p0 p1 : Value} {v w : World} (hb : Below v.heap.size v w) (h : SRP b c0 c2 p0 p1 v) : SRP b c0 c2 p0 p1 w := by
  obtain ⟨h1, h2, h3, h4, h5⟩ := h
  have g := (bcell hb).1
  exact ⟨by rw [g _ _ (by omega)]; exact h1, by rw [g _ _ (by omega)]; exact h2, by rw [g _ _ (by omega)]; exact h3, by rw [g _ _ (by omega)]; exact h4, Nat.lt_of_lt_of_le h5 hb.size⟩
/-- a realm's lists lie where its slices say -/
structure RmAt (W : World) (aw at_ ah an : Option Addr) (cw ct ch cn : Nat) (r : Rm) : Prop where
  w : WrsAt W aw r.ws
  t : ThsAt W at_ r.ts
  h : HdsAt W ah r.hs
  n : NtsAt W an r.ns
  fw : Fit r.ws.length cw
  ft : Fit r.ts.length ct
  fh : Fit r.hs.length ch
  fn : Fit r.ns.length cn
theorem RmAt.below {w w1 : World} (hb : Below w.heap.size w w1) {aw at_ ah an : Option Addr} {cw ct ch cn : Nat} {r : Rm} (h : RmAt w aw at_ ah an cw ct ch cn r) : RmAt w1 aw at_ ah an cw ct ch cn r :=
  ⟨h.w.below hb, h.t.below hb, h.h.below hb, h.n.below hb, h.fw, h.ft, h.fh, h.fn⟩
/-- a realm that is not too great for the walks -/
structure RmSz (r : Rm) : Prop where
  w : r.ws.length ≤ 1000
  t : r.ts.length ≤ 1000
  h : r.hs.length ≤ 100
  n : r.ns.length ≤ 1000
  nw : 0 ≤ r.nw ∧ r.nw ≤ 1000000
  nt : 0 ≤ r.nt ∧ r.nt ≤ 1000000
/-- two slices lie in blocks of their own -/
def Dist (v v' : Value) : Prop := ∀ k, v.ownBlock = some k → v'.ownBlock ≠ some k
theorem Dist.symm {v v' : Value} (h : Dist v v') : Dist v' v := fun k h1 h2 => h k h2 h1
theorem Dist.kept {w w' : World} {base : Nat} {e : TypeId} {size : Nat} {v v' : Value} {n : Nat} {xs : List Value} (h : w.ownsRow base e size v n xs) (hg : w.grownBy w' v'.ownBlock) (hd : Dist v v') : w'.ownsRow base e size v n xs := by
  refine h.kept hg ?_
  cases hv : v.ownBlock with
  | none => exact .inl rfl
  | some k => exact .inr (fun e => hd k hv e.symm)
theorem Dist.of_lt {w w' : World} {base base' : Nat} {e e' : TypeId} {size size' : Nat} {v v' : Value} {n n' : Nat} {xs xs' : List Value} (h : w.ownsRow base e size v n xs) (h' : w'.ownsRow base' e' size' v' n' xs') (hlt : w.heap.size ≤ base') : Dist v v' := by
  intro k h1 h2
  have := (h.lt k h1).2
  have := (h'.lt k h2).1
  omega
theorem ownsRow_mono {w : World} {base base' : Nat} {e : TypeId} {size : Nat} {v : Value} {n : Nat} {xs : List Value} (h : w.ownsRow base e size v n xs) (hle : base' ≤ base) : w.ownsRow base' e size v n xs := by
  obtain ⟨h1, h2⟩ := h
  refine ⟨h1, ?_⟩
  rcases h2 with h2 | ⟨g, cap, cur, a, b, c⟩
  · exact .inl h2
  · exact .inr ⟨g, cap, cur, a, by omega, c⟩
theorem ownsRow_set_other {w : World} {base : Nat} {e : TypeId} {size : Nat} {v : Value} {n : Nat} {xs : List Value} (h : w.ownsRow base e size v n xs) {b : Nat} (hne : v.ownBlock ≠ some b) (j : Nat) (u : Value) : (w.setCell ⟨b, j, none⟩ u).ownsRow base e size v n xs := by
  obtain ⟨h1, h2⟩ := h
  refine ⟨h1, ?_⟩
  rcases h2 with h2 | ⟨g, cap, cur, hv, hg, hh, r⟩
  · exact .inl h2
  · refine .inr ⟨g, cap, cur, hv, hg, ?_, r⟩
    rw [Below.heap_setCell _ _ _ _ (by intro e; subst e; exact hne (by rw [hv]; rfl))]; exact hh
theorem ownBlock_ne {w : World} {base : Nat} {e : TypeId} {size : Nat} {v : Value} {n : Nat} {xs : List Value} (h : w.ownsRow base e size v n xs) {b : Nat} (hb : b < base) : v.ownBlock ≠ some b := by
  intro e
  have := (h.lt b e).1
  omega
end Go.Proofs.YtddgpgldbekamaaGreat
namespace Go.Proofs.YtddgpgldbekamaaGreat
open Go.RowKit

theorem Bx.c2 {w : World} {b : Nat} {a0 a1 : Value} {r : List Value} (h : Bx w b (a0 :: a1 :: r)) : w.cell? ⟨b, 0, none⟩ = some a0 ∧ w.cell? ⟨b, 1, none⟩ = some a1 :=
  ⟨(h.2 0 _ rfl).1, (h.2 1 _ rfl).1⟩
theorem Bx.c3 {w : World} {b : Nat} {a0 a1 a2 : Value} {r : List Value} (h : Bx w b (a0 :: a1 :: a2 :: r)) : w.cell? ⟨b, 0, none⟩ = some a0 ∧ w.cell? ⟨b, 1, none⟩ = some a1 ∧ w.cell? ⟨b, 2, none⟩ = some a2 :=
  ⟨(h.2 0 _ rfl).1, (h.2 1 _ rfl).1, (h.2 2 _ rfl).1⟩
theorem Bx.c4 {w : World} {b : Nat} {a0 a1 a2 a3 : Value} {r : List Value} (h : Bx w b (a0 :: a1 :: a2 :: a3 :: r)) : w.cell? ⟨b, 0, none⟩ = some a0 ∧ w.cell? ⟨b, 1, none⟩ = some a1 ∧ w.cell? ⟨b, 2, none⟩ = some a2 ∧ w.cell? ⟨b, 3, none⟩ = some a3 :=
  ⟨(h.2 0 _ rfl).1, (h.2 1 _ rfl).1, (h.2 2 _ rfl).1, (h.2 3 _ rfl).1⟩
theorem Bx.cf4 {w : World} {b : Nat} {a0 a1 a2 a3 : Value} {r : List Value} (h : Bx w b (a0 :: a1 :: a2 :: a3 :: r)) : w.cell? ⟨b, 0, none⟩ = some a0 ∧ w.frozen? ⟨b, 0, none⟩ = false ∧ w.cell? ⟨b, 1, none⟩ = some a1 ∧ w.frozen? ⟨b, 1, none⟩ = false ∧ w.cell? ⟨b, 2, none⟩ = some a2 ∧ w.frozen? ⟨b, 2, none⟩ = false ∧ w.cell? ⟨b, 3, none⟩ = some a3 ∧ w.frozen? ⟨b, 3, none⟩ = false :=
  ⟨(h.2 0 _ rfl).1, (h.2 0 _ rfl).2, (h.2 1 _ rfl).1, (h.2 1 _ rfl).2, (h.2 2 _ rfl).1, (h.2 2 _ rfl).2, (h.2 3 _ rfl).1, (h.2 3 _ rfl).2⟩
theorem Bx.c5 {w : World} {b : Nat} {a0 a1 a2 a3 a4 : Value} {r : List Value} (h : Bx w b (a0 :: a1 :: a2 :: a3 :: a4 :: r)) : w.cell? ⟨b, 0, none⟩ = some a0 ∧ w.cell? ⟨b, 1, none⟩ = some a1 ∧ w.cell? ⟨b, 2, none⟩ = some a2 ∧ w.cell? ⟨b, 3, none⟩ = some a3 ∧ w.cell? ⟨b, 4, none⟩ = some a4 :=
  ⟨(h.2 0 _ rfl).1, (h.2 1 _ rfl).1, (h.2 2 _ rfl).1, (h.2 3 _ rfl).1, (h.2 4 _ rfl).1⟩
theorem Bx.c6 {w : World} {b : Nat} {a0 a1 a2 a3 a4 a5 : Value} {r : List Value} (h : Bx w b (a0 :: a1 :: a2 :: a3 :: a4 :: a5 :: r)) : w.cell? ⟨b, 0, none⟩ = some a0 ∧ w.cell? ⟨b, 1, none⟩ = some a1 ∧ w.cell? ⟨b, 2, none⟩ = some a2 ∧ w.cell? ⟨b, 3, none⟩ = some a3 ∧ w.cell? ⟨b, 4, none⟩ = some a4 ∧ w.cell? ⟨b, 5, none⟩ = some a5 :=
  ⟨(h.2 0 _ rfl).1, (h.2 1 _ rfl).1, (h.2 2 _ rfl).1, (h.2 3 _ rfl).1, (h.2 4 _ rfl).1, (h.2 5 _ rfl).1⟩
theorem Bx.cf6 {w : World} {b : Nat} {a0 a1 a2 a3 a4 a5 : Value} {r : List Value} (h : Bx w b (a0 :: a1 :: a2 :: a3 :: a4 :: a5 :: r)) : w.cell? ⟨b, 0, none⟩ = some a0 ∧ w.frozen? ⟨b, 0, none⟩ = false ∧ w.cell? ⟨b, 1, none⟩ = some a1 ∧ w.frozen? ⟨b, 1, none⟩ = false ∧ w.cell? ⟨b, 2, none⟩ = some a2 ∧ w.frozen? ⟨b, 2, none⟩ = false ∧ w.cell? ⟨b, 3, none⟩ = some a3 ∧ w.frozen? ⟨b, 3, none⟩ = false ∧ w.cell? ⟨b, 4, none⟩ = some a4 ∧ w.frozen? ⟨b, 4, none⟩ = false ∧ w.cell? ⟨b, 5, none⟩ = some a5 ∧ w.frozen? ⟨b, 5, none⟩ = false :=
  ⟨(h.2 0 _ rfl).1, (h.2 0 _ rfl).2, (h.2 1 _ rfl).1, (h.2 1 _ rfl).2, (h.2 2 _ rfl).1, (h.2 2 _ rfl).2, (h.2 3 _ rfl).1, (h.2 3 _ rfl).2, (h.2 4 _ rfl).1, (h.2 4 _ rfl).2, (h.2 5 _ rfl).1, (h.2 5 _ rfl).2⟩
theorem Bx.c7 {w : World} {b : Nat} {a0 a1 a2 a3 a4 a5 a6 : Value} {r : List Value} (h : Bx w b (a0 :: a1 :: a2 :: a3 :: a4 :: a5 :: a6 :: r)) : w.cell? ⟨b, 0, none⟩ = some a0 ∧ w.cell? ⟨b, 1, none⟩ = some a1 ∧ w.cell? ⟨b, 2, none⟩ = some a2 ∧ w.cell? ⟨b, 3, none⟩ = some a3 ∧ w.cell? ⟨b, 4, none⟩ = some a4 ∧ w.cell? ⟨b, 5, none⟩ = some a5 ∧ w.cell? ⟨b, 6, none⟩ = some a6 :=
  ⟨(h.2 0 _ rfl).1, (h.2 1 _ rfl).1, (h.2 2 _ rfl).1, (h.2 3 _ rfl).1, (h.2 4 _ rfl).1, (h.2 5 _ rfl).1, (h.2 6 _ rfl).1⟩
theorem Bx.c8 {w : World} {b : Nat} {a0 a1 a2 a3 a4 a5 a6 a7 : Value} {r : List Value} (h : Bx w b (a0 :: a1 :: a2 :: a3 :: a4 :: a5 :: a6 :: a7 :: r)) : w.cell? ⟨b, 0, none⟩ = some a0 ∧ w.cell? ⟨b, 1, none⟩ = some a1 ∧ w.cell? ⟨b, 2, none⟩ = some a2 ∧ w.cell? ⟨b, 3, none⟩ = some a3 ∧ w.cell? ⟨b, 4, none⟩ = some a4 ∧ w.cell? ⟨b, 5, none⟩ = some a5 ∧ w.cell? ⟨b, 6, none⟩ = some a6 ∧ w.cell? ⟨b, 7, none⟩ = some a7 :=
  ⟨(h.2 0 _ rfl).1, (h.2 1 _ rfl).1, (h.2 2 _ rfl).1, (h.2 3 _ rfl).1, (h.2 4 _ rfl).1, (h.2 5 _ rfl).1, (h.2 6 _ rfl).1, (h.2 7 _ rfl).1⟩
theorem Bx.c9 {w : World} {b : Nat} {a0 a1 a2 a3 a4 a5 a6 a7 a8 : Value} {r : List Value} (h : Bx w b (a0 :: a1 :: a2 :: a3 :: a4 :: a5 :: a6 :: a7 :: a8 :: r)) : w.cell? ⟨b, 0, none⟩ = some a0 ∧ w.cell? ⟨b, 1, none⟩ = some a1 ∧ w.cell? ⟨b, 2, none⟩ = some a2 ∧ w.cell? ⟨b, 3, none⟩ = some a3 ∧ w.cell? ⟨b, 4, none⟩ = some a4 ∧ w.cell? ⟨b, 5, none⟩ = some a5 ∧ w.cell? ⟨b, 6, none⟩ = some a6 ∧ w.cell? ⟨b, 7, none⟩ = some a7 ∧ w.cell? ⟨b, 8, none⟩ = some a8 :=
  ⟨(h.2 0 _ rfl).1, (h.2 1 _ rfl).1, (h.2 2 _ rfl).1, (h.2 3 _ rfl).1, (h.2 4 _ rfl).1, (h.2 5 _ rfl).1, (h.2 6 _ rfl).1, (h.2 7 _ rfl).1, (h.2 8 _ rfl).1⟩
theorem Bx.c10 {w : World} {b : Nat} {a0 a1 a2 a3 a4 a5 a6 a7 a8 a9 : Value} {r : List Value} (h : Bx w b (a0 :: a1 :: a2 :: a3 :: a4 :: a5 :: a6 :: a7 :: a8 :: a9 :: r)) : w.cell? ⟨b, 0, none⟩ = some a0 ∧ w.cell? ⟨b, 1, none⟩ = some a1 ∧ w.cell? ⟨b, 2, none⟩ = some a2 ∧ w.cell? ⟨b, 3, none⟩ = some a3 ∧ w.cell? ⟨b, 4, none⟩ = some a4 ∧ w.cell? ⟨b, 5, none⟩ = some a5 ∧ w.cell? ⟨b, 6, none⟩ = some a6 ∧ w.cell? ⟨b, 7, none⟩ = some a7 ∧ w.cell? ⟨b, 8, none⟩ = some a8 ∧ w.cell? ⟨b, 9, none⟩ = some a9 :=
  ⟨(h.2 0 _ rfl).1, (h.2 1 _ rfl).1, (h.2 2 _ rfl).1, (h.2 3 _ rfl).1, (h.2 4 _ rfl).1, (h.2 5 _ rfl).1, (h.2 6 _ rfl).1, (h.2 7 _ rfl).1, (h.2 8 _ rfl).1, (h.2 9 _ rfl).1⟩
theorem Bx.c11 {w : World} {b : Nat} {a0 a1 a2 a3 a4 a5 a6 a7 a8 a9 a10 : Value} {r : List Value} (h : Bx w b (a0 :: a1 :: a2 :: a3 :: a4 :: a5 :: a6 :: a7 :: a8 :: a9 :: a10 :: r)) : w.cell? ⟨b, 0, none⟩ = some a0 ∧ w.cell? ⟨b, 1, none⟩ = some a1 ∧ w.cell? ⟨b, 2, none⟩ = some a2 ∧ w.cell? ⟨b, 3, none⟩ = some a3 ∧ w.cell? ⟨b, 4, none⟩ = some a4 ∧ w.cell? ⟨b, 5, none⟩ = some a5 ∧ w.cell? ⟨b, 6, none⟩ = some a6 ∧ w.cell? ⟨b, 7, none⟩ = some a7 ∧ w.cell? ⟨b, 8, none⟩ = some a8 ∧ w.cell? ⟨b, 9, none⟩ = some a9 ∧ w.cell? ⟨b, 10, none⟩ = some a10 :=
  ⟨(h.2 0 _ rfl).1, (h.2 1 _ rfl).1, (h.2 2 _ rfl).1, (h.2 3 _ rfl).1, (h.2 4 _ rfl).1, (h.2 5 _ rfl).1, (h.2 6 _ rfl).1, (h.2 7 _ rfl).1, (h.2 8 _ rfl).1, (h.2 9 _ rfl).1, (h.2 10 _ rfl).1⟩
theorem boxes2 (w : World) (l0 : List Value) (t0 : TypeId) (l1 : List Value) (t1 : TypeId) : Bx ((w.alloc (.cells l0.toArray t0)).alloc (.cells l1.toArray t1)) (w.heap.size) l0 ∧ Bx ((w.alloc (.cells l0.toArray t0)).alloc (.cells l1.toArray t1)) (w.heap.size + 1) l1 ∧ Below w.heap.size w ((w.alloc (.cells l0.toArray t0)).alloc (.cells l1.toArray t1)) := by
  have h0 := Bx.new w l0 t0
  replace h0 := h0.alloc (.cells l1.toArray t1)
  have h1 := Bx.new (w.alloc (.cells l0.toArray t0)) l1 t1
  rw [sz_alloc] at h1
  exact ⟨h0, h1, ((Below.refl w.heap.size w).alloc (by first | exact Nat.le_refl _ | (simp <;> omega)) (.cells l0.toArray t0)).alloc (by first | exact Nat.le_refl _ | (simp <;> omega)) (.cells l1.toArray t1)⟩
theorem boxes3 (w : World) (l0 : List Value) (t0 : TypeId) (l1 : List Value) (t1 : TypeId) (l2 : List Value) (t2 : TypeId) : Bx (((w.alloc (.cells l0.toArray t0)).alloc (.cells l1.toArray t1)).alloc (.cells l2.toArray t2)) (w.heap.size) l0 ∧ Bx (((w.alloc (.cells l0.toArray t0)).alloc (.cells l1.toArray t1)).alloc (.cells l2.toArray t2)) (w.heap.size + 1) l1 ∧ Bx (((w.alloc (.cells l0.toArray t0)).alloc (.cells l1.toArray t1)).alloc (.cells l2.toArray t2)) (w.heap.size + 1 + 1) l2 ∧ Below w.heap.size w (((w.alloc (.cells l0.toArray t0)).alloc (.cells l1.toArray t1)).alloc (.cells l2.toArray t2)) := by
  have h0 := Bx.new w l0 t0
  replace h0 := h0.alloc (.cells l1.toArray t1)
  replace h0 := h0.alloc (.cells l2.toArray t2)
  have h1 := Bx.new (w.alloc (.cells l0.toArray t0)) l1 t1
  rw [sz_alloc] at h1
  replace h1 := h1.alloc (.cells l2.toArray t2)
  have h2 := Bx.new ((w.alloc (.cells l0.toArray t0)).alloc (.cells l1.toArray t1)) l2 t2
  rw [sz_alloc, sz_alloc] at h2
  exact ⟨h0, h1, h2, (((Below.refl w.heap.size w).alloc (by first | exact Nat.le_refl _ | (simp <;> omega)) (.cells l0.toArray t0)).alloc (by first | exact Nat.le_refl _ | (simp <;> omega)) (.cells l1.toArray t1)).alloc (by first | exact Nat.le_refl _ | (simp <;> omega)) (.cells l2.toArray t2)⟩
theorem boxes4 (w : World) (l0 : List Value) (t0 : TypeId) (l1 : List Value) (t1 : TypeId) (l2 : List Value) (t2 : TypeId) (l3 : List Value) (t3 : TypeId) : Bx ((((w.alloc (.cells l0.toArray t0)).alloc (.cells l1.toArray t1)).alloc (.cells l2.toArray t2)).alloc (.cells l3.toArray t3)) (w.heap.size) l0 ∧ Bx ((((w.alloc (.cells l0.toArray t0)).alloc (.cells l1.toArray t1)).alloc (.cells l2.toArray t2)).alloc (.cells l3.toArray t3)) (w.heap.size + 1) l1 ∧ Bx ((((w.alloc (.cells l0.toArray t0)).alloc (.cells l1.toArray t1)).alloc (.cells l2.toArray t2)).alloc (.cells l3.toArray t3)) (w.heap.size + 1 + 1) l2 ∧ Bx ((((w.alloc (.cells l0.toArray t0)).alloc (.cells l1.toArray t1)).alloc (.cells l2.toArray t2)).alloc (.cells l3.toArray t3)) (w.heap.size + 1 + 1 + 1) l3 ∧ Below w.heap.size w ((((w.alloc (.cells l0.toArray t0)).alloc (.cells l1.toArray t1)).alloc (.cells l2.toArray t2)).alloc (.cells l3.toArray t3)) := by
  have h0 := Bx.new w l0 t0
  replace h0 := h0.alloc (.cells l1.toArray t1)
  replace h0 := h0.alloc (.cells l2.toArray t2)
  replace h0 := h0.alloc (.cells l3.toArray t3)
  have h1 := Bx.new (w.alloc (.cells l0.toArray t0)) l1 t1
  rw [sz_alloc] at h1
  replace h1 := h1.alloc (.cells l2.toArray t2)
  replace h1 := h1.alloc (.cells l3.toArray t3)
  have h2 := Bx.new ((w.alloc (.cells l0.toArray t0)).alloc (.cells l1.toArray t1)) l2 t2
  rw [sz_alloc, sz_alloc] at h2
  replace h2 := h2.alloc (.cells l3.toArray t3)
  have h3 := Bx.new (((w.alloc (.cells l0.toArray t0)).alloc (.cells l1.toArray t1)).alloc (.cells l2.toArray t2)) l3 t3
  rw [sz_alloc, sz_alloc, sz_alloc] at h3
  exact ⟨h0, h1, h2, h3, ((((Below.refl w.heap.size w).alloc (by first | exact Nat.le_refl _ | (simp <;> omega)) (.cells l0.toArray t0)).alloc (by first | exact Nat.le_refl _ | (simp <;> omega)) (.cells l1.toArray t1)).alloc (by first | exact Nat.le_refl _ | (simp <;> omega)) (.cells l2.toArray t2)).alloc (by first | exact Nat.le_refl _ | (simp <;> omega)) (.cells l3.toArray t3)⟩
end Go.Proofs.YtddgpgldbekamaaGreat
set_option linter.unusedVariables false
namespace Go.Proofs.YtddgpgldbekamaaGreat
open Go.RowKit

/-- of the blocks that were there just those of B may have turned; B has become B' -/
structure Tr (B B' : Nat → Prop) (w w' : World) : Prop where
  os : w'.os = w.os
  tape : w'.tape = w.tape
  output : w'.output = w.output
  size : w.heap.size ≤ w'.heap.size
  block : ∀ k, k < w.heap.size → ¬ B k → w'.heap[k]? = w.heap[k]?
  fr : ∀ k, B' k → B k ∨ w.heap.size ≤ k
def Un (B C : Nat → Prop) : Nat → Prop := fun k => B k ∨ C k
def Dj (B C : Nat → Prop) : Prop := ∀ k, B k → ¬ C k
def Lt (B : Nat → Prop) (w : World) : Prop := ∀ k, B k → k < w.heap.size
def On (b : Nat) : Nat → Prop := fun k => k = b
theorem Tr.refl (B : Nat → Prop) (w : World) : Tr B B w w := ⟨rfl, rfl, rfl, Nat.le_refl _, fun _ _ _ => rfl, fun _ h => .inl h⟩
theorem Tr.trans {B B' B'' : Nat → Prop} {a b c : World} (h : Tr B B' a b) (h' : Tr B' B'' b c) : Tr B B'' a c :=
  ⟨h'.os.trans h.os, h'.tape.trans h.tape, h'.output.trans h.output, Nat.le_trans h.size h'.size,
   fun k hk hn => (h'.block k (Nat.lt_of_lt_of_le hk h.size) (fun e => by rcases h.fr k e with h1 | h1; exact hn h1; omega)).trans (h.block k hk hn),
   fun k hk => by rcases h'.fr k hk with h1 | h1; exact h.fr k h1; exact .inr (Nat.le_trans h.size h1)⟩
theorem Tr.of_below {B : Nat → Prop} {a b : World} (h : Below a.heap.size a b) : Tr B B a b :=
  ⟨h.os, h.tape, h.output, h.size, fun k hk _ => h.block k hk, fun _ h => .inl h⟩
theorem Tr.below {B B' : Nat → Prop} {a b c : World} (h : Tr B B' a b) (hb : Below b.heap.size b c) : Tr B B' a c := h.trans (Tr.of_below hb)
theorem Tr.drew (B : Nat → Prop) (w : World) : Tr B B w w.drew := Tr.of_below (below_drewN (Below.refl _ _) 1)
theorem Tr.alloc (B : Nat → Prop) (w : World) (o : Obj) : Tr B B w (w.alloc o) := Tr.of_below ((Below.refl _ _).alloc (Nat.le_refl _) o)
/-- a new block is counted in -/
theorem Tr.grow {B B' : Nat → Prop} {a b : World} (h : Tr B B' a b) {g : Nat} (hg : a.heap.size ≤ g) : Tr B (Un B' (On g)) a b :=
  ⟨h.os, h.tape, h.output, h.size, h.block, fun k hk => by rcases hk with hk | hk; exact h.fr k hk; exact .inr (by unfold On at hk; omega)⟩
theorem Tr.mono {B B' C : Nat → Prop} {a b : World} (h : Tr B B' a b) (hc : ∀ k, C k → B' k) : Tr B C a b := ⟨h.os, h.tape, h.output, h.size, h.block, fun k hk => h.fr k (hc k hk)⟩
/-- what stands beside it is carried along -/
theorem Tr.frame {B B' : Nat → Prop} {a b : World} (h : Tr B B' a b) (C : Nat → Prop) : Tr (Un B C) (Un B' C) a b :=
  ⟨h.os, h.tape, h.output, h.size, fun k hk hn => h.block k hk (fun e => hn (.inl e)), fun k hk => by
    rcases hk with hk | hk
    · rcases h.fr k hk with h1 | h1
      · exact .inl (.inl h1)
      · exact .inr h1
    · exact .inl (.inr hk)⟩
theorem Tr.setCell {B : Nat → Prop} (w : World) {g : Nat} (hg : B g) (j : Nat) (u : Value) : Tr B B w (w.setCell ⟨g, j, none⟩ u) :=
  ⟨rfl, rfl, rfl, by simp, fun k hk hn => Below.heap_setCell _ _ _ _ (fun e => hn (by simpa [e] using hg)), fun _ h => .inl h⟩
theorem Tr.grown {B : Nat → Prop} {w w' : World} {row : Option Nat} (h : w.grownBy w' row) (hr : ∀ k, row = some k → B k) : Tr B B w w' :=
  ⟨h.os, h.tape, h.output, h.size, fun k hk hn => h.block k hk (fun e => hn (hr k e.symm)), fun _ h => .inl h⟩
theorem Tr.to_below {B B' : Nat → Prop} {a b : World} {base : Nat} (h : Tr B B' a b) (hB : ∀ k, B k → base ≤ k) (hs : base ≤ a.heap.size) : Below base a b :=
  ⟨h.os, h.tape, h.output, h.size, fun k hk => h.block k (by omega) (fun e => by have := hB k e; omega)⟩
theorem Tr.base {B B' : Nat → Prop} {a b : World} {base : Nat} (h : Tr B B' a b) (hB : ∀ k, B k → base ≤ k) (hs : base ≤ a.heap.size) : ∀ k, B' k → base ≤ k := fun k hk => by
  rcases h.fr k hk with h1 | h1
  · exact hB k h1
  · omega
theorem Tr.dj {B B' C : Nat → Prop} {a b : World} (h : Tr B B' a b) (hd : Dj B C) (hc : Lt C a) : Dj B' C := fun k hk hk' => by
  rcases h.fr k hk with h1 | h1
  · exact hd k h1 hk'
  · have := hc k hk'; omega
theorem Tr.keep {B B' C : Nat → Prop} {a b : World} (h : Tr B B' a b) (hd : Dj B C) (hc : Lt C a) : ∀ k, C k → b.heap[k]? = a.heap[k]? := fun k hk => h.block k (hc k hk) (fun e => hd k e hk)
theorem Tr.lt {B B' C : Nat → Prop} {a b : World} (h : Tr B B' a b) (hc : Lt C a) : Lt C b := fun k hk => Nat.lt_of_lt_of_le (hc k hk) h.size
/-- a block beside it -/
theorem Tr.out {B B' : Nat → Prop} {a b : World} (h : Tr B B' a b) {k : Nat} (hk : k < a.heap.size) (hn : ¬ B k) : k < b.heap.size ∧ ¬ B' k ∧ b.heap[k]? = a.heap[k]? :=
  ⟨Nat.lt_of_lt_of_le hk h.size, fun e => by rcases h.fr k e with h1 | h1; exact hn h1; omega, h.block k hk hn⟩
theorem Tr.cell {B B' : Nat → Prop} {a b : World} (h : Tr B B' a b) {k j : Nat} (hk : k < a.heap.size) (hn : ¬ B k) : b.cell? ⟨k, j, none⟩ = a.cell? ⟨k, j, none⟩ := World.cell?_of_block (a := ⟨k, j, none⟩) (h.block k hk hn)
end Go.Proofs.YtddgpgldbekamaaGreat
