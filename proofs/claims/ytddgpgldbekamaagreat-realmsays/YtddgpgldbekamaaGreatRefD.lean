/- The document's Swept, plain: its rounds come to what a sweep leaves (E4). -/
/- The document's Swept, walked (E4). -/
import Derived.Test.YtddgpgldbekamaaGreatRealmTops2
import Derived.Test.YtddgpgldbekamaaGreatRfH
import Derived.Test.YtddgpgldbekamaaGreatRefA
import Derived.Test.YtddgpgldbekamaaGreatThingsOfW
import Derived.Test.YtddgpgldbekamaaGreatSweepB
set_option linter.unusedVariables false
set_option linter.unusedSimpArgs false
set_option linter.unnecessarySimpa false
namespace Go.Proofs.YtddgpgldbekamaaGreat
open Go.RowKit

/-- what notes lost in one round take along -/
def swW (ws : List Wr) (ns : List Nt) : List Wr := ns.foldl (fun W n => if hasT ws n.port then W else if 0 < (forgetN ws n).writ then withoutL W (forgetN ws n).writ else W) ws
def swK (ws : List Wr) (n : Nt) : Bool := !hasT ws n.port && decide (0 < (forgetN ws n).writ)
def swC (ws : List Wr) (ns : List Nt) : Nat := (ns.filter (swK ws)).length
def swM (ws : List Wr) (ns : List Nt) : List Nt := (leftL ws ns).map (forgetN ws)
/-- one round -/
def swR (r : Rm) : Rm := ⟨swW r.ws r.ns, r.ts.filter (fun t => hasT r.ws t.id), r.hs.filter (fun h => decide (0 ≤ find r.ws h.writ)), swM r.ws r.ns, r.nw, r.nt⟩
/-- those of some writs -/
def SubW (ws' ws : List Wr) : Prop := ∀ z ∈ ws', ∃ x ∈ ws, z.id = x.id ∧ z.thing = x.thing
theorem SubW.refl (ws : List Wr) : SubW ws ws := fun z hz => ⟨z, hz, rfl, rfl⟩
theorem SubW.trans {a b c : List Wr} (h : SubW a b) (h' : SubW b c) : SubW a c := by
  intro z hz
  obtain ⟨y, hy, e1, e2⟩ := h z hz
  obtain ⟨x, hx, f1, f2⟩ := h' y hy
  exact ⟨x, hx, e1.trans f1, e2.trans f2⟩
theorem SubW.hst {a b : List Wr} (h : SubW a b) {t : Int} (ht : hasT a t = true) : hasT b t = true := by
  obtain ⟨z, hz, e⟩ := hasT_iff.1 ht
  obtain ⟨x, hx, _, e2⟩ := h z hz
  exact hasT_iff.2 ⟨x, hx, by rw [← e2, e]⟩
theorem SubW.fnd {a b : List Wr} (h : SubW a b) {i : Int} (hi : 0 ≤ find a i) : 0 ≤ find b i := by
  obtain ⟨z, hz, e⟩ := find_pos_iff.1 hi
  obtain ⟨x, hx, e1, _⟩ := h z hz
  exact find_pos_iff.2 ⟨x, hx, by rw [← e1, e]⟩
theorem subW_wo (ws : List Wr) (i : Int) : SubW (withoutL ws i) ws := by
  intro z hz
  obtain ⟨x, hx, _, e1, e2, _⟩ := wo_mem' hz
  exact ⟨x, hx, e1, e2⟩
theorem subW_all (ns : List Nt) : ∀ ws : List Wr, SubW (woAll ws ns) ws := by
  induction ns with
  | nil => intro ws; exact SubW.refl ws
  | cons n r ih => intro ws; exact (ih (withoutL ws n.writ)).trans (subW_wo ws n.writ)
theorem subW_sweepN : ∀ (f : Nat) (ws : List Wr) (ns : List Nt), SubW (sweepN f ws ns).1 ws
  | 0, ws, ns => SubW.refl ws
  | f + 1, ws, ns => by
    unfold sweepN
    split
    · exact SubW.refl ws
    · exact (subW_sweepN f _ _).trans (subW_all _ ws)
/-- without a writ that isn't there nothing turns -/
theorem wo_miss {ws : List Wr} {i : Int} (h : find ws i < 0) : withoutL ws i = ws := by
  unfold withoutL
  have hno := find_neg_iff.1 h
  have hf : woFrom ws i = i := by unfold woFrom; rw [if_pos h]
  rw [hf]
  have : ∀ l : List Wr, (∀ x ∈ l, x ∈ ws) → l.flatMap (woStep i i) = l := by
    intro l
    induction l with
    | nil => intro _; rfl
    | cons x r ih =>
      intro hl
      have hx := hl x List.mem_cons_self
      have h1 : ¬ x.id = i := fun e => hno ⟨x, hx, e⟩
      rw [List.flatMap_cons, ih (fun y hy => hl y (List.mem_cons_of_mem _ hy))]
      have : woStep i i x = [x] := by
        unfold woStep
        rw [if_neg h1]
        split
        · rename_i e; cases x; simp at e; simp [e]
        · rfl
      rw [this]; rfl
  exact this ws (fun x hx => hx)
/-- ids are above 0 -/
def PosW (ws : List Wr) : Prop := ∀ x ∈ ws, 0 < x.id
theorem PosW.sub {a b : List Wr} (h : PosW b) (hs : SubW a b) : PosW a := by
  intro z hz
  obtain ⟨x, hx, e, _⟩ := hs z hz
  rw [e]; exact h x hx
theorem PosW.zero {ws : List Wr} (h : PosW ws) : find ws 0 < 0 := find_neg_iff.2 (fun ⟨x, hx, e⟩ => by have := h x hx; omega)
theorem PosW.pos {ws : List Wr} (h : PosW ws) {i : Int} (hi : 0 ≤ find ws i) : 0 < i := by
  obtain ⟨x, hx, e⟩ := find_pos_iff.1 hi
  rw [← e]; exact h x hx
theorem SubW.miss {a b : List Wr} (h : SubW a b) {i : Int} (hi : find b i < 0) : find a i < 0 := by
  by_cases hh : find a i < 0
  · exact hh
  · have := h.fnd (i := i) (by omega); omega
/-- a note whose writ is forgotten takes along what it took -/
theorem wo_forget {a ws : List Wr} (hs : SubW a ws) (hp : PosW ws) (n : Nt) : withoutL a (forgetN ws n).writ = withoutL a n.writ := by
  rw [forget_writ]
  by_cases h : find ws n.writ < 0
  · rw [if_pos h, wo_miss (hs.miss h), wo_miss (hs.miss hp.zero)]
  · rw [if_neg h]
theorem swW_eq (ws0 : List Wr) (hp : PosW ws0) : ∀ (ns : List Nt) (a : List Wr), SubW a ws0 → ns.foldl (fun W n => if hasT ws0 n.port then W else if 0 < (forgetN ws0 n).writ then withoutL W (forgetN ws0 n).writ else W) a = woAll a (lostL ws0 ns) := by
  intro ns
  induction ns with
  | nil => intro a _; rfl
  | cons n r ih =>
    intro a ha
    rw [List.foldl_cons]
    cases ht : hasT ws0 n.port with
    | true =>
      have : lostL ws0 (n :: r) = lostL ws0 r := by unfold lostL; rw [List.filter_cons]; simp [ht]
      rw [this]; simp only [if_true]; exact ih a ha
    | false =>
      have : lostL ws0 (n :: r) = n :: lostL ws0 r := by unfold lostL; rw [List.filter_cons]; simp [ht]
      rw [this]
      show _ = woAll (withoutL a n.writ) (lostL ws0 r)
      rw [if_neg (by simp)]
      by_cases h0 : 0 < (forgetN ws0 n).writ
      · rw [if_pos h0, wo_forget ha hp]
        exact ih _ ((subW_wo a n.writ).trans ha)
      · rw [if_neg h0]
        have hm : find ws0 n.writ < 0 := by
          by_cases hh : find ws0 n.writ < 0
          · exact hh
          · exfalso; apply h0; rw [forget_writ, if_neg hh]; exact hp.pos (by omega)
        rw [wo_miss (ha.miss hm)]
        exact ih a ha
theorem woAll_forget (ws0 : List Wr) (hp : PosW ws0) : ∀ (ns : List Nt) (a : List Wr), SubW a ws0 → woAll a (ns.map (forgetN ws0)) = woAll a ns := by
  intro ns
  induction ns with
  | nil => intro a _; rfl
  | cons n r ih =>
    intro a ha
    show woAll (withoutL a (forgetN ws0 n).writ) (r.map (forgetN ws0)) = woAll (withoutL a n.writ) r
    rw [wo_forget ha hp]
    exact ih _ ((subW_wo a n.writ).trans ha)
theorem lost_map (ws ws0 : List Wr) (ns : List Nt) : lostL ws (ns.map (forgetN ws0)) = (lostL ws ns).map (forgetN ws0) := by
  unfold lostL
  rw [List.filter_map]
  congr 2
  funext n; simp [forget_port]
theorem left_map (ws ws0 : List Wr) (ns : List Nt) : leftL ws (ns.map (forgetN ws0)) = (leftL ws ns).map (forgetN ws0) := by
  unfold leftL
  rw [List.filter_map]
  congr 2
  funext n; simp [forget_port]
theorem sweepN_map (ws0 : List Wr) (hp : PosW ws0) : ∀ (f : Nat) (ws : List Wr) (ns : List Nt), SubW ws ws0 → sweepN f ws (ns.map (forgetN ws0)) = ((sweepN f ws ns).1, (sweepN f ws ns).2.map (forgetN ws0))
  | 0, ws, ns, _ => rfl
  | f + 1, ws, ns, hs => by
    unfold sweepN
    rw [lost_map, left_map]
    by_cases h : lostL ws ns = []
    · rw [if_pos (by rw [h]; rfl), if_pos h]
    · rw [if_neg (by simpa using h), if_neg h, woAll_forget ws0 hp _ ws hs]
      exact sweepN_map ws0 hp f _ _ ((subW_all _ ws).trans hs)
theorem left_len {ws : List Wr} {ns : List Nt} (h : ¬ lostL ws ns = []) : (leftL ws ns).length < ns.length := by
  have := left_lost_len ws ns
  have : 0 < (lostL ws ns).length := List.length_pos_iff.2 h
  omega
theorem left_all {ws : List Wr} {ns : List Nt} (h : lostL ws ns = []) : leftL ws ns = ns := by
  unfold leftL
  rw [List.filter_eq_self]
  intro n hn
  by_cases ht : hasT ws n.port = true
  · exact ht
  · have : n ∈ lostL ws ns := mem_lost.2 ⟨hn, by simpa using ht⟩
    rw [h] at this; cases this
theorem sweepN_fuel : ∀ (f g : Nat) (ws : List Wr) (ns : List Nt), ns.length < f → ns.length < g → sweepN f ws ns = sweepN g ws ns
  | 0, _, _, _, h, _ => by omega
  | f + 1, 0, _, _, _, h => by omega
  | f + 1, g + 1, ws, ns, hf, hg => by
    unfold sweepN
    split
    · rfl
    · rename_i h
      have := left_len h
      exact sweepN_fuel f g _ _ (by omega) (by omega)
theorem sweepN_step {f : Nat} {ws : List Wr} {ns : List Nt} (h : ns.length < f) : sweepN f ws ns = sweepN f (woAll ws (lostL ws ns)) (leftL ws ns) := by
  by_cases hl : lostL ws ns = []
  · rw [hl, left_all hl]; rfl
  · obtain ⟨g, rfl⟩ : ∃ g, f = g + 1 := ⟨f - 1, by omega⟩
    have := left_len hl
    rw [sweepN_fuel (g + 1) g (woAll ws (lostL ws ns)) (leftL ws ns) (by omega) (by omega)]
    conv => lhs; unfold sweepN
    rw [if_neg hl]
theorem forget_two {a b : List Wr} (h : SubW a b) (hp : PosW b) (n : Nt) : forgetN a (forgetN b n) = forgetN a n := by
  by_cases hb : find b n.writ < 0
  · have e : forgetN b n = ⟨n.port, n.data, n.badge, 0⟩ := if_pos hb
    rw [e]
    have ea : forgetN a n = ⟨n.port, n.data, n.badge, 0⟩ := if_pos (h.miss hb)
    rw [ea]
    unfold forgetN; split <;> rfl
  · have e : forgetN b n = n := if_neg hb
    rw [e]
/-- behind a round a sweep leaves the same -/
theorem sweep_step {r : Rm} (hp : PosW r.ws) : sweepR (swR r) = sweepR r := by
  have e1 : swW r.ws r.ns = woAll r.ws (lostL r.ws r.ns) := swW_eq r.ws hp r.ns r.ws (SubW.refl _)
  have hs1 : SubW (woAll r.ws (lostL r.ws r.ns)) r.ws := subW_all _ _
  have hl : (leftL r.ws r.ns).length ≤ r.ns.length := List.length_filter_le _ _
  have hl2 : (swM r.ws r.ns).length ≤ r.ns.length := by unfold swM; rw [List.length_map]; exact hl
  have e2 : sweepN ((swR r).ns.length + 1) (swR r).ws (swR r).ns = ((sweepN (r.ns.length + 1) r.ws r.ns).1, (sweepN (r.ns.length + 1) r.ws r.ns).2.map (forgetN r.ws)) := by
    show sweepN ((swM r.ws r.ns).length + 1) (swW r.ws r.ns) (swM r.ws r.ns) = _
    rw [sweepN_fuel _ (r.ns.length + 1) _ _ (by omega) (by omega), e1]
    unfold swM
    rw [sweepN_map r.ws hp _ _ _ hs1, ← sweepN_step (by omega)]
  have hs2 : SubW (sweepN (r.ns.length + 1) r.ws r.ns).1 r.ws := subW_sweepN _ _ _
  unfold sweepR
  rw [e2]
  generalize sweepN (r.ns.length + 1) r.ws r.ns = S at hs2 ⊢
  show (⟨S.1, _, _, _, r.nw, r.nt⟩ : Rm) = _
  congr 1
  · show (r.ts.filter (fun t => hasT r.ws t.id)).filter _ = _
    rw [List.filter_filter]
    congr 1; funext t
    cases h : hasT S.1 t.id with
    | true => simp [hs2.hst h]
    | false => rfl
  · show (r.hs.filter (fun h => decide (0 ≤ find r.ws h.writ))).filter _ = _
    rw [List.filter_filter]
    congr 1; funext t
    by_cases h : 0 ≤ find S.1 t.writ
    · have := hs2.fnd h; simp [h, this]
    · simp [h]
  · show (S.2.map (forgetN r.ws)).map (forgetN S.1) = _
    rw [List.map_map]
    congr 1; funext n
    exact forget_two hs2 hp n
theorem swW_same {ws : List Wr} {ns : List Nt} (h : swC ws ns = 0) : ∀ a : List Wr, ns.foldl (fun W n => if hasT ws n.port then W else if 0 < (forgetN ws n).writ then withoutL W (forgetN ws n).writ else W) a = a := by
  have hk : ∀ n ∈ ns, swK ws n = false := by
    intro n hn
    have : ns.filter (swK ws) = [] := List.length_eq_zero_iff.1 h
    have := List.filter_eq_nil_iff.1 this n hn
    simpa using this
  clear h
  induction ns with
  | nil => intro a; rfl
  | cons n r ih =>
    intro a
    have h1 := hk n List.mem_cons_self
    rw [List.foldl_cons]
    have : (if hasT ws n.port = true then a else if 0 < (forgetN ws n).writ then withoutL a (forgetN ws n).writ else a) = a := by
      unfold swK at h1
      cases ht : hasT ws n.port with
      | true => rfl
      | false => rw [ht] at h1; rw [if_neg (by simp), if_neg (by simpa using h1)]
    rw [this]
    exact ih (fun m hm => hk m (List.mem_cons_of_mem _ hm)) a
/-- a round that takes nothing along is the last -/
theorem sweep_end {r : Rm} (hp : PosW r.ws) (h : swC r.ws r.ns = 0) : sweepR r = swR r := by
  rw [← sweep_step hp]
  have ew : (swR r).ws = r.ws := swW_same h r.ws
  have hl : lostL (swR r).ws (swR r).ns = [] := by
    rw [ew]
    show lostL r.ws (swM r.ws r.ns) = []
    unfold swM
    rw [lost_map]
    have : lostL r.ws (leftL r.ws r.ns) = [] := by
      unfold lostL
      rw [List.filter_eq_nil_iff]
      intro n hn
      simpa using (mem_left.1 hn).2
    rw [this]; rfl
  have hN : sweepN ((swR r).ns.length + 1) (swR r).ws (swR r).ns = ((swR r).ws, (swR r).ns) := by unfold sweepN; rw [if_pos hl]
  show (⟨_, _, _, _, r.nw, r.nt⟩ : Rm) = _
  rw [hN]
  dsimp only
  rw [ew]
  show (⟨r.ws, _, _, _, r.nw, r.nt⟩ : Rm) = ⟨swW r.ws r.ns, _, _, _, r.nw, r.nt⟩
  rw [show swW r.ws r.ns = r.ws from ew]
  congr 1
  · show (r.ts.filter (fun t => hasT r.ws t.id)).filter _ = _
    rw [List.filter_filter]; congr 1; funext t; simp
  · show (r.hs.filter (fun h => decide (0 ≤ find r.ws h.writ))).filter _ = _
    rw [List.filter_filter]; congr 1; funext t; simp
  · show (swM r.ws r.ns).map _ = swM r.ws r.ns
    unfold swM
    rw [List.map_map]; congr 1; funext n
    exact forget_two (SubW.refl _) hp n
theorem sw_less {r : Rm} (h : swC r.ws r.ns ≠ 0) : (swR r).ns.length < r.ns.length := by
  show (swM r.ws r.ns).length < _
  unfold swM
  rw [List.length_map]
  apply left_len
  intro hl
  apply h
  unfold swC
  rw [List.length_eq_zero_iff, List.filter_eq_nil_iff]
  intro n hn
  unfold swK
  cases ht : hasT r.ws n.port with
  | true => simp
  | false => have : n ∈ lostL r.ws r.ns := mem_lost.2 ⟨hn, ht⟩; rw [hl] at this; cases this
theorem swTake {α : Type} {l : List α} {k : Nat} {x : α} (hx : l[k]? = some x) : l.take (k + 1) = l.take k ++ [x] := by rw [List.take_add_one, hx]; rfl
/-- one note more of a round -/
theorem sw_keep {ws : List Wr} {ns : List Nt} {k : Nat} {y : Nt} (hy : ns[k]? = some y) (h : hasT ws y.port = true) :
    swW ws (ns.take (k + 1)) = swW ws (ns.take k) ∧ swC ws (ns.take (k + 1)) = swC ws (ns.take k) ∧ swM ws (ns.take (k + 1)) = swM ws (ns.take k) ++ [forgetN ws y] := by
  rw [swTake hy]
  unfold swW swC swM leftL swK
  simp [List.foldl_append, List.filter_append, h]
theorem sw_lost {ws : List Wr} {ns : List Nt} {k : Nat} {y : Nt} (hy : ns[k]? = some y) (h : hasT ws y.port = false) (h0 : 0 < (forgetN ws y).writ) :
    swW ws (ns.take (k + 1)) = withoutL (swW ws (ns.take k)) (forgetN ws y).writ ∧ swC ws (ns.take (k + 1)) = swC ws (ns.take k) + 1 ∧ swM ws (ns.take (k + 1)) = swM ws (ns.take k) := by
  rw [swTake hy]
  unfold swW swC swM leftL swK
  simp [List.foldl_append, List.filter_append, h, h0]
theorem sw_bare {ws : List Wr} {ns : List Nt} {k : Nat} {y : Nt} (hy : ns[k]? = some y) (h : hasT ws y.port = false) (h0 : ¬ 0 < (forgetN ws y).writ) :
    swW ws (ns.take (k + 1)) = swW ws (ns.take k) ∧ swC ws (ns.take (k + 1)) = swC ws (ns.take k) ∧ swM ws (ns.take (k + 1)) = swM ws (ns.take k) := by
  rw [swTake hy]
  unfold swW swC swM leftL swK
  simp [List.foldl_append, List.filter_append, h, h0]
theorem swC_le (ws : List Wr) (ns : List Nt) (k : Nat) : swC ws (ns.take k) ≤ k := Nat.le_trans (List.length_filter_le _ _) (List.length_take_le _ _)
theorem swM_le (ws : List Wr) (ns : List Nt) (k : Nat) : (swM ws (ns.take k)).length ≤ k := by
  unfold swM leftL; rw [List.length_map]; exact Nat.le_trans (List.length_filter_le _ _) (List.length_take_le _ _)
theorem swW_sub (ws : List Wr) (ns : List Nt) : SubW (swW ws ns) ws ∧ (swW ws ns).length ≤ ws.length := by
  have : ∀ (l : List Nt) (a : List Wr), SubW a ws → a.length ≤ ws.length → SubW (l.foldl (fun W n => if hasT ws n.port then W else if 0 < (forgetN ws n).writ then withoutL W (forgetN ws n).writ else W) a) ws ∧ (l.foldl (fun W n => if hasT ws n.port then W else if 0 < (forgetN ws n).writ then withoutL W (forgetN ws n).writ else W) a).length ≤ ws.length := by
    intro l
    induction l with
    | nil => intro a h1 h2; exact ⟨h1, h2⟩
    | cons n r ih =>
      intro a h1 h2
      rw [List.foldl_cons]
      split
      · exact ih a h1 h2
      · split
        · exact ih _ ((subW_wo a _).trans h1) (Nat.le_trans (withoutLen a _) h2)
        · exact ih a h1 h2
  exact this ns ws (SubW.refl _) (Nat.le_refl _)
theorem swR_sz {q : Rm} (h : RmSz q) : RmSz (swR q) := by
  have h1 := (swW_sub q.ws q.ns).2
  have h2 : (q.ts.filter (fun t => hasT q.ws t.id)).length ≤ q.ts.length := List.length_filter_le _ _
  have h3 : (q.hs.filter (fun h => decide (0 ≤ find q.ws h.writ))).length ≤ q.hs.length := List.length_filter_le _ _
  have h4 : (swM q.ws q.ns).length ≤ q.ns.length := by unfold swM leftL; rw [List.length_map]; exact List.length_filter_le _ _
  exact ⟨Nat.le_trans h1 h.w, Nat.le_trans h2 h.t, Nat.le_trans h3 h.h, Nat.le_trans h4 h.n, h.nw, h.nt⟩
end Go.Proofs.YtddgpgldbekamaaGreat
set_option linter.unusedSimpArgs false
set_option linter.unnecessarySimpa false
set_option linter.unusedVariables false
namespace Go.Proofs.YtddgpgldbekamaaGreat
open Go.RowKit

theorem gb_refl (a : World) (row : Option Nat) : a.grownBy a row := ⟨rfl, rfl, rfl, Nat.le_refl _, fun _ _ _ => rfl⟩
theorem gb_below {a b c : World} {row : Option Nat} (h : a.grownBy b row) (hb : Below b.heap.size b c) : a.grownBy c row :=
  ⟨hb.os.trans h.os, hb.tape.trans h.tape, hb.output.trans h.output, Nat.le_trans h.size hb.size, fun k hk hn => (hb.block k (Nat.lt_of_lt_of_le hk h.size)).trans (h.block k hk hn)⟩
theorem gb_new {a b c : World} {row r2 : Option Nat} (h : a.grownBy b row) (k : b.grownBy c r2) (hr : ∀ g, r2 = some g → a.heap.size ≤ g) : a.grownBy c row :=
  ⟨k.os.trans h.os, k.tape.trans h.tape, k.output.trans h.output, Nat.le_trans h.size k.size, fun i hi hn => (k.block i (Nat.lt_of_lt_of_le hi h.size) (fun e => by have := hr i e.symm; omega)).trans (h.block i hi hn)⟩
theorem gb_set {a b : World} {n : Nat} (h : a.grownBy b (some n)) (j : Nat) (v : Value) : a.grownBy (b.setCell ⟨n, j, none⟩ v) (some n) := by
  have hb : Below n b (b.setCell ⟨n, j, none⟩ v) := (Below.refl n b).setCell (p := ⟨n, j, none⟩) (Nat.le_refl _) v
  refine ⟨hb.os.trans h.os, hb.tape.trans h.tape, hb.output.trans h.output, by simpa using h.size, fun k hk hn => ?_⟩
  rw [← h.block k hk hn]
  exact Below.heap_setCell _ _ _ _ (fun e => hn (by rw [e]))
theorem own_gb {w w' : World} {base : Nat} {e : TypeId} {size : Nat} {v : Value} {n b : Nat} {xs : List Value} (h : w.ownsRow base e size v n xs) (hg : w.grownBy w' (some b)) (hb : b < base) : w'.ownsRow base e size v n xs :=
  h.kept hg (.inr (fun e => by have := (h.lt b e).1; omega))
theorem Fr.up {w V V' : World} {b : Nat} {c : List Value} {L : List (Nat × List Value)} (F : Fr w V ((b, c) :: L)) {row : Option Nat} (hg : V.grownBy V' row) (hr : ∀ k, row = some k → b < k) : Fr w V' ((b, c) :: L) := by
  refine F.grown hg (fun k hk => ?_)
  have h1 := hr k hk
  have h2 := F.lo (b, c) List.mem_cons_self
  refine ⟨by simp at h2; omega, fun p hp => ?_⟩
  rcases List.mem_cons.1 hp with rfl | hp
  · simp; omega
  · have := (List.pairwise_cons.1 F.ch).1 p hp
    simp at this; omega
theorem inB_up {ws : List Wr} (h : ∀ x ∈ ws, 0 < x.id ∧ 1 ≤ x.thing ∧ x.thing ≤ 999) (t : Int) : inB (thUp ws 999) t = hasT ws t := by
  have h1 : inB (thUp ws 999) t = true ↔ hasT ws t = true := by
    unfold inB
    rw [List.contains_iff_mem, thUp_mem, hasT_iff]
    constructor
    · rintro ⟨_, _, h⟩; exact h
    · rintro ⟨x, hx, e⟩; have := h x hx; exact ⟨by omega, by omega, x, hx, e⟩
  cases h2 : inB (thUp ws 999) t <;> cases h3 : hasT ws t <;> simp_all
theorem filt_yes {α : Type} {p : α → Bool} {l : List α} {k : Nat} {x : α} (hx : l[k]? = some x) (h : p x = true) : (l.take (k + 1)).filter p = (l.take k).filter p ++ [x] := by
  rw [List.take_add_one, hx]; simp [List.filter_append, h]
theorem filt_no {α : Type} {p : α → Bool} {l : List α} {k : Nat} {x : α} (hx : l[k]? = some x) (h : p x = false) : (l.take (k + 1)).filter p = (l.take k).filter p := by
  rw [List.take_add_one, hx]; simp [List.filter_append, h]
theorem filt_le {α : Type} (p : α → Bool) (l : List α) (k : Nat) : ((l.take k).filter p).length ≤ k := Nat.le_trans (List.length_filter_le _ _) (List.length_take_le _ _)
theorem Fr.c0 {w V : World} {b : Nat} {c c' : List Value} {L : List (Nat × List Value)} (F : Fr w V ((b, c) :: L)) (e : c = c') : Fr w V ((b, c') :: L) := e ▸ F
theorem Fr.c1 {w V : World} {p : Nat × List Value} {b : Nat} {c c' : List Value} {L : List (Nat × List Value)} (F : Fr w V (p :: (b, c) :: L)) (e : c = c') : Fr w V (p :: (b, c') :: L) := e ▸ F
theorem Fr.tl {w V : World} {p : Nat × List Value} {L : List (Nat × List Value)} (F : Fr w V (p :: L)) : Fr w V L :=
  ⟨fun q hq => F.bx q (List.mem_cons_of_mem _ hq), fun q hq => F.lo q (List.mem_cons_of_mem _ hq), (List.pairwise_cons.1 F.ch).2, F.bl⟩
theorem own_set6 {w : World} {base : Nat} {e : TypeId} {size : Nat} {v : Value} {n b : Nat} {xs : List Value} (h : w.ownsRow base e size v n xs) (hb : b < base) (x0 x1 x2 x3 x4 x5 : Value) :
    ((((((w.setCell ⟨b, 0, none⟩ x0).setCell ⟨b, 1, none⟩ x1).setCell ⟨b, 2, none⟩ x2).setCell ⟨b, 3, none⟩ x3).setCell ⟨b, 4, none⟩ x4).setCell ⟨b, 5, none⟩ x5).ownsRow base e size v n xs :=
  ownsRow_setCell_below (ownsRow_setCell_below (ownsRow_setCell_below (ownsRow_setCell_below (ownsRow_setCell_below (ownsRow_setCell_below h (a := ⟨b, 0, none⟩) hb x0) (a := ⟨b, 1, none⟩) hb x1) (a := ⟨b, 2, none⟩) hb x2) (a := ⟨b, 3, none⟩) hb x3) (a := ⟨b, 4, none⟩) hb x4) (a := ⟨b, 5, none⟩) hb x5
/-- where a round's writs lie: where they lay, or in a row of its own -/
def SwA (P : Option Addr → Prop) (n : Nat) (W0 S V : World) (a : Option Addr) (m c : Nat) (l : List Wr) : Prop :=
  (WrsAt W0 a l ∧ l.length = m ∧ Fit m c ∧ (l = [] ∨ OffA n n a) ∧ P a) ∨ V.ownsRow S.heap.size 39 5 (.slice a m c) l.length (l.flatMap wcells)
theorem SwA.at {P : Option Addr → Prop} {n : Nat} {W0 S V : World} {a : Option Addr} {m c : Nat} {l : List Wr} (h : SwA P n W0 S V a m c l) (hb : Below W0.heap.size W0 V) (hn : n + 1 < S.heap.size) (hP : ∀ a, HiA (n + 2) a → P a) : WrsAt V a l ∧ l.length = m ∧ Fit m c ∧ (l = [] ∨ OffA n n a) ∧ P a := by
  rcases h with ⟨h1, h2, h3, h4⟩ | h
  · exact ⟨h1.below hb, h2, h3, h4⟩
  · obtain ⟨h1, h2, h3⟩ := WrsAt.ofRow h
    exact ⟨h1, h2.symm, h2 ▸ h3, .inr (off_hi (hi_of_row h) hn (by omega)), hP a ((hi_of_row h).mono (by omega))⟩
theorem SwA.below {P : Option Addr → Prop} {n : Nat} {W0 S V V' : World} {a : Option Addr} {m c : Nat} {l : List Wr} (h : SwA P n W0 S V a m c l) (hb : Below V.heap.size V V') : SwA P n W0 S V' a m c l := h.imp id (fun h => ownsRow_after h hb)
theorem SwA.set {P : Option Addr → Prop} {n : Nat} {W0 S V : World} {a : Option Addr} {m c : Nat} {l : List Wr} (h : SwA P n W0 S V a m c l) {b : Nat} (hb : b < S.heap.size) (j : Nat) (x : Value) : SwA P n W0 S (V.setCell ⟨b, j, none⟩ x) a m c l :=
  h.imp id (fun h => ownsRow_setCell_below h (a := ⟨b, j, none⟩) hb x)
theorem SwA.kept {P : Option Addr → Prop} {n : Nat} {W0 S V V' : World} {a : Option Addr} {m c B k : Nat} {l : List Wr} {v : Value} {xs : List Value} (h : SwA P n W0 S V a m c l) (hv : V.ownsRow B 52 4 v k xs) (hg : V.grownBy V' v.ownBlock) : SwA P n W0 S V' a m c l :=
  h.imp id (fun h => Dist.kept h hg (Dist.of_type h hv (by decide)))
/-- what a round has laid is a realm, behind the stores of a box too -/
theorem sw_rm {V : World} {n b B1 B2 B3 : Nat} {a0 a1 a2 a3 : Option Addr} {c0 n1 c1 n2 c2 n3 c3 : Nat} {q : Rm} (hb : b = n ∨ b = n + 1) (hW : WrsAt V a0 q.ws) (ho : q.ws = [] ∨ OffA n n a0) (fw : Fit q.ws.length c0)
    (hT : V.ownsRow B1 73 3 (.slice a1 n1 c1) q.ts.length (q.ts.flatMap tcells)) (hH : V.ownsRow B2 93 3 (.slice a2 n2 c2) q.hs.length (q.hs.flatMap hcells)) (hN : V.ownsRow B3 52 4 (.slice a3 n3 c3) q.ns.length (q.ns.flatMap ncells))
    (h1 : b < B1) (h2 : b < B2) (h3 : b < B3) (x0 x1 x2 x3 x4 x5 : Value) :
    RmAt ((((((V.setCell ⟨b, 0, none⟩ x0).setCell ⟨b, 1, none⟩ x1).setCell ⟨b, 2, none⟩ x2).setCell ⟨b, 3, none⟩ x3).setCell ⟨b, 4, none⟩ x4).setCell ⟨b, 5, none⟩ x5) a0 a1 a2 a3 c0 c1 c2 c3 q ∧ n1 = q.ts.length ∧ n2 = q.hs.length ∧ n3 = q.ns.length := by
  have hy : Boxy n n b := by unfold Boxy; omega
  obtain ⟨t1, t2, t3⟩ := ThsAt.ofRow (own_set6 hT h1 x0 x1 x2 x3 x4 x5)
  obtain ⟨u1, u2, u3⟩ := HdsAt.ofRow (own_set6 hH h2 x0 x1 x2 x3 x4 x5)
  obtain ⟨v1, v2, v3⟩ := NtsAt.ofRow (own_set6 hN h3 x0 x1 x2 x3 x4 x5)
  exact ⟨⟨(((((hW.setOff ho hy 0 _).setOff ho hy 1 _).setOff ho hy 2 _).setOff ho hy 3 _).setOff ho hy 4 _).setOff ho hy 5 _, t1, u1, v1, fw, t3, u3, v3⟩, t2, u2, v2⟩
set_option maxHeartbeats 4000000 in
set_option maxRecDepth 100000 in
theorem rswept_any (aw at_ ah an : Option Addr) (cw ct ch cn : Nat) (r : Rm) (w : World) (hr : RmAt w aw at_ ah an cw ct ch cn r) (hz : RmSz r) (hp : ∀ x ∈ r.ws, 0 < x.id ∧ 1 ≤ x.thing ∧ x.thing ≤ 999) (P : Option Addr → Prop) (hP : P aw) (hPn : ∀ a, HiA w.heap.size a → P a) :
    Calls Tryz.prog 43 #[.agg #[.slice aw r.ws.length cw, .slice at_ r.ts.length ct, .slice ah r.hs.length ch, .slice an r.ns.length cn, .int .i64 r.nw, .int .i64 r.nt]] w fun e w' => (∃ a0 a1 a2 a3 c0 c1 c2 c3, e = .returned (.agg #[.slice a0 (sweepR r).ws.length c0, .slice a1 (sweepR r).ts.length c1, .slice a2 (sweepR r).hs.length c2, .slice a3 (sweepR r).ns.length c3, .int .i64 (sweepR r).nw, .int .i64 (sweepR r).nt]) ∧ RmAt w' a0 a1 a2 a3 c0 c1 c2 c3 (sweepR r) ∧ P a0 ∧ HiA w.heap.size a1 ∧ HiA w.heap.size a2 ∧ HiA w.heap.size a3) ∧ Below w.heap.size w w' := by
  have F := fr2 w [.slice aw r.ws.length cw, .slice at_ r.ts.length ct, .slice ah r.hs.length ch, .slice an r.ns.length cn, .int .i64 r.nw, .int .i64 r.nt] 30 [.slice none 0 0, .slice none 0 0, .slice none 0 0, .slice none 0 0, .int .i64 0, .int .i64 0] 30
  have u := F.u2
  have hr1 := hr.below F.bl
  have ho : r.ws = [] ∨ OffA w.heap.size w.heap.size aw := off_wrs hr.w (Nat.le_refl _)
  go_enter Tryz.func43, Tryz.ntmps43
  go_wp2_with fail
  obtain ⟨V1, eV, G⟩ := F.nm
  rw [eV] at hr1 ⊢
  clear eV u hr
  replace F := G
  clear G
  go_loopw [3] (fun _ wr => ∃ (q : Rm) (aw at_ ah an : Option Addr) (cw ct ch cn : Nat), Hid (sweepR q = sweepR r) ∧ Hid (∀ x ∈ q.ws, 0 < x.id ∧ 1 ≤ x.thing ∧ x.thing ≤ 999) ∧ Hid (RmSz q) ∧ Hid ((q.ws = [] ∨ OffA w.heap.size w.heap.size aw) ∧ P aw) ∧ RmAt wr aw at_ ah an cw ct ch cn q ∧ Fr w wr [(w.heap.size + 1, [.slice none 0 0, .slice none 0 0, .slice none 0 0, .slice none 0 0, .int .i64 0, .int .i64 0]), (w.heap.size, [.slice aw q.ws.length cw, .slice at_ q.ts.length ct, .slice ah q.hs.length ch, .slice an q.ns.length cn, .int .i64 q.nw, .int .i64 q.nt])]) (fun _ wr => sliceLen (wr.cell? ⟨w.heap.size, 3, none⟩))
  case atStart => exact ⟨r, aw, at_, ah, an, cw, ct, ch, cn, rfl, hp, hz, ⟨ho, hP⟩, hr1, F⟩
  case round =>
    clear F hr1 ho hz hp hP
    obtain ⟨q, aw, at_, ah, an, cw, ct, ch, cn, HS, HP, HZ, HO, hA, F⟩ := hrel
    have u := F.u2
    have mw := HZ.out.w
    have mt := HZ.out.t
    have mh := HZ.out.h
    have mn := HZ.out.n
    generalize wr = W0 at *
    have HC1 : Hid (W0.cell? ⟨w.heap.size, 1, none⟩ = some (.slice at_ q.ts.length ct)) := ((F.b 1).2 1 _ rfl).1
    have HC2 : Hid (W0.cell? ⟨w.heap.size, 2, none⟩ = some (.slice ah q.hs.length ch)) := ((F.b 1).2 2 _ rfl).1
    have HC3 : Hid (W0.cell? ⟨w.heap.size, 3, none⟩ = some (.slice an q.ns.length cn)) := ((F.b 1).2 3 _ rfl).1
    go_wp2_with fail
    obtain ⟨V, eV, G⟩ := (F.al [.slice aw q.ws.length cw, .slice none 0 0, .slice none 0 0, .slice none 0 0, .int .i64 q.nw, .int .i64 q.nt] 30).nm
    have hbV : Below W0.heap.size W0 V := by rw [← eV]; exact (Below.refl _ _).alloc (Nat.le_refl _) _
    have hsV : V.heap.size = W0.heap.size + 1 := by rw [← eV]; simp
    rw [eV]
    clear eV
    replace F := G
    replace u := F.u3
    clear G
    refine (thingsOf_row aw cw q.ws V (hA.w.below hbV) mw).mono ?_
    rintro e S1 ⟨vz, rfl, hrz, hb⟩
    have HT : Hid (∀ t, inB (thUp q.ws 999) t = hasT q.ws t) := inB_up HP.out
    have mZ : (thUp q.ws 999).length ≤ 1000 := Nat.le_trans (thUp_len _ _) (by decide)
    generalize thUp q.ws 999 = Z at *
    obtain ⟨az, cz, rfl, -, -⟩ := ints_of_row hrz
    replace F := F.below hb
    replace u := F.u3
    have hb0 : Below W0.heap.size W0 S1 := Below_after hbV hb
    rw [hsV] at hrz
    have hlo : W0.heap.size < S1.heap.size := by have := hb.size; omega
    have hlo1 := hlo
    clear hb hbV hsV
    go_wp2_with fail
    go_loopw [5] (fun i wr => ∃ (k n1 c1 : Nat) (a1 : Option Addr), k ≤ q.ts.length ∧ i = .int .i64 k ∧ Hid (wr.ownsRow S1.heap.size 73 3 (.slice a1 n1 c1) ((q.ts.take k).filter (fun t => hasT q.ws t.id)).length (((q.ts.take k).filter (fun t => hasT q.ws t.id)).flatMap tcells)) ∧ Hid (S1.grownBy wr (some W0.heap.size)) ∧ Fr w wr [(W0.heap.size, [.slice aw q.ws.length cw, .slice a1 n1 c1, .slice none 0 0, .slice none 0 0, .int .i64 q.nw, .int .i64 q.nt]), (w.heap.size + 1, [.slice none 0 0, .slice none 0 0, .slice none 0 0, .slice none 0 0, .int .i64 0, .int .i64 0]), (w.heap.size, [.slice aw q.ws.length cw, .slice at_ q.ts.length ct, .slice ah q.hs.length ch, .slice an q.ns.length cn, .int .i64 q.nw, .int .i64 q.nt])]) (fun i _ => q.ts.length - (intOf i).toNat)
    case atStart => exact ⟨0, 0, 0, none, Nat.zero_le _, rfl, (by simpa [Hid] using World.ownsRow_nil _ _ _ _), (show Hid _ from gb_refl _ _), F⟩
    case round =>
      clear F u
      obtain ⟨k, n1, c1, a1, hk, rfl, HR, HG, F⟩ := hrel
      have u := F.u3
      have hsz := HG.out.size
      have hs0 := hb0.size
      by_cases hlt : k < q.ts.length
      · obtain ⟨b, o, rfl, hbb, hx⟩ := hA.t.resolve_left (fun e => by rw [e] at hlt; simp at hlt)
        obtain ⟨y, hy⟩ : ∃ y, q.ts[k]? = some y := ⟨_, List.getElem?_eq_getElem hlt⟩
        have hy0 := hx k y hy
        have hbw : Below W0.heap.size W0 wr := hb0.grown HG.out hb0.size (fun k hk => by cases hk; exact Nat.le_refl _)
        obtain ⟨q0, q1, q2⟩ := hy0.below hbw hbb
        have dlt : decide ((k : Int) < (q.ts.length : Int)) = true := decide_eq_true (by omega)
        have hiz := own_gb hrz HG.out (Nat.lt_succ_self _)
        obtain ⟨_, _, e1, hI, -⟩ := ints_of_row hiz
        obtain ⟨rfl, rfl⟩ := (by simpa using e1 : az = _ ∧ cz = _)
        clear e1
        go_wp2_with fail
        refine (rhasN_any az cz Z y.id _ hI (by omega)).mono ?_
        rintro e w' ⟨rfl, hw'⟩
        obtain rfl := hw'.symm
        cases hp : inB Z y.id
        · have HN := filt_no (p := fun t => hasT q.ws t.id) hy (by rw [← HT.out]; exact hp)
          rw [← HN] at HR
          clear HN hx hy
          go_wp2_with fail
          go_roundw
          case rel => exact ⟨k + 1, n1, c1, a1, by omega, by go_num, HR, HG, F⟩
          case measure => simp [intOf]; omega
        have HN := filt_yes (p := fun t => hasT q.ws t.id) hy (by rw [← HT.out]; exact hp)
        have hle := filt_le (fun t => hasT q.ws t.id) q.ts k
        go_wp2_with fail
        refine wp_region_held_drew (S := fun w' => Below W0.heap.size W0 w') (by kernel_rfl) (below_drewN hbw 1) (fun _ => ?_)
        obtain ⟨X, eX, G⟩ := F.drew.nm
        have hbX : Below W0.heap.size W0 X := by rw [← eX]; exact below_drewN hbw 1
        have hoX := ownsRow_after HR.out (below_drewN (Below.refl _ _) 1)
        have hgX := gb_below HG.out (below_drewN (Below.refl _ _) 1)
        have eX' : wr.drewN 1 = X := eX
        rw [eX'] at hoX hgX
        rw [eX]
        clear eX eX'
        replace F := G
        replace u := F.u3
        clear G HR HG hbw q0 q1 q2
        have hoY := ownsRow_after hoX ((Below.refl _ _).alloc (Nat.le_refl _) (.cells #[.int .i64 y.id, .int .i64 y.kind, .string y.data] 73))
        obtain ⟨i0, hi, hi0, hi1, hi2⟩ := info_parts infoThing
        obtain ⟨vB, wB, hrB, hoB, hgB, -⟩ := run_append_own (P := Tryz.prog) (X.alloc (.cells #[.int .i64 y.id, .int .i64 y.kind, .string y.data] 73)) S1.heap.size 26 26 73 i0 (.agg #[.int .i64 0, .int .i64 0, .string ByteArray.empty]) 3 32 Tryz.underlying26 hi hi0 hi1 hi2 rfl (by decide) (.slice a1 n1 c1) _ _ hoY ⟨X.heap.size, 0, none⟩ 1 1 [.int .i64 y.id, .int .i64 y.kind, .string y.data] rfl (new3n X _ rfl _ _ _ _) (by intro u hu; simp at hu; rcases hu with rfl | rfl | rfl <;> rfl) (by unfold maxLen; omega) (by omega) (by have := hgX.size; simp; omega)
        have hbB : Below W0.heap.size W0 wB := (hbX.alloc hbX.size _).grown hgB (by have := hbX.size; simp; omega) (fun k hk => by have := (hoY.lt k hk).1; omega)
        have hgB2 : S1.grownBy wB (some W0.heap.size) := gb_new (gb_below hgX ((Below.refl _ _).alloc (Nat.le_refl _) _)) hgB (fun k hk => (hoY.lt k hk).1)
        have HoB : Hid (wB.ownsRow S1.heap.size 73 3 vB ((q.ts.take (k + 1)).filter (fun t => hasT q.ws t.id)).length (((q.ts.take (k + 1)).filter (fun t => hasT q.ws t.id)).flatMap tcells)) := (show _ from by rw [HN, List.length_append, List.flatMap_append]; exact hoB)
        obtain ⟨a', c', hvB, -, -⟩ := trow_at HoB.out
        obtain ⟨n', hn'⟩ : ∃ n', ((q.ts.take (k + 1)).filter (fun t => hasT q.ws t.id)).length = n' := ⟨_, rfl⟩
        rw [hn'] at hvB
        subst hvB
        clear hn' hoB hoX
        have FB := (F.by (.cells #[.int .i64 y.id, .int .i64 y.kind, .string y.data] 73)).up hgB (fun k hk => by have := (hoY.lt k hk).1; omega)
        have hRl : w.heap.size < W0.heap.size := by have := u.2.2.2; omega
        refine tkI 0 (.pointer (some ⟨W0.heap.size, 1, none⟩)) rfl ?_
        refine tkI 2 (.pointer (some ⟨w.heap.size, 1, none⟩)) rfl ?_
        refine tkJ 3 (.slice (some ⟨b, o, none⟩) q.ts.length ct) rfl (by intro w' hS; have z := ((bcell hS).1 _ _ hRl).trans HC1.out; clear hS u; go_simp) ?_
        refine tkI 4 (.int .i64 k) rfl ?_
        refine tkJ 5 (.pointer (some ⟨b, o + k * 3, none⟩)) rfl (by intro w' hS; clear hS u; go_simp) ?_
        refine tkJ 6 (.agg #[.int .i64 y.id, .int .i64 y.kind, .string y.data]) rfl (by intro w' hS; obtain ⟨z0, z1, z2⟩ := hy0.below hS hbb; clear hS u; go_simp) ?_
        have hbY : Below W0.heap.size W0 (X.alloc (.cells #[.int .i64 y.id, .int .i64 y.kind, .string y.data] 73)) := hbX.alloc hbX.size _
        refine rdJ 1 7 rfl rfl (fun K hK => ?_) (fun K hK => ?_)
        focus
          go_wp2_with fail
          refine hK.out _ _ hbX (fun _ => ?_)
          clear hK K
          refine rdI 7 rfl (fun K hK => ?_)
          go_wp2_with fail
          refine hK.out _ _ hbY (fun _ => ?_)
          clear hK K
        rotate_left
        focus
          go_wp2_with fail
          refine hK.out _ _ hbY (fun _ => ?_)
          clear hK K
          refine rdI 1 rfl (fun K hK => ?_)
          go_wp2_with fail
          refine hK.out _ _ hbY (fun _ => ?_)
          clear hK K
        all_goals
          refine rdI 8 rfl (fun K hK => ?_)
          refine wp_append_eq _ _ _ rfl _ _ _ rfl rfl hrB ?_
          refine hK.out _ _ hbB (fun _ => ?_)
          clear hK K
          replace u := FB.u3
          refine tkI 9 (.pointer (some ⟨W0.heap.size, 1, none⟩)) rfl ?_
          refine rdI 10 rfl (fun K hK => ?_)
          go_wp2_with fail
          refine hK.out _ _ (hbB.setCell (p := ⟨W0.heap.size, 1, none⟩) (Nat.le_refl _) _) (fun _ => ?_)
          clear hK K
          refine wpAnyH_done (by kernel_rfl) ?_ _
          have FS := FB.set 0 1 (.slice a' n' c')
          simp only [List.set_cons_zero, List.set_cons_succ] at FS
          have hgS := gb_set hgB2 1 (.slice a' n' c')
          have HoS : Hid (World.ownsRow _ _ _ _ _ _ _) := ownsRow_setCell_below HoB.out (a := ⟨W0.heap.size, 1, none⟩) hlo (.slice a' n' c')
          go_wp2_with fail
          go_roundw
          case rel => exact ⟨k + 1, n', c', a', by omega, by go_num, HoS, hgS, FS⟩
          case measure => simp [intOf]; omega
      have dlt : decide ((k : Int) < (q.ts.length : Int)) = false := decide_eq_false (by omega)
      have HR1 : Hid (wr.ownsRow S1.heap.size 73 3 (.slice a1 n1 c1) (q.ts.filter (fun t => hasT q.ws t.id)).length ((q.ts.filter (fun t => hasT q.ws t.id)).flatMap tcells)) := (show _ from by have := HR.out; rw [List.take_of_length_le (by omega)] at this; exact this)
      have hbn : Below W0.heap.size W0 wr := hb0.grown HG.out hb0.size (fun k hk => by cases hk; exact Nat.le_refl _)
      have hlo2 : W0.heap.size < wr.heap.size := by have := HG.out.size; omega
      clear HR hk hb0
      have hb0 := hbn
      replace hlo := hlo2
      replace hrz := own_gb hrz HG.out (Nat.lt_succ_self _)
      have hloB := hlo
      clear hbn hlo2 HG hsz
      generalize wr = S2 at *
      go_wp2_with fail
      clear dlt hlt
      go_loopw [7] (fun i wr => ∃ (k n2 c2 : Nat) (a2 : Option Addr), k ≤ q.hs.length ∧ i = .int .i64 k ∧ Hid (wr.ownsRow S2.heap.size 93 3 (.slice a2 n2 c2) ((q.hs.take k).filter (fun h => decide (0 ≤ find q.ws h.writ))).length (((q.hs.take k).filter (fun h => decide (0 ≤ find q.ws h.writ))).flatMap hcells)) ∧ Hid (S2.grownBy wr (some W0.heap.size)) ∧ Fr w wr [(W0.heap.size, [.slice aw q.ws.length cw, .slice a1 n1 c1, .slice a2 n2 c2, .slice none 0 0, .int .i64 q.nw, .int .i64 q.nt]), (w.heap.size + 1, [.slice none 0 0, .slice none 0 0, .slice none 0 0, .slice none 0 0, .int .i64 0, .int .i64 0]), (w.heap.size, [.slice aw q.ws.length cw, .slice at_ q.ts.length ct, .slice ah q.hs.length ch, .slice an q.ns.length cn, .int .i64 q.nw, .int .i64 q.nt])]) (fun i _ => q.hs.length - (intOf i).toNat)
      case atStart => exact ⟨0, 0, 0, none, Nat.zero_le _, rfl, (by simpa [Hid] using World.ownsRow_nil _ _ _ _), (show Hid _ from gb_refl _ _), F⟩
      case round =>
        clear F u
        obtain ⟨k, n2, c2, a2, hk, rfl, HR, HG, F⟩ := hrel
        have u := F.u3
        have hsz := HG.out.size
        have hs0 := hb0.size
        by_cases hlt : k < q.hs.length
        · obtain ⟨b, o, rfl, hbb, hx⟩ := hA.h.resolve_left (fun e => by rw [e] at hlt; simp at hlt)
          obtain ⟨y, hy⟩ : ∃ y, q.hs[k]? = some y := ⟨_, List.getElem?_eq_getElem hlt⟩
          have hy0 := hx k y hy
          have hbw : Below W0.heap.size W0 wr := hb0.grown HG.out hb0.size (fun k hk => by cases hk; exact Nat.le_refl _)
          obtain ⟨q0, q1, q2⟩ := hy0.below hbw hbb
          have dlt : decide ((k : Int) < (q.hs.length : Int)) = true := decide_eq_true (by omega)
          go_wp2_with fail
          refine wp_region_held_drew (S := fun w' => Hid (w' = wr.drew)) (by kernel_rfl) (show _ = _ from rfl) (fun _ => ?_)
          obtain ⟨X0, eX, G⟩ := F.drew.nm
          have hbX0 : Below W0.heap.size W0 X0 := by rw [← eX]; exact below_drewN hbw 1
          have hoX0 := ownsRow_after HR.out (below_drewN (Below.refl _ _) 1)
          have hgX0 := gb_below HG.out (below_drewN (Below.refl _ _) 1)
          have eX' : wr.drewN 1 = X0 := eX
          rw [eX'] at hoX0 hgX0
          replace HR : Hid (World.ownsRow _ _ _ _ _ _ _) := hoX0
          replace HG : Hid (World.grownBy _ _ _) := hgX0
          rw [eX]
          have hS0 : Hid (X0 = X0) := (show _ = _ from rfl)
          clear eX eX' hoX0 hgX0 q0 q1 q2 hbw
          replace F := G
          replace u := F.u3
          clear G
          have hbw := hbX0
          obtain ⟨q0, q1, q2⟩ := hy0.below hbw hbb
          refine tkI 0 (.pointer (some ⟨w.heap.size, 0, none⟩)) rfl ?_
          refine tkJ 1 (.slice aw q.ws.length cw) rfl (by intro w' hS; obtain rfl := hS.out; clear hS hS0; go_simp) ?_
          refine tkI 2 (.pointer (some ⟨w.heap.size, 2, none⟩)) rfl ?_
          refine tkJ 3 (.slice (some ⟨b, o, none⟩) q.hs.length ch) rfl (by intro w' hS; obtain rfl := hS.out; clear hS hS0; go_simp) ?_
          refine tkI 4 (.int .i64 k) rfl ?_
          refine tkJ 5 (.pointer (some ⟨b, o + k * 3, none⟩)) rfl (by intro w' hS; obtain rfl := hS.out; clear hS hS0; go_simp) ?_
          refine tkI 6 (.pointer (some ⟨b, o + k * 3 + 2, none⟩)) rfl ?_
          refine tkJ 7 (.int .i64 y.writ) rfl (by intro w' hS; obtain rfl := hS.out; clear hS hS0; go_simp) ?_
          refine rdI 8 rfl (fun K hK => ?_)
          go_wp2_with (go_at_call 27; refine (findWrit_any aw cw q.ws y.writ X0 (hA.w.below hbw) (by omega)).mono ?_; rintro e w' ⟨rfl, hw'⟩; obtain rfl := hw'.symm)
          refine hK.out _ _ (show X0 = X0 from rfl) (fun _ => ?_)
          clear hK K hS0
          have hS0 : Hid (X0 = X0) := (show _ = _ from rfl)
          refine tkJ 9 (.bool (decide (0 ≤ find q.ws y.writ))) rfl (by intro w' hS; obtain rfl := hS.out; clear hS hS0; go_simp) ?_
          refine wpAnyH_done (by kernel_rfl) ?_ _
          cases hp : decide (0 ≤ find q.ws y.writ)
          · have HN := filt_no (p := fun h => decide (0 ≤ find q.ws h.writ)) hy hp
            rw [← HN] at HR
            clear HN hx hy
            go_wp2_with fail
            go_roundw
            case rel => exact ⟨k + 1, n2, c2, a2, by omega, by go_num, HR, HG, F⟩
            case measure => simp [intOf]; omega
          have HN := filt_yes (p := fun h => decide (0 ≤ find q.ws h.writ)) hy hp
          have hle := filt_le (fun h => decide (0 ≤ find q.ws h.writ)) q.hs k
          go_wp2_with fail
          refine wp_region_held_drew (S := fun w' => Below W0.heap.size W0 w') (by kernel_rfl) (below_drewN hbw 1) (fun _ => ?_)
          obtain ⟨X, eX, G⟩ := F.drew.nm
          have hbX : Below W0.heap.size W0 X := by rw [← eX]; exact below_drewN hbw 1
          have hoX := ownsRow_after HR.out (below_drewN (Below.refl _ _) 1)
          have hgX := gb_below HG.out (below_drewN (Below.refl _ _) 1)
          have eX' : X0.drewN 1 = X := eX
          rw [eX'] at hoX hgX
          rw [eX]
          clear eX eX'
          replace F := G
          replace u := F.u3
          clear G HR HG hbw q0 q1 q2
          have hoY := ownsRow_after hoX ((Below.refl _ _).alloc (Nat.le_refl _) (.cells #[.int .i64 y.holder, .int .i64 y.slot, .int .i64 y.writ] 93))
          obtain ⟨i0, hi, hi0, hi1, hi2⟩ := info_parts infoHeld
          obtain ⟨vB, wB, hrB, hoB, hgB, -⟩ := run_append_own (P := Tryz.prog) (X.alloc (.cells #[.int .i64 y.holder, .int .i64 y.slot, .int .i64 y.writ] 93)) S2.heap.size 27 27 93 i0 (.agg #[.int .i64 0, .int .i64 0, .int .i64 0]) 3 24 Tryz.underlying27 hi hi0 hi1 hi2 rfl (by decide) (.slice a2 n2 c2) _ _ hoY ⟨X.heap.size, 0, none⟩ 1 1 [.int .i64 y.holder, .int .i64 y.slot, .int .i64 y.writ] rfl (new3n X _ rfl _ _ _ _) (by intro u hu; simp at hu; rcases hu with rfl | rfl | rfl <;> rfl) (by unfold maxLen; omega) (by omega) (by have := hgX.size; simp; omega)
          have hbB : Below W0.heap.size W0 wB := (hbX.alloc hbX.size _).grown hgB (by have := hbX.size; simp; omega) (fun k hk => by have := (hoY.lt k hk).1; omega)
          have hgB2 : S2.grownBy wB (some W0.heap.size) := gb_new (gb_below hgX ((Below.refl _ _).alloc (Nat.le_refl _) _)) hgB (fun k hk => (hoY.lt k hk).1)
          have HoB : Hid (wB.ownsRow S2.heap.size 93 3 vB ((q.hs.take (k + 1)).filter (fun h => decide (0 ≤ find q.ws h.writ))).length (((q.hs.take (k + 1)).filter (fun h => decide (0 ≤ find q.ws h.writ))).flatMap hcells)) := (show _ from by rw [HN, List.length_append, List.flatMap_append]; exact hoB)
          obtain ⟨a', c', hvB, -, -⟩ := hrow_at HoB.out
          obtain ⟨n', hn'⟩ : ∃ n', ((q.hs.take (k + 1)).filter (fun h => decide (0 ≤ find q.ws h.writ))).length = n' := ⟨_, rfl⟩
          rw [hn'] at hvB
          subst hvB
          clear hn' hoB hoX
          have FB := (F.by (.cells #[.int .i64 y.holder, .int .i64 y.slot, .int .i64 y.writ] 93)).up hgB (fun k hk => by have := (hoY.lt k hk).1; omega)
          have hRl : w.heap.size < W0.heap.size := by have := u.2.2.2; omega
          refine tkI 0 (.pointer (some ⟨W0.heap.size, 2, none⟩)) rfl ?_
          refine tkI 2 (.pointer (some ⟨w.heap.size, 2, none⟩)) rfl ?_
          refine tkJ 3 (.slice (some ⟨b, o, none⟩) q.hs.length ch) rfl (by intro w' hS; have z := ((bcell hS).1 _ _ hRl).trans HC2.out; clear hS u; go_simp) ?_
          refine tkI 4 (.int .i64 k) rfl ?_
          refine tkJ 5 (.pointer (some ⟨b, o + k * 3, none⟩)) rfl (by intro w' hS; clear hS u; go_simp) ?_
          refine tkJ 6 (.agg #[.int .i64 y.holder, .int .i64 y.slot, .int .i64 y.writ]) rfl (by intro w' hS; obtain ⟨z0, z1, z2⟩ := hy0.below hS hbb; clear hS u; go_simp) ?_
          have hbY : Below W0.heap.size W0 (X.alloc (.cells #[.int .i64 y.holder, .int .i64 y.slot, .int .i64 y.writ] 93)) := hbX.alloc hbX.size _
          refine rdJ 1 7 rfl rfl (fun K hK => ?_) (fun K hK => ?_)
          focus
            go_wp2_with fail
            refine hK.out _ _ hbX (fun _ => ?_)
            clear hK K
            refine rdI 7 rfl (fun K hK => ?_)
            go_wp2_with fail
            refine hK.out _ _ hbY (fun _ => ?_)
            clear hK K
          rotate_left
          focus
            go_wp2_with fail
            refine hK.out _ _ hbY (fun _ => ?_)
            clear hK K
            refine rdI 1 rfl (fun K hK => ?_)
            go_wp2_with fail
            refine hK.out _ _ hbY (fun _ => ?_)
            clear hK K
          all_goals
            refine rdI 8 rfl (fun K hK => ?_)
            refine wp_append_eq _ _ _ rfl _ _ _ rfl rfl hrB ?_
            refine hK.out _ _ hbB (fun _ => ?_)
            clear hK K
            replace u := FB.u3
            refine tkI 9 (.pointer (some ⟨W0.heap.size, 2, none⟩)) rfl ?_
            refine rdI 10 rfl (fun K hK => ?_)
            go_wp2_with fail
            refine hK.out _ _ (hbB.setCell (p := ⟨W0.heap.size, 2, none⟩) (Nat.le_refl _) _) (fun _ => ?_)
            clear hK K
            refine wpAnyH_done (by kernel_rfl) ?_ _
            have FS := FB.set 0 2 (.slice a' n' c')
            simp only [List.set_cons_zero, List.set_cons_succ] at FS
            have hgS := gb_set hgB2 2 (.slice a' n' c')
            have HoS : Hid (World.ownsRow _ _ _ _ _ _ _) := ownsRow_setCell_below HoB.out (a := ⟨W0.heap.size, 2, none⟩) hlo (.slice a' n' c')
            go_wp2_with fail
            go_roundw
            case rel => exact ⟨k + 1, n', c', a', by omega, by go_num, HoS, hgS, FS⟩
            case measure => simp [intOf]; omega
        have dlt : decide ((k : Int) < (q.hs.length : Int)) = false := decide_eq_false (by omega)
        have HR2 : Hid (wr.ownsRow S2.heap.size 93 3 (.slice a2 n2 c2) (q.hs.filter (fun h => decide (0 ≤ find q.ws h.writ))).length ((q.hs.filter (fun h => decide (0 ≤ find q.ws h.writ))).flatMap hcells)) := (show _ from by have := HR.out; rw [List.take_of_length_le (by omega)] at this; exact this)
        have hbn : Below W0.heap.size W0 wr := hb0.grown HG.out hb0.size (fun k hk => by cases hk; exact Nat.le_refl _)
        have hlo2 : W0.heap.size < wr.heap.size := by have := HG.out.size; omega
        clear HR hk hb0
        have hb0 := hbn
        replace hlo := hlo2
        replace hrz := own_gb hrz HG.out (Nat.lt_succ_self _)
        replace HR1 : Hid (World.ownsRow _ _ _ _ _ _ _) := own_gb HR1.out HG.out hlo1
        clear hbn hlo2 HG hsz
        generalize wr = S3 at *
        go_wp2_with fail
        clear dlt hlt
        have hlo4 : w.heap.size + 1 < S3.heap.size := by have h1 := u.2.2.2; omega
        go_loopw [8, 9] (fun l i wr => ∃ (k n3 c3 n0 c0 : Nat) (a3 a0 : Option Addr), k ≤ q.ns.length ∧ i = .int .i64 k ∧ l = .int .i64 (((swC q.ws (q.ns.take k)) : Nat) : Int) ∧ Hid (wr.ownsRow S3.heap.size 52 4 (.slice a3 n3 c3) (swM q.ws (q.ns.take k)).length ((swM q.ws (q.ns.take k)).flatMap ncells)) ∧ Hid (SwA P w.heap.size W0 S3 wr a0 n0 c0 (swW q.ws (q.ns.take k))) ∧ Hid (S3.grownBy wr (some W0.heap.size)) ∧ Fr w wr [(W0.heap.size, [.slice a0 n0 c0, .slice a1 n1 c1, .slice a2 n2 c2, .slice a3 n3 c3, .int .i64 q.nw, .int .i64 q.nt]), (w.heap.size + 1, [.slice none 0 0, .slice none 0 0, .slice none 0 0, .slice none 0 0, .int .i64 0, .int .i64 0]), (w.heap.size, [.slice aw q.ws.length cw, .slice at_ q.ts.length ct, .slice ah q.hs.length ch, .slice an q.ns.length cn, .int .i64 q.nw, .int .i64 q.nt])]) (fun _ i _ => q.ns.length - (intOf i).toNat)
        case atStart => exact ⟨0, 0, 0, q.ws.length, cw, none, aw, Nat.zero_le _, rfl, rfl, (by simpa [Hid, swM, leftL] using World.ownsRow_nil _ _ _ _), (show Hid _ from .inl ⟨hA.w, rfl, hA.fw, HO.out.1, HO.out.2⟩), (show Hid _ from gb_refl _ _), F⟩
        case round =>
          clear F u
          obtain ⟨k, n3, c3, n0, c0, a3, a0, hk, rfl, rfl, HR, HW, HG, F⟩ := hrel
          have u := F.u3
          have hsz := HG.out.size
          have hcl := swC_le q.ws q.ns k
          have hml := swM_le q.ws q.ns k
          have hbw : Below W0.heap.size W0 wr := hb0.grown HG.out hb0.size (fun k hk => by cases hk; exact Nat.le_refl _)
          by_cases hlt : k < q.ns.length
          · obtain ⟨b, o, rfl, hbb, hx⟩ := hA.n.resolve_left (fun e => by rw [e] at hlt; simp at hlt)
            obtain ⟨y, hy⟩ : ∃ y, q.ns[k]? = some y := ⟨_, List.getElem?_eq_getElem hlt⟩
            have hy0 := hx k y hy
            obtain ⟨q0, q1, q2, q3⟩ := hy0.below hbw hbb
            have dlt : decide ((k : Int) < (q.ns.length : Int)) = true := decide_eq_true (by omega)
            go_wp2_with fail
            have hbM : Below wr.heap.size wr (wr.alloc (.cells #[.int .i64 y.port, .string y.data, .int .i64 y.badge, .int .i64 y.writ] 52)) := (Below.refl _ _).alloc (Nat.le_refl _) _
            obtain ⟨M, eM, G⟩ := (F.al [.int .i64 y.port, .string y.data, .int .i64 y.badge, .int .i64 y.writ] 52).nm
            rw [eM] at hbM ⊢
            clear eM q0 q1 q2 q3
            replace F := G
            replace u := F.u4
            clear G
            refine (findWrit_any aw cw q.ws y.writ M (hA.w.below (Below_after hbw hbM)) (by omega)).mono ?_
            rintro e w' ⟨rfl, hw'⟩
            obtain rfl := hw'.symm
            obtain ⟨z, hz⟩ : ∃ z, forgetN q.ws y = z := ⟨_, rfl⟩
            have Hz : Hid (forgetN q.ws y = z) := hz
            clear hw'
            by_cases hf : find q.ws y.writ < 0
            case' pos =>
              have df : decide (find q.ws y.writ < 0) = true := decide_eq_true hf
              have ez : z = ⟨y.port, y.data, y.badge, 0⟩ := by rw [← hz]; exact if_pos hf
              clear hz
              go_wp2_with fail
              have hb9 : Below wr.heap.size wr (M.setCell ⟨wr.heap.size, 3, none⟩ (.int .i64 0)) := hbM.setCell (p := ⟨wr.heap.size, 3, none⟩) (Nat.le_refl _) _
              obtain ⟨M2, eM, G⟩ := ((F.set 0 3 (.int .i64 0)).c0 (c' := [.int .i64 z.port, .string z.data, .int .i64 z.badge, .int .i64 z.writ]) (by rw [ez]; rfl)).nm
              rw [eM] at hb9 ⊢
              clear eM df ez
            case' neg =>
              have df : decide (find q.ws y.writ < 0) = false := decide_eq_false hf
              have ez : z = y := by rw [← hz]; exact if_neg hf
              clear hz
              go_wp2_with fail
              have hb9 := hbM
              obtain ⟨M2, eM, G⟩ := (F.c0 (c' := [.int .i64 z.port, .string z.data, .int .i64 z.badge, .int .i64 z.writ]) (by rw [ez])).nm
              rw [eM] at hb9 ⊢
              clear eM df ez
            all_goals
              replace F := G
              replace u := F.u4
              clear G hf hbM
              have hR9 := ownsRow_after HR.out hb9
              have hS9 := HW.out.below hb9
              obtain ⟨hW9, w9b, w9c, w9d, -⟩ := hS9.at (Below_after hbw hb9) hlo4 (fun a ha => hPn a (ha.mono (by omega)))
              have hG9 := gb_below HG.out hb9
              have hlM : wr.heap.size < M2.heap.size := u.1.1
              obtain ⟨_, _, e1, hI, -⟩ := ints_of_row (own_gb hrz hG9 (Nat.lt_succ_self _))
              obtain ⟨rfl, rfl⟩ := (by simpa using e1 : az = _ ∧ cz = _)
              clear e1
              refine (rhasN_any az cz Z y.port M2 hI (by omega)).mono ?_
              rintro e w' ⟨rfl, hw'⟩
              obtain rfl := hw'.symm
              clear hw' hI
              have HT2 : Hid (inB Z y.port = hasT q.ws y.port) := HT.out y.port
              cases hp : inB Z y.port
              · by_cases h0 : 0 < z.writ
                · have d0 : decide (0 < z.writ) = true := decide_eq_true h0
                  obtain ⟨s1, s2, s3⟩ := sw_lost hy (by rw [← HT2.out]; exact hp) (by rw [Hz.out]; exact h0)
                  rw [Hz.out] at s1
                  go_wp2_with fail
                  have hcon := rwithout_any a0 c0 (swW q.ws (q.ns.take k)) z.writ M2 hW9 (by have := (swW_sub q.ws (q.ns.take k)).2; omega)
                  rw [w9b, ← s1] at hcon
                  refine hcon.mono ?_
                  rintro e w5 ⟨v5, rfl, hr5, hb5⟩
                  obtain ⟨a5, c5, hv5, -, -⟩ := wrow_at hr5
                  obtain ⟨n5, hn5⟩ : ∃ n5, (swW q.ws (q.ns.take (k + 1))).length = n5 := ⟨_, rfl⟩
                  rw [hn5] at hv5
                  subst hv5
                  replace F := F.below hb5
                  replace u := F.u4
                  have hwl : S3.heap.size ≤ M2.heap.size := by omega
                  have hR5 := ownsRow_setCell_below (ownsRow_after hR9 hb5) (a := ⟨W0.heap.size, 0, none⟩) hlo (.slice a5 n5 c5)
                  rw [← s3] at hR5
                  have HR5 : Hid (World.ownsRow _ _ _ _ _ _ _) := hR5
                  have hS5 : Hid (SwA P w.heap.size W0 S3 (w5.setCell ⟨W0.heap.size, 0, none⟩ (.slice a5 n5 c5)) a5 n5 c5 (swW q.ws (q.ns.take (k + 1)))) := (show _ ∨ _ from .inr (ownsRow_setCell_below (ownsRow_mono hr5 hwl) (a := ⟨W0.heap.size, 0, none⟩) hlo _))
                  have hG5 : Hid (World.grownBy _ _ _) := gb_set (gb_below hG9 hb5) 0 (.slice a5 n5 c5)
                  have HS2 : Hid (_ = _) := s2
                  clear hcon hr5 hR5 hR9 hS9 hW9 w9b w9c w9d hG9 s1 s2 s3 hn5 HT2 hy hx HR HW HG
                  go_wp2_with fail
                  have FS := (F.set 1 0 (.slice a5 n5 c5)).tl
                  simp only [List.set_cons_zero, List.set_cons_succ] at FS
                  go_roundw
                  case rel => exact ⟨k + 1, n3, c3, n5, c5, a3, a5, by omega, by go_num, by rw [HS2.out]; go_num, HR5, hS5, hG5, FS⟩
                  case measure => simp [intOf]; omega
                · have d0 : decide (0 < z.writ) = false := decide_eq_false h0
                  obtain ⟨s1, s2, s3⟩ := sw_bare hy (by rw [← HT2.out]; exact hp) (by rw [Hz.out]; exact h0)
                  rw [← s3] at hR9
                  rw [← s1] at hS9
                  rw [← s2]
                  have HR5 : Hid (World.ownsRow _ _ _ _ _ _ _) := hR9
                  have hS5 : Hid (SwA _ _ _ _ _ _ _ _ _) := hS9
                  have hG5 : Hid (World.grownBy _ _ _) := hG9
                  clear hR9 hS9 hW9 w9b w9c w9d hG9 s1 s2 s3 HT2 hy hx HR HW HG
                  go_wp2_with fail
                  go_roundw
                  case rel => exact ⟨k + 1, n3, c3, n0, c0, a3, a0, by omega, by go_num, rfl, HR5, hS5, hG5, F.tl⟩
                  case measure => simp [intOf]; omega
              · obtain ⟨s1, s2, s3⟩ := sw_keep hy (by rw [← HT2.out]; exact hp)
                rw [Hz.out] at s3
                rw [← s1] at hS9
                rw [← s2]
                have hoY := ownsRow_after hR9 ((Below.refl _ _).alloc (Nat.le_refl _) (.cells #[.int .i64 z.port, .string z.data, .int .i64 z.badge, .int .i64 z.writ] 52))
                have HS3 : Hid (_ = _) := s3
                have hS5 : Hid (SwA _ _ _ _ _ _ _ _ _) := hS9.below ((Below.refl _ _).alloc (Nat.le_refl _) (.cells #[.int .i64 z.port, .string z.data, .int .i64 z.badge, .int .i64 z.writ] 52))
                obtain ⟨i0, hi, hi0, hi1, hi2⟩ := info_parts infoNote
                clear hS9 hW9 w9b w9c w9d s1 s2 s3 HT2 hy hx HR HW HG
                go_wp2_with (at_builtin; refine wpList_append_own _ rfl _ _ 28 rfl S3.heap.size 52 i0 (.agg #[.int .i64 0, .string ByteArray.empty, .int .i64 0, .int .i64 0]) 4 40 Tryz.underlying28 hi hi0 hi1 hi2 rfl (by decide) _ _ _ rfl hoY _ 1 1 [.int .i64 z.port, .string z.data, .int .i64 z.badge, .int .i64 z.writ] rfl rfl (new4g M2 _ rfl _ _ _ _ _) (ncell_one z) ?c3 ?c4 ?c5 ?_)
                case c3 => show (swM q.ws (q.ns.take k)).length + 1 ≤ maxLen; unfold maxLen; omega
                case c4 => show ((swM q.ws (q.ns.take k)).length + 1) * 40 ≤ 140737488355328; omega
                case c5 => simp; omega
                intro v6 w6 ho6 hg6 _
                have HoB : Hid (w6.ownsRow S3.heap.size 52 4 v6 (swM q.ws (q.ns.take (k + 1))).length ((swM q.ws (q.ns.take (k + 1))).flatMap ncells)) := (show _ from by rw [HS3.out, List.length_append, List.flatMap_append]; exact ho6)
                obtain ⟨a6, c6, hv6, -, -⟩ := nrow_at HoB.out
                obtain ⟨n6, hn6⟩ : ∃ n6, (swM q.ws (q.ns.take (k + 1))).length = n6 := ⟨_, rfl⟩
                rw [hn6] at hv6
                subst hv6
                have hlk : ∀ k, (Value.slice a3 n3 c3).ownBlock = some k → S3.heap.size ≤ k := fun k hk => (hoY.lt k hk).1
                replace F := (F.tl.by (.cells #[.int .i64 z.port, .string z.data, .int .i64 z.badge, .int .i64 z.writ] 52)).up hg6 (fun k hk => by have := hlk k hk; omega)
                replace u := F.u3
                have HR5 : Hid (World.ownsRow _ _ _ _ _ _ _) := ownsRow_setCell_below HoB.out (a := ⟨W0.heap.size, 3, none⟩) hlo (.slice a6 n6 c6)
                replace hS5 : Hid (SwA _ _ _ _ _ _ _ _ _) := (hS5.out.kept hoY hg6).set hlo 3 (.slice a6 n6 c6)
                have hG5 : Hid (World.grownBy _ _ _) := gb_set (gb_new (gb_below hG9 ((Below.refl _ _).alloc (Nat.le_refl _) _)) hg6 hlk) 3 (.slice a6 n6 c6)
                clear hn6 ho6 hg6 hlk hoY HoB HS3 hG9 hR9
                go_wp2_with fail
                have FS := F.set 0 3 (.slice a6 n6 c6)
                simp only [List.set_cons_zero, List.set_cons_succ] at FS
                go_roundw
                case rel => exact ⟨k + 1, n6, c6, n0, c0, a6, a0, by omega, by go_num, rfl, HR5, hS5, hG5, FS⟩
                case measure => simp [intOf]; omega
          have dlt : decide ((k : Int) < (q.ns.length : Int)) = false := decide_eq_false (by omega)
          have htk : q.ns.take k = q.ns := List.take_of_length_le (by omega)
          have hR := HR.out
          have hW := HW.out
          rw [htk] at hR hW hcl
          rw [htk]
          have hB1 := own_gb HR1.out HG.out hlo1
          have hB2 := own_gb HR2.out HG.out hloB
          obtain ⟨w5a, w5b, w5c, w5d, w5e⟩ := hW.at hbw hlo4 (fun a ha => hPn a (ha.mono (by omega)))
          have hlw : w.heap.size + 1 < W0.heap.size := by have h1 := u.2.2.2; omega
          have hrm := fun b hb hl => sw_rm (q := swR q) (n := w.heap.size) (b := b) hb w5a w5d (w5b ▸ w5c) hB1 hB2 hR (Nat.lt_of_le_of_lt hl hlo1) (Nat.lt_of_le_of_lt hl hloB) (Nat.lt_of_le_of_lt hl hlo) (.slice a0 n0 c0) (.slice a1 n1 c1) (.slice a2 n2 c2) (.slice a3 n3 c3) (.int .i64 q.nw) (.int .i64 q.nt)
          have hpw : PosW q.ws := fun x hx => (HP.out x hx).1
          have HRM : Hid _ := hrm
          have HN0 : Hid ((swW q.ws q.ns).length = n0) := w5b
          have HW0 : Hid ((swW q.ws q.ns = [] ∨ OffA w.heap.size w.heap.size a0) ∧ P a0) := ⟨w5d, w5e⟩
          have HHi : Hid (HiA w.heap.size a1 ∧ HiA w.heap.size a2 ∧ HiA w.heap.size a3) := ⟨(hi_of_row hB1).mono (by omega), (hi_of_row hB2).mono (by omega), (hi_of_row hR).mono (by omega)⟩
          obtain ⟨lc, hlc⟩ : ∃ v, swC q.ws q.ns = v := ⟨_, rfl⟩
          have HLC : Hid (swC q.ws q.ns = lc) := hlc
          rw [hlc]
          rw [hlc] at hcl
          clear hlc htk hR hW hB1 hB2 w5a w5b w5c w5d w5e hrm HR HW HG HR1 HR2 hbw
          by_cases h0 : lc = 0
          · have d0 : ((lc : Int) == 0) = true := by simp [h0]
            have HSW : Hid (sweepR r = swR q) := (show _ = _ from by rw [← HS.out]; exact sweep_end hpw (HLC.out.trans h0))
            clear h0
            go_wp2_with fail
            refine bodyPost_ret (v := .agg #[.slice a0 n0 c0, .slice a1 n1 c1, .slice a2 n2 c2, .slice a3 n3 c3, .int .i64 q.nw, .int .i64 q.nt]) (by simp [results, Tryz.results43, go_sem, u]) rfl ?_
            obtain ⟨hm, e1, e2, e3⟩ := HRM.out (w.heap.size + 1) (.inr rfl) (by omega)
            rw [HSW.out]
            refine ⟨⟨a0, a1, a2, a3, c0, c1, c2, c3, ?_, hm, HW0.out.2, HHi.out⟩, (F.set6 1 (.slice a0 n0 c0) (.slice a1 n1 c1) (.slice a2 n2 c2) (.slice a3 n3 c3) (.int .i64 q.nw) (.int .i64 q.nt)).bl⟩
            rw [← e1, ← e2, ← e3, show (swR q).ws.length = n0 from HN0.out]
            rfl
          have d0 : ((lc : Int) == 0) = false := by simp [h0]
          have hless : (swR q).ns.length < q.ns.length := sw_less (by rw [HLC.out]; exact h0)
          have HLS : Hid ((swR q).ns.length < q.ns.length) := hless
          have HP2 : Hid (∀ x ∈ (swR q).ws, 0 < x.id ∧ 1 ≤ x.thing ∧ x.thing ≤ 999) := (show _ from fun x hx => by obtain ⟨y, hy, e1, e2⟩ := (swW_sub q.ws q.ns).1 x hx; rw [e1, e2]; exact HP.out y hy)
          have HS2 : Hid (sweepR (swR q) = sweepR r) := (sweep_step hpw).trans HS.out
          clear h0 hless
          go_wp2_with fail
          have FS := F.set6 2 (.slice a0 n0 c0) (.slice a1 n1 c1) (.slice a2 n2 c2) (.slice a3 n3 c3) (.int .i64 q.nw) (.int .i64 q.nt)
          simp only [List.set_cons_zero, List.set_cons_succ] at FS
          obtain ⟨hm, e1, e2, e3⟩ := HRM.out w.heap.size (.inl rfl) (by omega)
          have hm3 := ((FS.b 2).2 3 _ rfl).1
          have FT := FS.tl
          have hce : ([.slice a0 n0 c0, .slice a1 n1 c1, .slice a2 n2 c2, .slice a3 n3 c3, .int .i64 q.nw, .int .i64 q.nt] : List Value) = [.slice a0 (swR q).ws.length c0, .slice a1 (swR q).ts.length c1, .slice a2 (swR q).hs.length c2, .slice a3 (swR q).ns.length c3, .int .i64 (swR q).nw, .int .i64 (swR q).nt] := by rw [← e1, ← e2, ← e3, show (swR q).ws.length = n0 from HN0.out]; rfl
          have FU := FT.c1 hce
          clear FT FS hce
          go_roundw
          case rel => exact ⟨swR q, a0, a1, a2, a3, c0, c1, c2, c3, HS2, HP2, (show Hid _ from swR_sz HZ.out), HW0, hm, FU⟩
          case measure => rw [hm3, HC3.out]; show n3 < q.ns.length; rw [e3]; exact HLS.out
end Go.Proofs.YtddgpgldbekamaaGreat
