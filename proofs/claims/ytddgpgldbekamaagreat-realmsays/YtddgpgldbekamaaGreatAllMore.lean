/- Plain laws on writs, places and lists that the document's own answers want (none of the program). -/
import Derived.Test.YtddgpgldbekamaaGreatAllPure
set_option linter.unusedVariables false
set_option linter.unusedSimpArgs false
set_option linter.unnecessarySimpa false
namespace Go.Proofs.YtddgpgldbekamaaGreat
open Go.RowKit

theorem retStr {a b : ByteArray} (h : a = b) : Ending.returned (.string a) = .returned (.string b) := by rw [h]
theorem Wr.ext5 {x y : Wr} (h1 : x.id = y.id) (h2 : x.thing = y.thing) (h3 : x.rights = y.rights) (h4 : x.badge = y.badge) (h5 : x.frm = y.frm) : x = y := by
  cases x; cases y; simp_all
theorem WrAt.past {w : World} {b o : Nat} {x : Wr} (h : WrAt w b o x) (hlt : b < w.heap.size) (ob : Obj) : WrAt (w.alloc ob) b o x := by
  obtain ⟨h1, h2, h3, h4, h5⟩ := h
  refine ⟨?_, ?_, ?_, ?_, ?_⟩ <;> (rw [World.cell?_alloc_past _ _ _ hlt]; assumption)
theorem eq_len_no {zs ys : List Int} (h : ¬ zs.length = ys.length) : (zs == ys) = false := by
  rw [beq_eq_false_iff_ne]; intro e; exact h (by rw [e])
theorem take_step {zs ys : List Int} {k : Nat} (h1 : k < zs.length) (h2 : zs.length = ys.length) (h : zs.take k = ys.take k) (he : (zs[k] != ys[k]) = false) : zs.take (k + 1) = ys.take (k + 1) := by
  simp at he
  rw [List.take_succ_eq_append_getElem h1, List.take_succ_eq_append_getElem (by omega), h, he]
theorem eq_at_no {zs ys : List Int} {k : Nat} (h1 : k < zs.length) (h2 : k < ys.length) (he : (zs[k] != ys[k]) = true) : (zs == ys) = false := by
  rw [beq_eq_false_iff_ne]; intro e; subst e; simp at he
theorem eq_all {zs ys : List Int} {k : Nat} (hk : ¬ k < zs.length) (h2 : zs.length = ys.length) (h : zs.take k = ys.take k) : (zs == ys) = true := by
  rw [List.take_of_length_le (by omega), List.take_of_length_le (by omega)] at h
  simp [h]
/-- what stands above the writ at a place (C1) -/
def abv (l : List Wr) : Nat → Int → List Int
  | 0, _ => []
  | n + 1, at_ => if at_ < 0 then [] else match l[at_.toNat]? with
    | none => []
    | some x => if x.frm = 0 then [] else x.frm :: abv l n (find (l.take at_.toNat) x.frm)
def aboveL (l : List Wr) (id : Int) : List Int := abv l l.length (find l id)
theorem abv_neg (l : List Wr) (n : Nat) {a : Int} (h : a < 0) : abv l n a = [] := by
  cases n with
  | zero => rfl
  | succ n => unfold abv; rw [if_pos h]
theorem abv_zero {l : List Wr} {n k : Nat} {x : Wr} (hx : l[k]? = some x) (h : x.frm = 0) : abv l n (k : Int) = [] := by
  cases n with
  | zero => rfl
  | succ n => unfold abv; rw [if_neg (by omega)]; simp [hx, h]
theorem abv_step {l : List Wr} {n k : Nat} {x : Wr} (hx : l[k]? = some x) (h : ¬ x.frm = 0) : abv l (n + 1) (k : Int) = x.frm :: abv l n (find (l.take k) x.frm) := by
  conv => lhs; unfold abv
  rw [if_neg (by omega)]; simp [hx, h]
theorem app1_below {w0 w1 w' : World} {e : TypeId} {size n : Nat} {v : Value} {xs : List Value} {ob : Obj} (bl : Below w0.heap.size w0 w1) (hown : w1.ownsRow w0.heap.size e size v n xs) (hg : (w1.alloc ob).grownBy w' v.ownBlock) : Below w0.heap.size w0 w' :=
  (bl.alloc bl.size ob).grown hg (Nat.le_trans bl.size (by simp)) (fun k hk => (hown.lt k hk).1)
theorem wrs_of_row {w : World} {base : Nat} {e : TypeId} {v : Value} {l : List Wr} (h : w.ownsRow base e 5 v l.length (l.flatMap wcells)) : ∃ a cap, v = .slice a l.length cap ∧ WrsAt w a l := by
  rcases ownsRow_cells h with ⟨rfl, hn⟩ | ⟨g, cap, rfl, _, hg, hc⟩
  · have : l = [] := by cases l with | nil => rfl | cons => simp at hn
    subst this
    exact ⟨none, 0, rfl, .inl rfl⟩
  · refine ⟨_, cap, rfl, .inr ⟨g, 0, rfl, hg, fun j x hx => ?_⟩⟩
    have key : ∀ k, k < 5 → (l.flatMap wcells)[j * 5 + k]? = (wcells x)[k]? := fun k hk => flat_get wcells 5 (fun _ => rfl) l j k x hx hk
    refine ⟨?_, ?_, ?_, ?_, ?_⟩
    · have := hc (j * 5 + 0) _ (key 0 (by omega)); simpa using this
    · have := hc (j * 5 + 1) _ (key 1 (by omega)); simpa using this
    · have := hc (j * 5 + 2) _ (key 2 (by omega)); simpa using this
    · have := hc (j * 5 + 3) _ (key 3 (by omega)); simpa using this
    · have := hc (j * 5 + 4) _ (key 4 (by omega)); simpa using this
theorem abv_abv {l : List Wr} (hg : GoodW l) : ∀ (k n : Nat) (x : Wr), l[k]? = some x → k < n → Abv l x (abv l n (k : Int)) := by
  intro k
  induction k using Nat.strongRecOn with
  | _ k ih =>
    intro n x hx hn
    by_cases hf : x.frm = 0
    · rw [abv_zero hx hf]; exact .nil hf
    · obtain ⟨n', rfl⟩ : ∃ n', n = n' + 1 := ⟨n - 1, by omega⟩
      obtain ⟨j, y, h1, h2, h3, h4, _⟩ := find_take hg hx hf
      rw [abv_step hx hf, h1]
      exact .cons hf (List.mem_of_getElem? h3) h4 (ih j h2 n' y h3 (by omega))
theorem above_abv {l : List Wr} (hg : GoodW l) {x : Wr} (hx : x ∈ l) : Abv l x (aboveL l x.id) := by
  obtain ⟨j, hj⟩ := find_mem hx rfl
  obtain ⟨y, hy, he⟩ := find_get hj
  have : y = x := uniqW hg.2.1 (List.mem_of_getElem? hy) hx he
  subst this
  unfold aboveL
  rw [hj]
  exact abv_abv hg j _ y hy (List.getElem?_eq_some_iff.1 hy).1
theorem abv_uniq {l : List Wr} (hp : l.Pairwise (fun x y => x.id < y.id)) {x : Wr} {L M : List Int} (h : Abv l x L) (h' : Abv l x M) : L = M := by
  induction h generalizing M with
  | nil hf =>
    cases h' with
    | nil => rfl
    | cons hf' => exact absurd hf hf'
  | cons hf hy he _ ih =>
    cases h' with
    | nil hf' => exact absurd hf' hf
    | cons _ hz hze ha =>
      have := uniqW hp hz hy (hze.trans he.symm)
      subst this
      rw [ih ha]
theorem abv_lt {l : List Wr} (hg : GoodW l) {x : Wr} {L : List Int} (h : Abv l x L) (hx : x ∈ l) : ∀ a ∈ L, a < x.id := by
  induction h with
  | nil => intro a ha; cases ha
  | cons hf hy he _ ih =>
    rename_i x y L _
    intro a ha
    have hlt : x.frm < x.id := (hg.1 x hx).2.2.2.2.2.2.2.1
    rcases List.mem_cons.1 ha with rfl | ha
    · exact hlt
    · have := ih hy a ha; omega
theorem abv_mem {l : List Wr} {x : Wr} {L : List Int} (h : Abv l x L) : ∀ a ∈ L, ∃ y ∈ l, y.id = a := by
  induction h with
  | nil => intro a ha; cases ha
  | cons hf hy he _ ih =>
    rename_i x y L _
    intro a ha
    rcases List.mem_cons.1 ha with rfl | ha
    · exact ⟨y, hy, he⟩
    · exact ih a ha
theorem abv_beneath {l : List Wr} (hg : GoodW l) (a : Int) {x : Wr} {L : List Int} (h : Abv l x L) (hx : x ∈ l) : x.id ∈ beneathL l a ↔ a ∈ L := by
  induction h with
  | nil hf =>
    rw [bn_iff hg a hx]
    simp [hf]
  | cons hf hy he _ ih =>
    rw [bn_iff hg a hx, ← he, ih hy, List.mem_cons]
    constructor
    · rintro ⟨_, h | h⟩
      · exact .inl h.symm
      · exact .inr h
    · rintro (h | h)
      · exact ⟨by rw [he]; exact hf, .inl h.symm⟩
      · exact ⟨by rw [he]; exact hf, .inr h⟩
/-- TopBeneath's own answer (C1) -/
theorem top_beneath {l : List Wr} (hc : chk l = 0) {a b : Int} (ha : 0 ≤ find l a) (hb : 0 ≤ find l b) : (inB (beneathL l a) b == inB (aboveL l b) a && !inB (beneathL l a) a) = true := by
  have hg := good_of_chk hc
  obtain ⟨x, hx, rfl⟩ := find_get (Int.toNat_of_nonneg ha).symm
  obtain ⟨y, hy, rfl⟩ := find_get (Int.toNat_of_nonneg hb).symm
  have hx' := List.mem_of_getElem? hx
  have hy' := List.mem_of_getElem? hy
  have h1 := abv_beneath hg x.id (above_abv hg hy') hy'
  have h2 := abv_beneath hg x.id (above_abv hg hx') hx'
  have e1 : inB (beneathL l x.id) y.id = inB (aboveL l y.id) x.id := by
    unfold inB
    rw [Bool.eq_iff_iff, List.contains_iff_mem, List.contains_iff_mem]; exact h1
  have e2 : inB (beneathL l x.id) x.id = false := by
    unfold inB
    cases hh : (beneathL l x.id).contains x.id with
    | false => rfl
    | true =>
      have := abv_lt hg (above_abv hg hx') hx' _ (h2.1 (List.contains_iff_mem.1 hh))
      omega
  rw [e1, e2]; simp
theorem wo_find_id {l : List Wr} (id : Int) : find (withoutL l id) id = -1 := by
  refine find_none (fun y hy => ?_)
  obtain ⟨x, hx, hne, rfl⟩ := wo_mem.1 hy
  rw [woG_id]; exact hne
/-- what others are found as -/
theorem wo_find {l : List Wr} (hg : GoodW l) (id : Int) {x : Wr} (hx : x ∈ l) (hne : ¬ x.id = id) : ∃ j : Nat, find (withoutL l id) x.id = (j : Int) ∧ (withoutL l id)[j]? = some (woG id (woFrom l id) x) := by
  have hm : woG id (woFrom l id) x ∈ withoutL l id := wo_mem.2 ⟨x, hx, hne, rfl⟩
  obtain ⟨j, hj⟩ := find_mem hm (woG_id ..)
  obtain ⟨y, hy, he⟩ := find_get hj
  have : y = woG id (woFrom l id) x := uniqW (wo_good hg id).2.1 (List.mem_of_getElem? hy) hm (by rw [he, woG_id])
  subst this
  exact ⟨j, hj, hy⟩
theorem wo_abv {l : List Wr} (hg : GoodW l) (id : Int) : ∀ (n : Nat) (x : Wr) (L : List Int), L.length ≤ n → x ∈ l → ¬ x.id = id → Abv l x L → Abv (withoutL l id) (woG id (woFrom l id) x) (L.filter (fun a => decide (¬ a = id))) := by
  intro n
  induction n with
  | zero =>
    intro x L hL hx hne h
    cases h with
    | nil hf =>
      refine .nil ?_
      unfold woG
      split
      · rename_i he
        show woFrom l id = 0
        rcases wo_from hg id with ⟨p, hp, hpe, _⟩ | ⟨_, h2⟩
        · have := (hg.1 p hp).1; omega
        · rw [h2, ← he]; exact hf
      · exact hf
    | cons => simp at hL
  | succ n ih =>
    intro x L hL hx hne h
    cases h with
    | nil hf =>
      refine .nil ?_
      unfold woG
      split
      · rename_i he
        show woFrom l id = 0
        rcases wo_from hg id with ⟨p, hp, hpe, _⟩ | ⟨_, h2⟩
        · have := (hg.1 p hp).1; omega
        · rw [h2, ← he]; exact hf
      · exact hf
    | cons hf hy he ha =>
      rename_i y L
      have hL' : L.length ≤ n := by simpa using hL
      by_cases hxi : x.frm = id
      · rw [List.filter_cons_of_neg (by simp [hxi])]
        have hyi : y.id = id := he.trans hxi
        have hwf : woFrom l id = y.frm := by
          rcases wo_from hg id with ⟨p, hp, hpe, h2⟩ | ⟨h1, _⟩
          · rw [h2, uniqW hg.2.1 hp hy (hpe.trans hyi.symm)]
          · exact absurd hyi (h1 y hy)
        have hzf : (woG id (woFrom l id) x).frm = y.frm := by unfold woG; rw [if_pos hxi]; exact hwf
        cases ha with
        | nil hyf => exact .nil (by rw [hzf]; exact hyf)
        | cons hyf hq hqe hqa =>
          rename_i q L
          have hqn : ¬ q.id = id := by have := (hg.1 y hy).2.2.2.2.2.2.2.1; omega
          have hfn : ¬ y.frm = id := by rw [← hqe]; exact hqn
          rw [List.filter_cons_of_pos (by simp [hfn]), ← hzf]
          exact .cons (by rw [hzf]; exact hyf) (wo_mem.2 ⟨q, hq, hqn, rfl⟩) (by rw [woG_id, hzf]; exact hqe) (ih q _ (by simp at hL'; omega) hq hqn hqa)
      · rw [List.filter_cons_of_pos (by simp [hxi])]
        have hzx : woG id (woFrom l id) x = x := by unfold woG; rw [if_neg hxi]
        have hyn : ¬ y.id = id := by rw [he]; exact hxi
        rw [hzx]
        exact .cons hf (wo_mem.2 ⟨y, hy, hyn, rfl⟩) (by rw [woG_id]; exact he) (ih y L hL' hy hyn ha)
/-- what is above is what was, but for the writ that is gone (C2) -/
theorem wo_above {l : List Wr} (hg : GoodW l) (id : Int) {x : Wr} (hx : x ∈ l) (hne : ¬ x.id = id) : aboveL (withoutL l id) x.id = (aboveL l x.id).filter (fun a => decide (¬ a = id)) := by
  have h1 := wo_abv hg id _ x _ (Nat.le_refl _) hx hne (above_abv hg hx)
  have hm : woG id (woFrom l id) x ∈ withoutL l id := wo_mem.2 ⟨x, hx, hne, rfl⟩
  have h2 := above_abv (wo_good hg id) hm
  rw [woG_id] at h2
  exact abv_uniq (wo_good hg id).2.1 h2 h1
theorem wf_of_good {l : List Wr} (hg : GoodW l) : ∀ x ∈ l, (Lit.int .i64 x.id).wf = true ∧ (Lit.int .i64 x.frm).wf = true := by
  intro x hx
  obtain ⟨h1, h2, _, _, _, _, h7, h8, _, _⟩ := hg.1 x hx
  exact ⟨WalkArith.wf_i64 (by omega), WalkArith.wf_i64 (by omega)⟩
theorem abvLen (l : List Wr) : ∀ (n : Nat) (a : Int), (abv l n a).length ≤ n
  | 0, _ => by simp [abv]
  | n + 1, a => by
    unfold abv
    split
    · simp
    · split
      · simp
      · split
        · simp
        · have := abvLen l n (find (l.take a.toNat) (by assumption : Wr).frm)
          simp only [List.length_cons]
          rename_i x _ _
          have := abvLen l n (find (l.take a.toNat) x.frm)
          omega
theorem aboveLen (l : List Wr) (id : Int) : (aboveL l id).length ≤ l.length := abvLen l _ _
theorem row_cap {w : World} {base : Nat} {e : TypeId} {v : Value} {l : List Wr} (h : w.ownsRow base e 5 v l.length (l.flatMap wcells)) : ∃ a cap, v = .slice a l.length cap ∧ WrsAt w a l ∧ l.length ≤ cap ∧ cap ≤ maxLen := by
  obtain ⟨a, cap, hv, hat⟩ := wrs_of_row h
  refine ⟨a, cap, hv, hat, ?_⟩
  rcases h.2 with ⟨hv', hn⟩ | ⟨g, cap', cur, hv', _, _, h1, h2, _⟩
  · rw [hv] at hv'
    injection hv' with e1 e2 e3
    rw [e3, e2]; exact ⟨Nat.le_refl _, by unfold maxLen; omega⟩
  · rw [hv] at hv'
    injection hv' with e1 e2 e3
    rw [e3]; exact ⟨h1, h2⟩
theorem low_later {h s : Int} {x y : Hd} (h1 : lowP h s x = false) (h2 : befB x.holder x.slot y.holder y.slot = true) : lowP h s y = false := by
  unfold lowP befB at *
  by_cases e1 : x.holder = h <;> by_cases e2 : y.holder = h <;> by_cases e3 : x.holder = y.holder <;> simp_all <;> omega
theorem rise_nonlow {h s : Int} {x : Hd} {r : List Hd} (hr : Rise (x :: r)) (hx : lowP h s x = false) : ∀ y ∈ x :: r, lowP h s y = false := by
  intro y hy
  rcases List.mem_cons.1 hy with rfl | hy
  · exact hx
  · exact low_later hx ((List.pairwise_cons.1 hr).1 y hy)
theorem nonlow_filters {h s : Int} {l : List Hd} (hl : ∀ y ∈ l, lowP h s y = false) : l.filter (lowP h s) = [] ∧ l.filter (fun x => !isAt h s x) = l.filter (highP h s) := by
  constructor
  · rw [List.filter_eq_nil_iff]; intro y hy; simp [hl y hy]
  · apply List.filter_congr
    intro y hy
    rcases low_or (hl y hy) with ⟨h1, h2⟩ | ⟨h1, h2⟩ <;> simp [h1, h2]
theorem PlAt_new (w : World) (t : TypeId) (h s : Int) : PlAt (w.alloc (.cells #[.int .i64 h, .int .i64 s] t)) w.heap.size h s := by
  refine ⟨?_, ?_⟩ <;> (rw [World.cell?_alloc_new]; rfl)
theorem at_put_same (l : List Hd) (h s id : Int) : atP (putL l h s id) h s = id := by
  have e1 : (l.filter (lowP h s)).find? (isAt h s) = none := find_filter_none l (fun x hx => by
    cases hl : lowP h s x with
    | false => rfl
    | true => rw [(low_not hl).1] at hx; cases hx)
  have e2 : (l.filter (highP h s)).find? (isAt h s) = none := find_filter_none l (fun x hx => by
    cases hl : highP h s x with
    | false => rfl
    | true => rw [high_not hl] at hx; cases hx)
  unfold atP putL putM
  by_cases hid : id = 0
  · rw [if_pos hid]
    simp [List.find?_append, e1, e2, hid]
  · rw [if_neg hid]
    have : isAt h s ⟨h, s, id⟩ = true := by simp [isAt]
    simp [List.find?_append, e1, this]
theorem thUp_len (l : List Wr) : ∀ k, (thUp l k).length ≤ k
  | 0 => by simp [thUp]
  | k + 1 => by
    have := thUp_len l k
    rw [thUp_succ, List.length_append]
    have : (thStep l k).length ≤ 1 := by unfold thStep; split <;> simp
    omega
theorem any_stop {l : List Wr} {k j : Nat} {x : Wr} (hx : l[j]? = some x) (he : x.thing = (k : Int) + 1) : thStep l k = [(k : Int) + 1] := by
  unfold thStep
  rw [if_pos (List.any_eq_true.2 ⟨x, List.mem_of_getElem? hx, by simp [he]⟩)]
theorem any_end {l : List Wr} {k j : Nat} (hj : ¬ j < l.length) (h : ∀ i x, i < j → l[i]? = some x → ¬ x.thing = (k : Int) + 1) : thStep l k = [] := by
  unfold thStep
  rw [if_neg]
  intro hh
  obtain ⟨x, hx, he⟩ := List.any_eq_true.1 hh
  obtain ⟨i, hi⟩ := List.mem_iff_getElem?.1 hx
  exact h i x (by have := (List.getElem?_eq_some_iff.1 hi).1; omega) hi (by simpa using he)
theorem idPos {l : List Wr} (hg : GoodW l) {x : Wr} (hx : x ∈ l) : 1 ≤ x.id := (hg.1 x hx).1
/-- is a number above a writ? -/
def isAbv (l : List Wr) (a : Int) (x : Wr) : Bool := inB (aboveL l x.id) a
theorem isAbv_iff {l : List Wr} (hg : GoodW l) {a : Int} {x : Wr} {L : List Int} (hx : x ∈ l) (h : Abv l x L) : isAbv l a x = true ↔ a ∈ L := by
  unfold isAbv inB
  rw [List.contains_iff_mem, abv_uniq hg.2.1 (above_abv hg hx) h]
/-- those beneath, one by one -/
def bnPart (l : List Wr) (a : Int) (x : Wr) : List Int := if isAbv l a x = true then [x.id] else []
theorem bnPart_le (l : List Wr) (a : Int) (x : Wr) : (bnPart l a x).length ≤ 1 := by unfold bnPart; split <;> simp
theorem bn_parts {l : List Wr} (hg : GoodW l) (a : Int) : beneathL l a = l.flatMap (bnPart l a) := by
  have key : ∀ n, n ≤ l.length → (l.take n).foldl (bnStep a) [] = (l.take n).flatMap (bnPart l a) := by
    intro n
    induction n with
    | zero => intro _; simp
    | succ n ih =>
      intro hn
      have hlt : n < l.length := by omega
      have hx : l[n]? = some l[n] := List.getElem?_eq_getElem hlt
      have hxl : l[n] ∈ l := List.getElem_mem hlt
      rw [List.take_succ_eq_append_getElem hlt, List.foldl_append, List.flatMap_append, ih (by omega)]
      generalize hM : (l.take n).flatMap (bnPart l a) = M
      generalize hxx : l[n] = x at hx hxl
      have hb := bn_iff hg a hxl
      have h2 : x.id ∈ beneathL l a ↔ isAbv l a x = true := by
        rw [abv_beneath hg a (above_abv hg hxl) hxl]
        unfold isAbv inB
        rw [List.contains_iff_mem]
      have hmem : ∀ y ∈ l, y.id < x.id → (y.id ∈ M ↔ y.id ∈ beneathL l a) := by
        intro y hy hlt'
        have hyt := take_of_lt hg.2.1 hx hy hlt'
        rw [← hM, List.mem_flatMap]
        have hy2 : y.id ∈ beneathL l a ↔ isAbv l a y = true := by
          rw [abv_beneath hg a (above_abv hg hy) hy]
          unfold isAbv inB
          rw [List.contains_iff_mem]
        rw [hy2]
        constructor
        · rintro ⟨z, hz, hzy⟩
          unfold bnPart at hzy
          split at hzy
          · rename_i hp
            have e := List.mem_singleton.1 hzy
            have := uniqW hg.2.1 (List.mem_of_mem_take hz) hy e.symm
            subst this
            exact hp
          · cases hzy
        · intro hp
          exact ⟨y, hyt, by unfold bnPart; rw [if_pos hp]; simp⟩
      have his : bnIs a M x ↔ isAbv l a x = true := by
        rw [← h2, hb]
        unfold bnIs
        constructor
        · rintro ⟨h0, h⟩
          refine ⟨h0, ?_⟩
          rcases h with h | h
          · exact .inl h
          · right
            obtain ⟨y, hy, he, _⟩ := (hg.2.2 x hxl).resolve_left h0
            have hlt' : x.frm < x.id := (hg.1 x hxl).2.2.2.2.2.2.2.1
            rw [← he] at h ⊢
            exact (hmem y hy (by omega)).1 (by simpa using h)
        · rintro ⟨h0, h⟩
          refine ⟨h0, ?_⟩
          rcases h with h | h
          · exact .inl h
          · right
            obtain ⟨y, hy, he, _⟩ := (hg.2.2 x hxl).resolve_left h0
            have hlt' : x.frm < x.id := (hg.1 x hxl).2.2.2.2.2.2.2.1
            rw [← he] at h ⊢
            have := (hmem y hy (by omega)).2 h
            simpa using this
      show bnStep a M x = M ++ [x].flatMap (bnPart l a)
      unfold bnStep
      by_cases hp : isAbv l a x = true
      · rw [if_pos (his.2 hp)]; simp [bnPart, hp]
      · rw [if_neg (fun h => hp (his.1 h))]; simp [bnPart, hp]
  have := key l.length (Nat.le_refl _)
  rw [List.take_length] at this
  unfold beneathL
  exact this
theorem bnp_same {l : List Wr} {k : Nat} {x : Wr} {f : Wr → List Int} (hx : l[k]? = some x) (h : f x = []) : (l.take (k + 1)).flatMap f = (l.take k).flatMap f := by
  rw [List.take_add_one, hx]; simp [h]
theorem bnp_snoc {l : List Wr} {k : Nat} {x : Wr} {f : Wr → List Int} {y : Int} (hx : l[k]? = some x) (h : f x = [y]) : (l.take (k + 1)).flatMap f = (l.take k).flatMap f ++ [y] := by
  rw [List.take_add_one, hx]; simp [h]
theorem bnp_len {f : Wr → List Int} (hf : ∀ x, (f x).length ≤ 1) : ∀ l : List Wr, (l.flatMap f).length ≤ l.length
  | [] => by simp
  | x :: r => by
    have h1 := bnp_len hf r
    have h2 := hf x
    rw [List.flatMap_cons, List.length_append, List.length_cons]; omega
/-- the way up from a number -/
def Up (l : List Wr) (f : Int) (L : List Int) : Prop := (f = 0 ∧ L = []) ∨ (1 ≤ f ∧ ∃ y ∈ l, y.id = f ∧ ∃ M, Abv l y M ∧ L = f :: M)
theorem up_of {l : List Wr} (hg : GoodW l) {x : Wr} {L : List Int} (h : Abv l x L) : Up l x.frm L := by
  cases h with
  | nil h0 => exact .inl ⟨h0, rfl⟩
  | cons h0 hy he ha => exact .inr ⟨by have := idPos hg hy; omega, _, hy, he, _, ha, rfl⟩
theorem up_zero {l : List Wr} {L : List Int} (h : Up l 0 L) : L = [] := by
  rcases h with ⟨_, h⟩ | ⟨h, _⟩
  · exact h
  · omega
/-- the next one up -/
theorem up_next {l : List Wr} (hg : GoodW l) {f : Int} {L : List Int} (h : Up l f L) (h0 : ¬ f = 0) : ∃ (j : Nat) (y : Wr) (M : List Int), find l f = (j : Int) ∧ l[j]? = some y ∧ y.id = f ∧ 1 ≤ f ∧ y.frm < f ∧ 0 ≤ y.frm ∧ L = f :: M ∧ Up l y.frm M := by
  rcases h with ⟨h, _⟩ | ⟨h1, y, hy, he, M, ha, hL⟩
  · exact absurd h h0
  · obtain ⟨j, hj⟩ := find_mem hy he
    obtain ⟨z, hz, hze⟩ := find_get hj
    have := uniqW hg.2.1 (List.mem_of_getElem? hz) hy (hze.trans he.symm)
    subst this
    have hok := hg.1 z hy
    exact ⟨j, z, M, hj, hz, he, h1, by have := hok.2.2.2.2.2.2.2.1; omega, hok.2.2.2.2.2.2.1, hL, up_of hg ha⟩
theorem above_none {l : List Wr} {id : Int} (h : find l id < 0) : aboveL l id = [] := by
  unfold aboveL
  cases l.length with
  | zero => rfl
  | succ n => unfold abv; rw [if_pos h]
theorem above_up {l : List Wr} (hg : GoodW l) {id : Int} {j : Nat} (h : find l id = (j : Int)) : ∃ x, l[j]? = some x ∧ x.id = id ∧ Up l x.frm (aboveL l id) := by
  obtain ⟨x, hx, he⟩ := find_get h
  subst he
  exact ⟨x, hx, rfl, up_of hg (above_abv hg (List.mem_of_getElem? hx))⟩
theorem isAbv_up {l : List Wr} (hg : GoodW l) {x : Wr} (hx : x ∈ l) : Up l x.frm (aboveL l x.id) := up_of hg (above_abv hg hx)
theorem up_pos {l : List Wr} {f : Int} {L : List Int} (h : Up l f L) : 0 ≤ f := by
  rcases h with ⟨h, _⟩ | ⟨h, _⟩ <;> omega
end Go.Proofs.YtddgpgldbekamaaGreat
