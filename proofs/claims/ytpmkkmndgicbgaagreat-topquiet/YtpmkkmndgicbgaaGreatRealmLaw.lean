/- What is true of a realm whatever was done: its writs are right, each is at one place, things are just those of writs, notes wait at ports; plain data alone. -/
import Derived.Test.YtpmkkmndgicbgaaGreatRealmInv
set_option linter.unusedVariables false
set_option linter.unnecessarySimpa false
namespace Go.Proofs.YtpmkkmndgicbgaaGreat
open Go.RowKit

/-! ### Places -/
theorem good_mem {l : List Hd} (hg : Good l) {x : Hd} (hx : x ∈ l) : plOk x.holder x.slot ∧ x.writ ≠ 0 := by
  obtain ⟨k, hk⟩ := List.mem_iff_getElem?.1 hx
  exact ⟨(hg k x hk).1, (hg k x hk).2.1⟩
theorem isAt_iff {h s : Int} {x : Hd} : isAt h s x = true ↔ x.holder = h ∧ x.slot = s := by simp [isAt]
theorem befB_irr (a b : Int) : befB a b a b = false := by unfold befB; simp
theorem rise_one {l : List Hd} (hr : Rise l) {x y : Hd} (hx : x ∈ l) (hy : y ∈ l) (h1 : x.holder = y.holder) (h2 : x.slot = y.slot) : x = y := by
  obtain ⟨i, hi, rfl⟩ := List.getElem_of_mem hx
  obtain ⟨j, hj, rfl⟩ := List.getElem_of_mem hy
  have hp := List.pairwise_iff_getElem.1 hr
  rcases Nat.lt_trichotomy i j with hlt | heq | hgt
  · have := hp i j hi hj hlt; rw [h1, h2, befB_irr] at this; cases this
  · subst heq; rfl
  · have := hp j i hj hi hgt; rw [h1, h2, befB_irr] at this; cases this
theorem at_mem {l : List Hd} {h s : Int} (h0 : atP l h s ≠ 0) : ⟨h, s, atP l h s⟩ ∈ l := by
  unfold atP at h0 ⊢
  cases hf : l.find? (isAt h s) with
  | none => rw [hf] at h0; exact absurd rfl h0
  | some x =>
    have h1 := isAt_iff.1 (List.find?_some hf)
    have h2 := List.mem_of_find?_eq_some hf
    have : x = ⟨h, s, x.writ⟩ := Hd.ext3 h1.1 h1.2 rfl
    rw [this] at h2
    exact h2
theorem at_of_mem {l : List Hd} (hg : Good l) {x : Hd} (hx : x ∈ l) : atP l x.holder x.slot = x.writ := by
  unfold atP
  cases hf : l.find? (isAt x.holder x.slot) with
  | none => exact absurd (isAt_iff.2 ⟨rfl, rfl⟩) (by simpa using (List.find?_eq_none.1 hf) x hx)
  | some y =>
    have h1 := isAt_iff.1 (List.find?_some hf)
    rw [rise_one (good_rise hg) (List.mem_of_find?_eq_some hf) hx h1.1 h1.2]
theorem mem_iff_at {l : List Hd} (hg : Good l) (x : Hd) : x ∈ l ↔ atP l x.holder x.slot = x.writ ∧ x.writ ≠ 0 := by
  constructor
  · intro hx; exact ⟨at_of_mem hg hx, (good_mem hg hx).2⟩
  · rintro ⟨h1, h2⟩
    have := at_mem (l := l) (h := x.holder) (s := x.slot) (by rw [h1]; exact h2)
    rw [h1] at this
    exact this
theorem rise_ext : ∀ {a b : List Hd}, Rise a → Rise b → (∀ x, x ∈ a ↔ x ∈ b) → a = b
  | [], [], _, _, _ => rfl
  | [], y :: b, _, _, h => absurd ((h y).2 List.mem_cons_self) (by simp)
  | x :: a, [], _, _, h => absurd ((h x).1 List.mem_cons_self) (by simp)
  | x :: a, y :: b, ha, hb, h => by
    have pa := List.pairwise_cons.1 ha
    have pb := List.pairwise_cons.1 hb
    have hxy : x = y := by
      rcases List.mem_cons.1 ((h x).1 List.mem_cons_self) with e | e
      · exact e
      · rcases List.mem_cons.1 ((h y).2 List.mem_cons_self) with e' | e'
        · exact e'.symm
        · have h1 := pb.1 x e
          have h2 := pa.1 y e'
          have := befB_trans h1 h2
          rw [befB_irr] at this; cases this
    subst hxy
    have : a = b := by
      refine rise_ext pa.2 pb.2 (fun z => ⟨fun hz => ?_, fun hz => ?_⟩)
      · rcases List.mem_cons.1 ((h z).1 (List.mem_cons_of_mem _ hz)) with e | e
        · subst e; have := pa.1 _ hz; rw [befB_irr] at this; cases this
        · exact e
      · rcases List.mem_cons.1 ((h z).2 (List.mem_cons_of_mem _ hz)) with e | e
        · subst e; have := pb.1 _ hz; rw [befB_irr] at this; cases this
        · exact e
    rw [this]
theorem good_ext {a b : List Hd} (ha : Good a) (hb : Good b) (h : ∀ g t, atP a g t = atP b g t) : a = b :=
  rise_ext (good_rise ha) (good_rise hb) (fun x => by rw [mem_iff_at ha, mem_iff_at hb, h])
theorem at_none {l : List Hd} (hg : Good l) {h s : Int} (h0 : atP l h s = 0) : ∀ x ∈ l, isAt h s x = false := by
  intro x hx
  cases hi : isAt h s x with
  | false => rfl
  | true =>
    obtain ⟨h1, h2⟩ := isAt_iff.1 hi
    have := at_of_mem hg hx
    rw [h1, h2, h0] at this
    exact absurd this.symm (good_mem hg hx).2
theorem put_mem {l : List Hd} {h s id : Int} {x : Hd} : x ∈ putL l h s id ↔ (x ∈ l ∧ isAt h s x = false) ∨ (id ≠ 0 ∧ x = ⟨h, s, id⟩) := by
  unfold putL putM
  simp only [List.mem_append, List.mem_filter]
  constructor
  · rintro ((h1 | h1) | h1)
    · exact .inl ⟨h1.1, (low_not h1.2).1⟩
    · split at h1
      · cases h1
      · exact .inr ⟨‹_›, by simpa using h1⟩
    · exact .inl ⟨h1.1, high_not h1.2⟩
  · rintro (⟨h1, h2⟩ | ⟨h1, h2⟩)
    · cases hl : lowP h s x with
      | true => exact .inl (.inl ⟨h1, rfl⟩)
      | false =>
        rcases low_or hl with ⟨h3, _⟩ | ⟨_, h3⟩
        · rw [h2] at h3; cases h3
        · exact .inr ⟨h1, h3⟩
    · rw [if_neg h1]; exact .inl (.inr (by simp [h2]))
/-- how often -/
theorem cnt_parts (p : Hd → Bool) (h s : Int) : ∀ l : List Hd, (l.filter (lowP h s)).countP p + (l.filter (highP h s)).countP p + (l.filter (isAt h s)).countP p = l.countP p
  | [] => rfl
  | x :: l => by
    have ih := cnt_parts p h s l
    cases hl : lowP h s x with
    | true =>
      obtain ⟨h1, h2⟩ := low_not hl
      rw [List.filter_cons_of_pos hl, List.filter_cons_of_neg (by simp [h2]), List.filter_cons_of_neg (by simp [h1]), List.countP_cons, List.countP_cons]
      omega
    | false =>
      rw [List.filter_cons_of_neg (by simp [hl])]
      rcases low_or hl with ⟨h1, h2⟩ | ⟨h1, h2⟩
      · rw [List.filter_cons_of_pos h1, List.filter_cons_of_neg (by simp [h2]), List.countP_cons, List.countP_cons]
        omega
      · rw [List.filter_cons_of_pos h2, List.filter_cons_of_neg (by simp [h1]), List.countP_cons, List.countP_cons]
        omega
theorem cnt_put (p : Hd → Bool) (l : List Hd) (h s id : Int) : (putL l h s id).countP p + (l.filter (isAt h s)).countP p = l.countP p + (if id = 0 then [] else [(⟨h, s, id⟩ : Hd)]).countP p := by
  have := cnt_parts p h s l
  unfold putL putM
  rw [List.countP_append, List.countP_append]
  omega
theorem at_filter {l : List Hd} (hg : Good l) (h s : Int) : l.filter (isAt h s) = if atP l h s = 0 then [] else [⟨h, s, atP l h s⟩] := by
  split
  · rename_i h0
    rw [List.filter_eq_nil_iff]
    intro x hx
    simp [at_none hg h0 x hx]
  · rename_i h0
    refine rise_ext ((good_rise hg).filter _) (by simp [Rise]) (fun x => ?_)
    simp only [List.mem_filter, List.mem_singleton, isAt_iff]
    constructor
    · rintro ⟨h1, h2, h3⟩
      exact Hd.ext3 h2 h3 (by rw [← at_of_mem hg h1, h2, h3])
    · rintro rfl
      exact ⟨at_mem h0, rfl, rfl⟩
/-- how often a writ is held, and is in notes -/
def cnt (hs : List Hd) (ns : List Nt) (id : Int) : Nat := hs.countP (fun x => x.writ == id) + ns.countP (fun n => n.writ == id)
theorem cnt_put_new {l : List Hd} (hg : Good l) {h s id : Int} (h0 : atP l h s = 0) (hid : id ≠ 0) (j : Int) : (putL l h s id).countP (fun x => x.writ == j) = l.countP (fun x => x.writ == j) + if id = j then 1 else 0 := by
  have := cnt_put (fun x => x.writ == j) l h s id
  rw [at_filter hg, if_pos h0, if_neg hid] at this
  simp only [List.countP_nil, List.countP_cons, Nat.zero_add, Nat.add_zero, beq_iff_eq] at this
  exact this
theorem cnt_put_zero {l : List Hd} (hg : Good l) {h s : Int} (h0 : atP l h s ≠ 0) (j : Int) : (putL l h s 0).countP (fun x => x.writ == j) + (if atP l h s = j then 1 else 0) = l.countP (fun x => x.writ == j) := by
  have := cnt_put (fun x => x.writ == j) l h s 0
  rw [at_filter hg, if_neg h0, if_pos rfl] at this
  simp only [List.countP_nil, List.countP_cons, Nat.zero_add, Nat.add_zero, beq_iff_eq] at this
  exact this
theorem cnt_zero_of {l : List Hd} {j : Int} (h : ∀ x ∈ l, x.writ ≠ j) : l.countP (fun x => x.writ == j) = 0 := by
  rw [List.countP_eq_zero]
  intro x hx
  simpa using h x hx

/-! ### A realm that is whole -/
def idIn (ws : List Wr) (id : Int) : Prop := ∃ x ∈ ws, x.id = id
structure Whole (r : Rm) : Prop where
  gw : GoodW r.ws
  gh : Good r.hs
  nw : 1 ≤ r.nw ∧ r.nw ≤ 1000
  nt : 1 ≤ r.nt ∧ r.nt ≤ 1000
  lw : ∀ x ∈ r.ws, x.id < r.nw
  lt : ∀ x ∈ r.ts, x.id < r.nt
  one : ∀ x ∈ r.ws, cnt r.hs r.ns x.id = 1
  hin : ∀ h ∈ r.hs, idIn r.ws h.writ
  nin : ∀ n ∈ r.ns, n.writ = 0 ∨ idIn r.ws n.writ
  tp : r.ts.Pairwise (fun x y => x.id < y.id)
  tof : ∀ x ∈ r.ts, ∃ y ∈ r.ws, y.thing = x.id
  wof : ∀ y ∈ r.ws, ∃ x ∈ r.ts, x.id = y.thing
  tl : r.ts.length ≤ 10
  tk : ∀ x ∈ r.ts, x.kind = 1 ∧ x.data.size ≤ 8 ∨ x.kind = 2 ∧ x.data = ByteArray.empty
  np : ∀ n ∈ r.ns, ∃ x ∈ r.ts, x.id = n.port ∧ x.kind = 2
  nl : ∀ t, r.ns.countP (atPort t) ≤ 3
/-- what is true ahead of a sweep -/
structure Pre (r : Rm) : Prop where
  gw : GoodW r.ws
  gh : Good r.hs
  nw : 1 ≤ r.nw ∧ r.nw ≤ 1000
  nt : 1 ≤ r.nt ∧ r.nt ≤ 1000
  lw : ∀ x ∈ r.ws, x.id < r.nw
  lt : ∀ x ∈ r.ts, x.id < r.nt
  one : ∀ x ∈ r.ws, cnt r.hs r.ns x.id = 1
  tp : r.ts.Pairwise (fun x y => x.id < y.id)
  wof : ∀ y ∈ r.ws, ∃ x ∈ r.ts, x.id = y.thing
  tl : r.ts.length ≤ 10
  tk : ∀ x ∈ r.ts, x.kind = 1 ∧ x.data.size ≤ 8 ∨ x.kind = 2 ∧ x.data = ByteArray.empty
  np : ∀ n ∈ r.ns, ∃ x ∈ r.ts, x.id = n.port ∧ x.kind = 2
  nl : ∀ t, r.ns.countP (atPort t) ≤ 3
theorem Whole.pre {r : Rm} (h : Whole r) : Pre r := ⟨h.gw, h.gh, h.nw, h.nt, h.lw, h.lt, h.one, h.tp, h.wof, h.tl, h.tk, h.np, h.nl⟩
theorem find_neg_iff {l : List Wr} {id : Int} : find l id < 0 ↔ ¬ idIn l id := by
  constructor
  · rintro h ⟨x, hx, e⟩
    obtain ⟨j, hj⟩ := find_mem hx e
    omega
  · intro h
    rw [find_none (fun y hy e => h ⟨y, hy, e⟩)]; omega
theorem find_pos_iff {l : List Wr} {id : Int} : 0 ≤ find l id ↔ idIn l id := by
  constructor
  · intro h
    by_cases hh : idIn l id
    · exact hh
    · have := find_neg_iff.2 hh; omega
  · intro h
    by_cases hh : find l id < 0
    · exact absurd h (find_neg_iff.1 hh)
    · omega
theorem hasT_iff {ws : List Wr} {t : Int} : hasT ws t = true ↔ ∃ x ∈ ws, x.thing = t := by
  unfold hasT
  rw [List.any_eq_true]
  constructor
  · rintro ⟨x, hx, e⟩; exact ⟨x, hx, by simpa using e⟩
  · rintro ⟨x, hx, e⟩; exact ⟨x, hx, by simpa using e⟩
theorem whole_new : Whole ⟨[], [], [], [], 1, 1⟩ :=
  ⟨⟨fun x hx => by simp at hx, List.Pairwise.nil, fun x hx => by simp at hx⟩, fun k x hx => by simp at hx, by simp, by simp, fun x hx => by simp at hx, fun x hx => by simp at hx, fun x hx => by simp at hx,
    fun x hx => by simp at hx, fun x hx => by simp at hx, List.Pairwise.nil, fun x hx => by simp at hx, fun x hx => by simp at hx, by simp, fun x hx => by simp at hx, fun x hx => by simp at hx, fun t => by simp⟩

/-! ### Without a writ -/
theorem wo_mem' {l : List Wr} {id : Int} {z : Wr} (hz : z ∈ withoutL l id) : ∃ x ∈ l, x.id ≠ id ∧ z.id = x.id ∧ z.thing = x.thing ∧ z.rights = x.rights ∧ z.badge = x.badge := by
  obtain ⟨x, hx, hne, rfl⟩ := wo_mem.1 hz
  refine ⟨x, hx, hne, woG_id _ _ _, ?_⟩
  unfold woG
  split <;> exact ⟨rfl, rfl, rfl⟩
theorem wo_keep {l : List Wr} {id : Int} {x : Wr} (hx : x ∈ l) (hne : x.id ≠ id) : ∃ z ∈ withoutL l id, z.id = x.id ∧ z.thing = x.thing ∧ z.rights = x.rights ∧ z.badge = x.badge := by
  refine ⟨woG id (woFrom l id) x, wo_mem.2 ⟨x, hx, hne, rfl⟩, woG_id _ _ _, ?_⟩
  unfold woG
  split <;> exact ⟨rfl, rfl, rfl⟩
theorem woAll_good (ns : List Nt) : ∀ {ws : List Wr}, GoodW ws → GoodW (woAll ws ns) := by
  induction ns with
  | nil => intro ws h; exact h
  | cons n r ih => intro ws h; exact ih (wo_good h n.writ)
theorem woAll_mem (ns : List Nt) : ∀ {ws : List Wr} {z : Wr}, z ∈ woAll ws ns → ∃ x ∈ ws, (∀ n ∈ ns, n.writ ≠ x.id) ∧ z.id = x.id ∧ z.thing = x.thing ∧ z.rights = x.rights ∧ z.badge = x.badge := by
  induction ns with
  | nil => intro ws z hz; exact ⟨z, hz, (fun n hn => nomatch hn), rfl, rfl, rfl, rfl⟩
  | cons n r ih =>
    intro ws z hz
    obtain ⟨x, hx, hno, e1, e2, e3, e4⟩ := ih (ws := withoutL ws n.writ) hz
    obtain ⟨y, hy, hne, f1, f2, f3, f4⟩ := wo_mem' hx
    refine ⟨y, hy, ?_, e1.trans f1, e2.trans f2, e3.trans f3, e4.trans f4⟩
    intro m hm
    rcases List.mem_cons.1 hm with rfl | hm
    · exact fun e => hne e.symm
    · rw [← f1]; exact hno m hm
theorem woAll_keep (ns : List Nt) : ∀ {ws : List Wr} {x : Wr}, x ∈ ws → (∀ n ∈ ns, n.writ ≠ x.id) → ∃ z ∈ woAll ws ns, z.id = x.id ∧ z.thing = x.thing ∧ z.rights = x.rights ∧ z.badge = x.badge := by
  induction ns with
  | nil => intro ws x hx _; exact ⟨x, hx, rfl, rfl, rfl, rfl⟩
  | cons n r ih =>
    intro ws x hx hno
    obtain ⟨y, hy, f1, f2, f3, f4⟩ := wo_keep (id := n.writ) hx (fun e => hno n List.mem_cons_self e.symm)
    obtain ⟨z, hz, e1, e2, e3, e4⟩ := ih (ws := withoutL ws n.writ) hy (fun m hm => by rw [f1]; exact hno m (List.mem_cons_of_mem _ hm))
    exact ⟨z, hz, e1.trans f1, e2.trans f2, e3.trans f3, e4.trans f4⟩

/-! ### Swept -/
theorem mem_lost {ws : List Wr} {ns : List Nt} {n : Nt} : n ∈ lostL ws ns ↔ n ∈ ns ∧ hasT ws n.port = false := by simp [lostL]
theorem mem_left {ws : List Wr} {ns : List Nt} {n : Nt} : n ∈ leftL ws ns ↔ n ∈ ns ∧ hasT ws n.port = true := by simp [leftL]
theorem left_lost_len (ws : List Wr) : ∀ ns : List Nt, (leftL ws ns).length + (lostL ws ns).length = ns.length
  | [] => rfl
  | n :: ns => by
    have ih := left_lost_len ws ns
    unfold leftL lostL at *
    cases h : hasT ws n.port <;> simp [h] <;> omega
theorem left_lost_cnt (ws : List Wr) (p : Nt → Bool) : ∀ ns : List Nt, (leftL ws ns).countP p + (lostL ws ns).countP p = ns.countP p
  | [] => rfl
  | n :: ns => by
    have ih := left_lost_cnt ws p ns
    unfold leftL lostL at *
    cases h : hasT ws n.port <;> simp [h, List.countP_cons] <;> omega
/-- what a sweep keeps to: the writs that are left are some of those, each at one place; no note is lost any more -/
structure SwN (hs : List Hd) (ws : List Wr) (ns : List Nt) (ws' : List Wr) (ns' : List Nt) : Prop where
  gw : GoodW ws'
  one : ∀ x ∈ ws', cnt hs ns' x.id = 1
  sub : ∀ z ∈ ws', ∃ x ∈ ws, z.id = x.id ∧ z.thing = x.thing ∧ z.rights = x.rights ∧ z.badge = x.badge
  nsub : ∀ n ∈ ns', n ∈ ns
  ncnt : ∀ p : Nt → Bool, ns'.countP p ≤ ns.countP p
  keep : ∀ x ∈ ws, (∀ n ∈ ns, n.writ ≠ x.id) → ∃ z ∈ ws', z.id = x.id ∧ z.thing = x.thing ∧ z.rights = x.rights ∧ z.badge = x.badge
theorem swN_refl {hs : List Hd} {ws : List Wr} {ns : List Nt} (gw : GoodW ws) (one : ∀ x ∈ ws, cnt hs ns x.id = 1) : SwN hs ws ns ws ns :=
  ⟨gw, one, fun z hz => ⟨z, hz, rfl, rfl, rfl, rfl⟩, fun n hn => hn, fun p => Nat.le_refl _, fun x hx _ => ⟨x, hx, rfl, rfl, rfl, rfl⟩⟩
theorem swN_step {hs : List Hd} {ws : List Wr} {ns : List Nt} (gw : GoodW ws) (one : ∀ x ∈ ws, cnt hs ns x.id = 1) : SwN hs ws ns (woAll ws (lostL ws ns)) (leftL ws ns) := by
  refine ⟨woAll_good _ gw, ?_, ?_, fun n hn => (mem_left.1 hn).1, fun p => by have := left_lost_cnt ws p ns; omega, ?_⟩
  · intro z hz
    obtain ⟨x, hx, hno, e1, _⟩ := woAll_mem _ hz
    have h1 := one x hx
    have h2 := left_lost_cnt ws (fun n => n.writ == x.id) ns
    have h3 : (lostL ws ns).countP (fun n => n.writ == x.id) = 0 := by
      rw [List.countP_eq_zero]; intro n hn; simpa using hno n hn
    rw [e1]
    unfold cnt at h1 ⊢
    omega
  · intro z hz
    obtain ⟨x, hx, _, e⟩ := woAll_mem _ hz
    exact ⟨x, hx, e⟩
  · intro x hx hno
    exact woAll_keep _ hx (fun n hn => hno n (mem_lost.1 hn).1)
theorem SwN.trans {hs : List Hd} {ws ws1 ws2 : List Wr} {ns ns1 ns2 : List Nt} (h : SwN hs ws ns ws1 ns1) (h' : SwN hs ws1 ns1 ws2 ns2) : SwN hs ws ns ws2 ns2 := by
  refine ⟨h'.gw, h'.one, ?_, fun n hn => h.nsub n (h'.nsub n hn), fun p => Nat.le_trans (h'.ncnt p) (h.ncnt p), ?_⟩
  · intro z hz
    obtain ⟨y, hy, e1, e2, e3, e4⟩ := h'.sub z hz
    obtain ⟨x, hx, f1, f2, f3, f4⟩ := h.sub y hy
    exact ⟨x, hx, e1.trans f1, e2.trans f2, e3.trans f3, e4.trans f4⟩
  · intro x hx hno
    obtain ⟨y, hy, e1, e2, e3, e4⟩ := h.keep x hx hno
    obtain ⟨z, hz, f1, f2, f3, f4⟩ := h'.keep y hy (fun n hn => by rw [e1]; exact hno n (h.nsub n hn))
    exact ⟨z, hz, f1.trans e1, f2.trans e2, f3.trans e3, f4.trans e4⟩
theorem sweepN_sw (hs : List Hd) : ∀ (f : Nat) (ws : List Wr) (ns : List Nt), GoodW ws → (∀ x ∈ ws, cnt hs ns x.id = 1) → ns.length < f → SwN hs ws ns (sweepN f ws ns).1 (sweepN f ws ns).2 ∧ lostL (sweepN f ws ns).1 (sweepN f ws ns).2 = []
  | 0, _, _, _, _, h => by omega
  | f + 1, ws, ns, gw, one, h => by
    unfold sweepN
    split
    · rename_i he
      exact ⟨swN_refl gw one, he⟩
    · rename_i hne
      have st := swN_step (ns := ns) gw one
      have hl := left_lost_len ws ns
      have hp : 0 < (lostL ws ns).length := by
        cases hh : lostL ws ns with
        | nil => exact absurd hh hne
        | cons => simp
      obtain ⟨h1, h2⟩ := sweepN_sw hs f _ _ st.gw st.one (by omega)
      exact ⟨st.trans h1, h2⟩
theorem pair_filter_len {α : Type} (l : List α) (p : α → Bool) : (l.filter p).length ≤ l.length := List.length_filter_le _ _
theorem forget_port (ws : List Wr) (n : Nt) : (forgetN ws n).port = n.port := by unfold forgetN; split <;> rfl
theorem forget_writ (ws : List Wr) (n : Nt) : (forgetN ws n).writ = if find ws n.writ < 0 then 0 else n.writ := by unfold forgetN; split <;> rfl
/-- swept, a realm is whole -/
theorem sweep_whole {r : Rm} (h : Pre r) : Whole (sweepR r) := by
  obtain ⟨sw, hl⟩ := sweepN_sw r.hs (r.ns.length + 1) r.ws r.ns h.gw h.one (by omega)
  unfold sweepR
  generalize (sweepN (r.ns.length + 1) r.ws r.ns).1 = ws at sw hl ⊢
  generalize (sweepN (r.ns.length + 1) r.ws r.ns).2 = ns at sw hl ⊢
  have hleft : ∀ n ∈ ns, ∃ x ∈ ws, x.thing = n.port := by
    intro n hn
    cases hh : hasT ws n.port with
    | true => exact hasT_iff.1 hh
    | false =>
      have : n ∈ lostL ws ns := mem_lost.2 ⟨hn, hh⟩
      rw [hl] at this; cases this
  refine ⟨sw.gw, good_filter h.gh _, h.nw, h.nt, ?_, ?_, ?_, ?_, ?_, h.tp.filter _, ?_, ?_, ?_, ?_, ?_, ?_⟩
  · intro x hx
    obtain ⟨y, hy, e, _⟩ := sw.sub x hx
    rw [e]; exact h.lw y hy
  · intro x hx; exact h.lt x (List.mem_filter.1 hx).1
  · intro x hx
    have h1 := sw.one x hx
    have hok := sw.gw.1 x hx
    show cnt _ _ _ = 1
    unfold cnt at h1 ⊢
    have e1 : (r.hs.filter (fun h => decide (0 ≤ find ws h.writ))).countP (fun y => y.writ == x.id) = r.hs.countP (fun y => y.writ == x.id) := by
      rw [List.countP_filter]
      congr 1
      funext y
      by_cases e : y.writ = x.id
      · have : 0 ≤ find ws y.writ := find_pos_iff.2 ⟨x, hx, e.symm⟩
        simp [e]; rw [← e]; exact this
      · simp [e]
    have e2 : (ns.map (forgetN ws)).countP (fun n => n.writ == x.id) = ns.countP (fun n => n.writ == x.id) := by
      rw [List.countP_map]
      congr 1
      funext n
      show ((forgetN ws n).writ == x.id) = (n.writ == x.id)
      rw [forget_writ]
      have hid : ¬ (0 : Int) = x.id := by have := hok.1; omega
      by_cases e : find ws n.writ < 0
      · rw [if_pos e]
        have : ¬ n.writ = x.id := fun e' => (find_neg_iff.1 e) ⟨x, hx, e'.symm⟩
        rw [beq_eq_false_iff_ne.2 hid, beq_eq_false_iff_ne.2 this]
      · rw [if_neg e]
    rw [e1, e2]; exact h1
  · intro x hx
    have := (List.mem_filter.1 hx).2
    exact find_pos_iff.1 (by simpa using this)
  · intro n hn
    obtain ⟨m, hm, rfl⟩ := List.mem_map.1 hn
    rw [forget_writ]
    by_cases e : find ws m.writ < 0
    · rw [if_pos e]; exact .inl rfl
    · rw [if_neg e]; exact .inr ((find_pos_iff (l := ws)).1 (by omega))
  · intro x hx
    exact hasT_iff.1 (List.mem_filter.1 hx).2
  · intro y hy
    obtain ⟨z, hz, e1, e2, _⟩ := sw.sub y hy
    obtain ⟨x, hx, e⟩ := h.wof z hz
    exact ⟨x, List.mem_filter.2 ⟨hx, hasT_iff.2 ⟨y, hy, by rw [e2, e]⟩⟩, by rw [e, e2]⟩
  · have := pair_filter_len r.ts (fun t => hasT ws t.id); have := h.tl; show (r.ts.filter _).length ≤ 10; omega
  · intro x hx; exact h.tk x (List.mem_filter.1 hx).1
  · intro n hn
    obtain ⟨m, hm, rfl⟩ := List.mem_map.1 hn
    obtain ⟨x, hx, e1, e2⟩ := h.np m (sw.nsub m hm)
    refine ⟨x, List.mem_filter.2 ⟨hx, ?_⟩, by rw [forget_port, e1], e2⟩
    rw [e1]; exact hasT_iff.2 (hleft m hm)
  · intro t
    show (ns.map (forgetN ws)).countP (atPort t) ≤ 3
    rw [List.countP_map]
    have e : (atPort t ∘ forgetN ws) = atPort t := by funext n; simp [atPort, forget_port]
    rw [e]
    exact Nat.le_trans (sw.ncnt _) (h.nl t)
end Go.Proofs.YtpmkkmndgicbgaaGreat
