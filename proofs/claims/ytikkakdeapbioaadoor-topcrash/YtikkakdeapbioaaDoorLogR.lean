/- Package log: read, as the landed code has it. -/
import Derived.Test.YtikkakdeapbioaaDoorLogA
set_option linter.unusedVariables false
set_option linter.unusedSimpArgs false
set_option linter.unnecessarySimpa false
namespace Go.Proofs.YtikkakdeapbioaaDoor
open Go.RowKit

/-- append of one element onto a row that the call owns -/
theorem run_app {P : Program} {w : World} {base : Nat} (t e ty : TypeId) {z : Value} {size bytes : Nat} (ht : P.underlying t = some (.slice e)) (hi : (P.info? e).map (fun i => (i.zero, i.size, i.bytes)) = some (some z, size, bytes)) (hz : z.cells.size = size) (hsz : 0 < size) (hby : bytes ≤ 1000)
    {v : Value} {n : Nat} {xs : List Value} (ho : w.ownsRow base e size v n xs) (hn : n ≤ 1000000) (hb : base ≤ w.heap.size) {news : List Value} (hl : news.length = size) (h1 : ∀ u ∈ news, u.oneCell' = true) (g : Nat) (hg : w.heap[g]? = some (.cells news.toArray e (0, 0))) :
    ∃ v' w', (Builtin.append_ #[t, t] ty #[v, .slice (some ⟨g, 0, none⟩) 1 1]).run P w = .ok v' w' ∧ w'.ownsRow base e size v' (n + 1) (xs ++ news) ∧ w.grownBy w' v.ownBlock ∧ (v'.ownBlock = v.ownBlock ∨ v'.ownBlock = some w.heap.size) := by
  cases hq : P.info? e with
  | none => simp [hq] at hi
  | some inf =>
    obtain ⟨h1', h2', h3'⟩ : inf.zero = some z ∧ inf.size = size ∧ inf.bytes = bytes := by simpa [hq] using hi
    obtain ⟨v', w', r1, r2, r3, -, r5⟩ := run_append_own_at (P := P) w base t ty e inf z size bytes ht hq h1' h2' h3' hz hsz v n xs ho ⟨g, 0, none⟩ 1 1 news (by omega) (fun j u hu => by
      rw [Addr.add_mid, Nat.zero_add, cell_of_row w g _ _ _ _ hg]; simpa using hu) h1 (by simp [maxLen]; omega) (by
      have : (n + 1) * bytes ≤ 1000001 * 1000 := Nat.mul_le_mul (by omega) hby
      omega) hb
    exact ⟨v', w', r1, r2, r3, r5⟩
theorem own_form {w : World} {base : Nat} {e : TypeId} {size : Nat} {v : Value} {n : Nat} {xs : List Value} (h : w.ownsRow base e size v n xs) : ∃ a c, v = .slice a n c := by
  rcases h.2 with ⟨rfl, rfl⟩ | ⟨g, cap, cur, rfl, -⟩ <;> exact ⟨_, _, rfl⟩
theorem own_dist {w : World} {base base' : Nat} {e e' : TypeId} {size size' : Nat} {v v' : Value} {n n' : Nat} {xs xs' : List Value} (h : w.ownsRow base e size v n xs) (h' : w.ownsRow base' e' size' v' n' xs') (hne : e ≠ e') : Dist v v' := by
  intro k hk hk'
  rcases h.2 with ⟨rfl, -⟩ | ⟨g, cap, cur, rfl, -, hg, -⟩
  · cases hk
  · rcases h'.2 with ⟨rfl, -⟩ | ⟨g', cap', cur', rfl, -, hg', -⟩
    · cases hk'
    · simp only [Value.ownBlock, Option.some.injEq] at hk hk'
      subst hk; subst hk'
      rw [hg] at hg'
      simp at hg'
      exact hne hg'.2
theorem own_at {w : World} {base : Nat} {e : TypeId} {size : Nat} {v : Value} {n : Nat} {xs : List Value} {g : Nat} (h : w.ownsRow base e size v n xs) (hv : v.ownBlock = some g) {j : Nat} {u : Value} (hu : xs[j]? = some u) : w.cell? ⟨g, j, none⟩ = some u := by
  have := h.cells hv j u hu
  rwa [Addr.add_mid, Nat.zero_add] at this
theorem Tr.newrow {B B' : Nat → Prop} {w wr w' : World} {row : Option Nat} (h : Tr B B' w wr) (hg : wr.grownBy w' row) (hr : ∀ k, row = some k → w.heap.size ≤ k) : Tr B B' w w' :=
  ⟨hg.os.trans h.os, hg.tape.trans h.tape, hg.output.trans h.output, Nat.le_trans h.size hg.size, fun k hk hn => (hg.block k (Nat.lt_of_lt_of_le hk h.size) (fun e => by have := hr k e.symm; omega)).trans (h.block k hk hn), h.fr⟩
def chC (c : Ch) : List Value := [.string c.key, .string c.val, .bool c.gone]
theorem chC_one (c : Ch) : ∀ u ∈ chC c, u.oneCell' = true := by intro u hu; simp [chC] at hu; rcases hu with rfl | rfl | rfl <;> rfl
theorem chs_get : ∀ (l : List Ch) (k : Nat) (x : Ch), l[k]? = some x → ∀ j u, (chC x)[j]? = some u → (l.flatMap chC)[k * 3 + j]? = some u
  | [], k, x, hk => by simp at hk
  | y :: l, k, x, hk => by
    intro j u hu
    have hy : (chC y).length = 3 := rfl
    rw [List.flatMap_cons]
    cases k with
    | zero =>
      simp at hk; subst hk
      rw [List.getElem?_append_left (by have := (List.getElem?_eq_some_iff.1 hu).1; omega)]
      simpa using hu
    | succ k =>
      rw [List.getElem?_append_right (by rw [hy]; omega), hy, show (k + 1) * 3 + j - 3 = k * 3 + j by omega]
      exact chs_get l k x (by simpa using hk) j u hu
theorem chs_len (l : List Ch) : (l.flatMap chC).length = l.length * 3 := by
  induction l with
  | nil => rfl
  | cons a l ih => rw [List.flatMap_cons, List.length_append, ih]; simp [chC]; omega
/-- changes in a row that the call owns -/
theorem own_chs {w : World} {base : Nat} {v : Value} {l : List Ch} (h : w.ownsRow base 61 3 v l.length (l.flatMap chC)) (hs : ∀ c ∈ l, c.key.size ≤ maxLen ∧ c.val.size ≤ maxLen) : ∃ a c, v = .slice a l.length c ∧ (l = [] ∨ ∃ b, a = some ⟨b, 0, none⟩ ∧ v.ownBlock = some b ∧ base ≤ b ∧ b < w.heap.size ∧ ∀ j y, l[j]? = some y → ChAt w b (0 + j * 3) y) := by
  rcases h.2 with ⟨rfl, h0⟩ | ⟨g, cap, cur, rfl, hb, hg, -⟩
  · exact ⟨none, 0, by rw [h0], .inl (List.length_eq_zero_iff.1 h0)⟩
  · refine ⟨_, _, rfl, .inr ⟨g, rfl, rfl, hb, heap_lt hg, fun j y hy => ⟨⟨?_, ?_, ?_⟩, hs y (List.mem_of_getElem? hy)⟩⟩⟩
    · exact own_at h rfl (by simpa using chs_get l j y hy 0 _ rfl)
    · exact own_at h rfl (by simpa using chs_get l j y hy 1 _ rfl)
    · exact own_at h rfl (by simpa using chs_get l j y hy 2 _ rfl)
theorem infoCh : (Tryd.prog.info? 61).map (fun i => (i.zero, i.size, i.bytes)) = some (some (.agg #[.string ⟨#[]⟩, .string ⟨#[]⟩, .bool false]), 3, 40) := by kernel_rfl
theorem infoLC : (Tryd.prog.info? 36).map (fun i => (i.zero, i.size, i.bytes)) = some (some (.slice none 0 0), 1, 24) := by kernel_rfl
theorem infoSt : (Tryd.prog.info? 9).map (fun i => (i.zero, i.size, i.bytes)) = some (some (.string ⟨#[]⟩), 1, 16) := by kernel_rfl
/-- while the deeds are read -/
structure RdI (w wr : World) (q p : Nat) (lg : Lg) (B : Nat → Prop) (d : Dk) (st : Lst) (vd vo : Value) (cd : List Value) : Prop where
  dk : DkO wr B p d
  lt : Lt B w
  nq : ¬ B q
  hq : q < w.heap.size
  lga : LgAt wr q p ⟨lg.frm, lg.many, lg.first, st.used⟩
  tr : Tr (On q) (On q) w wr
  oo : wr.ownsRow w.heap.size 61 3 vo st.opn.length (st.opn.flatMap chC)
  od : wr.ownsRow w.heap.size 36 1 vd st.deeds.length cd
  inn : ∀ (j : Nat) (x : List Ch), st.deeds[j]? = some x → ∃ (a : Option Addr) (c : Nat), cd[j]? = some (Value.slice a x.length c) ∧ (x = [] ∨ ∃ b : Nat, a = some (⟨b, 0, none⟩ : Addr) ∧ w.heap.size ≤ b ∧ b < wr.heap.size ∧ vo.ownBlock ≠ some b ∧ vd.ownBlock ≠ some b ∧ ∀ j y, x[j]? = some y → ChAt wr b (0 + j * 3) y)
  good : ∀ c ∈ st.opn, c.key.size ≤ maxLen ∧ c.val.size ≤ maxLen
section
variable {w wr w' : World} {q p : Nat} {lg : Lg} {B : Nat → Prop} {d : Dk} {st : Lst} {vd vo : Value} {cd : List Value}
theorem own_keep {base : Nat} {e : TypeId} {size : Nat} {v : Value} {n : Nat} {xs : List Value} (h : wr.ownsRow base e size v n xs) (hk : ∀ k, v.ownBlock = some k → w'.heap[k]? = wr.heap[k]?) : w'.ownsRow base e size v n xs := by
  obtain ⟨e1, e2⟩ := h
  refine ⟨e1, ?_⟩
  rcases e2 with e2 | ⟨g, cap, cur, hv, hg, hh, r⟩
  · exact .inl e2
  · exact .inr ⟨g, cap, cur, hv, hg, (hk g (by rw [hv]; rfl)).trans hh, r⟩
theorem RdI.below (h : RdI w wr q p lg B d st vd vo cd) (hb : Below wr.heap.size wr w') : RdI w w' q p lg B d st vd vo cd := by
  refine ⟨h.dk.below hb, h.lt, h.nq, h.hq, h.lga.below hb, h.tr.below hb, own_keep h.oo (fun k hk => hb.block k (h.oo.lt k hk).2), own_keep h.od (fun k hk => hb.block k (h.od.lt k hk).2), fun j x hx => ?_, h.good⟩
  obtain ⟨a, c, h1, h2⟩ := h.inn j x hx
  refine ⟨a, c, h1, ?_⟩
  rcases h2 with h2 | ⟨b, ha, h3, h4, h5, h6, h7⟩
  · exact .inl h2
  · exact .inr ⟨b, ha, h3, Nat.lt_of_lt_of_le h4 hb.size, h5, h6, fun j y hy => (h7 j y hy).below hb h4⟩
/-- a step that turns but one row that the call owns -/
theorem RdI.disk_row (h : RdI w wr q p lg B d st vd vo cd) {row : Option Nat} (hg : wr.grownBy w' row) (hr : ∀ k, row = some k → w.heap.size ≤ k) : DkO w' B p d ∧ LgAt w' q p ⟨lg.frm, lg.many, lg.first, st.used⟩ ∧ Tr (On q) (On q) w w' := by
  refine ⟨h.dk.same (fun k hk => hg.block k (h.dk.lt k hk) (fun e => by have := hr k e.symm; have := h.lt k hk; omega)), ?_, h.tr.newrow hg hr⟩
  exact (hg.block q (heap_lt h.lga) (fun e => by have := hr q e.symm; have := h.hq; omega)).trans h.lga
theorem RdI.opened (h : RdI w wr q p lg B d st vd vo cd) {c : Ch} (hc : c.key.size ≤ maxLen ∧ c.val.size ≤ maxLen) {vo' : Value} (r2 : w'.ownsRow w.heap.size 61 3 vo' (st.opn.length + 1) (st.opn.flatMap chC ++ chC c)) (r3 : wr.grownBy w' vo.ownBlock) (r5 : vo'.ownBlock = vo.ownBlock ∨ vo'.ownBlock = some wr.heap.size) :
    RdI w w' q p lg B d ⟨st.deeds, st.opn ++ [c], st.used⟩ vd vo' cd := by
  obtain ⟨h1, h2, h3⟩ := h.disk_row r3 (fun k hk => (h.oo.lt k hk).1)
  have hd := own_dist h.oo h.od (by decide)
  refine ⟨h1, h.lt, h.nq, h.hq, h2, h3, by simpa using r2, own_keep h.od (fun k hk => r3.block k (h.od.lt k hk).2 (fun e => hd k e.symm hk)), fun j x hx => ?_, ?_⟩
  · obtain ⟨a, c, k1, k2⟩ := h.inn j x hx
    refine ⟨a, c, k1, ?_⟩
    rcases k2 with k2 | ⟨b, ha, k3, k4, k5, k6, k7⟩
    · exact .inl k2
    · refine .inr ⟨b, ha, k3, Nat.lt_of_lt_of_le k4 r3.size, ?_, k6, fun j y hy => (k7 j y hy).at_same (r3.block b k4 (fun e => k5 e.symm))⟩
      rcases r5 with e | e <;> rw [e]
      · exact k5
      · intro e'; simp at e'; omega
  · intro x hx
    rcases List.mem_append.1 hx with hx | hx
    · exact h.good x hx
    · simp at hx; rw [hx]; exact hc
theorem RdI.closed (h : RdI w wr q p lg B d st vd vo cd) {vd' : Value} {a : Option Addr} {c : Nat} (hvo : vo = .slice a st.opn.length c) (r2 : w'.ownsRow w.heap.size 36 1 vd' (st.deeds.length + 1) (cd ++ [vo])) (r3 : wr.grownBy w' vd.ownBlock) (r5 : vd'.ownBlock = vd.ownBlock ∨ vd'.ownBlock = some wr.heap.size) (u : Nat) :
    RdI w (w'.setCell ⟨q, 4, none⟩ (.int .i64 (u : Int))) q p lg B d ⟨st.deeds ++ [st.opn], [], u⟩ vd' (.slice none 0 0) (cd ++ [vo]) := by
  obtain ⟨h1, h2, h3⟩ := h.disk_row r3 (fun k hk => (h.od.lt k hk).1)
  have hd := own_dist h.oo h.od (by decide)
  have hcd : cd.length = st.deeds.length := by have := h.od.1; omega
  have hset : ∀ k, k ≠ q → (w'.setCell ⟨q, 4, none⟩ (.int .i64 (u : Int))).heap[k]? = w'.heap[k]? := fun k hk => Below.heap_setCell _ _ _ _ hk
  have hvd' : ∀ k, vd'.ownBlock = some k → w.heap.size ≤ k := fun k hk => (r2.lt k hk).1
  refine ⟨h1.same (fun k hk => hset k (fun e => h.nq (e ▸ hk))), h.lt, h.nq, h.hq, h2.set u, h3.trans (Tr.setCell (B := On q) w' rfl _ _), World.ownsRow_nil _ _ _ _, by simpa using own_keep r2 (fun k hk => hset k (fun e => by have := hvd' k hk; have := h.hq; omega)), fun j x hx => ?_, (fun c hc => nomatch hc)⟩
  have hne : ∀ b, w.heap.size ≤ b → b ≠ q := fun b hb e => by have := h.hq; omega
  by_cases hj : j < st.deeds.length
  · rw [List.getElem?_append_left hj] at hx
    obtain ⟨a, c, k1, k2⟩ := h.inn j x hx
    refine ⟨a, c, by rw [List.getElem?_append_left (by omega)]; exact k1, ?_⟩
    rcases k2 with k2 | ⟨b, ha, k3, k4, k5, k6, k7⟩
    · exact .inl k2
    · refine .inr ⟨b, ha, k3, by simp; exact Nat.lt_of_lt_of_le k4 r3.size, by simp [Value.ownBlock], ?_, fun j y hy => ((k7 j y hy).at_same (r3.block b k4 (fun e => k6 e.symm))).at_same (hset b (hne b k3))⟩
      rcases r5 with e | e <;> rw [e]
      · exact k6
      · intro e'; simp at e'; omega
  · have hj2 : j = st.deeds.length := by
      have := (List.getElem?_eq_some_iff.1 hx).1
      simp at this; omega
    subst hj2
    have hx2 : x = st.opn := by
      rw [List.getElem?_append_right (Nat.le_refl _)] at hx
      simpa using hx.symm
    subst hx2
    refine ⟨a, c, by rw [← hcd, List.getElem?_append_right (Nat.le_refl _)]; simp [hvo], ?_⟩
    obtain ⟨a', c', e1, e2⟩ := own_chs h.oo h.good
    rw [hvo] at e1
    simp only [Value.slice.injEq, true_and] at e1
    obtain ⟨rfl, rfl⟩ := e1
    rcases e2 with e2 | ⟨b, ha, hbo, k3, k4, k7⟩
    · exact .inl e2
    · have k6 : vd.ownBlock ≠ some b := fun e => hd b hbo e
      refine .inr ⟨b, ha, k3, by simp; exact Nat.lt_of_lt_of_le k4 r3.size, by simp [Value.ownBlock], ?_, fun j y hy => ((k7 j y hy).at_same (r3.block b k4 (fun e => k6 e.symm))).at_same (hset b (hne b k3))⟩
      rcases r5 with e | e <;> rw [e]
      · exact k6
      · intro e'; simp at e'; omega
/-- what was read -/
theorem RdI.fin (h : RdI w wr q p lg B d st vd vo cd) : ∃ a c, vd = .slice a st.deeds.length c ∧ DdsB (fun k => k < w.heap.size) wr a st.deeds := by
  rcases h.od.2 with ⟨rfl, h0⟩ | ⟨g, cap, cur, rfl, hb, hg, -⟩
  · exact ⟨none, 0, by rw [h0], .inl (List.length_eq_zero_iff.1 h0)⟩
  · refine ⟨_, _, rfl, .inr ⟨g, 0, rfl, heap_lt hg, by omega, fun j x hx => ?_⟩⟩
    obtain ⟨a, c, k1, k2⟩ := h.inn j x hx
    refine ⟨a, c, by rw [Nat.zero_add]; exact own_at h.od rfl k1, ?_⟩
    rcases k2 with k2 | ⟨b, ha, k3, k4, k5, k6, k7⟩
    · exact .inl k2
    · exact .inr ⟨b, 0, ha, k4, by omega, k7⟩
end
theorem rd_none {first k : Nat} {st : Lst} {sl : List UInt8} {l r : List (List UInt8)} (hl : l = sl :: r) (h : lstep first k st sl = none) : rdLog first l k st = st := by
  subst hl; simp [rdLog, h]
theorem rd_some {first k : Nat} {st st' : Lst} {sl : List UInt8} {l r : List (List UInt8)} (hl : l = sl :: r) (h : lstep first k st sl = some st') : rdLog first l k st = rdLog first r (k + 1) st' := by
  subst hl; simp [rdLog, h]
theorem secP_some {s : List UInt8} {n : Nat} {k : UInt8} {t : List UInt8} (h : secP s n = some (k, t)) : (k = 111 ∨ k = 99) ∧ t.length ≤ 41 := by
  unfold secP at h
  dsimp only at h
  split at h
  · rename_i hh
    simp only [Option.some.injEq, Prod.mk.injEq] at h
    obtain ⟨rfl, rfl⟩ := h
    exact ⟨hh.1, by simp; omega⟩
  · cases h
set_option maxHeartbeats 4000000 in
set_option maxRecDepth 100000 in
theorem lread_any (B : Nat → Prop) (p q : Nat) (d : Dk) (lg : Lg) (w : World) (h : DkO w B p d) (hq : LgAt w q p ⟨lg.frm, lg.many, lg.first, 0⟩) (hnq : ¬ B q) (hdn : d.down = false) (hfm : lg.frm + lg.many ≤ d.now.length) (hf1 : lg.first ≤ 1000000000000) :
    Calls Tryd.prog 67 #[.pointer (some ⟨q, 0, none⟩)] w fun e w' => ∃ a c, e = .returned (.tuple #[.slice a (lgOf lg.first ((d.now.drop lg.frm).take lg.many)).deeds.length c, .nilIface]) ∧ DdsB (fun k => k < w.heap.size) w' a (lgOf lg.first ((d.now.drop lg.frm).take lg.many)).deeds ∧
      LgAt w' q p ⟨lg.frm, lg.many, lg.first, (lgOf lg.first ((d.now.drop lg.frm).take lg.many)).used⟩ ∧ Tr (On q) (On q) w w' := by
  have hm200 := h.ok.most
  have h48 := h.ok.nows
  have hI0 : RdI w w q p lg B d ⟨[], [], 0⟩ (.slice none 0 0) (.slice none 0 0) [] := ⟨h, h.lt, hnq, heap_lt hq, hq, Tr.refl _ _, World.ownsRow_nil _ _ _ _, World.ownsRow_nil _ _ _ _, (fun j x hx => by simp at hx), (fun c hc => nomatch hc)⟩
  obtain ⟨R, hR⟩ : ∃ R, lgOf lg.first ((d.now.drop lg.frm).take lg.many) = R := ⟨_, rfl⟩
  have HR : Hid (R = rdLog lg.first (((d.now.drop lg.frm).take lg.many).drop 0) 0 ⟨[], [], 0⟩) := hR.symm
  rw [hR]
  clear hR
  obtain ⟨-, -, c2, -, -⟩ := hq.cells
  have hqlt := heap_lt hq
  have hsl : ((d.now.drop lg.frm).take lg.many).length = lg.many := by simp; omega
  go_enter Tryd.func67, Tryd.ntmps67
  go_wp2_with fail
  clear h hq c2 hqlt
  go_loopw [18, 4, 5, 6, 7, 8, 9, 10, 11, 12, 13, 2, 3] (fun i xd xo _ _ _ _ _ _ _ _ _ _ wr => ∃ (k : Nat) (st : Lst) (cd : List Value), k ≤ lg.many ∧ i = .int .i64 k ∧ Hid (R = rdLog lg.first (((d.now.drop lg.frm).take lg.many).drop k) k st) ∧ st.opn.length ≤ k ∧ st.deeds.length ≤ k ∧ RdI w wr q p lg B d st xd xo cd) (fun i _ _ _ _ _ _ _ _ _ _ _ _ _ => lg.many - (intOf i).toNat)
  case atStart => exact ⟨0, _, _, Nat.zero_le _, rfl, HR, by simp, by simp, hI0⟩
  case round =>
    clear hI0 HR
    obtain ⟨k, st, cd, hk, rfl, HR, ho, hdd, hI⟩ := hrel
    by_cases hlt : k < lg.many
    rotate_left
    · have hRe : R = st := by
        have := HR.out
        rwa [List.drop_of_length_le (by omega)] at this
      subst hRe
      have dlt : decide ((k : Int) < (lg.many : Int)) = false := decide_eq_false (by omega)
      obtain ⟨a, c, hvd, hdd'⟩ := hI.fin
      subst hvd
      go_wp2_with fail
      go_ret2
      exact ⟨a, c, rfl, hdd', hI.lga, hI.tr⟩
    · obtain ⟨sl, hsk⟩ : ∃ sl, d.now[lg.frm + k]? = some sl := ⟨d.now[lg.frm + k], List.getElem?_eq_getElem (by omega)⟩
      have hdr : ((d.now.drop lg.frm).take lg.many).drop k = sl :: ((d.now.drop lg.frm).take lg.many).drop (k + 1) := by
        rw [List.drop_eq_getElem_cons (by omega)]
        congr 1
        have := (List.getElem?_eq_some_iff.1 hsk).2
        simpa using this
      have hs48 := h48 sl (List.mem_of_getElem? hsk)
      obtain ⟨c0, c1, c2, c3, -⟩ := hI.lga.cells
      have hqlt := heap_lt hI.lga
      have hrd := read_o B p d ((lg.frm : Int) + (k : Int)) wr.drew hI.dk.drew
      have hr0 : rdC d ((lg.frm : Int) + (k : Int)) = 0 := by
        have hh : hasB2 d ((lg.frm : Int) + (k : Int)) = true := (hasB2_iff d _).2 ⟨by omega, by omega⟩
        simp [rdC, hdn, hh]
      have hr1 : rdS d ((lg.frm : Int) + (k : Int)) = strOf sl := by
        unfold rdS
        rw [if_pos hr0, show ((lg.frm : Int) + (k : Int)).toNat = lg.frm + k by omega]
        simp [hsk]
      rw [hr0, hr1, errV_zero] at hrd
      have hpa := fun W => lparse_any (strOf sl) (lg.first + k) W (by rw [str_size]; exact hs48) (by omega)
      rw [str_data] at hpa
      rw [show ((lg.first + k : Nat) : Int) = (lg.first : Int) + (k : Int) by omega] at hpa
      have dlt : decide ((k : Int) < (lg.many : Int)) = true := decide_eq_true (by omega)
      have hst : ∀ z, lstep lg.first k st sl = z → lstep lg.first k st sl = z := fun _ h => h
      clear hr0 hr1 hsk hs48 hst
      cases hP : secP sl (lg.first + k) with
      | none =>
        have hRe : R = st := by
          have := HR.out
          rwa [rd_none hdr (by unfold lstep; rw [hP])] at this
        have hv : lpV sl (lg.first + k) = .tuple #[.int .u8 0, .string ⟨#[]⟩, .bool false] := by unfold lpV; rw [hP]
        rw [hv] at hpa
        clear hv hP hdr HR
        subst hRe
        generalize strOf sl = ss at *
        go_wp2_with fail
        refine wp_region_held_drew (S := fun w' => w'.cell? ⟨q, 0, none⟩ = some (.pointer (some ⟨p, 0, none⟩)) ∧ w'.cell? ⟨q, 1, none⟩ = some (.int .i64 (lg.frm : Int))) (by kernel_rfl) ?_ (fun hHeld => ?_)
        · exact ⟨c0, c1⟩
        refine wpAnyH_take (i := 0) (oi := ({ dst := some 22, op := Op.move (Operand.tmp 0), type := 77, pos := "log.go:75", after := #[], guard := none } : Oper)) (v := .pointer (some ⟨q, 0, none⟩)) rfl (by kernel_rfl) (by kernel_rfl) (by kernel_rfl) (fun _ _ _ h => h) (Or.inl ⟨by rfl, ?_⟩) (by assumption) ?_
        · intro w hSw; (try dsimp only at hSw); go_simp
        (try simp only [Act.put, List.setIfInBounds_toArray, List.set_cons_zero, List.set_cons_succ])
        refine wpAnyH_take (i := 1) (oi := ({ dst := some 23, op := Op.nilCheck (Operand.tmp 22), type := 0, pos := "log.go:75", after := #[{ on := 0, ground := Ground.data }], guard := none } : Oper)) (v := .pointer (some ⟨q, 0, none⟩)) rfl (by kernel_rfl) (by kernel_rfl) (by kernel_rfl) (fun _ _ _ h => h) (Or.inl ⟨by rfl, ?_⟩) (by assumption) ?_
        · intro w hSw; (try dsimp only at hSw); go_simp
        (try simp only [Act.put, List.setIfInBounds_toArray, List.set_cons_zero, List.set_cons_succ])
        refine wpAnyH_take (i := 2) (oi := ({ dst := some 24, op := Op.fieldAddr 110 (Operand.tmp 23) 0, type := 0, pos := "log.go:75", after := #[{ on := 1, ground := Ground.data }], guard := none } : Oper)) (v := .pointer (some ⟨q, 0, none⟩)) rfl (by kernel_rfl) (by kernel_rfl) (by kernel_rfl) (fun _ _ _ h => h) (Or.inl ⟨by rfl, ?_⟩) (by assumption) ?_
        · intro w hSw; (try dsimp only at hSw); go_simp
        (try simp only [Act.put, List.setIfInBounds_toArray, List.set_cons_zero, List.set_cons_succ])
        refine wpAnyH_take (i := 3) (oi := ({ dst := some 25, op := Op.load 25 (Operand.tmp 24), type := 25, pos := "log.go:75", after := #[{ on := 2, ground := Ground.data }], guard := none } : Oper)) (v := .pointer (some ⟨p, 0, none⟩)) rfl (by kernel_rfl) (by kernel_rfl) (by kernel_rfl) (fun _ _ _ h => h) (Or.inl ⟨by rfl, ?_⟩) (by assumption) ?_
        · intro w hSw; (try dsimp only at hSw); go_simp
        (try simp only [Act.put, List.setIfInBounds_toArray, List.set_cons_zero, List.set_cons_succ])
        refine wpAnyH_take (i := 4) (oi := ({ dst := some 26, op := Op.move (Operand.tmp 0), type := 77, pos := "log.go:75", after := #[], guard := none } : Oper)) (v := .pointer (some ⟨q, 0, none⟩)) rfl (by kernel_rfl) (by kernel_rfl) (by kernel_rfl) (fun _ _ _ h => h) (Or.inl ⟨by rfl, ?_⟩) (by assumption) ?_
        · intro w hSw; (try dsimp only at hSw); go_simp
        (try simp only [Act.put, List.setIfInBounds_toArray, List.set_cons_zero, List.set_cons_succ])
        refine wpAnyH_take (i := 5) (oi := ({ dst := some 27, op := Op.nilCheck (Operand.tmp 26), type := 0, pos := "log.go:75", after := #[{ on := 4, ground := Ground.data }], guard := none } : Oper)) (v := .pointer (some ⟨q, 0, none⟩)) rfl (by kernel_rfl) (by kernel_rfl) (by kernel_rfl) (fun _ _ _ h => h) (Or.inl ⟨by rfl, ?_⟩) (by assumption) ?_
        · intro w hSw; (try dsimp only at hSw); go_simp
        (try simp only [Act.put, List.setIfInBounds_toArray, List.set_cons_zero, List.set_cons_succ])
        refine wpAnyH_take (i := 6) (oi := ({ dst := some 28, op := Op.fieldAddr 110 (Operand.tmp 27) 1, type := 0, pos := "log.go:75", after := #[{ on := 5, ground := Ground.data }], guard := none } : Oper)) (v := .pointer (some ⟨q, 1, none⟩)) rfl (by kernel_rfl) (by kernel_rfl) (by kernel_rfl) (fun _ _ _ h => h) (Or.inl ⟨by rfl, ?_⟩) (by assumption) ?_
        · intro w hSw; (try dsimp only at hSw); go_simp
        (try simp only [Act.put, List.setIfInBounds_toArray, List.set_cons_zero, List.set_cons_succ])
        refine wpAnyH_take (i := 7) (oi := ({ dst := some 29, op := Op.load 3 (Operand.tmp 28), type := 3, pos := "log.go:75", after := #[{ on := 6, ground := Ground.data }], guard := none } : Oper)) (v := .int .i64 (lg.frm : Int)) rfl (by kernel_rfl) (by kernel_rfl) (by kernel_rfl) (fun _ _ _ h => h) (Or.inl ⟨by rfl, ?_⟩) (by assumption) ?_
        · intro w hSw; (try dsimp only at hSw); go_simp
        (try simp only [Act.put, List.setIfInBounds_toArray, List.set_cons_zero, List.set_cons_succ])
        refine wpAnyH_take (i := 8) (oi := ({ dst := some 30, op := Op.move (Operand.tmp 6), type := 3, pos := "log.go:75", after := #[], guard := none } : Oper)) (v := .int .i64 (k : Int)) rfl (by kernel_rfl) (by kernel_rfl) (by kernel_rfl) (fun _ _ _ h => h) (Or.inl ⟨by rfl, ?_⟩) (by assumption) ?_
        · intro w hSw; (try dsimp only at hSw); go_simp
        (try simp only [Act.put, List.setIfInBounds_toArray, List.set_cons_zero, List.set_cons_succ])
        refine wpAnyH_take (i := 9) (oi := ({ dst := some 31, op := Op.binOp BinOp.add 3 (Operand.tmp 29) (Operand.tmp 30) 3, type := 3, pos := "log.go:75", after := #[{ on := 7, ground := Ground.data }, { on := 8, ground := Ground.data }], guard := none } : Oper)) (v := .int .i64 ((lg.frm : Int) + (k : Int))) rfl (by kernel_rfl) (by kernel_rfl) (by kernel_rfl) (fun _ _ _ h => h) (Or.inl ⟨by rfl, ?_⟩) (by assumption) ?_
        · intro w hSw; (try dsimp only at hSw); go_simp; exact wrap_id (by omega) (by omega)
        (try simp only [Act.put, List.setIfInBounds_toArray, List.set_cons_zero, List.set_cons_succ])
        refine wpAnyH_ready (rs := [10]) (by kernel_rfl) (by simp) ?_
        refine AllReadyH.cons (o := ({ dst := some 32, op := Op.call { callee := Callee.value (Operand.func 25), args := #[Operand.tmp 25, Operand.tmp 31], argTypes := #[25, 3] }, type := 69, pos := "log.go:75", after := #[{ on := 3, ground := Ground.data }, { on := 9, ground := Ground.data }], guard := none } : Oper)) rfl (fun K hK => ?_) AllReadyH.nil
        rw [if_pos (by rfl)]
        go_wp2_with fail
        refine hrd.mono ?_
        rintro e wn ⟨rfl, hwn⟩
        rw [hwn]
        clear hrd hwn wn
        go_wp2_with fail
        refine hK.out _ _ ?_ (fun hHeld => ?_)
        · exact ⟨c0, c1⟩
        clear hK K
        (try simp only [Act.put, List.setIfInBounds_toArray, List.set_cons_zero, List.set_cons_succ])
        refine wpAnyH_take (i := 11) (oi := ({ dst := some 21, op := Op.move (Operand.tmp 32), type := 69, pos := "log.go:75", after := #[{ on := 10, ground := Ground.data }], guard := none } : Oper)) (v := .tuple #[.string (ss), .nilIface]) rfl (by kernel_rfl) (by kernel_rfl) (by kernel_rfl) (fun _ _ _ h => h) (Or.inl ⟨by rfl, ?_⟩) (by assumption) ?_
        · intro w hSw; (try dsimp only at hSw); go_simp
        (try simp only [Act.put, List.setIfInBounds_toArray, List.set_cons_zero, List.set_cons_succ])
        refine wpAnyH_take (i := 12) (oi := ({ dst := some 33, op := Op.extract (Operand.tmp 21) 0, type := 9, pos := "log.go:75", after := #[{ on := 11, ground := Ground.data }], guard := none } : Oper)) (v := .string (ss)) rfl (by kernel_rfl) (by kernel_rfl) (by kernel_rfl) (fun _ _ _ h => h) (Or.inl ⟨by rfl, ?_⟩) (by assumption) ?_
        · intro w hSw; (try dsimp only at hSw); go_simp
        (try simp only [Act.put, List.setIfInBounds_toArray, List.set_cons_zero, List.set_cons_succ])
        refine wpAnyH_take (i := 13) (oi := ({ dst := some 34, op := Op.extract (Operand.tmp 21) 1, type := 27, pos := "log.go:75", after := #[{ on := 11, ground := Ground.data }, { on := 14, ground := Ground.gcOnly Departure.lateStores }], guard := none } : Oper)) (v := .nilIface) rfl (by kernel_rfl) (by kernel_rfl) (by kernel_rfl) (fun _ _ _ h => h) (Or.inl ⟨by rfl, ?_⟩) (by assumption) ?_
        · intro w hSw; (try dsimp only at hSw); go_simp
        (try simp only [Act.put, List.setIfInBounds_toArray, List.set_cons_zero, List.set_cons_succ])
        refine wpAnyH_take (i := 14) (oi := ({ dst := some 7, op := Op.assign (Operand.tmp 33), type := 9, pos := "log.go:75", after := #[{ on := 12, ground := Ground.data }, { on := 10, ground := Ground.chain }, { on := 0, ground := Ground.phase }, { on := 1, ground := Ground.phase }, { on := 2, ground := Ground.phase }, { on := 3, ground := Ground.phase }, { on := 4, ground := Ground.phase }, { on := 5, ground := Ground.phase }, { on := 6, ground := Ground.phase }, { on := 7, ground := Ground.phase }, { on := 8, ground := Ground.phase }, { on := 9, ground := Ground.phase }, { on := 10, ground := Ground.phase }, { on := 11, ground := Ground.phase }, { on := 12, ground := Ground.phase }, { on := 13, ground := Ground.textOnly Departure.lateStores }], guard := none } : Oper)) (v := .string (ss)) rfl (by kernel_rfl) (by kernel_rfl) (by kernel_rfl) (fun _ _ _ h => h) (Or.inl ⟨by rfl, ?_⟩) (by assumption) ?_
        · intro w hSw; (try dsimp only at hSw); go_simp
        (try simp only [Act.put, List.setIfInBounds_toArray, List.set_cons_zero, List.set_cons_succ])
        refine wpAnyH_take (i := 15) (oi := ({ dst := some 8, op := Op.assign (Operand.tmp 34), type := 27, pos := "log.go:75", after := #[{ on := 13, ground := Ground.data }, { on := 14, ground := Ground.chain }, { on := 0, ground := Ground.phase }, { on := 1, ground := Ground.phase }, { on := 2, ground := Ground.phase }, { on := 3, ground := Ground.phase }, { on := 4, ground := Ground.phase }, { on := 5, ground := Ground.phase }, { on := 6, ground := Ground.phase }, { on := 7, ground := Ground.phase }, { on := 8, ground := Ground.phase }, { on := 9, ground := Ground.phase }, { on := 10, ground := Ground.phase }, { on := 11, ground := Ground.phase }, { on := 12, ground := Ground.phase }, { on := 13, ground := Ground.phase }, { on := 14, ground := Ground.phase }], guard := none } : Oper)) (v := .nilIface) rfl (by kernel_rfl) (by kernel_rfl) (by kernel_rfl) (fun _ _ _ h => h) (Or.inl ⟨by rfl, ?_⟩) (by assumption) ?_
        · intro w hSw; (try dsimp only at hSw); go_simp
        (try simp only [Act.put, List.setIfInBounds_toArray, List.set_cons_zero, List.set_cons_succ])
        refine wpAnyH_done (by kernel_rfl) ?_ _
        have hI2 := hI.below (below_drewN (Below.refl _ _) 1)
        change RdI w wr.drew _ _ _ _ _ _ _ _ _ at hI2
        clear hI c0 c1 c2 c3
        generalize wr.drew = w1 at *
        obtain ⟨-, -, -, c3, -⟩ := hI2.lga.cells
        have hqlt := heap_lt hI2.lga
        have hpa := hpa w1
        go_wp2_with fail
        refine hpa.mono ?_
        rintro e w2 ⟨rfl, hb2⟩
        clear hpa c3 hqlt
        have hI3 := hI2.below hb2
        clear hI2 hb2
        obtain ⟨a, c, hvd, hdd'⟩ := hI3.fin
        subst hvd
        go_wp2_with fail
        go_ret2
        exact ⟨a, c, rfl, hdd', hI3.lga, hI3.tr⟩
      | some kt =>
        obtain ⟨kk, tt⟩ := kt
        obtain ⟨hkk, htl⟩ := secP_some hP
        have hv : lpV sl (lg.first + k) = .tuple #[.int .u8 (kk.toNat : Int), .string (strOf tt), .bool true] := by unfold lpV; rw [hP]
        rw [hv] at hpa
        clear hv
        rcases hkk with rfl | rfl
        · rw [show ((111 : UInt8).toNat : Int) = 111 from rfl] at hpa
          have hrp := fun W => rparse_any (strOf tt) W (by rw [str_size]; simp [maxLen]; omega)
          cases hC : chP tt with
          | none =>
            have hRe : R = st := by
              have := HR.out
              rwa [rd_none hdr (by unfold lstep; rw [hP]; simp [hC])] at this
            have e1 : prR (strOf tt) = ch0 := by unfold prR; rw [str_data, hC]; rfl
            have e2 : prC (strOf tt) = 4 := by unfold prC; rw [str_data, hC]; rfl
            rw [e1, e2, errV_pos (by decide)] at hrp
            clear e1 e2 hP hdr HR hC
            subst hRe
            generalize strOf tt = ts at *
            generalize strOf sl = ss at *
            go_wp2_with fail
            refine wp_region_held_drew (S := fun w' => w'.cell? ⟨q, 0, none⟩ = some (.pointer (some ⟨p, 0, none⟩)) ∧ w'.cell? ⟨q, 1, none⟩ = some (.int .i64 (lg.frm : Int))) (by kernel_rfl) ?_ (fun hHeld => ?_)
            · exact ⟨c0, c1⟩
            refine wpAnyH_take (i := 0) (oi := ({ dst := some 22, op := Op.move (Operand.tmp 0), type := 77, pos := "log.go:75", after := #[], guard := none } : Oper)) (v := .pointer (some ⟨q, 0, none⟩)) rfl (by kernel_rfl) (by kernel_rfl) (by kernel_rfl) (fun _ _ _ h => h) (Or.inl ⟨by rfl, ?_⟩) (by assumption) ?_
            · intro w hSw; (try dsimp only at hSw); go_simp
            (try simp only [Act.put, List.setIfInBounds_toArray, List.set_cons_zero, List.set_cons_succ])
            refine wpAnyH_take (i := 1) (oi := ({ dst := some 23, op := Op.nilCheck (Operand.tmp 22), type := 0, pos := "log.go:75", after := #[{ on := 0, ground := Ground.data }], guard := none } : Oper)) (v := .pointer (some ⟨q, 0, none⟩)) rfl (by kernel_rfl) (by kernel_rfl) (by kernel_rfl) (fun _ _ _ h => h) (Or.inl ⟨by rfl, ?_⟩) (by assumption) ?_
            · intro w hSw; (try dsimp only at hSw); go_simp
            (try simp only [Act.put, List.setIfInBounds_toArray, List.set_cons_zero, List.set_cons_succ])
            refine wpAnyH_take (i := 2) (oi := ({ dst := some 24, op := Op.fieldAddr 110 (Operand.tmp 23) 0, type := 0, pos := "log.go:75", after := #[{ on := 1, ground := Ground.data }], guard := none } : Oper)) (v := .pointer (some ⟨q, 0, none⟩)) rfl (by kernel_rfl) (by kernel_rfl) (by kernel_rfl) (fun _ _ _ h => h) (Or.inl ⟨by rfl, ?_⟩) (by assumption) ?_
            · intro w hSw; (try dsimp only at hSw); go_simp
            (try simp only [Act.put, List.setIfInBounds_toArray, List.set_cons_zero, List.set_cons_succ])
            refine wpAnyH_take (i := 3) (oi := ({ dst := some 25, op := Op.load 25 (Operand.tmp 24), type := 25, pos := "log.go:75", after := #[{ on := 2, ground := Ground.data }], guard := none } : Oper)) (v := .pointer (some ⟨p, 0, none⟩)) rfl (by kernel_rfl) (by kernel_rfl) (by kernel_rfl) (fun _ _ _ h => h) (Or.inl ⟨by rfl, ?_⟩) (by assumption) ?_
            · intro w hSw; (try dsimp only at hSw); go_simp
            (try simp only [Act.put, List.setIfInBounds_toArray, List.set_cons_zero, List.set_cons_succ])
            refine wpAnyH_take (i := 4) (oi := ({ dst := some 26, op := Op.move (Operand.tmp 0), type := 77, pos := "log.go:75", after := #[], guard := none } : Oper)) (v := .pointer (some ⟨q, 0, none⟩)) rfl (by kernel_rfl) (by kernel_rfl) (by kernel_rfl) (fun _ _ _ h => h) (Or.inl ⟨by rfl, ?_⟩) (by assumption) ?_
            · intro w hSw; (try dsimp only at hSw); go_simp
            (try simp only [Act.put, List.setIfInBounds_toArray, List.set_cons_zero, List.set_cons_succ])
            refine wpAnyH_take (i := 5) (oi := ({ dst := some 27, op := Op.nilCheck (Operand.tmp 26), type := 0, pos := "log.go:75", after := #[{ on := 4, ground := Ground.data }], guard := none } : Oper)) (v := .pointer (some ⟨q, 0, none⟩)) rfl (by kernel_rfl) (by kernel_rfl) (by kernel_rfl) (fun _ _ _ h => h) (Or.inl ⟨by rfl, ?_⟩) (by assumption) ?_
            · intro w hSw; (try dsimp only at hSw); go_simp
            (try simp only [Act.put, List.setIfInBounds_toArray, List.set_cons_zero, List.set_cons_succ])
            refine wpAnyH_take (i := 6) (oi := ({ dst := some 28, op := Op.fieldAddr 110 (Operand.tmp 27) 1, type := 0, pos := "log.go:75", after := #[{ on := 5, ground := Ground.data }], guard := none } : Oper)) (v := .pointer (some ⟨q, 1, none⟩)) rfl (by kernel_rfl) (by kernel_rfl) (by kernel_rfl) (fun _ _ _ h => h) (Or.inl ⟨by rfl, ?_⟩) (by assumption) ?_
            · intro w hSw; (try dsimp only at hSw); go_simp
            (try simp only [Act.put, List.setIfInBounds_toArray, List.set_cons_zero, List.set_cons_succ])
            refine wpAnyH_take (i := 7) (oi := ({ dst := some 29, op := Op.load 3 (Operand.tmp 28), type := 3, pos := "log.go:75", after := #[{ on := 6, ground := Ground.data }], guard := none } : Oper)) (v := .int .i64 (lg.frm : Int)) rfl (by kernel_rfl) (by kernel_rfl) (by kernel_rfl) (fun _ _ _ h => h) (Or.inl ⟨by rfl, ?_⟩) (by assumption) ?_
            · intro w hSw; (try dsimp only at hSw); go_simp
            (try simp only [Act.put, List.setIfInBounds_toArray, List.set_cons_zero, List.set_cons_succ])
            refine wpAnyH_take (i := 8) (oi := ({ dst := some 30, op := Op.move (Operand.tmp 6), type := 3, pos := "log.go:75", after := #[], guard := none } : Oper)) (v := .int .i64 (k : Int)) rfl (by kernel_rfl) (by kernel_rfl) (by kernel_rfl) (fun _ _ _ h => h) (Or.inl ⟨by rfl, ?_⟩) (by assumption) ?_
            · intro w hSw; (try dsimp only at hSw); go_simp
            (try simp only [Act.put, List.setIfInBounds_toArray, List.set_cons_zero, List.set_cons_succ])
            refine wpAnyH_take (i := 9) (oi := ({ dst := some 31, op := Op.binOp BinOp.add 3 (Operand.tmp 29) (Operand.tmp 30) 3, type := 3, pos := "log.go:75", after := #[{ on := 7, ground := Ground.data }, { on := 8, ground := Ground.data }], guard := none } : Oper)) (v := .int .i64 ((lg.frm : Int) + (k : Int))) rfl (by kernel_rfl) (by kernel_rfl) (by kernel_rfl) (fun _ _ _ h => h) (Or.inl ⟨by rfl, ?_⟩) (by assumption) ?_
            · intro w hSw; (try dsimp only at hSw); go_simp; exact wrap_id (by omega) (by omega)
            (try simp only [Act.put, List.setIfInBounds_toArray, List.set_cons_zero, List.set_cons_succ])
            refine wpAnyH_ready (rs := [10]) (by kernel_rfl) (by simp) ?_
            refine AllReadyH.cons (o := ({ dst := some 32, op := Op.call { callee := Callee.value (Operand.func 25), args := #[Operand.tmp 25, Operand.tmp 31], argTypes := #[25, 3] }, type := 69, pos := "log.go:75", after := #[{ on := 3, ground := Ground.data }, { on := 9, ground := Ground.data }], guard := none } : Oper)) rfl (fun K hK => ?_) AllReadyH.nil
            rw [if_pos (by rfl)]
            go_wp2_with fail
            refine hrd.mono ?_
            rintro e wn ⟨rfl, hwn⟩
            rw [hwn]
            clear hrd hwn wn
            go_wp2_with fail
            refine hK.out _ _ ?_ (fun hHeld => ?_)
            · exact ⟨c0, c1⟩
            clear hK K
            (try simp only [Act.put, List.setIfInBounds_toArray, List.set_cons_zero, List.set_cons_succ])
            refine wpAnyH_take (i := 11) (oi := ({ dst := some 21, op := Op.move (Operand.tmp 32), type := 69, pos := "log.go:75", after := #[{ on := 10, ground := Ground.data }], guard := none } : Oper)) (v := .tuple #[.string (ss), .nilIface]) rfl (by kernel_rfl) (by kernel_rfl) (by kernel_rfl) (fun _ _ _ h => h) (Or.inl ⟨by rfl, ?_⟩) (by assumption) ?_
            · intro w hSw; (try dsimp only at hSw); go_simp
            (try simp only [Act.put, List.setIfInBounds_toArray, List.set_cons_zero, List.set_cons_succ])
            refine wpAnyH_take (i := 12) (oi := ({ dst := some 33, op := Op.extract (Operand.tmp 21) 0, type := 9, pos := "log.go:75", after := #[{ on := 11, ground := Ground.data }], guard := none } : Oper)) (v := .string (ss)) rfl (by kernel_rfl) (by kernel_rfl) (by kernel_rfl) (fun _ _ _ h => h) (Or.inl ⟨by rfl, ?_⟩) (by assumption) ?_
            · intro w hSw; (try dsimp only at hSw); go_simp
            (try simp only [Act.put, List.setIfInBounds_toArray, List.set_cons_zero, List.set_cons_succ])
            refine wpAnyH_take (i := 13) (oi := ({ dst := some 34, op := Op.extract (Operand.tmp 21) 1, type := 27, pos := "log.go:75", after := #[{ on := 11, ground := Ground.data }, { on := 14, ground := Ground.gcOnly Departure.lateStores }], guard := none } : Oper)) (v := .nilIface) rfl (by kernel_rfl) (by kernel_rfl) (by kernel_rfl) (fun _ _ _ h => h) (Or.inl ⟨by rfl, ?_⟩) (by assumption) ?_
            · intro w hSw; (try dsimp only at hSw); go_simp
            (try simp only [Act.put, List.setIfInBounds_toArray, List.set_cons_zero, List.set_cons_succ])
            refine wpAnyH_take (i := 14) (oi := ({ dst := some 7, op := Op.assign (Operand.tmp 33), type := 9, pos := "log.go:75", after := #[{ on := 12, ground := Ground.data }, { on := 10, ground := Ground.chain }, { on := 0, ground := Ground.phase }, { on := 1, ground := Ground.phase }, { on := 2, ground := Ground.phase }, { on := 3, ground := Ground.phase }, { on := 4, ground := Ground.phase }, { on := 5, ground := Ground.phase }, { on := 6, ground := Ground.phase }, { on := 7, ground := Ground.phase }, { on := 8, ground := Ground.phase }, { on := 9, ground := Ground.phase }, { on := 10, ground := Ground.phase }, { on := 11, ground := Ground.phase }, { on := 12, ground := Ground.phase }, { on := 13, ground := Ground.textOnly Departure.lateStores }], guard := none } : Oper)) (v := .string (ss)) rfl (by kernel_rfl) (by kernel_rfl) (by kernel_rfl) (fun _ _ _ h => h) (Or.inl ⟨by rfl, ?_⟩) (by assumption) ?_
            · intro w hSw; (try dsimp only at hSw); go_simp
            (try simp only [Act.put, List.setIfInBounds_toArray, List.set_cons_zero, List.set_cons_succ])
            refine wpAnyH_take (i := 15) (oi := ({ dst := some 8, op := Op.assign (Operand.tmp 34), type := 27, pos := "log.go:75", after := #[{ on := 13, ground := Ground.data }, { on := 14, ground := Ground.chain }, { on := 0, ground := Ground.phase }, { on := 1, ground := Ground.phase }, { on := 2, ground := Ground.phase }, { on := 3, ground := Ground.phase }, { on := 4, ground := Ground.phase }, { on := 5, ground := Ground.phase }, { on := 6, ground := Ground.phase }, { on := 7, ground := Ground.phase }, { on := 8, ground := Ground.phase }, { on := 9, ground := Ground.phase }, { on := 10, ground := Ground.phase }, { on := 11, ground := Ground.phase }, { on := 12, ground := Ground.phase }, { on := 13, ground := Ground.phase }, { on := 14, ground := Ground.phase }], guard := none } : Oper)) (v := .nilIface) rfl (by kernel_rfl) (by kernel_rfl) (by kernel_rfl) (fun _ _ _ h => h) (Or.inl ⟨by rfl, ?_⟩) (by assumption) ?_
            · intro w hSw; (try dsimp only at hSw); go_simp
            (try simp only [Act.put, List.setIfInBounds_toArray, List.set_cons_zero, List.set_cons_succ])
            refine wpAnyH_done (by kernel_rfl) ?_ _
            have hI2 := hI.below (below_drewN (Below.refl _ _) 1)
            change RdI w wr.drew _ _ _ _ _ _ _ _ _ at hI2
            clear hI c0 c1 c2 c3
            generalize wr.drew = w1 at *
            obtain ⟨-, -, -, c3, -⟩ := hI2.lga.cells
            have hqlt := heap_lt hI2.lga
            have hpa := hpa w1
            go_wp2_with fail
            refine hpa.mono ?_
            rintro e w2 ⟨rfl, hb2⟩
            clear hpa c3 hqlt
            have hI3 := hI2.below hb2
            clear hI2 hb2
            have hrp := hrp w2
            go_wp2_with fail
            refine hrp.mono ?_
            rintro e w3 ⟨rfl, hb3⟩
            clear hrp
            have hI4 := (hI3.below hb3).below ((Below.refl _ _).alloc (Nat.le_refl _) (.cells #[.string ch0.key, .string ch0.val, .bool ch0.gone] 61))
            obtain ⟨a, c, hvd, hdd'⟩ := hI4.fin
            subst hvd
            go_wp2_with fail
            go_ret2
            exact ⟨a, c, rfl, hdd', hI4.lga, hI4.tr⟩
          | some c =>
            have hRe : R = rdLog lg.first (((d.now.drop lg.frm).take lg.many).drop (k + 1)) (k + 1) ⟨st.deeds, st.opn ++ [c], st.used⟩ := by
              have := HR.out
              rwa [rd_some hdr (by unfold lstep; rw [hP]; simp [hC]; rfl)] at this
            have HRe : Hid (_ = _) := hRe
            have e1 : prR (strOf tt) = c := by unfold prR; rw [str_data, hC]; rfl
            have e2 : prC (strOf tt) = 0 := by unfold prC; rw [str_data, hC]; rfl
            have hcs : c.key.size ≤ maxLen ∧ c.val.size ≤ maxLen := by
              have : chkC c = 0 := by
                unfold chP at hC
                split at hC
                · rename_i hh; simp at hC; rw [← hC]; exact hh.2
                · cases hC
              have := chk_zero this
              simp [maxLen]; omega
            rw [e1, e2, errV_zero] at hrp
            clear e1 e2 hP hdr HR hC hRe
            generalize strOf tt = ts at *
            generalize strOf sl = ss at *
            go_wp2_with fail
            refine wp_region_held_drew (S := fun w' => w'.cell? ⟨q, 0, none⟩ = some (.pointer (some ⟨p, 0, none⟩)) ∧ w'.cell? ⟨q, 1, none⟩ = some (.int .i64 (lg.frm : Int))) (by kernel_rfl) ?_ (fun hHeld => ?_)
            · exact ⟨c0, c1⟩
            refine wpAnyH_take (i := 0) (oi := ({ dst := some 22, op := Op.move (Operand.tmp 0), type := 77, pos := "log.go:75", after := #[], guard := none } : Oper)) (v := .pointer (some ⟨q, 0, none⟩)) rfl (by kernel_rfl) (by kernel_rfl) (by kernel_rfl) (fun _ _ _ h => h) (Or.inl ⟨by rfl, ?_⟩) (by assumption) ?_
            · intro w hSw; (try dsimp only at hSw); go_simp
            (try simp only [Act.put, List.setIfInBounds_toArray, List.set_cons_zero, List.set_cons_succ])
            refine wpAnyH_take (i := 1) (oi := ({ dst := some 23, op := Op.nilCheck (Operand.tmp 22), type := 0, pos := "log.go:75", after := #[{ on := 0, ground := Ground.data }], guard := none } : Oper)) (v := .pointer (some ⟨q, 0, none⟩)) rfl (by kernel_rfl) (by kernel_rfl) (by kernel_rfl) (fun _ _ _ h => h) (Or.inl ⟨by rfl, ?_⟩) (by assumption) ?_
            · intro w hSw; (try dsimp only at hSw); go_simp
            (try simp only [Act.put, List.setIfInBounds_toArray, List.set_cons_zero, List.set_cons_succ])
            refine wpAnyH_take (i := 2) (oi := ({ dst := some 24, op := Op.fieldAddr 110 (Operand.tmp 23) 0, type := 0, pos := "log.go:75", after := #[{ on := 1, ground := Ground.data }], guard := none } : Oper)) (v := .pointer (some ⟨q, 0, none⟩)) rfl (by kernel_rfl) (by kernel_rfl) (by kernel_rfl) (fun _ _ _ h => h) (Or.inl ⟨by rfl, ?_⟩) (by assumption) ?_
            · intro w hSw; (try dsimp only at hSw); go_simp
            (try simp only [Act.put, List.setIfInBounds_toArray, List.set_cons_zero, List.set_cons_succ])
            refine wpAnyH_take (i := 3) (oi := ({ dst := some 25, op := Op.load 25 (Operand.tmp 24), type := 25, pos := "log.go:75", after := #[{ on := 2, ground := Ground.data }], guard := none } : Oper)) (v := .pointer (some ⟨p, 0, none⟩)) rfl (by kernel_rfl) (by kernel_rfl) (by kernel_rfl) (fun _ _ _ h => h) (Or.inl ⟨by rfl, ?_⟩) (by assumption) ?_
            · intro w hSw; (try dsimp only at hSw); go_simp
            (try simp only [Act.put, List.setIfInBounds_toArray, List.set_cons_zero, List.set_cons_succ])
            refine wpAnyH_take (i := 4) (oi := ({ dst := some 26, op := Op.move (Operand.tmp 0), type := 77, pos := "log.go:75", after := #[], guard := none } : Oper)) (v := .pointer (some ⟨q, 0, none⟩)) rfl (by kernel_rfl) (by kernel_rfl) (by kernel_rfl) (fun _ _ _ h => h) (Or.inl ⟨by rfl, ?_⟩) (by assumption) ?_
            · intro w hSw; (try dsimp only at hSw); go_simp
            (try simp only [Act.put, List.setIfInBounds_toArray, List.set_cons_zero, List.set_cons_succ])
            refine wpAnyH_take (i := 5) (oi := ({ dst := some 27, op := Op.nilCheck (Operand.tmp 26), type := 0, pos := "log.go:75", after := #[{ on := 4, ground := Ground.data }], guard := none } : Oper)) (v := .pointer (some ⟨q, 0, none⟩)) rfl (by kernel_rfl) (by kernel_rfl) (by kernel_rfl) (fun _ _ _ h => h) (Or.inl ⟨by rfl, ?_⟩) (by assumption) ?_
            · intro w hSw; (try dsimp only at hSw); go_simp
            (try simp only [Act.put, List.setIfInBounds_toArray, List.set_cons_zero, List.set_cons_succ])
            refine wpAnyH_take (i := 6) (oi := ({ dst := some 28, op := Op.fieldAddr 110 (Operand.tmp 27) 1, type := 0, pos := "log.go:75", after := #[{ on := 5, ground := Ground.data }], guard := none } : Oper)) (v := .pointer (some ⟨q, 1, none⟩)) rfl (by kernel_rfl) (by kernel_rfl) (by kernel_rfl) (fun _ _ _ h => h) (Or.inl ⟨by rfl, ?_⟩) (by assumption) ?_
            · intro w hSw; (try dsimp only at hSw); go_simp
            (try simp only [Act.put, List.setIfInBounds_toArray, List.set_cons_zero, List.set_cons_succ])
            refine wpAnyH_take (i := 7) (oi := ({ dst := some 29, op := Op.load 3 (Operand.tmp 28), type := 3, pos := "log.go:75", after := #[{ on := 6, ground := Ground.data }], guard := none } : Oper)) (v := .int .i64 (lg.frm : Int)) rfl (by kernel_rfl) (by kernel_rfl) (by kernel_rfl) (fun _ _ _ h => h) (Or.inl ⟨by rfl, ?_⟩) (by assumption) ?_
            · intro w hSw; (try dsimp only at hSw); go_simp
            (try simp only [Act.put, List.setIfInBounds_toArray, List.set_cons_zero, List.set_cons_succ])
            refine wpAnyH_take (i := 8) (oi := ({ dst := some 30, op := Op.move (Operand.tmp 6), type := 3, pos := "log.go:75", after := #[], guard := none } : Oper)) (v := .int .i64 (k : Int)) rfl (by kernel_rfl) (by kernel_rfl) (by kernel_rfl) (fun _ _ _ h => h) (Or.inl ⟨by rfl, ?_⟩) (by assumption) ?_
            · intro w hSw; (try dsimp only at hSw); go_simp
            (try simp only [Act.put, List.setIfInBounds_toArray, List.set_cons_zero, List.set_cons_succ])
            refine wpAnyH_take (i := 9) (oi := ({ dst := some 31, op := Op.binOp BinOp.add 3 (Operand.tmp 29) (Operand.tmp 30) 3, type := 3, pos := "log.go:75", after := #[{ on := 7, ground := Ground.data }, { on := 8, ground := Ground.data }], guard := none } : Oper)) (v := .int .i64 ((lg.frm : Int) + (k : Int))) rfl (by kernel_rfl) (by kernel_rfl) (by kernel_rfl) (fun _ _ _ h => h) (Or.inl ⟨by rfl, ?_⟩) (by assumption) ?_
            · intro w hSw; (try dsimp only at hSw); go_simp; exact wrap_id (by omega) (by omega)
            (try simp only [Act.put, List.setIfInBounds_toArray, List.set_cons_zero, List.set_cons_succ])
            refine wpAnyH_ready (rs := [10]) (by kernel_rfl) (by simp) ?_
            refine AllReadyH.cons (o := ({ dst := some 32, op := Op.call { callee := Callee.value (Operand.func 25), args := #[Operand.tmp 25, Operand.tmp 31], argTypes := #[25, 3] }, type := 69, pos := "log.go:75", after := #[{ on := 3, ground := Ground.data }, { on := 9, ground := Ground.data }], guard := none } : Oper)) rfl (fun K hK => ?_) AllReadyH.nil
            rw [if_pos (by rfl)]
            go_wp2_with fail
            refine hrd.mono ?_
            rintro e wn ⟨rfl, hwn⟩
            rw [hwn]
            clear hrd hwn wn
            go_wp2_with fail
            refine hK.out _ _ ?_ (fun hHeld => ?_)
            · exact ⟨c0, c1⟩
            clear hK K
            (try simp only [Act.put, List.setIfInBounds_toArray, List.set_cons_zero, List.set_cons_succ])
            refine wpAnyH_take (i := 11) (oi := ({ dst := some 21, op := Op.move (Operand.tmp 32), type := 69, pos := "log.go:75", after := #[{ on := 10, ground := Ground.data }], guard := none } : Oper)) (v := .tuple #[.string (ss), .nilIface]) rfl (by kernel_rfl) (by kernel_rfl) (by kernel_rfl) (fun _ _ _ h => h) (Or.inl ⟨by rfl, ?_⟩) (by assumption) ?_
            · intro w hSw; (try dsimp only at hSw); go_simp
            (try simp only [Act.put, List.setIfInBounds_toArray, List.set_cons_zero, List.set_cons_succ])
            refine wpAnyH_take (i := 12) (oi := ({ dst := some 33, op := Op.extract (Operand.tmp 21) 0, type := 9, pos := "log.go:75", after := #[{ on := 11, ground := Ground.data }], guard := none } : Oper)) (v := .string (ss)) rfl (by kernel_rfl) (by kernel_rfl) (by kernel_rfl) (fun _ _ _ h => h) (Or.inl ⟨by rfl, ?_⟩) (by assumption) ?_
            · intro w hSw; (try dsimp only at hSw); go_simp
            (try simp only [Act.put, List.setIfInBounds_toArray, List.set_cons_zero, List.set_cons_succ])
            refine wpAnyH_take (i := 13) (oi := ({ dst := some 34, op := Op.extract (Operand.tmp 21) 1, type := 27, pos := "log.go:75", after := #[{ on := 11, ground := Ground.data }, { on := 14, ground := Ground.gcOnly Departure.lateStores }], guard := none } : Oper)) (v := .nilIface) rfl (by kernel_rfl) (by kernel_rfl) (by kernel_rfl) (fun _ _ _ h => h) (Or.inl ⟨by rfl, ?_⟩) (by assumption) ?_
            · intro w hSw; (try dsimp only at hSw); go_simp
            (try simp only [Act.put, List.setIfInBounds_toArray, List.set_cons_zero, List.set_cons_succ])
            refine wpAnyH_take (i := 14) (oi := ({ dst := some 7, op := Op.assign (Operand.tmp 33), type := 9, pos := "log.go:75", after := #[{ on := 12, ground := Ground.data }, { on := 10, ground := Ground.chain }, { on := 0, ground := Ground.phase }, { on := 1, ground := Ground.phase }, { on := 2, ground := Ground.phase }, { on := 3, ground := Ground.phase }, { on := 4, ground := Ground.phase }, { on := 5, ground := Ground.phase }, { on := 6, ground := Ground.phase }, { on := 7, ground := Ground.phase }, { on := 8, ground := Ground.phase }, { on := 9, ground := Ground.phase }, { on := 10, ground := Ground.phase }, { on := 11, ground := Ground.phase }, { on := 12, ground := Ground.phase }, { on := 13, ground := Ground.textOnly Departure.lateStores }], guard := none } : Oper)) (v := .string (ss)) rfl (by kernel_rfl) (by kernel_rfl) (by kernel_rfl) (fun _ _ _ h => h) (Or.inl ⟨by rfl, ?_⟩) (by assumption) ?_
            · intro w hSw; (try dsimp only at hSw); go_simp
            (try simp only [Act.put, List.setIfInBounds_toArray, List.set_cons_zero, List.set_cons_succ])
            refine wpAnyH_take (i := 15) (oi := ({ dst := some 8, op := Op.assign (Operand.tmp 34), type := 27, pos := "log.go:75", after := #[{ on := 13, ground := Ground.data }, { on := 14, ground := Ground.chain }, { on := 0, ground := Ground.phase }, { on := 1, ground := Ground.phase }, { on := 2, ground := Ground.phase }, { on := 3, ground := Ground.phase }, { on := 4, ground := Ground.phase }, { on := 5, ground := Ground.phase }, { on := 6, ground := Ground.phase }, { on := 7, ground := Ground.phase }, { on := 8, ground := Ground.phase }, { on := 9, ground := Ground.phase }, { on := 10, ground := Ground.phase }, { on := 11, ground := Ground.phase }, { on := 12, ground := Ground.phase }, { on := 13, ground := Ground.phase }, { on := 14, ground := Ground.phase }], guard := none } : Oper)) (v := .nilIface) rfl (by kernel_rfl) (by kernel_rfl) (by kernel_rfl) (fun _ _ _ h => h) (Or.inl ⟨by rfl, ?_⟩) (by assumption) ?_
            · intro w hSw; (try dsimp only at hSw); go_simp
            (try simp only [Act.put, List.setIfInBounds_toArray, List.set_cons_zero, List.set_cons_succ])
            refine wpAnyH_done (by kernel_rfl) ?_ _
            have hI2 := hI.below (below_drewN (Below.refl _ _) 1)
            change RdI w wr.drew _ _ _ _ _ _ _ _ _ at hI2
            clear hI c0 c1 c2 c3
            generalize wr.drew = w1 at *
            obtain ⟨-, -, -, c3, -⟩ := hI2.lga.cells
            have hqlt := heap_lt hI2.lga
            have hpa := hpa w1
            go_wp2_with fail
            refine hpa.mono ?_
            rintro e w2 ⟨rfl, hb2⟩
            clear hpa c3 hqlt
            have hI3 := hI2.below hb2
            clear hI2 hb2
            have hrp := hrp w2
            go_wp2_with fail
            refine hrp.mono ?_
            rintro e w3 ⟨rfl, hb3⟩
            clear hrp
            have hI4 := ((hI3.below hb3).below ((Below.refl _ _).alloc (Nat.le_refl _) (.cells #[.string c.key, .string c.val, .bool c.gone] 61))).below ((Below.refl _ _).alloc (Nat.le_refl _) (.cells #[.string c.key, .string c.val, .bool c.gone] 61))
            have hg4 : ((w3.alloc (.cells #[.string c.key, .string c.val, .bool c.gone] 61)).alloc (.cells #[.string c.key, .string c.val, .bool c.gone] 61)).heap[w3.heap.size + 1]? = some (.cells (chC c).toArray 61 (0, 0)) := by
              have := heap_alloc_last (w3.alloc (.cells #[.string c.key, .string c.val, .bool c.gone] 61)) (.cells #[.string c.key, .string c.val, .bool c.gone] 61)
              rw [sz_alloc] at this
              exact this
            obtain ⟨vo', w5, r1, r2, r3, r5⟩ := run_app 36 61 36 Tryd.underlying36 infoCh rfl (by decide) (by decide) hI4.oo (by omega) (Nat.le_trans hI4.tr.size (Nat.le_refl _)) (news := chC c) rfl (chC_one c) (w3.heap.size + 1) hg4
            have hI5 := hI4.opened hcs r2 r3 r5
            clear hI3 hg4 r2 r3 r5
            go_wp2_with (refine wpList_run (by rfl) (exec_append _ _ _ _ (by rfl) (by rfl) (by rfl) (by rfl) (by rfl) (by rfl) r1) ?_)
            go_roundw
            case rel => exact ⟨k + 1, ⟨st.deeds, st.opn ++ [c], st.used⟩, cd, by omega, by go_num, HRe, by simp; omega, by dsimp only; omega, hI5⟩
            case measure => simp [intOf]; omega
        · rw [show ((99 : UInt8).toNat : Int) = 99 from rfl] at hpa
          obtain ⟨ao, co, hvo⟩ := own_form hI.oo
          subst hvo
          have hct := fun W => count_any ao st.opn.length co W (by omega)
          by_cases hT : tt = leL st.opn.length 4
          · have hRe : R = rdLog lg.first (((d.now.drop lg.frm).take lg.many).drop (k + 1)) (k + 1) ⟨st.deeds ++ [st.opn], [], k + 1⟩ := by
              have := HR.out
              rwa [rd_some hdr (by unfold lstep; rw [hP]; simp [hT]; rfl)] at this
            have HRe : Hid (_ = _) := hRe
            have hteq : strOf tt = leB st.opn.length 4 := by rw [hT]; rfl
            rw [hteq] at hpa
            clear hP hdr HR hRe hT hteq
            generalize leB st.opn.length 4 = ts at *
            generalize strOf sl = ss at *
            go_wp2_with fail
            refine wp_region_held_drew (S := fun w' => w'.cell? ⟨q, 0, none⟩ = some (.pointer (some ⟨p, 0, none⟩)) ∧ w'.cell? ⟨q, 1, none⟩ = some (.int .i64 (lg.frm : Int))) (by kernel_rfl) ?_ (fun hHeld => ?_)
            · exact ⟨c0, c1⟩
            refine wpAnyH_take (i := 0) (oi := ({ dst := some 22, op := Op.move (Operand.tmp 0), type := 77, pos := "log.go:75", after := #[], guard := none } : Oper)) (v := .pointer (some ⟨q, 0, none⟩)) rfl (by kernel_rfl) (by kernel_rfl) (by kernel_rfl) (fun _ _ _ h => h) (Or.inl ⟨by rfl, ?_⟩) (by assumption) ?_
            · intro w hSw; (try dsimp only at hSw); go_simp
            (try simp only [Act.put, List.setIfInBounds_toArray, List.set_cons_zero, List.set_cons_succ])
            refine wpAnyH_take (i := 1) (oi := ({ dst := some 23, op := Op.nilCheck (Operand.tmp 22), type := 0, pos := "log.go:75", after := #[{ on := 0, ground := Ground.data }], guard := none } : Oper)) (v := .pointer (some ⟨q, 0, none⟩)) rfl (by kernel_rfl) (by kernel_rfl) (by kernel_rfl) (fun _ _ _ h => h) (Or.inl ⟨by rfl, ?_⟩) (by assumption) ?_
            · intro w hSw; (try dsimp only at hSw); go_simp
            (try simp only [Act.put, List.setIfInBounds_toArray, List.set_cons_zero, List.set_cons_succ])
            refine wpAnyH_take (i := 2) (oi := ({ dst := some 24, op := Op.fieldAddr 110 (Operand.tmp 23) 0, type := 0, pos := "log.go:75", after := #[{ on := 1, ground := Ground.data }], guard := none } : Oper)) (v := .pointer (some ⟨q, 0, none⟩)) rfl (by kernel_rfl) (by kernel_rfl) (by kernel_rfl) (fun _ _ _ h => h) (Or.inl ⟨by rfl, ?_⟩) (by assumption) ?_
            · intro w hSw; (try dsimp only at hSw); go_simp
            (try simp only [Act.put, List.setIfInBounds_toArray, List.set_cons_zero, List.set_cons_succ])
            refine wpAnyH_take (i := 3) (oi := ({ dst := some 25, op := Op.load 25 (Operand.tmp 24), type := 25, pos := "log.go:75", after := #[{ on := 2, ground := Ground.data }], guard := none } : Oper)) (v := .pointer (some ⟨p, 0, none⟩)) rfl (by kernel_rfl) (by kernel_rfl) (by kernel_rfl) (fun _ _ _ h => h) (Or.inl ⟨by rfl, ?_⟩) (by assumption) ?_
            · intro w hSw; (try dsimp only at hSw); go_simp
            (try simp only [Act.put, List.setIfInBounds_toArray, List.set_cons_zero, List.set_cons_succ])
            refine wpAnyH_take (i := 4) (oi := ({ dst := some 26, op := Op.move (Operand.tmp 0), type := 77, pos := "log.go:75", after := #[], guard := none } : Oper)) (v := .pointer (some ⟨q, 0, none⟩)) rfl (by kernel_rfl) (by kernel_rfl) (by kernel_rfl) (fun _ _ _ h => h) (Or.inl ⟨by rfl, ?_⟩) (by assumption) ?_
            · intro w hSw; (try dsimp only at hSw); go_simp
            (try simp only [Act.put, List.setIfInBounds_toArray, List.set_cons_zero, List.set_cons_succ])
            refine wpAnyH_take (i := 5) (oi := ({ dst := some 27, op := Op.nilCheck (Operand.tmp 26), type := 0, pos := "log.go:75", after := #[{ on := 4, ground := Ground.data }], guard := none } : Oper)) (v := .pointer (some ⟨q, 0, none⟩)) rfl (by kernel_rfl) (by kernel_rfl) (by kernel_rfl) (fun _ _ _ h => h) (Or.inl ⟨by rfl, ?_⟩) (by assumption) ?_
            · intro w hSw; (try dsimp only at hSw); go_simp
            (try simp only [Act.put, List.setIfInBounds_toArray, List.set_cons_zero, List.set_cons_succ])
            refine wpAnyH_take (i := 6) (oi := ({ dst := some 28, op := Op.fieldAddr 110 (Operand.tmp 27) 1, type := 0, pos := "log.go:75", after := #[{ on := 5, ground := Ground.data }], guard := none } : Oper)) (v := .pointer (some ⟨q, 1, none⟩)) rfl (by kernel_rfl) (by kernel_rfl) (by kernel_rfl) (fun _ _ _ h => h) (Or.inl ⟨by rfl, ?_⟩) (by assumption) ?_
            · intro w hSw; (try dsimp only at hSw); go_simp
            (try simp only [Act.put, List.setIfInBounds_toArray, List.set_cons_zero, List.set_cons_succ])
            refine wpAnyH_take (i := 7) (oi := ({ dst := some 29, op := Op.load 3 (Operand.tmp 28), type := 3, pos := "log.go:75", after := #[{ on := 6, ground := Ground.data }], guard := none } : Oper)) (v := .int .i64 (lg.frm : Int)) rfl (by kernel_rfl) (by kernel_rfl) (by kernel_rfl) (fun _ _ _ h => h) (Or.inl ⟨by rfl, ?_⟩) (by assumption) ?_
            · intro w hSw; (try dsimp only at hSw); go_simp
            (try simp only [Act.put, List.setIfInBounds_toArray, List.set_cons_zero, List.set_cons_succ])
            refine wpAnyH_take (i := 8) (oi := ({ dst := some 30, op := Op.move (Operand.tmp 6), type := 3, pos := "log.go:75", after := #[], guard := none } : Oper)) (v := .int .i64 (k : Int)) rfl (by kernel_rfl) (by kernel_rfl) (by kernel_rfl) (fun _ _ _ h => h) (Or.inl ⟨by rfl, ?_⟩) (by assumption) ?_
            · intro w hSw; (try dsimp only at hSw); go_simp
            (try simp only [Act.put, List.setIfInBounds_toArray, List.set_cons_zero, List.set_cons_succ])
            refine wpAnyH_take (i := 9) (oi := ({ dst := some 31, op := Op.binOp BinOp.add 3 (Operand.tmp 29) (Operand.tmp 30) 3, type := 3, pos := "log.go:75", after := #[{ on := 7, ground := Ground.data }, { on := 8, ground := Ground.data }], guard := none } : Oper)) (v := .int .i64 ((lg.frm : Int) + (k : Int))) rfl (by kernel_rfl) (by kernel_rfl) (by kernel_rfl) (fun _ _ _ h => h) (Or.inl ⟨by rfl, ?_⟩) (by assumption) ?_
            · intro w hSw; (try dsimp only at hSw); go_simp; exact wrap_id (by omega) (by omega)
            (try simp only [Act.put, List.setIfInBounds_toArray, List.set_cons_zero, List.set_cons_succ])
            refine wpAnyH_ready (rs := [10]) (by kernel_rfl) (by simp) ?_
            refine AllReadyH.cons (o := ({ dst := some 32, op := Op.call { callee := Callee.value (Operand.func 25), args := #[Operand.tmp 25, Operand.tmp 31], argTypes := #[25, 3] }, type := 69, pos := "log.go:75", after := #[{ on := 3, ground := Ground.data }, { on := 9, ground := Ground.data }], guard := none } : Oper)) rfl (fun K hK => ?_) AllReadyH.nil
            rw [if_pos (by rfl)]
            go_wp2_with fail
            refine hrd.mono ?_
            rintro e wn ⟨rfl, hwn⟩
            rw [hwn]
            clear hrd hwn wn
            go_wp2_with fail
            refine hK.out _ _ ?_ (fun hHeld => ?_)
            · exact ⟨c0, c1⟩
            clear hK K
            (try simp only [Act.put, List.setIfInBounds_toArray, List.set_cons_zero, List.set_cons_succ])
            refine wpAnyH_take (i := 11) (oi := ({ dst := some 21, op := Op.move (Operand.tmp 32), type := 69, pos := "log.go:75", after := #[{ on := 10, ground := Ground.data }], guard := none } : Oper)) (v := .tuple #[.string (ss), .nilIface]) rfl (by kernel_rfl) (by kernel_rfl) (by kernel_rfl) (fun _ _ _ h => h) (Or.inl ⟨by rfl, ?_⟩) (by assumption) ?_
            · intro w hSw; (try dsimp only at hSw); go_simp
            (try simp only [Act.put, List.setIfInBounds_toArray, List.set_cons_zero, List.set_cons_succ])
            refine wpAnyH_take (i := 12) (oi := ({ dst := some 33, op := Op.extract (Operand.tmp 21) 0, type := 9, pos := "log.go:75", after := #[{ on := 11, ground := Ground.data }], guard := none } : Oper)) (v := .string (ss)) rfl (by kernel_rfl) (by kernel_rfl) (by kernel_rfl) (fun _ _ _ h => h) (Or.inl ⟨by rfl, ?_⟩) (by assumption) ?_
            · intro w hSw; (try dsimp only at hSw); go_simp
            (try simp only [Act.put, List.setIfInBounds_toArray, List.set_cons_zero, List.set_cons_succ])
            refine wpAnyH_take (i := 13) (oi := ({ dst := some 34, op := Op.extract (Operand.tmp 21) 1, type := 27, pos := "log.go:75", after := #[{ on := 11, ground := Ground.data }, { on := 14, ground := Ground.gcOnly Departure.lateStores }], guard := none } : Oper)) (v := .nilIface) rfl (by kernel_rfl) (by kernel_rfl) (by kernel_rfl) (fun _ _ _ h => h) (Or.inl ⟨by rfl, ?_⟩) (by assumption) ?_
            · intro w hSw; (try dsimp only at hSw); go_simp
            (try simp only [Act.put, List.setIfInBounds_toArray, List.set_cons_zero, List.set_cons_succ])
            refine wpAnyH_take (i := 14) (oi := ({ dst := some 7, op := Op.assign (Operand.tmp 33), type := 9, pos := "log.go:75", after := #[{ on := 12, ground := Ground.data }, { on := 10, ground := Ground.chain }, { on := 0, ground := Ground.phase }, { on := 1, ground := Ground.phase }, { on := 2, ground := Ground.phase }, { on := 3, ground := Ground.phase }, { on := 4, ground := Ground.phase }, { on := 5, ground := Ground.phase }, { on := 6, ground := Ground.phase }, { on := 7, ground := Ground.phase }, { on := 8, ground := Ground.phase }, { on := 9, ground := Ground.phase }, { on := 10, ground := Ground.phase }, { on := 11, ground := Ground.phase }, { on := 12, ground := Ground.phase }, { on := 13, ground := Ground.textOnly Departure.lateStores }], guard := none } : Oper)) (v := .string (ss)) rfl (by kernel_rfl) (by kernel_rfl) (by kernel_rfl) (fun _ _ _ h => h) (Or.inl ⟨by rfl, ?_⟩) (by assumption) ?_
            · intro w hSw; (try dsimp only at hSw); go_simp
            (try simp only [Act.put, List.setIfInBounds_toArray, List.set_cons_zero, List.set_cons_succ])
            refine wpAnyH_take (i := 15) (oi := ({ dst := some 8, op := Op.assign (Operand.tmp 34), type := 27, pos := "log.go:75", after := #[{ on := 13, ground := Ground.data }, { on := 14, ground := Ground.chain }, { on := 0, ground := Ground.phase }, { on := 1, ground := Ground.phase }, { on := 2, ground := Ground.phase }, { on := 3, ground := Ground.phase }, { on := 4, ground := Ground.phase }, { on := 5, ground := Ground.phase }, { on := 6, ground := Ground.phase }, { on := 7, ground := Ground.phase }, { on := 8, ground := Ground.phase }, { on := 9, ground := Ground.phase }, { on := 10, ground := Ground.phase }, { on := 11, ground := Ground.phase }, { on := 12, ground := Ground.phase }, { on := 13, ground := Ground.phase }, { on := 14, ground := Ground.phase }], guard := none } : Oper)) (v := .nilIface) rfl (by kernel_rfl) (by kernel_rfl) (by kernel_rfl) (fun _ _ _ h => h) (Or.inl ⟨by rfl, ?_⟩) (by assumption) ?_
            · intro w hSw; (try dsimp only at hSw); go_simp
            (try simp only [Act.put, List.setIfInBounds_toArray, List.set_cons_zero, List.set_cons_succ])
            refine wpAnyH_done (by kernel_rfl) ?_ _
            have hI2 := hI.below (below_drewN (Below.refl _ _) 1)
            change RdI w wr.drew _ _ _ _ _ _ _ _ _ at hI2
            clear hI c0 c1 c2 c3
            generalize wr.drew = w1 at *
            obtain ⟨-, -, -, c3, -⟩ := hI2.lga.cells
            have hqlt := heap_lt hI2.lga
            have hpa := hpa w1
            go_wp2_with fail
            refine hpa.mono ?_
            rintro e w2 ⟨rfl, hb2⟩
            clear hpa c3 hqlt
            have hI3 := hI2.below hb2
            clear hI2 hb2
            have hct := hct w2
            go_wp2_with fail
            refine hct.mono ?_
            rintro e w3 ⟨rfl, hb3⟩
            clear hct
            have hI4 := ((hI3.below hb3).below ((Below.refl _ _).alloc (Nat.le_refl _) (.cells #[.slice ao st.opn.length co] 36)))
            have hg4 := heap_alloc_last w3 (.cells #[.slice ao st.opn.length co] 36)
            obtain ⟨vd', w5, r1, r2, r3, r5⟩ := run_app 51 36 51 Tryd.underlying51 infoLC rfl (by decide) (by decide) hI4.od (by omega) (Nat.le_trans hI4.tr.size (Nat.le_refl _)) (news := [.slice ao st.opn.length co]) rfl (by intro u hu; simp at hu; rw [hu]; rfl) w3.heap.size hg4
            have hI5 := hI4.closed rfl r2 r3 r5 (k + 1)
            have hL5 := (hI4.disk_row r3 (fun k hk => (hI4.od.lt k hk).1)).2.1
            obtain ⟨-, -, -, -, e4⟩ := hL5.cells
            have f4 := hL5.free 4
            have hq5 := heap_lt hL5
            have hcst : ((k + 1 : Nat) : Int) = (k : Int) + 1 := by omega
            rw [hcst] at hI5
            clear hI3 hI4 hg4 r2 r3 r5 hL5
            go_wp2_with (refine wpList_run (by rfl) (exec_append _ _ _ _ (by rfl) (by rfl) (by rfl) (by rfl) (by rfl) (by rfl) r1) ?_)
            go_roundw
            case rel => exact ⟨k + 1, _, _, by omega, by go_num, HRe, by simp, by simp; omega, hI5⟩
            case measure => simp [intOf]; omega
          · have hRe : R = st := by
              have := HR.out
              rwa [rd_none hdr (by unfold lstep; rw [hP]; simp [hT])] at this
            have hne : ¬ strOf tt = leB st.opn.length 4 := fun e => hT (by have := congrArg (fun s => s.data.toList) e; simpa [leB, str_data] using this)
            have hbl := bal hne
            clear hP hdr HR hT hne
            subst hRe
            generalize leB R.opn.length 4 = ts at *
            generalize strOf tt = tx at *
            generalize strOf sl = ss at *
            go_wp2_with fail
            refine wp_region_held_drew (S := fun w' => w'.cell? ⟨q, 0, none⟩ = some (.pointer (some ⟨p, 0, none⟩)) ∧ w'.cell? ⟨q, 1, none⟩ = some (.int .i64 (lg.frm : Int))) (by kernel_rfl) ?_ (fun hHeld => ?_)
            · exact ⟨c0, c1⟩
            refine wpAnyH_take (i := 0) (oi := ({ dst := some 22, op := Op.move (Operand.tmp 0), type := 77, pos := "log.go:75", after := #[], guard := none } : Oper)) (v := .pointer (some ⟨q, 0, none⟩)) rfl (by kernel_rfl) (by kernel_rfl) (by kernel_rfl) (fun _ _ _ h => h) (Or.inl ⟨by rfl, ?_⟩) (by assumption) ?_
            · intro w hSw; (try dsimp only at hSw); go_simp
            (try simp only [Act.put, List.setIfInBounds_toArray, List.set_cons_zero, List.set_cons_succ])
            refine wpAnyH_take (i := 1) (oi := ({ dst := some 23, op := Op.nilCheck (Operand.tmp 22), type := 0, pos := "log.go:75", after := #[{ on := 0, ground := Ground.data }], guard := none } : Oper)) (v := .pointer (some ⟨q, 0, none⟩)) rfl (by kernel_rfl) (by kernel_rfl) (by kernel_rfl) (fun _ _ _ h => h) (Or.inl ⟨by rfl, ?_⟩) (by assumption) ?_
            · intro w hSw; (try dsimp only at hSw); go_simp
            (try simp only [Act.put, List.setIfInBounds_toArray, List.set_cons_zero, List.set_cons_succ])
            refine wpAnyH_take (i := 2) (oi := ({ dst := some 24, op := Op.fieldAddr 110 (Operand.tmp 23) 0, type := 0, pos := "log.go:75", after := #[{ on := 1, ground := Ground.data }], guard := none } : Oper)) (v := .pointer (some ⟨q, 0, none⟩)) rfl (by kernel_rfl) (by kernel_rfl) (by kernel_rfl) (fun _ _ _ h => h) (Or.inl ⟨by rfl, ?_⟩) (by assumption) ?_
            · intro w hSw; (try dsimp only at hSw); go_simp
            (try simp only [Act.put, List.setIfInBounds_toArray, List.set_cons_zero, List.set_cons_succ])
            refine wpAnyH_take (i := 3) (oi := ({ dst := some 25, op := Op.load 25 (Operand.tmp 24), type := 25, pos := "log.go:75", after := #[{ on := 2, ground := Ground.data }], guard := none } : Oper)) (v := .pointer (some ⟨p, 0, none⟩)) rfl (by kernel_rfl) (by kernel_rfl) (by kernel_rfl) (fun _ _ _ h => h) (Or.inl ⟨by rfl, ?_⟩) (by assumption) ?_
            · intro w hSw; (try dsimp only at hSw); go_simp
            (try simp only [Act.put, List.setIfInBounds_toArray, List.set_cons_zero, List.set_cons_succ])
            refine wpAnyH_take (i := 4) (oi := ({ dst := some 26, op := Op.move (Operand.tmp 0), type := 77, pos := "log.go:75", after := #[], guard := none } : Oper)) (v := .pointer (some ⟨q, 0, none⟩)) rfl (by kernel_rfl) (by kernel_rfl) (by kernel_rfl) (fun _ _ _ h => h) (Or.inl ⟨by rfl, ?_⟩) (by assumption) ?_
            · intro w hSw; (try dsimp only at hSw); go_simp
            (try simp only [Act.put, List.setIfInBounds_toArray, List.set_cons_zero, List.set_cons_succ])
            refine wpAnyH_take (i := 5) (oi := ({ dst := some 27, op := Op.nilCheck (Operand.tmp 26), type := 0, pos := "log.go:75", after := #[{ on := 4, ground := Ground.data }], guard := none } : Oper)) (v := .pointer (some ⟨q, 0, none⟩)) rfl (by kernel_rfl) (by kernel_rfl) (by kernel_rfl) (fun _ _ _ h => h) (Or.inl ⟨by rfl, ?_⟩) (by assumption) ?_
            · intro w hSw; (try dsimp only at hSw); go_simp
            (try simp only [Act.put, List.setIfInBounds_toArray, List.set_cons_zero, List.set_cons_succ])
            refine wpAnyH_take (i := 6) (oi := ({ dst := some 28, op := Op.fieldAddr 110 (Operand.tmp 27) 1, type := 0, pos := "log.go:75", after := #[{ on := 5, ground := Ground.data }], guard := none } : Oper)) (v := .pointer (some ⟨q, 1, none⟩)) rfl (by kernel_rfl) (by kernel_rfl) (by kernel_rfl) (fun _ _ _ h => h) (Or.inl ⟨by rfl, ?_⟩) (by assumption) ?_
            · intro w hSw; (try dsimp only at hSw); go_simp
            (try simp only [Act.put, List.setIfInBounds_toArray, List.set_cons_zero, List.set_cons_succ])
            refine wpAnyH_take (i := 7) (oi := ({ dst := some 29, op := Op.load 3 (Operand.tmp 28), type := 3, pos := "log.go:75", after := #[{ on := 6, ground := Ground.data }], guard := none } : Oper)) (v := .int .i64 (lg.frm : Int)) rfl (by kernel_rfl) (by kernel_rfl) (by kernel_rfl) (fun _ _ _ h => h) (Or.inl ⟨by rfl, ?_⟩) (by assumption) ?_
            · intro w hSw; (try dsimp only at hSw); go_simp
            (try simp only [Act.put, List.setIfInBounds_toArray, List.set_cons_zero, List.set_cons_succ])
            refine wpAnyH_take (i := 8) (oi := ({ dst := some 30, op := Op.move (Operand.tmp 6), type := 3, pos := "log.go:75", after := #[], guard := none } : Oper)) (v := .int .i64 (k : Int)) rfl (by kernel_rfl) (by kernel_rfl) (by kernel_rfl) (fun _ _ _ h => h) (Or.inl ⟨by rfl, ?_⟩) (by assumption) ?_
            · intro w hSw; (try dsimp only at hSw); go_simp
            (try simp only [Act.put, List.setIfInBounds_toArray, List.set_cons_zero, List.set_cons_succ])
            refine wpAnyH_take (i := 9) (oi := ({ dst := some 31, op := Op.binOp BinOp.add 3 (Operand.tmp 29) (Operand.tmp 30) 3, type := 3, pos := "log.go:75", after := #[{ on := 7, ground := Ground.data }, { on := 8, ground := Ground.data }], guard := none } : Oper)) (v := .int .i64 ((lg.frm : Int) + (k : Int))) rfl (by kernel_rfl) (by kernel_rfl) (by kernel_rfl) (fun _ _ _ h => h) (Or.inl ⟨by rfl, ?_⟩) (by assumption) ?_
            · intro w hSw; (try dsimp only at hSw); go_simp; exact wrap_id (by omega) (by omega)
            (try simp only [Act.put, List.setIfInBounds_toArray, List.set_cons_zero, List.set_cons_succ])
            refine wpAnyH_ready (rs := [10]) (by kernel_rfl) (by simp) ?_
            refine AllReadyH.cons (o := ({ dst := some 32, op := Op.call { callee := Callee.value (Operand.func 25), args := #[Operand.tmp 25, Operand.tmp 31], argTypes := #[25, 3] }, type := 69, pos := "log.go:75", after := #[{ on := 3, ground := Ground.data }, { on := 9, ground := Ground.data }], guard := none } : Oper)) rfl (fun K hK => ?_) AllReadyH.nil
            rw [if_pos (by rfl)]
            go_wp2_with fail
            refine hrd.mono ?_
            rintro e wn ⟨rfl, hwn⟩
            rw [hwn]
            clear hrd hwn wn
            go_wp2_with fail
            refine hK.out _ _ ?_ (fun hHeld => ?_)
            · exact ⟨c0, c1⟩
            clear hK K
            (try simp only [Act.put, List.setIfInBounds_toArray, List.set_cons_zero, List.set_cons_succ])
            refine wpAnyH_take (i := 11) (oi := ({ dst := some 21, op := Op.move (Operand.tmp 32), type := 69, pos := "log.go:75", after := #[{ on := 10, ground := Ground.data }], guard := none } : Oper)) (v := .tuple #[.string (ss), .nilIface]) rfl (by kernel_rfl) (by kernel_rfl) (by kernel_rfl) (fun _ _ _ h => h) (Or.inl ⟨by rfl, ?_⟩) (by assumption) ?_
            · intro w hSw; (try dsimp only at hSw); go_simp
            (try simp only [Act.put, List.setIfInBounds_toArray, List.set_cons_zero, List.set_cons_succ])
            refine wpAnyH_take (i := 12) (oi := ({ dst := some 33, op := Op.extract (Operand.tmp 21) 0, type := 9, pos := "log.go:75", after := #[{ on := 11, ground := Ground.data }], guard := none } : Oper)) (v := .string (ss)) rfl (by kernel_rfl) (by kernel_rfl) (by kernel_rfl) (fun _ _ _ h => h) (Or.inl ⟨by rfl, ?_⟩) (by assumption) ?_
            · intro w hSw; (try dsimp only at hSw); go_simp
            (try simp only [Act.put, List.setIfInBounds_toArray, List.set_cons_zero, List.set_cons_succ])
            refine wpAnyH_take (i := 13) (oi := ({ dst := some 34, op := Op.extract (Operand.tmp 21) 1, type := 27, pos := "log.go:75", after := #[{ on := 11, ground := Ground.data }, { on := 14, ground := Ground.gcOnly Departure.lateStores }], guard := none } : Oper)) (v := .nilIface) rfl (by kernel_rfl) (by kernel_rfl) (by kernel_rfl) (fun _ _ _ h => h) (Or.inl ⟨by rfl, ?_⟩) (by assumption) ?_
            · intro w hSw; (try dsimp only at hSw); go_simp
            (try simp only [Act.put, List.setIfInBounds_toArray, List.set_cons_zero, List.set_cons_succ])
            refine wpAnyH_take (i := 14) (oi := ({ dst := some 7, op := Op.assign (Operand.tmp 33), type := 9, pos := "log.go:75", after := #[{ on := 12, ground := Ground.data }, { on := 10, ground := Ground.chain }, { on := 0, ground := Ground.phase }, { on := 1, ground := Ground.phase }, { on := 2, ground := Ground.phase }, { on := 3, ground := Ground.phase }, { on := 4, ground := Ground.phase }, { on := 5, ground := Ground.phase }, { on := 6, ground := Ground.phase }, { on := 7, ground := Ground.phase }, { on := 8, ground := Ground.phase }, { on := 9, ground := Ground.phase }, { on := 10, ground := Ground.phase }, { on := 11, ground := Ground.phase }, { on := 12, ground := Ground.phase }, { on := 13, ground := Ground.textOnly Departure.lateStores }], guard := none } : Oper)) (v := .string (ss)) rfl (by kernel_rfl) (by kernel_rfl) (by kernel_rfl) (fun _ _ _ h => h) (Or.inl ⟨by rfl, ?_⟩) (by assumption) ?_
            · intro w hSw; (try dsimp only at hSw); go_simp
            (try simp only [Act.put, List.setIfInBounds_toArray, List.set_cons_zero, List.set_cons_succ])
            refine wpAnyH_take (i := 15) (oi := ({ dst := some 8, op := Op.assign (Operand.tmp 34), type := 27, pos := "log.go:75", after := #[{ on := 13, ground := Ground.data }, { on := 14, ground := Ground.chain }, { on := 0, ground := Ground.phase }, { on := 1, ground := Ground.phase }, { on := 2, ground := Ground.phase }, { on := 3, ground := Ground.phase }, { on := 4, ground := Ground.phase }, { on := 5, ground := Ground.phase }, { on := 6, ground := Ground.phase }, { on := 7, ground := Ground.phase }, { on := 8, ground := Ground.phase }, { on := 9, ground := Ground.phase }, { on := 10, ground := Ground.phase }, { on := 11, ground := Ground.phase }, { on := 12, ground := Ground.phase }, { on := 13, ground := Ground.phase }, { on := 14, ground := Ground.phase }], guard := none } : Oper)) (v := .nilIface) rfl (by kernel_rfl) (by kernel_rfl) (by kernel_rfl) (fun _ _ _ h => h) (Or.inl ⟨by rfl, ?_⟩) (by assumption) ?_
            · intro w hSw; (try dsimp only at hSw); go_simp
            (try simp only [Act.put, List.setIfInBounds_toArray, List.set_cons_zero, List.set_cons_succ])
            refine wpAnyH_done (by kernel_rfl) ?_ _
            have hI2 := hI.below (below_drewN (Below.refl _ _) 1)
            change RdI w wr.drew _ _ _ _ _ _ _ _ _ at hI2
            clear hI c0 c1 c2 c3
            generalize wr.drew = w1 at *
            obtain ⟨-, -, -, c3, -⟩ := hI2.lga.cells
            have hqlt := heap_lt hI2.lga
            have hpa := hpa w1
            go_wp2_with fail
            refine hpa.mono ?_
            rintro e w2 ⟨rfl, hb2⟩
            clear hpa c3 hqlt
            have hI3 := hI2.below hb2
            clear hI2 hb2
            have hct := hct w2
            go_wp2_with fail
            refine hct.mono ?_
            rintro e w3 ⟨rfl, hb3⟩
            clear hct
            have hI4 := hI3.below hb3
            obtain ⟨a, c, hvd, hdd'⟩ := hI4.fin
            subst hvd
            go_wp2_with fail
            go_ret2
            exact ⟨a, c, rfl, hdd', hI4.lga, hI4.tr⟩
end Go.Proofs.YtikkakdeapbioaaDoor
