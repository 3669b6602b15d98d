/- realm.lostNotes, the closures of sweep and Revoke, sweep (E4), as the landed code has them. -/
import Derived.Test.YtddgpgldbekamaaGreatBox
import Derived.Test.YtddgpgldbekamaaGreatSweepA
import Derived.Test.YtddgpgldbekamaaGreatAddW
set_option linter.unusedSimpArgs false
set_option linter.unnecessarySimpa false
set_option linter.unusedVariables false
namespace Go.Proofs.YtddgpgldbekamaaGreat
open Go.RowKit Go.Shelf


/-! ### plain -/
theorem inB_things (ws : List Wr) (t : Int) : inB (thingsL ws) t = hasT ws t := by
  have key : t ∈ thingsL ws ↔ ∃ x ∈ ws, x.thing = t := by
    unfold thingsL
    generalize hz : (ws.map (·.thing)).mergeSort (fun x y => decide (x ≤ y)) = zs
    have hp : zs.Perm (ws.map (·.thing)) := by rw [← hz]; exact List.mergeSort_perm _ _
    have hsort : zs.Pairwise (fun x y => decide (x ≤ y) = true) := by
      rw [← hz]
      exact List.pairwise_mergeSort (fun a b c h1 h2 => by simp at *; omega) (fun a b => by simp; omega) _
    unfold Lib.compact
    have hs : ∀ i j, i < j → j < zs.toArray.size → zs.toArray[i]! ≤ zs.toArray[j]! := by
      intro i j hij hj
      have hj' : j < zs.length := by simpa using hj
      have := List.pairwise_iff_getElem.1 hsort i j (by omega) hj' hij
      have hi' : i < zs.length := by omega
      simpa [getElem!_pos, hi', hj'] using this
    obtain ⟨_, h2⟩ := comp_facts zs.toArray hs zs.length (by simp)
    rw [h2]
    constructor
    · rintro ⟨j, hj, rfl⟩
      have hm : zs.toArray[j]! ∈ ws.map (·.thing) := by
        refine hp.subset ?_
        simp [getElem!_pos, hj]
      obtain ⟨x, hx, e⟩ := List.mem_map.1 hm
      exact ⟨x, hx, e⟩
    · rintro ⟨x, hx, rfl⟩
      have hm : x.thing ∈ zs := hp.symm.subset (List.mem_map.2 ⟨x, hx, rfl⟩)
      obtain ⟨j, hj, e⟩ := List.getElem_of_mem hm
      exact ⟨j, hj, by simp [getElem!_pos, hj, e]⟩
  rw [Bool.eq_iff_iff]
  unfold inB hasT
  simp only [List.contains_iff_mem, List.any_eq_true, beq_iff_eq]
  exact key
theorem lost_eq (ws : List Wr) (ns : List Nt) : ns.filter (fun n => !inB (thingsL ws) n.port) = lostL ws ns := by
  unfold lostL
  congr 1
  funext n
  rw [inB_things]
theorem left_eq (ws : List Wr) (ns : List Nt) : ns.filter (fun n => !(lostL ws ns).any (sameN n)) = leftL ws ns := by
  unfold leftL
  apply List.filter_congr
  intro n hn
  cases h : hasT ws n.port with
  | true =>
    have : (lostL ws ns).any (sameN n) = false := by
      rw [List.any_eq_false]
      intro x hx hs
      unfold lostL at hx
      obtain ⟨_, hx2⟩ := List.mem_filter.1 hx
      rw [← sameN_port hs, h] at hx2
      cases hx2
    rw [this]; rfl
  | false =>
    have : (lostL ws ns).any (sameN n) = true := List.any_eq_true.2 ⟨n, by unfold lostL; rw [List.mem_filter]; exact ⟨hn, by rw [h]; rfl⟩, sameN_self n⟩
    rw [this]; rfl
theorem filt_two {α : Type} (p : α → Bool) (l : List α) : (l.filter (fun x => !p x)).length + (l.filter p).length = l.length := by
  induction l with
  | nil => rfl
  | cons x r ih => cases h : p x <;> simp [h] <;> omega
theorem left_lt {ws : List Wr} {ns : List Nt} (h : ¬ lostL ws ns = []) : (leftL ws ns).length < ns.length := by
  have h1 : (lostL ws ns).length + (leftL ws ns).length = ns.length := by unfold lostL leftL; exact filt_two (fun n : Nt => hasT ws n.port) ns
  have h2 : 0 < (lostL ws ns).length := List.length_pos_iff.2 h
  omega
theorem lost_le (ws : List Wr) (ns : List Nt) : (lostL ws ns).length ≤ ns.length := List.length_filter_le _ _
theorem left_le (ws : List Wr) (ns : List Nt) : (leftL ws ns).length ≤ ns.length := List.length_filter_le _ _
/-! ### addresses away from the boxes of the call -/
def OffA (n m : Nat) (a : Option Addr) : Prop := ∀ ad, a = some ad → (ad.block < n ∨ n + 1 < ad.block) ∧ ¬ ad.block = m
def Boxy (n m b : Nat) : Prop := b = n ∨ b = n + 1 ∨ b = m
theorem off_ne {n m b g : Nat} {o : Nat} (h : OffA n m (some ⟨g, o, none⟩)) (hb : Boxy n m b) : ¬ b = g := by
  have h' := h _ rfl
  have h1 : g < n ∨ n + 1 < g := h'.1
  have h2 : ¬ g = m := h'.2
  rcases hb with rfl | rfl | rfl <;> omega
theorem WrsAt.setOff {w : World} {n m b : Nat} {a : Option Addr} {l : List Wr} (h : WrsAt w a l) (ho : l = [] ∨ OffA n m a) (hb : Boxy n m b) (j : Nat) (u : Value) : WrsAt (w.setCell ⟨b, j, none⟩ u) a l := by
  rcases h with h | ⟨g, o, rfl, hg, hc⟩
  · exact .inl h
  · rcases ho with ho | ho
    · exact .inl ho
    · have key : ∀ k, (w.setCell ⟨b, j, none⟩ u).cell? ⟨g, k, none⟩ = w.cell? ⟨g, k, none⟩ := fun k => World.cell?_setCell_other _ _ _ _ (by simpa using fun e => absurd e (off_ne ho hb))
      refine .inr ⟨g, o, rfl, by simpa using hg, fun i x hx => ?_⟩
      obtain ⟨h1, h2, h3, h4, h5⟩ := hc i x hx
      exact ⟨by rw [key]; exact h1, by rw [key]; exact h2, by rw [key]; exact h3, by rw [key]; exact h4, by rw [key]; exact h5⟩
theorem NtsAt.setOff {w : World} {n m b : Nat} {a : Option Addr} {l : List Nt} (h : NtsAt w a l) (ho : l = [] ∨ OffA n m a) (hb : Boxy n m b) (j : Nat) (u : Value) : NtsAt (w.setCell ⟨b, j, none⟩ u) a l := by
  rcases h with h | ⟨g, o, rfl, hg, hc⟩
  · exact .inl h
  · rcases ho with ho | ho
    · exact .inl ho
    · have key : ∀ k, (w.setCell ⟨b, j, none⟩ u).cell? ⟨g, k, none⟩ = w.cell? ⟨g, k, none⟩ := fun k => World.cell?_setCell_other _ _ _ _ (by simpa using fun e => absurd e (off_ne ho hb))
      refine .inr ⟨g, o, rfl, by simpa using hg, fun i x hx => ?_⟩
      obtain ⟨h1, h2, h3, h4⟩ := hc i x hx
      exact ⟨by rw [key]; exact h1, by rw [key]; exact h2, by rw [key]; exact h3, by rw [key]; exact h4⟩
theorem ThsAt.setOff {w : World} {n m b : Nat} {a : Option Addr} {l : List Th} (h : ThsAt w a l) (ho : l = [] ∨ OffA n m a) (hb : Boxy n m b) (j : Nat) (u : Value) : ThsAt (w.setCell ⟨b, j, none⟩ u) a l := by
  rcases h with h | ⟨g, o, rfl, hg, hc⟩
  · exact .inl h
  · rcases ho with ho | ho
    · exact .inl ho
    · have key : ∀ k, (w.setCell ⟨b, j, none⟩ u).cell? ⟨g, k, none⟩ = w.cell? ⟨g, k, none⟩ := fun k => World.cell?_setCell_other _ _ _ _ (by simpa using fun e => absurd e (off_ne ho hb))
      refine .inr ⟨g, o, rfl, by simpa using hg, fun i x hx => ?_⟩
      obtain ⟨h1, h2, h3⟩ := hc i x hx
      exact ⟨by rw [key]; exact h1, by rw [key]; exact h2, by rw [key]; exact h3⟩
theorem HdsAt.setOff {w : World} {n m b : Nat} {a : Option Addr} {l : List Hd} (h : HdsAt w a l) (ho : l = [] ∨ OffA n m a) (hb : Boxy n m b) (j : Nat) (u : Value) : HdsAt (w.setCell ⟨b, j, none⟩ u) a l := by
  rcases h with h | ⟨g, o, rfl, hg, hc⟩
  · exact .inl h
  · rcases ho with ho | ho
    · exact .inl ho
    · have key : ∀ k, (w.setCell ⟨b, j, none⟩ u).cell? ⟨g, k, none⟩ = w.cell? ⟨g, k, none⟩ := fun k => World.cell?_setCell_other _ _ _ _ (by simpa using fun e => absurd e (off_ne ho hb))
      refine .inr ⟨g, o, rfl, by simpa using hg, fun i x hx => ?_⟩
      obtain ⟨h1, h2, h3⟩ := hc i x hx
      exact ⟨by rw [key]; exact h1, by rw [key]; exact h2, by rw [key]; exact h3⟩
theorem off_hi {n m k : Nat} {a : Option Addr} (h : HiA k a) (h1 : n + 1 < k) (h2 : m < k) : OffA n m a := fun ad had => ⟨.inr (by have := h ad had; omega), by have := h ad had; omega⟩
theorem off_wrs {w : World} {m : Nat} {a : Option Addr} {l : List Wr} (h : WrsAt w a l) (hm : w.heap.size ≤ m) : l = [] ∨ OffA w.heap.size m a := by
  rcases h with h | ⟨g, o, rfl, hg, _⟩
  · exact .inl h
  · exact .inr (fun ad had => by cases had; exact ⟨.inl hg, by show ¬ g = m; omega⟩)
theorem off_nts {w : World} {m : Nat} {a : Option Addr} {l : List Nt} (h : NtsAt w a l) (hm : w.heap.size ≤ m) : l = [] ∨ OffA w.heap.size m a := by
  rcases h with h | ⟨g, o, rfl, hg, _⟩
  · exact .inl h
  · exact .inr (fun ad had => by cases had; exact ⟨.inl hg, by show ¬ g = m; omega⟩)
theorem things_keep (ws : List Wr) (ts : List Th) : ts.filter (fun t => !(!inB (thingsL ws) t.id)) = ts.filter (fun t => hasT ws t.id) := by
  congr 1
  funext t
  rw [Bool.not_not, inB_things]
theorem held_keep (ws : List Wr) (hs : List Hd) : hs.filter (fun h => !decide (find ws h.writ < 0)) = hs.filter (fun h => decide (0 ≤ find ws h.writ)) := by
  congr 1
  funext h
  by_cases e : find ws h.writ < 0
  · rw [decide_eq_true e, decide_eq_false (by omega)]; rfl
  · rw [decide_eq_false e, decide_eq_true (by omega)]; rfl
/-! ### closures -/
theorem lost1 (a : Option Addr) (c : Nat) (Z : List Int) (b0 : Nat) (w : World) (hc : w.cell? ⟨b0, 0, none⟩ = some (.slice a Z.length c)) (hlt : b0 < w.heap.size) (hi : IntsAt w a Z) (hil : ∀ b o, a = some ⟨b, o, none⟩ → b < w.heap.size) (hm : Z.length ≤ 1000000) : Predn w 100 #[.pointer (some ⟨b0, 0, none⟩)] (fun n => inB Z n.port) := by
  intro x W hb
  have q : W.cell? ⟨b0, 0, none⟩ = some (.slice a Z.length c) := by rw [(bcell hb).1 _ _ hlt]; exact hc
  have hlt' : b0 < W.heap.size := Nat.lt_of_lt_of_le hlt hb.size
  have bl0 : Below W.heap.size W (W.alloc (.cells #[.int .i64 x.port, .string x.data, .int .i64 x.badge, .int .i64 x.writ] 52)) := (Below.refl _ _).alloc (Nat.le_refl _) _
  have bl1 := Below_after hb bl0
  have hat := hi.below bl1 hil
  show Calls Tryz.prog 100 #[.agg #[.int .i64 x.port, .string x.data, .int .i64 x.badge, .int .i64 x.writ], .pointer (some ⟨b0, 0, none⟩)] W _
  clear hc
  go_enter Tryz.func100, Tryz.ntmps100
  go_wp2_with fail
  refine (contI_any a c Z x.port _ hat hm).mono ?_
  rintro e w1 ⟨rfl, hw'⟩
  rw [hw']
  clear hw' w1
  go_wp2_with fail
  go_ret
  exact ⟨rfl, bl0⟩
theorem sweep2 (a : Option Addr) (c : Nat) (Z : List Int) (b0 : Nat) (w : World) (hc : w.cell? ⟨b0, 0, none⟩ = some (.slice a Z.length c)) (hlt : b0 < w.heap.size) (hi : IntsAt w a Z) (hil : ∀ b o, a = some ⟨b, o, none⟩ → b < w.heap.size) (hm : Z.length ≤ 1000000) : Predt w 82 #[.pointer (some ⟨b0, 0, none⟩)] (fun t => !inB Z t.id) := by
  intro x W hb
  have q : W.cell? ⟨b0, 0, none⟩ = some (.slice a Z.length c) := by rw [(bcell hb).1 _ _ hlt]; exact hc
  have hlt' : b0 < W.heap.size := Nat.lt_of_lt_of_le hlt hb.size
  have bl0 : Below W.heap.size W (W.alloc (.cells #[.int .i64 x.id, .int .i64 x.kind, .string x.data] 73)) := (Below.refl _ _).alloc (Nat.le_refl _) _
  have bl1 := Below_after hb bl0
  have hat := hi.below bl1 hil
  show Calls Tryz.prog 82 #[.agg #[.int .i64 x.id, .int .i64 x.kind, .string x.data], .pointer (some ⟨b0, 0, none⟩)] W _
  clear hc
  go_enter Tryz.func82, Tryz.ntmps82
  go_wp2_with fail
  refine (contI_any a c Z x.id _ hat hm).mono ?_
  rintro e w1 ⟨rfl, hw'⟩
  rw [hw']
  clear hw' w1
  go_wp2_with fail
  go_ret
  exact ⟨rfl, bl0⟩
theorem revoke1 (a : Option Addr) (c : Nat) (Z : List Int) (b0 : Nat) (w : World) (hc : w.cell? ⟨b0, 0, none⟩ = some (.slice a Z.length c)) (hlt : b0 < w.heap.size) (hi : IntsAt w a Z) (hil : ∀ b o, a = some ⟨b, o, none⟩ → b < w.heap.size) (hm : Z.length ≤ 1000000) : Predw w 92 #[.pointer (some ⟨b0, 0, none⟩)] (fun x => inB Z x.id) := by
  intro x W hb
  have q : W.cell? ⟨b0, 0, none⟩ = some (.slice a Z.length c) := by rw [(bcell hb).1 _ _ hlt]; exact hc
  have hlt' : b0 < W.heap.size := Nat.lt_of_lt_of_le hlt hb.size
  have bl0 : Below W.heap.size W (W.alloc (.cells #[.int .i64 x.id, .int .i64 x.thing, .int .i64 x.rights, .int .i64 x.badge, .int .i64 x.frm] 39)) := (Below.refl _ _).alloc (Nat.le_refl _) _
  have bl1 := Below_after hb bl0
  have hat := hi.below bl1 hil
  show Calls Tryz.prog 92 #[.agg #[.int .i64 x.id, .int .i64 x.thing, .int .i64 x.rights, .int .i64 x.badge, .int .i64 x.frm], .pointer (some ⟨b0, 0, none⟩)] W _
  clear hc
  go_enter Tryz.func92, Tryz.ntmps92
  go_wp2_with fail
  refine (contI_any a c Z x.id _ hat hm).mono ?_
  rintro e w1 ⟨rfl, hw'⟩
  rw [hw']
  clear hw' w1
  go_wp2_with fail
  go_ret
  exact ⟨rfl, bl0⟩
theorem sweep1 (a : Option Addr) (c : Nat) (l : List Nt) (b0 : Nat) (w : World) (hc : w.cell? ⟨b0, 0, none⟩ = some (.slice a l.length c)) (hlt : b0 < w.heap.size) (hi : NtsAt w a l) (hm : l.length ≤ 1000000) : Predn w 78 #[.pointer (some ⟨b0, 0, none⟩)] (fun n => l.any (sameN n)) := by
  intro x W hb
  have q : W.cell? ⟨b0, 0, none⟩ = some (.slice a l.length c) := by rw [(bcell hb).1 _ _ hlt]; exact hc
  have hlt' : b0 < W.heap.size := Nat.lt_of_lt_of_le hlt hb.size
  have bl0 : Below W.heap.size W (W.alloc (.cells #[.int .i64 x.port, .string x.data, .int .i64 x.badge, .int .i64 x.writ] 52)) := (Below.refl _ _).alloc (Nat.le_refl _) _
  have bl1 := Below_after hb bl0
  have hat := hi.below bl1
  show Calls Tryz.prog 78 #[.agg #[.int .i64 x.port, .string x.data, .int .i64 x.badge, .int .i64 x.writ], .pointer (some ⟨b0, 0, none⟩)] W _
  clear hc
  go_enter Tryz.func78, Tryz.ntmps78
  go_wp2_with fail
  refine (contN_any a c l x _ hat hm).mono ?_
  rintro e w1 ⟨rfl, hb1⟩
  go_wp2_with fail
  go_ret
  exact ⟨rfl, Below_after bl0 hb1⟩
theorem sweep3 (a : Option Addr) (c : Nat) (l : List Wr) (b0 : Nat) (w : World) (hc : w.cell? ⟨b0, 0, none⟩ = some (.slice a l.length c)) (hlt : b0 < w.heap.size) (hi : WrsAt w a l) (hm : l.length ≤ 1000000) : Predh w 85 #[.pointer (some ⟨b0, 0, none⟩)] (fun h => decide (find l h.writ < 0)) := by
  intro x W hb
  have q : W.cell? ⟨b0, 0, none⟩ = some (.slice a l.length c) := by rw [(bcell hb).1 _ _ hlt]; exact hc
  have hlt' : b0 < W.heap.size := Nat.lt_of_lt_of_le hlt hb.size
  have bl0 : Below W.heap.size W (W.alloc (.cells #[.int .i64 x.holder, .int .i64 x.slot, .int .i64 x.writ] 93)) := (Below.refl _ _).alloc (Nat.le_refl _) _
  have bl1 := Below_after hb bl0
  have hat := hi.below bl1
  show Calls Tryz.prog 85 #[.agg #[.int .i64 x.holder, .int .i64 x.slot, .int .i64 x.writ], .pointer (some ⟨b0, 0, none⟩)] W _
  clear hc
  go_enter Tryz.func85, Tryz.ntmps85
  go_wp2_with fail
  refine (find_any a c l x.writ _ hat hm).mono ?_
  rintro e w1 ⟨rfl, hb1⟩
  generalize hv : find l x.writ = v
  have HV : Hid (find l x.writ = v) := hv
  clear hv
  go_wp2_with fail
  go_ret
  exact ⟨by rw [HV.out]; rfl, Below_after bl0 hb1⟩
/-! ### lostNotes -/
set_option maxHeartbeats 4000000 in
set_option maxRecDepth 100000 in
theorem lostN_any (aw at_ ah an : Option Addr) (cw ct ch cn : Nat) (r : Rm) (w : World) (hr : RmAt w aw at_ ah an cw ct ch cn r) (hz : RmSz r) (L : Nat) (hL : (lostL r.ws r.ns).length = L) :
    Calls Tryz.prog 76 #[.agg #[.slice aw r.ws.length cw, .slice at_ r.ts.length ct, .slice ah r.hs.length ch, .slice an r.ns.length cn, .int .i64 r.nw, .int .i64 r.nt]] w fun e w' => ∃ a c, e = .returned (.slice a L c) ∧ NtsAt w' a (lostL r.ws r.ns) ∧ Fit (lostL r.ws r.ns).length c ∧ HiA (w.heap.size + 1) a ∧ Below w.heap.size w w' := by
  have hmf : ∀ (fn : Fn) (first cap : Array Value) (w : World), (Instr.makeFunc fn first cap).run Tryz.prog w = .ok (.func fn first cap) w := fun _ _ _ _ => rfl
  have eg_a : ∀ args w, (callFunc 100 args).run Tryz.prog w = .ok (.enter 100 args) w := enters_of Tryz.func100 (by kernel_rfl) rfl
  have BR0 := Bx.new w [.slice aw r.ws.length cw, .slice at_ r.ts.length ct, .slice ah r.hs.length ch, .slice an r.ns.length cn, .int .i64 r.nw, .int .i64 r.nt] 30
  have bl0 := (Below.refl w.heap.size w).alloc (by first | exact Nat.le_refl _ | (simp <;> omega)) (.cells #[.slice aw r.ws.length cw, .slice at_ r.ts.length ct, .slice ah r.hs.length ch, .slice an r.ns.length cn, .int .i64 r.nw, .int .i64 r.nt] 30)
  go_enter Tryz.func76, Tryz.ntmps76
  go_wp2_with fail
  refine (things_any aw cw r.ws _ (hr.w.below bl0) hz.w).mono ?_
  rintro e w1 ⟨aT, cT, rfl, iT, lT, hb1⟩
  have BR1 := BR0.below hb1
  have bl1 := Below_after bl0 hb1
  clear BR0 bl0
  have lw1 := BR1.1
  have hZ : (thingsL r.ws).length ≤ 1000 := Nat.le_trans (thingsLen r.ws) hz.w
  have HE := lost_eq r.ws r.ns
  generalize thingsL r.ws = Z at *
  obtain ⟨cR0, cR1, cR2, cR3, cR4, cR5⟩ := BR1.c6
  have zR := BR1.1
  go_wp2_with fail
  clear cR0 cR1 cR2 cR3 cR4 cR5 zR
  have BR2 := BR1.alloc (.cells #[.slice aT Z.length cT] 119)
  have bl2 := bl1.alloc bl1.size (.cells #[.slice aT Z.length cT] 119)
  have BT2 := Bx.new w1 [.slice aT Z.length cT] 119
  clear BR1 bl1
  have bA : Below w1.heap.size w1 (w1.alloc (.cells #[.slice aT Z.length cT] 119)) := (Below.refl _ _).alloc (Nat.le_refl _) _
  have iT2 := iT.below bA lT
  have lT2 : ∀ b o, aT = some ⟨b, o, none⟩ → b < (w1.alloc (.cells #[.slice aT Z.length cT] 119)).heap.size := fun b o h => Nat.lt_of_lt_of_le (lT b o h) bA.size
  refine (leave_n an cn r.ns (fun n => inB Z n.port) 100 _ eg_a _ (lost1 aT cT Z (w1.heap.size) _ (BT2.2 0 _ rfl).1 BT2.1 iT2 lT2 (by omega)) (hr.n.below bl2) (by have := hz.n; omega)).mono ?_
  rintro e w2 ⟨v, rfl, ho, hb2⟩
  rw [HE] at ho
  obtain ⟨aL, cL, hv, hat, hfit⟩ := nrow_at ho
  subst hL
  subst hv
  have HHI : Hid (HiA (w.heap.size + 1) aL) := fun ad had => Nat.le_trans (by have := lw1; simp; omega) (hi_of_row ho ad had)
  have HA : Hid (NtsAt w2 aL (lostL r.ws r.ns)) := hat
  have HFt : Hid (Fit (lostL r.ws r.ns).length cL) := hfit
  clear ho hat hfit HE
  go_wp2_with fail
  go_ret
  exact ⟨aL, cL, rfl, HA.out, HFt.out, HHI.out, Below_after bl2 hb2⟩
/-! ### sweep -/
def sliceLen : Option Value → Nat
  | some (.slice _ n _) => n
  | _ => 0
set_option maxHeartbeats 4000000 in
set_option maxRecDepth 100000 in
theorem sweep_any (aw at_ ah an : Option Addr) (cw ct ch cn : Nat) (r : Rm) (w : World) (hr : RmAt w aw at_ ah an cw ct ch cn r) (hz : RmSz r) :
    Calls Tryz.prog 41 #[.agg #[.slice aw r.ws.length cw, .slice at_ r.ts.length ct, .slice ah r.hs.length ch, .slice an r.ns.length cn, .int .i64 r.nw, .int .i64 r.nt]] w fun e w' => ∃ b0 b1 b2 b3 d0 d1 d2 d3, e = .returned (.agg #[.slice b0 (sweepR r).ws.length d0, .slice b1 (sweepR r).ts.length d1, .slice b2 (sweepR r).hs.length d2, .slice b3 (sweepR r).ns.length d3, .int .i64 r.nw, .int .i64 r.nt]) ∧ RmAt w' b0 b1 b2 b3 d0 d1 d2 d3 (sweepR r) ∧ ((b0 = aw ∨ HiA w.heap.size b0) ∧ HiA w.heap.size b1 ∧ HiA w.heap.size b2 ∧ HiA w.heap.size b3) ∧ Below w.heap.size w w' := by
  have hmf : ∀ (fn : Fn) (first cap : Array Value) (w : World), (Instr.makeFunc fn first cap).run Tryz.prog w = .ok (.func fn first cap) w := fun _ _ _ _ => rfl
  have eg_a : ∀ args w, (callFunc 78 args).run Tryz.prog w = .ok (.enter 78 args) w := enters_of Tryz.func78 (by kernel_rfl) rfl
  have eg_b : ∀ args w, (callFunc 82 args).run Tryz.prog w = .ok (.enter 82 args) w := enters_of Tryz.func82 (by kernel_rfl) rfl
  have eg_c : ∀ args w, (callFunc 85 args).run Tryz.prog w = .ok (.enter 85 args) w := enters_of Tryz.func85 (by kernel_rfl) rfl
  obtain ⟨BR0, BZ0, bl0⟩ := boxes2 w [.slice aw r.ws.length cw, .slice at_ r.ts.length ct, .slice ah r.hs.length ch, .slice an r.ns.length cn, .int .i64 r.nw, .int .i64 r.nt] 30 [.slice none 0 0, .slice none 0 0, .slice none 0 0, .slice none 0 0, .int .i64 0, .int .i64 0] 30
  have mw := hz.w
  have mn := hz.n
  go_enter Tryz.func41, Tryz.ntmps41
  go_wp2_with fail
  obtain ⟨L0, hL0⟩ : ∃ L, (lostL r.ws r.ns).length = L := ⟨_, rfl⟩
  have HL0 : Hid ((lostL r.ws r.ns).length = L0) := hL0
  clear hL0
  refine (lostN_any aw at_ ah an cw ct ch cn r _ (hr.below bl0) hz L0 HL0.out).mono ?_
  rintro e w1 ⟨xl, yl, rfl, hat, -, hhi, hb1⟩
  have BR1 := BR0.below hb1
  have BZ1 := BZ0.below hb1
  have bl1 := Below_after bl0 hb1
  clear BR0 BZ0 bl0
  have lw1 := BZ1.1
  obtain ⟨cR0, cR1, cR2, cR3, cR4, cR5⟩ := BR1.c6
  have zR := BR1.1
  obtain ⟨cZ0, cZ1, cZ2, cZ3, cZ4, cZ5⟩ := BZ1.c6
  have zZ := BZ1.1
  go_wp2_with fail
  clear cR0 cR1 cR2 cR3 cR4 cR5 zR cZ0 cZ1 cZ2 cZ3 cZ4 cZ5 zZ
  have BR2 := BR1.alloc (.cells #[.slice xl L0 yl] 28)
  have BZ2 := BZ1.alloc (.cells #[.slice xl L0 yl] 28)
  have bl2 := bl1.alloc bl1.size (.cells #[.slice xl L0 yl] 28)
  have BL2 := Bx.new w1 [.slice xl L0 yl] 28
  clear BR1 BZ1 bl1
  have hatA := hat.below ((Below.refl _ _).alloc (Nat.le_refl _) (.cells #[.slice xl L0 yl] 28))
  have tag0 : RTag (w1.alloc (.cells #[.slice xl L0 yl] 28)) w.heap.size := ((((RTag.new w #[.slice aw r.ws.length cw, .slice at_ r.ts.length ct, .slice ah r.hs.length ch, .slice an r.ns.length cn, .int .i64 r.nw, .int .i64 r.nt]).below ((Below.refl _ _).alloc (Nat.le_refl _) (.cells #[.slice none 0 0, .slice none 0 0, .slice none 0 0, .slice none 0 0, .int .i64 0, .int .i64 0] 30))).below hb1).below ((Below.refl _ _).alloc (Nat.le_refl _) _))
  have hoffl : lostL r.ws r.ns = [] ∨ OffA w.heap.size w1.heap.size xl := by
    rcases hat with h | ⟨g, o, rfl, hg, _⟩
    · exact .inl h
    · exact .inr (fun ad had => by cases had; exact ⟨.inr (by have := hhi _ rfl; simp at this; show w.heap.size + 1 < g; omega), by show ¬ g = w1.heap.size; omega⟩)
  generalize hBL : w1.heap.size = BL at *
  have hlo : w.heap.size + 1 < BL := by omega
  clear hBL
  go_loopw [7, 8, 9] (fun _ _ _ wr => ∃ (ws' : List Wr) (ns' : List Nt) (fuel : Nat) (xw xn xl : Option Addr) (yw yn yl LL NW NN : Nat), Hid (ns'.length < fuel ∧ sweepN fuel ws' ns' = sweepN (r.ns.length + 1) r.ws r.ns) ∧ Hid (ws'.length = NW ∧ ns'.length = NN ∧ NW ≤ r.ws.length ∧ NN ≤ r.ns.length) ∧ Hid (WrsAt wr xw ws' ∧ NtsAt wr xn ns' ∧ NtsAt wr xl (lostL ws' ns') ∧ Fit NW yw ∧ Fit NN yn) ∧ Hid ((lostL ws' ns').length = LL) ∧ Hid (xw = aw ∨ HiA w.heap.size xw) ∧ Hid ((ws' = [] ∨ OffA w.heap.size BL xw) ∧ (ns' = [] ∨ OffA w.heap.size BL xn) ∧ (lostL ws' ns' = [] ∨ OffA w.heap.size BL xl)) ∧ Bx wr w.heap.size [.slice xw NW yw, .slice at_ r.ts.length ct, .slice ah r.hs.length ch, .slice xn NN yn, .int .i64 r.nw, .int .i64 r.nt] ∧ Bx wr (w.heap.size + 1) [.slice none 0 0, .slice none 0 0, .slice none 0 0, .slice none 0 0, .int .i64 0, .int .i64 0] ∧ Bx wr BL [.slice xl LL yl] ∧ Below w.heap.size w wr) (fun _ _ _ wr => sliceLen (wr.cell? ⟨w.heap.size, 3, none⟩))
  case atStart => exact ⟨r.ws, r.ns, r.ns.length + 1, aw, an, xl, cw, cn, yl, L0, r.ws.length, r.ns.length, (show Hid _ from ⟨by omega, rfl⟩), (show Hid _ from ⟨rfl, rfl, Nat.le_refl _, Nat.le_refl _⟩), (show Hid _ from ⟨hr.w.below bl2, hr.n.below bl2, hatA, hr.fw, hr.fn⟩), HL0, (show Hid _ from .inl rfl), (show Hid _ from ⟨off_wrs hr.w (by omega), off_nts hr.n (by omega), hoffl⟩), BR2, BZ2, BL2, bl2⟩
  case round =>
    obtain ⟨ws', ns', fuel, xw, xn, xl, yw, yn, yl, LL, NW, NN, HS, HN, HA, HL, HXW, HO, BR0, BZ0, BL0, bl0⟩ := hrel
    obtain ⟨hW, hNs, hLo, hFw, hFn⟩ := HA.out
    obtain ⟨oW, oN, oL⟩ := HO.out
    obtain ⟨n1, n2, n3, n4⟩ := HN.out
    have H1 : Hid (ws'.length = NW) := n1
    have H2 : Hid (ns'.length = NN) := n2
    have mW : ws'.length ≤ 1000 := by omega
    have mN : ns'.length ≤ 1000 := by omega
    have mL : (lostL ws' ns').length ≤ 1000 := Nat.le_trans (lost_le _ _) mN
    clear n1 n2 HA HO HN hat hatA hhi hoffl tag0
    by_cases hlost : lostL ws' ns' = []
    · have hsz0 : w.heap.size ≤ wr.heap.size := bl0.size
      have gz0 := BL0.1
      have gy0 := BZ0.1
      have hLL : LL = 0 := by rw [← HL.out, hlost]; rfl
      subst hLL
      have HE : Hid (sweepR r = ⟨ws', r.ts.filter (fun t => hasT ws' t.id), r.hs.filter (fun h => decide (0 ≤ find ws' h.writ)), ns'.map (forgetN ws'), r.nw, r.nt⟩) := by
        show _ = _
        obtain ⟨h1, h2⟩ := HS.out
        obtain ⟨f, rfl⟩ : ∃ f, fuel = f + 1 := ⟨fuel - 1, by omega⟩
        have h3 : sweepN (f + 1) ws' ns' = (ws', ns') := by unfold sweepN; rw [if_pos hlost]
        unfold sweepR
        rw [← h2, h3]
      clear HS HL hLo oL mL hlost
      have hcon := things_any xw yw ws' wr hW mW
      rw [H1.out] at hcon
      have hZ : (thingsL ws').length ≤ 1000 := Nat.le_trans (thingsLen ws') mW
      have HK := things_keep ws' r.ts
      generalize thingsL ws' = Z at *
      obtain ⟨cR0, cR1, cR2, cR3, cR4, cR5⟩ := BR0.c6
      have zR := BR0.1
      obtain ⟨cZ0, cZ1, cZ2, cZ3, cZ4, cZ5⟩ := BZ0.c6
      have zZ := BZ0.1
      have cL0 := (BL0.2 0 _ rfl).1
      have zL := BL0.1
      go_wp2_with fail
      clear cR0 cR1 cR2 cR3 cR4 cR5 zR cZ0 cZ1 cZ2 cZ3 cZ4 cZ5 zZ cL0 zL
      refine (hcon).mono ?_
      rintro e w1 ⟨aT, cT, rfl, iT, lT, hb1⟩
      have sz1 : wr.heap.size ≤ w1.heap.size := hb1.size
      clear hcon
      have BR1 := BR0.below hb1
      have BZ1 := BZ0.below hb1
      have BL1 := BL0.below hb1
      have bl1 := Below_after bl0 hb1
      clear BR0 BZ0 BL0 bl0
      have lw1 := BL1.1
      replace hW := hW.below hb1
      replace hNs := hNs.below hb1
      obtain ⟨cR0, cR1, cR2, cR3, cR4, cR5⟩ := BR1.c6
      have zR := BR1.1
      obtain ⟨cZ0, cZ1, cZ2, cZ3, cZ4, cZ5⟩ := BZ1.c6
      have zZ := BZ1.1
      have cL0 := (BL1.2 0 _ rfl).1
      have zL := BL1.1
      go_wp2_with fail
      clear cR0 cR1 cR2 cR3 cR4 cR5 zR cZ0 cZ1 cZ2 cZ3 cZ4 cZ5 zZ cL0 zL
      have bA : Below w1.heap.size w1 (w1.alloc (.cells #[.slice aT Z.length cT] 119)) := (Below.refl _ _).alloc (Nat.le_refl _) _
      replace iT := iT.below bA lT
      replace lT : ∀ b o, aT = some ⟨b, o, none⟩ → b < (w1.alloc (.cells #[.slice aT Z.length cT] 119)).heap.size := fun b o h => Nat.lt_of_lt_of_le (lT b o h) bA.size
      replace hW := hW.below bA
      replace hNs := hNs.below bA
      clear bA
      have BR2 := BR1.alloc (.cells #[.slice aT Z.length cT] 119)
      have BZ2 := BZ1.alloc (.cells #[.slice aT Z.length cT] 119)
      have BL2 := BL1.alloc (.cells #[.slice aT Z.length cT] 119)
      have bl2 := bl1.alloc bl1.size (.cells #[.slice aT Z.length cT] 119)
      have BT2 := Bx.new w1 [.slice aT Z.length cT] 119
      clear BR1 BZ1 BL1 bl1
      generalize hg : (w1.alloc (.cells #[.slice aT Z.length cT] 119)) = w2 at BR2 BZ2 BL2 BT2 bl2 iT lT hW hNs ⊢
      clear hg
      have gz2 := BL2.1
      have gy2 := BZ2.1
      have gt2 := BT2.1
      have hcon := leave_t at_ ct r.ts (fun t => !inB Z t.id) 82 #[.pointer (some ⟨w1.heap.size, 0, none⟩)] eg_b w2 (sweep2 aT cT Z (w1.heap.size) w2 (BT2.2 0 _ rfl).1 BT2.1 iT lT (by omega)) (hr.t.below bl2) (by have := hz.t; omega)
      rw [HK] at hcon
      obtain ⟨M4, hM4⟩ : ∃ M, (r.ts.filter (fun t => hasT ws' t.id)).length = M := ⟨_, rfl⟩
      have HM4 : Hid (_ = M4) := hM4
      clear hM4 HK
      refine (hcon).mono ?_
      rintro e w3 ⟨v4, rfl, ho4, hb3⟩
      have sz3 : w2.heap.size ≤ w3.heap.size := hb3.size
      obtain ⟨a4, c4, hv4, hT4, hF4⟩ := trow_at ho4
      rw [HM4.out] at hv4
      subst hv4
      have oT4 : r.ts.filter (fun t => hasT ws' t.id) = [] ∨ OffA w.heap.size BL a4 := .inr (off_hi (hi_of_row ho4) (by omega) (by omega))
      have hi4 : HiA w.heap.size a4 := fun ad had => by have := hi_of_row ho4 ad had; omega
      clear ho4 hcon iT lT
      have BR3 := BR2.below hb3
      have BZ3 := BZ2.below hb3
      have BL3 := BL2.below hb3
      have BT3 := BT2.below hb3
      have bl3 := Below_after bl2 hb3
      clear BR2 BZ2 BL2 BT2 bl2
      have lw3 := BL3.1
      replace hW := hW.below hb3
      replace hNs := hNs.below hb3
      obtain ⟨cR0, fR0, cR1, fR1, cR2, fR2, cR3, fR3, cR4, fR4, cR5, fR5⟩ := BR3.cf6
      have zR := BR3.1
      obtain ⟨cZ0, cZ1, cZ2, cZ3, cZ4, cZ5⟩ := BZ3.c6
      have zZ := BZ3.1
      have cL0 := (BL3.2 0 _ rfl).1
      have zL := BL3.1
      have cT0 := (BT3.2 0 _ rfl).1
      have zT := BT3.1
      go_wp2_with fail
      clear cR0 fR0 cR1 fR1 cR2 fR2 cR3 fR3 cR4 fR4 cR5 fR5 zR cZ0 cZ1 cZ2 cZ3 cZ4 cZ5 zZ cL0 zL cT0 zT
      replace hW := hW.setOff oW (.inl rfl) 1 (.slice a4 M4 c4)
      replace hNs := hNs.setOff oN (.inl rfl) 1 (.slice a4 M4 c4)
      replace hT4 := hT4.setOff oT4 (.inl rfl) 1 (.slice a4 M4 c4)
      have BR4 := BR3.set 1 (.slice a4 M4 c4)
      simp only [List.set_cons_zero, List.set_cons_succ] at BR4
      have BZ4 := BZ3.other (b' := w.heap.size) (by first | omega | (have := BR3.1; have := BZ3.1; omega)) 1 (.slice a4 M4 c4)
      have BL4 := BL3.other (b' := w.heap.size) (by first | omega | (have := BR3.1; have := BL3.1; omega)) 1 (.slice a4 M4 c4)
      have BT4 := BT3.other (b' := w.heap.size) (by first | omega | (have := BR3.1; have := BT3.1; omega)) 1 (.slice a4 M4 c4)
      have bl4 := bl3.setCell (p := ⟨w.heap.size, 1, none⟩) (by show w.heap.size ≤ w.heap.size; omega) (.slice a4 M4 c4)
      clear BR3 BZ3 BL3 BT3 bl3
      generalize hg : (w3.setCell ⟨w.heap.size, 1, none⟩ (.slice a4 M4 c4)) = w4 at BR4 BZ4 BL4 BT4 bl4 hW hNs hT4 ⊢
      clear hg
      have gz4 := BL4.1
      have gy4 := BZ4.1
      have hcl : w4.cell? ⟨w.heap.size, 0, none⟩ = some (.slice xw ws'.length yw) := by rw [H1.out]; exact (BR4.2 0 _ rfl).1
      have hcon := leave_h ah ch r.hs (fun h => decide (find ws' h.writ < 0)) 85 #[.pointer (some ⟨w.heap.size, 0, none⟩)] eg_c w4 (sweep3 xw yw ws' (w.heap.size) w4 hcl BR4.1 hW (by omega)) (hr.h.below bl4) (by have := hz.h; omega)
      rw [held_keep] at hcon
      clear hcl
      obtain ⟨M6, hM6⟩ : ∃ M, (r.hs.filter (fun h => decide (0 ≤ find ws' h.writ))).length = M := ⟨_, rfl⟩
      have HM6 : Hid (_ = M6) := hM6
      clear hM6
      refine (hcon).mono ?_
      rintro e w5 ⟨v6, rfl, ho6, hb5⟩
      have sz5 : w4.heap.size ≤ w5.heap.size := hb5.size
      obtain ⟨a6, c6, hv6, hH6, hF6⟩ := hrow_at ho6
      rw [HM6.out] at hv6
      subst hv6
      have oH6 : r.hs.filter (fun h => decide (0 ≤ find ws' h.writ)) = [] ∨ OffA w.heap.size BL a6 := .inr (off_hi (hi_of_row ho6) (by omega) (by omega))
      have hi6 : HiA w.heap.size a6 := fun ad had => by have := hi_of_row ho6 ad had; omega
      clear ho6 hcon
      have BR5 := BR4.below hb5
      have BZ5 := BZ4.below hb5
      have BL5 := BL4.below hb5
      have BT5 := BT4.below hb5
      have bl5 := Below_after bl4 hb5
      clear BR4 BZ4 BL4 BT4 bl4
      have lw5 := BL5.1
      replace hW := hW.below hb5
      replace hNs := hNs.below hb5
      replace hT4 := hT4.below hb5
      obtain ⟨cR0, fR0, cR1, fR1, cR2, fR2, cR3, fR3, cR4, fR4, cR5, fR5⟩ := BR5.cf6
      have zR := BR5.1
      obtain ⟨cZ0, cZ1, cZ2, cZ3, cZ4, cZ5⟩ := BZ5.c6
      have zZ := BZ5.1
      have cL0 := (BL5.2 0 _ rfl).1
      have zL := BL5.1
      have cT0 := (BT5.2 0 _ rfl).1
      have zT := BT5.1
      go_wp2_with fail
      clear cR0 fR0 cR1 fR1 cR2 fR2 cR3 fR3 cR4 fR4 cR5 fR5 zR cZ0 cZ1 cZ2 cZ3 cZ4 cZ5 zZ cL0 zL cT0 zT
      replace hW := hW.setOff oW (.inl rfl) 2 (.slice a6 M6 c6)
      replace hNs := hNs.setOff oN (.inl rfl) 2 (.slice a6 M6 c6)
      replace hT4 := hT4.setOff oT4 (.inl rfl) 2 (.slice a6 M6 c6)
      replace hH6 := hH6.setOff oH6 (.inl rfl) 2 (.slice a6 M6 c6)
      have BR6 := BR5.set 2 (.slice a6 M6 c6)
      simp only [List.set_cons_zero, List.set_cons_succ] at BR6
      have BZ6 := BZ5.other (b' := w.heap.size) (by first | omega | (have := BR5.1; have := BZ5.1; omega)) 2 (.slice a6 M6 c6)
      have BL6 := BL5.other (b' := w.heap.size) (by first | omega | (have := BR5.1; have := BL5.1; omega)) 2 (.slice a6 M6 c6)
      have BT6 := BT5.other (b' := w.heap.size) (by first | omega | (have := BR5.1; have := BT5.1; omega)) 2 (.slice a6 M6 c6)
      have bl6 := bl5.setCell (p := ⟨w.heap.size, 2, none⟩) (by show w.heap.size ≤ w.heap.size; omega) (.slice a6 M6 c6)
      clear BR5 BZ5 BL5 BT5 bl5
      generalize hg : (w5.setCell ⟨w.heap.size, 2, none⟩ (.slice a6 M6 c6)) = w6 at BR6 BZ6 BL6 BT6 bl6 hW hNs hT4 hH6 ⊢
      clear hg
      have gz6 := BL6.1
      have gy6 := BZ6.1
      have hcon := forget_any xn yn ns' xw yw ws' w6 hNs hW mW mN
      rw [H2.out, H1.out] at hcon
      refine (hcon).mono ?_
      rintro e w7 ⟨a8, c8, rfl, hN8, hF8, hhi8, hb7⟩
      have sz7 : w6.heap.size ≤ w7.heap.size := hb7.size
      have oN8 : ns'.map (forgetN ws') = [] ∨ OffA w.heap.size BL a8 := .inr (off_hi hhi8 (by omega) (by omega))
      have hi8 : HiA w.heap.size a8 := fun ad had => by have := hhi8 ad had; omega
      clear hcon hhi8 hNs
      have BR7 := BR6.below hb7
      have BZ7 := BZ6.below hb7
      have BL7 := BL6.below hb7
      have BT7 := BT6.below hb7
      have bl7 := Below_after bl6 hb7
      clear BR6 BZ6 BL6 BT6 bl6
      have lw7 := BL7.1
      replace hW := hW.below hb7
      replace hT4 := hT4.below hb7
      replace hH6 := hH6.below hb7
      obtain ⟨cR0, fR0, cR1, fR1, cR2, fR2, cR3, fR3, cR4, fR4, cR5, fR5⟩ := BR7.cf6
      have zR := BR7.1
      obtain ⟨cZ0, fZ0, cZ1, fZ1, cZ2, fZ2, cZ3, fZ3, cZ4, fZ4, cZ5, fZ5⟩ := BZ7.cf6
      have zZ := BZ7.1
      have cL0 := (BL7.2 0 _ rfl).1
      have zL := BL7.1
      have cT0 := (BT7.2 0 _ rfl).1
      have zT := BT7.1
      go_wp2_with fail
      clear cR0 fR0 cR1 fR1 cR2 fR2 cR3 fR3 cR4 fR4 cR5 fR5 zR cZ0 fZ0 cZ1 fZ1 cZ2 fZ2 cZ3 fZ3 cZ4 fZ4 cZ5 fZ5 zZ cL0 zL cT0 zT
      replace hW := hW.setOff oW (.inl rfl) 3 (.slice a8 NN c8)
      replace hT4 := hT4.setOff oT4 (.inl rfl) 3 (.slice a8 NN c8)
      replace hH6 := hH6.setOff oH6 (.inl rfl) 3 (.slice a8 NN c8)
      replace hN8 := hN8.setOff oN8 (.inl rfl) 3 (.slice a8 NN c8)
      have BR8 := BR7.set 3 (.slice a8 NN c8)
      simp only [List.set_cons_zero, List.set_cons_succ] at BR8
      have BZ8 := BZ7.other (b' := w.heap.size) (by first | omega | (have := BR7.1; have := BZ7.1; omega)) 3 (.slice a8 NN c8)
      have BL8 := BL7.other (b' := w.heap.size) (by first | omega | (have := BR7.1; have := BL7.1; omega)) 3 (.slice a8 NN c8)
      have BT8 := BT7.other (b' := w.heap.size) (by first | omega | (have := BR7.1; have := BT7.1; omega)) 3 (.slice a8 NN c8)
      have bl8 := bl7.setCell (p := ⟨w.heap.size, 3, none⟩) (by show w.heap.size ≤ w.heap.size; omega) (.slice a8 NN c8)
      clear BR7 BZ7 BL7 BT7 bl7
      replace hW := hW.setOff oW (.inr (.inl rfl)) 0 (.slice xw NW yw)
      replace hT4 := hT4.setOff oT4 (.inr (.inl rfl)) 0 (.slice xw NW yw)
      replace hH6 := hH6.setOff oH6 (.inr (.inl rfl)) 0 (.slice xw NW yw)
      replace hN8 := hN8.setOff oN8 (.inr (.inl rfl)) 0 (.slice xw NW yw)
      replace hW := hW.setOff oW (.inr (.inl rfl)) 1 (.slice a4 M4 c4)
      replace hT4 := hT4.setOff oT4 (.inr (.inl rfl)) 1 (.slice a4 M4 c4)
      replace hH6 := hH6.setOff oH6 (.inr (.inl rfl)) 1 (.slice a4 M4 c4)
      replace hN8 := hN8.setOff oN8 (.inr (.inl rfl)) 1 (.slice a4 M4 c4)
      replace hW := hW.setOff oW (.inr (.inl rfl)) 2 (.slice a6 M6 c6)
      replace hT4 := hT4.setOff oT4 (.inr (.inl rfl)) 2 (.slice a6 M6 c6)
      replace hH6 := hH6.setOff oH6 (.inr (.inl rfl)) 2 (.slice a6 M6 c6)
      replace hN8 := hN8.setOff oN8 (.inr (.inl rfl)) 2 (.slice a6 M6 c6)
      replace hW := hW.setOff oW (.inr (.inl rfl)) 3 (.slice a8 NN c8)
      replace hT4 := hT4.setOff oT4 (.inr (.inl rfl)) 3 (.slice a8 NN c8)
      replace hH6 := hH6.setOff oH6 (.inr (.inl rfl)) 3 (.slice a8 NN c8)
      replace hN8 := hN8.setOff oN8 (.inr (.inl rfl)) 3 (.slice a8 NN c8)
      replace hW := hW.setOff oW (.inr (.inl rfl)) 4 (.int .i64 r.nw)
      replace hT4 := hT4.setOff oT4 (.inr (.inl rfl)) 4 (.int .i64 r.nw)
      replace hH6 := hH6.setOff oH6 (.inr (.inl rfl)) 4 (.int .i64 r.nw)
      replace hN8 := hN8.setOff oN8 (.inr (.inl rfl)) 4 (.int .i64 r.nw)
      replace hW := hW.setOff oW (.inr (.inl rfl)) 5 (.int .i64 r.nt)
      replace hT4 := hT4.setOff oT4 (.inr (.inl rfl)) 5 (.int .i64 r.nt)
      replace hH6 := hH6.setOff oH6 (.inr (.inl rfl)) 5 (.int .i64 r.nt)
      replace hN8 := hN8.setOff oN8 (.inr (.inl rfl)) 5 (.int .i64 r.nt)
      have mF : M4 = (r.ts.filter (fun t => hasT ws' t.id)).length := HM4.out.symm
      obtain ⟨y0, y1, y2, y3, y4, y5⟩ := (BZ8.put6 (.slice xw NW yw) (.slice a4 M4 c4) (.slice a6 M6 c6) (.slice a8 NN c8) (.int .i64 r.nw) (.int .i64 r.nt)).six
      have blF := (below_set6 bl8 (b := w.heap.size + 1) (by omega) (.slice xw NW yw) (.slice a4 M4 c4) (.slice a6 M6 c6) (.slice a8 NN c8) (.int .i64 r.nw) (.int .i64 r.nt))
      refine bodyPost_ret (v := .agg #[.slice xw NW yw, .slice a4 M4 c4, .slice a6 M6 c6, .slice a8 NN c8, .int .i64 r.nw, .int .i64 r.nt]) (by simp [results, Tryz.results41, go_sem, y0, y1, y2, y3, y4, y5]) rfl ?_
      exact ⟨xw, a4, a6, a8, yw, c4, c6, c8, by rw [HE.out, ← HM4.out, ← HM6.out, ← H1.out, ← H2.out]; simp, by rw [HE.out]; exact ⟨hW, hT4, hH6, hN8, by show Fit ws'.length yw; rw [H1.out]; exact hFw, hF4, hF6, by show Fit (ns'.map (forgetN ws')).length c8; rw [List.length_map, H2.out]; exact hF8⟩, ⟨HXW.out, hi4, hi6, hi8⟩, blF⟩
    · have hsz0 : w.heap.size ≤ wr.heap.size := bl0.size
      have cR3m := (BR0.2 3 _ rfl).1
      have gz0 := BL0.1
      have gy0 := BZ0.1
      have HcR : Hid (wr.cell? ⟨w.heap.size, 3, none⟩ = some (.slice xn NN yn)) := cR3m
      clear cR3m
      have hlt := left_lt hlost
      have hLL : 0 < LL := by rw [← HL.out]; exact List.length_pos_iff.2 hlost
      have HS2 : Hid ((leftL ws' ns').length < fuel - 1 ∧ sweepN (fuel - 1) (woAll ws' (lostL ws' ns')) (leftL ws' ns') = sweepN (r.ns.length + 1) r.ws r.ns) := by
        obtain ⟨h1, h2⟩ := HS.out
        obtain ⟨f, rfl⟩ : ∃ f, fuel = f + 1 := ⟨fuel - 1, by omega⟩
        refine ⟨by simp only [Nat.add_sub_cancel]; omega, ?_⟩
        rw [← h2]
        conv => rhs; unfold sweepN
        rw [if_neg hlost]; rfl
      clear HS
      obtain ⟨M1, hM1⟩ : ∃ M, (woAll ws' (lostL ws' ns')).length = M := ⟨_, rfl⟩
      obtain ⟨M3, hM3⟩ : ∃ M, (leftL ws' ns').length = M := ⟨_, rfl⟩
      obtain ⟨L5, hL5⟩ : ∃ M, (lostL (woAll ws' (lostL ws' ns')) (leftL ws' ns')).length = M := ⟨_, rfl⟩
      have mM1 : M1 ≤ NW := by rw [← hM1, ← H1.out]; exact woAll_len _ _
      have mM3 : M3 < NN := by rw [← hM3, ← H2.out]; exact hlt
      have HM1 : Hid (_ = M1) := hM1
      have HM3 : Hid (_ = M3) := hM3
      have HL5 : Hid (_ = L5) := hL5
      clear hM1 hM3 hL5
      have hcon := woE_any xw yw ws' xl yl (lostL ws' ns') wr hW (by rw [H1.out]; exact hFw) hLo mW mL
      rw [HM1.out, H1.out, HL.out] at hcon
      obtain ⟨cR0, cR1, cR2, cR3, cR4, cR5⟩ := BR0.c6
      have zR := BR0.1
      obtain ⟨cZ0, cZ1, cZ2, cZ3, cZ4, cZ5⟩ := BZ0.c6
      have zZ := BZ0.1
      have cL0 := (BL0.2 0 _ rfl).1
      have zL := BL0.1
      go_wp2_with fail
      clear cR0 cR1 cR2 cR3 cR4 cR5 zR cZ0 cZ1 cZ2 cZ3 cZ4 cZ5 zZ cL0 zL
      refine (hcon).mono ?_
      rintro e w1 ⟨a1, c1, rfl, hW1, hF1, hhi1, hb1⟩
      have sz1 : wr.heap.size ≤ w1.heap.size := hb1.size
      have BR1 := BR0.below hb1
      have BZ1 := BZ0.below hb1
      have BL1 := BL0.below hb1
      have bl1 := Below_after bl0 hb1
      clear BR0 BZ0 BL0 bl0
      have lw1 := BL1.1
      have oW1 : woAll ws' (lostL ws' ns') = [] ∨ OffA w.heap.size BL a1 := by
        rcases hhi1 with rfl | hh
        · rcases oW with e | o
          · exact .inl (List.eq_nil_of_length_eq_zero (by have := woAll_len (lostL ws' ns') ws'; rw [e] at this ⊢; simpa using this))
          · exact .inr o
        · exact .inr (off_hi hh (by have := gy0; omega) gz0)
      have HXW1 : Hid (a1 = aw ∨ HiA w.heap.size a1) := by
        rcases hhi1 with rfl | hh
        · exact HXW.out
        · exact .inr (fun ad had => Nat.le_trans hsz0 (hh ad had))
      clear hcon hhi1 hW HXW
      replace hNs := hNs.below hb1
      replace hLo := hLo.below hb1
      obtain ⟨cR0, fR0, cR1, fR1, cR2, fR2, cR3, fR3, cR4, fR4, cR5, fR5⟩ := BR1.cf6
      have zR := BR1.1
      obtain ⟨cZ0, cZ1, cZ2, cZ3, cZ4, cZ5⟩ := BZ1.c6
      have zZ := BZ1.1
      have cL0 := (BL1.2 0 _ rfl).1
      have zL := BL1.1
      go_wp2_with fail
      clear cR0 fR0 cR1 fR1 cR2 fR2 cR3 fR3 cR4 fR4 cR5 fR5 zR cZ0 cZ1 cZ2 cZ3 cZ4 cZ5 zZ cL0 zL
      replace hW1 := hW1.setOff oW1 (.inl rfl) 0 (.slice a1 M1 c1)
      replace hNs := hNs.setOff oN (.inl rfl) 0 (.slice a1 M1 c1)
      replace hLo := hLo.setOff oL (.inl rfl) 0 (.slice a1 M1 c1)
      have BR2 := BR1.set 0 (.slice a1 M1 c1)
      simp only [List.set_cons_zero, List.set_cons_succ] at BR2
      have BZ2 := BZ1.other (b' := w.heap.size) (by first | omega | (have := BR1.1; have := BZ1.1; omega)) 0 (.slice a1 M1 c1)
      have BL2 := BL1.other (b' := w.heap.size) (by first | omega | (have := BR1.1; have := BL1.1; omega)) 0 (.slice a1 M1 c1)
      have bl2 := bl1.setCell (p := ⟨w.heap.size, 0, none⟩) (by show w.heap.size ≤ w.heap.size; omega) (.slice a1 M1 c1)
      clear BR1 BZ1 BL1 bl1
      generalize hg : (w1.setCell ⟨w.heap.size, 0, none⟩ (.slice a1 M1 c1)) = w2 at BR2 BZ2 BL2 bl2 hW1 hNs hLo ⊢
      clear hg
      have gz2 := BL2.1
      have gy2 := BZ2.1
      have hcl : w2.cell? ⟨BL, 0, none⟩ = some (.slice xl (lostL ws' ns').length yl) := by rw [HL.out]; exact (BL2.2 0 _ rfl).1
      have hcon := leave_n xn yn ns' (fun n => (lostL ws' ns').any (sameN n)) 78 #[.pointer (some ⟨BL, 0, none⟩)] eg_a w2 (sweep1 xl yl (lostL ws' ns') BL w2 hcl BL2.1 hLo (by omega)) hNs (by omega)
      rw [left_eq, HM3.out, H2.out] at hcon
      clear hcl
      refine (hcon).mono ?_
      rintro e w3 ⟨v3, rfl, ho3, hb3⟩
      have sz3 : w2.heap.size ≤ w3.heap.size := hb3.size
      rw [← HM3.out] at ho3
      obtain ⟨a3, c3, hv3, hN3, hF3⟩ := nrow_at ho3
      rw [HM3.out] at hv3
      subst hv3
      have oN3 : leftL ws' ns' = [] ∨ OffA w.heap.size BL a3 := .inr (off_hi (hi_of_row ho3) (by omega) (by omega))
      clear ho3 hcon hNs hLo
      have BR3 := BR2.below hb3
      have BZ3 := BZ2.below hb3
      have BL3 := BL2.below hb3
      have bl3 := Below_after bl2 hb3
      clear BR2 BZ2 BL2 bl2
      have lw3 := BL3.1
      replace hW1 := hW1.below hb3
      obtain ⟨cR0, fR0, cR1, fR1, cR2, fR2, cR3, fR3, cR4, fR4, cR5, fR5⟩ := BR3.cf6
      have zR := BR3.1
      obtain ⟨cZ0, cZ1, cZ2, cZ3, cZ4, cZ5⟩ := BZ3.c6
      have zZ := BZ3.1
      have cL0 := (BL3.2 0 _ rfl).1
      have zL := BL3.1
      go_wp2_with fail
      clear cR0 fR0 cR1 fR1 cR2 fR2 cR3 fR3 cR4 fR4 cR5 fR5 zR cZ0 cZ1 cZ2 cZ3 cZ4 cZ5 zZ cL0 zL
      replace hW1 := hW1.setOff oW1 (.inl rfl) 3 (.slice a3 M3 c3)
      replace hN3 := hN3.setOff oN3 (.inl rfl) 3 (.slice a3 M3 c3)
      have BR4 := BR3.set 3 (.slice a3 M3 c3)
      simp only [List.set_cons_zero, List.set_cons_succ] at BR4
      have BZ4 := BZ3.other (b' := w.heap.size) (by first | omega | (have := BR3.1; have := BZ3.1; omega)) 3 (.slice a3 M3 c3)
      have BL4 := BL3.other (b' := w.heap.size) (by first | omega | (have := BR3.1; have := BL3.1; omega)) 3 (.slice a3 M3 c3)
      have bl4 := bl3.setCell (p := ⟨w.heap.size, 3, none⟩) (by show w.heap.size ≤ w.heap.size; omega) (.slice a3 M3 c3)
      clear BR3 BZ3 BL3 bl3
      generalize hg : (w3.setCell ⟨w.heap.size, 3, none⟩ (.slice a3 M3 c3)) = w4 at BR4 BZ4 BL4 bl4 hW1 hN3 ⊢
      clear hg
      have gz4 := BL4.1
      have gy4 := BZ4.1
      have hr5 : RmAt w4 a1 at_ ah a3 c1 ct ch c3 ⟨woAll ws' (lostL ws' ns'), r.ts, r.hs, leftL ws' ns', r.nw, r.nt⟩ := ⟨hW1, hr.t.below bl4, hr.h.below bl4, hN3, by show Fit (woAll ws' (lostL ws' ns')).length c1; rw [HM1.out]; exact hF1, hr.ft, hr.fh, hF3⟩
      have hz5 : RmSz ⟨woAll ws' (lostL ws' ns'), r.ts, r.hs, leftL ws' ns', r.nw, r.nt⟩ := ⟨by show (woAll ws' (lostL ws' ns')).length ≤ 1000; rw [HM1.out]; omega, hz.t, hz.h, by show (leftL ws' ns').length ≤ 1000; rw [HM3.out]; omega, hz.nw, hz.nt⟩
      have hcon := lostN_any a1 at_ ah a3 c1 ct ch c3 ⟨woAll ws' (lostL ws' ns'), r.ts, r.hs, leftL ws' ns', r.nw, r.nt⟩ w4 hr5 hz5 L5 HL5.out
      dsimp only at hcon
      rw [HM1.out, HM3.out] at hcon
      clear hr5 hz5
      refine (hcon).mono ?_
      rintro e w5 ⟨a6, c6, rfl, hLo6, -, hhi6, hb5⟩
      have sz5 : w4.heap.size ≤ w5.heap.size := hb5.size
      clear hcon
      have BR5 := BR4.below hb5
      have BZ5 := BZ4.below hb5
      have BL5 := BL4.below hb5
      have bl5 := Below_after bl4 hb5
      clear BR4 BZ4 BL4 bl4
      have lw5 := BL5.1
      have oL6 : lostL (woAll ws' (lostL ws' ns')) (leftL ws' ns') = [] ∨ OffA w.heap.size BL a6 := .inr (off_hi hhi6 (by omega) (by omega))
      clear hhi6
      replace hW1 := hW1.below hb5
      replace hN3 := hN3.below hb5
      obtain ⟨cR0, cR1, cR2, cR3, cR4, cR5⟩ := BR5.c6
      have zR := BR5.1
      obtain ⟨cZ0, cZ1, cZ2, cZ3, cZ4, cZ5⟩ := BZ5.c6
      have zZ := BZ5.1
      have cL0 := (BL5.2 0 _ rfl).1
      have fL0 := (BL5.2 0 _ rfl).2
      have zL := BL5.1
      go_wp2_with fail
      clear cR0 cR1 cR2 cR3 cR4 cR5 zR cZ0 cZ1 cZ2 cZ3 cZ4 cZ5 zZ cL0 fL0 zL
      replace hW1 := hW1.setOff oW1 (.inr (.inr rfl)) 0 (.slice a6 L5 c6)
      replace hN3 := hN3.setOff oN3 (.inr (.inr rfl)) 0 (.slice a6 L5 c6)
      replace hLo6 := hLo6.setOff oL6 (.inr (.inr rfl)) 0 (.slice a6 L5 c6)
      have BR6 := BR5.other (b' := BL) (by first | omega | (have := BL5.1; have := BR5.1; omega)) 0 (.slice a6 L5 c6)
      have BZ6 := BZ5.other (b' := BL) (by first | omega | (have := BL5.1; have := BZ5.1; omega)) 0 (.slice a6 L5 c6)
      have BL6 := BL5.set 0 (.slice a6 L5 c6)
      simp only [List.set_cons_zero, List.set_cons_succ] at BL6
      have bl6 := bl5.setCell (p := ⟨BL, 0, none⟩) (by show w.heap.size ≤ BL; omega) (.slice a6 L5 c6)
      clear BR5 BZ5 BL5 bl5
      have e1 := (BR6.2 3 _ rfl).1
      go_roundw
      case rel => exact ⟨woAll ws' (lostL ws' ns'), leftL ws' ns', fuel - 1, a1, a3, a6, c1, c3, c6, L5, M1, M3, HS2, (show Hid _ from ⟨HM1.out, HM3.out, by omega, by omega⟩), (show Hid _ from ⟨hW1, hN3, hLo6, hF1, by rw [HM3.out] at hF3; exact hF3⟩), HL5, HXW1, (show Hid _ from ⟨oW1, oN3, oL6⟩), BR6, BZ6, BL6, bl6⟩
      case measure => rw [e1, HcR.out]; simp [sliceLen]; omega
end Go.Proofs.YtddgpgldbekamaaGreat
