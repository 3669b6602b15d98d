/- The document's own disk (writkeepref.Disk), where it lies: step, Read, noughts walked. -/
import Derived.Test.YtjhkabhhlpdpaaaLogO
set_option linter.unusedVariables false
set_option linter.unusedSimpArgs false
set_option linter.unnecessarySimpa false
namespace Go.Proofs.Ytjhkabhhlpdpaaa
open Go.RowKit

def tuV (x : Nat × List UInt8) : List Value := [.int .i64 (x.1 : Int), .string (strOf x.2)]
theorem tuV_one (x : Nat × List UInt8) : ∀ u ∈ tuV x, u.oneCell' = true := by intro u hu; simp [tuV] at hu; rcases hu with rfl | rfl <;> rfl
@[reducible] def rcells (vk vn vw : Value) (fu : Int) (dn : Bool) : Array Value := #[vk, vn, vw, .int .i64 fu, .bool dn]
/-- the greater one of n and -1 -/
def fuI (n : Int) : Int := if -1 > n then -1 else n
structure RdC (w : World) (m : Nat) (vk vn vw : Value) (d : Dk) (fu : Int) : Prop where
  hp : w.heap[m]? = some (.cells (rcells vk vn vw fu d.down) 52 (0, 0))
  hk : w.ownsRow 0 9 1 vk d.kept.length (strV d.kept)
  hn : w.ownsRow 0 9 1 vn d.now.length (strV d.now)
  hw : w.ownsRow 0 98 2 vw d.wr.length (d.wr.flatMap tuV)
  dkn : Dist vk vn
  ok : DkOk d
  lo : -1 ≤ fu
  hi : fu ≤ 9223372036854775807
  fr : d.down = true ∨ fu = fuI d.left
def rdF (m : Nat) (vk vn vw : Value) : Nat → Prop := fun k => k = m ∨ vk.ownBlock = some k ∨ vn.ownBlock = some k ∨ vw.ownBlock = some k
def RdO (w : World) (B : Nat → Prop) (m : Nat) (d : Dk) (fu : Int) : Prop := ∃ vk vn vw, RdC w m vk vn vw d fu ∧ B = rdF m vk vn vw
section
variable {w w' : World} {m : Nat} {vk vn vw : Value} {d : Dk} {fu : Int}
theorem own_tag {base : Nat} {e : TypeId} {size : Nat} {v : Value} {n : Nat} {xs : List Value} (h : w.ownsRow base e size v n xs) {k : Nat} {cs : Array Value} {t : TypeId} (hk : w.heap[k]? = some (.cells cs t (0, 0))) (ht : t ≠ e) : v.ownBlock ≠ some k := by
  rcases h.2 with ⟨rfl, _⟩ | ⟨g, cap, cur, rfl, _, hg, _⟩
  · simp [Value.ownBlock]
  · intro e'
    simp only [Value.ownBlock, Option.some.injEq] at e'
    subst e'
    rw [hg] at hk
    simp at hk
    exact ht hk.2.symm
theorem RdC.nk (h : RdC w m vk vn vw d fu) : vk.ownBlock ≠ some m := own_tag h.hk h.hp (by decide)
theorem RdC.nn (h : RdC w m vk vn vw d fu) : vn.ownBlock ≠ some m := own_tag h.hn h.hp (by decide)
theorem RdC.nw (h : RdC w m vk vn vw d fu) : vw.ownBlock ≠ some m := own_tag h.hw h.hp (by decide)
theorem RdC.cells (h : RdC w m vk vn vw d fu) : w.cell? ⟨m, 0, none⟩ = some vk ∧ w.cell? ⟨m, 1, none⟩ = some vn ∧ w.cell? ⟨m, 2, none⟩ = some vw ∧ w.cell? ⟨m, 3, none⟩ = some (.int .i64 fu) ∧ w.cell? ⟨m, 4, none⟩ = some (.bool d.down) := by
  refine ⟨?_, ?_, ?_, ?_, ?_⟩ <;> · rw [cell_of_row w m _ _ _ _ h.hp]; rfl
theorem RdC.free (h : RdC w m vk vn vw d fu) (j : Nat) : w.frozen? ⟨m, j, none⟩ = false := frozen_of_row w m j _ _ h.hp
theorem RdC.same (h : RdC w m vk vn vw d fu) (hb : ∀ k, rdF m vk vn vw k → w'.heap[k]? = w.heap[k]?) : RdC w' m vk vn vw d fu :=
  ⟨(hb m (.inl rfl)).trans h.hp, own_keep h.hk (fun k hk => hb k (.inr (.inl hk))), own_keep h.hn (fun k hk => hb k (.inr (.inr (.inl hk)))), own_keep h.hw (fun k hk => hb k (.inr (.inr (.inr hk)))), h.dkn, h.ok, h.lo, h.hi, h.fr⟩
theorem RdC.lt (h : RdC w m vk vn vw d fu) : Lt (rdF m vk vn vw) w := by
  intro k hk
  rcases hk with rfl | hk | hk | hk
  · exact heap_lt h.hp
  · exact (h.hk.lt k hk).2
  · exact (h.hn.lt k hk).2
  · exact (h.hw.lt k hk).2
theorem RdC.below (h : RdC w m vk vn vw d fu) (hb : Below w.heap.size w w') : RdC w' m vk vn vw d fu := h.same (fun k hk => hb.block k (h.lt k hk))
theorem RdC.made {w : World} {m : Nat} {vk vn vw : Value} {fu : Int} {dn : Bool} (hp : w.heap[m]? = some (.cells (rcells vk vn vw fu dn) 52 (0, 0))) (j : Nat) (u : Value) {vk' vn' vw' : Value} {d' : Dk} {fu' : Int} (he : (rcells vk vn vw fu dn).setIfInBounds j u = rcells vk' vn' vw' fu' d'.down)
    (hk : w.ownsRow 0 9 1 vk' d'.kept.length (strV d'.kept)) (hn : w.ownsRow 0 9 1 vn' d'.now.length (strV d'.now)) (hw : w.ownsRow 0 98 2 vw' d'.wr.length (d'.wr.flatMap tuV)) (hd : Dist vk' vn') (ok : DkOk d') (lo : -1 ≤ fu') (hi : fu' ≤ 9223372036854775807) (fr : d'.down = true ∨ fu' = fuI d'.left) : RdC (w.setCell ⟨m, j, none⟩ u) m vk' vn' vw' d' fu' := by
  refine ⟨?_, ?_, ?_, ?_, hd, ok, lo, hi, fr⟩
  · rw [setCell_eq_setRow w m j _ _ _ _ hp, setRow_heap w m _ _ _ _ hp, he]
  · exact ownsRow_set_other hk (own_tag hk hp (by decide)) j u
  · exact ownsRow_set_other hn (own_tag hn hp (by decide)) j u
  · exact ownsRow_set_other hw (own_tag hw hp (by decide)) j u
/-- a cell of its own is set -/
theorem RdC.put (h : RdC w m vk vn vw d fu) (j : Nat) (u : Value) {vk' vn' vw' : Value} {d' : Dk} {fu' : Int} (he : (rcells vk vn vw fu d.down).setIfInBounds j u = rcells vk' vn' vw' fu' d'.down)
    (hk : w.ownsRow 0 9 1 vk' d'.kept.length (strV d'.kept)) (hn : w.ownsRow 0 9 1 vn' d'.now.length (strV d'.now)) (hw : w.ownsRow 0 98 2 vw' d'.wr.length (d'.wr.flatMap tuV)) (hd : Dist vk' vn') (ok : DkOk d') (lo : -1 ≤ fu') (hi : fu' ≤ 9223372036854775807) (fr : d'.down = true ∨ fu' = fuI d'.left) : RdC (w.setCell ⟨m, j, none⟩ u) m vk' vn' vw' d' fu' := RdC.made h.hp j u he hk hn hw hd ok lo hi fr
end
theorem RdO.same {w w' : World} {B : Nat → Prop} {m : Nat} {d : Dk} {fu : Int} (h : RdO w B m d fu) (hk : ∀ k, B k → w'.heap[k]? = w.heap[k]?) : RdO w' B m d fu := by
  obtain ⟨vk, vn, vw, h, rfl⟩ := h
  exact ⟨vk, vn, vw, h.same hk, rfl⟩
theorem RdO.lt {w : World} {B : Nat → Prop} {m : Nat} {d : Dk} {fu : Int} (h : RdO w B m d fu) : Lt B w := by
  obtain ⟨vk, vn, vw, h, rfl⟩ := h
  exact h.lt
theorem RdO.below {w w' : World} {B : Nat → Prop} {m : Nat} {d : Dk} {fu : Int} (h : RdO w B m d fu) (hb : Below w.heap.size w w') : RdO w' B m d fu := h.same (fun k hk => hb.block k (h.lt k hk))
theorem RdO.past {w w' : World} {B C C' : Nat → Prop} {m : Nat} {d : Dk} {fu : Int} (h : RdO w B m d fu) (ht : Tr C C' w w') (hd : Dj C B) : RdO w' B m d fu := h.same (ht.keep hd h.lt)
theorem RdO.ok {w : World} {B : Nat → Prop} {m : Nat} {d : Dk} {fu : Int} (h : RdO w B m d fu) : DkOk d := by obtain ⟨vk, vn, vw, h, -⟩ := h; exact h.ok
theorem fu_step {d : Dk} (lo : -9223372036854775808 ≤ d.left) : (fuI d.left = 0 ↔ d.left = 0) ∧ (0 < fuI d.left ↔ 0 < d.left) ∧ (0 < d.left → fuI (d.left - 1) = fuI d.left - 1) := by
  unfold fuI
  refine ⟨?_, ?_, ?_⟩ <;> split <;> (try split) <;> omega
def stC (d : Dk) : Int := if stepDn d then 10 else 0
set_option maxHeartbeats 1000000 in
set_option maxRecDepth 100000 in
theorem rstep_any (B : Nat → Prop) (m : Nat) (d : Dk) (fu : Int) (w : World) (h : RdO w B m d fu) :
    Calls Try.prog 48 #[.pointer (some ⟨m, 0, none⟩)] w fun e w' => e = .returned (.int .i64 (stC d)) ∧ (∃ fu', RdO w' B m (stepR d) fu') ∧ Tr B B w w' := by
  obtain ⟨vk, vn, vw, h, rfl⟩ := h
  obtain ⟨c0, c1, c2, c3, c4⟩ := h.cells
  have f3 := h.free 3
  have f4 := h.free 4
  have hlt := heap_lt h.hp
  have lo := h.lo
  have hi := h.hi
  have hH : Hid (RdC w m vk vn vw d fu) := h
  cases hdn : d.down
  · rw [hdn] at c4
    have hfu := h.fr.resolve_left (by rw [hdn]; decide)
    obtain ⟨s1, s2, s3⟩ := fu_step h.ok.lo
    by_cases h0 : fu = 0
    · have hl : d.left = 0 := s1.1 (hfu ▸ h0)
      have HS : Hid (stepDn d = true) := by simp [stepDn, hl, Hid]
      have HR : Hid (stepR d = ⟨d.now, d.kept, d.wr, d.left, true⟩) := by show _ = _; unfold stepR; rw [if_pos HS.out]
      have z0 : (fu == 0) = true := by simpa using h0
      clear hfu s1 s2 s3 h hl
      subst h0
      go_enter Try.func48, Try.ntmps48
      go_wp2_with fail
      go_ret
      refine ⟨by unfold stC; rw [if_pos HS.out]; rfl, ⟨-1, vk, vn, vw, ?_, rfl⟩, (Tr.setCell _ (.inl rfl) 4 _).trans (Tr.setCell _ (.inl rfl) 3 _)⟩
      rw [HR.out]
      have hA : RdC (w.setCell ⟨m, 4, none⟩ (.bool true)) m vk vn vw ⟨d.now, d.kept, d.wr, d.left, true⟩ 0 := hH.out.put 4 (.bool true) rfl hH.out.hk hH.out.hn hH.out.hw hH.out.dkn ⟨hH.out.ok.len, hH.out.ok.pos, hH.out.ok.most, hH.out.ok.nows, hH.out.ok.kepts, hH.out.ok.wrs, hH.out.ok.lo, hH.out.ok.hi⟩ (by decide) (by decide) (.inl rfl)
      exact hA.put 3 (.int .i64 (-1)) rfl hA.hk hA.hn hA.hw hA.dkn hA.ok (by decide) (by decide) (.inl rfl)
    · have hl : ¬ d.left = 0 := fun e => h0 (hfu.trans (s1.2 e))
      have HS : Hid (stepDn d = false) := by simp [stepDn, hl, hdn, Hid]
      have z0 : (fu == 0) = false := by simpa using h0
      by_cases hp : 0 < fu
      · have hlp : 0 < d.left := s2.1 (hfu ▸ hp)
        have HR : Hid (stepR d = ⟨d.now, d.kept, d.wr, d.left - 1, false⟩) := by show _ = _; unfold stepR; rw [if_neg (by rw [HS.out]; decide), if_pos hlp]
        have HF : Hid (fu - 1 = fuI (d.left - 1)) := by show _ = _; rw [s3 hlp, hfu]
        have HLO : Hid (-9223372036854775808 ≤ d.left - 1 ∧ d.left - 1 ≤ 9223372036854775807) := by have := h.ok.hi; exact ⟨by omega, by omega⟩
        have HDN : Hid (d.down = false) := hdn
        have dp : decide (0 < fu) = true := decide_eq_true hp
        clear hfu s1 s2 s3 h hl h0 hlp hdn
        go_enter Try.func48, Try.ntmps48
        go_wp2_with fail
        go_ret
        refine ⟨by unfold stC; rw [HS.out]; rfl, ⟨fu - 1, vk, vn, vw, ?_, rfl⟩, Tr.setCell _ (.inl rfl) 3 _⟩
        rw [HR.out]
        have hh := hH.out
        exact hh.put 3 _ (by rw [HDN.out]; rfl) hh.hk hh.hn hh.hw hh.dkn ⟨hh.ok.len, hh.ok.pos, hh.ok.most, hh.ok.nows, hh.ok.kepts, hh.ok.wrs, HLO.out.1, HLO.out.2⟩ (by omega) (by omega) (.inr HF.out)
      · have hlp : ¬ 0 < d.left := fun e => hp (hfu ▸ s2.2 e)
        have HR : Hid (stepR d = d) := by
          show _ = _
          unfold stepR
          rw [if_neg (by rw [HS.out]; decide), if_neg hlp]
          cases d
          dsimp only at hdn
          subst hdn
          rfl
        have dp : decide (0 < fu) = false := decide_eq_false hp
        clear hfu s1 s2 s3 h hl h0 hlp hdn
        go_enter Try.func48, Try.ntmps48
        go_wp2_with fail
        go_ret
        exact ⟨by unfold stC; rw [HS.out]; rfl, ⟨fu, vk, vn, vw, by rw [HR.out]; exact hH.out, rfl⟩, Tr.refl _ _⟩
  · rw [hdn] at c4
    have HS : Hid (stepDn d = true) := by simp [stepDn, hdn, Hid]
    have HR : Hid (stepR d = d) := by
      show _ = _
      unfold stepR
      rw [if_pos HS.out]
      cases d
      dsimp only at hdn
      subst hdn
      rfl
    clear h hdn
    go_enter Try.func48, Try.ntmps48
    go_wp2_with fail
    go_ret
    exact ⟨by unfold stC; rw [if_pos HS.out]; rfl, ⟨fu, vk, vn, vw, by rw [HR.out]; exact hH.out, rfl⟩, Tr.refl _ _⟩
set_option maxHeartbeats 1000000 in
set_option maxRecDepth 100000 in
theorem rread_any (B : Nat → Prop) (m : Nat) (d : Dk) (fu : Int) (at_ : Int) (w : World) (h : RdO w B m d fu) :
    Calls Try.prog 17 #[.pointer (some ⟨m, 0, none⟩), .int .i64 at_] w fun e w' => e = .returned (.tuple #[.string (rdS d at_), .int .i64 (rdC d at_)]) ∧ Below w.heap.size w w' := by
  obtain ⟨vk, vn, vw, h, rfl⟩ := h
  obtain ⟨-, c1, -, -, c4⟩ := h.cells
  have hlt := heap_lt h.hp
  have hn := h.hn
  have hmost := h.ok.most
  cases hdn : d.down
  · rw [hdn] at c4
    by_cases h1 : at_ < 0
    · have d1 : decide (at_ < 0) = true := decide_eq_true h1
      have HC : Hid (rdC d at_ = 1) := by show _ = _; have : hasB2 d at_ = false := by simp [hasB2]; omega
                                          simp [rdC, hdn, this]
      have HV : Hid (rdS d at_ = ⟨#[]⟩) := by show _ = _; unfold rdS; rw [if_neg (by rw [HC.out]; decide)]; rfl
      clear h hdn hn
      go_enter Try.func17, Try.ntmps17
      go_wp2_with fail
      go_ret2
      exact ⟨by rw [HV.out, HC.out]; rfl, Below.refl _ _⟩
    have d1 : decide (at_ < 0) = false := decide_eq_false h1
    by_cases h2 : (d.now.length : Int) ≤ at_
    · have d2 : decide ((d.now.length : Int) ≤ at_) = true := decide_eq_true h2
      have HC : Hid (rdC d at_ = 1) := by show _ = _; have : hasB2 d at_ = false := by simp [hasB2]; omega
                                          simp [rdC, hdn, this]
      have HV : Hid (rdS d at_ = ⟨#[]⟩) := by show _ = _; unfold rdS; rw [if_neg (by rw [HC.out]; decide)]; rfl
      obtain ⟨a, c, rfl⟩ := own_form hn
      clear h hdn hn
      go_enter Try.func17, Try.ntmps17
      go_wp2_with fail
      go_ret2
      exact ⟨by rw [HV.out, HC.out]; rfl, Below.refl _ _⟩
    have d2 : decide ((d.now.length : Int) ≤ at_) = false := decide_eq_false h2
    obtain ⟨k, rfl⟩ : ∃ k : Nat, at_ = k := ⟨at_.toNat, by omega⟩
    have hk : k < d.now.length := by omega
    have HC : Hid (rdC d k = 0) := by show _ = _; have : hasB2 d (k : Int) = true := (hasB2_iff d _).2 ⟨by omega, by omega⟩
                                      simp [rdC, hdn, this]
    have HV : Hid (rdS d k = strOf d.now[k]) := by show _ = _; unfold rdS; rw [if_pos HC.out]; simp [hk]
    obtain ⟨a, c, rfl⟩ := own_form hn
    cases a with
    | none =>
      exfalso
      rcases hn.2 with ⟨-, h0⟩ | ⟨g, cap, cur, e, -⟩
      · omega
      · simp at e
    | some ad =>
      obtain ⟨g, rfl⟩ : ∃ g, ad = ⟨g, 0, none⟩ := by
        rcases hn.2 with ⟨h0, -⟩ | ⟨g, cap, cur, e, -⟩
        · simp at h0
        · simp at e; exact ⟨g, e.1⟩
      have hc : w.cell? ⟨g, k, none⟩ = some (.string (strOf d.now[k])) := own_at hn rfl (by simp [strV, hk])
      have hg := (hn.lt g rfl).2
      clear h hdn hn
      go_enter Try.func17, Try.ntmps17
      go_wp2_with fail
      go_ret2
      exact ⟨by rw [HV.out, HC.out]; rfl, Below.refl _ _⟩
  · rw [hdn] at c4
    have HC : Hid (rdC d at_ = 10) := by show _ = _; simp [rdC, hdn]
    have HV : Hid (rdS d at_ = ⟨#[]⟩) := by show _ = _; unfold rdS; rw [if_neg (by rw [HC.out]; decide)]; rfl
    clear h hdn hn
    go_enter Try.func17, Try.ntmps17
    go_wp2_with fail
    go_ret2
    exact ⟨by rw [HV.out, HC.out]; rfl, Below.refl _ _⟩
set_option maxHeartbeats 1000000 in
set_option maxRecDepth 100000 in
theorem noughts_any (n : Nat) (w : World) (hn : n ≤ 1000) :
    Calls Try.prog 45 #[.int .i64 (n : Int)] w fun e w' => e = .returned (.string (strOf (zeroL n))) ∧ Below w.heap.size w w' := by
  go_enter Try.func45, Try.ntmps45
  have hB : BysAt (w.alloc (.cells (secV (zeroL n)).toArray 5)) w.heap.size (zeroL n) := heap_alloc_last w _
  have hbl := (Below.refl w.heap.size w).alloc (Nat.le_refl _) (.cells (secV (zeroL n)).toArray 5)
  have hcv := run_secString (w.alloc (.cells (secV (zeroL n)).toArray 5)) w.heap.size 0 (zeroL n) n n (by simp [zeroL]) (by have := hB.range; simpa using this)
  clear hB
  go_wp2_with (refine wpList_run (by rfl) (exec_makeBytes _ _ (.tmp 3) n (by omega) _ (by rfl) (by rfl)) ?_)
  go_ret
  exact ⟨rfl, hbl⟩
end Go.Proofs.Ytjhkabhhlpdpaaa
