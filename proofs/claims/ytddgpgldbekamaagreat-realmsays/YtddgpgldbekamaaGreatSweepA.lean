/- realm.withoutEnclosed, forget, lostNotes and the closures of sweep (E4), as the landed code has them. -/
import Derived.Test.YtddgpgldbekamaaGreatContW
import Derived.Test.YtddgpgldbekamaaGreatThingsW
import Derived.Test.YtddgpgldbekamaaGreatCloneW
set_option linter.unusedSimpArgs false
set_option linter.unnecessarySimpa false
set_option linter.unusedVariables false
namespace Go.Proofs.YtddgpgldbekamaaGreat
open Go.RowKit Go.Shelf


/-- an address lies from a block on -/
def HiA (n : Nat) (a : Option Addr) : Prop := ∀ ad, a = some ad → n ≤ ad.block
theorem HiA.mono {k k' : Nat} {a : Option Addr} (h : HiA k a) (hle : k' ≤ k) : HiA k' a := fun ad had => Nat.le_trans hle (h ad had)
theorem hi_of_row {w : World} {base : Nat} {e : TypeId} {size : Nat} {a : Option Addr} {n c m : Nat} {xs : List Value} (h : w.ownsRow base e size (.slice a n c) m xs) : HiA base a := by
  intro ad had
  subst had
  exact (h.lt ad.block rfl).1
/-! ### withoutEnclosed -/
theorem woAll_snoc (ws : List Wr) (ns : List Nt) (k : Nat) (n : Nt) (h : ns[k]? = some n) : woAll ws (ns.take (k + 1)) = withoutL (woAll ws (ns.take k)) n.writ := by
  unfold woAll
  rw [List.take_add_one, h]
  simp
theorem woAll_len (ns : List Nt) : ∀ ws : List Wr, (woAll ws ns).length ≤ ws.length := by
  induction ns with
  | nil => intro ws; exact Nat.le_refl _
  | cons n r ih =>
    intro ws
    have := ih (withoutL ws n.writ)
    have h2 := withoutLen ws n.writ
    show (woAll (withoutL ws n.writ) r).length ≤ _
    omega
set_option maxHeartbeats 2000000 in
set_option maxRecDepth 100000 in
theorem woE_some (a : Option Addr) (c : Nat) (ws : List Wr) (b o c2 : Nat) (ns : List Nt) (w : World) (hw : WrsAt w a ws) (hf : Fit ws.length c) (hn : ∀ j x, ns[j]? = some x → NtAt w b (o + j * 4) x) (hb : b < w.heap.size) (hm : ws.length ≤ 1000) (hm2 : ns.length ≤ 1000) :
    Calls Tryz.prog 40 #[.slice a ws.length c, .slice (some ⟨b, o, none⟩) ns.length c2] w fun e w' => ∃ a' c', e = .returned (.slice a' (woAll ws ns).length c') ∧ WrsAt w' a' (woAll ws ns) ∧ Fit (woAll ws ns).length c' ∧ (a' = a ∨ HiA w.heap.size a') ∧ Below w.heap.size w w' := by
  go_enter Tryz.func40, Tryz.ntmps40
  go_wp2_with fail
  go_loopw [0, 6, 9] (fun v _ i wr => ∃ k : Nat, k ≤ ns.length ∧ i = .int .i64 k ∧ (∃ a' c' L, v = .slice a' L c' ∧ Hid (L = (woAll ws (ns.take k)).length) ∧ Hid (WrsAt wr a' (woAll ws (ns.take k))) ∧ Hid (Fit (woAll ws (ns.take k)).length c') ∧ Hid (a' = a ∨ HiA w.heap.size a')) ∧ Below w.heap.size w wr) (fun _ _ i _ => ns.length - (intOf i).toNat)
  case atStart => exact ⟨0, Nat.zero_le _, rfl, ⟨a, c, _, rfl, show Hid _ from rfl, hw, hf, (show Hid _ from .inl rfl)⟩, Below.refl _ _⟩
  case round =>
    obtain ⟨k, hk, rfl, ⟨a', c', L, rfl, hL, hat, hfit, hhi⟩, hbl⟩ := hrel
    by_cases hlt : k < ns.length
    · obtain ⟨x, hx⟩ : ∃ x, ns[k]? = some x := ⟨ns[k], List.getElem?_eq_getElem hlt⟩
      obtain ⟨q0, q1, q2, q3⟩ := (hn k x hx).below hbl hb
      have hbz : b < wr.heap.size := Nat.lt_of_lt_of_le hb hbl.size
      have HX : Hid (ns[k]? = some x) := hx
      have hlen : (woAll ws (ns.take k)).length ≤ 1000 := Nat.le_trans (woAll_len _ _) hm
      have hcon := without_any a' c' (woAll ws (ns.take k)) x.writ _ (hat.out.below ((Below.refl _ wr).alloc (Nat.le_refl _) (.cells #[.int .i64 x.port, .string x.data, .int .i64 x.badge, .int .i64 x.writ] 52))) hlen
      rw [← hL.out] at hcon
      clear hn hx hlen
      go_wp2_with fail
      refine hcon.mono ?_
      rintro e w1 ⟨v, rfl, hrow, hb1⟩
      obtain ⟨a2, c2', hv, hat2, hf2⟩ := wrow_at hrow
      obtain ⟨L2, hL2⟩ : ∃ L, L = (withoutL (woAll ws (ns.take k)) x.writ).length := ⟨_, rfl⟩
      rw [← hL2] at hv
      subst hv
      have HHI : Hid (a2 = a ∨ HiA w.heap.size a2) := .inr (fun ad had => Nat.le_trans hbl.size (Nat.le_trans (by simp) (hi_of_row hrow ad had)))
      have bl1 := Below_after (hbl.alloc hbl.size _) hb1
      have HL2 : Hid (L2 = (woAll ws (ns.take (k + 1))).length) := by show _ = _; rw [woAll_snoc ws ns k x HX.out]; exact hL2
      have HA2 : Hid (WrsAt w1 a2 (woAll ws (ns.take (k + 1)))) := by show WrsAt _ _ _; rw [woAll_snoc ws ns k x HX.out]; exact hat2
      have HF2 : Hid (Fit (woAll ws (ns.take (k + 1))).length c2') := by show Fit _ _; rw [woAll_snoc ws ns k x HX.out]; exact hf2
      clear hcon hrow hb1 hat2 hf2 hL2
      go_wp2_with fail
      go_roundw
      case rel => exact ⟨k + 1, by omega, by go_num, ⟨a2, c2', L2, rfl, HL2, HA2, HF2, HHI⟩, bl1⟩
      case measure => simp [intOf]; omega
    · have e : ns.take k = ns := List.take_of_length_le (by omega)
      rw [e] at hL hat hfit
      clear hn e
      go_wp2_with fail
      go_ret
      exact ⟨a', c', by rw [← hL.out]; rfl, hat.out, hfit.out, hhi.out, hbl⟩
theorem woE_any (a : Option Addr) (c : Nat) (ws : List Wr) (a2 : Option Addr) (c2 : Nat) (ns : List Nt) (w : World) (hw : WrsAt w a ws) (hf : Fit ws.length c) (hn : NtsAt w a2 ns) (hm : ws.length ≤ 1000) (hm2 : ns.length ≤ 1000) :
    Calls Tryz.prog 40 #[.slice a ws.length c, .slice a2 ns.length c2] w fun e w' => ∃ a' c', e = .returned (.slice a' (woAll ws ns).length c') ∧ WrsAt w' a' (woAll ws ns) ∧ Fit (woAll ws ns).length c' ∧ (a' = a ∨ HiA w.heap.size a') ∧ Below w.heap.size w w' := by
  rcases hn with rfl | ⟨b, o, rfl, hb, hx⟩
  · go_enter Tryz.func40, Tryz.ntmps40
    go_wp2_with fail
    refine wp_loop_rounds 1 ?_
    rw [rounds_succ]
    go_wp2_with fail
    go_ret
    exact ⟨a, c, rfl, hw, hf, .inl rfl, Below.refl _ _⟩
  · exact woE_some a c ws b o c2 ns w hw hf hx hb hm hm2
/-! ### forget -/
theorem flat_forget (ws : List Wr) (ns : List Nt) (k : Nat) (x : Nt) (hx : ns[k]? = some x) (ys : List Nt) (hy : ys.length = ns.length) (hyk : ys[k]? = some x) : (ys.set k ⟨x.port, x.data, x.badge, 0⟩).flatMap ncells = (ys.flatMap ncells).set (k * 4 + 3) (.int .i64 0) := by
  clear hx hy
  induction ys generalizing k with
  | nil => simp at hyk
  | cons y r ih =>
    cases k with
    | zero =>
      have : y = x := by simpa using hyk
      subst this
      simp [ncells]
    | succ k =>
      have := ih k (by simpa using hyk)
      simp only [List.set_cons_succ, List.flatMap_cons, this]
      rw [List.set_append_right _ _ (by simp only [ncells, List.length_cons, List.length_nil]; omega)]
      congr 2
      simp only [ncells, List.length_cons, List.length_nil]; omega
/-- those ahead of a place are forgotten, the others as they were -/
def fgt (ws : List Wr) (ns : List Nt) (k : Nat) : List Nt := (ns.take k).map (forgetN ws) ++ ns.drop k
theorem fgt_len (ws : List Wr) (ns : List Nt) (k : Nat) : (fgt ws ns k).length = ns.length := by
  unfold fgt; rw [List.length_append, List.length_map, List.length_take, List.length_drop]; omega
theorem fgt_at (ws : List Wr) (ns : List Nt) (k : Nat) (x : Nt) (hx : ns[k]? = some x) : (fgt ws ns k)[k]? = some x := by
  have hl : k < ns.length := (List.getElem?_eq_some_iff.1 hx).1
  unfold fgt
  rw [List.getElem?_append_right (by rw [List.length_map, List.length_take]; omega), List.length_map, List.length_take, Nat.min_eq_left (by omega), List.getElem?_drop]
  simpa using hx
theorem fgt_succ (ws : List Wr) (ns : List Nt) (k : Nat) (x : Nt) (hx : ns[k]? = some x) : fgt ws ns (k + 1) = (fgt ws ns k).set k (forgetN ws x) := by
  have hl : k < ns.length := (List.getElem?_eq_some_iff.1 hx).1
  have hd : ns.drop k = x :: ns.drop (k + 1) := by
    rw [List.drop_eq_getElem_cons hl]
    congr 1
    have := (List.getElem?_eq_some_iff.1 hx).2
    exact this
  unfold fgt
  rw [List.take_add_one, hx, hd, List.set_append_right _ _ (by rw [List.length_map, List.length_take]; omega), List.length_map, List.length_take, Nat.min_eq_left (by omega), Nat.sub_self]
  simp
theorem fgt_keep (ws : List Wr) (ns : List Nt) (k : Nat) (x : Nt) (hx : ns[k]? = some x) (h : forgetN ws x = x) : fgt ws ns (k + 1) = fgt ws ns k := by
  rw [fgt_succ ws ns k x hx, h]
  have := fgt_at ws ns k x hx
  apply List.ext_getElem?
  intro i
  by_cases e : i = k
  · subst e
    rw [this, List.getElem?_set_self (List.getElem?_eq_some_iff.1 this).1]
  · rw [List.getElem?_set_ne (Ne.symm e)]
set_option maxHeartbeats 2000000 in
set_option maxRecDepth 100000 in
theorem forget_any (a : Option Addr) (c : Nat) (ns : List Nt) (a2 : Option Addr) (c2 : Nat) (ws : List Wr) (w : World) (hn : NtsAt w a ns) (hw : WrsAt w a2 ws) (hm : ws.length ≤ 1000) (hm2 : ns.length ≤ 1000) :
    Calls Tryz.prog 86 #[.slice a ns.length c, .slice a2 ws.length c2] w fun e w' => ∃ a' c', e = .returned (.slice a' ns.length c') ∧ NtsAt w' a' (ns.map (forgetN ws)) ∧ Fit ns.length c' ∧ HiA w.heap.size a' ∧ Below w.heap.size w w' := by
  go_enter Tryz.func86, Tryz.ntmps86
  go_wp2_with fail
  refine (clone_n a c ns w hn (by omega)).mono ?_
  rintro e w1 ⟨v, rfl, ho, hb1⟩
  rcases row_open ho with ⟨rfl, rfl⟩ | ⟨g, cap, rfl, hbg, hg, hfit, -⟩
  · clear ho
    go_wp2_with fail
    refine wp_loop_rounds 1 ?_
    rw [rounds_succ]
    go_wp2_with fail
    go_ret
    exact ⟨none, 0, rfl, .inl rfl, by simp [Fit], (fun ad had => by cases had), hb1⟩
  · obtain ⟨hf1, hf2⟩ := hfit
    have HF2 : Hid (cap ≤ maxLen) := hf2
    unfold maxLen at hf2
    clear hn
    go_wp2_with fail
    go_loopw [6, 7, 12] (fun _ _ i wr => ∃ k : Nat, k ≤ ns.length ∧ i = .int .i64 k ∧ Hid (wr.ownsRow w.heap.size 52 4 (.slice (some ⟨g, 0, none⟩) ns.length cap) ns.length ((fgt ws ns k).flatMap ncells)) ∧ Below w.heap.size w wr) (fun _ _ i _ => ns.length - (intOf i).toNat)
    case atStart => exact ⟨0, Nat.zero_le _, rfl, by show World.ownsRow _ _ _ _ _ _ _; unfold fgt; simpa using ho, hb1⟩
    case round =>
      obtain ⟨k, hk, rfl, HO, hbl⟩ := hrel
      clear ho
      by_cases hlt : k < ns.length
      · obtain ⟨x, hx⟩ : ∃ x, ns[k]? = some x := ⟨ns[k], List.getElem?_eq_getElem hlt⟩
        have HX : Hid (ns[k]? = some x) := hx
        have hget : ∀ q u, q < 4 → (ncells x)[q]? = some u → wr.cell? ⟨g, k * 4 + q, none⟩ = some u := by
          intro q u hq hu
          rw [HO.out.cellAt (k * 4 + q) (by omega), flat_get ncells 4 (fun _ => rfl) _ k q x (fgt_at ws ns k x hx) hq]; exact hu
        have q0 := hget 0 _ (by omega) (by rfl : (ncells x)[0]? = some (.int .i64 x.port))
        have q1 := hget 1 _ (by omega) (by rfl : (ncells x)[1]? = some (.string x.data))
        have q2 := hget 2 _ (by omega) (by rfl : (ncells x)[2]? = some (.int .i64 x.badge))
        have q3 := hget 3 _ (by omega) (by rfl : (ncells x)[3]? = some (.int .i64 x.writ))
        simp only [Nat.add_zero] at q0
        have hgz : g < wr.heap.size := (HO.out.lt g rfl).2
        have hat := hw.below (hbl.alloc hbl.size (.cells #[.int .i64 x.port, .string x.data, .int .i64 x.badge, .int .i64 x.writ] 52))
        clear hget hx
        go_wp2_with fail
        refine (find_any a2 c2 ws x.writ _ hat (by omega)).mono ?_
        rintro e w2 ⟨rfl, hb2⟩
        have bl2 := Below_after (hbl.alloc hbl.size _) hb2
        have HO2 : Hid (w2.ownsRow w.heap.size 52 4 (.slice (some ⟨g, 0, none⟩) ns.length cap) ns.length ((fgt ws ns k).flatMap ncells)) := ownsRow_after (HO.out.alloc _) hb2
        have p3 : w2.cell? ⟨g, k * 4 + 3, none⟩ = some (.int .i64 x.writ) := by rw [(bcell hb2).1 _ _ (by simp; omega), World.cell?_alloc_past _ _ _ hgz]; exact q3
        have f3 := HO2.out.frozenAt (k * 4 + 3)
        have hz2 : g < w2.heap.size := (HO2.out.lt g rfl).2
        clear q0 q1 q2 q3 hat hb2 HO
        by_cases hf : find ws x.writ < 0
        · have hfx : Hid (forgetN ws x = ⟨x.port, x.data, x.badge, 0⟩) := by show _ = _; unfold forgetN; rw [if_pos hf]
          generalize find ws x.writ = ff at *
          go_wp2_with fail
          go_roundw
          case rel =>
            refine ⟨k + 1, by omega, by go_num, ?_, bl2.setCell (p := ⟨g, k * 4 + 3, none⟩) hbg (.int .i64 0)⟩
            show World.ownsRow _ _ _ _ _ _ _
            rw [fgt_succ ws ns k x HX.out, hfx.out, flat_forget ws ns k x HX.out _ (fgt_len ws ns k) (fgt_at ws ns k x HX.out)]
            exact (HO2.out.stored (k * 4 + 3) (.int .i64 0)).1
          case measure => simp [intOf]; omega
        · have hfx : Hid (forgetN ws x = x) := by show _ = _; unfold forgetN; rw [if_neg hf]
          generalize find ws x.writ = ff at *
          go_wp2_with fail
          go_roundw
          case rel => exact ⟨k + 1, by omega, by go_num, by show World.ownsRow _ _ _ _ _ _ _; rw [fgt_keep ws ns k x HX.out hfx.out]; exact HO2.out, bl2⟩
          case measure => simp [intOf]; omega
      · have e : (fgt ws ns k) = ns.map (forgetN ws) := by unfold fgt; rw [List.take_of_length_le (by omega), List.drop_of_length_le (by omega), List.append_nil]
        have HR := HO.out
        rw [e, show ns.length = (ns.map (forgetN ws)).length by simp] at HR
        obtain ⟨a', c', hv, hat, -⟩ := nrow_at HR
        simp only [Value.slice.injEq] at hv
        obtain ⟨ha, -, -⟩ := hv
        subst ha
        have HA : Hid (NtsAt wr (some ⟨g, 0, none⟩) (ns.map (forgetN ws))) := hat
        clear HO HR hat e
        go_wp2_with fail
        go_ret
        exact ⟨_, cap, rfl, HA.out, ⟨hf1, HF2.out⟩, (fun ad had => by cases had; exact hbg), hbl⟩
end Go.Proofs.YtddgpgldbekamaaGreat
