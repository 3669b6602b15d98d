/- slices.Delete of one note, realm.Take (E9), as the landed code has them. -/
import Derived.Test.YtddgpgldbekamaaGreatAllPure
import Derived.Test.YtddgpgldbekamaaGreatMakeW
set_option linter.unusedSimpArgs false
set_option linter.unnecessarySimpa false
set_option linter.unusedVariables false
namespace Go.Proofs.YtddgpgldbekamaaGreat
open Go.RowKit


theorem ownsRow_prefix {w : World} {base : Nat} {e : TypeId} {size g n cap i : Nat} {xs : List Value} (h : w.ownsRow base e size (.slice (some ⟨g, 0, none⟩) n cap) n xs) (hi : i ≤ n) : w.ownsRow base e size (.slice (some ⟨g, 0, none⟩) i cap) i (xs.take (i * size)) := by
  have hle : i * size ≤ n * size := Nat.mul_le_mul_right _ hi
  rcases h.2 with ⟨hv, _⟩ | ⟨g', cap', cur, hv, hb, hg, h1, h2, h3, h4⟩
  · simp at hv
  · simp only [Value.slice.injEq, Option.some.injEq, Addr.mk.injEq, and_true, true_and] at hv
    obtain ⟨rfl, rfl⟩ := hv
    refine ⟨by rw [List.length_take, h.1]; omega, .inr ⟨g, cap, cur, rfl, hb, hg, by omega, h2, h3, ?_⟩⟩
    rw [← h4, List.take_take]; congr 1; omega
theorem ownsRow_extend {w : World} {base : Nat} {e : TypeId} {size g m n cap : Nat} {xs : List Value} (h : w.ownsRow base e size (.slice (some ⟨g, 0, none⟩) m cap) m xs) (hm : m ≤ n) (hn : n ≤ cap) : ∃ ys, w.ownsRow base e size (.slice (some ⟨g, 0, none⟩) n cap) n ys ∧ ys.take (m * size) = xs := by
  have hle : m * size ≤ n * size := Nat.mul_le_mul_right _ hm
  have hle2 : n * size ≤ cap * size := Nat.mul_le_mul_right _ hn
  rcases h.2 with ⟨hv, _⟩ | ⟨g', cap', cur, hv, hb, hg, h1, h2, h3, h4⟩
  · simp at hv
  · simp only [Value.slice.injEq, Option.some.injEq, Addr.mk.injEq, and_true, true_and] at hv
    obtain ⟨rfl, rfl⟩ := hv
    refine ⟨cur.toList.take (n * size), ⟨by rw [List.length_take, Array.length_toList, h3]; omega, .inr ⟨g, cap, cur, rfl, hb, hg, hn, h2, h3, rfl⟩⟩, ?_⟩
    rw [List.take_take, ← h4]; congr 1; omega
theorem wp_append_eq {P : Program} {o : Oper} {a : Act} {w w' : World} {K : Act → World → Prop} {Q : Exit → Act → World → Prop} (s x : Operand) (t : TypeId) (ho : o.op = .call { callee := .builtin .append, args := #[s, x], argTypes := #[t, t] }) (vs vx v' : Value) (hs : a.eval s = vs) (hx : a.eval x = vx)
    (hr : (Builtin.append_ #[t, t] o.type #[vs, vx]).run P w = .ok v' w') (h : K (a.put o.dst v') w') : o.wp P a w K Q := by
  unfold Oper.wp execOp
  simp only [ho, resolve, invoke, builtin, Sem.run_bind, Sem.run_pure, Result.andThen_ok, List.map_toArray, List.map_cons, List.map_nil, hs, hx, hr]
  exact h
theorem grown_two {a b c : World} {row : Option Nat} (h : a.grownBy b row) (k : b.grownBy c row) : a.grownBy c row :=
  ⟨k.os.trans h.os, k.tape.trans h.tape, k.output.trans h.output, Nat.le_trans h.size k.size, fun i hi hne => (k.block i (Nat.lt_of_lt_of_le hi h.size) hne).trans (h.block i hi hne)⟩
theorem grown_drew (a : World) (row : Option Nat) : a.grownBy a.drew row := ⟨rfl, rfl, rfl, Nat.le_refl _, fun _ _ _ => rfl⟩
theorem flat_take {α : Type} (f : α → List Value) (s : Nat) (hf : ∀ x, (f x).length = s) (l : List α) (j : Nat) (hj : j ≤ l.length) : (l.take j).flatMap f = (l.flatMap f).take (j * s) := by
  have h1 : l.flatMap f = (l.take j).flatMap f ++ (l.drop j).flatMap f := by rw [← List.flatMap_append, List.take_append_drop]
  have h2 : ((l.take j).flatMap f).length = j * s := by rw [flat_len f s hf, List.length_take, Nat.min_eq_left hj]
  rw [h1, ← h2, List.take_left]
theorem flat_drop {α : Type} (f : α → List Value) (s : Nat) (hf : ∀ x, (f x).length = s) (l : List α) (j : Nat) (hj : j ≤ l.length) : (l.drop j).flatMap f = (l.flatMap f).drop (j * s) := by
  have h1 : l.flatMap f = (l.take j).flatMap f ++ (l.drop j).flatMap f := by rw [← List.flatMap_append, List.take_append_drop]
  have h2 : ((l.take j).flatMap f).length = j * s := by rw [flat_len f s hf, List.length_take, Nat.min_eq_left hj]
  rw [h1, ← h2, List.drop_left]
theorem flat_erase (l : List Nt) (j : Nat) (hj : j < l.length) : (l.eraseIdx j).flatMap ncells = (l.flatMap ncells).take (j * 4) ++ (l.flatMap ncells).drop ((j + 1) * 4) := by
  rw [List.eraseIdx_eq_take_drop_succ, List.flatMap_append, flat_take ncells 4 (fun _ => rfl) l j (by omega), flat_drop ncells 4 (fun _ => rfl) l (j + 1) (by omega)]
set_option maxHeartbeats 2000000 in
set_option maxRecDepth 100000 in
theorem cut_n (v : Value) (l : List Nt) (j : Nat) (hj : j < l.length) (w : World) (base : Nat) (hown : w.ownsRow base 52 4 v l.length (l.flatMap ncells)) (hm : l.length ≤ 1000) :
    Calls Tryz.prog 36 #[v, .int .i64 (j : Int), .int .i64 ((j : Int) + 1)] w fun e w' => ∃ v', e = .returned v' ∧ w'.ownsRow base 52 4 v' (l.eraseIdx j).length ((l.eraseIdx j).flatMap ncells) ∧ w.grownBy w' v.ownBlock := by
  obtain ⟨g, cap, rfl, hbg, hg, hfit, hc⟩ := (row_open hown).resolve_left (by rintro ⟨-, e⟩; rw [e] at hj; simp at hj)
  obtain ⟨i0, hi, hi0, hi1, hi2⟩ := info_parts infoNote
  obtain ⟨hf1, hf2⟩ := hfit
  have hown1 := ownsRow_after hown ((Below.refl _ w).drew)
  have hfl := flatlen_n l
  by_cases hcp : cap = j + 1
  · skip
    obtain ⟨wA, hrun, hoA, hgA⟩ := run_append_fits (P := Tryz.prog) w.drew base 28 28 52 i0 4 Tryz.underlying28 hi hi1 g j cap _ (ownsRow_prefix hown1 (i := j) (by omega)) ⟨g, 0, none⟩ (l.length - (j + 1)) (cap - (j + 1)) ((l.flatMap ncells).drop ((j + 1) * 4)) (by rw [List.length_drop, hfl]; omega)
      (by intro q u hu; rw [List.drop_eq_nil_of_le (by rw [hfl]; omega)] at hu; simp at hu) (fun u hu => ncells_one l u (List.mem_of_mem_drop hu)) (by omega)
    have hn : j + (l.length - (j + 1)) = l.length - 1 := by omega
    rw [hn] at hrun hoA
    obtain ⟨ys, hoE, hyE⟩ := ownsRow_extend hoA (n := l.length) (by omega) hf1
    obtain ⟨wB, hcl, hoB, hgB⟩ := run_clear_own (P := Tryz.prog) 28 (.agg #[.int .i64 0, .string ByteArray.empty, .int .i64 0, .int .i64 0]) hoE Tryz.underlying28 Tryz.zeroValue52 rfl (by intro u hu; simp [Value.cells] at hu; rcases hu with rfl | rfl | rfl | rfl <;> rfl) (l.length - 1) (by omega)
    rw [show l.length - (l.length - 1) = 1 by omega] at hcl
    have hlen : (l.eraseIdx j).length = l.length - 1 := by rw [List.length_eraseIdx, if_pos hj]
    have HF : Hid (wB.ownsRow base 52 4 (.slice (some ⟨g, 0, none⟩) (l.length - 1) cap) (l.eraseIdx j).length ((l.eraseIdx j).flatMap ncells)) := by
      show wB.ownsRow _ _ _ _ _ _
      rw [flat_erase l j hj, hlen, ← hyE]; exact hoB
    have HG : Hid (w.grownBy wB (some g)) := grown_two (grown_two (grown_drew w _) hgA) hgB
    unfold maxLen at hf2
    clear hoB hgB hgA hoA hoE hyE hown1 hown hc hfl hlen hn
    have hrun' : ∀ ty, (Builtin.append_ #[28, 28] ty #[.slice (some ⟨g, 0, none⟩) j cap, .slice (some ⟨g, 0, none⟩) (l.length - (j + 1)) (cap - (j + 1))]).run Tryz.prog w.drew = .ok (.slice (some ⟨g, 0, none⟩) (l.length - 1) cap) wA := fun _ => hrun
    clear hrun
    generalize l.length = q at *
    obtain ⟨m, rfl⟩ : ∃ m, q = m + 1 := ⟨q - 1, by omega⟩
    simp only [Nat.add_sub_cancel] at hrun' hcl HF
    have hjm : j = m := by omega
    subst hjm
    subst hcp
    simp only [Nat.sub_self, Nat.add_sub_cancel_left] at hrun' hcl
    go_enter Tryz.func36, Tryz.ntmps36
    go_wp2_with fail
    refine wp_region_held_drew (S := fun _ => True) (by kernel_rfl) ?_ (fun hHeld => ?_)
    · exact trivial
    refine tkI 0 (.slice (some ⟨g, 0, none⟩) (j + 1) (j + 1)) rfl ?_
    refine tkI 1 (.int .i64 (j : Int)) rfl ?_
    refine tkJ 2 (.slice (some ⟨g, 0, none⟩) j (j + 1)) rfl (by intro w hSw; (try dsimp only at hSw); (go_simp <;> (intro hh; exfalso; omega))) ?_
    refine tkI 3 (.slice (some ⟨g, 0, none⟩) (j + 1) (j + 1)) rfl ?_
    refine tkI 4 (.int .i64 ((j : Int) + 1)) rfl ?_
    refine tkJ 5 (.slice (some ⟨g, 0, none⟩) 0 0) rfl (by intro w hSw; (try dsimp only at hSw); (go_simp; try (rw [if_pos ⟨by omega, by omega⟩]; simp)) <;> (intro hh; exfalso; first | omega | (have := hh (by omega); omega))) ?_
    refine rdI 6 rfl (fun K hK => ?_)
    refine wp_append_eq _ _ _ rfl _ _ _ rfl rfl (hrun' _) ?_
    refine hK.out _ _ ?_ (fun hHeld => ?_)
    · trivial
    clear hK K
    (try simp only [Act.put, List.setIfInBounds_toArray, List.set_cons_zero, List.set_cons_succ])
    refine rdI 7 rfl (fun K hK => ?_)
    go_wp2_with fail
    refine hK.out _ _ ?_ (fun hHeld => ?_)
    · trivial
    clear hK K
    (try simp only [Act.put, List.setIfInBounds_toArray, List.set_cons_zero, List.set_cons_succ])
    refine wpAnyH_done (by kernel_rfl) ?_ _
    go_wp2_with fail
    go_ret
    exact ⟨_, rfl, HF.out, HG.out⟩

  · skip
    obtain ⟨wA, hrun, hoA, hgA⟩ := run_append_fits (P := Tryz.prog) w.drew base 28 28 52 i0 4 Tryz.underlying28 hi hi1 g j cap _ (ownsRow_prefix hown1 (i := j) (by omega)) ⟨g, (j + 1) * 4, none⟩ (l.length - (j + 1)) (cap - (j + 1)) ((l.flatMap ncells).drop ((j + 1) * 4)) (by rw [List.length_drop, hfl]; omega)
      (by intro q u hu; rw [List.getElem?_drop] at hu; rw [Addr.add_lit]; exact hc _ _ hu) (fun u hu => ncells_one l u (List.mem_of_mem_drop hu)) (by omega)
    have hn : j + (l.length - (j + 1)) = l.length - 1 := by omega
    rw [hn] at hrun hoA
    obtain ⟨ys, hoE, hyE⟩ := ownsRow_extend hoA (n := l.length) (by omega) hf1
    obtain ⟨wB, hcl, hoB, hgB⟩ := run_clear_own (P := Tryz.prog) 28 (.agg #[.int .i64 0, .string ByteArray.empty, .int .i64 0, .int .i64 0]) hoE Tryz.underlying28 Tryz.zeroValue52 rfl (by intro u hu; simp [Value.cells] at hu; rcases hu with rfl | rfl | rfl | rfl <;> rfl) (l.length - 1) (by omega)
    rw [show l.length - (l.length - 1) = 1 by omega] at hcl
    have hlen : (l.eraseIdx j).length = l.length - 1 := by rw [List.length_eraseIdx, if_pos hj]
    have HF : Hid (wB.ownsRow base 52 4 (.slice (some ⟨g, 0, none⟩) (l.length - 1) cap) (l.eraseIdx j).length ((l.eraseIdx j).flatMap ncells)) := by
      show wB.ownsRow _ _ _ _ _ _
      rw [flat_erase l j hj, hlen, ← hyE]; exact hoB
    have HG : Hid (w.grownBy wB (some g)) := grown_two (grown_two (grown_drew w _) hgA) hgB
    unfold maxLen at hf2
    clear hoB hgB hgA hoA hoE hyE hown1 hown hc hfl hlen hn
    have hrun' : ∀ ty, (Builtin.append_ #[28, 28] ty #[.slice (some ⟨g, 0, none⟩) j cap, .slice (some ⟨g, (j + 1) * 4, none⟩) (l.length - (j + 1)) (cap - (j + 1))]).run Tryz.prog w.drew = .ok (.slice (some ⟨g, 0, none⟩) (l.length - 1) cap) wA := fun _ => hrun
    clear hrun
    generalize l.length = q at *
    obtain ⟨m, rfl⟩ : ∃ m, q = m + 1 := ⟨q - 1, by omega⟩
    simp only [Nat.add_sub_cancel] at hrun' hcl HF
    go_enter Tryz.func36, Tryz.ntmps36
    go_wp2_with fail
    refine wp_region_held_drew (S := fun _ => True) (by kernel_rfl) ?_ (fun hHeld => ?_)
    · exact trivial
    refine tkI 0 (.slice (some ⟨g, 0, none⟩) (m + 1) cap) rfl ?_
    refine tkI 1 (.int .i64 (j : Int)) rfl ?_
    refine tkJ 2 (.slice (some ⟨g, 0, none⟩) j cap) rfl (by intro w hSw; (try dsimp only at hSw); (go_simp <;> (intro hh; exfalso; omega))) ?_
    refine tkI 3 (.slice (some ⟨g, 0, none⟩) (m + 1) cap) rfl ?_
    refine tkI 4 (.int .i64 ((j : Int) + 1)) rfl ?_
    refine tkJ 5 (.slice (some ⟨g, (j + 1) * 4, none⟩) ((m + 1) - (j + 1)) (cap - (j + 1))) rfl (by intro w hSw; (try dsimp only at hSw); (go_simp; try (rw [if_pos ⟨by omega, by omega⟩]; simp [hcp])) <;> (intro hh; exfalso; first | omega | (have := hh (by omega); omega))) ?_
    refine rdI 6 rfl (fun K hK => ?_)
    refine wp_append_eq _ _ _ rfl _ _ _ rfl rfl (hrun' _) ?_
    refine hK.out _ _ ?_ (fun hHeld => ?_)
    · trivial
    clear hK K
    (try simp only [Act.put, List.setIfInBounds_toArray, List.set_cons_zero, List.set_cons_succ])
    refine rdI 7 rfl (fun K hK => ?_)
    go_wp2_with fail
    refine hK.out _ _ ?_ (fun hHeld => ?_)
    · trivial
    clear hK K
    (try simp only [Act.put, List.setIfInBounds_toArray, List.set_cons_zero, List.set_cons_succ])
    refine wpAnyH_done (by kernel_rfl) ?_ _
    go_wp2_with fail
    go_ret
    exact ⟨_, rfl, HF.out, HG.out⟩

end Go.Proofs.YtddgpgldbekamaaGreat
