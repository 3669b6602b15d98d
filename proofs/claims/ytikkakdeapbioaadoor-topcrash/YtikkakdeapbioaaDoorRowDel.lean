/- slices.Clone, slices.Delete at changes, as the landed code calls them. -/
import Derived.Test.YtikkakdeapbioaaDoorLogR
import Derived.Lib.SliceRun
import Derived.Lib.SlicesCompact
import Derived.Deep.Slices
set_option linter.unusedSimpArgs false
set_option linter.unnecessarySimpa false
set_option linter.unusedVariables false
namespace Go.Proofs.YtikkakdeapbioaaDoor
open Go.RowKit

theorem chs_one (l : List Ch) : ∀ u ∈ l.flatMap chC, u.oneCell' = true := by
  intro u hu
  obtain ⟨c, -, h⟩ := List.mem_flatMap.1 hu
  exact chC_one c u h
theorem chs_flat {w : World} {b o : Nat} {l : List Ch} (h : ∀ j x, l[j]? = some x → ChAt w b (o + j * 3) x) : ∀ j u, (l.flatMap chC)[j]? = some u → w.cell? ⟨b, o + j, none⟩ = some u := by
  refine flat_cells chC 3 (by decide) (fun _ => rfl) l w b o ?_
  intro k x hx j u hu
  obtain ⟨⟨h0, h1, h2⟩, -⟩ := h k x hx
  match j, hu with
  | 0, hu => simp [chC] at hu; subst hu; exact h0
  | 1, hu => simp [chC] at hu; subst hu; exact h1
  | 2, hu => simp [chC] at hu; subst hu; exact h2
set_option maxHeartbeats 1000000 in
theorem clone_c (a : Option Addr) (c : Nat) (l : List Ch) (w : World) (hw : ChsAt w a l) (hm : l.length ≤ 1000000) :
    Calls Tryd.prog 37 #[.slice a l.length c] w fun e w' => ∃ v, e = .returned v ∧ w'.ownsRow w.heap.size 61 3 v l.length (l.flatMap chC) ∧ Below w.heap.size w w' := by
  obtain ⟨i0, hi, hi0, hi1, hi2⟩ := info_parts infoCh
  have q0 : ∀ (w : World) (a : Option Addr) (n c n' c' : Nat), (binOp .eql 36 (.slice a n c) (.slice none n' c')).run Tryd.prog w = .ok (.bool a.isNone) w := fun w a n c n' c' => Lib.run_eql_slice_nil w _ _ a n c n' c' Tryd.underlying36
  cases a with
  | none =>
    have hl : l = [] := by rcases hw with h | ⟨b, o, ha, _⟩; exact h; cases ha
    subst hl
    go_enter Tryd.func37, Tryd.ntmps37
    go_wp2
    go_ret
    exact ⟨_, rfl, World.ownsRow_nil _ _ _ _, Below.refl _ _⟩
  | some ad =>
    have hcl : ∀ j u, (l.flatMap chC)[j]? = some u → (w.alloc (.cells #[] 61)).cell? (ad.add j) = some u := by
      rcases hw with rfl | ⟨b, o, ha, hb, hc⟩
      · intro j u hu; simp at hu
      · intro j u hu
        cases ha
        rw [Addr.add_lit]
        exact Lib.cell?_alloc_some _ (chs_flat hc j u hu)
    have A : Hid (∀ j u, (l.flatMap chC)[j]? = some u → (w.alloc (.cells #[] 61)).cell? (ad.add j) = some u) := hcl
    have hfl := chs_len l
    have hon := chs_one l
    have FL : Hid ((l.flatMap chC).length = l.length * 3) := hfl
    have ON : Hid (∀ u ∈ l.flatMap chC, u.oneCell' = true) := hon
    clear hcl hw hfl hon
    generalize l.flatMap chC = news at *
    go_enter Tryd.func37, Tryd.ntmps37
    go_wp2_with (at_builtin; refine wpList_append_own _ rfl _ _ 36 rfl w.heap.size 61 i0 (.agg #[.string ⟨#[]⟩, .string ⟨#[]⟩, .bool false]) 3 40 Tryd.underlying36 hi hi0 hi1 hi2 rfl (by decide) _ _ _ rfl (World.ownsRow_made w #[] 0 (Nat.le_refl _) (Nat.zero_le _) (by simp)) ad l.length c news rfl FL.out A.out ON.out ?c3 ?c4 ?c5 ?_)
    case c3 => unfold maxLen; omega
    case c4 => omega
    case c5 => simp
    intro v' w1 hown hgrow hnil
    go_wp2
    go_ret
    exact ⟨v', rfl, by simpa using hown, ((Below.refl _ w).alloc (Nat.le_refl _) _).grown hgrow (by simp) (by intro k hk; simp [Value.ownBlock] at hk; omega)⟩
theorem ownsRow_prefix {w : World} {base : Nat} {e : TypeId} {size g n cap i : Nat} {xs : List Value} (h : w.ownsRow base e size (.slice (some ⟨g, 0, none⟩) n cap) n xs) (hi : i ≤ n) : w.ownsRow base e size (.slice (some ⟨g, 0, none⟩) i cap) i (xs.take (i * size)) := by
  have hle : i * size ≤ n * size := Nat.mul_le_mul_right _ hi
  rcases h.2 with ⟨hv, _⟩ | ⟨g', cap', cur, hv, hb, hg, h1, h2, h3, h4⟩
  · simp at hv
  · simp only [Value.slice.injEq, Option.some.injEq, Addr.mk.injEq, and_true, true_and] at hv
    obtain ⟨rfl, rfl⟩ := hv
    refine ⟨by rw [List.length_take, h.1]; omega, .inr ⟨g, cap, cur, rfl, hb, hg, by omega, h2, h3, ?_⟩⟩
    rw [← h4, List.take_take]; congr 1; omega
theorem ownsRow_extend {w : World} {base : Nat} {e : TypeId} {size g m n cap : Nat} {xs : List Value} (h : w.ownsRow base e size (.slice (some ⟨g, 0, none⟩) m cap) m xs) (hm : m ≤ n) (hn : n ≤ cap) : ∃ ys, w.ownsRow base e size (.slice (some ⟨g, 0, none⟩) n cap) n ys ∧ ys.take (m * size) = xs := by
  have hle : m * size ≤ n * size := Nat.mul_le_mul_right _ hm
  have hle2 : n * size ≤ cap * size := Nat.mul_le_mul_right _ hn
  rcases h.2 with ⟨hv, _⟩ | ⟨g', cap', cur, hv, hb, hg, h1, h2, h3, h4⟩
  · simp at hv
  · simp only [Value.slice.injEq, Option.some.injEq, Addr.mk.injEq, and_true, true_and] at hv
    obtain ⟨rfl, rfl⟩ := hv
    refine ⟨cur.toList.take (n * size), ⟨by rw [List.length_take, Array.length_toList, h3]; omega, .inr ⟨g, cap, cur, rfl, hb, hg, hn, h2, h3, rfl⟩⟩, ?_⟩
    rw [List.take_take, ← h4]; congr 1; omega
theorem wp_append_eq {P : Program} {o : Oper} {a : Act} {w w' : World} {K : Act → World → Prop} {Q : Exit → Act → World → Prop} (s x : Operand) (t : TypeId) (ho : o.op = .call { callee := .builtin .append, args := #[s, x], argTypes := #[t, t] }) (vs vx v' : Value) (hs : a.eval s = vs) (hx : a.eval x = vx)
    (hr : (Builtin.append_ #[t, t] o.type #[vs, vx]).run P w = .ok v' w') (h : K (a.put o.dst v') w') : o.wp P a w K Q := by
  unfold Oper.wp execOp
  simp only [ho, resolve, invoke, builtin, Sem.run_bind, Sem.run_pure, Result.andThen_ok, List.map_toArray, List.map_cons, List.map_nil, hs, hx, hr]
  exact h
theorem grown_two {a b c : World} {row : Option Nat} (h : a.grownBy b row) (k : b.grownBy c row) : a.grownBy c row :=
  ⟨k.os.trans h.os, k.tape.trans h.tape, k.output.trans h.output, Nat.le_trans h.size k.size, fun i hi hne => (k.block i (Nat.lt_of_lt_of_le hi h.size) hne).trans (h.block i hi hne)⟩
theorem grown_drew (a : World) (row : Option Nat) : a.grownBy a.drew row := ⟨rfl, rfl, rfl, Nat.le_refl _, fun _ _ _ => rfl⟩
theorem flat_take {α : Type} (f : α → List Value) (s : Nat) (hf : ∀ x, (f x).length = s) (l : List α) (j : Nat) (hj : j ≤ l.length) : (l.take j).flatMap f = (l.flatMap f).take (j * s) := by
  have h1 : l.flatMap f = (l.take j).flatMap f ++ (l.drop j).flatMap f := by rw [← List.flatMap_append, List.take_append_drop]
  have h2 : ((l.take j).flatMap f).length = j * s := by rw [flat_len f s hf, List.length_take, Nat.min_eq_left hj]
  rw [h1, ← h2, List.take_left]
theorem flat_drop {α : Type} (f : α → List Value) (s : Nat) (hf : ∀ x, (f x).length = s) (l : List α) (j : Nat) (hj : j ≤ l.length) : (l.drop j).flatMap f = (l.flatMap f).drop (j * s) := by
  have h1 : l.flatMap f = (l.take j).flatMap f ++ (l.drop j).flatMap f := by rw [← List.flatMap_append, List.take_append_drop]
  have h2 : ((l.take j).flatMap f).length = j * s := by rw [flat_len f s hf, List.length_take, Nat.min_eq_left hj]
  rw [h1, ← h2, List.drop_left]
theorem flat_erase (l : List Ch) (j : Nat) (hj : j < l.length) : (l.eraseIdx j).flatMap chC = (l.flatMap chC).take (j * 3) ++ (l.flatMap chC).drop ((j + 1) * 3) := by
  rw [List.eraseIdx_eq_take_drop_succ, List.flatMap_append, flat_take chC 3 (fun _ => rfl) l j (by omega), flat_drop chC 3 (fun _ => rfl) l (j + 1) (by omega)]
set_option maxHeartbeats 2000000 in
set_option maxRecDepth 100000 in
theorem cut_c (v : Value) (l : List Ch) (j : Nat) (hj : j < l.length) (w : World) (base : Nat) (hown : w.ownsRow base 61 3 v l.length (l.flatMap chC)) (hm : l.length ≤ 1000) :
    Calls Tryd.prog 71 #[v, .int .i64 (j : Int), .int .i64 ((j : Int) + 1)] w fun e w' => ∃ v', e = .returned v' ∧ w'.ownsRow base 61 3 v' (l.eraseIdx j).length ((l.eraseIdx j).flatMap chC) ∧ w.grownBy w' v.ownBlock ∧ v'.ownBlock = v.ownBlock := by
  obtain ⟨g, cap, rfl, hbg, hg, hfit, hc⟩ := (row_open hown).resolve_left (by rintro ⟨-, e⟩; rw [e] at hj; simp at hj)
  obtain ⟨i0, hi, hi0, hi1, hi2⟩ := info_parts infoCh
  obtain ⟨hf1, hf2⟩ := hfit
  have hown1 := ownsRow_after hown ((Below.refl _ w).drew)
  have hfl := chs_len l
  by_cases hcp : cap = j + 1
  · skip
    obtain ⟨wA, hrun, hoA, hgA⟩ := run_append_fits (P := Tryd.prog) w.drew base 36 36 61 i0 3 Tryd.underlying36 hi hi1 g j cap _ (ownsRow_prefix hown1 (i := j) (by omega)) ⟨g, 0, none⟩ (l.length - (j + 1)) (cap - (j + 1)) ((l.flatMap chC).drop ((j + 1) * 3)) (by rw [List.length_drop, hfl]; omega)
      (by intro q u hu; rw [List.drop_eq_nil_of_le (by rw [hfl]; omega)] at hu; simp at hu) (fun u hu => chs_one l u (List.mem_of_mem_drop hu)) (by omega)
    have hn : j + (l.length - (j + 1)) = l.length - 1 := by omega
    rw [hn] at hrun hoA
    obtain ⟨ys, hoE, hyE⟩ := ownsRow_extend hoA (n := l.length) (by omega) hf1
    obtain ⟨wB, hcl, hoB, hgB⟩ := run_clear_own (P := Tryd.prog) 36 (.agg #[.string ⟨#[]⟩, .string ⟨#[]⟩, .bool false]) hoE Tryd.underlying36 Tryd.zeroValue61 rfl (by intro u hu; simp [Value.cells] at hu; rcases hu with rfl | rfl <;> rfl) (l.length - 1) (by omega)
    rw [show l.length - (l.length - 1) = 1 by omega] at hcl
    have hlen : (l.eraseIdx j).length = l.length - 1 := by rw [List.length_eraseIdx, if_pos hj]
    have HF : Hid (wB.ownsRow base 61 3 (.slice (some ⟨g, 0, none⟩) (l.length - 1) cap) (l.eraseIdx j).length ((l.eraseIdx j).flatMap chC)) := by
      show wB.ownsRow _ _ _ _ _ _
      rw [flat_erase l j hj, hlen, ← hyE]; exact hoB
    have HG : Hid (w.grownBy wB (some g)) := grown_two (grown_two (grown_drew w _) hgA) hgB
    unfold maxLen at hf2
    clear hoB hgB hgA hoA hoE hyE hown1 hown hc hfl hlen hn
    have hrun' : ∀ ty, (Builtin.append_ #[36, 36] ty #[.slice (some ⟨g, 0, none⟩) j cap, .slice (some ⟨g, 0, none⟩) (l.length - (j + 1)) (cap - (j + 1))]).run Tryd.prog w.drew = .ok (.slice (some ⟨g, 0, none⟩) (l.length - 1) cap) wA := fun _ => hrun
    clear hrun
    generalize l.length = q at *
    obtain ⟨m, rfl⟩ : ∃ m, q = m + 1 := ⟨q - 1, by omega⟩
    simp only [Nat.add_sub_cancel] at hrun' hcl HF
    have hjm : j = m := by omega
    subst hjm
    subst hcp
    simp only [Nat.sub_self, Nat.add_sub_cancel_left] at hrun' hcl
    go_enter Tryd.func71, Tryd.ntmps71
    go_wp2_with fail
    refine wp_region_held_drew (S := fun _ => True) (by kernel_rfl) ?_ (fun hHeld => ?_)
    · exact trivial
    refine wpAnyH_take (i := 0) (oi := ({ dst := some 20, op := Op.move (Operand.tmp 0), type := 36, pos := "slices.go:232", after := #[], guard := none } : Oper)) (v := .slice (some ⟨g, 0, none⟩) (j + 1) (j + 1)) rfl (by kernel_rfl) (by kernel_rfl) (by kernel_rfl) (fun _ _ _ h => h) (Or.inl ⟨by rfl, ?_⟩) (by assumption) ?_
    · intro w hSw; (try dsimp only at hSw); go_simp
    (try simp only [Act.put, List.setIfInBounds_toArray, List.set_cons_zero, List.set_cons_succ])
    refine wpAnyH_take (i := 1) (oi := ({ dst := some 21, op := Op.move (Operand.tmp 1), type := 3, pos := "slices.go:232", after := #[], guard := none } : Oper)) (v := .int .i64 (j : Int)) rfl (by kernel_rfl) (by kernel_rfl) (by kernel_rfl) (fun _ _ _ h => h) (Or.inl ⟨by rfl, ?_⟩) (by assumption) ?_
    · intro w hSw; (try dsimp only at hSw); go_simp
    (try simp only [Act.put, List.setIfInBounds_toArray, List.set_cons_zero, List.set_cons_succ])
    refine wpAnyH_take (i := 2) (oi := ({ dst := some 22, op := Op.slice 36 (Operand.tmp 20) none (some (Operand.tmp 21)) none, type := 36, pos := "slices.go:232", after := #[{ on := 0, ground := Ground.data }, { on := 1, ground := Ground.data }], guard := none } : Oper)) (v := .slice (some ⟨g, 0, none⟩) j (j + 1)) rfl (by kernel_rfl) (by kernel_rfl) (by kernel_rfl) (fun _ _ _ h => h) (Or.inl ⟨by rfl, ?_⟩) (by assumption) ?_
    · intro w hSw; (try dsimp only at hSw); (go_simp <;> (intro hh; exfalso; omega))
    (try simp only [Act.put, List.setIfInBounds_toArray, List.set_cons_zero, List.set_cons_succ])
    refine wpAnyH_take (i := 3) (oi := ({ dst := some 23, op := Op.move (Operand.tmp 0), type := 36, pos := "slices.go:232", after := #[], guard := none } : Oper)) (v := .slice (some ⟨g, 0, none⟩) (j + 1) (j + 1)) rfl (by kernel_rfl) (by kernel_rfl) (by kernel_rfl) (fun _ _ _ h => h) (Or.inl ⟨by rfl, ?_⟩) (by assumption) ?_
    · intro w hSw; (try dsimp only at hSw); go_simp
    (try simp only [Act.put, List.setIfInBounds_toArray, List.set_cons_zero, List.set_cons_succ])
    refine wpAnyH_take (i := 4) (oi := ({ dst := some 24, op := Op.move (Operand.tmp 2), type := 3, pos := "slices.go:232", after := #[], guard := none } : Oper)) (v := .int .i64 ((j : Int) + 1)) rfl (by kernel_rfl) (by kernel_rfl) (by kernel_rfl) (fun _ _ _ h => h) (Or.inl ⟨by rfl, ?_⟩) (by assumption) ?_
    · intro w hSw; (try dsimp only at hSw); go_simp
    (try simp only [Act.put, List.setIfInBounds_toArray, List.set_cons_zero, List.set_cons_succ])
    refine wpAnyH_take (i := 5) (oi := ({ dst := some 25, op := Op.slice 36 (Operand.tmp 23) (some (Operand.tmp 24)) none none, type := 36, pos := "slices.go:232", after := #[{ on := 3, ground := Ground.data }, { on := 4, ground := Ground.data }], guard := none } : Oper)) (v := .slice (some ⟨g, 0, none⟩) 0 0) rfl (by kernel_rfl) (by kernel_rfl) (by kernel_rfl) (fun _ _ _ h => h) (Or.inl ⟨by rfl, ?_⟩) (by assumption) ?_
    · intro w hSw; (try dsimp only at hSw); (go_simp; try (rw [if_pos ⟨by omega, by omega⟩]; simp)) <;> (intro hh; exfalso; first | omega | (have := hh (by omega); omega))
    (try simp only [Act.put, List.setIfInBounds_toArray, List.set_cons_zero, List.set_cons_succ])
    refine wpAnyH_ready (rs := [6]) (by kernel_rfl) (by simp) ?_
    refine AllReadyH.cons (o := ({ dst := some 26, op := Op.call { callee := Callee.builtin Builtin.append, args := #[Operand.tmp 22, Operand.tmp 25], argTypes := #[36, 36] }, type := 36, pos := "slices.go:232", after := #[{ on := 2, ground := Ground.data }, { on := 5, ground := Ground.data }], guard := none } : Oper)) rfl (fun K hK => ?_) AllReadyH.nil
    rw [if_pos (by rfl)]
    refine wp_append_eq _ _ _ rfl _ _ _ rfl rfl (hrun' _) ?_
    refine hK.out _ _ ?_ (fun hHeld => ?_)
    · trivial
    clear hK K
    (try simp only [Act.put, List.setIfInBounds_toArray, List.set_cons_zero, List.set_cons_succ])
    refine wpAnyH_ready (rs := [7]) (by kernel_rfl) (by simp) ?_
    refine AllReadyH.cons (o := ({ dst := some 0, op := Op.assign (Operand.tmp 26), type := 36, pos := "slices.go:232", after := #[{ on := 6, ground := Ground.data }, { on := 6, ground := Ground.chain }, { on := 0, ground := Ground.phase }, { on := 1, ground := Ground.phase }, { on := 2, ground := Ground.phase }, { on := 3, ground := Ground.phase }, { on := 4, ground := Ground.phase }, { on := 5, ground := Ground.phase }, { on := 6, ground := Ground.phase }], guard := none } : Oper)) rfl (fun K hK => ?_) AllReadyH.nil
    rw [if_pos (by rfl)]
    go_wp2_with fail
    refine hK.out _ _ ?_ (fun hHeld => ?_)
    · trivial
    clear hK K
    (try simp only [Act.put, List.setIfInBounds_toArray, List.set_cons_zero, List.set_cons_succ])
    refine wpAnyH_done (by kernel_rfl) ?_ _
    go_wp2_with fail
    go_ret
    exact ⟨_, rfl, HF.out, HG.out, rfl⟩

  · skip
    obtain ⟨wA, hrun, hoA, hgA⟩ := run_append_fits (P := Tryd.prog) w.drew base 36 36 61 i0 3 Tryd.underlying36 hi hi1 g j cap _ (ownsRow_prefix hown1 (i := j) (by omega)) ⟨g, (j + 1) * 3, none⟩ (l.length - (j + 1)) (cap - (j + 1)) ((l.flatMap chC).drop ((j + 1) * 3)) (by rw [List.length_drop, hfl]; omega)
      (by intro q u hu; rw [List.getElem?_drop] at hu; rw [Addr.add_lit]; exact hc _ _ hu) (fun u hu => chs_one l u (List.mem_of_mem_drop hu)) (by omega)
    have hn : j + (l.length - (j + 1)) = l.length - 1 := by omega
    rw [hn] at hrun hoA
    obtain ⟨ys, hoE, hyE⟩ := ownsRow_extend hoA (n := l.length) (by omega) hf1
    obtain ⟨wB, hcl, hoB, hgB⟩ := run_clear_own (P := Tryd.prog) 36 (.agg #[.string ⟨#[]⟩, .string ⟨#[]⟩, .bool false]) hoE Tryd.underlying36 Tryd.zeroValue61 rfl (by intro u hu; simp [Value.cells] at hu; rcases hu with rfl | rfl <;> rfl) (l.length - 1) (by omega)
    rw [show l.length - (l.length - 1) = 1 by omega] at hcl
    have hlen : (l.eraseIdx j).length = l.length - 1 := by rw [List.length_eraseIdx, if_pos hj]
    have HF : Hid (wB.ownsRow base 61 3 (.slice (some ⟨g, 0, none⟩) (l.length - 1) cap) (l.eraseIdx j).length ((l.eraseIdx j).flatMap chC)) := by
      show wB.ownsRow _ _ _ _ _ _
      rw [flat_erase l j hj, hlen, ← hyE]; exact hoB
    have HG : Hid (w.grownBy wB (some g)) := grown_two (grown_two (grown_drew w _) hgA) hgB
    unfold maxLen at hf2
    clear hoB hgB hgA hoA hoE hyE hown1 hown hc hfl hlen hn
    have hrun' : ∀ ty, (Builtin.append_ #[36, 36] ty #[.slice (some ⟨g, 0, none⟩) j cap, .slice (some ⟨g, (j + 1) * 3, none⟩) (l.length - (j + 1)) (cap - (j + 1))]).run Tryd.prog w.drew = .ok (.slice (some ⟨g, 0, none⟩) (l.length - 1) cap) wA := fun _ => hrun
    clear hrun
    generalize l.length = q at *
    obtain ⟨m, rfl⟩ : ∃ m, q = m + 1 := ⟨q - 1, by omega⟩
    simp only [Nat.add_sub_cancel] at hrun' hcl HF
    go_enter Tryd.func71, Tryd.ntmps71
    go_wp2_with fail
    refine wp_region_held_drew (S := fun _ => True) (by kernel_rfl) ?_ (fun hHeld => ?_)
    · exact trivial
    refine wpAnyH_take (i := 0) (oi := ({ dst := some 20, op := Op.move (Operand.tmp 0), type := 36, pos := "slices.go:232", after := #[], guard := none } : Oper)) (v := .slice (some ⟨g, 0, none⟩) (m + 1) cap) rfl (by kernel_rfl) (by kernel_rfl) (by kernel_rfl) (fun _ _ _ h => h) (Or.inl ⟨by rfl, ?_⟩) (by assumption) ?_
    · intro w hSw; (try dsimp only at hSw); go_simp
    (try simp only [Act.put, List.setIfInBounds_toArray, List.set_cons_zero, List.set_cons_succ])
    refine wpAnyH_take (i := 1) (oi := ({ dst := some 21, op := Op.move (Operand.tmp 1), type := 3, pos := "slices.go:232", after := #[], guard := none } : Oper)) (v := .int .i64 (j : Int)) rfl (by kernel_rfl) (by kernel_rfl) (by kernel_rfl) (fun _ _ _ h => h) (Or.inl ⟨by rfl, ?_⟩) (by assumption) ?_
    · intro w hSw; (try dsimp only at hSw); go_simp
    (try simp only [Act.put, List.setIfInBounds_toArray, List.set_cons_zero, List.set_cons_succ])
    refine wpAnyH_take (i := 2) (oi := ({ dst := some 22, op := Op.slice 36 (Operand.tmp 20) none (some (Operand.tmp 21)) none, type := 36, pos := "slices.go:232", after := #[{ on := 0, ground := Ground.data }, { on := 1, ground := Ground.data }], guard := none } : Oper)) (v := .slice (some ⟨g, 0, none⟩) j cap) rfl (by kernel_rfl) (by kernel_rfl) (by kernel_rfl) (fun _ _ _ h => h) (Or.inl ⟨by rfl, ?_⟩) (by assumption) ?_
    · intro w hSw; (try dsimp only at hSw); (go_simp <;> (intro hh; exfalso; omega))
    (try simp only [Act.put, List.setIfInBounds_toArray, List.set_cons_zero, List.set_cons_succ])
    refine wpAnyH_take (i := 3) (oi := ({ dst := some 23, op := Op.move (Operand.tmp 0), type := 36, pos := "slices.go:232", after := #[], guard := none } : Oper)) (v := .slice (some ⟨g, 0, none⟩) (m + 1) cap) rfl (by kernel_rfl) (by kernel_rfl) (by kernel_rfl) (fun _ _ _ h => h) (Or.inl ⟨by rfl, ?_⟩) (by assumption) ?_
    · intro w hSw; (try dsimp only at hSw); go_simp
    (try simp only [Act.put, List.setIfInBounds_toArray, List.set_cons_zero, List.set_cons_succ])
    refine wpAnyH_take (i := 4) (oi := ({ dst := some 24, op := Op.move (Operand.tmp 2), type := 3, pos := "slices.go:232", after := #[], guard := none } : Oper)) (v := .int .i64 ((j : Int) + 1)) rfl (by kernel_rfl) (by kernel_rfl) (by kernel_rfl) (fun _ _ _ h => h) (Or.inl ⟨by rfl, ?_⟩) (by assumption) ?_
    · intro w hSw; (try dsimp only at hSw); go_simp
    (try simp only [Act.put, List.setIfInBounds_toArray, List.set_cons_zero, List.set_cons_succ])
    refine wpAnyH_take (i := 5) (oi := ({ dst := some 25, op := Op.slice 36 (Operand.tmp 23) (some (Operand.tmp 24)) none none, type := 36, pos := "slices.go:232", after := #[{ on := 3, ground := Ground.data }, { on := 4, ground := Ground.data }], guard := none } : Oper)) (v := .slice (some ⟨g, (j + 1) * 3, none⟩) ((m + 1) - (j + 1)) (cap - (j + 1))) rfl (by kernel_rfl) (by kernel_rfl) (by kernel_rfl) (fun _ _ _ h => h) (Or.inl ⟨by rfl, ?_⟩) (by assumption) ?_
    · intro w hSw; (try dsimp only at hSw); (go_simp; try (rw [if_pos ⟨by omega, by omega⟩]; simp [hcp])) <;> (intro hh; exfalso; first | omega | (have := hh (by omega); omega))
    (try simp only [Act.put, List.setIfInBounds_toArray, List.set_cons_zero, List.set_cons_succ])
    refine wpAnyH_ready (rs := [6]) (by kernel_rfl) (by simp) ?_
    refine AllReadyH.cons (o := ({ dst := some 26, op := Op.call { callee := Callee.builtin Builtin.append, args := #[Operand.tmp 22, Operand.tmp 25], argTypes := #[36, 36] }, type := 36, pos := "slices.go:232", after := #[{ on := 2, ground := Ground.data }, { on := 5, ground := Ground.data }], guard := none } : Oper)) rfl (fun K hK => ?_) AllReadyH.nil
    rw [if_pos (by rfl)]
    refine wp_append_eq _ _ _ rfl _ _ _ rfl rfl (hrun' _) ?_
    refine hK.out _ _ ?_ (fun hHeld => ?_)
    · trivial
    clear hK K
    (try simp only [Act.put, List.setIfInBounds_toArray, List.set_cons_zero, List.set_cons_succ])
    refine wpAnyH_ready (rs := [7]) (by kernel_rfl) (by simp) ?_
    refine AllReadyH.cons (o := ({ dst := some 0, op := Op.assign (Operand.tmp 26), type := 36, pos := "slices.go:232", after := #[{ on := 6, ground := Ground.data }, { on := 6, ground := Ground.chain }, { on := 0, ground := Ground.phase }, { on := 1, ground := Ground.phase }, { on := 2, ground := Ground.phase }, { on := 3, ground := Ground.phase }, { on := 4, ground := Ground.phase }, { on := 5, ground := Ground.phase }, { on := 6, ground := Ground.phase }], guard := none } : Oper)) rfl (fun K hK => ?_) AllReadyH.nil
    rw [if_pos (by rfl)]
    go_wp2_with fail
    refine hK.out _ _ ?_ (fun hHeld => ?_)
    · trivial
    clear hK K
    (try simp only [Act.put, List.setIfInBounds_toArray, List.set_cons_zero, List.set_cons_succ])
    refine wpAnyH_done (by kernel_rfl) ?_ _
    go_wp2_with fail
    go_ret
    exact ⟨_, rfl, HF.out, HG.out, rfl⟩

end Go.Proofs.YtikkakdeapbioaaDoor
