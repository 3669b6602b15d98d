/- slices.Insert of one change, as the landed code calls it. -/
import Derived.Test.YtikkakdeapbioaaDoorRowDel
import Derived.Lib.AppendZerosOnto
import Derived.Lib.Overlaps
import Derived.Laws.Externs
import Derived.Laws.IdiomCopy
import Derived.Laws.NewBlocks
import Derived.Deep.RegionHeld3
set_option linter.unusedSimpArgs false
set_option linter.unnecessarySimpa false
set_option linter.unusedVariables false
namespace Go.Proofs.YtikkakdeapbioaaDoor
open Go.RowKit

/-- copy into a row, from a cell on -/
theorem run_copy_into {P : Program} (w : World) (dT sT ty elem : TypeId) (size g o dLen dCap m : Nat) (a : Addr) (sLen sCap : Nat) (cur : Array Value) (t : TypeId) (cs : List Value)
    (hu : P.underlying dT = some (.slice elem)) (hs : (P.info? elem).map (·.size) = some size) (hm : Nat.min sLen dLen = m)
    (hg : w.heap[g]? = some (.cells cur t (0, 0))) (hn : cs.length = m * size) (hsrc : ∀ j v, cs[j]? = some v → w.cell? (a.add j) = some v) (hfit : o + cs.length ≤ cur.size) (h1 : ∀ v ∈ cs, v.oneCell' = true) :
    (Builtin.copy_ #[dT, sT] ty #[.slice (some ⟨g, o, none⟩) dLen dCap, .slice (some a) sLen sCap]).run P w = .ok (goInt m) (w.setRow g (cur.toList.take o ++ cs ++ cur.toList.drop (o + cs.length)).toArray) := by
  have hl := run_loadCells_list (P := P) w a cs hsrc
  have hst := run_storeCells_at P g o t cs 0 cur w hg (by omega) h1
  simp only [Nat.add_zero] at hst
  cases hq : P.info? elem with
  | none => simp [hq] at hs
  | some i =>
    have hi : i.size = size := by simpa [hq] using hs
    simp [Builtin.copy_, run_underlying hu, Builtin.lenOf, Builtin.firstCells, sizeOf, typeInfo, hq, hi, hm, ← hn, hl, hst]
theorem exec_copy (ρ : Operand → Value) (o : Oper) (x y : Operand) {ats : Array TypeId} {c : Call} {w w' : World} {vx vy v' : Value} (ho : o.op = .call c) (hc : c.callee = .builtin .copy) (hca : c.args = #[x, y]) (hct : c.argTypes = ats) (hx : ρ x = vx) (hy : ρ y = vy)
    (hr : (Builtin.copy_ ats o.type #[vx, vy]).run Tryd.prog w = .ok v' w') : (execOp ρ o).run Tryd.prog w = .ok (.value v') w' := by
  unfold execOp
  simp only [ho, resolve, hc, hca, hct, List.map_toArray, List.map_cons, List.map_nil, hx, hy, Sem.run_bind, Sem.run_pure, Result.andThen_ok, invoke, builtin, hr]
def insL (l : List Ch) (i : Nat) (x : Ch) : List Ch := l.take i ++ x :: l.drop i
theorem ins_flat (l : List Ch) (i : Nat) (hi : i ≤ l.length) (x : Ch) : (insL l i x).flatMap chC = (l.flatMap chC).take (i * 3) ++ chC x ++ (l.flatMap chC).drop (i * 3) := by
  rw [insL, List.flatMap_append, List.flatMap_cons, flat_take chC 3 (fun _ => rfl) l i hi, flat_drop chC 3 (fun _ => rfl) l i hi, List.append_assoc]
set_option maxHeartbeats 2000000 in
set_option maxRecDepth 100000 in
theorem ins_end (v : Value) (l : List Ch) (x : Ch) (g : Nat) (w : World) (base : Nat) (hown : w.ownsRow base 61 3 v l.length (l.flatMap chC)) (hg : w.heap[g]? = some (.cells (chC x).toArray 61 (0, 0))) (hm : l.length ≤ 1000) (hb : base ≤ w.heap.size) :
    Calls Tryd.prog 72 #[v, .int .i64 (l.length : Int), .slice (some ⟨g, 0, none⟩) 1 1] w fun e w' => ∃ v', e = .returned v' ∧ w'.ownsRow base 61 3 v' (l.length + 1) ((l ++ [x]).flatMap chC) ∧ w.grownBy w' v.ownBlock ∧ (v'.ownBlock = v.ownBlock ∨ v'.ownBlock = some w.heap.size) := by
  obtain ⟨v', w', r1, r2, r3, r5⟩ := run_app 36 61 36 Tryd.underlying36 infoCh rfl (by decide) (by decide) hown (by omega) hb (news := chC x) rfl (chC_one x) g hg
  have HE : Hid ((l ++ [x]).flatMap chC = l.flatMap chC ++ chC x) := by show _ = _; simp
  have HR : Hid (w'.ownsRow base 61 3 v' (l.length + 1) (l.flatMap chC ++ chC x)) := r2
  clear r2
  rcases hown.2 with ⟨rfl, h0⟩ | ⟨g0, cap, cur, rfl, -, -, hn, hmx, -⟩
  · obtain rfl : l = [] := List.length_eq_zero_iff.1 h0
    have HR2 : Hid (w'.ownsRow base 61 3 v' (([] : List Ch).length + 1) (([] : List Ch).flatMap chC ++ chC x)) := HR.out
    rw [List.length_nil]
    clear hown HR h0
    go_enter Tryd.func72, Tryd.ntmps72
    go_wp2_with (refine wpList_run (by rfl) (exec_append _ _ (.tmp 23) (.tmp 24) (by rfl) (by rfl) (by rfl) (by rfl) (by rfl) (by rfl) r1) ?_)
    go_ret
    exact ⟨v', rfl, by simpa using HR2.out, r3, r5⟩
  · unfold maxLen at hmx
    clear hown
    by_cases hcp : cap = l.length
    · subst hcp
      go_enter Tryd.func72, Tryd.ntmps72
      go_wp2_with (refine wpList_run (by rfl) (exec_append _ _ (.tmp 23) (.tmp 24) (by rfl) (by rfl) (by rfl) (by rfl) (by rfl) (by rfl) r1) ?_)
      go_ret
      exact ⟨v', rfl, by rw [HE.out]; exact HR.out, r3, r5⟩
    · go_enter Tryd.func72, Tryd.ntmps72
      go_wp2_with (refine wpList_run (by rfl) (exec_append _ _ (.tmp 23) (.tmp 24) (by rfl) (by rfl) (by rfl) (by rfl) (by rfl) (by rfl) r1) ?_)
      go_ret
      exact ⟨v', rfl, by rw [HE.out]; exact HR.out, r3, r5⟩
theorem two_copies {α : Type} (cu F V : List α) (n i : Nat) (hF : cu.take (n * 3) = F) (hFl : F.length = n * 3) (hV : V.length = 3) (hi : i < n) (hn : (n + 1) * 3 ≤ cu.length) :
    (((cu.take ((i + 1) * 3) ++ F.drop (i * 3) ++ cu.drop ((i + 1) * 3 + (n - i) * 3)).take (i * 3) ++ V ++ (cu.take ((i + 1) * 3) ++ F.drop (i * 3) ++ cu.drop ((i + 1) * 3 + (n - i) * 3)).drop (i * 3 + V.length))).take ((n + 1) * 3) = F.take (i * 3) ++ V ++ F.drop (i * 3) := by
  have hA : (cu.take ((i + 1) * 3)).length = (i + 1) * 3 := by rw [List.length_take]; omega
  have hD : (F.drop (i * 3)).length = (n - i) * 3 := by rw [List.length_drop, hFl]; omega
  have e1 : (cu.take ((i + 1) * 3) ++ F.drop (i * 3) ++ cu.drop ((i + 1) * 3 + (n - i) * 3)).take (i * 3) = F.take (i * 3) := by
    rw [List.append_assoc, List.take_append_of_le_length (by omega), List.take_take, ← hF, List.take_take]
    congr 1; omega
  have e2 : (cu.take ((i + 1) * 3) ++ F.drop (i * 3) ++ cu.drop ((i + 1) * 3 + (n - i) * 3)).drop (i * 3 + V.length) = F.drop (i * 3) ++ cu.drop ((i + 1) * 3 + (n - i) * 3) := by
    rw [List.append_assoc, List.drop_left' (by rw [hA, hV]; omega)]
  rw [e1, e2, ← List.append_assoc, List.take_left' (by simp only [List.length_append, List.length_take, hFl, hV, hD]; omega)]
theorem szCh : ∀ w, (Go.sizeOf 61).run Tryd.prog w = .ok 3 w := fun w => by
  have hI := infoCh
  cases hq : Tryd.prog.info? 61 with
  | none => simp [hq] at hI
  | some inf =>
    obtain ⟨-, h2, -⟩ : inf.zero = some (.agg #[.string ⟨#[]⟩, .string ⟨#[]⟩, .bool false]) ∧ inf.size = 3 ∧ inf.bytes = 40 := by simpa [hq] using hI
    simp [sizeOf, typeInfo, hq, h2]
theorem szCh2 : (Tryd.prog.info? 61).map (·.size) = some 3 := by
  have hI := infoCh
  cases hq : Tryd.prog.info? 61 with
  | none => simp [hq] at hI
  | some inf => have : inf.size = 3 := by simpa [hq] using (by simpa [hq] using hI : inf.zero = some (.agg #[.string ⟨#[]⟩, .string ⟨#[]⟩, .bool false]) ∧ inf.size = 3 ∧ inf.bytes = 40).2.1
                simp [this]
theorem chs_len2 (l : List Ch) : (l.flatMap chC).length = l.length * 3 := chs_len l
set_option maxHeartbeats 4000000 in
set_option maxRecDepth 100000 in
theorem ins_shift (g0 cap : Nat) (cur : Array Value) (l : List Ch) (i : Nat) (hi : i < l.length) (x : Ch) (g : Nat) (w : World) (hg0 : w.heap[g0]? = some (.cells cur 61 (0, 0))) (hcur : cur.size = cap * 3) (htk : cur.toList.take (l.length * 3) = l.flatMap chC) (hg : w.heap[g]? = some (.cells (chC x).toArray 61 (0, 0))) (hgg : g ≠ g0) (hm : l.length ≤ 1000) (hroom : l.length + 1 ≤ cap) (hmx : cap ≤ 9223372036854775807) :
    Calls Tryd.prog 72 #[.slice (some ⟨g0, 0, none⟩) l.length cap, .int .i64 (i : Int), .slice (some ⟨g, 0, none⟩) 1 1] w fun e w' => e = .returned (.slice (some ⟨g0, 0, none⟩) (l.length + 1) cap) ∧ ∃ cur', w' = w.drew.setRow g0 cur' ∧ cur'.size = cap * 3 ∧ cur'.toList.take ((l.length + 1) * 3) = (insL l i x).flatMap chC := by
  have hcl := chs_len l
  have hov : ∀ lb cb, (callFunc 88 #[.slice (some ⟨g, 0, none⟩) 1 1, .slice (some ⟨g0, (i + 1) * 3, none⟩) lb cb]).run Tryd.prog w = .ok (.value (.bool false)) w := fun lb cb => by
    rw [run_callFunc_extern Tryd.func88 (by kernel_rfl) (by kernel_rfl) (by kernel_rfl) (e := Extern.SlicesOverlaps.overlaps #[36, 36] #[4]) (by kernel_rfl),
      Lib.run_overlaps_apart w 36 4 61 Tryd.underlying36 3 szCh ⟨g, 0, none⟩ ⟨g0, (i + 1) * 3, none⟩ 1 1 lb cb hgg 61 61 3 (cap * 3) (by simp [World.shape?, hg, chC]) (by simp [World.shape?, hg0, hcur]) (by omega) (frozen_of_row w g 0 _ _ hg) (frozen_of_row w g 3 _ _ hg)]
    rfl
  have hdl : ((l.flatMap chC).drop (i * 3)).length = (l.length - i) * 3 := by rw [List.length_drop, hcl]; omega
  have hsrc : ∀ j u, ((l.flatMap chC).drop (i * 3))[j]? = some u → w.drew.cell? ((⟨g0, i * 3, none⟩ : Addr).add j) = some u := fun j u hu => by
    rw [List.getElem?_drop, ← htk, List.getElem?_take] at hu
    rw [Addr.add_lit, show w.drew.cell? ⟨g0, i * 3 + j, none⟩ = w.cell? ⟨g0, i * 3 + j, none⟩ from rfl, cell_of_row w g0 _ _ _ _ hg0]
    split at hu
    · simpa using hu
    · cases hu
  have hc1 : ∀ ty dc sc, (Builtin.copy_ #[36, 36] ty #[.slice (some ⟨g0, (i + 1) * 3, none⟩) (l.length + 1 - (i + 1)) dc, .slice (some ⟨g0, i * 3, none⟩) (l.length + 1 - i) sc]).run Tryd.prog w.drew = .ok (goInt ((l.length - i : Nat) : Int)) (w.drew.setRow g0 (cur.toList.take ((i + 1) * 3) ++ (l.flatMap chC).drop (i * 3) ++ cur.toList.drop ((i + 1) * 3 + ((l.flatMap chC).drop (i * 3)).length)).toArray) := fun ty dc sc =>
    run_copy_into w.drew 36 36 ty 61 3 g0 ((i + 1) * 3) (l.length + 1 - (i + 1)) dc (l.length - i) ⟨g0, i * 3, none⟩ (l.length + 1 - i) sc cur 61 _ Tryd.underlying36 szCh2 (by simp only [Nat.min_def]; split <;> omega) hg0 hdl hsrc (by rw [hdl, hcur]; omega) (fun u hu => chs_one l u (List.mem_of_mem_drop hu))
  rw [hdl] at hc1
  obtain ⟨c1, hc1e⟩ : ∃ c1, c1 = (cur.toList.take ((i + 1) * 3) ++ (l.flatMap chC).drop (i * 3) ++ cur.toList.drop ((i + 1) * 3 + (l.length - i) * 3)).toArray := ⟨_, rfl⟩
  rw [← hc1e] at hc1
  have hs1 : c1.size = cap * 3 := by rw [hc1e]; simp [hdl, hcur]; omega
  have hg1 : (w.drew.setRow g0 c1).heap[g0]? = some (.cells c1 61 (0, 0)) := setRow_heap w.drew g0 _ _ _ _ hg0
  have hgv : (w.drew.setRow g0 c1).heap[g]? = some (.cells (chC x).toArray 61 (0, 0)) := by rw [setRow_other _ _ _ _ hgg]; exact hg
  have hc2 : ∀ ty dc, (Builtin.copy_ #[36, 36] ty #[.slice (some ⟨g0, i * 3, none⟩) (l.length + 1 - i) dc, .slice (some ⟨g, 0, none⟩) 1 1]).run Tryd.prog (w.drew.setRow g0 c1) = .ok (goInt 1) ((w.drew.setRow g0 c1).setRow g0 (c1.toList.take (i * 3) ++ chC x ++ c1.toList.drop (i * 3 + (chC x).length)).toArray) := fun ty dc =>
    run_copy_into _ 36 36 ty 61 3 g0 (i * 3) (l.length + 1 - i) dc 1 ⟨g, 0, none⟩ 1 1 c1 61 (chC x) Tryd.underlying36 szCh2 (by simp only [Nat.min_def]; split <;> omega) hg1 rfl (fun j u hu => by rw [Addr.add_lit, Nat.zero_add, cell_of_row _ g _ _ _ _ hgv]; simpa using hu) (by rw [hs1]; simp [chC]; omega) (chC_one x)
  obtain ⟨c2, hc2e⟩ : ∃ c2, c2 = (c1.toList.take (i * 3) ++ chC x ++ c1.toList.drop (i * 3 + (chC x).length)).toArray := ⟨_, rfl⟩
  rw [← hc2e] at hc2
  have HW : Hid ((w.drew.setRow g0 c1).setRow g0 c2 = w.drew.setRow g0 c2) := setRow_setRow w.drew g0 c1 c2
  have hs2 : c2.size = cap * 3 := by rw [hc2e]; simp [hs1, chC]; omega
  have HT : Hid (c2.toList.take ((l.length + 1) * 3) = (insL l i x).flatMap chC) := by
    show _ = _
    rw [ins_flat l i (by omega), hc2e, hc1e]
    exact two_copies cur.toList _ (chC x) l.length i htk hcl rfl hi (by have : cur.toList.length = cur.size := Array.length_toList; omega)
  have hci : ¬ (cap = i) := by omega
  have hci1 : ¬ (cap = i + 1) := by omega
  have hz2 : ((i : Int) == (l.length : Int)) = false := by simp; omega
  have hz3 : ¬ (cap : Int) < (l.length : Int) + 1 := by omega
  clear hsrc hdl hc1e hc2e hs1 hg1 hgv htk hcur hcl hg0 hg
  go_enter Tryd.func72, Tryd.ntmps72
  go_wp2_with (simp only [hov])
  refine wp_region_held_drew (S := fun _ => True) (by kernel_rfl) trivial (fun hHeld => ?_)
  refine wpAnyH_take (i := 0) (oi := ({ dst := some 69, op := Op.move (Operand.tmp 0), type := 36, pos := "slices.go:178", after := #[], guard := none } : Oper)) (v := .slice (some ⟨g0, 0, none⟩) (l.length + 1) cap) rfl (by kernel_rfl) (by kernel_rfl) (by kernel_rfl) (fun _ _ _ h => h) (Or.inl ⟨by rfl, ?_⟩) (by assumption) ?_
  · intro w hSw; (try dsimp only at hSw); (go_simp <;> first | exact wrap_id (by omega) (by omega) | (intro hh; exfalso; omega) | skip)
  (try simp only [Act.put, List.setIfInBounds_toArray, List.set_cons_zero, List.set_cons_succ])
  refine wpAnyH_take (i := 1) (oi := ({ dst := some 70, op := Op.move (Operand.tmp 1), type := 3, pos := "slices.go:178", after := #[], guard := none } : Oper)) (v := .int .i64 (i : Int)) rfl (by kernel_rfl) (by kernel_rfl) (by kernel_rfl) (fun _ _ _ h => h) (Or.inl ⟨by rfl, ?_⟩) (by assumption) ?_
  · intro w hSw; (try dsimp only at hSw); (go_simp <;> first | exact wrap_id (by omega) (by omega) | (intro hh; exfalso; omega) | skip)
  (try simp only [Act.put, List.setIfInBounds_toArray, List.set_cons_zero, List.set_cons_succ])
  refine wpAnyH_take (i := 2) (oi := ({ dst := some 71, op := Op.move (Operand.tmp 7), type := 3, pos := "slices.go:178", after := #[], guard := none } : Oper)) (v := .int .i64 1) rfl (by kernel_rfl) (by kernel_rfl) (by kernel_rfl) (fun _ _ _ h => h) (Or.inl ⟨by rfl, ?_⟩) (by assumption) ?_
  · intro w hSw; (try dsimp only at hSw); (go_simp <;> first | exact wrap_id (by omega) (by omega) | (intro hh; exfalso; omega) | skip)
  (try simp only [Act.put, List.setIfInBounds_toArray, List.set_cons_zero, List.set_cons_succ])
  refine wpAnyH_take (i := 3) (oi := ({ dst := some 72, op := Op.binOp BinOp.add 3 (Operand.tmp 70) (Operand.tmp 71) 3, type := 3, pos := "slices.go:178", after := #[{ on := 1, ground := Ground.data }, { on := 2, ground := Ground.data }], guard := none } : Oper)) (v := .int .i64 ((i : Int) + 1)) rfl (by kernel_rfl) (by kernel_rfl) (by kernel_rfl) (fun _ _ _ h => h) (Or.inl ⟨by rfl, ?_⟩) (by assumption) ?_
  · intro w hSw; (try dsimp only at hSw); (go_simp <;> first | exact wrap_id (by omega) (by omega) | (intro hh; exfalso; omega) | skip)
  (try simp only [Act.put, List.setIfInBounds_toArray, List.set_cons_zero, List.set_cons_succ])
  refine wpAnyH_take (i := 4) (oi := ({ dst := some 73, op := Op.slice 36 (Operand.tmp 69) (some (Operand.tmp 72)) none none, type := 36, pos := "slices.go:178", after := #[{ on := 0, ground := Ground.data }, { on := 3, ground := Ground.data }], guard := none } : Oper)) (v := .slice (some ⟨g0, (i + 1) * 3, none⟩) (l.length + 1 - (i + 1)) (cap - (i + 1))) rfl (by kernel_rfl) (by kernel_rfl) (by kernel_rfl) (fun _ _ _ h => h) (Or.inl ⟨by rfl, ?_⟩) (by assumption) ?_
  · intro w hSw; (try dsimp only at hSw); (go_simp <;> first | exact wrap_id (by omega) (by omega) | (intro hh; exfalso; omega) | skip)
  (try simp only [Act.put, List.setIfInBounds_toArray, List.set_cons_zero, List.set_cons_succ])
  refine wpAnyH_take (i := 5) (oi := ({ dst := some 74, op := Op.move (Operand.tmp 0), type := 36, pos := "slices.go:178", after := #[], guard := none } : Oper)) (v := .slice (some ⟨g0, 0, none⟩) (l.length + 1) cap) rfl (by kernel_rfl) (by kernel_rfl) (by kernel_rfl) (fun _ _ _ h => h) (Or.inl ⟨by rfl, ?_⟩) (by assumption) ?_
  · intro w hSw; (try dsimp only at hSw); (go_simp <;> first | exact wrap_id (by omega) (by omega) | (intro hh; exfalso; omega) | skip)
  (try simp only [Act.put, List.setIfInBounds_toArray, List.set_cons_zero, List.set_cons_succ])
  refine wpAnyH_take (i := 6) (oi := ({ dst := some 75, op := Op.move (Operand.tmp 1), type := 3, pos := "slices.go:178", after := #[], guard := none } : Oper)) (v := .int .i64 (i : Int)) rfl (by kernel_rfl) (by kernel_rfl) (by kernel_rfl) (fun _ _ _ h => h) (Or.inl ⟨by rfl, ?_⟩) (by assumption) ?_
  · intro w hSw; (try dsimp only at hSw); (go_simp <;> first | exact wrap_id (by omega) (by omega) | (intro hh; exfalso; omega) | skip)
  (try simp only [Act.put, List.setIfInBounds_toArray, List.set_cons_zero, List.set_cons_succ])
  refine wpAnyH_take (i := 7) (oi := ({ dst := some 76, op := Op.slice 36 (Operand.tmp 74) (some (Operand.tmp 75)) none none, type := 36, pos := "slices.go:178", after := #[{ on := 5, ground := Ground.data }, { on := 6, ground := Ground.data }], guard := none } : Oper)) (v := .slice (some ⟨g0, i * 3, none⟩) (l.length + 1 - i) (cap - i)) rfl (by kernel_rfl) (by kernel_rfl) (by kernel_rfl) (fun _ _ _ h => h) (Or.inl ⟨by rfl, ?_⟩) (by assumption) ?_
  · intro w hSw; (try dsimp only at hSw); (go_simp <;> first | exact wrap_id (by omega) (by omega) | (intro hh; exfalso; omega) | skip)
  (try simp only [Act.put, List.setIfInBounds_toArray, List.set_cons_zero, List.set_cons_succ])
  refine wpAnyH_ready (rs := [8]) (by kernel_rfl) (by simp) ?_
  refine AllReadyH.cons (o := ({ dst := some 77, op := Op.call { callee := Callee.builtin Builtin.copy, args := #[Operand.tmp 73, Operand.tmp 76], argTypes := #[36, 36] }, type := 3, pos := "slices.go:178", after := #[{ on := 4, ground := Ground.data }, { on := 7, ground := Ground.data }], guard := none } : Oper)) rfl (fun K hK => ?_) AllReadyH.nil
  rw [if_pos (by rfl)]
  refine wp_run (exec_copy _ _ _ _ (by rfl) (by rfl) (by rfl) (by rfl) (by rfl) (by rfl) (hc1 _ _ _)) ?_
  refine hK.out _ _ ?_ (fun hHeld => ?_)
  · exact trivial
  clear hK K
  (try simp only [Act.put, List.setIfInBounds_toArray, List.set_cons_zero, List.set_cons_succ])
  refine wpAnyH_done (by kernel_rfl) ?_ _
  go_wp2_with (refine wpList_run (by rfl) (exec_copy _ _ _ _ (by rfl) (by rfl) (by rfl) (by rfl) (by rfl) (by rfl) (hc2 _ _)) ?_)
  go_ret
  exact ⟨rfl, c2, HW.out, hs2, HT.out⟩
theorem two_copies2 {α : Type} (F V Z Y : List α) (n i : Nat) (hFl : F.length = n * 3) (hV : V.length = 3) (hi : i < n) (hZ : Z.length = (n + 1 - i) * 3) :
    ((((F.take (i * 3) ++ Z ++ Y).take (i * 3) ++ V ++ (F.take (i * 3) ++ Z ++ Y).drop (i * 3 + V.length)).take ((i + 1) * 3) ++ F.drop (i * 3) ++ ((F.take (i * 3) ++ Z ++ Y).take (i * 3) ++ V ++ (F.take (i * 3) ++ Z ++ Y).drop (i * 3 + V.length)).drop ((i + 1) * 3 + (F.drop (i * 3)).length))).take ((n + 1) * 3) = F.take (i * 3) ++ V ++ F.drop (i * 3) := by
  have hA : (F.take (i * 3)).length = i * 3 := by rw [List.length_take]; omega
  have hD : (F.drop (i * 3)).length = (n - i) * 3 := by rw [List.length_drop, hFl]; omega
  have e1 : (F.take (i * 3) ++ Z ++ Y).take (i * 3) = F.take (i * 3) := by rw [List.append_assoc, List.take_left' hA]
  rw [e1]
  have e2 : ∀ R : List α, (F.take (i * 3) ++ V ++ R).take ((i + 1) * 3) = F.take (i * 3) ++ V := fun R => List.take_left' (by rw [List.length_append, hA, hV]; omega)
  rw [e2, List.take_left' (by simp only [List.length_append, hA, hV, hD]; omega)]
set_option maxHeartbeats 4000000 in
set_option maxRecDepth 100000 in
theorem ins_grow (g0 cap : Nat) (cur : Array Value) (l : List Ch) (i : Nat) (hi : i < l.length) (x : Ch) (g : Nat) (w : World) (hg0 : w.heap[g0]? = some (.cells cur 61 (0, 0))) (hcur : cur.size = cap * 3) (htk : cur.toList.take (l.length * 3) = l.flatMap chC) (hg : w.heap[g]? = some (.cells (chC x).toArray 61 (0, 0))) (hm : l.length ≤ 1000) (hcap : l.length ≤ cap) (hroom : cap < l.length + 1) :
    Calls Tryd.prog 72 #[.slice (some ⟨g0, 0, none⟩) l.length cap, .int .i64 (i : Int), .slice (some ⟨g, 0, none⟩) 1 1] w fun e w' => ∃ G cur', e = .returned (.slice (some ⟨w.heap.size, 0, none⟩) (l.length + 1) G) ∧ w'.heap[w.heap.size]? = some (.cells cur' 61 (0, 0)) ∧ cur'.size = G * 3 ∧ cur'.toList.take ((l.length + 1) * 3) = (insL l i x).flatMap chC ∧ l.length + 1 ≤ G ∧ G ≤ maxLen ∧ Below w.heap.size w w' := by
  have hcl := chs_len l
  obtain ⟨i0, hi0, hz0, hzs, hzb⟩ := info_parts infoCh
  have hsrc0 : ∀ (W : World), (∀ y, W.heap[g0]? = w.heap[g0]?) → ∀ j u, (l.flatMap chC)[j]? = some u → W.cell? ⟨g0, j, none⟩ = some u := fun W hW j u hu => by
    rw [← htk, List.getElem?_take] at hu
    rw [cell_of_row W g0 _ _ _ _ ((hW ()).trans hg0)]
    split at hu
    · simpa using hu
    · cases hu
  have hold : (Builtin.firstCells i0.size i (.slice (some ⟨g0, 0, none⟩) i cap)).run Tryd.prog w.drew = .ok ((l.flatMap chC).take (i * 3)).toArray w.drew := by
    rw [hzs]
    exact run_firstCells_some w.drew 3 i ⟨g0, 0, none⟩ i cap _ (by rw [List.length_take, hcl]; omega) (fun j u hj => by
      rw [Addr.add_lit, Nat.zero_add]
      rw [List.getElem?_take] at hj
      split at hj
      · exact hsrc0 w.drew (fun _ => rfl) j u hj
      · cases hj)
  have hik : i + (l.length + 1 - i) = l.length + 1 := by omega
  have hrz : ∀ ty, (Builtin.append_ #[36, 3] ty #[.slice (some ⟨g0, 0, none⟩) i cap, .int .i64 ((l.length : Int) + 1 - (i : Int))]).run Tryd.prog w =
      .ok (.slice (some ⟨w.heap.size, 0, none⟩) (l.length + 1) (grownCap w (l.length + 1) cap 61)) (w.drew.alloc (.cells (((l.flatMap chC).take (i * 3)).toArray ++ Builtin.zeroCells (Value.agg #[.string ⟨#[]⟩, .string ⟨#[]⟩, .bool false]).cells (l.length + 1 - i) ++ Builtin.zeroCells (Value.agg #[.string ⟨#[]⟩, .string ⟨#[]⟩, .bool false]).cells (grownCap w (l.length + 1) cap 61 - (l.length + 1))) 61)) := fun ty => by
    have h := Lib.run_append_grow_zeros w 36 3 ty 61 i0 _ .i64 .i64 Tryd.underlying36 Tryd.underlying3 hi0 hz0 (some ⟨g0, 0, none⟩) i cap _ hold (l.length + 1 - i) (by omega) (by rw [hzs]; decide) (by omega) (by omega) (by rw [hzb]; omega) (by rw [hzb, hik]; exact growslice_fits hroom (by omega))
    rw [hik] at h
    rw [show (l.length : Int) + 1 - (i : Int) = ((l.length + 1 - i : Nat) : Int) by omega]
    exact h
  have hGn := grownCap_ge w (l.length + 1) cap 61
  have hGm := grownCap_le_maxLen w (l.length + 1) cap 61 (by unfold maxLen; omega)
  generalize grownCap w (l.length + 1) cap 61 = G at *
  obtain ⟨ZA, hZA⟩ : ∃ ZA, Builtin.zeroCells (Value.agg #[.string ⟨#[]⟩, .string ⟨#[]⟩, .bool false]).cells (l.length + 1 - i) = ZA := ⟨_, rfl⟩
  obtain ⟨YA, hYA⟩ : ∃ YA, Builtin.zeroCells (Value.agg #[.string ⟨#[]⟩, .string ⟨#[]⟩, .bool false]).cells (G - (l.length + 1)) = YA := ⟨_, rfl⟩
  have hZs : ZA.size = (l.length + 1 - i) * 3 := by rw [← hZA]; simp [Builtin.zeroCells, Value.cells]
  have hYs : YA.size = (G - (l.length + 1)) * 3 := by rw [← hYA]; simp [Builtin.zeroCells, Value.cells]
  rw [hZA, hYA] at hrz
  clear hZA hYA
  obtain ⟨ROW, hROW⟩ : ∃ ROW, ((l.flatMap chC).take (i * 3)).toArray ++ ZA ++ YA = ROW := ⟨_, rfl⟩
  rw [hROW] at hrz
  have hRl : ROW.toList = (l.flatMap chC).take (i * 3) ++ ZA.toList ++ YA.toList := by rw [← hROW]; simp
  have hRs : ROW.size = G * 3 := by rw [← hROW]; simp [hZs, hYs, hcl]; omega
  clear hROW hold
  obtain ⟨W1, hW1⟩ : ∃ W1, w.drew.alloc (.cells ROW 61) = W1 := ⟨_, rfl⟩
  have b1 : Below w.heap.size w W1 := hW1 ▸ (below_drewN (Below.refl _ _) 1).alloc (Nat.le_refl _) _
  have hN : W1.heap[w.heap.size]? = some (.cells ROW 61 (0, 0)) := hW1 ▸ heap_alloc_last w.drew _
  rw [hW1] at hrz
  clear hW1
  have hgl := heap_lt hg
  have hg0l := heap_lt hg0
  have hgv1 : W1.heap[g]? = some (.cells (chC x).toArray 61 (0, 0)) := (b1.block g hgl).trans hg
  have hc1 : ∀ ty dc, (Builtin.copy_ #[36, 36] ty #[.slice (some ⟨w.heap.size, i * 3, none⟩) (l.length + 1 - i) dc, .slice (some ⟨g, 0, none⟩) 1 1]).run Tryd.prog W1 = .ok (goInt 1) (W1.setRow w.heap.size (ROW.toList.take (i * 3) ++ chC x ++ ROW.toList.drop (i * 3 + (chC x).length)).toArray) := fun ty dc =>
    run_copy_into W1 36 36 ty 61 3 w.heap.size (i * 3) (l.length + 1 - i) dc 1 ⟨g, 0, none⟩ 1 1 ROW 61 (chC x) Tryd.underlying36 szCh2 (by simp only [Nat.min_def]; split <;> omega) hN rfl (fun j u hu => by rw [Addr.add_lit, Nat.zero_add, cell_of_row _ g _ _ _ _ hgv1]; simpa using hu) (by rw [hRs]; simp [chC]; omega) (chC_one x)
  obtain ⟨c1, hc1e⟩ : ∃ c1, c1 = (ROW.toList.take (i * 3) ++ chC x ++ ROW.toList.drop (i * 3 + (chC x).length)).toArray := ⟨_, rfl⟩
  rw [← hc1e] at hc1
  have hs1 : c1.size = G * 3 := by rw [hc1e]; simp [hRs, chC]; omega
  have hN1 : (W1.setRow w.heap.size c1).drew.heap[w.heap.size]? = some (.cells c1 61 (0, 0)) := setRow_heap W1 _ _ _ _ _ hN
  have hdl : ((l.flatMap chC).drop (i * 3)).length = (l.length - i) * 3 := by rw [List.length_drop, hcl]; omega
  have hc2 : ∀ ty dc sc, (Builtin.copy_ #[36, 36] ty #[.slice (some ⟨w.heap.size, (i + 1) * 3, none⟩) (l.length + 1 - (i + 1)) dc, .slice (some ⟨g0, i * 3, none⟩) (l.length - i) sc]).run Tryd.prog (W1.setRow w.heap.size c1).drew = .ok (goInt ((l.length - i : Nat) : Int)) ((W1.setRow w.heap.size c1).drew.setRow w.heap.size (c1.toList.take ((i + 1) * 3) ++ (l.flatMap chC).drop (i * 3) ++ c1.toList.drop ((i + 1) * 3 + ((l.flatMap chC).drop (i * 3)).length)).toArray) := fun ty dc sc =>
    run_copy_into _ 36 36 ty 61 3 w.heap.size ((i + 1) * 3) (l.length + 1 - (i + 1)) dc (l.length - i) ⟨g0, i * 3, none⟩ (l.length - i) sc c1 61 _ Tryd.underlying36 szCh2 (by simp only [Nat.min_def]; split <;> omega) hN1 hdl (fun j u hu => by
      rw [List.getElem?_drop] at hu
      rw [Addr.add_lit]
      exact hsrc0 _ (fun _ => (setRow_other W1 _ _ _ (by omega)).trans (b1.block g0 hg0l)) _ u hu) (by rw [hdl, hs1]; omega) (fun u hu => chs_one l u (List.mem_of_mem_drop hu))
  obtain ⟨c2, hc2e⟩ : ∃ c2, c2 = (c1.toList.take ((i + 1) * 3) ++ (l.flatMap chC).drop (i * 3) ++ c1.toList.drop ((i + 1) * 3 + ((l.flatMap chC).drop (i * 3)).length)).toArray := ⟨_, rfl⟩
  rw [← hc2e] at hc2
  have hs2 : c2.size = G * 3 := by rw [hc2e]; simp [hdl, hs1]; omega
  have HT : Hid (c2.toList.take ((l.length + 1) * 3) = (insL l i x).flatMap chC) := by
    show _ = _
    rw [ins_flat l i (by omega), hc2e, hc1e, hRl]
    exact two_copies2 _ (chC x) ZA.toList YA.toList l.length i hcl rfl hi (by have : ZA.toList.length = ZA.size := Array.length_toList; omega)
  have hN2 : ((W1.setRow w.heap.size c1).drew.setRow w.heap.size c2).heap[w.heap.size]? = some (.cells c2 61 (0, 0)) := setRow_heap _ _ _ _ _ _ hN1
  have hbl : Below w.heap.size w ((W1.setRow w.heap.size c1).drew.setRow w.heap.size c2) := ⟨b1.os, b1.tape, b1.output, by rw [setRow_size]; show _ ≤ (W1.setRow w.heap.size c1).heap.size; rw [setRow_size]; exact b1.size, fun k hk => (setRow_other _ _ _ _ (by omega)).trans ((setRow_other W1 _ _ _ (by omega)).trans (b1.block k hk))⟩
  have HF : Hid (G ≤ maxLen) := hGm
  unfold maxLen at hGm
  have hGi : ¬ (G = i) := by omega
  have hGi1 : ¬ (G = i + 1) := by omega
  have hci : ¬ (cap = i) := by omega
  have hz2 : ((i : Int) == (l.length : Int)) = false := by simp; omega
  have hz3 : (cap : Int) < (l.length : Int) + 1 := by omega
  clear hsrc0 hdl hc1e hc2e hs1 hN hN1 hgv1 htk hcur hcl hg0 hg b1 hRl hRs hZs hYs hgl hg0l
  go_enter Tryd.func72, Tryd.ntmps72
  go_wp2_with (first | (refine wpList_run (by rfl) (exec_append _ _ (.tmp 34) (.tmp 39) (by rfl) (by rfl) (by rfl) (by rfl) (by rfl) (by rfl) (hrz _)) ?_) | (refine wpList_run (by rfl) (exec_copy _ _ (.tmp 43) (.tmp 44) (by rfl) (by rfl) (by rfl) (by rfl) (by rfl) (by rfl) (hc1 _ _)) ?_))
  refine wp_region_held_drew (S := fun _ => True) (by kernel_rfl) trivial (fun hHeld => ?_)
  refine wpAnyH_take (i := 0) (oi := ({ dst := some 46, op := Op.move (Operand.tmp 9), type := 36, pos := "slices.go:154", after := #[], guard := none } : Oper)) (v := .slice (some ⟨w.heap.size, 0, none⟩) (l.length + 1) G) rfl (by kernel_rfl) (by kernel_rfl) (by kernel_rfl) (fun _ _ _ h => h) (Or.inl ⟨by rfl, ?_⟩) (by assumption) ?_
  · intro w hSw; (try dsimp only at hSw); (go_simp <;> first | exact wrap_id (by omega) (by omega) | (intro hh; exfalso; omega) | skip)
  (try simp only [Act.put, List.setIfInBounds_toArray, List.set_cons_zero, List.set_cons_succ])
  refine wpAnyH_take (i := 1) (oi := ({ dst := some 47, op := Op.move (Operand.tmp 1), type := 3, pos := "slices.go:154", after := #[], guard := none } : Oper)) (v := .int .i64 (i : Int)) rfl (by kernel_rfl) (by kernel_rfl) (by kernel_rfl) (fun _ _ _ h => h) (Or.inl ⟨by rfl, ?_⟩) (by assumption) ?_
  · intro w hSw; (try dsimp only at hSw); (go_simp <;> first | exact wrap_id (by omega) (by omega) | (intro hh; exfalso; omega) | skip)
  (try simp only [Act.put, List.setIfInBounds_toArray, List.set_cons_zero, List.set_cons_succ])
  refine wpAnyH_take (i := 2) (oi := ({ dst := some 48, op := Op.move (Operand.tmp 7), type := 3, pos := "slices.go:154", after := #[], guard := none } : Oper)) (v := .int .i64 1) rfl (by kernel_rfl) (by kernel_rfl) (by kernel_rfl) (fun _ _ _ h => h) (Or.inl ⟨by rfl, ?_⟩) (by assumption) ?_
  · intro w hSw; (try dsimp only at hSw); (go_simp <;> first | exact wrap_id (by omega) (by omega) | (intro hh; exfalso; omega) | skip)
  (try simp only [Act.put, List.setIfInBounds_toArray, List.set_cons_zero, List.set_cons_succ])
  refine wpAnyH_take (i := 3) (oi := ({ dst := some 49, op := Op.binOp BinOp.add 3 (Operand.tmp 47) (Operand.tmp 48) 3, type := 3, pos := "slices.go:154", after := #[{ on := 1, ground := Ground.data }, { on := 2, ground := Ground.data }], guard := none } : Oper)) (v := .int .i64 ((i : Int) + 1)) rfl (by kernel_rfl) (by kernel_rfl) (by kernel_rfl) (fun _ _ _ h => h) (Or.inl ⟨by rfl, ?_⟩) (by assumption) ?_
  · intro w hSw; (try dsimp only at hSw); (go_simp <;> first | exact wrap_id (by omega) (by omega) | (intro hh; exfalso; omega) | skip)
  (try simp only [Act.put, List.setIfInBounds_toArray, List.set_cons_zero, List.set_cons_succ])
  refine wpAnyH_take (i := 4) (oi := ({ dst := some 50, op := Op.slice 36 (Operand.tmp 46) (some (Operand.tmp 49)) none none, type := 36, pos := "slices.go:154", after := #[{ on := 0, ground := Ground.data }, { on := 3, ground := Ground.data }], guard := none } : Oper)) (v := .slice (some ⟨w.heap.size, (i + 1) * 3, none⟩) (l.length + 1 - (i + 1)) (G - (i + 1))) rfl (by kernel_rfl) (by kernel_rfl) (by kernel_rfl) (fun _ _ _ h => h) (Or.inl ⟨by rfl, ?_⟩) (by assumption) ?_
  · intro w hSw; (try dsimp only at hSw); (go_simp <;> first | exact wrap_id (by omega) (by omega) | (intro hh; exfalso; omega) | skip)
  (try simp only [Act.put, List.setIfInBounds_toArray, List.set_cons_zero, List.set_cons_succ])
  refine wpAnyH_take (i := 5) (oi := ({ dst := some 51, op := Op.move (Operand.tmp 0), type := 36, pos := "slices.go:154", after := #[], guard := none } : Oper)) (v := .slice (some ⟨g0, 0, none⟩) l.length cap) rfl (by kernel_rfl) (by kernel_rfl) (by kernel_rfl) (fun _ _ _ h => h) (Or.inl ⟨by rfl, ?_⟩) (by assumption) ?_
  · intro w hSw; (try dsimp only at hSw); (go_simp <;> first | exact wrap_id (by omega) (by omega) | (intro hh; exfalso; omega) | skip)
  (try simp only [Act.put, List.setIfInBounds_toArray, List.set_cons_zero, List.set_cons_succ])
  refine wpAnyH_take (i := 6) (oi := ({ dst := some 52, op := Op.move (Operand.tmp 1), type := 3, pos := "slices.go:154", after := #[], guard := none } : Oper)) (v := .int .i64 (i : Int)) rfl (by kernel_rfl) (by kernel_rfl) (by kernel_rfl) (fun _ _ _ h => h) (Or.inl ⟨by rfl, ?_⟩) (by assumption) ?_
  · intro w hSw; (try dsimp only at hSw); (go_simp <;> first | exact wrap_id (by omega) (by omega) | (intro hh; exfalso; omega) | skip)
  (try simp only [Act.put, List.setIfInBounds_toArray, List.set_cons_zero, List.set_cons_succ])
  refine wpAnyH_take (i := 7) (oi := ({ dst := some 53, op := Op.slice 36 (Operand.tmp 51) (some (Operand.tmp 52)) none none, type := 36, pos := "slices.go:154", after := #[{ on := 5, ground := Ground.data }, { on := 6, ground := Ground.data }], guard := none } : Oper)) (v := .slice (some ⟨g0, i * 3, none⟩) (l.length - i) (cap - i)) rfl (by kernel_rfl) (by kernel_rfl) (by kernel_rfl) (fun _ _ _ h => h) (Or.inl ⟨by rfl, ?_⟩) (by assumption) ?_
  · intro w hSw; (try dsimp only at hSw); (go_simp <;> first | exact wrap_id (by omega) (by omega) | (intro hh; exfalso; omega) | skip)
  (try simp only [Act.put, List.setIfInBounds_toArray, List.set_cons_zero, List.set_cons_succ])
  refine wpAnyH_ready (rs := [8]) (by kernel_rfl) (by simp) ?_
  refine AllReadyH.cons (o := ({ dst := some 54, op := Op.call { callee := Callee.builtin Builtin.copy, args := #[Operand.tmp 50, Operand.tmp 53], argTypes := #[36, 36] }, type := 3, pos := "slices.go:154", after := #[{ on := 4, ground := Ground.data }, { on := 7, ground := Ground.data }], guard := none } : Oper)) rfl (fun K hK => ?_) AllReadyH.nil
  rw [if_pos (by rfl)]
  refine wp_run (exec_copy _ _ _ _ (by rfl) (by rfl) (by rfl) (by rfl) (by rfl) (by rfl) (hc2 _ _ _)) ?_
  refine hK.out _ _ ?_ (fun hHeld => ?_)
  · exact trivial
  clear hK K
  (try simp only [Act.put, List.setIfInBounds_toArray, List.set_cons_zero, List.set_cons_succ])
  refine wpAnyH_done (by kernel_rfl) ?_ _
  go_wp2_with fail
  go_ret
  exact ⟨G, c2, rfl, hN2, hs2, HT.out, hGn, HF.out, hbl⟩
theorem ins_any (v : Value) (l : List Ch) (i : Nat) (hi : i ≤ l.length) (x : Ch) (g : Nat) (w : World) (base : Nat) (hown : w.ownsRow base 61 3 v l.length (l.flatMap chC)) (hg : w.heap[g]? = some (.cells (chC x).toArray 61 (0, 0))) (hgv : v.ownBlock ≠ some g) (hm : l.length ≤ 1000) (hb : base ≤ w.heap.size) :
    Calls Tryd.prog 72 #[v, .int .i64 (i : Int), .slice (some ⟨g, 0, none⟩) 1 1] w fun e w' => ∃ v', e = .returned v' ∧ w'.ownsRow base 61 3 v' (l.length + 1) ((insL l i x).flatMap chC) ∧ w.grownBy w' v.ownBlock ∧ (v'.ownBlock = v.ownBlock ∨ v'.ownBlock = some w.heap.size) := by
  by_cases he : i = l.length
  · subst he
    have e : insL l l.length x = l ++ [x] := by simp [insL]
    rw [e]
    exact ins_end v l x g w base hown hg hm hb
  · rcases hown.2 with ⟨rfl, h0⟩ | ⟨g0, cap, cur, rfl, hbg, hg0, hn, hmx, hcs, htk⟩
    · omega
    · have hgg : g ≠ g0 := fun e => hgv (by rw [e]; rfl)
      by_cases hr : l.length + 1 ≤ cap
      · refine (ins_shift g0 cap cur l i (by omega) x g w hg0 hcs htk hg hgg hm hr (by unfold maxLen at hmx; omega)).mono ?_
        rintro e w' ⟨rfl, cur', rfl, h1, h2⟩
        refine ⟨_, rfl, ⟨by rw [chs_len]; simp [insL]; omega, .inr ⟨g0, cap, cur', rfl, hbg, setRow_heap w.drew g0 _ _ _ _ hg0, hr, hmx, h1, h2⟩⟩, ⟨rfl, rfl, rfl, by simp, fun k hk hne => setRow_other w.drew g0 k _ (fun e => hne (by rw [e]; rfl))⟩, .inl rfl⟩
      · refine (ins_grow g0 cap cur l i (by omega) x g w hg0 hcs htk hg hm hn (by omega)).mono ?_
        rintro e w' ⟨G, cur', rfl, h1, h2, h3, h4, h5, h6⟩
        exact ⟨_, rfl, ⟨by rw [chs_len]; simp [insL]; omega, .inr ⟨w.heap.size, G, cur', rfl, hb, h1, h4, h5, h2, h3⟩⟩, ⟨h6.os, h6.tape, h6.output, h6.size, fun k hk _ => h6.block k hk⟩, .inr rfl⟩
end Go.Proofs.YtikkakdeapbioaaDoor
