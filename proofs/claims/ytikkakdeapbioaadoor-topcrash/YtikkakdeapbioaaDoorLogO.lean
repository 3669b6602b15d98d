/- Package log: sectors, as the landed code has it. -/
import Derived.Test.YtikkakdeapbioaaDoorLogR
set_option linter.unusedVariables false
set_option linter.unusedSimpArgs false
set_option linter.unnecessarySimpa false
namespace Go.Proofs.YtikkakdeapbioaaDoor
open Go.RowKit

theorem dChs_snoc (c : Ch) : ∀ (l : List Ch) (n : Nat), dChs n (l ++ [c]) = dChs n l ++ [secL 111 (n + l.length) (chL c)]
  | [], n => by simp [dChs]
  | x :: l, n => by
    rw [List.cons_append]
    unfold dChs
    rw [dChs_snoc c l (n + 1), List.cons_append, List.length_cons, show n + 1 + l.length = n + (l.length + 1) by omega]
theorem dChs_len : ∀ (l : List Ch) (n : Nat), (dChs n l).length = l.length
  | [], n => rfl
  | x :: l, n => by unfold dChs; simp [dChs_len l (n + 1)]
theorem deedL_len (n : Nat) (l : List Ch) : (deedL n l).length = l.length + 1 := by unfold deedL; simp [dChs_len]
theorem dChs_small : ∀ (l : List Ch) (n : Nat), chksC l = 0 → ∀ s ∈ dChs n l, s.length ≤ 48
  | [], n, _ => by intro s hs; simp [dChs] at hs
  | c :: l, n, h => by
    unfold chksC at h
    split at h
    · rename_i hc
      intro s hs
      unfold dChs at hs
      rcases List.mem_cons.1 hs with rfl | hs
      · rw [secL_len]; have := chL_len hc; omega
      · exact dChs_small l (n + 1) h s hs
    · rename_i hc; exact absurd h hc
theorem deedL_small {l : List Ch} {n : Nat} (h : chksC l = 0) : ∀ s ∈ deedL n l, s.length ≤ 48 := by
  intro s hs
  unfold deedL at hs
  rcases List.mem_append.1 hs with hs | hs
  · exact dChs_small l n h s hs
  · simp at hs; rw [hs, secL_len, leL_len]; omega
def strV (l : List (List UInt8)) : List Value := l.map (fun s => .string (strOf s))
theorem strV_snoc (l : List (List UInt8)) (s : List UInt8) : strV (l ++ [s]) = strV l ++ [.string (strOf s)] := by simp [strV]
theorem own_strs {w : World} {base : Nat} {v : Value} {l : List (List UInt8)} (h : w.ownsRow base 9 1 v l.length (strV l)) (hs : ∀ s ∈ l, s.length ≤ 1000) : ∃ a c, v = .slice a l.length c ∧ StrsB (fun k => k < base) w a (l.map strOf) := by
  rcases h.2 with ⟨rfl, h0⟩ | ⟨g, cap, cur, rfl, hb, hg, -⟩
  · exact ⟨none, 0, by rw [h0], .inl (by rw [List.length_eq_zero_iff.1 h0]; rfl)⟩
  · refine ⟨_, _, rfl, .inr ⟨g, 0, rfl, heap_lt hg, by omega, fun j s hj => ?_⟩⟩
    rw [Nat.zero_add]
    simp only [List.getElem?_map, Option.map_eq_some_iff] at hj
    obtain ⟨x, hx, rfl⟩ := hj
    exact ⟨own_at h rfl (by simp [strV, hx]), by rw [str_size]; have := hs x (List.mem_of_getElem? hx); simp [maxLen]; omega⟩
theorem chks_drop {l : List Ch} {k : Nat} {c : Ch} (hk : l[k]? = some c) : chksC (l.drop k) = if chkC c = 0 then chksC (l.drop (k + 1)) else chkC c := by
  obtain ⟨h1, rfl⟩ := List.getElem?_eq_some_iff.1 hk
  rw [List.drop_eq_getElem_cons h1]
  rfl
set_option maxHeartbeats 4000000 in
set_option maxRecDepth 100000 in
theorem lsectors_any (p q : Nat) (lg : Lg) (a : Option Addr) (c : Nat) (l : List Ch) (w : World) (hq : LgAt w q p lg) (hl : ChsAt w a l) (hm : l.length ≤ 1000) (hf : lg.first ≤ 1000000000000) (hu : lg.used ≤ 100000) :
    Calls Tryd.prog 53 #[.pointer (some ⟨q, 0, none⟩), .slice a l.length c] w fun e w' => Below w.heap.size w w' ∧
      ((chksC l = 0 ∧ ∃ a' c', e = .returned (.tuple #[.slice a' (deedS (lg.first + lg.used) l).length c', .nilIface]) ∧ StrsB (fun k => k < w.heap.size) w' a' (deedS (lg.first + lg.used) l)) ∨
       (chksC l ≠ 0 ∧ e = .returned (.tuple #[.slice none 0 0, errV (chksC l)]))) := by
  obtain ⟨-, -, -, c3, c4⟩ := hq.cells
  have hqlt := heap_lt hq
  have HS : Hid (∀ n, deedS n l = (dChs n l ++ [secL 99 (n + l.length) (leL l.length 4)]).map strOf) := fun n => rfl
  have hbl0 : Below w.heap.size w w.drew := below_drewN (Below.refl _ _) 1
  go_enter Tryd.func53, Tryd.ntmps53
  go_wp2_with fail
  refine wp_region_held_drew (S := fun w' => w'.cell? ⟨q, 3, none⟩ = some (.int .i64 (lg.first : Int)) ∧ w'.cell? ⟨q, 4, none⟩ = some (.int .i64 (lg.used : Int))) (by kernel_rfl) ?_ (fun hHeld => ?_)
  · exact ⟨c3, c4⟩
  refine wpAnyH_take (i := 0) (oi := ({ dst := some 11, op := Op.move (Operand.tmp 0), type := 77, pos := "sector.go:25", after := #[], guard := none } : Oper)) (v := .pointer (some ⟨q, 0, none⟩)) rfl (by kernel_rfl) (by kernel_rfl) (by kernel_rfl) (fun _ _ _ h => h) (Or.inl ⟨by rfl, ?_⟩) (by assumption) ?_
  · intro w hSw; (try dsimp only at hSw); go_simp
  (try simp only [Act.put, List.setIfInBounds_toArray, List.set_cons_zero, List.set_cons_succ])
  refine wpAnyH_take (i := 1) (oi := ({ dst := some 12, op := Op.nilCheck (Operand.tmp 11), type := 0, pos := "sector.go:25", after := #[{ on := 0, ground := Ground.data }], guard := none } : Oper)) (v := .pointer (some ⟨q, 0, none⟩)) rfl (by kernel_rfl) (by kernel_rfl) (by kernel_rfl) (fun _ _ _ h => h) (Or.inl ⟨by rfl, ?_⟩) (by assumption) ?_
  · intro w hSw; (try dsimp only at hSw); go_simp
  (try simp only [Act.put, List.setIfInBounds_toArray, List.set_cons_zero, List.set_cons_succ])
  refine wpAnyH_take (i := 2) (oi := ({ dst := some 13, op := Op.fieldAddr 110 (Operand.tmp 12) 3, type := 0, pos := "sector.go:25", after := #[{ on := 1, ground := Ground.data }], guard := none } : Oper)) (v := .pointer (some ⟨q, 3, none⟩)) rfl (by kernel_rfl) (by kernel_rfl) (by kernel_rfl) (fun _ _ _ h => h) (Or.inl ⟨by rfl, ?_⟩) (by assumption) ?_
  · intro w hSw; (try dsimp only at hSw); go_simp
  (try simp only [Act.put, List.setIfInBounds_toArray, List.set_cons_zero, List.set_cons_succ])
  refine wpAnyH_take (i := 3) (oi := ({ dst := some 14, op := Op.load 3 (Operand.tmp 13), type := 3, pos := "sector.go:25", after := #[{ on := 2, ground := Ground.data }], guard := none } : Oper)) (v := .int .i64 (lg.first : Int)) rfl (by kernel_rfl) (by kernel_rfl) (by kernel_rfl) (fun _ _ _ h => h) (Or.inl ⟨by rfl, ?_⟩) (by assumption) ?_
  · intro w hSw; (try dsimp only at hSw); go_simp
  (try simp only [Act.put, List.setIfInBounds_toArray, List.set_cons_zero, List.set_cons_succ])
  refine wpAnyH_take (i := 4) (oi := ({ dst := some 15, op := Op.move (Operand.tmp 0), type := 77, pos := "sector.go:25", after := #[], guard := none } : Oper)) (v := .pointer (some ⟨q, 0, none⟩)) rfl (by kernel_rfl) (by kernel_rfl) (by kernel_rfl) (fun _ _ _ h => h) (Or.inl ⟨by rfl, ?_⟩) (by assumption) ?_
  · intro w hSw; (try dsimp only at hSw); go_simp
  (try simp only [Act.put, List.setIfInBounds_toArray, List.set_cons_zero, List.set_cons_succ])
  refine wpAnyH_take (i := 5) (oi := ({ dst := some 16, op := Op.nilCheck (Operand.tmp 15), type := 0, pos := "sector.go:25", after := #[{ on := 4, ground := Ground.data }], guard := none } : Oper)) (v := .pointer (some ⟨q, 0, none⟩)) rfl (by kernel_rfl) (by kernel_rfl) (by kernel_rfl) (fun _ _ _ h => h) (Or.inl ⟨by rfl, ?_⟩) (by assumption) ?_
  · intro w hSw; (try dsimp only at hSw); go_simp
  (try simp only [Act.put, List.setIfInBounds_toArray, List.set_cons_zero, List.set_cons_succ])
  refine wpAnyH_take (i := 6) (oi := ({ dst := some 17, op := Op.fieldAddr 110 (Operand.tmp 16) 4, type := 0, pos := "sector.go:25", after := #[{ on := 5, ground := Ground.data }], guard := none } : Oper)) (v := .pointer (some ⟨q, 4, none⟩)) rfl (by kernel_rfl) (by kernel_rfl) (by kernel_rfl) (fun _ _ _ h => h) (Or.inl ⟨by rfl, ?_⟩) (by assumption) ?_
  · intro w hSw; (try dsimp only at hSw); go_simp
  (try simp only [Act.put, List.setIfInBounds_toArray, List.set_cons_zero, List.set_cons_succ])
  refine wpAnyH_take (i := 7) (oi := ({ dst := some 18, op := Op.load 3 (Operand.tmp 17), type := 3, pos := "sector.go:25", after := #[{ on := 6, ground := Ground.data }], guard := none } : Oper)) (v := .int .i64 (lg.used : Int)) rfl (by kernel_rfl) (by kernel_rfl) (by kernel_rfl) (fun _ _ _ h => h) (Or.inl ⟨by rfl, ?_⟩) (by assumption) ?_
  · intro w hSw; (try dsimp only at hSw); go_simp
  (try simp only [Act.put, List.setIfInBounds_toArray, List.set_cons_zero, List.set_cons_succ])
  refine wpAnyH_take (i := 8) (oi := ({ dst := some 19, op := Op.binOp BinOp.add 3 (Operand.tmp 14) (Operand.tmp 18) 3, type := 3, pos := "sector.go:25", after := #[{ on := 3, ground := Ground.data }, { on := 7, ground := Ground.data }], guard := none } : Oper)) (v := .int .i64 ((lg.first : Int) + (lg.used : Int))) rfl (by kernel_rfl) (by kernel_rfl) (by kernel_rfl) (fun _ _ _ h => h) (Or.inl ⟨by rfl, ?_⟩) (by assumption) ?_
  · intro w hSw; (try dsimp only at hSw); go_simp; exact wrap_id (by omega) (by omega)
  (try simp only [Act.put, List.setIfInBounds_toArray, List.set_cons_zero, List.set_cons_succ])
  refine wpAnyH_take (i := 9) (oi := ({ dst := some 7, op := Op.assign (Operand.tmp 19), type := 3, pos := "sector.go:25", after := #[{ on := 8, ground := Ground.data }, { on := 0, ground := Ground.phase }, { on := 1, ground := Ground.phase }, { on := 2, ground := Ground.phase }, { on := 3, ground := Ground.phase }, { on := 4, ground := Ground.phase }, { on := 5, ground := Ground.phase }, { on := 6, ground := Ground.phase }, { on := 7, ground := Ground.phase }, { on := 8, ground := Ground.phase }], guard := none } : Oper)) (v := .int .i64 ((lg.first : Int) + (lg.used : Int))) rfl (by kernel_rfl) (by kernel_rfl) (by kernel_rfl) (fun _ _ _ h => h) (Or.inl ⟨by rfl, ?_⟩) (by assumption) ?_
  · intro w hSw; (try dsimp only at hSw); go_simp
  (try simp only [Act.put, List.setIfInBounds_toArray, List.set_cons_zero, List.set_cons_succ])
  refine wpAnyH_done (by kernel_rfl) ?_ _
  go_wp2_with fail
  clear c3 c4 hqlt hq
  go_loopw [22, 6, 8, 9, 10, 4, 5] (fun i xo _ _ _ _ _ wr => ∃ (k : Nat), k ≤ l.length ∧ i = .int .i64 k ∧ wr.ownsRow w.heap.size 9 1 xo k (strV (dChs (lg.first + lg.used) (l.take k))) ∧ Below w.heap.size w wr ∧ Hid (chksC l = chksC (l.drop k))) (fun i _ _ _ _ _ _ _ => l.length - (intOf i).toNat)
  case atStart => exact ⟨0, Nat.zero_le _, rfl, World.ownsRow_nil _ _ _ _, hbl0, rfl⟩
  case round =>
    clear hbl0
    obtain ⟨k, hk, rfl, hO, hbl, HC⟩ := hrel
    obtain ⟨ao, co, rfl⟩ := own_form hO
    by_cases hlt : k < l.length
    rotate_left
    · have HKE : Hid (k = l.length) := by show _ = _; omega
      have dlt : decide ((k : Int) < (l.length : Int)) = false := decide_eq_false (by omega)
      have HC0 : Hid (chksC l = 0) := by
        show _ = _
        rw [HC.out, List.drop_of_length_le (by omega)]; rfl
      rw [List.take_of_length_le (by omega)] at hO
      have hct := count_any a l.length c wr (by omega)
      clear HC
      go_wp2_with fail
      refine hct.mono ?_
      rintro e w2 ⟨rfl, hb2⟩
      have hsc := sector_any 99 (lg.first + lg.used + l.length) (leB l.length 4) w2 (by omega) (by rw [leB_size]; decide)
      rw [show (leB l.length 4).data.toList = leL l.length 4 from str_data _, show ((99 : UInt8).toNat : Int) = 99 from rfl, show ((lg.first + lg.used + l.length : Nat) : Int) = (lg.first : Int) + (lg.used : Int) + (l.length : Int) by omega] at hsc
      have HL : Hid ((secL 99 (lg.first + lg.used + l.length) (leL l.length 4)).length ≤ 48) := by show _ ≤ _; rw [secL_len, leL_len]; omega
      generalize hG : secL 99 (lg.first + lg.used + l.length) (leL l.length 4) = SL at *
      have HG : Hid (secL 99 (lg.first + lg.used + l.length) (leL l.length 4) = SL) := hG
      clear hG hct
      generalize leB l.length 4 = L4 at *
      go_wp2_with fail
      refine hsc.mono ?_
      rintro e w3 ⟨rfl, hb3⟩
      clear hsc
      have hO4 := (own_keep (own_keep hO (fun k hk => hb2.block k (hO.lt k hk).2)) (fun k hk => hb3.block k (Nat.lt_of_lt_of_le (hO.lt k hk).2 hb2.size))).alloc (.cells #[.string (strOf SL)] 9)
      have bl3 := Below_after (Below_after hbl hb2) hb3
      have bl4 := bl3.alloc bl3.size (.cells #[.string (strOf SL)] 9)
      have hg4 := heap_alloc_last w3 (.cells #[.string (strOf SL)] 9)
      obtain ⟨v', w5, r1, r2, r3, r5⟩ := run_app 111 9 111 Tryd.underlying111 infoSt rfl (by decide) (by decide) hO4 (by omega) bl4.size (news := [.string (strOf SL)]) rfl (by intro u hu; simp at hu; rw [hu]; rfl) w3.heap.size hg4
      have bl5 : Below w.heap.size w w5 := ⟨r3.os.trans bl4.os, r3.tape.trans bl4.tape, r3.output.trans bl4.output, Nat.le_trans bl4.size r3.size, fun j hj => (r3.block j (Nat.lt_of_lt_of_le hj bl4.size) (fun e => by have := (hO4.lt j e.symm).1; omega)).trans (bl4.block j hj)⟩
      have hlen : (dChs (lg.first + lg.used) l ++ [SL]).length = k + 1 := by rw [HKE.out]; simp [dChs_len]
      rw [← strV_snoc, ← hlen] at r2
      obtain ⟨a', c', hv', hS⟩ := own_strs r2 (fun s hs => by
        rcases List.mem_append.1 hs with hs | hs
        · have := dChs_small l _ HC0.out s hs; omega
        · simp at hs; rw [hs]; have := HL.out; omega)
      subst hv'
      clear r2 r3 r5 hO4 hO hg4 bl3 bl4 hb2 hb3 hbl hlen
      go_wp2_with (refine wpList_run (by rfl) (exec_append _ _ _ _ (by rfl) (by rfl) (by rfl) (by rfl) (by rfl) (by rfl) r1) ?_)
      go_ret2
      refine ⟨bl5, .inl ⟨HC0.out, a', c', ?_, ?_⟩⟩
      · rw [HS.out, HG.out]; simp
      · rw [HS.out, HG.out]; exact hS
    · obtain ⟨x, hx⟩ : ∃ x, l[k]? = some x := ⟨l[k], List.getElem?_eq_getElem hlt⟩
      have dlt : decide ((k : Int) < (l.length : Int)) = true := decide_eq_true (by omega)
      obtain ⟨b, o, rfl, hbb, hcc⟩ := (hl.below hbl).resolve_left (by rintro e; rw [e] at hlt; simp at hlt)
      obtain ⟨⟨q0, q1, q2⟩, z0, z1⟩ := hcc k x hx
      have hrb := rbytes_any x wr z0 z1
      have HC2 := HC.out
      rw [chks_drop hx] at HC2
      have htk : l.take (k + 1) = l.take k ++ [x] := by
        obtain ⟨h1, rfl⟩ := List.getElem?_eq_some_iff.1 hx
        rw [List.take_succ_eq_append_getElem h1]
      have HT : Hid (dChs (lg.first + lg.used) (l.take (k + 1)) = dChs (lg.first + lg.used) (l.take k) ++ [secL 111 (lg.first + lg.used + k) (chL x)]) := by
        show _ = _
        rw [htk, dChs_snoc, show (l.take k).length = k by simp; omega]
      clear hcc hx htk HC
      by_cases h0 : chkC x = 0
      · rw [if_pos h0] at HC2
        have HC3 : Hid (_ = _) := HC2
        rw [if_pos h0, h0, errV_zero] at hrb
        have hcl := chL_len h0
        clear HC2 h0
        go_wp2_with fail
        refine hrb.mono ?_
        rintro e w2 ⟨rfl, hb2⟩
        clear hrb
        have hsc := sector_any 111 (lg.first + lg.used + k) (chB x) w2 (by omega) (by unfold chB; rw [str_size]; omega)
        rw [show (chB x).data.toList = chL x from str_data _, show ((111 : UInt8).toNat : Int) = 111 from rfl, show ((lg.first + lg.used + k : Nat) : Int) = (lg.first : Int) + (lg.used : Int) + (k : Int) by omega] at hsc
        generalize hG : secL 111 (lg.first + lg.used + k) (chL x) = SL at *
        generalize chB x = CB at *
        clear hG
        go_wp2_with fail
        refine hsc.mono ?_
        rintro e w3 ⟨rfl, hb3⟩
        clear hsc
        have hO4 := (own_keep (own_keep hO (fun k hk => hb2.block k (hO.lt k hk).2)) (fun k hk => hb3.block k (Nat.lt_of_lt_of_le (hO.lt k hk).2 hb2.size))).alloc (.cells #[.string (strOf SL)] 9)
        have bl3 := Below_after (Below_after hbl hb2) hb3
        have bl4 := bl3.alloc bl3.size (.cells #[.string (strOf SL)] 9)
        have hg4 := heap_alloc_last w3 (.cells #[.string (strOf SL)] 9)
        obtain ⟨v', w5, r1, r2, r3, r5⟩ := run_app 111 9 111 Tryd.underlying111 infoSt rfl (by decide) (by decide) hO4 (by omega) bl4.size (news := [.string (strOf SL)]) rfl (by intro u hu; simp at hu; rw [hu]; rfl) w3.heap.size hg4
        have bl5 : Below w.heap.size w w5 := ⟨r3.os.trans bl4.os, r3.tape.trans bl4.tape, r3.output.trans bl4.output, Nat.le_trans bl4.size r3.size, fun j hj => (r3.block j (Nat.lt_of_lt_of_le hj bl4.size) (fun e => by have := (hO4.lt j e.symm).1; omega)).trans (bl4.block j hj)⟩
        rw [← strV_snoc, ← HT.out] at r2
        clear r3 r5 hO4 hO hg4 bl3 bl4 hb2 hb3 hbl
        go_wp2_with (refine wpList_run (by rfl) (exec_append _ _ _ _ (by rfl) (by rfl) (by rfl) (by rfl) (by rfl) (by rfl) r1) ?_)
        go_roundw
        case rel => exact ⟨k + 1, by omega, by go_num, r2, bl5, HC3⟩
        case measure => simp [intOf]; omega
      · rw [if_neg h0] at HC2
        have HC3 : Hid (_ = _) := HC2
        rw [if_neg h0, errV_pos h0] at hrb
        have H0 : Hid (¬ chkC x = 0) := h0
        clear HC2 h0
        generalize chkC x = cx at *
        go_wp2_with fail
        refine hrb.mono ?_
        rintro e w2 ⟨rfl, hb2⟩
        clear hrb
        go_wp2_with fail
        go_ret2
        refine ⟨Below_after hbl hb2, .inr ⟨by rw [HC3.out]; exact H0.out, ?_⟩⟩
        rw [HC3.out, errV_pos H0.out]
        rfl
end Go.Proofs.YtikkakdeapbioaaDoor
