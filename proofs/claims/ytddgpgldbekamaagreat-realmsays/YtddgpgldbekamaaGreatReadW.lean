/- Read: what a cell has. -/
import Derived.Test.YtddgpgldbekamaaGreatGrownW
import Derived.Deep.RegionHeld3
set_option linter.unusedSimpArgs false
set_option linter.unnecessarySimpa false
set_option linter.unusedVariables false
namespace Go.Proofs.YtddgpgldbekamaaGreat
open Go.RowKit

/-- what is read of a cell -/
def readD (r : Rm) (h s : Int) : ByteArray := match r.ts.find? (thIs (getW r h s).thing) with
  | some t => t.data
  | none => ByteArray.empty
set_option maxHeartbeats 2000000 in
set_option maxRecDepth 100000 in
theorem read_err (aw at_ ah an : Option Addr) (cw ct ch cn : Nat) (r : Rm) (h s : Int) (w : World) (hr : RmAt w aw at_ ah an cw ct ch cn r) (hz : RmSz r) (hc : whoC r h s 1 1 ≠ 0) :
    Calls Tryz.prog 10 #[.agg #[.slice aw r.ws.length cw, .slice at_ r.ts.length ct, .slice ah r.hs.length ch, .slice an r.ns.length cn, .int .i64 r.nw, .int .i64 r.nt], .agg #[.int .i64 h, .int .i64 s]] w fun e w' => e = .returned (.tuple #[.string ⟨#[]⟩, .iface 69 (.int .i64 (whoC r h s 1 1))]) ∧ Below w.heap.size w w' := by
  have BR := Bx.new w [.slice aw r.ws.length cw, .slice at_ r.ts.length ct, .slice ah r.hs.length ch, .slice an r.ns.length cn, .int .i64 r.nw, .int .i64 r.nt] 30
  replace BR := BR.alloc (.cells #[.int .i64 h, .int .i64 s] 33)
  have BP := Bx.new (w.alloc (.cells #[.slice aw r.ws.length cw, .slice at_ r.ts.length ct, .slice ah r.hs.length ch, .slice an r.ns.length cn, .int .i64 r.nw, .int .i64 r.nt] 30)) [.int .i64 h, .int .i64 s] 33
  rw [sz_alloc] at BP
  have bl := ((Below.refl w.heap.size w).alloc (by first | exact Nat.le_refl _ | (simp <;> omega)) (.cells #[.slice aw r.ws.length cw, .slice at_ r.ts.length ct, .slice ah r.hs.length ch, .slice an r.ns.length cn, .int .i64 r.nw, .int .i64 r.nt] 30)).alloc (by first | exact Nat.le_refl _ | (simp <;> omega)) (.cells #[.int .i64 h, .int .i64 s] 33)
  have hat := hr.below bl
  go_enter Tryz.func10, Tryz.ntmps10
  have hcon := who_err aw at_ ah an cw ct ch cn r h s 1 1 _ hat hz hc
  have cR0 := (BR.2 0 _ rfl).1
  have cR1 := (BR.2 1 _ rfl).1
  have cR2 := (BR.2 2 _ rfl).1
  have cR3 := (BR.2 3 _ rfl).1
  have cR4 := (BR.2 4 _ rfl).1
  have cR5 := (BR.2 5 _ rfl).1
  have zR := BR.1
  have cP0 := (BP.2 0 _ rfl).1
  have cP1 := (BP.2 1 _ rfl).1
  have zP := BP.1
  go_wp2_with fail
  refine hcon.mono ?_
  rintro e w1 ⟨rfl, hb1⟩
  clear cR0 cR1 cR2 cR3 cR4 cR5 zR cP0 cP1 zP hcon
  replace BR := BR.below hb1
  replace BP := BP.below hb1
  replace hat := hat.below hb1
  replace bl := Below_after bl hb1
  have yR := BR.1
  have yP := BP.1
  replace BR := BR.alloc (.cells #[.int .i64 0, .int .i64 0, .int .i64 0, .int .i64 0, .int .i64 0] 39)
  replace BP := BP.alloc (.cells #[.int .i64 0, .int .i64 0, .int .i64 0, .int .i64 0, .int .i64 0] 39)
  replace hat := hat.below ((Below.refl _ _).alloc (Nat.le_refl _) (.cells #[.int .i64 0, .int .i64 0, .int .i64 0, .int .i64 0, .int .i64 0] 39))
  replace bl := bl.alloc bl.size (.cells #[.int .i64 0, .int .i64 0, .int .i64 0, .int .i64 0, .int .i64 0] 39)
  have BX := Bx.new w1 [.int .i64 0, .int .i64 0, .int .i64 0, .int .i64 0, .int .i64 0] 39
  go_wp2_with fail
  go_ret2
  exact ⟨rfl, bl⟩
set_option maxHeartbeats 2000000 in
set_option maxRecDepth 100000 in
theorem read_ok (aw at_ ah an : Option Addr) (cw ct ch cn : Nat) (r : Rm) (h s : Int) (w : World) (hr : RmAt w aw at_ ah an cw ct ch cn r) (hz : RmSz r) (hc : whoC r h s 1 1 = 0) :
    Calls Tryz.prog 10 #[.agg #[.slice aw r.ws.length cw, .slice at_ r.ts.length ct, .slice ah r.hs.length ch, .slice an r.ns.length cn, .int .i64 r.nw, .int .i64 r.nt], .agg #[.int .i64 h, .int .i64 s]] w fun e w' => e = .returned (.tuple #[.string (readD r h s), .nilIface]) ∧ Below w.heap.size w w' := by
  have BR := Bx.new w [.slice aw r.ws.length cw, .slice at_ r.ts.length ct, .slice ah r.hs.length ch, .slice an r.ns.length cn, .int .i64 r.nw, .int .i64 r.nt] 30
  replace BR := BR.alloc (.cells #[.int .i64 h, .int .i64 s] 33)
  have BP := Bx.new (w.alloc (.cells #[.slice aw r.ws.length cw, .slice at_ r.ts.length ct, .slice ah r.hs.length ch, .slice an r.ns.length cn, .int .i64 r.nw, .int .i64 r.nt] 30)) [.int .i64 h, .int .i64 s] 33
  rw [sz_alloc] at BP
  have bl := ((Below.refl w.heap.size w).alloc (by first | exact Nat.le_refl _ | (simp <;> omega)) (.cells #[.slice aw r.ws.length cw, .slice at_ r.ts.length ct, .slice ah r.hs.length ch, .slice an r.ns.length cn, .int .i64 r.nw, .int .i64 r.nt] 30)).alloc (by first | exact Nat.le_refl _ | (simp <;> omega)) (.cells #[.int .i64 h, .int .i64 s] 33)
  have hat := hr.below bl
  obtain ⟨j, t, h1, h2, h3⟩ : ∃ (j : Nat) (t : Th), thAt r (getW r h s).thing = (j : Int) ∧ r.ts[j]? = some t ∧ r.ts.find? (thIs (getW r h s).thing) = some t := by
    rcases whoC_cases r h s 1 1 with ⟨_, hg, ⟨j, t, h1, h2, h3, h4⟩, hq⟩ | ⟨e, _⟩ | ⟨e, _⟩ | ⟨e, hn⟩
    · exact ⟨j, t, h1, h2, h4⟩
    · rw [hc] at e; cases e
    · rw [hc] at e; cases e
    · exact absurd (whoC_get hc) (by rw [← e, hc] at hn; first | exact hn | exact absurd rfl hn)
  have HD : Hid (readD r h s = t.data) := by show _ = _; unfold readD; rw [h3]
  clear h3
  have hjl : j < r.ts.length := (List.getElem?_eq_some_iff.1 h2).1
  have hzt := hz.t
  go_enter Tryz.func10, Tryz.ntmps10
  have hcon := who_ok aw at_ ah an cw ct ch cn r h s 1 1 _ hat hz hc
  have cR0 := (BR.2 0 _ rfl).1
  have cR1 := (BR.2 1 _ rfl).1
  have cR2 := (BR.2 2 _ rfl).1
  have cR3 := (BR.2 3 _ rfl).1
  have cR4 := (BR.2 4 _ rfl).1
  have cR5 := (BR.2 5 _ rfl).1
  have zR := BR.1
  have cP0 := (BP.2 0 _ rfl).1
  have cP1 := (BP.2 1 _ rfl).1
  have zP := BP.1
  go_wp2_with fail
  refine hcon.mono ?_
  rintro e w1 ⟨rfl, hb1⟩
  clear cR0 cR1 cR2 cR3 cR4 cR5 zR cP0 cP1 zP hcon
  replace BR := BR.below hb1
  replace BP := BP.below hb1
  replace hat := hat.below hb1
  replace bl := Below_after bl hb1
  have yR := BR.1
  have yP := BP.1
  replace BR := BR.alloc (.cells #[.int .i64 (getW r h s).id, .int .i64 (getW r h s).thing, .int .i64 (getW r h s).rights, .int .i64 (getW r h s).badge, .int .i64 (getW r h s).frm] 39)
  replace BP := BP.alloc (.cells #[.int .i64 (getW r h s).id, .int .i64 (getW r h s).thing, .int .i64 (getW r h s).rights, .int .i64 (getW r h s).badge, .int .i64 (getW r h s).frm] 39)
  replace hat := hat.below ((Below.refl _ _).alloc (Nat.le_refl _) (.cells #[.int .i64 (getW r h s).id, .int .i64 (getW r h s).thing, .int .i64 (getW r h s).rights, .int .i64 (getW r h s).badge, .int .i64 (getW r h s).frm] 39))
  replace bl := bl.alloc bl.size (.cells #[.int .i64 (getW r h s).id, .int .i64 (getW r h s).thing, .int .i64 (getW r h s).rights, .int .i64 (getW r h s).badge, .int .i64 (getW r h s).frm] 39)
  have BX := Bx.new w1 [.int .i64 (getW r h s).id, .int .i64 (getW r h s).thing, .int .i64 (getW r h s).rights, .int .i64 (getW r h s).badge, .int .i64 (getW r h s).frm] 39
  generalize hx0 : getW r h s = x at *
  obtain ⟨b, o, rfl, hb, hww⟩ := hat.t.resolve_left (by rintro e; rw [e] at hjl; simp at hjl)
  obtain ⟨q1, q2, q3⟩ := hww j t h2
  have hfi := fun (W : World) (hW : RmAt W aw (some ⟨b, o, none⟩) ah an cw ct ch cn r) => rfind_any aw (some ⟨b, o, none⟩) ah an cw ct ch cn r x.thing W hW hz
  rw [h1] at hfi
  clear hww h1 h2
  have cR0 := (BR.2 0 _ rfl).1
  have cR1 := (BR.2 1 _ rfl).1
  have cR2 := (BR.2 2 _ rfl).1
  have cR3 := (BR.2 3 _ rfl).1
  have cR4 := (BR.2 4 _ rfl).1
  have cR5 := (BR.2 5 _ rfl).1
  have zR := BR.1
  have cX0 := (BX.2 0 _ rfl).1
  have cX1 := (BX.2 1 _ rfl).1
  have cX2 := (BX.2 2 _ rfl).1
  have cX3 := (BX.2 3 _ rfl).1
  have cX4 := (BX.2 4 _ rfl).1
  have zX := BX.1
  go_wp2_with fail
  generalize (w1.alloc (.cells #[.int .i64 x.id, .int .i64 x.thing, .int .i64 x.rights, .int .i64 x.badge, .int .i64 x.frm] 39)) = vv at *
  have mk : ∀ w' : World, Below vv.heap.size vv w' → Below vv.heap.size vv w' ∧ w'.cell? ⟨w.heap.size, 0, none⟩ = some (.slice aw r.ws.length cw) ∧ w'.cell? ⟨w.heap.size, 1, none⟩ = some (.slice (some ⟨b, o, none⟩) r.ts.length ct) ∧ w'.cell? ⟨w.heap.size, 2, none⟩ = some (.slice ah r.hs.length ch) ∧ w'.cell? ⟨w.heap.size, 3, none⟩ = some (.slice an r.ns.length cn) ∧ w'.cell? ⟨w.heap.size, 4, none⟩ = some (.int .i64 r.nw) ∧ w'.cell? ⟨w.heap.size, 5, none⟩ = some (.int .i64 r.nt) ∧ w'.cell? ⟨w1.heap.size, 1, none⟩ = some (.int .i64 x.thing) ∧ w'.cell? ⟨b, o + j * 3 + 2, none⟩ = some (.string t.data) := fun w' h => ⟨h, by rw [(bcell h).1 _ _ zR]; exact cR0, by rw [(bcell h).1 _ _ zR]; exact cR1, by rw [(bcell h).1 _ _ zR]; exact cR2, by rw [(bcell h).1 _ _ zR]; exact cR3, by rw [(bcell h).1 _ _ zR]; exact cR4, by rw [(bcell h).1 _ _ zR]; exact cR5, by rw [(bcell h).1 _ _ zX]; exact cX1, by rw [(bcell h).1 _ _ hb]; exact q3⟩
  have hB0 : Below vv.heap.size vv vv.drew := below_drewN (Below.refl _ _) 1
  refine wp_region_held_drew (S := fun w' => Below vv.heap.size vv w' ∧ w'.cell? ⟨w.heap.size, 0, none⟩ = some (.slice aw r.ws.length cw) ∧ w'.cell? ⟨w.heap.size, 1, none⟩ = some (.slice (some ⟨b, o, none⟩) r.ts.length ct) ∧ w'.cell? ⟨w.heap.size, 2, none⟩ = some (.slice ah r.hs.length ch) ∧ w'.cell? ⟨w.heap.size, 3, none⟩ = some (.slice an r.ns.length cn) ∧ w'.cell? ⟨w.heap.size, 4, none⟩ = some (.int .i64 r.nw) ∧ w'.cell? ⟨w.heap.size, 5, none⟩ = some (.int .i64 r.nt) ∧ w'.cell? ⟨w1.heap.size, 1, none⟩ = some (.int .i64 x.thing) ∧ w'.cell? ⟨b, o + j * 3 + 2, none⟩ = some (.string t.data)) (by kernel_rfl) ?_ (fun hHeld => ?_)
  · exact mk _ hB0
  refine wpAnyH_take (i := 0) (oi := ({ dst := some 17, op := Op.fieldAddr 30 (Operand.tmp 2) 1, type := 0, pos := "realm.go:123", after := #[], guard := none } : Oper)) (v := .pointer (some ⟨w.heap.size, 1, none⟩)) rfl (by kernel_rfl) (by kernel_rfl) (by kernel_rfl) (fun _ _ _ h => h) (Or.inl ⟨by rfl, ?_⟩) (by assumption) ?_
  · intro w hSw; (try dsimp only at hSw); go_simp
  (try simp only [Act.put, List.setIfInBounds_toArray, List.set_cons_zero, List.set_cons_succ])
  refine wpAnyH_take (i := 1) (oi := ({ dst := some 18, op := Op.load 26 (Operand.tmp 17), type := 26, pos := "realm.go:123", after := #[{ on := 0, ground := Ground.data }], guard := none } : Oper)) (v := .slice (some ⟨b, o, none⟩) r.ts.length ct) rfl (by kernel_rfl) (by kernel_rfl) (by kernel_rfl) (fun _ _ _ h => h) (Or.inl ⟨by rfl, ?_⟩) (by assumption) ?_
  · intro w hSw; (try dsimp only at hSw); go_simp
  (try simp only [Act.put, List.setIfInBounds_toArray, List.set_cons_zero, List.set_cons_succ])
  refine wpAnyH_take (i := 2) (oi := ({ dst := some 19, op := Op.load 30 (Operand.tmp 2), type := 30, pos := "realm.go:123", after := #[], guard := none } : Oper)) (v := .agg #[.slice aw r.ws.length cw, .slice (some ⟨b, o, none⟩) r.ts.length ct, .slice ah r.hs.length ch, .slice an r.ns.length cn, .int .i64 r.nw, .int .i64 r.nt]) rfl (by kernel_rfl) (by kernel_rfl) (by kernel_rfl) (fun _ _ _ h => h) (Or.inl ⟨by rfl, ?_⟩) (by assumption) ?_
  · intro w hSw; (try dsimp only at hSw); go_simp
  (try simp only [Act.put, List.setIfInBounds_toArray, List.set_cons_zero, List.set_cons_succ])
  refine wpAnyH_take (i := 3) (oi := ({ dst := some 20, op := Op.fieldAddr 39 (Operand.tmp 6) 1, type := 0, pos := "realm.go:123", after := #[], guard := none } : Oper)) (v := .pointer (some ⟨w1.heap.size, 1, none⟩)) rfl (by kernel_rfl) (by kernel_rfl) (by kernel_rfl) (fun _ _ _ h => h) (Or.inl ⟨by rfl, ?_⟩) (by assumption) ?_
  · intro w hSw; (try dsimp only at hSw); go_simp
  (try simp only [Act.put, List.setIfInBounds_toArray, List.set_cons_zero, List.set_cons_succ])
  refine wpAnyH_take (i := 4) (oi := ({ dst := some 21, op := Op.load 3 (Operand.tmp 20), type := 3, pos := "realm.go:123", after := #[{ on := 3, ground := Ground.data }], guard := none } : Oper)) (v := .int .i64 x.thing) rfl (by kernel_rfl) (by kernel_rfl) (by kernel_rfl) (fun _ _ _ h => h) (Or.inl ⟨by rfl, ?_⟩) (by assumption) ?_
  · intro w hSw; (try dsimp only at hSw); go_simp
  (try simp only [Act.put, List.setIfInBounds_toArray, List.set_cons_zero, List.set_cons_succ])
  refine wpAnyH_ready (rs := [5]) (by kernel_rfl) (by simp) ?_
  refine AllReadyH.cons (o := ({ dst := some 22, op := Op.call { callee := Callee.value (Operand.func 30), args := #[Operand.tmp 19, Operand.tmp 21], argTypes := #[30, 3] }, type := 3, pos := "realm.go:123", after := #[{ on := 2, ground := Ground.data }, { on := 4, ground := Ground.data }], guard := none } : Oper)) rfl (fun K hK => ?_) AllReadyH.nil
  rw [if_pos (by rfl)]
  go_wp2_with (first | (go_at_call 30; refine Calls.mono (hfi _ (hat.below hB0)) ?_; rintro e w6 ⟨rfl, hb6⟩; have hB6 := Below_after hB0 hb6))
  refine hK.out _ _ ?_ (fun hHeld => ?_)
  · exact mk _ hB6
  clear hK K
  (try simp only [Act.put, List.setIfInBounds_toArray, List.set_cons_zero, List.set_cons_succ])
  refine wpAnyH_take (i := 6) (oi := ({ dst := some 23, op := Op.indexAddr 26 (Operand.tmp 18) (Operand.tmp 22), type := 0, pos := "realm.go:123", after := #[{ on := 1, ground := Ground.data }, { on := 5, ground := Ground.data }], guard := none } : Oper)) (v := .pointer (some ⟨b, o + j * 3, none⟩)) rfl (by kernel_rfl) (by kernel_rfl) (by kernel_rfl) (fun _ _ _ h => h) (Or.inl ⟨by rfl, ?_⟩) (by assumption) ?_
  · intro w hSw; (try dsimp only at hSw); go_simp
  (try simp only [Act.put, List.setIfInBounds_toArray, List.set_cons_zero, List.set_cons_succ])
  refine wpAnyH_take (i := 7) (oi := ({ dst := some 24, op := Op.fieldAddr 73 (Operand.tmp 23) 2, type := 0, pos := "realm.go:123", after := #[{ on := 6, ground := Ground.data }], guard := none } : Oper)) (v := .pointer (some ⟨b, o + j * 3 + 2, none⟩)) rfl (by kernel_rfl) (by kernel_rfl) (by kernel_rfl) (fun _ _ _ h => h) (Or.inl ⟨by rfl, ?_⟩) (by assumption) ?_
  · intro w hSw; (try dsimp only at hSw); go_simp
  (try simp only [Act.put, List.setIfInBounds_toArray, List.set_cons_zero, List.set_cons_succ])
  refine wpAnyH_take (i := 8) (oi := ({ dst := some 25, op := Op.load 9 (Operand.tmp 24), type := 9, pos := "realm.go:123", after := #[{ on := 7, ground := Ground.data }], guard := none } : Oper)) (v := .string t.data) rfl (by kernel_rfl) (by kernel_rfl) (by kernel_rfl) (fun _ _ _ h => h) (Or.inl ⟨by rfl, ?_⟩) (by assumption) ?_
  · intro w hSw; (try dsimp only at hSw); go_simp
  (try simp only [Act.put, List.setIfInBounds_toArray, List.set_cons_zero, List.set_cons_succ])
  refine wpAnyH_take (i := 9) (oi := ({ dst := some 4, op := Op.assign (Operand.tmp 25), type := 9, pos := "realm.go:123", after := #[{ on := 8, ground := Ground.data }, { on := 5, ground := Ground.chain }, { on := 0, ground := Ground.phase }, { on := 1, ground := Ground.phase }, { on := 2, ground := Ground.phase }, { on := 3, ground := Ground.phase }, { on := 4, ground := Ground.phase }, { on := 5, ground := Ground.phase }, { on := 6, ground := Ground.phase }, { on := 7, ground := Ground.phase }, { on := 8, ground := Ground.phase }], guard := none } : Oper)) (v := .string t.data) rfl (by kernel_rfl) (by kernel_rfl) (by kernel_rfl) (fun _ _ _ h => h) (Or.inl ⟨by rfl, ?_⟩) (by assumption) ?_
  · intro w hSw; (try dsimp only at hSw); go_simp
  (try simp only [Act.put, List.setIfInBounds_toArray, List.set_cons_zero, List.set_cons_succ])
  refine wpAnyH_take (i := 10) (oi := ({ dst := some 5, op := Op.assign (Operand.const Value.nilIface), type := 41, pos := "realm.go:123", after := #[{ on := 9, ground := Ground.chain }, { on := 0, ground := Ground.phase }, { on := 1, ground := Ground.phase }, { on := 2, ground := Ground.phase }, { on := 3, ground := Ground.phase }, { on := 4, ground := Ground.phase }, { on := 5, ground := Ground.phase }, { on := 6, ground := Ground.phase }, { on := 7, ground := Ground.phase }, { on := 8, ground := Ground.phase }, { on := 9, ground := Ground.phase }], guard := none } : Oper)) (v := .nilIface) rfl (by kernel_rfl) (by kernel_rfl) (by kernel_rfl) (fun _ _ _ h => h) (Or.inl ⟨by rfl, ?_⟩) (by assumption) ?_
  · intro w hSw; (try dsimp only at hSw); go_simp
  (try simp only [Act.put, List.setIfInBounds_toArray, List.set_cons_zero, List.set_cons_succ])
  refine wpAnyH_done (by kernel_rfl) ?_ _
  go_wp2_with fail
  go_ret2
  exact ⟨by rw [HD.out]; rfl, Below_after bl hB6⟩
end Go.Proofs.YtddgpgldbekamaaGreat
