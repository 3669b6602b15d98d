/- writkeepref: ClosedDeeds, walked. -/
import Derived.Test.YtjhkabhhlpdpaaaRefLog
set_option linter.unusedVariables false
set_option linter.unusedSimpArgs false
set_option linter.unnecessarySimpa false
namespace Go.Proofs.Ytjhkabhhlpdpaaa
open Go.RowKit

set_option maxHeartbeats 8000000 in
set_option maxRecDepth 100000 in
theorem closed_any (a : Option Addr) (c : Nat) (l : List ByteArray) (first : Nat) (w : World) (hin : StrsB (fun _ => False) w a l) (hl : l.length ≤ 1000) (h48 : ∀ s ∈ l, s.size = 48) (hf1 : first ≤ 1000000000000) :
    Calls Try.prog 38 #[.slice a l.length c, .int .i64 (first : Int)] w fun e w' => ∃ a' c', e = .returned (.tuple #[.slice a' (lgOf first (l.map (·.data.toList))).deeds.length c', .int .i64 ((lgOf first (l.map (·.data.toList))).used : Int)]) ∧ DdsB (fun k => k < w.heap.size) w' a' (lgOf first (l.map (·.data.toList))).deeds ∧ Below w.heap.size w w' := by
  have hI0 : CdI w w ⟨[], [], 0⟩ (.slice none 0 0) (.slice none 0 0) [] := ⟨Below.refl _ _, World.ownsRow_nil _ _ _ _, World.ownsRow_nil _ _ _ _, (fun j x hx => by simp at hx), (fun c hc => nomatch hc)⟩
  obtain ⟨R, hR⟩ : ∃ R, lgOf first (l.map (·.data.toList)) = R := ⟨_, rfl⟩
  have HR : Hid (R = rdLog first ((l.map (·.data.toList)).drop 0) 0 ⟨[], [], 0⟩) := hR.symm
  rw [hR]
  clear hR
  go_enter Try.func38, Try.ntmps38
  go_wp2_with fail
  go_loopw [9, 6, 7, 8, 10, 11, 12, 13, 14] (fun i xd xo xu _ _ _ _ _ wr => ∃ (k : Nat) (st : Lst) (cd : List Value), k ≤ l.length ∧ i = .int .i64 k ∧ xu = .int .i64 (st.used : Int) ∧ Hid (R = rdLog first ((l.map (·.data.toList)).drop k) k st) ∧ st.opn.length ≤ k ∧ st.deeds.length ≤ k ∧ CdI w wr st xd xo cd) (fun i _ _ _ _ _ _ _ _ _ => l.length - (intOf i).toNat)
  case atStart => exact ⟨0, _, _, Nat.zero_le _, rfl, rfl, HR, by simp, by simp, hI0⟩
  case round =>
    clear hI0 HR
    obtain ⟨k, st, cd, hk, rfl, rfl, HR, ho, hdd, hI⟩ := hrel
    by_cases hlt : k < l.length
    rotate_left
    · have HE : Hid (R = st) := by
        show _ = _
        have := HR.out
        rwa [List.drop_of_length_le (by simp; omega)] at this
      have dlt : decide ((k : Int) < (l.length : Int)) = false := decide_eq_false (by omega)
      clear HR
      obtain ⟨a', c', hvd, hdd'⟩ := hI.fin
      subst hvd
      go_wp2_with fail
      go_ret2
      exact ⟨a', c', by rw [HE.out]; rfl, by rw [HE.out]; exact hdd', hI.bl⟩
    · obtain ⟨s, hsk⟩ : ∃ s, l[k]? = some s := ⟨l[k], List.getElem?_eq_getElem hlt⟩
      have hs48 := h48 s (List.mem_of_getElem? hsk)
      have hdr : (l.map (·.data.toList)).drop k = s.data.toList :: (l.map (·.data.toList)).drop (k + 1) := by
        rw [List.drop_eq_getElem_cons (by simpa using hlt)]
        congr 1
        have := (List.getElem?_eq_some_iff.1 hsk).2
        simp [this]
      have hsec := secP_eq s (first + k) hs48
      have dlt : decide ((k : Int) < (l.length : Int)) = true := decide_eq_true (by omega)
      obtain ⟨b, o, rfl, hb, -, hcc⟩ := hin.resolve_left (by rintro e; rw [e] at hlt; simp at hlt)
      have p1 : wr.cell? ⟨b, o + k, none⟩ = some (.string s) := by rw [(bcell hI.bl).1 _ _ hb]; exact (hcc k s hsk).1
      have hfo := fun W => four_any (first + k) W (by omega)
      rw [show ((first + k : Nat) : Int) = (first : Int) + (k : Int) by omega] at hfo
      have u5 := s[5].toNat_lt
      have u6 := s[6].toNat_lt
      have i0 : (0 : Nat) < s.size := by omega
      have i5 : (5 : Nat) < s.size := by omega
      have i6 : (6 : Nat) < s.size := by omega
      have i1 : (5 : Int) ≤ (s.size : Int) := by omega
      have i3 : ¬ (s.size : Int) < 5 := by omega
      clear hcc hsk
      generalize hsx : s.extract 1 5 = sx at *
      generalize leB (first + k) 4 = L4 at *
      generalize h5 : s[5].toNat = f5 at *
      have H5 : Hid (s[5].toNat = f5) := h5
      generalize h6 : s[6].toNat = f6 at *
      have H6 : Hid (s[6].toNat = f6) := h6
      clear h5 h6
      by_cases hnum : sx = L4
      rotate_left
      · have HE : Hid (R = st) := by
          show _ = _
          have := HR.out
          rwa [rd_none hdr (by unfold lstep; rw [hsec, if_neg (fun h => hnum h.2.1)])] at this
        have hbl := bal hnum
        clear HR hdr hsec hnum
        go_wp2_with fail
        refine wp_region_held_drew (S := fun w' => True) (by kernel_rfl) ?_ (fun hHeld => ?_)
        · exact trivial
        refine wpAnyH_take (i := 0) (oi := ({ dst := some 25, op := Op.move (Operand.tmp 10), type := 9, pos := "store.go:173", after := #[], guard := none } : Oper)) (v := .string s) rfl (by kernel_rfl) (by kernel_rfl) (by kernel_rfl) (fun _ _ _ h => h) (Or.inl ⟨by rfl, ?_⟩) (by assumption) ?_
        · intro w hSw; (try dsimp only at hSw); go_simp
        (try simp only [Act.put, List.setIfInBounds_toArray, List.set_cons_zero, List.set_cons_succ])
        refine wpAnyH_take (i := 1) (oi := ({ dst := some 26, op := Op.index 9 (Operand.tmp 25) (Operand.const (Value.int IntKind.i64 5)), type := 5, pos := "store.go:173", after := #[{ on := 0, ground := Ground.data }], guard := none } : Oper)) (v := .int .u8 (f5 : Int)) rfl (by kernel_rfl) (by kernel_rfl) (by kernel_rfl) (fun _ _ _ h => h) (Or.inl ⟨by rfl, ?_⟩) (by assumption) ?_
        · intro w hSw; go_simp; (try simp [H5.out])
        (try simp only [Act.put, List.setIfInBounds_toArray, List.set_cons_zero, List.set_cons_succ])
        refine wpAnyH_take (i := 2) (oi := ({ dst := some 27, op := Op.convert 5 3 (Operand.tmp 26), type := 3, pos := "store.go:173", after := #[{ on := 1, ground := Ground.data }], guard := none } : Oper)) (v := .int .i64 (f5 : Int)) rfl (by kernel_rfl) (by kernel_rfl) (by kernel_rfl) (fun _ _ _ h => h) (Or.inl ⟨by rfl, ?_⟩) (by assumption) ?_
        · intro w hSw; go_simp; (try exact wrap_id (by omega) (by omega))
        (try simp only [Act.put, List.setIfInBounds_toArray, List.set_cons_zero, List.set_cons_succ])
        refine wpAnyH_take (i := 3) (oi := ({ dst := some 28, op := Op.move (Operand.tmp 10), type := 9, pos := "store.go:173", after := #[], guard := none } : Oper)) (v := .string s) rfl (by kernel_rfl) (by kernel_rfl) (by kernel_rfl) (fun _ _ _ h => h) (Or.inl ⟨by rfl, ?_⟩) (by assumption) ?_
        · intro w hSw; (try dsimp only at hSw); go_simp
        (try simp only [Act.put, List.setIfInBounds_toArray, List.set_cons_zero, List.set_cons_succ])
        refine wpAnyH_take (i := 4) (oi := ({ dst := some 29, op := Op.index 9 (Operand.tmp 28) (Operand.const (Value.int IntKind.i64 6)), type := 5, pos := "store.go:173", after := #[{ on := 3, ground := Ground.data }], guard := none } : Oper)) (v := .int .u8 (f6 : Int)) rfl (by kernel_rfl) (by kernel_rfl) (by kernel_rfl) (fun _ _ _ h => h) (Or.inl ⟨by rfl, ?_⟩) (by assumption) ?_
        · intro w hSw; go_simp; (try simp [H6.out])
        (try simp only [Act.put, List.setIfInBounds_toArray, List.set_cons_zero, List.set_cons_succ])
        refine wpAnyH_take (i := 5) (oi := ({ dst := some 30, op := Op.convert 5 3 (Operand.tmp 29), type := 3, pos := "store.go:173", after := #[{ on := 4, ground := Ground.data }], guard := none } : Oper)) (v := .int .i64 (f6 : Int)) rfl (by kernel_rfl) (by kernel_rfl) (by kernel_rfl) (fun _ _ _ h => h) (Or.inl ⟨by rfl, ?_⟩) (by assumption) ?_
        · intro w hSw; go_simp; (try exact wrap_id (by omega) (by omega))
        (try simp only [Act.put, List.setIfInBounds_toArray, List.set_cons_zero, List.set_cons_succ])
        refine wpAnyH_take (i := 6) (oi := ({ dst := some 31, op := Op.binOp BinOp.mul 3 (Operand.const (Value.int IntKind.i64 256)) (Operand.tmp 30) 3, type := 3, pos := "store.go:173", after := #[{ on := 5, ground := Ground.data }], guard := none } : Oper)) (v := .int .i64 (256 * (f6 : Int))) rfl (by kernel_rfl) (by kernel_rfl) (by kernel_rfl) (fun _ _ _ h => h) (Or.inl ⟨by rfl, ?_⟩) (by assumption) ?_
        · intro w hSw; go_simp; (try exact wrap_id (by omega) (by omega))
        (try simp only [Act.put, List.setIfInBounds_toArray, List.set_cons_zero, List.set_cons_succ])
        refine wpAnyH_take (i := 7) (oi := ({ dst := some 32, op := Op.binOp BinOp.add 3 (Operand.tmp 27) (Operand.tmp 31) 3, type := 3, pos := "store.go:173", after := #[{ on := 2, ground := Ground.data }, { on := 6, ground := Ground.data }], guard := none } : Oper)) (v := .int .i64 ((f5 : Int) + 256 * (f6 : Int))) rfl (by kernel_rfl) (by kernel_rfl) (by kernel_rfl) (fun _ _ _ h => h) (Or.inl ⟨by rfl, ?_⟩) (by assumption) ?_
        · intro w hSw; go_simp; (try exact wrap_id (by omega) (by omega))
        (try simp only [Act.put, List.setIfInBounds_toArray, List.set_cons_zero, List.set_cons_succ])
        refine wpAnyH_take (i := 8) (oi := ({ dst := some 11, op := Op.assign (Operand.tmp 32), type := 3, pos := "store.go:173", after := #[{ on := 7, ground := Ground.data }, { on := 0, ground := Ground.phase }, { on := 1, ground := Ground.phase }, { on := 2, ground := Ground.phase }, { on := 3, ground := Ground.phase }, { on := 4, ground := Ground.phase }, { on := 5, ground := Ground.phase }, { on := 6, ground := Ground.phase }, { on := 7, ground := Ground.phase }], guard := none } : Oper)) (v := .int .i64 ((f5 : Int) + 256 * (f6 : Int))) rfl (by kernel_rfl) (by kernel_rfl) (by kernel_rfl) (fun _ _ _ h => h) (Or.inl ⟨by rfl, ?_⟩) (by assumption) ?_
        · intro w hSw; (try dsimp only at hSw); go_simp
        (try simp only [Act.put, List.setIfInBounds_toArray, List.set_cons_zero, List.set_cons_succ])
        refine wpAnyH_done (by kernel_rfl) ?_ _
        go_wp2_with fail
        refine wp_region_held_drew (S := fun w' => True) (by kernel_rfl) ?_ (fun hHeld => ?_)
        · exact trivial
        have hbd : Below wr.heap.size wr wr.drew.drew := below_drewN (below_drewN (Below.refl _ _) 1) 1
        generalize wr.drew.drew = w9 at *
        refine wpAnyH_take (i := 0) (oi := ({ dst := some 33, op := Op.move (Operand.tmp 10), type := 9, pos := "store.go:174", after := #[], guard := none } : Oper)) (v := .string s) rfl (by kernel_rfl) (by kernel_rfl) (by kernel_rfl) (fun _ _ _ h => h) (Or.inl ⟨by rfl, ?_⟩) (by assumption) ?_
        · intro w hSw; (try dsimp only at hSw); go_simp
        (try simp only [Act.put, List.setIfInBounds_toArray, List.set_cons_zero, List.set_cons_succ])
        refine wpAnyH_take (i := 1) (oi := ({ dst := some 34, op := Op.slice 9 (Operand.tmp 33) (some (Operand.const (Value.int IntKind.i64 1))) (some (Operand.const (Value.int IntKind.i64 5))) none, type := 9, pos := "store.go:174", after := #[{ on := 0, ground := Ground.data }], guard := none } : Oper)) (v := .string sx) rfl (by kernel_rfl) (by kernel_rfl) (by kernel_rfl) (fun _ _ _ h => h) (Or.inl ⟨by rfl, ?_⟩) (by assumption) ?_
        · intro w hSw; go_simp; (try simp [hsx]); (try omega)
        (try simp only [Act.put, List.setIfInBounds_toArray, List.set_cons_zero, List.set_cons_succ])
        refine wpAnyH_take (i := 2) (oi := ({ dst := some 35, op := Op.move (Operand.tmp 1), type := 3, pos := "store.go:174", after := #[], guard := none } : Oper)) (v := .int .i64 (first : Int)) rfl (by kernel_rfl) (by kernel_rfl) (by kernel_rfl) (fun _ _ _ h => h) (Or.inl ⟨by rfl, ?_⟩) (by assumption) ?_
        · intro w hSw; (try dsimp only at hSw); go_simp
        (try simp only [Act.put, List.setIfInBounds_toArray, List.set_cons_zero, List.set_cons_succ])
        refine wpAnyH_take (i := 3) (oi := ({ dst := some 36, op := Op.move (Operand.tmp 9), type := 3, pos := "store.go:174", after := #[], guard := none } : Oper)) (v := .int .i64 (k : Int)) rfl (by kernel_rfl) (by kernel_rfl) (by kernel_rfl) (fun _ _ _ h => h) (Or.inl ⟨by rfl, ?_⟩) (by assumption) ?_
        · intro w hSw; (try dsimp only at hSw); go_simp
        (try simp only [Act.put, List.setIfInBounds_toArray, List.set_cons_zero, List.set_cons_succ])
        refine wpAnyH_take (i := 4) (oi := ({ dst := some 37, op := Op.binOp BinOp.add 3 (Operand.tmp 35) (Operand.tmp 36) 3, type := 3, pos := "store.go:174", after := #[{ on := 2, ground := Ground.data }, { on := 3, ground := Ground.data }], guard := none } : Oper)) (v := .int .i64 ((first : Int) + (k : Int))) rfl (by kernel_rfl) (by kernel_rfl) (by kernel_rfl) (fun _ _ _ h => h) (Or.inl ⟨by rfl, ?_⟩) (by assumption) ?_
        · intro w hSw; (try dsimp only at hSw); go_simp; exact wrap_id (by omega) (by omega)
        (try simp only [Act.put, List.setIfInBounds_toArray, List.set_cons_zero, List.set_cons_succ])
        refine wpAnyH_ready (rs := [5]) (by kernel_rfl) (by simp) ?_
        refine AllReadyH.cons (o := ({ dst := some 38, op := Op.call { callee := Callee.value (Operand.func 52), args := #[Operand.tmp 37], argTypes := #[3] }, type := 9, pos := "store.go:174", after := #[{ on := 4, ground := Ground.data }], guard := none } : Oper)) rfl (fun K hK => ?_) AllReadyH.nil
        rw [if_pos (by rfl)]
        have hcon := hfo w9
        go_wp2_with fail
        refine hcon.mono ?_
        rintro e w1 ⟨rfl, hb1⟩
        clear hcon
        go_wp2_with fail
        refine hK.out _ _ ?_ (fun hHeld => ?_)
        · exact trivial
        clear hK K
        (try simp only [Act.put, List.setIfInBounds_toArray, List.set_cons_zero, List.set_cons_succ])
        refine wpAnyH_take (i := 6) (oi := ({ dst := some 39, op := Op.binOp BinOp.neq 9 (Operand.tmp 34) (Operand.tmp 38) 9, type := 4, pos := "store.go:174", after := #[{ on := 1, ground := Ground.data }, { on := 5, ground := Ground.data }], guard := none } : Oper)) (v := .bool true) rfl (by kernel_rfl) (by kernel_rfl) (by kernel_rfl) (fun _ _ _ h => h) (Or.inl ⟨by rfl, ?_⟩) (by assumption) ?_
        · intro w hSw; go_simp; (try simp [*]); (try omega)
        (try simp only [Act.put, List.setIfInBounds_toArray, List.set_cons_zero, List.set_cons_succ])
        refine wpAnyH_take (i := 7) (oi := ({ dst := some 40, op := Op.move (Operand.tmp 39), type := 4, pos := "store.go:174", after := #[{ on := 6, ground := Ground.data }, { on := 5, ground := Ground.chain }], guard := none } : Oper)) (v := .bool true) rfl (by kernel_rfl) (by kernel_rfl) (by kernel_rfl) (fun _ _ _ h => h) (Or.inl ⟨by rfl, ?_⟩) (by assumption) ?_
        · intro w hSw; (try dsimp only at hSw); go_simp
        (try simp only [Act.put, List.setIfInBounds_toArray, List.set_cons_zero, List.set_cons_succ])
        refine wpAnyH_take (i := 8) (oi := ({ dst := some 41, op := Op.move (Operand.tmp 11), type := 3, pos := "store.go:174", after := #[{ on := 7, ground := Ground.guard }], guard := some (7, false) } : Oper)) (v := undef) rfl (by kernel_rfl) (by kernel_rfl) (by kernel_rfl) (fun _ _ _ h => h) (Or.inr ⟨by rfl, rfl⟩) (by assumption) ?_
        (try simp only [Act.put, List.setIfInBounds_toArray, List.set_cons_zero, List.set_cons_succ])
        refine wpAnyH_take (i := 9) (oi := ({ dst := some 42, op := Op.binOp BinOp.gtr 3 (Operand.tmp 41) (Operand.const (Value.int IntKind.i64 41)) 3, type := 4, pos := "store.go:174", after := #[{ on := 8, ground := Ground.data }, { on := 7, ground := Ground.guard }], guard := some (7, false) } : Oper)) (v := undef) rfl (by kernel_rfl) (by kernel_rfl) (by kernel_rfl) (fun _ _ _ h => h) (Or.inr ⟨by rfl, rfl⟩) (by assumption) ?_
        (try simp only [Act.put, List.setIfInBounds_toArray, List.set_cons_zero, List.set_cons_succ])
        refine wpAnyH_take (i := 10) (oi := ({ dst := some 43, op := Op.pick (Operand.tmp 40) (Operand.const (Value.bool true)) (Operand.tmp 42), type := 4, pos := "store.go:174", after := #[{ on := 7, ground := Ground.data }, { on := 9, ground := Ground.data }], guard := none } : Oper)) (v := .bool true) rfl (by kernel_rfl) (by kernel_rfl) (by kernel_rfl) (fun _ _ _ h => h) (Or.inl ⟨by rfl, ?_⟩) (by assumption) ?_
        · intro w hSw; (try dsimp only at hSw); go_simp
        (try simp only [Act.put, List.setIfInBounds_toArray, List.set_cons_zero, List.set_cons_succ])
        refine wpAnyH_done (by kernel_rfl) ?_ _
        have hIb := hI.below (Below_after hbd hb1)
        clear hI hbd hb1
        obtain ⟨a', c', hvd, hdd'⟩ := hIb.fin
        subst hvd
        go_wp2_with fail
        go_ret2
        exact ⟨a', c', by rw [HE.out]; rfl, by rw [HE.out]; exact hdd', hIb.bl⟩
      · by_cases hz : f5 + 256 * f6 ≤ 41
        rotate_left
        · have HE : Hid (R = st) := by
            show _ = _
            have := HR.out
            rwa [rd_none hdr (by unfold lstep; rw [hsec, if_neg (fun h => hz h.2.2)])] at this
          clear HR hdr hsec
          subst hnum
          go_wp2_with fail
          refine wp_region_held_drew (S := fun w' => True) (by kernel_rfl) ?_ (fun hHeld => ?_)
          · exact trivial
          refine wpAnyH_take (i := 0) (oi := ({ dst := some 25, op := Op.move (Operand.tmp 10), type := 9, pos := "store.go:173", after := #[], guard := none } : Oper)) (v := .string s) rfl (by kernel_rfl) (by kernel_rfl) (by kernel_rfl) (fun _ _ _ h => h) (Or.inl ⟨by rfl, ?_⟩) (by assumption) ?_
          · intro w hSw; (try dsimp only at hSw); go_simp
          (try simp only [Act.put, List.setIfInBounds_toArray, List.set_cons_zero, List.set_cons_succ])
          refine wpAnyH_take (i := 1) (oi := ({ dst := some 26, op := Op.index 9 (Operand.tmp 25) (Operand.const (Value.int IntKind.i64 5)), type := 5, pos := "store.go:173", after := #[{ on := 0, ground := Ground.data }], guard := none } : Oper)) (v := .int .u8 (f5 : Int)) rfl (by kernel_rfl) (by kernel_rfl) (by kernel_rfl) (fun _ _ _ h => h) (Or.inl ⟨by rfl, ?_⟩) (by assumption) ?_
          · intro w hSw; go_simp; (try simp [H5.out])
          (try simp only [Act.put, List.setIfInBounds_toArray, List.set_cons_zero, List.set_cons_succ])
          refine wpAnyH_take (i := 2) (oi := ({ dst := some 27, op := Op.convert 5 3 (Operand.tmp 26), type := 3, pos := "store.go:173", after := #[{ on := 1, ground := Ground.data }], guard := none } : Oper)) (v := .int .i64 (f5 : Int)) rfl (by kernel_rfl) (by kernel_rfl) (by kernel_rfl) (fun _ _ _ h => h) (Or.inl ⟨by rfl, ?_⟩) (by assumption) ?_
          · intro w hSw; go_simp; (try exact wrap_id (by omega) (by omega))
          (try simp only [Act.put, List.setIfInBounds_toArray, List.set_cons_zero, List.set_cons_succ])
          refine wpAnyH_take (i := 3) (oi := ({ dst := some 28, op := Op.move (Operand.tmp 10), type := 9, pos := "store.go:173", after := #[], guard := none } : Oper)) (v := .string s) rfl (by kernel_rfl) (by kernel_rfl) (by kernel_rfl) (fun _ _ _ h => h) (Or.inl ⟨by rfl, ?_⟩) (by assumption) ?_
          · intro w hSw; (try dsimp only at hSw); go_simp
          (try simp only [Act.put, List.setIfInBounds_toArray, List.set_cons_zero, List.set_cons_succ])
          refine wpAnyH_take (i := 4) (oi := ({ dst := some 29, op := Op.index 9 (Operand.tmp 28) (Operand.const (Value.int IntKind.i64 6)), type := 5, pos := "store.go:173", after := #[{ on := 3, ground := Ground.data }], guard := none } : Oper)) (v := .int .u8 (f6 : Int)) rfl (by kernel_rfl) (by kernel_rfl) (by kernel_rfl) (fun _ _ _ h => h) (Or.inl ⟨by rfl, ?_⟩) (by assumption) ?_
          · intro w hSw; go_simp; (try simp [H6.out])
          (try simp only [Act.put, List.setIfInBounds_toArray, List.set_cons_zero, List.set_cons_succ])
          refine wpAnyH_take (i := 5) (oi := ({ dst := some 30, op := Op.convert 5 3 (Operand.tmp 29), type := 3, pos := "store.go:173", after := #[{ on := 4, ground := Ground.data }], guard := none } : Oper)) (v := .int .i64 (f6 : Int)) rfl (by kernel_rfl) (by kernel_rfl) (by kernel_rfl) (fun _ _ _ h => h) (Or.inl ⟨by rfl, ?_⟩) (by assumption) ?_
          · intro w hSw; go_simp; (try exact wrap_id (by omega) (by omega))
          (try simp only [Act.put, List.setIfInBounds_toArray, List.set_cons_zero, List.set_cons_succ])
          refine wpAnyH_take (i := 6) (oi := ({ dst := some 31, op := Op.binOp BinOp.mul 3 (Operand.const (Value.int IntKind.i64 256)) (Operand.tmp 30) 3, type := 3, pos := "store.go:173", after := #[{ on := 5, ground := Ground.data }], guard := none } : Oper)) (v := .int .i64 (256 * (f6 : Int))) rfl (by kernel_rfl) (by kernel_rfl) (by kernel_rfl) (fun _ _ _ h => h) (Or.inl ⟨by rfl, ?_⟩) (by assumption) ?_
          · intro w hSw; go_simp; (try exact wrap_id (by omega) (by omega))
          (try simp only [Act.put, List.setIfInBounds_toArray, List.set_cons_zero, List.set_cons_succ])
          refine wpAnyH_take (i := 7) (oi := ({ dst := some 32, op := Op.binOp BinOp.add 3 (Operand.tmp 27) (Operand.tmp 31) 3, type := 3, pos := "store.go:173", after := #[{ on := 2, ground := Ground.data }, { on := 6, ground := Ground.data }], guard := none } : Oper)) (v := .int .i64 ((f5 : Int) + 256 * (f6 : Int))) rfl (by kernel_rfl) (by kernel_rfl) (by kernel_rfl) (fun _ _ _ h => h) (Or.inl ⟨by rfl, ?_⟩) (by assumption) ?_
          · intro w hSw; go_simp; (try exact wrap_id (by omega) (by omega))
          (try simp only [Act.put, List.setIfInBounds_toArray, List.set_cons_zero, List.set_cons_succ])
          refine wpAnyH_take (i := 8) (oi := ({ dst := some 11, op := Op.assign (Operand.tmp 32), type := 3, pos := "store.go:173", after := #[{ on := 7, ground := Ground.data }, { on := 0, ground := Ground.phase }, { on := 1, ground := Ground.phase }, { on := 2, ground := Ground.phase }, { on := 3, ground := Ground.phase }, { on := 4, ground := Ground.phase }, { on := 5, ground := Ground.phase }, { on := 6, ground := Ground.phase }, { on := 7, ground := Ground.phase }], guard := none } : Oper)) (v := .int .i64 ((f5 : Int) + 256 * (f6 : Int))) rfl (by kernel_rfl) (by kernel_rfl) (by kernel_rfl) (fun _ _ _ h => h) (Or.inl ⟨by rfl, ?_⟩) (by assumption) ?_
          · intro w hSw; (try dsimp only at hSw); go_simp
          (try simp only [Act.put, List.setIfInBounds_toArray, List.set_cons_zero, List.set_cons_succ])
          refine wpAnyH_done (by kernel_rfl) ?_ _
          go_wp2_with fail
          refine wp_region_held_drew (S := fun w' => True) (by kernel_rfl) ?_ (fun hHeld => ?_)
          · exact trivial
          have hbd : Below wr.heap.size wr wr.drew.drew := below_drewN (below_drewN (Below.refl _ _) 1) 1
          generalize wr.drew.drew = w9 at *
          refine wpAnyH_take (i := 0) (oi := ({ dst := some 33, op := Op.move (Operand.tmp 10), type := 9, pos := "store.go:174", after := #[], guard := none } : Oper)) (v := .string s) rfl (by kernel_rfl) (by kernel_rfl) (by kernel_rfl) (fun _ _ _ h => h) (Or.inl ⟨by rfl, ?_⟩) (by assumption) ?_
          · intro w hSw; (try dsimp only at hSw); go_simp
          (try simp only [Act.put, List.setIfInBounds_toArray, List.set_cons_zero, List.set_cons_succ])
          refine wpAnyH_take (i := 1) (oi := ({ dst := some 34, op := Op.slice 9 (Operand.tmp 33) (some (Operand.const (Value.int IntKind.i64 1))) (some (Operand.const (Value.int IntKind.i64 5))) none, type := 9, pos := "store.go:174", after := #[{ on := 0, ground := Ground.data }], guard := none } : Oper)) (v := .string sx) rfl (by kernel_rfl) (by kernel_rfl) (by kernel_rfl) (fun _ _ _ h => h) (Or.inl ⟨by rfl, ?_⟩) (by assumption) ?_
          · intro w hSw; go_simp; (try simp [hsx]); (try omega)
          (try simp only [Act.put, List.setIfInBounds_toArray, List.set_cons_zero, List.set_cons_succ])
          refine wpAnyH_take (i := 2) (oi := ({ dst := some 35, op := Op.move (Operand.tmp 1), type := 3, pos := "store.go:174", after := #[], guard := none } : Oper)) (v := .int .i64 (first : Int)) rfl (by kernel_rfl) (by kernel_rfl) (by kernel_rfl) (fun _ _ _ h => h) (Or.inl ⟨by rfl, ?_⟩) (by assumption) ?_
          · intro w hSw; (try dsimp only at hSw); go_simp
          (try simp only [Act.put, List.setIfInBounds_toArray, List.set_cons_zero, List.set_cons_succ])
          refine wpAnyH_take (i := 3) (oi := ({ dst := some 36, op := Op.move (Operand.tmp 9), type := 3, pos := "store.go:174", after := #[], guard := none } : Oper)) (v := .int .i64 (k : Int)) rfl (by kernel_rfl) (by kernel_rfl) (by kernel_rfl) (fun _ _ _ h => h) (Or.inl ⟨by rfl, ?_⟩) (by assumption) ?_
          · intro w hSw; (try dsimp only at hSw); go_simp
          (try simp only [Act.put, List.setIfInBounds_toArray, List.set_cons_zero, List.set_cons_succ])
          refine wpAnyH_take (i := 4) (oi := ({ dst := some 37, op := Op.binOp BinOp.add 3 (Operand.tmp 35) (Operand.tmp 36) 3, type := 3, pos := "store.go:174", after := #[{ on := 2, ground := Ground.data }, { on := 3, ground := Ground.data }], guard := none } : Oper)) (v := .int .i64 ((first : Int) + (k : Int))) rfl (by kernel_rfl) (by kernel_rfl) (by kernel_rfl) (fun _ _ _ h => h) (Or.inl ⟨by rfl, ?_⟩) (by assumption) ?_
          · intro w hSw; (try dsimp only at hSw); go_simp; exact wrap_id (by omega) (by omega)
          (try simp only [Act.put, List.setIfInBounds_toArray, List.set_cons_zero, List.set_cons_succ])
          refine wpAnyH_ready (rs := [5]) (by kernel_rfl) (by simp) ?_
          refine AllReadyH.cons (o := ({ dst := some 38, op := Op.call { callee := Callee.value (Operand.func 52), args := #[Operand.tmp 37], argTypes := #[3] }, type := 9, pos := "store.go:174", after := #[{ on := 4, ground := Ground.data }], guard := none } : Oper)) rfl (fun K hK => ?_) AllReadyH.nil
          rw [if_pos (by rfl)]
          have hcon := hfo w9
          go_wp2_with fail
          refine hcon.mono ?_
          rintro e w1 ⟨rfl, hb1⟩
          clear hcon
          go_wp2_with fail
          refine hK.out _ _ ?_ (fun hHeld => ?_)
          · exact trivial
          clear hK K
          (try simp only [Act.put, List.setIfInBounds_toArray, List.set_cons_zero, List.set_cons_succ])
          refine wpAnyH_take (i := 6) (oi := ({ dst := some 39, op := Op.binOp BinOp.neq 9 (Operand.tmp 34) (Operand.tmp 38) 9, type := 4, pos := "store.go:174", after := #[{ on := 1, ground := Ground.data }, { on := 5, ground := Ground.data }], guard := none } : Oper)) (v := .bool false) rfl (by kernel_rfl) (by kernel_rfl) (by kernel_rfl) (fun _ _ _ h => h) (Or.inl ⟨by rfl, ?_⟩) (by assumption) ?_
          · intro w hSw; go_simp; (try simp [*]); (try omega)
          (try simp only [Act.put, List.setIfInBounds_toArray, List.set_cons_zero, List.set_cons_succ])
          refine wpAnyH_take (i := 7) (oi := ({ dst := some 40, op := Op.move (Operand.tmp 39), type := 4, pos := "store.go:174", after := #[{ on := 6, ground := Ground.data }, { on := 5, ground := Ground.chain }], guard := none } : Oper)) (v := .bool false) rfl (by kernel_rfl) (by kernel_rfl) (by kernel_rfl) (fun _ _ _ h => h) (Or.inl ⟨by rfl, ?_⟩) (by assumption) ?_
          · intro w hSw; (try dsimp only at hSw); go_simp
          (try simp only [Act.put, List.setIfInBounds_toArray, List.set_cons_zero, List.set_cons_succ])
          refine wpAnyH_take (i := 8) (oi := ({ dst := some 41, op := Op.move (Operand.tmp 11), type := 3, pos := "store.go:174", after := #[{ on := 7, ground := Ground.guard }], guard := some (7, false) } : Oper)) (v := .int .i64 ((f5 : Int) + 256 * (f6 : Int))) rfl (by kernel_rfl) (by kernel_rfl) (by kernel_rfl) (fun _ _ _ h => h) (Or.inl ⟨by rfl, ?_⟩) (by assumption) ?_
          · intro w hSw; (try dsimp only at hSw); go_simp
          (try simp only [Act.put, List.setIfInBounds_toArray, List.set_cons_zero, List.set_cons_succ])
          refine wpAnyH_take (i := 9) (oi := ({ dst := some 42, op := Op.binOp BinOp.gtr 3 (Operand.tmp 41) (Operand.const (Value.int IntKind.i64 41)) 3, type := 4, pos := "store.go:174", after := #[{ on := 8, ground := Ground.data }, { on := 7, ground := Ground.guard }], guard := some (7, false) } : Oper)) (v := .bool true) rfl (by kernel_rfl) (by kernel_rfl) (by kernel_rfl) (fun _ _ _ h => h) (Or.inl ⟨by rfl, ?_⟩) (by assumption) ?_
          · intro w hSw; go_simp; (try simp [*]); (try omega)
          (try simp only [Act.put, List.setIfInBounds_toArray, List.set_cons_zero, List.set_cons_succ])
          refine wpAnyH_take (i := 10) (oi := ({ dst := some 43, op := Op.pick (Operand.tmp 40) (Operand.const (Value.bool true)) (Operand.tmp 42), type := 4, pos := "store.go:174", after := #[{ on := 7, ground := Ground.data }, { on := 9, ground := Ground.data }], guard := none } : Oper)) (v := .bool true) rfl (by kernel_rfl) (by kernel_rfl) (by kernel_rfl) (fun _ _ _ h => h) (Or.inl ⟨by rfl, ?_⟩) (by assumption) ?_
          · intro w hSw; (try dsimp only at hSw); go_simp
          (try simp only [Act.put, List.setIfInBounds_toArray, List.set_cons_zero, List.set_cons_succ])
          refine wpAnyH_done (by kernel_rfl) ?_ _
          have hIb := hI.below (Below_after hbd hb1)
          clear hI hbd hb1
          obtain ⟨a', c', hvd, hdd'⟩ := hIb.fin
          subst hvd
          go_wp2_with fail
          go_ret2
          exact ⟨a', c', by rw [HE.out]; rfl, by rw [HE.out]; exact hdd', hIb.bl⟩
        · have hse := (show (s.extract 7 (7 + (f5 + 256 * f6))).size = f5 + 256 * f6 by rw [ByteArray.size_extract]; omega)
          have hcf := fun W => four_any st.opn.length W (by omega)
          have hco := fun W => rfparse_any (s.extract 7 (7 + (f5 + 256 * f6))) W (by rw [hse]; simp [maxLen]; omega)
          have e7 : ((7 : Int) + ((f5 : Int) + 256 * (f6 : Int))).toNat = 7 + (f5 + 256 * f6) := by omega
          clear hse
          subst hnum
          have hpos : (s[0].toNat = 111 ∨ s[0].toNat = 99) → secP s.data.toList (first + k) = some (s[0], (s.extract 7 (7 + (f5 + 256 * f6))).data.toList) := fun h => by rw [hsec, if_pos ⟨h, rfl, hz⟩]
          have hnone : ¬ (s[0].toNat = 111 ∨ s[0].toNat = 99) → secP s.data.toList (first + k) = none := fun h => by rw [hsec, if_neg (fun hh => h hh.1)]
          have HP : Hid _ := hpos
          have HNO : Hid _ := hnone
          clear hsec hpos hnone
          have j1 : (7 : Int) + ((f5 : Int) + 256 * (f6 : Int)) ≤ (s.size : Int) := by omega
          by_cases h99 : s[0].toNat = 99
          · have hn111 : ¬ s[0] = 111 := fun e => by rw [e] at h99; exact absurd h99 (by decide)
            obtain ⟨ao, co, hvo⟩ := own_form hI.oo
            subst hvo
            by_cases hT : s.extract 7 (7 + (f5 + 256 * f6)) = leB st.opn.length 4
            · have hRe : R = rdLog first ((l.map (·.data.toList)).drop (k + 1)) (k + 1) ⟨st.deeds ++ [st.opn], [], k + 1⟩ := by
                have := HR.out
                rwa [rd_some hdr (by unfold lstep; rw [HP.out (.inr h99)]; dsimp only; rw [if_neg hn111, hT, if_pos (show (leB st.opn.length 4).data.toList = leL st.opn.length 4 from str_data _)])] at this
              have HRe : Hid (_ = _) := hRe
              have d99 : ((s[0].toNat : Int) == 99) = true := by rw [h99]; rfl
              have HT : Hid (_ = _) := hT
              clear HR hdr hRe hn111 HP HNO hco hT h99
              go_wp2_with fail
              refine wp_region_held_drew (S := fun w' => True) (by kernel_rfl) ?_ (fun hHeld => ?_)
              · exact trivial
              refine wpAnyH_take (i := 0) (oi := ({ dst := some 25, op := Op.move (Operand.tmp 10), type := 9, pos := "store.go:173", after := #[], guard := none } : Oper)) (v := .string s) rfl (by kernel_rfl) (by kernel_rfl) (by kernel_rfl) (fun _ _ _ h => h) (Or.inl ⟨by rfl, ?_⟩) (by assumption) ?_
              · intro w hSw; (try dsimp only at hSw); go_simp
              (try simp only [Act.put, List.setIfInBounds_toArray, List.set_cons_zero, List.set_cons_succ])
              refine wpAnyH_take (i := 1) (oi := ({ dst := some 26, op := Op.index 9 (Operand.tmp 25) (Operand.const (Value.int IntKind.i64 5)), type := 5, pos := "store.go:173", after := #[{ on := 0, ground := Ground.data }], guard := none } : Oper)) (v := .int .u8 (f5 : Int)) rfl (by kernel_rfl) (by kernel_rfl) (by kernel_rfl) (fun _ _ _ h => h) (Or.inl ⟨by rfl, ?_⟩) (by assumption) ?_
              · intro w hSw; go_simp; (try simp [H5.out])
              (try simp only [Act.put, List.setIfInBounds_toArray, List.set_cons_zero, List.set_cons_succ])
              refine wpAnyH_take (i := 2) (oi := ({ dst := some 27, op := Op.convert 5 3 (Operand.tmp 26), type := 3, pos := "store.go:173", after := #[{ on := 1, ground := Ground.data }], guard := none } : Oper)) (v := .int .i64 (f5 : Int)) rfl (by kernel_rfl) (by kernel_rfl) (by kernel_rfl) (fun _ _ _ h => h) (Or.inl ⟨by rfl, ?_⟩) (by assumption) ?_
              · intro w hSw; go_simp; (try exact wrap_id (by omega) (by omega))
              (try simp only [Act.put, List.setIfInBounds_toArray, List.set_cons_zero, List.set_cons_succ])
              refine wpAnyH_take (i := 3) (oi := ({ dst := some 28, op := Op.move (Operand.tmp 10), type := 9, pos := "store.go:173", after := #[], guard := none } : Oper)) (v := .string s) rfl (by kernel_rfl) (by kernel_rfl) (by kernel_rfl) (fun _ _ _ h => h) (Or.inl ⟨by rfl, ?_⟩) (by assumption) ?_
              · intro w hSw; (try dsimp only at hSw); go_simp
              (try simp only [Act.put, List.setIfInBounds_toArray, List.set_cons_zero, List.set_cons_succ])
              refine wpAnyH_take (i := 4) (oi := ({ dst := some 29, op := Op.index 9 (Operand.tmp 28) (Operand.const (Value.int IntKind.i64 6)), type := 5, pos := "store.go:173", after := #[{ on := 3, ground := Ground.data }], guard := none } : Oper)) (v := .int .u8 (f6 : Int)) rfl (by kernel_rfl) (by kernel_rfl) (by kernel_rfl) (fun _ _ _ h => h) (Or.inl ⟨by rfl, ?_⟩) (by assumption) ?_
              · intro w hSw; go_simp; (try simp [H6.out])
              (try simp only [Act.put, List.setIfInBounds_toArray, List.set_cons_zero, List.set_cons_succ])
              refine wpAnyH_take (i := 5) (oi := ({ dst := some 30, op := Op.convert 5 3 (Operand.tmp 29), type := 3, pos := "store.go:173", after := #[{ on := 4, ground := Ground.data }], guard := none } : Oper)) (v := .int .i64 (f6 : Int)) rfl (by kernel_rfl) (by kernel_rfl) (by kernel_rfl) (fun _ _ _ h => h) (Or.inl ⟨by rfl, ?_⟩) (by assumption) ?_
              · intro w hSw; go_simp; (try exact wrap_id (by omega) (by omega))
              (try simp only [Act.put, List.setIfInBounds_toArray, List.set_cons_zero, List.set_cons_succ])
              refine wpAnyH_take (i := 6) (oi := ({ dst := some 31, op := Op.binOp BinOp.mul 3 (Operand.const (Value.int IntKind.i64 256)) (Operand.tmp 30) 3, type := 3, pos := "store.go:173", after := #[{ on := 5, ground := Ground.data }], guard := none } : Oper)) (v := .int .i64 (256 * (f6 : Int))) rfl (by kernel_rfl) (by kernel_rfl) (by kernel_rfl) (fun _ _ _ h => h) (Or.inl ⟨by rfl, ?_⟩) (by assumption) ?_
              · intro w hSw; go_simp; (try exact wrap_id (by omega) (by omega))
              (try simp only [Act.put, List.setIfInBounds_toArray, List.set_cons_zero, List.set_cons_succ])
              refine wpAnyH_take (i := 7) (oi := ({ dst := some 32, op := Op.binOp BinOp.add 3 (Operand.tmp 27) (Operand.tmp 31) 3, type := 3, pos := "store.go:173", after := #[{ on := 2, ground := Ground.data }, { on := 6, ground := Ground.data }], guard := none } : Oper)) (v := .int .i64 ((f5 : Int) + 256 * (f6 : Int))) rfl (by kernel_rfl) (by kernel_rfl) (by kernel_rfl) (fun _ _ _ h => h) (Or.inl ⟨by rfl, ?_⟩) (by assumption) ?_
              · intro w hSw; go_simp; (try exact wrap_id (by omega) (by omega))
              (try simp only [Act.put, List.setIfInBounds_toArray, List.set_cons_zero, List.set_cons_succ])
              refine wpAnyH_take (i := 8) (oi := ({ dst := some 11, op := Op.assign (Operand.tmp 32), type := 3, pos := "store.go:173", after := #[{ on := 7, ground := Ground.data }, { on := 0, ground := Ground.phase }, { on := 1, ground := Ground.phase }, { on := 2, ground := Ground.phase }, { on := 3, ground := Ground.phase }, { on := 4, ground := Ground.phase }, { on := 5, ground := Ground.phase }, { on := 6, ground := Ground.phase }, { on := 7, ground := Ground.phase }], guard := none } : Oper)) (v := .int .i64 ((f5 : Int) + 256 * (f6 : Int))) rfl (by kernel_rfl) (by kernel_rfl) (by kernel_rfl) (fun _ _ _ h => h) (Or.inl ⟨by rfl, ?_⟩) (by assumption) ?_
              · intro w hSw; (try dsimp only at hSw); go_simp
              (try simp only [Act.put, List.setIfInBounds_toArray, List.set_cons_zero, List.set_cons_succ])
              refine wpAnyH_done (by kernel_rfl) ?_ _
              go_wp2_with fail
              refine wp_region_held_drew (S := fun w' => True) (by kernel_rfl) ?_ (fun hHeld => ?_)
              · exact trivial
              have hbd : Below wr.heap.size wr wr.drew.drew := below_drewN (below_drewN (Below.refl _ _) 1) 1
              generalize wr.drew.drew = w9 at *
              refine wpAnyH_take (i := 0) (oi := ({ dst := some 33, op := Op.move (Operand.tmp 10), type := 9, pos := "store.go:174", after := #[], guard := none } : Oper)) (v := .string s) rfl (by kernel_rfl) (by kernel_rfl) (by kernel_rfl) (fun _ _ _ h => h) (Or.inl ⟨by rfl, ?_⟩) (by assumption) ?_
              · intro w hSw; (try dsimp only at hSw); go_simp
              (try simp only [Act.put, List.setIfInBounds_toArray, List.set_cons_zero, List.set_cons_succ])
              refine wpAnyH_take (i := 1) (oi := ({ dst := some 34, op := Op.slice 9 (Operand.tmp 33) (some (Operand.const (Value.int IntKind.i64 1))) (some (Operand.const (Value.int IntKind.i64 5))) none, type := 9, pos := "store.go:174", after := #[{ on := 0, ground := Ground.data }], guard := none } : Oper)) (v := .string sx) rfl (by kernel_rfl) (by kernel_rfl) (by kernel_rfl) (fun _ _ _ h => h) (Or.inl ⟨by rfl, ?_⟩) (by assumption) ?_
              · intro w hSw; go_simp; (try simp [hsx]); (try omega)
              (try simp only [Act.put, List.setIfInBounds_toArray, List.set_cons_zero, List.set_cons_succ])
              refine wpAnyH_take (i := 2) (oi := ({ dst := some 35, op := Op.move (Operand.tmp 1), type := 3, pos := "store.go:174", after := #[], guard := none } : Oper)) (v := .int .i64 (first : Int)) rfl (by kernel_rfl) (by kernel_rfl) (by kernel_rfl) (fun _ _ _ h => h) (Or.inl ⟨by rfl, ?_⟩) (by assumption) ?_
              · intro w hSw; (try dsimp only at hSw); go_simp
              (try simp only [Act.put, List.setIfInBounds_toArray, List.set_cons_zero, List.set_cons_succ])
              refine wpAnyH_take (i := 3) (oi := ({ dst := some 36, op := Op.move (Operand.tmp 9), type := 3, pos := "store.go:174", after := #[], guard := none } : Oper)) (v := .int .i64 (k : Int)) rfl (by kernel_rfl) (by kernel_rfl) (by kernel_rfl) (fun _ _ _ h => h) (Or.inl ⟨by rfl, ?_⟩) (by assumption) ?_
              · intro w hSw; (try dsimp only at hSw); go_simp
              (try simp only [Act.put, List.setIfInBounds_toArray, List.set_cons_zero, List.set_cons_succ])
              refine wpAnyH_take (i := 4) (oi := ({ dst := some 37, op := Op.binOp BinOp.add 3 (Operand.tmp 35) (Operand.tmp 36) 3, type := 3, pos := "store.go:174", after := #[{ on := 2, ground := Ground.data }, { on := 3, ground := Ground.data }], guard := none } : Oper)) (v := .int .i64 ((first : Int) + (k : Int))) rfl (by kernel_rfl) (by kernel_rfl) (by kernel_rfl) (fun _ _ _ h => h) (Or.inl ⟨by rfl, ?_⟩) (by assumption) ?_
              · intro w hSw; (try dsimp only at hSw); go_simp; exact wrap_id (by omega) (by omega)
              (try simp only [Act.put, List.setIfInBounds_toArray, List.set_cons_zero, List.set_cons_succ])
              refine wpAnyH_ready (rs := [5]) (by kernel_rfl) (by simp) ?_
              refine AllReadyH.cons (o := ({ dst := some 38, op := Op.call { callee := Callee.value (Operand.func 52), args := #[Operand.tmp 37], argTypes := #[3] }, type := 9, pos := "store.go:174", after := #[{ on := 4, ground := Ground.data }], guard := none } : Oper)) rfl (fun K hK => ?_) AllReadyH.nil
              rw [if_pos (by rfl)]
              have hcon := hfo w9
              go_wp2_with fail
              refine hcon.mono ?_
              rintro e w1 ⟨rfl, hb1⟩
              clear hcon
              go_wp2_with fail
              refine hK.out _ _ ?_ (fun hHeld => ?_)
              · exact trivial
              clear hK K
              (try simp only [Act.put, List.setIfInBounds_toArray, List.set_cons_zero, List.set_cons_succ])
              refine wpAnyH_take (i := 6) (oi := ({ dst := some 39, op := Op.binOp BinOp.neq 9 (Operand.tmp 34) (Operand.tmp 38) 9, type := 4, pos := "store.go:174", after := #[{ on := 1, ground := Ground.data }, { on := 5, ground := Ground.data }], guard := none } : Oper)) (v := .bool false) rfl (by kernel_rfl) (by kernel_rfl) (by kernel_rfl) (fun _ _ _ h => h) (Or.inl ⟨by rfl, ?_⟩) (by assumption) ?_
              · intro w hSw; go_simp; (try simp [*]); (try omega)
              (try simp only [Act.put, List.setIfInBounds_toArray, List.set_cons_zero, List.set_cons_succ])
              refine wpAnyH_take (i := 7) (oi := ({ dst := some 40, op := Op.move (Operand.tmp 39), type := 4, pos := "store.go:174", after := #[{ on := 6, ground := Ground.data }, { on := 5, ground := Ground.chain }], guard := none } : Oper)) (v := .bool false) rfl (by kernel_rfl) (by kernel_rfl) (by kernel_rfl) (fun _ _ _ h => h) (Or.inl ⟨by rfl, ?_⟩) (by assumption) ?_
              · intro w hSw; (try dsimp only at hSw); go_simp
              (try simp only [Act.put, List.setIfInBounds_toArray, List.set_cons_zero, List.set_cons_succ])
              refine wpAnyH_take (i := 8) (oi := ({ dst := some 41, op := Op.move (Operand.tmp 11), type := 3, pos := "store.go:174", after := #[{ on := 7, ground := Ground.guard }], guard := some (7, false) } : Oper)) (v := .int .i64 ((f5 : Int) + 256 * (f6 : Int))) rfl (by kernel_rfl) (by kernel_rfl) (by kernel_rfl) (fun _ _ _ h => h) (Or.inl ⟨by rfl, ?_⟩) (by assumption) ?_
              · intro w hSw; (try dsimp only at hSw); go_simp
              (try simp only [Act.put, List.setIfInBounds_toArray, List.set_cons_zero, List.set_cons_succ])
              refine wpAnyH_take (i := 9) (oi := ({ dst := some 42, op := Op.binOp BinOp.gtr 3 (Operand.tmp 41) (Operand.const (Value.int IntKind.i64 41)) 3, type := 4, pos := "store.go:174", after := #[{ on := 8, ground := Ground.data }, { on := 7, ground := Ground.guard }], guard := some (7, false) } : Oper)) (v := .bool false) rfl (by kernel_rfl) (by kernel_rfl) (by kernel_rfl) (fun _ _ _ h => h) (Or.inl ⟨by rfl, ?_⟩) (by assumption) ?_
              · intro w hSw; go_simp; (try simp [*]); (try omega)
              (try simp only [Act.put, List.setIfInBounds_toArray, List.set_cons_zero, List.set_cons_succ])
              refine wpAnyH_take (i := 10) (oi := ({ dst := some 43, op := Op.pick (Operand.tmp 40) (Operand.const (Value.bool true)) (Operand.tmp 42), type := 4, pos := "store.go:174", after := #[{ on := 7, ground := Ground.data }, { on := 9, ground := Ground.data }], guard := none } : Oper)) (v := .bool false) rfl (by kernel_rfl) (by kernel_rfl) (by kernel_rfl) (fun _ _ _ h => h) (Or.inl ⟨by rfl, ?_⟩) (by assumption) ?_
              · intro w hSw; (try dsimp only at hSw); go_simp
              (try simp only [Act.put, List.setIfInBounds_toArray, List.set_cons_zero, List.set_cons_succ])
              refine wpAnyH_done (by kernel_rfl) ?_ _
              have hIb := hI.below (Below_after hbd hb1)
              clear hI hbd hb1
              have hcf := hcf w1
              have hT := HT.out
              generalize htx : s.extract 7 (7 + (f5 + 256 * f6)) = tx at *
              subst hT
              clear HT
              go_wp2_with fail
              refine hcf.mono ?_
              rintro e w3 ⟨rfl, hb3⟩
              clear hcf
              generalize leB st.opn.length 4 = tx at *
              have hI4 := ((hIb.below hb3).below ((Below.refl _ _).alloc (Nat.le_refl _) (.cells #[.slice ao st.opn.length co] 38)))
              have hg4 := heap_alloc_last w3 (.cells #[.slice ao st.opn.length co] 38)
              obtain ⟨vd', w5, r1, r2, r3, r5⟩ := run_app 71 38 71 Try.underlying71 infoLC rfl (by decide) (by decide) hI4.od (by omega) hI4.bl.size (news := [.slice ao st.opn.length co]) rfl (by intro u hu; simp at hu; rw [hu]; rfl) w3.heap.size hg4
              have hI5 := hI4.closed rfl r2 r3 r5 (k + 1)
              clear hI4 hIb hg4 r2 r3 r5
              go_wp2_with (refine wpList_run (by rfl) (exec_append _ _ _ _ (by rfl) (by rfl) (by rfl) (by rfl) (by rfl) (by rfl) r1) ?_)
              go_roundw
              case rel => exact ⟨k + 1, ⟨st.deeds ++ [st.opn], [], k + 1⟩, _, by omega, by go_num, by go_num, HRe, by simp, by simp; omega, hI5⟩
              case measure => simp [intOf]; omega
            · have HE : Hid (R = st) := by
                show _ = _
                have := HR.out
                rwa [rd_none hdr (by unfold lstep; rw [HP.out (.inr h99)]; dsimp only; rw [if_neg hn111, if_neg (fun e => hT (by rw [← str_of (s.extract 7 (7 + (f5 + 256 * f6))), e]; rfl))])] at this
              have d99 : ((s[0].toNat : Int) == 99) = true := by rw [h99]; rfl
              have d111 : ((s[0].toNat : Int) == 111) = false := by rw [h99]; rfl
              have hbl := bal hT
              clear HR hdr hn111 HP HNO hco hT h99
              go_wp2_with fail
              refine wp_region_held_drew (S := fun w' => True) (by kernel_rfl) ?_ (fun hHeld => ?_)
              · exact trivial
              refine wpAnyH_take (i := 0) (oi := ({ dst := some 25, op := Op.move (Operand.tmp 10), type := 9, pos := "store.go:173", after := #[], guard := none } : Oper)) (v := .string s) rfl (by kernel_rfl) (by kernel_rfl) (by kernel_rfl) (fun _ _ _ h => h) (Or.inl ⟨by rfl, ?_⟩) (by assumption) ?_
              · intro w hSw; (try dsimp only at hSw); go_simp
              (try simp only [Act.put, List.setIfInBounds_toArray, List.set_cons_zero, List.set_cons_succ])
              refine wpAnyH_take (i := 1) (oi := ({ dst := some 26, op := Op.index 9 (Operand.tmp 25) (Operand.const (Value.int IntKind.i64 5)), type := 5, pos := "store.go:173", after := #[{ on := 0, ground := Ground.data }], guard := none } : Oper)) (v := .int .u8 (f5 : Int)) rfl (by kernel_rfl) (by kernel_rfl) (by kernel_rfl) (fun _ _ _ h => h) (Or.inl ⟨by rfl, ?_⟩) (by assumption) ?_
              · intro w hSw; go_simp; (try simp [H5.out])
              (try simp only [Act.put, List.setIfInBounds_toArray, List.set_cons_zero, List.set_cons_succ])
              refine wpAnyH_take (i := 2) (oi := ({ dst := some 27, op := Op.convert 5 3 (Operand.tmp 26), type := 3, pos := "store.go:173", after := #[{ on := 1, ground := Ground.data }], guard := none } : Oper)) (v := .int .i64 (f5 : Int)) rfl (by kernel_rfl) (by kernel_rfl) (by kernel_rfl) (fun _ _ _ h => h) (Or.inl ⟨by rfl, ?_⟩) (by assumption) ?_
              · intro w hSw; go_simp; (try exact wrap_id (by omega) (by omega))
              (try simp only [Act.put, List.setIfInBounds_toArray, List.set_cons_zero, List.set_cons_succ])
              refine wpAnyH_take (i := 3) (oi := ({ dst := some 28, op := Op.move (Operand.tmp 10), type := 9, pos := "store.go:173", after := #[], guard := none } : Oper)) (v := .string s) rfl (by kernel_rfl) (by kernel_rfl) (by kernel_rfl) (fun _ _ _ h => h) (Or.inl ⟨by rfl, ?_⟩) (by assumption) ?_
              · intro w hSw; (try dsimp only at hSw); go_simp
              (try simp only [Act.put, List.setIfInBounds_toArray, List.set_cons_zero, List.set_cons_succ])
              refine wpAnyH_take (i := 4) (oi := ({ dst := some 29, op := Op.index 9 (Operand.tmp 28) (Operand.const (Value.int IntKind.i64 6)), type := 5, pos := "store.go:173", after := #[{ on := 3, ground := Ground.data }], guard := none } : Oper)) (v := .int .u8 (f6 : Int)) rfl (by kernel_rfl) (by kernel_rfl) (by kernel_rfl) (fun _ _ _ h => h) (Or.inl ⟨by rfl, ?_⟩) (by assumption) ?_
              · intro w hSw; go_simp; (try simp [H6.out])
              (try simp only [Act.put, List.setIfInBounds_toArray, List.set_cons_zero, List.set_cons_succ])
              refine wpAnyH_take (i := 5) (oi := ({ dst := some 30, op := Op.convert 5 3 (Operand.tmp 29), type := 3, pos := "store.go:173", after := #[{ on := 4, ground := Ground.data }], guard := none } : Oper)) (v := .int .i64 (f6 : Int)) rfl (by kernel_rfl) (by kernel_rfl) (by kernel_rfl) (fun _ _ _ h => h) (Or.inl ⟨by rfl, ?_⟩) (by assumption) ?_
              · intro w hSw; go_simp; (try exact wrap_id (by omega) (by omega))
              (try simp only [Act.put, List.setIfInBounds_toArray, List.set_cons_zero, List.set_cons_succ])
              refine wpAnyH_take (i := 6) (oi := ({ dst := some 31, op := Op.binOp BinOp.mul 3 (Operand.const (Value.int IntKind.i64 256)) (Operand.tmp 30) 3, type := 3, pos := "store.go:173", after := #[{ on := 5, ground := Ground.data }], guard := none } : Oper)) (v := .int .i64 (256 * (f6 : Int))) rfl (by kernel_rfl) (by kernel_rfl) (by kernel_rfl) (fun _ _ _ h => h) (Or.inl ⟨by rfl, ?_⟩) (by assumption) ?_
              · intro w hSw; go_simp; (try exact wrap_id (by omega) (by omega))
              (try simp only [Act.put, List.setIfInBounds_toArray, List.set_cons_zero, List.set_cons_succ])
              refine wpAnyH_take (i := 7) (oi := ({ dst := some 32, op := Op.binOp BinOp.add 3 (Operand.tmp 27) (Operand.tmp 31) 3, type := 3, pos := "store.go:173", after := #[{ on := 2, ground := Ground.data }, { on := 6, ground := Ground.data }], guard := none } : Oper)) (v := .int .i64 ((f5 : Int) + 256 * (f6 : Int))) rfl (by kernel_rfl) (by kernel_rfl) (by kernel_rfl) (fun _ _ _ h => h) (Or.inl ⟨by rfl, ?_⟩) (by assumption) ?_
              · intro w hSw; go_simp; (try exact wrap_id (by omega) (by omega))
              (try simp only [Act.put, List.setIfInBounds_toArray, List.set_cons_zero, List.set_cons_succ])
              refine wpAnyH_take (i := 8) (oi := ({ dst := some 11, op := Op.assign (Operand.tmp 32), type := 3, pos := "store.go:173", after := #[{ on := 7, ground := Ground.data }, { on := 0, ground := Ground.phase }, { on := 1, ground := Ground.phase }, { on := 2, ground := Ground.phase }, { on := 3, ground := Ground.phase }, { on := 4, ground := Ground.phase }, { on := 5, ground := Ground.phase }, { on := 6, ground := Ground.phase }, { on := 7, ground := Ground.phase }], guard := none } : Oper)) (v := .int .i64 ((f5 : Int) + 256 * (f6 : Int))) rfl (by kernel_rfl) (by kernel_rfl) (by kernel_rfl) (fun _ _ _ h => h) (Or.inl ⟨by rfl, ?_⟩) (by assumption) ?_
              · intro w hSw; (try dsimp only at hSw); go_simp
              (try simp only [Act.put, List.setIfInBounds_toArray, List.set_cons_zero, List.set_cons_succ])
              refine wpAnyH_done (by kernel_rfl) ?_ _
              go_wp2_with fail
              refine wp_region_held_drew (S := fun w' => True) (by kernel_rfl) ?_ (fun hHeld => ?_)
              · exact trivial
              have hbd : Below wr.heap.size wr wr.drew.drew := below_drewN (below_drewN (Below.refl _ _) 1) 1
              generalize wr.drew.drew = w9 at *
              refine wpAnyH_take (i := 0) (oi := ({ dst := some 33, op := Op.move (Operand.tmp 10), type := 9, pos := "store.go:174", after := #[], guard := none } : Oper)) (v := .string s) rfl (by kernel_rfl) (by kernel_rfl) (by kernel_rfl) (fun _ _ _ h => h) (Or.inl ⟨by rfl, ?_⟩) (by assumption) ?_
              · intro w hSw; (try dsimp only at hSw); go_simp
              (try simp only [Act.put, List.setIfInBounds_toArray, List.set_cons_zero, List.set_cons_succ])
              refine wpAnyH_take (i := 1) (oi := ({ dst := some 34, op := Op.slice 9 (Operand.tmp 33) (some (Operand.const (Value.int IntKind.i64 1))) (some (Operand.const (Value.int IntKind.i64 5))) none, type := 9, pos := "store.go:174", after := #[{ on := 0, ground := Ground.data }], guard := none } : Oper)) (v := .string sx) rfl (by kernel_rfl) (by kernel_rfl) (by kernel_rfl) (fun _ _ _ h => h) (Or.inl ⟨by rfl, ?_⟩) (by assumption) ?_
              · intro w hSw; go_simp; (try simp [hsx]); (try omega)
              (try simp only [Act.put, List.setIfInBounds_toArray, List.set_cons_zero, List.set_cons_succ])
              refine wpAnyH_take (i := 2) (oi := ({ dst := some 35, op := Op.move (Operand.tmp 1), type := 3, pos := "store.go:174", after := #[], guard := none } : Oper)) (v := .int .i64 (first : Int)) rfl (by kernel_rfl) (by kernel_rfl) (by kernel_rfl) (fun _ _ _ h => h) (Or.inl ⟨by rfl, ?_⟩) (by assumption) ?_
              · intro w hSw; (try dsimp only at hSw); go_simp
              (try simp only [Act.put, List.setIfInBounds_toArray, List.set_cons_zero, List.set_cons_succ])
              refine wpAnyH_take (i := 3) (oi := ({ dst := some 36, op := Op.move (Operand.tmp 9), type := 3, pos := "store.go:174", after := #[], guard := none } : Oper)) (v := .int .i64 (k : Int)) rfl (by kernel_rfl) (by kernel_rfl) (by kernel_rfl) (fun _ _ _ h => h) (Or.inl ⟨by rfl, ?_⟩) (by assumption) ?_
              · intro w hSw; (try dsimp only at hSw); go_simp
              (try simp only [Act.put, List.setIfInBounds_toArray, List.set_cons_zero, List.set_cons_succ])
              refine wpAnyH_take (i := 4) (oi := ({ dst := some 37, op := Op.binOp BinOp.add 3 (Operand.tmp 35) (Operand.tmp 36) 3, type := 3, pos := "store.go:174", after := #[{ on := 2, ground := Ground.data }, { on := 3, ground := Ground.data }], guard := none } : Oper)) (v := .int .i64 ((first : Int) + (k : Int))) rfl (by kernel_rfl) (by kernel_rfl) (by kernel_rfl) (fun _ _ _ h => h) (Or.inl ⟨by rfl, ?_⟩) (by assumption) ?_
              · intro w hSw; (try dsimp only at hSw); go_simp; exact wrap_id (by omega) (by omega)
              (try simp only [Act.put, List.setIfInBounds_toArray, List.set_cons_zero, List.set_cons_succ])
              refine wpAnyH_ready (rs := [5]) (by kernel_rfl) (by simp) ?_
              refine AllReadyH.cons (o := ({ dst := some 38, op := Op.call { callee := Callee.value (Operand.func 52), args := #[Operand.tmp 37], argTypes := #[3] }, type := 9, pos := "store.go:174", after := #[{ on := 4, ground := Ground.data }], guard := none } : Oper)) rfl (fun K hK => ?_) AllReadyH.nil
              rw [if_pos (by rfl)]
              have hcon := hfo w9
              go_wp2_with fail
              refine hcon.mono ?_
              rintro e w1 ⟨rfl, hb1⟩
              clear hcon
              go_wp2_with fail
              refine hK.out _ _ ?_ (fun hHeld => ?_)
              · exact trivial
              clear hK K
              (try simp only [Act.put, List.setIfInBounds_toArray, List.set_cons_zero, List.set_cons_succ])
              refine wpAnyH_take (i := 6) (oi := ({ dst := some 39, op := Op.binOp BinOp.neq 9 (Operand.tmp 34) (Operand.tmp 38) 9, type := 4, pos := "store.go:174", after := #[{ on := 1, ground := Ground.data }, { on := 5, ground := Ground.data }], guard := none } : Oper)) (v := .bool false) rfl (by kernel_rfl) (by kernel_rfl) (by kernel_rfl) (fun _ _ _ h => h) (Or.inl ⟨by rfl, ?_⟩) (by assumption) ?_
              · intro w hSw; go_simp; (try simp [*]); (try omega)
              (try simp only [Act.put, List.setIfInBounds_toArray, List.set_cons_zero, List.set_cons_succ])
              refine wpAnyH_take (i := 7) (oi := ({ dst := some 40, op := Op.move (Operand.tmp 39), type := 4, pos := "store.go:174", after := #[{ on := 6, ground := Ground.data }, { on := 5, ground := Ground.chain }], guard := none } : Oper)) (v := .bool false) rfl (by kernel_rfl) (by kernel_rfl) (by kernel_rfl) (fun _ _ _ h => h) (Or.inl ⟨by rfl, ?_⟩) (by assumption) ?_
              · intro w hSw; (try dsimp only at hSw); go_simp
              (try simp only [Act.put, List.setIfInBounds_toArray, List.set_cons_zero, List.set_cons_succ])
              refine wpAnyH_take (i := 8) (oi := ({ dst := some 41, op := Op.move (Operand.tmp 11), type := 3, pos := "store.go:174", after := #[{ on := 7, ground := Ground.guard }], guard := some (7, false) } : Oper)) (v := .int .i64 ((f5 : Int) + 256 * (f6 : Int))) rfl (by kernel_rfl) (by kernel_rfl) (by kernel_rfl) (fun _ _ _ h => h) (Or.inl ⟨by rfl, ?_⟩) (by assumption) ?_
              · intro w hSw; (try dsimp only at hSw); go_simp
              (try simp only [Act.put, List.setIfInBounds_toArray, List.set_cons_zero, List.set_cons_succ])
              refine wpAnyH_take (i := 9) (oi := ({ dst := some 42, op := Op.binOp BinOp.gtr 3 (Operand.tmp 41) (Operand.const (Value.int IntKind.i64 41)) 3, type := 4, pos := "store.go:174", after := #[{ on := 8, ground := Ground.data }, { on := 7, ground := Ground.guard }], guard := some (7, false) } : Oper)) (v := .bool false) rfl (by kernel_rfl) (by kernel_rfl) (by kernel_rfl) (fun _ _ _ h => h) (Or.inl ⟨by rfl, ?_⟩) (by assumption) ?_
              · intro w hSw; go_simp; (try simp [*]); (try omega)
              (try simp only [Act.put, List.setIfInBounds_toArray, List.set_cons_zero, List.set_cons_succ])
              refine wpAnyH_take (i := 10) (oi := ({ dst := some 43, op := Op.pick (Operand.tmp 40) (Operand.const (Value.bool true)) (Operand.tmp 42), type := 4, pos := "store.go:174", after := #[{ on := 7, ground := Ground.data }, { on := 9, ground := Ground.data }], guard := none } : Oper)) (v := .bool false) rfl (by kernel_rfl) (by kernel_rfl) (by kernel_rfl) (fun _ _ _ h => h) (Or.inl ⟨by rfl, ?_⟩) (by assumption) ?_
              · intro w hSw; (try dsimp only at hSw); go_simp
              (try simp only [Act.put, List.setIfInBounds_toArray, List.set_cons_zero, List.set_cons_succ])
              refine wpAnyH_done (by kernel_rfl) ?_ _
              have hIb := hI.below (Below_after hbd hb1)
              clear hI hbd hb1
              have hcf := hcf w1
              generalize htx : s.extract 7 (7 + (f5 + 256 * f6)) = tx at *
              go_wp2_with fail
              refine hcf.mono ?_
              rintro e w3 ⟨rfl, hb3⟩
              clear hcf
              have hI4 := hIb.below hb3
              obtain ⟨a', c', hvd, hdd'⟩ := hI4.fin
              subst hvd
              go_wp2_with fail
              go_ret2
              exact ⟨a', c', by rw [HE.out]; rfl, by rw [HE.out]; exact hdd', hI4.bl⟩
          · have d99 : ((s[0].toNat : Int) == 99) = false := by simp; omega
            by_cases h111 : s[0].toNat = 111
            · have h111' : s[0] = 111 := (u8_eq (k := 111) (by decide)).2 h111
              have d111 : ((s[0].toNat : Int) == 111) = true := by rw [h111]; rfl
              cases hC : chP (s.extract 7 (7 + (f5 + 256 * f6))).data.toList with
              | none =>
                have HE : Hid (R = st) := by
                  show _ = _
                  have := HR.out
                  rwa [rd_none hdr (by unfold lstep; rw [HP.out (.inl h111)]; dsimp only; rw [if_pos h111', hC])] at this
                have e1 : prR (s.extract 7 (7 + (f5 + 256 * f6))) = ch0 := by unfold prR; rw [hC]; rfl
                have e2 : prC (s.extract 7 (7 + (f5 + 256 * f6))) = 4 := by unfold prC; rw [hC]; rfl
                rw [e1, e2] at hco
                clear e1 e2 HR hdr HP HNO hC hcf h99 h111 h111'
                go_wp2_with fail
                refine wp_region_held_drew (S := fun w' => True) (by kernel_rfl) ?_ (fun hHeld => ?_)
                · exact trivial
                refine wpAnyH_take (i := 0) (oi := ({ dst := some 25, op := Op.move (Operand.tmp 10), type := 9, pos := "store.go:173", after := #[], guard := none } : Oper)) (v := .string s) rfl (by kernel_rfl) (by kernel_rfl) (by kernel_rfl) (fun _ _ _ h => h) (Or.inl ⟨by rfl, ?_⟩) (by assumption) ?_
                · intro w hSw; (try dsimp only at hSw); go_simp
                (try simp only [Act.put, List.setIfInBounds_toArray, List.set_cons_zero, List.set_cons_succ])
                refine wpAnyH_take (i := 1) (oi := ({ dst := some 26, op := Op.index 9 (Operand.tmp 25) (Operand.const (Value.int IntKind.i64 5)), type := 5, pos := "store.go:173", after := #[{ on := 0, ground := Ground.data }], guard := none } : Oper)) (v := .int .u8 (f5 : Int)) rfl (by kernel_rfl) (by kernel_rfl) (by kernel_rfl) (fun _ _ _ h => h) (Or.inl ⟨by rfl, ?_⟩) (by assumption) ?_
                · intro w hSw; go_simp; (try simp [H5.out])
                (try simp only [Act.put, List.setIfInBounds_toArray, List.set_cons_zero, List.set_cons_succ])
                refine wpAnyH_take (i := 2) (oi := ({ dst := some 27, op := Op.convert 5 3 (Operand.tmp 26), type := 3, pos := "store.go:173", after := #[{ on := 1, ground := Ground.data }], guard := none } : Oper)) (v := .int .i64 (f5 : Int)) rfl (by kernel_rfl) (by kernel_rfl) (by kernel_rfl) (fun _ _ _ h => h) (Or.inl ⟨by rfl, ?_⟩) (by assumption) ?_
                · intro w hSw; go_simp; (try exact wrap_id (by omega) (by omega))
                (try simp only [Act.put, List.setIfInBounds_toArray, List.set_cons_zero, List.set_cons_succ])
                refine wpAnyH_take (i := 3) (oi := ({ dst := some 28, op := Op.move (Operand.tmp 10), type := 9, pos := "store.go:173", after := #[], guard := none } : Oper)) (v := .string s) rfl (by kernel_rfl) (by kernel_rfl) (by kernel_rfl) (fun _ _ _ h => h) (Or.inl ⟨by rfl, ?_⟩) (by assumption) ?_
                · intro w hSw; (try dsimp only at hSw); go_simp
                (try simp only [Act.put, List.setIfInBounds_toArray, List.set_cons_zero, List.set_cons_succ])
                refine wpAnyH_take (i := 4) (oi := ({ dst := some 29, op := Op.index 9 (Operand.tmp 28) (Operand.const (Value.int IntKind.i64 6)), type := 5, pos := "store.go:173", after := #[{ on := 3, ground := Ground.data }], guard := none } : Oper)) (v := .int .u8 (f6 : Int)) rfl (by kernel_rfl) (by kernel_rfl) (by kernel_rfl) (fun _ _ _ h => h) (Or.inl ⟨by rfl, ?_⟩) (by assumption) ?_
                · intro w hSw; go_simp; (try simp [H6.out])
                (try simp only [Act.put, List.setIfInBounds_toArray, List.set_cons_zero, List.set_cons_succ])
                refine wpAnyH_take (i := 5) (oi := ({ dst := some 30, op := Op.convert 5 3 (Operand.tmp 29), type := 3, pos := "store.go:173", after := #[{ on := 4, ground := Ground.data }], guard := none } : Oper)) (v := .int .i64 (f6 : Int)) rfl (by kernel_rfl) (by kernel_rfl) (by kernel_rfl) (fun _ _ _ h => h) (Or.inl ⟨by rfl, ?_⟩) (by assumption) ?_
                · intro w hSw; go_simp; (try exact wrap_id (by omega) (by omega))
                (try simp only [Act.put, List.setIfInBounds_toArray, List.set_cons_zero, List.set_cons_succ])
                refine wpAnyH_take (i := 6) (oi := ({ dst := some 31, op := Op.binOp BinOp.mul 3 (Operand.const (Value.int IntKind.i64 256)) (Operand.tmp 30) 3, type := 3, pos := "store.go:173", after := #[{ on := 5, ground := Ground.data }], guard := none } : Oper)) (v := .int .i64 (256 * (f6 : Int))) rfl (by kernel_rfl) (by kernel_rfl) (by kernel_rfl) (fun _ _ _ h => h) (Or.inl ⟨by rfl, ?_⟩) (by assumption) ?_
                · intro w hSw; go_simp; (try exact wrap_id (by omega) (by omega))
                (try simp only [Act.put, List.setIfInBounds_toArray, List.set_cons_zero, List.set_cons_succ])
                refine wpAnyH_take (i := 7) (oi := ({ dst := some 32, op := Op.binOp BinOp.add 3 (Operand.tmp 27) (Operand.tmp 31) 3, type := 3, pos := "store.go:173", after := #[{ on := 2, ground := Ground.data }, { on := 6, ground := Ground.data }], guard := none } : Oper)) (v := .int .i64 ((f5 : Int) + 256 * (f6 : Int))) rfl (by kernel_rfl) (by kernel_rfl) (by kernel_rfl) (fun _ _ _ h => h) (Or.inl ⟨by rfl, ?_⟩) (by assumption) ?_
                · intro w hSw; go_simp; (try exact wrap_id (by omega) (by omega))
                (try simp only [Act.put, List.setIfInBounds_toArray, List.set_cons_zero, List.set_cons_succ])
                refine wpAnyH_take (i := 8) (oi := ({ dst := some 11, op := Op.assign (Operand.tmp 32), type := 3, pos := "store.go:173", after := #[{ on := 7, ground := Ground.data }, { on := 0, ground := Ground.phase }, { on := 1, ground := Ground.phase }, { on := 2, ground := Ground.phase }, { on := 3, ground := Ground.phase }, { on := 4, ground := Ground.phase }, { on := 5, ground := Ground.phase }, { on := 6, ground := Ground.phase }, { on := 7, ground := Ground.phase }], guard := none } : Oper)) (v := .int .i64 ((f5 : Int) + 256 * (f6 : Int))) rfl (by kernel_rfl) (by kernel_rfl) (by kernel_rfl) (fun _ _ _ h => h) (Or.inl ⟨by rfl, ?_⟩) (by assumption) ?_
                · intro w hSw; (try dsimp only at hSw); go_simp
                (try simp only [Act.put, List.setIfInBounds_toArray, List.set_cons_zero, List.set_cons_succ])
                refine wpAnyH_done (by kernel_rfl) ?_ _
                go_wp2_with fail
                refine wp_region_held_drew (S := fun w' => True) (by kernel_rfl) ?_ (fun hHeld => ?_)
                · exact trivial
                have hbd : Below wr.heap.size wr wr.drew.drew := below_drewN (below_drewN (Below.refl _ _) 1) 1
                generalize wr.drew.drew = w9 at *
                refine wpAnyH_take (i := 0) (oi := ({ dst := some 33, op := Op.move (Operand.tmp 10), type := 9, pos := "store.go:174", after := #[], guard := none } : Oper)) (v := .string s) rfl (by kernel_rfl) (by kernel_rfl) (by kernel_rfl) (fun _ _ _ h => h) (Or.inl ⟨by rfl, ?_⟩) (by assumption) ?_
                · intro w hSw; (try dsimp only at hSw); go_simp
                (try simp only [Act.put, List.setIfInBounds_toArray, List.set_cons_zero, List.set_cons_succ])
                refine wpAnyH_take (i := 1) (oi := ({ dst := some 34, op := Op.slice 9 (Operand.tmp 33) (some (Operand.const (Value.int IntKind.i64 1))) (some (Operand.const (Value.int IntKind.i64 5))) none, type := 9, pos := "store.go:174", after := #[{ on := 0, ground := Ground.data }], guard := none } : Oper)) (v := .string sx) rfl (by kernel_rfl) (by kernel_rfl) (by kernel_rfl) (fun _ _ _ h => h) (Or.inl ⟨by rfl, ?_⟩) (by assumption) ?_
                · intro w hSw; go_simp; (try simp [hsx]); (try omega)
                (try simp only [Act.put, List.setIfInBounds_toArray, List.set_cons_zero, List.set_cons_succ])
                refine wpAnyH_take (i := 2) (oi := ({ dst := some 35, op := Op.move (Operand.tmp 1), type := 3, pos := "store.go:174", after := #[], guard := none } : Oper)) (v := .int .i64 (first : Int)) rfl (by kernel_rfl) (by kernel_rfl) (by kernel_rfl) (fun _ _ _ h => h) (Or.inl ⟨by rfl, ?_⟩) (by assumption) ?_
                · intro w hSw; (try dsimp only at hSw); go_simp
                (try simp only [Act.put, List.setIfInBounds_toArray, List.set_cons_zero, List.set_cons_succ])
                refine wpAnyH_take (i := 3) (oi := ({ dst := some 36, op := Op.move (Operand.tmp 9), type := 3, pos := "store.go:174", after := #[], guard := none } : Oper)) (v := .int .i64 (k : Int)) rfl (by kernel_rfl) (by kernel_rfl) (by kernel_rfl) (fun _ _ _ h => h) (Or.inl ⟨by rfl, ?_⟩) (by assumption) ?_
                · intro w hSw; (try dsimp only at hSw); go_simp
                (try simp only [Act.put, List.setIfInBounds_toArray, List.set_cons_zero, List.set_cons_succ])
                refine wpAnyH_take (i := 4) (oi := ({ dst := some 37, op := Op.binOp BinOp.add 3 (Operand.tmp 35) (Operand.tmp 36) 3, type := 3, pos := "store.go:174", after := #[{ on := 2, ground := Ground.data }, { on := 3, ground := Ground.data }], guard := none } : Oper)) (v := .int .i64 ((first : Int) + (k : Int))) rfl (by kernel_rfl) (by kernel_rfl) (by kernel_rfl) (fun _ _ _ h => h) (Or.inl ⟨by rfl, ?_⟩) (by assumption) ?_
                · intro w hSw; (try dsimp only at hSw); go_simp; exact wrap_id (by omega) (by omega)
                (try simp only [Act.put, List.setIfInBounds_toArray, List.set_cons_zero, List.set_cons_succ])
                refine wpAnyH_ready (rs := [5]) (by kernel_rfl) (by simp) ?_
                refine AllReadyH.cons (o := ({ dst := some 38, op := Op.call { callee := Callee.value (Operand.func 52), args := #[Operand.tmp 37], argTypes := #[3] }, type := 9, pos := "store.go:174", after := #[{ on := 4, ground := Ground.data }], guard := none } : Oper)) rfl (fun K hK => ?_) AllReadyH.nil
                rw [if_pos (by rfl)]
                have hcon := hfo w9
                go_wp2_with fail
                refine hcon.mono ?_
                rintro e w1 ⟨rfl, hb1⟩
                clear hcon
                go_wp2_with fail
                refine hK.out _ _ ?_ (fun hHeld => ?_)
                · exact trivial
                clear hK K
                (try simp only [Act.put, List.setIfInBounds_toArray, List.set_cons_zero, List.set_cons_succ])
                refine wpAnyH_take (i := 6) (oi := ({ dst := some 39, op := Op.binOp BinOp.neq 9 (Operand.tmp 34) (Operand.tmp 38) 9, type := 4, pos := "store.go:174", after := #[{ on := 1, ground := Ground.data }, { on := 5, ground := Ground.data }], guard := none } : Oper)) (v := .bool false) rfl (by kernel_rfl) (by kernel_rfl) (by kernel_rfl) (fun _ _ _ h => h) (Or.inl ⟨by rfl, ?_⟩) (by assumption) ?_
                · intro w hSw; go_simp; (try simp [*]); (try omega)
                (try simp only [Act.put, List.setIfInBounds_toArray, List.set_cons_zero, List.set_cons_succ])
                refine wpAnyH_take (i := 7) (oi := ({ dst := some 40, op := Op.move (Operand.tmp 39), type := 4, pos := "store.go:174", after := #[{ on := 6, ground := Ground.data }, { on := 5, ground := Ground.chain }], guard := none } : Oper)) (v := .bool false) rfl (by kernel_rfl) (by kernel_rfl) (by kernel_rfl) (fun _ _ _ h => h) (Or.inl ⟨by rfl, ?_⟩) (by assumption) ?_
                · intro w hSw; (try dsimp only at hSw); go_simp
                (try simp only [Act.put, List.setIfInBounds_toArray, List.set_cons_zero, List.set_cons_succ])
                refine wpAnyH_take (i := 8) (oi := ({ dst := some 41, op := Op.move (Operand.tmp 11), type := 3, pos := "store.go:174", after := #[{ on := 7, ground := Ground.guard }], guard := some (7, false) } : Oper)) (v := .int .i64 ((f5 : Int) + 256 * (f6 : Int))) rfl (by kernel_rfl) (by kernel_rfl) (by kernel_rfl) (fun _ _ _ h => h) (Or.inl ⟨by rfl, ?_⟩) (by assumption) ?_
                · intro w hSw; (try dsimp only at hSw); go_simp
                (try simp only [Act.put, List.setIfInBounds_toArray, List.set_cons_zero, List.set_cons_succ])
                refine wpAnyH_take (i := 9) (oi := ({ dst := some 42, op := Op.binOp BinOp.gtr 3 (Operand.tmp 41) (Operand.const (Value.int IntKind.i64 41)) 3, type := 4, pos := "store.go:174", after := #[{ on := 8, ground := Ground.data }, { on := 7, ground := Ground.guard }], guard := some (7, false) } : Oper)) (v := .bool false) rfl (by kernel_rfl) (by kernel_rfl) (by kernel_rfl) (fun _ _ _ h => h) (Or.inl ⟨by rfl, ?_⟩) (by assumption) ?_
                · intro w hSw; go_simp; (try simp [*]); (try omega)
                (try simp only [Act.put, List.setIfInBounds_toArray, List.set_cons_zero, List.set_cons_succ])
                refine wpAnyH_take (i := 10) (oi := ({ dst := some 43, op := Op.pick (Operand.tmp 40) (Operand.const (Value.bool true)) (Operand.tmp 42), type := 4, pos := "store.go:174", after := #[{ on := 7, ground := Ground.data }, { on := 9, ground := Ground.data }], guard := none } : Oper)) (v := .bool false) rfl (by kernel_rfl) (by kernel_rfl) (by kernel_rfl) (fun _ _ _ h => h) (Or.inl ⟨by rfl, ?_⟩) (by assumption) ?_
                · intro w hSw; (try dsimp only at hSw); go_simp
                (try simp only [Act.put, List.setIfInBounds_toArray, List.set_cons_zero, List.set_cons_succ])
                refine wpAnyH_done (by kernel_rfl) ?_ _
                have hIb := hI.below (Below_after hbd hb1)
                clear hI hbd hb1
                have hco := hco w1
                generalize htx : s.extract 7 (7 + (f5 + 256 * f6)) = tx at *
                go_wp2_with fail
                refine hco.mono ?_
                rintro e w3 ⟨rfl, hb3⟩
                clear hco
                have hI4 := (hIb.below hb3).below ((Below.refl _ _).alloc (Nat.le_refl _) (.cells #[.string ch0.key, .string ch0.val, .bool ch0.gone] 56))
                obtain ⟨a', c', hvd, hdd'⟩ := hI4.fin
                subst hvd
                go_wp2_with fail
                go_ret2
                exact ⟨a', c', by rw [HE.out]; rfl, by rw [HE.out]; exact hdd', hI4.bl⟩
              | some cc =>
                have hRe : R = rdLog first ((l.map (·.data.toList)).drop (k + 1)) (k + 1) ⟨st.deeds, st.opn ++ [cc], st.used⟩ := by
                  have := HR.out
                  rwa [rd_some hdr (by unfold lstep; rw [HP.out (.inl h111)]; dsimp only; rw [if_pos h111', hC])] at this
                have HRe : Hid (_ = _) := hRe
                have e1 : prR (s.extract 7 (7 + (f5 + 256 * f6))) = cc := by unfold prR; rw [hC]; rfl
                have e2 : prC (s.extract 7 (7 + (f5 + 256 * f6))) = 0 := by unfold prC; rw [hC]; rfl
                have hcs : cc.key.size ≤ maxLen ∧ cc.val.size ≤ maxLen := by
                  have : chkC cc = 0 := by
                    unfold chP at hC
                    split at hC
                    · rename_i hh; have := Option.some.inj hC; rw [← this]; exact hh.2
                    · cases hC
                  have := chk_zero this
                  simp [maxLen]; omega
                rw [e1, e2] at hco
                clear e1 e2 HR hdr HP HNO hC hcf hRe h99 h111 h111'
                go_wp2_with fail
                refine wp_region_held_drew (S := fun w' => True) (by kernel_rfl) ?_ (fun hHeld => ?_)
                · exact trivial
                refine wpAnyH_take (i := 0) (oi := ({ dst := some 25, op := Op.move (Operand.tmp 10), type := 9, pos := "store.go:173", after := #[], guard := none } : Oper)) (v := .string s) rfl (by kernel_rfl) (by kernel_rfl) (by kernel_rfl) (fun _ _ _ h => h) (Or.inl ⟨by rfl, ?_⟩) (by assumption) ?_
                · intro w hSw; (try dsimp only at hSw); go_simp
                (try simp only [Act.put, List.setIfInBounds_toArray, List.set_cons_zero, List.set_cons_succ])
                refine wpAnyH_take (i := 1) (oi := ({ dst := some 26, op := Op.index 9 (Operand.tmp 25) (Operand.const (Value.int IntKind.i64 5)), type := 5, pos := "store.go:173", after := #[{ on := 0, ground := Ground.data }], guard := none } : Oper)) (v := .int .u8 (f5 : Int)) rfl (by kernel_rfl) (by kernel_rfl) (by kernel_rfl) (fun _ _ _ h => h) (Or.inl ⟨by rfl, ?_⟩) (by assumption) ?_
                · intro w hSw; go_simp; (try simp [H5.out])
                (try simp only [Act.put, List.setIfInBounds_toArray, List.set_cons_zero, List.set_cons_succ])
                refine wpAnyH_take (i := 2) (oi := ({ dst := some 27, op := Op.convert 5 3 (Operand.tmp 26), type := 3, pos := "store.go:173", after := #[{ on := 1, ground := Ground.data }], guard := none } : Oper)) (v := .int .i64 (f5 : Int)) rfl (by kernel_rfl) (by kernel_rfl) (by kernel_rfl) (fun _ _ _ h => h) (Or.inl ⟨by rfl, ?_⟩) (by assumption) ?_
                · intro w hSw; go_simp; (try exact wrap_id (by omega) (by omega))
                (try simp only [Act.put, List.setIfInBounds_toArray, List.set_cons_zero, List.set_cons_succ])
                refine wpAnyH_take (i := 3) (oi := ({ dst := some 28, op := Op.move (Operand.tmp 10), type := 9, pos := "store.go:173", after := #[], guard := none } : Oper)) (v := .string s) rfl (by kernel_rfl) (by kernel_rfl) (by kernel_rfl) (fun _ _ _ h => h) (Or.inl ⟨by rfl, ?_⟩) (by assumption) ?_
                · intro w hSw; (try dsimp only at hSw); go_simp
                (try simp only [Act.put, List.setIfInBounds_toArray, List.set_cons_zero, List.set_cons_succ])
                refine wpAnyH_take (i := 4) (oi := ({ dst := some 29, op := Op.index 9 (Operand.tmp 28) (Operand.const (Value.int IntKind.i64 6)), type := 5, pos := "store.go:173", after := #[{ on := 3, ground := Ground.data }], guard := none } : Oper)) (v := .int .u8 (f6 : Int)) rfl (by kernel_rfl) (by kernel_rfl) (by kernel_rfl) (fun _ _ _ h => h) (Or.inl ⟨by rfl, ?_⟩) (by assumption) ?_
                · intro w hSw; go_simp; (try simp [H6.out])
                (try simp only [Act.put, List.setIfInBounds_toArray, List.set_cons_zero, List.set_cons_succ])
                refine wpAnyH_take (i := 5) (oi := ({ dst := some 30, op := Op.convert 5 3 (Operand.tmp 29), type := 3, pos := "store.go:173", after := #[{ on := 4, ground := Ground.data }], guard := none } : Oper)) (v := .int .i64 (f6 : Int)) rfl (by kernel_rfl) (by kernel_rfl) (by kernel_rfl) (fun _ _ _ h => h) (Or.inl ⟨by rfl, ?_⟩) (by assumption) ?_
                · intro w hSw; go_simp; (try exact wrap_id (by omega) (by omega))
                (try simp only [Act.put, List.setIfInBounds_toArray, List.set_cons_zero, List.set_cons_succ])
                refine wpAnyH_take (i := 6) (oi := ({ dst := some 31, op := Op.binOp BinOp.mul 3 (Operand.const (Value.int IntKind.i64 256)) (Operand.tmp 30) 3, type := 3, pos := "store.go:173", after := #[{ on := 5, ground := Ground.data }], guard := none } : Oper)) (v := .int .i64 (256 * (f6 : Int))) rfl (by kernel_rfl) (by kernel_rfl) (by kernel_rfl) (fun _ _ _ h => h) (Or.inl ⟨by rfl, ?_⟩) (by assumption) ?_
                · intro w hSw; go_simp; (try exact wrap_id (by omega) (by omega))
                (try simp only [Act.put, List.setIfInBounds_toArray, List.set_cons_zero, List.set_cons_succ])
                refine wpAnyH_take (i := 7) (oi := ({ dst := some 32, op := Op.binOp BinOp.add 3 (Operand.tmp 27) (Operand.tmp 31) 3, type := 3, pos := "store.go:173", after := #[{ on := 2, ground := Ground.data }, { on := 6, ground := Ground.data }], guard := none } : Oper)) (v := .int .i64 ((f5 : Int) + 256 * (f6 : Int))) rfl (by kernel_rfl) (by kernel_rfl) (by kernel_rfl) (fun _ _ _ h => h) (Or.inl ⟨by rfl, ?_⟩) (by assumption) ?_
                · intro w hSw; go_simp; (try exact wrap_id (by omega) (by omega))
                (try simp only [Act.put, List.setIfInBounds_toArray, List.set_cons_zero, List.set_cons_succ])
                refine wpAnyH_take (i := 8) (oi := ({ dst := some 11, op := Op.assign (Operand.tmp 32), type := 3, pos := "store.go:173", after := #[{ on := 7, ground := Ground.data }, { on := 0, ground := Ground.phase }, { on := 1, ground := Ground.phase }, { on := 2, ground := Ground.phase }, { on := 3, ground := Ground.phase }, { on := 4, ground := Ground.phase }, { on := 5, ground := Ground.phase }, { on := 6, ground := Ground.phase }, { on := 7, ground := Ground.phase }], guard := none } : Oper)) (v := .int .i64 ((f5 : Int) + 256 * (f6 : Int))) rfl (by kernel_rfl) (by kernel_rfl) (by kernel_rfl) (fun _ _ _ h => h) (Or.inl ⟨by rfl, ?_⟩) (by assumption) ?_
                · intro w hSw; (try dsimp only at hSw); go_simp
                (try simp only [Act.put, List.setIfInBounds_toArray, List.set_cons_zero, List.set_cons_succ])
                refine wpAnyH_done (by kernel_rfl) ?_ _
                go_wp2_with fail
                refine wp_region_held_drew (S := fun w' => True) (by kernel_rfl) ?_ (fun hHeld => ?_)
                · exact trivial
                have hbd : Below wr.heap.size wr wr.drew.drew := below_drewN (below_drewN (Below.refl _ _) 1) 1
                generalize wr.drew.drew = w9 at *
                refine wpAnyH_take (i := 0) (oi := ({ dst := some 33, op := Op.move (Operand.tmp 10), type := 9, pos := "store.go:174", after := #[], guard := none } : Oper)) (v := .string s) rfl (by kernel_rfl) (by kernel_rfl) (by kernel_rfl) (fun _ _ _ h => h) (Or.inl ⟨by rfl, ?_⟩) (by assumption) ?_
                · intro w hSw; (try dsimp only at hSw); go_simp
                (try simp only [Act.put, List.setIfInBounds_toArray, List.set_cons_zero, List.set_cons_succ])
                refine wpAnyH_take (i := 1) (oi := ({ dst := some 34, op := Op.slice 9 (Operand.tmp 33) (some (Operand.const (Value.int IntKind.i64 1))) (some (Operand.const (Value.int IntKind.i64 5))) none, type := 9, pos := "store.go:174", after := #[{ on := 0, ground := Ground.data }], guard := none } : Oper)) (v := .string sx) rfl (by kernel_rfl) (by kernel_rfl) (by kernel_rfl) (fun _ _ _ h => h) (Or.inl ⟨by rfl, ?_⟩) (by assumption) ?_
                · intro w hSw; go_simp; (try simp [hsx]); (try omega)
                (try simp only [Act.put, List.setIfInBounds_toArray, List.set_cons_zero, List.set_cons_succ])
                refine wpAnyH_take (i := 2) (oi := ({ dst := some 35, op := Op.move (Operand.tmp 1), type := 3, pos := "store.go:174", after := #[], guard := none } : Oper)) (v := .int .i64 (first : Int)) rfl (by kernel_rfl) (by kernel_rfl) (by kernel_rfl) (fun _ _ _ h => h) (Or.inl ⟨by rfl, ?_⟩) (by assumption) ?_
                · intro w hSw; (try dsimp only at hSw); go_simp
                (try simp only [Act.put, List.setIfInBounds_toArray, List.set_cons_zero, List.set_cons_succ])
                refine wpAnyH_take (i := 3) (oi := ({ dst := some 36, op := Op.move (Operand.tmp 9), type := 3, pos := "store.go:174", after := #[], guard := none } : Oper)) (v := .int .i64 (k : Int)) rfl (by kernel_rfl) (by kernel_rfl) (by kernel_rfl) (fun _ _ _ h => h) (Or.inl ⟨by rfl, ?_⟩) (by assumption) ?_
                · intro w hSw; (try dsimp only at hSw); go_simp
                (try simp only [Act.put, List.setIfInBounds_toArray, List.set_cons_zero, List.set_cons_succ])
                refine wpAnyH_take (i := 4) (oi := ({ dst := some 37, op := Op.binOp BinOp.add 3 (Operand.tmp 35) (Operand.tmp 36) 3, type := 3, pos := "store.go:174", after := #[{ on := 2, ground := Ground.data }, { on := 3, ground := Ground.data }], guard := none } : Oper)) (v := .int .i64 ((first : Int) + (k : Int))) rfl (by kernel_rfl) (by kernel_rfl) (by kernel_rfl) (fun _ _ _ h => h) (Or.inl ⟨by rfl, ?_⟩) (by assumption) ?_
                · intro w hSw; (try dsimp only at hSw); go_simp; exact wrap_id (by omega) (by omega)
                (try simp only [Act.put, List.setIfInBounds_toArray, List.set_cons_zero, List.set_cons_succ])
                refine wpAnyH_ready (rs := [5]) (by kernel_rfl) (by simp) ?_
                refine AllReadyH.cons (o := ({ dst := some 38, op := Op.call { callee := Callee.value (Operand.func 52), args := #[Operand.tmp 37], argTypes := #[3] }, type := 9, pos := "store.go:174", after := #[{ on := 4, ground := Ground.data }], guard := none } : Oper)) rfl (fun K hK => ?_) AllReadyH.nil
                rw [if_pos (by rfl)]
                have hcon := hfo w9
                go_wp2_with fail
                refine hcon.mono ?_
                rintro e w1 ⟨rfl, hb1⟩
                clear hcon
                go_wp2_with fail
                refine hK.out _ _ ?_ (fun hHeld => ?_)
                · exact trivial
                clear hK K
                (try simp only [Act.put, List.setIfInBounds_toArray, List.set_cons_zero, List.set_cons_succ])
                refine wpAnyH_take (i := 6) (oi := ({ dst := some 39, op := Op.binOp BinOp.neq 9 (Operand.tmp 34) (Operand.tmp 38) 9, type := 4, pos := "store.go:174", after := #[{ on := 1, ground := Ground.data }, { on := 5, ground := Ground.data }], guard := none } : Oper)) (v := .bool false) rfl (by kernel_rfl) (by kernel_rfl) (by kernel_rfl) (fun _ _ _ h => h) (Or.inl ⟨by rfl, ?_⟩) (by assumption) ?_
                · intro w hSw; go_simp; (try simp [*]); (try omega)
                (try simp only [Act.put, List.setIfInBounds_toArray, List.set_cons_zero, List.set_cons_succ])
                refine wpAnyH_take (i := 7) (oi := ({ dst := some 40, op := Op.move (Operand.tmp 39), type := 4, pos := "store.go:174", after := #[{ on := 6, ground := Ground.data }, { on := 5, ground := Ground.chain }], guard := none } : Oper)) (v := .bool false) rfl (by kernel_rfl) (by kernel_rfl) (by kernel_rfl) (fun _ _ _ h => h) (Or.inl ⟨by rfl, ?_⟩) (by assumption) ?_
                · intro w hSw; (try dsimp only at hSw); go_simp
                (try simp only [Act.put, List.setIfInBounds_toArray, List.set_cons_zero, List.set_cons_succ])
                refine wpAnyH_take (i := 8) (oi := ({ dst := some 41, op := Op.move (Operand.tmp 11), type := 3, pos := "store.go:174", after := #[{ on := 7, ground := Ground.guard }], guard := some (7, false) } : Oper)) (v := .int .i64 ((f5 : Int) + 256 * (f6 : Int))) rfl (by kernel_rfl) (by kernel_rfl) (by kernel_rfl) (fun _ _ _ h => h) (Or.inl ⟨by rfl, ?_⟩) (by assumption) ?_
                · intro w hSw; (try dsimp only at hSw); go_simp
                (try simp only [Act.put, List.setIfInBounds_toArray, List.set_cons_zero, List.set_cons_succ])
                refine wpAnyH_take (i := 9) (oi := ({ dst := some 42, op := Op.binOp BinOp.gtr 3 (Operand.tmp 41) (Operand.const (Value.int IntKind.i64 41)) 3, type := 4, pos := "store.go:174", after := #[{ on := 8, ground := Ground.data }, { on := 7, ground := Ground.guard }], guard := some (7, false) } : Oper)) (v := .bool false) rfl (by kernel_rfl) (by kernel_rfl) (by kernel_rfl) (fun _ _ _ h => h) (Or.inl ⟨by rfl, ?_⟩) (by assumption) ?_
                · intro w hSw; go_simp; (try simp [*]); (try omega)
                (try simp only [Act.put, List.setIfInBounds_toArray, List.set_cons_zero, List.set_cons_succ])
                refine wpAnyH_take (i := 10) (oi := ({ dst := some 43, op := Op.pick (Operand.tmp 40) (Operand.const (Value.bool true)) (Operand.tmp 42), type := 4, pos := "store.go:174", after := #[{ on := 7, ground := Ground.data }, { on := 9, ground := Ground.data }], guard := none } : Oper)) (v := .bool false) rfl (by kernel_rfl) (by kernel_rfl) (by kernel_rfl) (fun _ _ _ h => h) (Or.inl ⟨by rfl, ?_⟩) (by assumption) ?_
                · intro w hSw; (try dsimp only at hSw); go_simp
                (try simp only [Act.put, List.setIfInBounds_toArray, List.set_cons_zero, List.set_cons_succ])
                refine wpAnyH_done (by kernel_rfl) ?_ _
                have hIb := hI.below (Below_after hbd hb1)
                clear hI hbd hb1
                have hco := hco w1
                generalize htx : s.extract 7 (7 + (f5 + 256 * f6)) = tx at *
                go_wp2_with fail
                refine hco.mono ?_
                rintro e w3 ⟨rfl, hb3⟩
                clear hco
                have hI4 := ((hIb.below hb3).below ((Below.refl _ _).alloc (Nat.le_refl _) (.cells #[.string cc.key, .string cc.val, .bool cc.gone] 56))).below ((Below.refl _ _).alloc (Nat.le_refl _) (.cells #[.string cc.key, .string cc.val, .bool cc.gone] 56))
                have hg4 : ((w3.alloc (.cells #[.string cc.key, .string cc.val, .bool cc.gone] 56)).alloc (.cells #[.string cc.key, .string cc.val, .bool cc.gone] 56)).heap[w3.heap.size + 1]? = some (.cells (chC cc).toArray 56 (0, 0)) := by
                  have := heap_alloc_last (w3.alloc (.cells #[.string cc.key, .string cc.val, .bool cc.gone] 56)) (.cells #[.string cc.key, .string cc.val, .bool cc.gone] 56)
                  rw [sz_alloc] at this
                  exact this
                obtain ⟨vo', w5, r1, r2, r3, r5⟩ := run_app 38 56 38 Try.underlying38 infoCh rfl (by decide) (by decide) hI4.oo (by omega) hI4.bl.size (news := chC cc) rfl (chC_one cc) (w3.heap.size + 1) hg4
                have hI5 := hI4.opened hcs r2 r3 r5
                clear hIb hg4 r2 r3 r5
                go_wp2_with (refine wpList_run (by rfl) (exec_append _ _ _ _ (by rfl) (by rfl) (by rfl) (by rfl) (by rfl) (by rfl) r1) ?_)
                go_roundw
                case rel => exact ⟨k + 1, ⟨st.deeds, st.opn ++ [cc], st.used⟩, cd, by omega, by go_num, rfl, HRe, by simp; omega, by dsimp only; omega, hI5⟩
                case measure => simp [intOf]; omega
            · have HE : Hid (R = st) := by
                show _ = _
                have := HR.out
                rwa [rd_none hdr (by unfold lstep; rw [HNO.out (by omega)])] at this
              have d111 : ((s[0].toNat : Int) == 111) = false := by simp; omega
              clear HR hdr HP HNO hco hcf
              go_wp2_with fail
              refine wp_region_held_drew (S := fun w' => True) (by kernel_rfl) ?_ (fun hHeld => ?_)
              · exact trivial
              refine wpAnyH_take (i := 0) (oi := ({ dst := some 25, op := Op.move (Operand.tmp 10), type := 9, pos := "store.go:173", after := #[], guard := none } : Oper)) (v := .string s) rfl (by kernel_rfl) (by kernel_rfl) (by kernel_rfl) (fun _ _ _ h => h) (Or.inl ⟨by rfl, ?_⟩) (by assumption) ?_
              · intro w hSw; (try dsimp only at hSw); go_simp
              (try simp only [Act.put, List.setIfInBounds_toArray, List.set_cons_zero, List.set_cons_succ])
              refine wpAnyH_take (i := 1) (oi := ({ dst := some 26, op := Op.index 9 (Operand.tmp 25) (Operand.const (Value.int IntKind.i64 5)), type := 5, pos := "store.go:173", after := #[{ on := 0, ground := Ground.data }], guard := none } : Oper)) (v := .int .u8 (f5 : Int)) rfl (by kernel_rfl) (by kernel_rfl) (by kernel_rfl) (fun _ _ _ h => h) (Or.inl ⟨by rfl, ?_⟩) (by assumption) ?_
              · intro w hSw; go_simp; (try simp [H5.out])
              (try simp only [Act.put, List.setIfInBounds_toArray, List.set_cons_zero, List.set_cons_succ])
              refine wpAnyH_take (i := 2) (oi := ({ dst := some 27, op := Op.convert 5 3 (Operand.tmp 26), type := 3, pos := "store.go:173", after := #[{ on := 1, ground := Ground.data }], guard := none } : Oper)) (v := .int .i64 (f5 : Int)) rfl (by kernel_rfl) (by kernel_rfl) (by kernel_rfl) (fun _ _ _ h => h) (Or.inl ⟨by rfl, ?_⟩) (by assumption) ?_
              · intro w hSw; go_simp; (try exact wrap_id (by omega) (by omega))
              (try simp only [Act.put, List.setIfInBounds_toArray, List.set_cons_zero, List.set_cons_succ])
              refine wpAnyH_take (i := 3) (oi := ({ dst := some 28, op := Op.move (Operand.tmp 10), type := 9, pos := "store.go:173", after := #[], guard := none } : Oper)) (v := .string s) rfl (by kernel_rfl) (by kernel_rfl) (by kernel_rfl) (fun _ _ _ h => h) (Or.inl ⟨by rfl, ?_⟩) (by assumption) ?_
              · intro w hSw; (try dsimp only at hSw); go_simp
              (try simp only [Act.put, List.setIfInBounds_toArray, List.set_cons_zero, List.set_cons_succ])
              refine wpAnyH_take (i := 4) (oi := ({ dst := some 29, op := Op.index 9 (Operand.tmp 28) (Operand.const (Value.int IntKind.i64 6)), type := 5, pos := "store.go:173", after := #[{ on := 3, ground := Ground.data }], guard := none } : Oper)) (v := .int .u8 (f6 : Int)) rfl (by kernel_rfl) (by kernel_rfl) (by kernel_rfl) (fun _ _ _ h => h) (Or.inl ⟨by rfl, ?_⟩) (by assumption) ?_
              · intro w hSw; go_simp; (try simp [H6.out])
              (try simp only [Act.put, List.setIfInBounds_toArray, List.set_cons_zero, List.set_cons_succ])
              refine wpAnyH_take (i := 5) (oi := ({ dst := some 30, op := Op.convert 5 3 (Operand.tmp 29), type := 3, pos := "store.go:173", after := #[{ on := 4, ground := Ground.data }], guard := none } : Oper)) (v := .int .i64 (f6 : Int)) rfl (by kernel_rfl) (by kernel_rfl) (by kernel_rfl) (fun _ _ _ h => h) (Or.inl ⟨by rfl, ?_⟩) (by assumption) ?_
              · intro w hSw; go_simp; (try exact wrap_id (by omega) (by omega))
              (try simp only [Act.put, List.setIfInBounds_toArray, List.set_cons_zero, List.set_cons_succ])
              refine wpAnyH_take (i := 6) (oi := ({ dst := some 31, op := Op.binOp BinOp.mul 3 (Operand.const (Value.int IntKind.i64 256)) (Operand.tmp 30) 3, type := 3, pos := "store.go:173", after := #[{ on := 5, ground := Ground.data }], guard := none } : Oper)) (v := .int .i64 (256 * (f6 : Int))) rfl (by kernel_rfl) (by kernel_rfl) (by kernel_rfl) (fun _ _ _ h => h) (Or.inl ⟨by rfl, ?_⟩) (by assumption) ?_
              · intro w hSw; go_simp; (try exact wrap_id (by omega) (by omega))
              (try simp only [Act.put, List.setIfInBounds_toArray, List.set_cons_zero, List.set_cons_succ])
              refine wpAnyH_take (i := 7) (oi := ({ dst := some 32, op := Op.binOp BinOp.add 3 (Operand.tmp 27) (Operand.tmp 31) 3, type := 3, pos := "store.go:173", after := #[{ on := 2, ground := Ground.data }, { on := 6, ground := Ground.data }], guard := none } : Oper)) (v := .int .i64 ((f5 : Int) + 256 * (f6 : Int))) rfl (by kernel_rfl) (by kernel_rfl) (by kernel_rfl) (fun _ _ _ h => h) (Or.inl ⟨by rfl, ?_⟩) (by assumption) ?_
              · intro w hSw; go_simp; (try exact wrap_id (by omega) (by omega))
              (try simp only [Act.put, List.setIfInBounds_toArray, List.set_cons_zero, List.set_cons_succ])
              refine wpAnyH_take (i := 8) (oi := ({ dst := some 11, op := Op.assign (Operand.tmp 32), type := 3, pos := "store.go:173", after := #[{ on := 7, ground := Ground.data }, { on := 0, ground := Ground.phase }, { on := 1, ground := Ground.phase }, { on := 2, ground := Ground.phase }, { on := 3, ground := Ground.phase }, { on := 4, ground := Ground.phase }, { on := 5, ground := Ground.phase }, { on := 6, ground := Ground.phase }, { on := 7, ground := Ground.phase }], guard := none } : Oper)) (v := .int .i64 ((f5 : Int) + 256 * (f6 : Int))) rfl (by kernel_rfl) (by kernel_rfl) (by kernel_rfl) (fun _ _ _ h => h) (Or.inl ⟨by rfl, ?_⟩) (by assumption) ?_
              · intro w hSw; (try dsimp only at hSw); go_simp
              (try simp only [Act.put, List.setIfInBounds_toArray, List.set_cons_zero, List.set_cons_succ])
              refine wpAnyH_done (by kernel_rfl) ?_ _
              go_wp2_with fail
              refine wp_region_held_drew (S := fun w' => True) (by kernel_rfl) ?_ (fun hHeld => ?_)
              · exact trivial
              have hbd : Below wr.heap.size wr wr.drew.drew := below_drewN (below_drewN (Below.refl _ _) 1) 1
              generalize wr.drew.drew = w9 at *
              refine wpAnyH_take (i := 0) (oi := ({ dst := some 33, op := Op.move (Operand.tmp 10), type := 9, pos := "store.go:174", after := #[], guard := none } : Oper)) (v := .string s) rfl (by kernel_rfl) (by kernel_rfl) (by kernel_rfl) (fun _ _ _ h => h) (Or.inl ⟨by rfl, ?_⟩) (by assumption) ?_
              · intro w hSw; (try dsimp only at hSw); go_simp
              (try simp only [Act.put, List.setIfInBounds_toArray, List.set_cons_zero, List.set_cons_succ])
              refine wpAnyH_take (i := 1) (oi := ({ dst := some 34, op := Op.slice 9 (Operand.tmp 33) (some (Operand.const (Value.int IntKind.i64 1))) (some (Operand.const (Value.int IntKind.i64 5))) none, type := 9, pos := "store.go:174", after := #[{ on := 0, ground := Ground.data }], guard := none } : Oper)) (v := .string sx) rfl (by kernel_rfl) (by kernel_rfl) (by kernel_rfl) (fun _ _ _ h => h) (Or.inl ⟨by rfl, ?_⟩) (by assumption) ?_
              · intro w hSw; go_simp; (try simp [hsx]); (try omega)
              (try simp only [Act.put, List.setIfInBounds_toArray, List.set_cons_zero, List.set_cons_succ])
              refine wpAnyH_take (i := 2) (oi := ({ dst := some 35, op := Op.move (Operand.tmp 1), type := 3, pos := "store.go:174", after := #[], guard := none } : Oper)) (v := .int .i64 (first : Int)) rfl (by kernel_rfl) (by kernel_rfl) (by kernel_rfl) (fun _ _ _ h => h) (Or.inl ⟨by rfl, ?_⟩) (by assumption) ?_
              · intro w hSw; (try dsimp only at hSw); go_simp
              (try simp only [Act.put, List.setIfInBounds_toArray, List.set_cons_zero, List.set_cons_succ])
              refine wpAnyH_take (i := 3) (oi := ({ dst := some 36, op := Op.move (Operand.tmp 9), type := 3, pos := "store.go:174", after := #[], guard := none } : Oper)) (v := .int .i64 (k : Int)) rfl (by kernel_rfl) (by kernel_rfl) (by kernel_rfl) (fun _ _ _ h => h) (Or.inl ⟨by rfl, ?_⟩) (by assumption) ?_
              · intro w hSw; (try dsimp only at hSw); go_simp
              (try simp only [Act.put, List.setIfInBounds_toArray, List.set_cons_zero, List.set_cons_succ])
              refine wpAnyH_take (i := 4) (oi := ({ dst := some 37, op := Op.binOp BinOp.add 3 (Operand.tmp 35) (Operand.tmp 36) 3, type := 3, pos := "store.go:174", after := #[{ on := 2, ground := Ground.data }, { on := 3, ground := Ground.data }], guard := none } : Oper)) (v := .int .i64 ((first : Int) + (k : Int))) rfl (by kernel_rfl) (by kernel_rfl) (by kernel_rfl) (fun _ _ _ h => h) (Or.inl ⟨by rfl, ?_⟩) (by assumption) ?_
              · intro w hSw; (try dsimp only at hSw); go_simp; exact wrap_id (by omega) (by omega)
              (try simp only [Act.put, List.setIfInBounds_toArray, List.set_cons_zero, List.set_cons_succ])
              refine wpAnyH_ready (rs := [5]) (by kernel_rfl) (by simp) ?_
              refine AllReadyH.cons (o := ({ dst := some 38, op := Op.call { callee := Callee.value (Operand.func 52), args := #[Operand.tmp 37], argTypes := #[3] }, type := 9, pos := "store.go:174", after := #[{ on := 4, ground := Ground.data }], guard := none } : Oper)) rfl (fun K hK => ?_) AllReadyH.nil
              rw [if_pos (by rfl)]
              have hcon := hfo w9
              go_wp2_with fail
              refine hcon.mono ?_
              rintro e w1 ⟨rfl, hb1⟩
              clear hcon
              go_wp2_with fail
              refine hK.out _ _ ?_ (fun hHeld => ?_)
              · exact trivial
              clear hK K
              (try simp only [Act.put, List.setIfInBounds_toArray, List.set_cons_zero, List.set_cons_succ])
              refine wpAnyH_take (i := 6) (oi := ({ dst := some 39, op := Op.binOp BinOp.neq 9 (Operand.tmp 34) (Operand.tmp 38) 9, type := 4, pos := "store.go:174", after := #[{ on := 1, ground := Ground.data }, { on := 5, ground := Ground.data }], guard := none } : Oper)) (v := .bool false) rfl (by kernel_rfl) (by kernel_rfl) (by kernel_rfl) (fun _ _ _ h => h) (Or.inl ⟨by rfl, ?_⟩) (by assumption) ?_
              · intro w hSw; go_simp; (try simp [*]); (try omega)
              (try simp only [Act.put, List.setIfInBounds_toArray, List.set_cons_zero, List.set_cons_succ])
              refine wpAnyH_take (i := 7) (oi := ({ dst := some 40, op := Op.move (Operand.tmp 39), type := 4, pos := "store.go:174", after := #[{ on := 6, ground := Ground.data }, { on := 5, ground := Ground.chain }], guard := none } : Oper)) (v := .bool false) rfl (by kernel_rfl) (by kernel_rfl) (by kernel_rfl) (fun _ _ _ h => h) (Or.inl ⟨by rfl, ?_⟩) (by assumption) ?_
              · intro w hSw; (try dsimp only at hSw); go_simp
              (try simp only [Act.put, List.setIfInBounds_toArray, List.set_cons_zero, List.set_cons_succ])
              refine wpAnyH_take (i := 8) (oi := ({ dst := some 41, op := Op.move (Operand.tmp 11), type := 3, pos := "store.go:174", after := #[{ on := 7, ground := Ground.guard }], guard := some (7, false) } : Oper)) (v := .int .i64 ((f5 : Int) + 256 * (f6 : Int))) rfl (by kernel_rfl) (by kernel_rfl) (by kernel_rfl) (fun _ _ _ h => h) (Or.inl ⟨by rfl, ?_⟩) (by assumption) ?_
              · intro w hSw; (try dsimp only at hSw); go_simp
              (try simp only [Act.put, List.setIfInBounds_toArray, List.set_cons_zero, List.set_cons_succ])
              refine wpAnyH_take (i := 9) (oi := ({ dst := some 42, op := Op.binOp BinOp.gtr 3 (Operand.tmp 41) (Operand.const (Value.int IntKind.i64 41)) 3, type := 4, pos := "store.go:174", after := #[{ on := 8, ground := Ground.data }, { on := 7, ground := Ground.guard }], guard := some (7, false) } : Oper)) (v := .bool false) rfl (by kernel_rfl) (by kernel_rfl) (by kernel_rfl) (fun _ _ _ h => h) (Or.inl ⟨by rfl, ?_⟩) (by assumption) ?_
              · intro w hSw; go_simp; (try simp [*]); (try omega)
              (try simp only [Act.put, List.setIfInBounds_toArray, List.set_cons_zero, List.set_cons_succ])
              refine wpAnyH_take (i := 10) (oi := ({ dst := some 43, op := Op.pick (Operand.tmp 40) (Operand.const (Value.bool true)) (Operand.tmp 42), type := 4, pos := "store.go:174", after := #[{ on := 7, ground := Ground.data }, { on := 9, ground := Ground.data }], guard := none } : Oper)) (v := .bool false) rfl (by kernel_rfl) (by kernel_rfl) (by kernel_rfl) (fun _ _ _ h => h) (Or.inl ⟨by rfl, ?_⟩) (by assumption) ?_
              · intro w hSw; (try dsimp only at hSw); go_simp
              (try simp only [Act.put, List.setIfInBounds_toArray, List.set_cons_zero, List.set_cons_succ])
              refine wpAnyH_done (by kernel_rfl) ?_ _
              have hIb := hI.below (Below_after hbd hb1)
              clear hI hbd hb1
              generalize htx : s.extract 7 (7 + (f5 + 256 * f6)) = tx at *
              obtain ⟨a', c', hvd, hdd'⟩ := hIb.fin
              subst hvd
              go_wp2_with fail
              go_ret2
              exact ⟨a', c', by rw [HE.out]; rfl, by rw [HE.out]; exact hdd', hIb.bl⟩
end Go.Proofs.Ytjhkabhhlpdpaaa
