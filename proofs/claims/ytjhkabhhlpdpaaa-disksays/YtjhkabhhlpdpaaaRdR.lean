/- The document's own disk (writkeepref.Disk): Restart walked. -/
import Derived.Test.YtjhkabhhlpdpaaaRdW
import Derived.Test.YtjhkabhhlpdpaaaDkRestart
set_option linter.unusedVariables false
set_option linter.unusedSimpArgs false
set_option linter.unnecessarySimpa false
namespace Go.Proofs.Ytjhkabhhlpdpaaa
open Go.RowKit

theorem tus_get : ∀ (l : List (Nat × List UInt8)) (k : Nat) (x : Nat × List UInt8), l[k]? = some x → (l.flatMap tuV)[k * 2]? = some (.int .i64 (x.1 : Int)) ∧ (l.flatMap tuV)[k * 2 + 1]? = some (.string (strOf x.2))
  | [], k, x, hk => by simp at hk
  | y :: l, 0, x, hk => by simp at hk; subst hk; exact ⟨rfl, rfl⟩
  | y :: l, k + 1, x, hk => by
    obtain ⟨h1, h2⟩ := tus_get l k x (by simpa using hk)
    rw [List.flatMap_cons, show (k + 1) * 2 = k * 2 + 2 by omega]
    exact ⟨by simpa [tuV] using h1, by simpa [tuV] using h2⟩
theorem own_some {w : World} {base : Nat} {e : TypeId} {size : Nat} {v : Value} {n : Nat} {xs : List Value} (h : w.ownsRow base e size v n xs) (hn : 0 < n) : ∃ g c, v = .slice (some ⟨g, 0, none⟩) n c := by
  rcases h.2 with ⟨-, h0⟩ | ⟨g, cap, cur, e, -⟩
  · omega
  · exact ⟨g, cap, e⟩
set_option maxHeartbeats 2000000 in
set_option maxRecDepth 100000 in
theorem rrestart_any (B : Nat → Prop) (m : Nat) (d : Dk) (fu : Int) (keep : Nat) (w : World) (h : RdO w B m d fu) (hwl : d.wr.length ≤ 100000) (hkp : keep < 18446744073709551616) :
    Calls Try.prog 22 #[.pointer (some ⟨m, 0, none⟩), .int .u64 (keep : Int)] w fun e w' => e = .returned (.tuple #[]) ∧ ∃ B' fu', RdO w' B' m (reR d keep) fu' ∧ Tr B B' w w' := by
  obtain ⟨vk, vn, vw, h, rfl⟩ := h
  have hok := h.ok
  have HKL : Hid (d.kept.length = d.now.length) := hok.len
  have hpos := hok.pos
  have hmost := hok.most
  obtain ⟨gk, ck, rfl⟩ := own_some h.hk (by have := HKL.out; omega)
  obtain ⟨aw, cw, rfl⟩ := own_form h.hw
  have h0 : RdC w m (.slice (some ⟨gk, 0, none⟩) d.kept.length ck) vn (.slice aw d.wr.length cw) ⟨d.now, landW keep d.kept (d.wr.take 0) 0, d.wr, d.left, d.down⟩ fu := by simpa [landW] using h
  clear h
  go_enter Try.func22, Try.ntmps22
  go_wp2_with fail
  go_loopw [4] (fun i wr => ∃ k : Nat, k ≤ d.wr.length ∧ i = .int .i64 k ∧ RdC wr m (.slice (some ⟨gk, 0, none⟩) d.kept.length ck) vn (.slice aw d.wr.length cw) ⟨d.now, landW keep d.kept (d.wr.take k) 0, d.wr, d.left, d.down⟩ fu ∧ Tr (rdF m (.slice (some ⟨gk, 0, none⟩) d.kept.length ck) vn (.slice aw d.wr.length cw)) (rdF m (.slice (some ⟨gk, 0, none⟩) d.kept.length ck) vn (.slice aw d.wr.length cw)) w wr) (fun i _ => d.wr.length - (intOf i).toNat)
  case atStart => exact ⟨0, Nat.zero_le _, rfl, h0, Tr.refl _ _⟩
  case round =>
    clear h0
    obtain ⟨k, hk, rfl, hA, hT⟩ := hrel
    obtain ⟨c0, c1, c2, c3, c4⟩ := hA.cells
    have hmz := heap_lt hA.hp
    by_cases hlt : k < d.wr.length
    · obtain ⟨x, hx⟩ : ∃ x, d.wr[k]? = some x := ⟨d.wr[k], List.getElem?_eq_getElem hlt⟩
      have hxm := hok.wrs x (List.mem_of_getElem? hx)
      have dlt : decide ((k : Int) < (d.wr.length : Int)) = true := decide_eq_true (by omega)
      have hbA : bits BinOp.and IntKind.u64 ((keep : Int) / 2 ^ (k % 64)) 1 = (((keep >>> (k % 64)) &&& 1 : Nat) : Int) := by
        have e := bits_and_u64_nat (keep >>> (k % 64)) 1 (shr_lt hkp) (by decide)
        rw [Nat.shiftRight_eq_div_pow] at e ⊢
        push_cast at e ⊢
        exact e
      have HL := land_take keep d.kept d.wr k x hx
      cases hbit : bitB keep k
      · have hbt : (bits BinOp.and IntKind.u64 ((keep : Int) / 2 ^ (k % 64)) 1 == 1) = false := by rw [hbA, bit_zero hbit]; rfl
        have HL2 : Hid (landW keep d.kept (d.wr.take (k + 1)) 0 = landW keep d.kept (d.wr.take k) 0) := by show _ = _; rw [HL, hbit]; rfl
        clear hbA HL hbit
        go_wp2_with fail
        go_roundw
        case rel => exact ⟨k + 1, by omega, by go_num, by rw [HL2.out]; exact hA, hT⟩
        case measure => simp [intOf]; omega
      · have hbt : (bits BinOp.and IntKind.u64 ((keep : Int) / 2 ^ (k % 64)) 1 == 1) = true := by rw [hbA, bit_one hbit]; rfl
        have HL2 : Hid (landW keep d.kept (d.wr.take (k + 1)) 0 = (landW keep d.kept (d.wr.take k) 0).set x.1 x.2) := by show _ = _; rw [HL, hbit]; rfl
        clear hbA HL hbit
        obtain ⟨gw, cw', hv⟩ := own_some hA.hw (by show 0 < d.wr.length; omega)
        simp only [Value.slice.injEq] at hv
        obtain ⟨rfl, -, rfl⟩ := hv
        obtain ⟨x0, x1⟩ := tus_get d.wr k x hx
        have p0 : wr.drew.cell? ⟨gw, k * 2, none⟩ = some (.int .i64 (x.1 : Int)) := own_at hA.hw rfl x0
        have p1 : wr.drew.cell? ⟨gw, k * 2 + 1, none⟩ = some (.string (strOf x.2)) := own_at hA.hw rfl x1
        have hll : (landW keep d.kept (d.wr.take k) 0).length = d.kept.length := land_len keep _ _ _
        have hx1 : x.1 < d.kept.length := by rw [HKL.out]; exact hxm.1
        have hAd : RdC wr.drew m (.slice (some ⟨gk, 0, none⟩) d.kept.length ck) vn (.slice (some ⟨gw, 0, none⟩) d.wr.length cw) ⟨d.now, landW keep d.kept (d.wr.take k) 0, d.wr, d.left, d.down⟩ fu := hA.same (fun _ _ => rfl)
        have hgk := (hAd.hk.lt gk rfl).2
        have hgw := (hAd.hw.lt gw rfl).2
        obtain ⟨zz, hce⟩ : ∃ z, wr.drew.cell? ⟨gk, x.1, none⟩ = some (.string z) := ⟨_, own_at hAd.hk rfl (u := .string (strOf (landW keep d.kept (d.wr.take k) 0)[x.1])) (by simp [strV, hll, hx1])⟩
        have hkk := hAd.hk
        dsimp only at hkk
        rw [hll] at hkk
        have hfz := hkk.frozenAt x.1
        have hst := (hkk.stored x.1 (.string (strOf x.2))).1
        rw [strV_set] at hst
        have hgm : gk ≠ m := fun e => hAd.nk (by rw [← e]; rfl)
        have hgwk : gk ≠ gw := fun e => own_dist hAd.hk hAd.hw (by decide) gk rfl (by rw [e]; rfl)
        have hp3 : (wr.drew.setCell ⟨gk, x.1, none⟩ (.string (strOf x.2))).heap[m]? = some (.cells (rcells (.slice (some ⟨gk, 0, none⟩) d.kept.length ck) vn (.slice (some ⟨gw, 0, none⟩) d.wr.length cw) fu d.down) 52 (0, 0)) := by rw [Below.heap_setCell _ _ _ _ (fun e => hgm (by simpa using e.symm))]; exact hAd.hp
        have hn3 : (wr.drew.setCell ⟨gk, x.1, none⟩ (.string (strOf x.2))).ownsRow 0 9 1 vn d.now.length (strV d.now) := ownsRow_set_other hAd.hn (fun e => hAd.dkn gk rfl e) x.1 _
        have hw3 : (wr.drew.setCell ⟨gk, x.1, none⟩ (.string (strOf x.2))).ownsRow 0 98 2 (.slice (some ⟨gw, 0, none⟩) d.wr.length cw) d.wr.length (d.wr.flatMap tuV) := ownsRow_set_other hAd.hw (fun e => hgwk (by simpa [Value.ownBlock] using e.symm)) x.1 _
        have hA3 : RdC (wr.drew.setCell ⟨gk, x.1, none⟩ (.string (strOf x.2))) m (.slice (some ⟨gk, 0, none⟩) d.kept.length ck) vn (.slice (some ⟨gw, 0, none⟩) d.wr.length cw) ⟨d.now, (landW keep d.kept (d.wr.take k) 0).set x.1 x.2, d.wr, d.left, d.down⟩ fu :=
          ⟨hp3, by show (wr.drew.setCell _ _).ownsRow 0 _ 1 _ ((landW keep d.kept (d.wr.take k) 0).set x.1 x.2).length _; rw [List.length_set, hll]; exact hst, hn3, hw3, hAd.dkn, ⟨by show ((landW keep d.kept (d.wr.take k) 0).set x.1 x.2).length = d.now.length; rw [List.length_set, hll, HKL.out], hok.pos, hok.most, hok.nows, mem_set48 hAd.ok.kepts x.1 hxm.2, hok.wrs, hok.lo, hok.hi⟩, hAd.lo, hAd.hi, hAd.fr⟩
        have hT3 := (hT.trans (Tr.drew _ wr)).trans (Tr.setCell wr.drew (g := gk) (.inr (.inl rfl)) x.1 (.string (strOf x.2)))
        have e0 : wr.drew.cell? ⟨m, 0, none⟩ = some (.slice (some ⟨gk, 0, none⟩) d.kept.length ck) := c0
        have e2 : wr.drew.cell? ⟨m, 2, none⟩ = some (.slice (some ⟨gw, 0, none⟩) d.wr.length cw) := c2
        have hx0 : (0 : Int) ≤ (x.1 : Int) := by omega
        have hx1i : (x.1 : Int) < (d.kept.length : Int) := by omega
        obtain ⟨f0, f1, f2, f3, f4⟩ := hA3.cells
        have r0 : (wr.drew.setCell ⟨gk, x.1, none⟩ (.string (strOf x.2))).cell? ⟨gw, k * 2, none⟩ = some (.int .i64 (x.1 : Int)) := own_at hA3.hw rfl x0
        have r1 : (wr.drew.setCell ⟨gk, x.1, none⟩ (.string (strOf x.2))).cell? ⟨gw, k * 2 + 1, none⟩ = some (.string (strOf x.2)) := own_at hA3.hw rfl x1
        clear hll x0 x1 hA hst hp3 hn3 hw3 hT hAd hkk f1 f3 f4 c0 c1 c3 c4
        go_wp2_with fail
        refine wp_region_held_drew (S := fun w' => w'.cell? ⟨m, 0, none⟩ = some (.slice (some ⟨gk, 0, none⟩) d.kept.length ck) ∧ w'.cell? ⟨m, 2, none⟩ = some (.slice (some ⟨gw, 0, none⟩) d.wr.length cw) ∧ w'.cell? ⟨gw, k * 2, none⟩ = some (.int .i64 (x.1 : Int)) ∧ w'.cell? ⟨gw, k * 2 + 1, none⟩ = some (.string (strOf x.2))) (by kernel_rfl) ?_ (fun hHeld => ?_)
        · exact ⟨e0, e2, p0, p1⟩
        refine wpAnyH_take (i := 0) (oi := ({ dst := some 21, op := Op.move (Operand.tmp 0), type := 30, pos := "store.go:88", after := #[], guard := none } : Oper)) (v := .pointer (some ⟨m, 0, none⟩)) rfl (by kernel_rfl) (by kernel_rfl) (by kernel_rfl) (fun _ _ _ h => h) (Or.inl ⟨by rfl, ?_⟩) (by assumption) ?_
        · intro w hSw; (try dsimp only at hSw); go_simp
        (try simp only [Act.put, List.setIfInBounds_toArray, List.set_cons_zero, List.set_cons_succ])
        refine wpAnyH_take (i := 1) (oi := ({ dst := some 22, op := Op.nilCheck (Operand.tmp 21), type := 0, pos := "store.go:88", after := #[{ on := 0, ground := Ground.data }], guard := none } : Oper)) (v := .pointer (some ⟨m, 0, none⟩)) rfl (by kernel_rfl) (by kernel_rfl) (by kernel_rfl) (fun _ _ _ h => h) (Or.inl ⟨by rfl, ?_⟩) (by assumption) ?_
        · intro w hSw; (try dsimp only at hSw); go_simp
        (try simp only [Act.put, List.setIfInBounds_toArray, List.set_cons_zero, List.set_cons_succ])
        refine wpAnyH_take (i := 2) (oi := ({ dst := some 23, op := Op.fieldAddr 52 (Operand.tmp 22) 0, type := 0, pos := "store.go:88", after := #[{ on := 1, ground := Ground.data }], guard := none } : Oper)) (v := .pointer (some ⟨m, 0, none⟩)) rfl (by kernel_rfl) (by kernel_rfl) (by kernel_rfl) (fun _ _ _ h => h) (Or.inl ⟨by rfl, ?_⟩) (by assumption) ?_
        · intro w hSw; (try dsimp only at hSw); go_simp
        (try simp only [Act.put, List.setIfInBounds_toArray, List.set_cons_zero, List.set_cons_succ])
        refine wpAnyH_take (i := 3) (oi := ({ dst := some 24, op := Op.load 49 (Operand.tmp 23), type := 49, pos := "store.go:88", after := #[{ on := 2, ground := Ground.data }], guard := none } : Oper)) (v := .slice (some ⟨gk, 0, none⟩) d.kept.length ck) rfl (by kernel_rfl) (by kernel_rfl) (by kernel_rfl) (fun _ _ _ h => h) (Or.inl ⟨by rfl, ?_⟩) (by assumption) ?_
        · intro w hSw; (try dsimp only at hSw); go_simp
        (try simp only [Act.put, List.setIfInBounds_toArray, List.set_cons_zero, List.set_cons_succ])
        refine wpAnyH_take (i := 4) (oi := ({ dst := some 25, op := Op.move (Operand.tmp 0), type := 30, pos := "store.go:88", after := #[], guard := none } : Oper)) (v := .pointer (some ⟨m, 0, none⟩)) rfl (by kernel_rfl) (by kernel_rfl) (by kernel_rfl) (fun _ _ _ h => h) (Or.inl ⟨by rfl, ?_⟩) (by assumption) ?_
        · intro w hSw; (try dsimp only at hSw); go_simp
        (try simp only [Act.put, List.setIfInBounds_toArray, List.set_cons_zero, List.set_cons_succ])
        refine wpAnyH_take (i := 5) (oi := ({ dst := some 26, op := Op.nilCheck (Operand.tmp 25), type := 0, pos := "store.go:88", after := #[{ on := 4, ground := Ground.data }], guard := none } : Oper)) (v := .pointer (some ⟨m, 0, none⟩)) rfl (by kernel_rfl) (by kernel_rfl) (by kernel_rfl) (fun _ _ _ h => h) (Or.inl ⟨by rfl, ?_⟩) (by assumption) ?_
        · intro w hSw; (try dsimp only at hSw); go_simp
        (try simp only [Act.put, List.setIfInBounds_toArray, List.set_cons_zero, List.set_cons_succ])
        refine wpAnyH_take (i := 6) (oi := ({ dst := some 27, op := Op.fieldAddr 52 (Operand.tmp 26) 2, type := 0, pos := "store.go:88", after := #[{ on := 5, ground := Ground.data }], guard := none } : Oper)) (v := .pointer (some ⟨m, 2, none⟩)) rfl (by kernel_rfl) (by kernel_rfl) (by kernel_rfl) (fun _ _ _ h => h) (Or.inl ⟨by rfl, ?_⟩) (by assumption) ?_
        · intro w hSw; (try dsimp only at hSw); go_simp
        (try simp only [Act.put, List.setIfInBounds_toArray, List.set_cons_zero, List.set_cons_succ])
        refine wpAnyH_take (i := 7) (oi := ({ dst := some 28, op := Op.load 50 (Operand.tmp 27), type := 50, pos := "store.go:88", after := #[{ on := 6, ground := Ground.data }], guard := none } : Oper)) (v := .slice (some ⟨gw, 0, none⟩) d.wr.length cw) rfl (by kernel_rfl) (by kernel_rfl) (by kernel_rfl) (fun _ _ _ h => h) (Or.inl ⟨by rfl, ?_⟩) (by assumption) ?_
        · intro w hSw; (try dsimp only at hSw); go_simp
        (try simp only [Act.put, List.setIfInBounds_toArray, List.set_cons_zero, List.set_cons_succ])
        refine wpAnyH_take (i := 8) (oi := ({ dst := some 29, op := Op.move (Operand.tmp 4), type := 3, pos := "store.go:88", after := #[], guard := none } : Oper)) (v := .int .i64 k) rfl (by kernel_rfl) (by kernel_rfl) (by kernel_rfl) (fun _ _ _ h => h) (Or.inl ⟨by rfl, ?_⟩) (by assumption) ?_
        · intro w hSw; (try dsimp only at hSw); go_simp
        (try simp only [Act.put, List.setIfInBounds_toArray, List.set_cons_zero, List.set_cons_succ])
        refine wpAnyH_take (i := 9) (oi := ({ dst := some 30, op := Op.indexAddr 50 (Operand.tmp 28) (Operand.tmp 29), type := 0, pos := "store.go:88", after := #[{ on := 7, ground := Ground.data }, { on := 8, ground := Ground.data }], guard := none } : Oper)) (v := .pointer (some ⟨gw, k * 2, none⟩)) rfl (by kernel_rfl) (by kernel_rfl) (by kernel_rfl) (fun _ _ _ h => h) (Or.inl ⟨by rfl, ?_⟩) (by assumption) ?_
        · intro w hSw; (try dsimp only at hSw); go_simp
        (try simp only [Act.put, List.setIfInBounds_toArray, List.set_cons_zero, List.set_cons_succ])
        refine wpAnyH_take (i := 10) (oi := ({ dst := some 31, op := Op.fieldAddr 98 (Operand.tmp 30) 0, type := 0, pos := "store.go:88", after := #[{ on := 9, ground := Ground.data }], guard := none } : Oper)) (v := .pointer (some ⟨gw, k * 2, none⟩)) rfl (by kernel_rfl) (by kernel_rfl) (by kernel_rfl) (fun _ _ _ h => h) (Or.inl ⟨by rfl, ?_⟩) (by assumption) ?_
        · intro w hSw; (try dsimp only at hSw); go_simp
        (try simp only [Act.put, List.setIfInBounds_toArray, List.set_cons_zero, List.set_cons_succ])
        refine wpAnyH_take (i := 11) (oi := ({ dst := some 32, op := Op.load 3 (Operand.tmp 31), type := 3, pos := "store.go:88", after := #[{ on := 10, ground := Ground.data }], guard := none } : Oper)) (v := .int .i64 (x.1 : Int)) rfl (by kernel_rfl) (by kernel_rfl) (by kernel_rfl) (fun _ _ _ h => h) (Or.inl ⟨by rfl, ?_⟩) (by assumption) ?_
        · intro w hSw; (try dsimp only at hSw); go_simp
        (try simp only [Act.put, List.setIfInBounds_toArray, List.set_cons_zero, List.set_cons_succ])
        refine wpAnyH_take (i := 12) (oi := ({ dst := some 33, op := Op.move (Operand.tmp 0), type := 30, pos := "store.go:88", after := #[], guard := none } : Oper)) (v := .pointer (some ⟨m, 0, none⟩)) rfl (by kernel_rfl) (by kernel_rfl) (by kernel_rfl) (fun _ _ _ h => h) (Or.inl ⟨by rfl, ?_⟩) (by assumption) ?_
        · intro w hSw; (try dsimp only at hSw); go_simp
        (try simp only [Act.put, List.setIfInBounds_toArray, List.set_cons_zero, List.set_cons_succ])
        refine wpAnyH_take (i := 13) (oi := ({ dst := some 34, op := Op.nilCheck (Operand.tmp 33), type := 0, pos := "store.go:88", after := #[{ on := 12, ground := Ground.data }], guard := none } : Oper)) (v := .pointer (some ⟨m, 0, none⟩)) rfl (by kernel_rfl) (by kernel_rfl) (by kernel_rfl) (fun _ _ _ h => h) (Or.inl ⟨by rfl, ?_⟩) (by assumption) ?_
        · intro w hSw; (try dsimp only at hSw); go_simp
        (try simp only [Act.put, List.setIfInBounds_toArray, List.set_cons_zero, List.set_cons_succ])
        refine wpAnyH_take (i := 14) (oi := ({ dst := some 35, op := Op.fieldAddr 52 (Operand.tmp 34) 2, type := 0, pos := "store.go:88", after := #[{ on := 13, ground := Ground.data }], guard := none } : Oper)) (v := .pointer (some ⟨m, 2, none⟩)) rfl (by kernel_rfl) (by kernel_rfl) (by kernel_rfl) (fun _ _ _ h => h) (Or.inl ⟨by rfl, ?_⟩) (by assumption) ?_
        · intro w hSw; (try dsimp only at hSw); go_simp
        (try simp only [Act.put, List.setIfInBounds_toArray, List.set_cons_zero, List.set_cons_succ])
        refine wpAnyH_take (i := 15) (oi := ({ dst := some 36, op := Op.load 50 (Operand.tmp 35), type := 50, pos := "store.go:88", after := #[{ on := 14, ground := Ground.data }], guard := none } : Oper)) (v := .slice (some ⟨gw, 0, none⟩) d.wr.length cw) rfl (by kernel_rfl) (by kernel_rfl) (by kernel_rfl) (fun _ _ _ h => h) (Or.inl ⟨by rfl, ?_⟩) (by assumption) ?_
        · intro w hSw; (try dsimp only at hSw); go_simp
        (try simp only [Act.put, List.setIfInBounds_toArray, List.set_cons_zero, List.set_cons_succ])
        refine wpAnyH_take (i := 16) (oi := ({ dst := some 37, op := Op.move (Operand.tmp 4), type := 3, pos := "store.go:88", after := #[], guard := none } : Oper)) (v := .int .i64 k) rfl (by kernel_rfl) (by kernel_rfl) (by kernel_rfl) (fun _ _ _ h => h) (Or.inl ⟨by rfl, ?_⟩) (by assumption) ?_
        · intro w hSw; (try dsimp only at hSw); go_simp
        (try simp only [Act.put, List.setIfInBounds_toArray, List.set_cons_zero, List.set_cons_succ])
        refine wpAnyH_take (i := 17) (oi := ({ dst := some 38, op := Op.indexAddr 50 (Operand.tmp 36) (Operand.tmp 37), type := 0, pos := "store.go:88", after := #[{ on := 15, ground := Ground.data }, { on := 16, ground := Ground.data }], guard := none } : Oper)) (v := .pointer (some ⟨gw, k * 2, none⟩)) rfl (by kernel_rfl) (by kernel_rfl) (by kernel_rfl) (fun _ _ _ h => h) (Or.inl ⟨by rfl, ?_⟩) (by assumption) ?_
        · intro w hSw; (try dsimp only at hSw); go_simp
        (try simp only [Act.put, List.setIfInBounds_toArray, List.set_cons_zero, List.set_cons_succ])
        refine wpAnyH_take (i := 18) (oi := ({ dst := some 39, op := Op.fieldAddr 98 (Operand.tmp 38) 1, type := 0, pos := "store.go:88", after := #[{ on := 17, ground := Ground.data }], guard := none } : Oper)) (v := .pointer (some ⟨gw, k * 2 + 1, none⟩)) rfl (by kernel_rfl) (by kernel_rfl) (by kernel_rfl) (fun _ _ _ h => h) (Or.inl ⟨by rfl, ?_⟩) (by assumption) ?_
        · intro w hSw; (try dsimp only at hSw); go_simp
        (try simp only [Act.put, List.setIfInBounds_toArray, List.set_cons_zero, List.set_cons_succ])
        refine wpAnyH_take (i := 19) (oi := ({ dst := some 40, op := Op.load 9 (Operand.tmp 39), type := 9, pos := "store.go:88", after := #[{ on := 18, ground := Ground.data }], guard := none } : Oper)) (v := .string (strOf x.2)) rfl (by kernel_rfl) (by kernel_rfl) (by kernel_rfl) (fun _ _ _ h => h) (Or.inl ⟨by rfl, ?_⟩) (by assumption) ?_
        · intro w hSw; (try dsimp only at hSw); go_simp
        (try simp only [Act.put, List.setIfInBounds_toArray, List.set_cons_zero, List.set_cons_succ])
        refine wpAnyH_take (i := 20) (oi := ({ dst := some 41, op := Op.indexAddr 49 (Operand.tmp 24) (Operand.tmp 32), type := 0, pos := "store.go:88", after := #[{ on := 3, ground := Ground.data }, { on := 11, ground := Ground.data }, { on := 0, ground := Ground.phase }, { on := 1, ground := Ground.phase }, { on := 2, ground := Ground.phase }, { on := 3, ground := Ground.phase }, { on := 4, ground := Ground.phase }, { on := 5, ground := Ground.phase }, { on := 6, ground := Ground.phase }, { on := 7, ground := Ground.phase }, { on := 8, ground := Ground.phase }, { on := 9, ground := Ground.phase }, { on := 10, ground := Ground.phase }, { on := 11, ground := Ground.phase }, { on := 12, ground := Ground.phase }, { on := 13, ground := Ground.phase }, { on := 14, ground := Ground.phase }, { on := 15, ground := Ground.phase }, { on := 16, ground := Ground.phase }, { on := 17, ground := Ground.phase }, { on := 18, ground := Ground.phase }, { on := 19, ground := Ground.phase }], guard := none } : Oper)) (v := .pointer (some ⟨gk, x.1, none⟩)) rfl (by kernel_rfl) (by kernel_rfl) (by kernel_rfl) (fun _ _ _ h => h) (Or.inl ⟨by rfl, ?_⟩) (by assumption) ?_
        · intro w hSw; (try dsimp only at hSw); go_simp
        (try simp only [Act.put, List.setIfInBounds_toArray, List.set_cons_zero, List.set_cons_succ])
        refine wpAnyH_ready (rs := [21]) (by kernel_rfl) (by simp) ?_
        refine AllReadyH.cons (o := ({ dst := none, op := Op.store 9 (Operand.tmp 41) (Operand.tmp 40), type := 0, pos := "store.go:88", after := #[{ on := 20, ground := Ground.data }, { on := 19, ground := Ground.data }, { on := 0, ground := Ground.phase }, { on := 1, ground := Ground.phase }, { on := 2, ground := Ground.phase }, { on := 3, ground := Ground.phase }, { on := 4, ground := Ground.phase }, { on := 5, ground := Ground.phase }, { on := 6, ground := Ground.phase }, { on := 7, ground := Ground.phase }, { on := 8, ground := Ground.phase }, { on := 9, ground := Ground.phase }, { on := 10, ground := Ground.phase }, { on := 11, ground := Ground.phase }, { on := 12, ground := Ground.phase }, { on := 13, ground := Ground.phase }, { on := 14, ground := Ground.phase }, { on := 15, ground := Ground.phase }, { on := 16, ground := Ground.phase }, { on := 17, ground := Ground.phase }, { on := 18, ground := Ground.phase }, { on := 19, ground := Ground.phase }], guard := none } : Oper)) rfl (fun K hK => ?_) AllReadyH.nil
        rw [if_pos (by rfl)]
        go_wp2_with fail
        refine hK.out _ _ ?_ (fun hHeld => ?_)
        · exact ⟨f0, f2, r0, r1⟩
        clear hK K
        (try simp only [Act.put, List.setIfInBounds_toArray, List.set_cons_zero, List.set_cons_succ])
        refine wpAnyH_done (by kernel_rfl) ?_ _
        go_wp2_with fail
        go_roundw
        case rel => exact ⟨k + 1, by omega, by go_num, by rw [HL2.out]; exact hA3, hT3⟩
        case measure => simp [intOf]; omega
    · have hke : k = d.wr.length := by omega
      have dlt : decide ((k : Int) < (d.wr.length : Int)) = false := decide_eq_false (by omega)
      rw [List.take_of_length_le (by omega)] at hA
      have HKE : Hid (k = d.wr.length) := hke
      clear hke
      have hRok := re_ok hok keep
      have HR : Hid (reR d keep = ⟨landW keep d.kept d.wr 0, landW keep d.kept d.wr 0, [], -1, false⟩) := rfl
      rw [HR.out] at hRok
      have HLL : Hid ((landW keep d.kept d.wr 0).length = d.kept.length) := land_len keep _ _ _
      generalize landW keep d.kept d.wr 0 = kk at *
      have hkk := hA.hk
      dsimp only at hkk
      obtain ⟨v2, w2, r1, r2, r3⟩ := run_cpyS hkk (by have := HLL.out; have := HKL.out; omega) 49
      have hA2 := hA.below r3
      have f1 := hA2.free 1
      have f2 := hA2.free 2
      have f3 := hA2.free 3
      have f4 := hA2.free 4
      have hlt2 := heap_lt hA2.hp
      have hdis : Dist (.slice (some ⟨gk, 0, none⟩) d.kept.length ck) v2 := fun j hj hj' => by have := (r2.lt j hj').1; have := (hkk.lt j hj).2; omega
      have X1 : RdC (w2.setCell ⟨m, 1, none⟩ v2) m (.slice (some ⟨gk, 0, none⟩) d.kept.length ck) v2 (.slice aw d.wr.length cw) ⟨kk, kk, d.wr, d.left, d.down⟩ fu := hA2.put 1 v2 rfl hA2.hk (own0 r2) hA2.hw hdis ⟨rfl, hRok.pos, hRok.most, hRok.kepts, hRok.kepts, fun y hy => by have := hok.wrs y hy; exact ⟨by show y.1 < kk.length; rw [HLL.out, HKL.out]; exact this.1, this.2⟩, hok.lo, hok.hi⟩ hA2.lo hA2.hi hA2.fr
      have X2 : RdC ((w2.setCell ⟨m, 1, none⟩ v2).setCell ⟨m, 2, none⟩ (.slice none 0 0)) m (.slice (some ⟨gk, 0, none⟩) d.kept.length ck) v2 (.slice none 0 0) ⟨kk, kk, [], d.left, d.down⟩ fu := X1.put 2 _ rfl X1.hk X1.hn (World.ownsRow_nil _ _ _ _) hdis ⟨rfl, hRok.pos, hRok.most, hRok.kepts, hRok.kepts, (fun y hy => by simp at hy), hok.lo, hok.hi⟩ X1.lo X1.hi X1.fr
      have X4 := RdC.made (w := (w2.setCell ⟨m, 1, none⟩ v2).setCell ⟨m, 2, none⟩ (.slice none 0 0)) X2.hp 4 (.bool false) (vk' := .slice (some ⟨gk, 0, none⟩) d.kept.length ck) (vn' := v2) (vw' := .slice none 0 0) (d' := ⟨kk, kk, [], fu, false⟩) (fu' := fu) rfl X2.hk X2.hn (World.ownsRow_nil _ _ _ _) hdis ⟨rfl, hRok.pos, hRok.most, hRok.kepts, hRok.kepts, (fun y hy => by simp at hy), by have := X2.lo; show _ ≤ fu; omega, X2.hi⟩ X2.lo X2.hi (.inr (by have := X2.lo; unfold fuI; dsimp only; split <;> omega))
      have X3 := X4.put 3 (.int .i64 (-1)) (vk' := .slice (some ⟨gk, 0, none⟩) d.kept.length ck) (vn' := v2) (vw' := .slice none 0 0) (d' := ⟨kk, kk, [], -1, false⟩) (fu' := -1) rfl X4.hk X4.hn (World.ownsRow_nil _ _ _ _) hdis hRok (by decide) (by decide) (.inr rfl)
      have HX : Hid _ := X3
      have hTT : Tr (rdF m (.slice (some ⟨gk, 0, none⟩) d.kept.length ck) vn (.slice aw d.wr.length cw)) (rdF m (.slice (some ⟨gk, 0, none⟩) d.kept.length ck) v2 (.slice none 0 0)) w ((((w2.setCell ⟨m, 1, none⟩ v2).setCell ⟨m, 2, none⟩ (.slice none 0 0)).setCell ⟨m, 4, none⟩ (.bool false)).setCell ⟨m, 3, none⟩ (.int .i64 (-1))) := by
        refine Tr.re (((((hT.below r3).trans (Tr.setCell _ (.inl rfl) 1 v2)).trans (Tr.setCell _ (.inl rfl) 2 _)).trans (Tr.setCell _ (.inl rfl) 4 _)).trans (Tr.setCell _ (.inl rfl) 3 _)) (fun j hj => ?_)
        rcases hj with hj | hj | hj | hj
        · exact hT.fr j (.inl hj)
        · exact hT.fr j (.inr (.inl hj))
        · exact .inr (Nat.le_trans hT.size (r2.lt j hj).1)
        · cases hj
      obtain ⟨b0, b1, b2, b3, b4⟩ := hA2.cells
      obtain ⟨av2, cv2, hv2⟩ := own_form r2
      subst hv2
      clear X1 X2 X3 X4 hA2 hA hT hkk r2 r3 hRok hdis
      go_wp2_with (refine wpList_run (by rfl) (exec_append _ _ (.const (.slice none 0 0)) (.tmp 46) (by rfl) (by rfl) (by rfl) (by rfl) (by rfl) (by rfl) r1) ?_)
      go_end0
      exact ⟨rfl, _, ⟨-1, _, _, _, by rw [HR.out]; exact HX.out, rfl⟩, hTT⟩
end Go.Proofs.Ytjhkabhhlpdpaaa
