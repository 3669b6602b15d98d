/- writkeepref: SameChanges, SameDeeds; writkeeptop: number, lightDeeds. -/
import Derived.Test.YtjhkabhhlpdpaaaLogFall
set_option linter.unusedVariables false
set_option linter.unusedSimpArgs false
set_option linter.unnecessarySimpa false
namespace Go.Proofs.Ytjhkabhhlpdpaaa
open Go.RowKit

theorem tl_inj {a b : ByteArray} (h : a.toList = b.toList) : a = b := by
  rw [ByteArray.toList_eq, ByteArray.toList_eq] at h
  exact ByteArray.ext (Array.ext' h)
theorem ch_ext {x y : Ch} (h1 : x.key = y.key) (h2 : x.val = y.val) (h3 : x.gone = y.gone) : x = y := by cases x; cases y; simp_all
set_option maxHeartbeats 4000000 in
set_option maxRecDepth 100000 in
theorem samech_eq (a b : Option Addr) (c c' : Nat) (l : List Ch) (w : World) (ha : ChsAt w a l) (hb : ChsAt w b l) (hm : l.length ≤ maxLen) :
    Calls Try.prog 33 #[.slice a l.length c, .slice b l.length c'] w fun e w' => e = .returned (.bool true) ∧ Below w.heap.size w w' := by
  unfold maxLen at hm
  go_enter Try.func33, Try.ntmps33
  go_wp2_with fail
  go_loopw [5] (fun i wr => ∃ k : Nat, k ≤ l.length ∧ i = .int .i64 k ∧ Below w.heap.size w wr) (fun i _ => l.length - (intOf i).toNat)
  case atStart => exact ⟨0, Nat.zero_le _, rfl, Below.refl _ _⟩
  case round =>
    obtain ⟨k, hk, rfl, hbl⟩ := hrel
    by_cases hlt : k < l.length
    · obtain ⟨x, hx⟩ : ∃ x, l[k]? = some x := ⟨l[k], List.getElem?_eq_getElem hlt⟩
      obtain ⟨b1, o1, rfl, hb1, h1⟩ := (ha.below hbl).resolve_left (by rintro e; rw [e] at hlt; simp at hlt)
      obtain ⟨b2, o2, rfl, hb2, h2⟩ := (hb.below hbl).resolve_left (by rintro e; rw [e] at hlt; simp at hlt)
      obtain ⟨⟨p0, p1, p2⟩, -⟩ := h1 k x hx
      obtain ⟨⟨q0, q1, q2⟩, -⟩ := h2 k x hx
      clear h1 h2 hx
      have dlt : decide ((k : Int) < (l.length : Int)) = true := decide_eq_true (by omega)
      go_wp2_with fail
      refine wp_region_held_drew (S := fun w' => w'.cell? ⟨b1, o1 + k * 3, none⟩ = some (.string x.key) ∧ w'.cell? ⟨b1, o1 + k * 3 + 1, none⟩ = some (.string x.val) ∧ w'.cell? ⟨b1, o1 + k * 3 + 2, none⟩ = some (.bool x.gone) ∧ w'.cell? ⟨b2, o2 + k * 3, none⟩ = some (.string x.key) ∧ w'.cell? ⟨b2, o2 + k * 3 + 1, none⟩ = some (.string x.val) ∧ w'.cell? ⟨b2, o2 + k * 3 + 2, none⟩ = some (.bool x.gone)) (by kernel_rfl) ?_ (fun hHeld => ?_)
      · exact ⟨p0, p1, p2, q0, q1, q2⟩
      refine wpAnyH_take (i := 0) (oi := ({ dst := some 17, op := Op.move (Operand.tmp 0), type := 38, pos := "parts.go:98", after := #[], guard := none } : Oper)) (v := .slice (some ⟨b1, o1, none⟩) l.length c) rfl (by kernel_rfl) (by kernel_rfl) (by kernel_rfl) (fun _ _ _ h => h) (Or.inl ⟨by rfl, ?_⟩) (by assumption) ?_
      · intro w hSw; (try dsimp only at hSw); go_simp
      (try simp only [Act.put, List.setIfInBounds_toArray, List.set_cons_zero, List.set_cons_succ])
      refine wpAnyH_take (i := 1) (oi := ({ dst := some 18, op := Op.move (Operand.tmp 5), type := 3, pos := "parts.go:98", after := #[], guard := none } : Oper)) (v := .int .i64 k) rfl (by kernel_rfl) (by kernel_rfl) (by kernel_rfl) (fun _ _ _ h => h) (Or.inl ⟨by rfl, ?_⟩) (by assumption) ?_
      · intro w hSw; (try dsimp only at hSw); go_simp
      (try simp only [Act.put, List.setIfInBounds_toArray, List.set_cons_zero, List.set_cons_succ])
      refine wpAnyH_take (i := 2) (oi := ({ dst := some 19, op := Op.indexAddr 38 (Operand.tmp 17) (Operand.tmp 18), type := 0, pos := "parts.go:98", after := #[{ on := 0, ground := Ground.data }, { on := 1, ground := Ground.data }], guard := none } : Oper)) (v := .pointer (some ⟨b1, o1 + k * 3, none⟩)) rfl (by kernel_rfl) (by kernel_rfl) (by kernel_rfl) (fun _ _ _ h => h) (Or.inl ⟨by rfl, ?_⟩) (by assumption) ?_
      · intro w hSw; (try dsimp only at hSw); go_simp
      (try simp only [Act.put, List.setIfInBounds_toArray, List.set_cons_zero, List.set_cons_succ])
      refine wpAnyH_take (i := 3) (oi := ({ dst := some 20, op := Op.load 56 (Operand.tmp 19), type := 56, pos := "parts.go:98", after := #[{ on := 2, ground := Ground.data }], guard := none } : Oper)) (v := .agg #[.string x.key, .string x.val, .bool x.gone]) rfl (by kernel_rfl) (by kernel_rfl) (by kernel_rfl) (fun _ _ _ h => h) (Or.inl ⟨by rfl, ?_⟩) (by assumption) ?_
      · intro w hSw; (try dsimp only at hSw); go_simp
      (try simp only [Act.put, List.setIfInBounds_toArray, List.set_cons_zero, List.set_cons_succ])
      refine wpAnyH_take (i := 4) (oi := ({ dst := some 21, op := Op.move (Operand.tmp 1), type := 38, pos := "parts.go:98", after := #[], guard := none } : Oper)) (v := .slice (some ⟨b2, o2, none⟩) l.length c') rfl (by kernel_rfl) (by kernel_rfl) (by kernel_rfl) (fun _ _ _ h => h) (Or.inl ⟨by rfl, ?_⟩) (by assumption) ?_
      · intro w hSw; (try dsimp only at hSw); go_simp
      (try simp only [Act.put, List.setIfInBounds_toArray, List.set_cons_zero, List.set_cons_succ])
      refine wpAnyH_take (i := 5) (oi := ({ dst := some 22, op := Op.move (Operand.tmp 5), type := 3, pos := "parts.go:98", after := #[], guard := none } : Oper)) (v := .int .i64 k) rfl (by kernel_rfl) (by kernel_rfl) (by kernel_rfl) (fun _ _ _ h => h) (Or.inl ⟨by rfl, ?_⟩) (by assumption) ?_
      · intro w hSw; (try dsimp only at hSw); go_simp
      (try simp only [Act.put, List.setIfInBounds_toArray, List.set_cons_zero, List.set_cons_succ])
      refine wpAnyH_take (i := 6) (oi := ({ dst := some 23, op := Op.indexAddr 38 (Operand.tmp 21) (Operand.tmp 22), type := 0, pos := "parts.go:98", after := #[{ on := 4, ground := Ground.data }, { on := 5, ground := Ground.data }], guard := none } : Oper)) (v := .pointer (some ⟨b2, o2 + k * 3, none⟩)) rfl (by kernel_rfl) (by kernel_rfl) (by kernel_rfl) (fun _ _ _ h => h) (Or.inl ⟨by rfl, ?_⟩) (by assumption) ?_
      · intro w hSw; (try dsimp only at hSw); go_simp
      (try simp only [Act.put, List.setIfInBounds_toArray, List.set_cons_zero, List.set_cons_succ])
      refine wpAnyH_take (i := 7) (oi := ({ dst := some 24, op := Op.load 56 (Operand.tmp 23), type := 56, pos := "parts.go:98", after := #[{ on := 6, ground := Ground.data }], guard := none } : Oper)) (v := .agg #[.string x.key, .string x.val, .bool x.gone]) rfl (by kernel_rfl) (by kernel_rfl) (by kernel_rfl) (fun _ _ _ h => h) (Or.inl ⟨by rfl, ?_⟩) (by assumption) ?_
      · intro w hSw; (try dsimp only at hSw); go_simp
      (try simp only [Act.put, List.setIfInBounds_toArray, List.set_cons_zero, List.set_cons_succ])
      refine wpAnyH_take (i := 8) (oi := ({ dst := some 25, op := Op.binOp BinOp.neq 56 (Operand.tmp 20) (Operand.tmp 24) 56, type := 4, pos := "parts.go:98", after := #[{ on := 3, ground := Ground.data }, { on := 7, ground := Ground.data }], guard := none } : Oper)) (v := .bool false) rfl (by kernel_rfl) (by kernel_rfl) (by kernel_rfl) (fun _ _ _ h => h) (Or.inl ⟨by rfl, ?_⟩) (by assumption) ?_
      · intro w hSw; (try dsimp only at hSw); go_simp
      (try simp only [Act.put, List.setIfInBounds_toArray, List.set_cons_zero, List.set_cons_succ])
      refine wpAnyH_done (by kernel_rfl) ?_ _
      go_wp2_with fail
      go_roundw
      case rel => exact ⟨k + 1, by omega, by go_num, below_drewN hbl 1⟩
      case measure => simp [intOf]; omega
    · go_wp2_with fail
      go_ret
      exact ⟨rfl, hbl⟩
set_option maxHeartbeats 4000000 in
set_option maxRecDepth 100000 in
theorem samech_any (a b : Option Addr) (c c' : Nat) (l m : List Ch) (w : World) (ha : ChsAt w a l) (hb : ChsAt w b m) (hm : l.length ≤ maxLen) (hm2 : m.length ≤ maxLen) :
    Calls Try.prog 33 #[.slice a l.length c, .slice b m.length c'] w fun e w' => (∃ r, e = .returned (.bool r) ∧ (r = true ↔ l = m)) ∧ Below w.heap.size w w' := by
  unfold maxLen at hm hm2
  by_cases hlm : l.length = m.length
  rotate_left
  · have d0 : ((l.length : Int) == (m.length : Int)) = false := by simp; omega
    go_enter Try.func33, Try.ntmps33
    go_wp2_with fail
    go_ret
    exact ⟨⟨false, rfl, by simp; intro e; exact hlm (by rw [e])⟩, Below.refl _ _⟩
  rw [← hlm]
  have HLM : Hid (l.length = m.length) := hlm
  clear hlm hm2
  go_enter Try.func33, Try.ntmps33
  go_wp2_with fail
  go_loopw [5, 4] (fun i _ wr => ∃ k : Nat, k ≤ l.length ∧ i = .int .i64 k ∧ Below w.heap.size w wr ∧ Hid (l.take k = m.take k)) (fun i _ _ => l.length - (intOf i).toNat)
  case atStart => exact ⟨0, Nat.zero_le _, rfl, Below.refl _ _, rfl⟩
  case round =>
    obtain ⟨k, hk, rfl, hbl, HT⟩ := hrel
    by_cases hlt : k < l.length
    · obtain ⟨x, hx⟩ : ∃ x, l[k]? = some x := ⟨l[k], List.getElem?_eq_getElem hlt⟩
      obtain ⟨y, hy⟩ : ∃ y, m[k]? = some y := ⟨m[k]'(by have := HLM.out; omega), List.getElem?_eq_getElem _⟩
      obtain ⟨b1, o1, rfl, hb1, h1⟩ := (ha.below hbl).resolve_left (by rintro e; rw [e] at hlt; simp at hlt)
      obtain ⟨b2, o2, rfl, hb2, h2⟩ := (hb.below hbl).resolve_left (by rintro e; rw [e] at hy; simp at hy)
      obtain ⟨⟨p0, p1, p2⟩, -⟩ := h1 k x hx
      obtain ⟨⟨q0, q1, q2⟩, -⟩ := h2 k y hy
      have dlt : decide ((k : Int) < (l.length : Int)) = true := decide_eq_true (by omega)
      by_cases hxy : x = y
      · subst hxy
        have HT2 : Hid (l.take (k + 1) = m.take (k + 1)) := by
          show _ = _
          rw [List.take_add_one, List.take_add_one, hx, hy, HT.out]
        clear h1 h2 hx hy HT
        go_wp2_with fail
        refine wp_region_held_drew (S := fun w' => w'.cell? ⟨b1, o1 + k * 3, none⟩ = some (.string x.key) ∧ w'.cell? ⟨b1, o1 + k * 3 + 1, none⟩ = some (.string x.val) ∧ w'.cell? ⟨b1, o1 + k * 3 + 2, none⟩ = some (.bool x.gone) ∧ w'.cell? ⟨b2, o2 + k * 3, none⟩ = some (.string x.key) ∧ w'.cell? ⟨b2, o2 + k * 3 + 1, none⟩ = some (.string x.val) ∧ w'.cell? ⟨b2, o2 + k * 3 + 2, none⟩ = some (.bool x.gone)) (by kernel_rfl) ?_ (fun hHeld => ?_)
        · exact ⟨p0, p1, p2, q0, q1, q2⟩
        refine wpAnyH_take (i := 0) (oi := ({ dst := some 17, op := Op.move (Operand.tmp 0), type := 38, pos := "parts.go:98", after := #[], guard := none } : Oper)) (v := .slice (some ⟨b1, o1, none⟩) l.length c) rfl (by kernel_rfl) (by kernel_rfl) (by kernel_rfl) (fun _ _ _ h => h) (Or.inl ⟨by rfl, ?_⟩) (by assumption) ?_
        · intro w hSw; (try dsimp only at hSw); go_simp
        (try simp only [Act.put, List.setIfInBounds_toArray, List.set_cons_zero, List.set_cons_succ])
        refine wpAnyH_take (i := 1) (oi := ({ dst := some 18, op := Op.move (Operand.tmp 5), type := 3, pos := "parts.go:98", after := #[], guard := none } : Oper)) (v := .int .i64 k) rfl (by kernel_rfl) (by kernel_rfl) (by kernel_rfl) (fun _ _ _ h => h) (Or.inl ⟨by rfl, ?_⟩) (by assumption) ?_
        · intro w hSw; (try dsimp only at hSw); go_simp
        (try simp only [Act.put, List.setIfInBounds_toArray, List.set_cons_zero, List.set_cons_succ])
        refine wpAnyH_take (i := 2) (oi := ({ dst := some 19, op := Op.indexAddr 38 (Operand.tmp 17) (Operand.tmp 18), type := 0, pos := "parts.go:98", after := #[{ on := 0, ground := Ground.data }, { on := 1, ground := Ground.data }], guard := none } : Oper)) (v := .pointer (some ⟨b1, o1 + k * 3, none⟩)) rfl (by kernel_rfl) (by kernel_rfl) (by kernel_rfl) (fun _ _ _ h => h) (Or.inl ⟨by rfl, ?_⟩) (by assumption) ?_
        · intro w hSw; (try dsimp only at hSw); go_simp
        (try simp only [Act.put, List.setIfInBounds_toArray, List.set_cons_zero, List.set_cons_succ])
        refine wpAnyH_take (i := 3) (oi := ({ dst := some 20, op := Op.load 56 (Operand.tmp 19), type := 56, pos := "parts.go:98", after := #[{ on := 2, ground := Ground.data }], guard := none } : Oper)) (v := .agg #[.string x.key, .string x.val, .bool x.gone]) rfl (by kernel_rfl) (by kernel_rfl) (by kernel_rfl) (fun _ _ _ h => h) (Or.inl ⟨by rfl, ?_⟩) (by assumption) ?_
        · intro w hSw; (try dsimp only at hSw); go_simp
        (try simp only [Act.put, List.setIfInBounds_toArray, List.set_cons_zero, List.set_cons_succ])
        refine wpAnyH_take (i := 4) (oi := ({ dst := some 21, op := Op.move (Operand.tmp 1), type := 38, pos := "parts.go:98", after := #[], guard := none } : Oper)) (v := .slice (some ⟨b2, o2, none⟩) l.length c') rfl (by kernel_rfl) (by kernel_rfl) (by kernel_rfl) (fun _ _ _ h => h) (Or.inl ⟨by rfl, ?_⟩) (by assumption) ?_
        · intro w hSw; (try dsimp only at hSw); go_simp
        (try simp only [Act.put, List.setIfInBounds_toArray, List.set_cons_zero, List.set_cons_succ])
        refine wpAnyH_take (i := 5) (oi := ({ dst := some 22, op := Op.move (Operand.tmp 5), type := 3, pos := "parts.go:98", after := #[], guard := none } : Oper)) (v := .int .i64 k) rfl (by kernel_rfl) (by kernel_rfl) (by kernel_rfl) (fun _ _ _ h => h) (Or.inl ⟨by rfl, ?_⟩) (by assumption) ?_
        · intro w hSw; (try dsimp only at hSw); go_simp
        (try simp only [Act.put, List.setIfInBounds_toArray, List.set_cons_zero, List.set_cons_succ])
        refine wpAnyH_take (i := 6) (oi := ({ dst := some 23, op := Op.indexAddr 38 (Operand.tmp 21) (Operand.tmp 22), type := 0, pos := "parts.go:98", after := #[{ on := 4, ground := Ground.data }, { on := 5, ground := Ground.data }], guard := none } : Oper)) (v := .pointer (some ⟨b2, o2 + k * 3, none⟩)) rfl (by kernel_rfl) (by kernel_rfl) (by kernel_rfl) (fun _ _ _ h => h) (Or.inl ⟨by rfl, ?_⟩) (by assumption) ?_
        · intro w hSw; (try dsimp only at hSw); go_simp
        (try simp only [Act.put, List.setIfInBounds_toArray, List.set_cons_zero, List.set_cons_succ])
        refine wpAnyH_take (i := 7) (oi := ({ dst := some 24, op := Op.load 56 (Operand.tmp 23), type := 56, pos := "parts.go:98", after := #[{ on := 6, ground := Ground.data }], guard := none } : Oper)) (v := .agg #[.string x.key, .string x.val, .bool x.gone]) rfl (by kernel_rfl) (by kernel_rfl) (by kernel_rfl) (fun _ _ _ h => h) (Or.inl ⟨by rfl, ?_⟩) (by assumption) ?_
        · intro w hSw; (try dsimp only at hSw); go_simp
        (try simp only [Act.put, List.setIfInBounds_toArray, List.set_cons_zero, List.set_cons_succ])
        refine wpAnyH_take (i := 8) (oi := ({ dst := some 25, op := Op.binOp BinOp.neq 56 (Operand.tmp 20) (Operand.tmp 24) 56, type := 4, pos := "parts.go:98", after := #[{ on := 3, ground := Ground.data }, { on := 7, ground := Ground.data }], guard := none } : Oper)) (v := .bool false) rfl (by kernel_rfl) (by kernel_rfl) (by kernel_rfl) (fun _ _ _ h => h) (Or.inl ⟨by rfl, ?_⟩) (by assumption) ?_
        · intro w hSw; (try dsimp only at hSw); go_simp
        (try simp only [Act.put, List.setIfInBounds_toArray, List.set_cons_zero, List.set_cons_succ])
        refine wpAnyH_done (by kernel_rfl) ?_ _
        go_wp2_with fail
        go_roundw
        case rel => exact ⟨k + 1, by omega, by go_num, below_drewN hbl 1, HT2⟩
        case measure => simp [intOf]; omega
      · have HN : Hid (l ≠ m) := fun e => hxy (by rw [e, hy] at hx; exact (Option.some.inj hx).symm)
        have hne : x.key.toList = y.key.toList → x.val.toList = y.val.toList → ¬ x.gone = y.gone := fun e1 e2 e3 => hxy (ch_ext (tl_inj e1) (tl_inj e2) e3)
        clear h1 h2 hx hy HT hxy
        go_wp2_with fail
        refine wp_region_held_drew (S := fun w' => w'.cell? ⟨b1, o1 + k * 3, none⟩ = some (.string x.key) ∧ w'.cell? ⟨b1, o1 + k * 3 + 1, none⟩ = some (.string x.val) ∧ w'.cell? ⟨b1, o1 + k * 3 + 2, none⟩ = some (.bool x.gone) ∧ w'.cell? ⟨b2, o2 + k * 3, none⟩ = some (.string y.key) ∧ w'.cell? ⟨b2, o2 + k * 3 + 1, none⟩ = some (.string y.val) ∧ w'.cell? ⟨b2, o2 + k * 3 + 2, none⟩ = some (.bool y.gone)) (by kernel_rfl) ?_ (fun hHeld => ?_)
        · exact ⟨p0, p1, p2, q0, q1, q2⟩
        refine wpAnyH_take (i := 0) (oi := ({ dst := some 17, op := Op.move (Operand.tmp 0), type := 38, pos := "parts.go:98", after := #[], guard := none } : Oper)) (v := .slice (some ⟨b1, o1, none⟩) l.length c) rfl (by kernel_rfl) (by kernel_rfl) (by kernel_rfl) (fun _ _ _ h => h) (Or.inl ⟨by rfl, ?_⟩) (by assumption) ?_
        · intro w hSw; (try dsimp only at hSw); go_simp
        (try simp only [Act.put, List.setIfInBounds_toArray, List.set_cons_zero, List.set_cons_succ])
        refine wpAnyH_take (i := 1) (oi := ({ dst := some 18, op := Op.move (Operand.tmp 5), type := 3, pos := "parts.go:98", after := #[], guard := none } : Oper)) (v := .int .i64 k) rfl (by kernel_rfl) (by kernel_rfl) (by kernel_rfl) (fun _ _ _ h => h) (Or.inl ⟨by rfl, ?_⟩) (by assumption) ?_
        · intro w hSw; (try dsimp only at hSw); go_simp
        (try simp only [Act.put, List.setIfInBounds_toArray, List.set_cons_zero, List.set_cons_succ])
        refine wpAnyH_take (i := 2) (oi := ({ dst := some 19, op := Op.indexAddr 38 (Operand.tmp 17) (Operand.tmp 18), type := 0, pos := "parts.go:98", after := #[{ on := 0, ground := Ground.data }, { on := 1, ground := Ground.data }], guard := none } : Oper)) (v := .pointer (some ⟨b1, o1 + k * 3, none⟩)) rfl (by kernel_rfl) (by kernel_rfl) (by kernel_rfl) (fun _ _ _ h => h) (Or.inl ⟨by rfl, ?_⟩) (by assumption) ?_
        · intro w hSw; (try dsimp only at hSw); go_simp
        (try simp only [Act.put, List.setIfInBounds_toArray, List.set_cons_zero, List.set_cons_succ])
        refine wpAnyH_take (i := 3) (oi := ({ dst := some 20, op := Op.load 56 (Operand.tmp 19), type := 56, pos := "parts.go:98", after := #[{ on := 2, ground := Ground.data }], guard := none } : Oper)) (v := .agg #[.string x.key, .string x.val, .bool x.gone]) rfl (by kernel_rfl) (by kernel_rfl) (by kernel_rfl) (fun _ _ _ h => h) (Or.inl ⟨by rfl, ?_⟩) (by assumption) ?_
        · intro w hSw; (try dsimp only at hSw); go_simp
        (try simp only [Act.put, List.setIfInBounds_toArray, List.set_cons_zero, List.set_cons_succ])
        refine wpAnyH_take (i := 4) (oi := ({ dst := some 21, op := Op.move (Operand.tmp 1), type := 38, pos := "parts.go:98", after := #[], guard := none } : Oper)) (v := .slice (some ⟨b2, o2, none⟩) l.length c') rfl (by kernel_rfl) (by kernel_rfl) (by kernel_rfl) (fun _ _ _ h => h) (Or.inl ⟨by rfl, ?_⟩) (by assumption) ?_
        · intro w hSw; (try dsimp only at hSw); go_simp
        (try simp only [Act.put, List.setIfInBounds_toArray, List.set_cons_zero, List.set_cons_succ])
        refine wpAnyH_take (i := 5) (oi := ({ dst := some 22, op := Op.move (Operand.tmp 5), type := 3, pos := "parts.go:98", after := #[], guard := none } : Oper)) (v := .int .i64 k) rfl (by kernel_rfl) (by kernel_rfl) (by kernel_rfl) (fun _ _ _ h => h) (Or.inl ⟨by rfl, ?_⟩) (by assumption) ?_
        · intro w hSw; (try dsimp only at hSw); go_simp
        (try simp only [Act.put, List.setIfInBounds_toArray, List.set_cons_zero, List.set_cons_succ])
        refine wpAnyH_take (i := 6) (oi := ({ dst := some 23, op := Op.indexAddr 38 (Operand.tmp 21) (Operand.tmp 22), type := 0, pos := "parts.go:98", after := #[{ on := 4, ground := Ground.data }, { on := 5, ground := Ground.data }], guard := none } : Oper)) (v := .pointer (some ⟨b2, o2 + k * 3, none⟩)) rfl (by kernel_rfl) (by kernel_rfl) (by kernel_rfl) (fun _ _ _ h => h) (Or.inl ⟨by rfl, ?_⟩) (by assumption) ?_
        · intro w hSw; (try dsimp only at hSw); go_simp
        (try simp only [Act.put, List.setIfInBounds_toArray, List.set_cons_zero, List.set_cons_succ])
        refine wpAnyH_take (i := 7) (oi := ({ dst := some 24, op := Op.load 56 (Operand.tmp 23), type := 56, pos := "parts.go:98", after := #[{ on := 6, ground := Ground.data }], guard := none } : Oper)) (v := .agg #[.string y.key, .string y.val, .bool y.gone]) rfl (by kernel_rfl) (by kernel_rfl) (by kernel_rfl) (fun _ _ _ h => h) (Or.inl ⟨by rfl, ?_⟩) (by assumption) ?_
        · intro w hSw; (try dsimp only at hSw); go_simp
        (try simp only [Act.put, List.setIfInBounds_toArray, List.set_cons_zero, List.set_cons_succ])
        refine wpAnyH_take (i := 8) (oi := ({ dst := some 25, op := Op.binOp BinOp.neq 56 (Operand.tmp 20) (Operand.tmp 24) 56, type := 4, pos := "parts.go:98", after := #[{ on := 3, ground := Ground.data }, { on := 7, ground := Ground.data }], guard := none } : Oper)) (v := .bool true) rfl (by kernel_rfl) (by kernel_rfl) (by kernel_rfl) (fun _ _ _ h => h) (Or.inl ⟨by rfl, ?_⟩) (by assumption) ?_
        · intro w hSw; go_simp; exact hne
        (try simp only [Act.put, List.setIfInBounds_toArray, List.set_cons_zero, List.set_cons_succ])
        refine wpAnyH_done (by kernel_rfl) ?_ _
        go_wp2_with fail
        go_ret
        exact ⟨⟨false, rfl, by simp; exact HN.out⟩, below_drewN hbl 1⟩
    · have HE : Hid (l = m) := by
        show _ = _
        have h1 := HT.out
        have := HLM.out
        rwa [List.take_of_length_le (by omega), List.take_of_length_le (by omega)] at h1
      have dlt : decide ((k : Int) < (l.length : Int)) = false := decide_eq_false (by omega)
      clear HT
      go_wp2_with fail
      go_ret
      exact ⟨⟨true, rfl, by simp; exact HE.out⟩, hbl⟩
theorem DdsB.below {B : Nat → Prop} {w w' : World} {a : Option Addr} {L : List (List Ch)} (h : DdsB B w a L) (hb : Below w.heap.size w w') : DdsB B w' a L := h.tr (Tr.of_below hb)
theorem ChsB.below {B : Nat → Prop} {w w' : World} {a : Option Addr} {l : List Ch} (h : ChsB B w a l) (hb : Below w.heap.size w w') : ChsB B w' a l := h.tr (Tr.of_below hb)
set_option maxHeartbeats 4000000 in
set_option maxRecDepth 100000 in
theorem samedd_any (B C : Nat → Prop) (a b : Option Addr) (c c' : Nat) (L M : List (List Ch)) (w : World) (ha : DdsB B w a L) (hb : DdsB C w b M) (hl : L.length ≤ 1000000) (hl2 : M.length ≤ 1000000) (hs : ∀ x ∈ L, x.length ≤ maxLen) (hs2 : ∀ x ∈ M, x.length ≤ maxLen) :
    Calls Try.prog 39 #[.slice a L.length c, .slice b M.length c'] w fun e w' => (∃ r, e = .returned (.bool r) ∧ (r = true ↔ L = M)) ∧ Below w.heap.size w w' := by
  by_cases hlm : L.length = M.length
  rotate_left
  · have d0 : ((L.length : Int) == (M.length : Int)) = false := by simp; omega
    go_enter Try.func39, Try.ntmps39
    go_wp2_with fail
    go_ret
    exact ⟨⟨false, rfl, by simp; intro e; exact hlm (by rw [e])⟩, Below.refl _ _⟩
  rw [← hlm]
  have HLM : Hid (L.length = M.length) := hlm
  clear hlm hl2
  go_enter Try.func39, Try.ntmps39
  go_wp2_with fail
  go_loopw [5, 4, 6] (fun i _ _ wr => ∃ k : Nat, k ≤ L.length ∧ i = .int .i64 k ∧ Below w.heap.size w wr ∧ Hid (L.take k = M.take k)) (fun i _ _ _ => L.length - (intOf i).toNat)
  case atStart => exact ⟨0, Nat.zero_le _, rfl, Below.refl _ _, rfl⟩
  case round =>
    obtain ⟨k, hk, rfl, hbl, HT⟩ := hrel
    by_cases hlt : k < L.length
    · obtain ⟨x, hx⟩ : ∃ x, L[k]? = some x := ⟨L[k], List.getElem?_eq_getElem hlt⟩
      obtain ⟨y, hy⟩ : ∃ y, M[k]? = some y := ⟨M[k]'(by have := HLM.out; omega), List.getElem?_eq_getElem _⟩
      have hba : Tr B B w wr ∨ True := .inr trivial
      have ha' : ∃ b1 o1, a = some ⟨b1, o1, none⟩ ∧ b1 < wr.heap.size ∧ ∃ a' ca, wr.cell? ⟨b1, o1 + k, none⟩ = some (.slice a' x.length ca) ∧ ChsAt wr a' x := by
        obtain ⟨b1, o1, h1, h2, h3, h4⟩ := ha.resolve_left (by rintro e; rw [e] at hlt; simp at hlt)
        obtain ⟨a', ca, h5, h6⟩ := h4 k x hx
        exact ⟨b1, o1, h1, Nat.lt_of_lt_of_le h2 hbl.size, a', ca, by rw [(bcell hbl).1 _ _ h2]; exact h5, h6.at_.below hbl⟩
      have hb' : ∃ b1 o1, b = some ⟨b1, o1, none⟩ ∧ b1 < wr.heap.size ∧ ∃ a' ca, wr.cell? ⟨b1, o1 + k, none⟩ = some (.slice a' y.length ca) ∧ ChsAt wr a' y := by
        obtain ⟨b1, o1, h1, h2, h3, h4⟩ := hb.resolve_left (by rintro e; rw [e] at hy; simp at hy)
        obtain ⟨a', ca, h5, h6⟩ := h4 k y hy
        exact ⟨b1, o1, h1, Nat.lt_of_lt_of_le h2 hbl.size, a', ca, by rw [(bcell hbl).1 _ _ h2]; exact h5, h6.at_.below hbl⟩
      obtain ⟨b1, o1, rfl, hb1, a1, c1, p1, hx1⟩ := ha'
      obtain ⟨b2, o2, rfl, hb2, a2, c2, p2, hy1⟩ := hb'
      have hbd : Below wr.heap.size wr wr.drew := below_drewN (Below.refl _ _) 1
      have hcon := samech_any a1 a2 c1 c2 x y wr.drew (hx1.below hbd) (hy1.below hbd) (hs x (List.mem_of_getElem? hx)) (hs2 y (List.mem_of_getElem? hy))
      have dlt : decide ((k : Int) < (L.length : Int)) = true := decide_eq_true (by omega)
      have HX : Hid (∀ r : Bool, (r = true ↔ x = y) → (r = true → L.take (k + 1) = M.take (k + 1)) ∧ (r = false → L ≠ M)) := fun r hr => ⟨fun h => by
        rw [List.take_add_one, List.take_add_one, hx, hy, HT.out, hr.1 h], fun h e => by
        rw [e, hy] at hx
        have := hr.2 (Option.some.inj hx).symm
        rw [h] at this
        cases this⟩
      clear hx hy HT ha hb hx1 hy1 hba
      go_wp2_with fail
      refine wp_region_held_drew (S := fun w' => w'.cell? ⟨b1, o1 + k, none⟩ = some (.slice a1 x.length c1) ∧ w'.cell? ⟨b2, o2 + k, none⟩ = some (.slice a2 y.length c2)) (by kernel_rfl) ?_ (fun hHeld => ?_)
      · exact ⟨p1, p2⟩
      refine wpAnyH_take (i := 0) (oi := ({ dst := some 18, op := Op.move (Operand.tmp 0), type := 71, pos := "parts.go:111", after := #[], guard := none } : Oper)) (v := .slice (some ⟨b1, o1, none⟩) L.length c) rfl (by kernel_rfl) (by kernel_rfl) (by kernel_rfl) (fun _ _ _ h => h) (Or.inl ⟨by rfl, ?_⟩) (by assumption) ?_
      · intro w hSw; (try dsimp only at hSw); go_simp
      (try simp only [Act.put, List.setIfInBounds_toArray, List.set_cons_zero, List.set_cons_succ])
      refine wpAnyH_take (i := 1) (oi := ({ dst := some 19, op := Op.move (Operand.tmp 5), type := 3, pos := "parts.go:111", after := #[], guard := none } : Oper)) (v := .int .i64 k) rfl (by kernel_rfl) (by kernel_rfl) (by kernel_rfl) (fun _ _ _ h => h) (Or.inl ⟨by rfl, ?_⟩) (by assumption) ?_
      · intro w hSw; (try dsimp only at hSw); go_simp
      (try simp only [Act.put, List.setIfInBounds_toArray, List.set_cons_zero, List.set_cons_succ])
      refine wpAnyH_take (i := 2) (oi := ({ dst := some 20, op := Op.indexAddr 71 (Operand.tmp 18) (Operand.tmp 19), type := 0, pos := "parts.go:111", after := #[{ on := 0, ground := Ground.data }, { on := 1, ground := Ground.data }], guard := none } : Oper)) (v := .pointer (some ⟨b1, o1 + k, none⟩)) rfl (by kernel_rfl) (by kernel_rfl) (by kernel_rfl) (fun _ _ _ h => h) (Or.inl ⟨by rfl, ?_⟩) (by assumption) ?_
      · intro w hSw; (try dsimp only at hSw); go_simp
      (try simp only [Act.put, List.setIfInBounds_toArray, List.set_cons_zero, List.set_cons_succ])
      refine wpAnyH_take (i := 3) (oi := ({ dst := some 21, op := Op.load 38 (Operand.tmp 20), type := 38, pos := "parts.go:111", after := #[{ on := 2, ground := Ground.data }], guard := none } : Oper)) (v := .slice a1 x.length c1) rfl (by kernel_rfl) (by kernel_rfl) (by kernel_rfl) (fun _ _ _ h => h) (Or.inl ⟨by rfl, ?_⟩) (by assumption) ?_
      · intro w hSw; (try dsimp only at hSw); go_simp
      (try simp only [Act.put, List.setIfInBounds_toArray, List.set_cons_zero, List.set_cons_succ])
      refine wpAnyH_take (i := 4) (oi := ({ dst := some 22, op := Op.move (Operand.tmp 1), type := 71, pos := "parts.go:111", after := #[], guard := none } : Oper)) (v := .slice (some ⟨b2, o2, none⟩) L.length c') rfl (by kernel_rfl) (by kernel_rfl) (by kernel_rfl) (fun _ _ _ h => h) (Or.inl ⟨by rfl, ?_⟩) (by assumption) ?_
      · intro w hSw; (try dsimp only at hSw); go_simp
      (try simp only [Act.put, List.setIfInBounds_toArray, List.set_cons_zero, List.set_cons_succ])
      refine wpAnyH_take (i := 5) (oi := ({ dst := some 23, op := Op.move (Operand.tmp 5), type := 3, pos := "parts.go:111", after := #[], guard := none } : Oper)) (v := .int .i64 k) rfl (by kernel_rfl) (by kernel_rfl) (by kernel_rfl) (fun _ _ _ h => h) (Or.inl ⟨by rfl, ?_⟩) (by assumption) ?_
      · intro w hSw; (try dsimp only at hSw); go_simp
      (try simp only [Act.put, List.setIfInBounds_toArray, List.set_cons_zero, List.set_cons_succ])
      refine wpAnyH_take (i := 6) (oi := ({ dst := some 24, op := Op.indexAddr 71 (Operand.tmp 22) (Operand.tmp 23), type := 0, pos := "parts.go:111", after := #[{ on := 4, ground := Ground.data }, { on := 5, ground := Ground.data }], guard := none } : Oper)) (v := .pointer (some ⟨b2, o2 + k, none⟩)) rfl (by kernel_rfl) (by kernel_rfl) (by kernel_rfl) (fun _ _ _ h => h) (Or.inl ⟨by rfl, ?_⟩) (by assumption) ?_
      · intro w hSw; (try dsimp only at hSw); go_simp
      (try simp only [Act.put, List.setIfInBounds_toArray, List.set_cons_zero, List.set_cons_succ])
      refine wpAnyH_take (i := 7) (oi := ({ dst := some 25, op := Op.load 38 (Operand.tmp 24), type := 38, pos := "parts.go:111", after := #[{ on := 6, ground := Ground.data }], guard := none } : Oper)) (v := .slice a2 y.length c2) rfl (by kernel_rfl) (by kernel_rfl) (by kernel_rfl) (fun _ _ _ h => h) (Or.inl ⟨by rfl, ?_⟩) (by assumption) ?_
      · intro w hSw; (try dsimp only at hSw); go_simp
      (try simp only [Act.put, List.setIfInBounds_toArray, List.set_cons_zero, List.set_cons_succ])
      refine wpAnyH_ready (rs := [8]) (by kernel_rfl) (by simp) ?_
      refine AllReadyH.cons (o := ({ dst := some 26, op := Op.call { callee := Callee.value (Operand.func 33), args := #[Operand.tmp 21, Operand.tmp 25], argTypes := #[38, 38] }, type := 4, pos := "parts.go:111", after := #[{ on := 3, ground := Ground.data }, { on := 7, ground := Ground.data }], guard := none } : Oper)) rfl (fun K hK => ?_) AllReadyH.nil
      rw [if_pos (by rfl)]
      go_wp2_with fail
      refine hcon.mono ?_
      rintro e ws ⟨⟨r, rfl, hr⟩, hbs⟩
      clear hcon
      have s1 : ws.cell? ⟨b1, o1 + k, none⟩ = some (.slice a1 x.length c1) := by rw [(bcell hbs).1 _ _ hb1]; exact p1
      have s2 : ws.cell? ⟨b2, o2 + k, none⟩ = some (.slice a2 y.length c2) := by rw [(bcell hbs).1 _ _ hb2]; exact p2
      go_wp2_with fail
      refine hK.out _ _ ?_ (fun hHeld => ?_)
      · exact ⟨s1, s2⟩
      clear hK K
      (try simp only [Act.put, List.setIfInBounds_toArray, List.set_cons_zero, List.set_cons_succ])
      refine wpAnyH_take (i := 9) (oi := ({ dst := some 6, op := Op.assign (Operand.tmp 26), type := 4, pos := "parts.go:111", after := #[{ on := 8, ground := Ground.data }, { on := 8, ground := Ground.chain }, { on := 0, ground := Ground.phase }, { on := 1, ground := Ground.phase }, { on := 2, ground := Ground.phase }, { on := 3, ground := Ground.phase }, { on := 4, ground := Ground.phase }, { on := 5, ground := Ground.phase }, { on := 6, ground := Ground.phase }, { on := 7, ground := Ground.phase }, { on := 8, ground := Ground.phase }], guard := none } : Oper)) (v := .bool r) rfl (by kernel_rfl) (by kernel_rfl) (by kernel_rfl) (fun _ _ _ h => h) (Or.inl ⟨by rfl, ?_⟩) (by assumption) ?_
      · intro w hSw; (try dsimp only at hSw); go_simp
      (try simp only [Act.put, List.setIfInBounds_toArray, List.set_cons_zero, List.set_cons_succ])
      refine wpAnyH_done (by kernel_rfl) ?_ _
      have bl1 := Below_after (below_drewN hbl 1) hbs
      cases r
      · have HN := (HX.out false hr).2 rfl
        clear HX hr
        go_wp2_with fail
        go_ret
        exact ⟨⟨false, rfl, by simp; exact HN⟩, bl1⟩
      · have HT2 : Hid (L.take (k + 1) = M.take (k + 1)) := (HX.out true hr).1 rfl
        clear HX hr
        go_wp2_with fail
        go_roundw
        case rel => exact ⟨k + 1, by omega, by go_num, bl1, HT2⟩
        case measure => simp [intOf]; omega
    · have HE : Hid (L = M) := by
        show _ = _
        have h1 := HT.out
        have := HLM.out
        rwa [List.take_of_length_le (by omega), List.take_of_length_le (by omega)] at h1
      have dlt : decide ((k : Int) < (L.length : Int)) = false := decide_eq_false (by omega)
      clear HT
      go_wp2_with fail
      go_ret
      exact ⟨⟨true, rfl, by simp; exact HE.out⟩, hbl⟩
@[go_sem] theorem asErr (v : Value) (w : World) : (Instr.typeAssert (.iface 84 v) 27 84 true).run Try.prog w = .ok (.tuple #[v, .bool true]) w := by kernel_rfl
set_option maxHeartbeats 4000000 in
set_option maxRecDepth 100000 in
theorem number_err (n : Int) (w : World) :
    Calls Try.prog 44 #[errV n] w fun e w' => e = .returned (.int .i64 n) ∧ w' = w := by
  by_cases h : n = 0
  · subst h
    rw [errV_zero]
    go_enter Try.func44, Try.ntmps44
    go_wp2_with fail
    go_ret
    exact ⟨rfl, rfl⟩
  · rw [errV_pos h]
    go_enter Try.func44, Try.ntmps44
    go_wp2_with fail
    go_ret
    exact ⟨rfl, rfl⟩
def ldB (L : List (List Ch)) (most : Int) : Bool := decide ((L.length : Int) ≤ most) && L.all fun x => lchB x 14
set_option maxHeartbeats 4000000 in
set_option maxRecDepth 100000 in
theorem light_any (B : Nat → Prop) (a : Option Addr) (c : Nat) (L : List (List Ch)) (most : Int) (w : World) (ha : DdsB B w a L) (hm : L.length ≤ maxLen) (hs : ∀ x ∈ L, x.length ≤ maxLen) (h0 : 0 ≤ most) (h1 : most ≤ 1000) :
    Calls Try.prog 43 #[.slice a L.length c, .int .i64 most] w fun e w' => e = .returned (.bool (ldB L most)) ∧ w' = w := by
  unfold maxLen at hm
  by_cases hl : (L.length : Int) ≤ most
  rotate_left
  · have HR : Hid (ldB L most = false) := by show _ = _; unfold ldB; rw [decide_eq_false hl]; rfl
    have h2 : most < (L.length : Int) := by omega
    go_enter Try.func43, Try.ntmps43
    go_wp2_with fail
    go_ret
    exact ⟨by rw [HR.out]; rfl, rfl⟩
  have HR : Hid (ldB L most = L.all fun x => lchB x 14) := by show _ = _; unfold ldB; rw [decide_eq_true hl]; rfl
  go_enter Try.func43, Try.ntmps43
  go_wp2_with fail
  go_loopw [5, 4] (fun i _ wr => ∃ k : Nat, k ≤ L.length ∧ i = .int .i64 k ∧ Hid ((L.take k).all (fun x => lchB x 14) = true) ∧ wr = w) (fun i _ _ => L.length - (intOf i).toNat)
  case atStart => exact ⟨0, Nat.zero_le _, rfl, (show Hid _ by show _ = _; simp), rfl⟩
  case round =>
    obtain ⟨k, hk, rfl, hn, rfl⟩ := hrel
    by_cases hlt : k < L.length
    · obtain ⟨x, hx⟩ : ∃ x, L[k]? = some x := ⟨L[k], List.getElem?_eq_getElem hlt⟩
      obtain ⟨b1, o1, rfl, hb1, -, h4⟩ := ha.resolve_left (by rintro e; rw [e] at hlt; simp at hlt)
      obtain ⟨a', ca, p1, h6⟩ := h4 k x hx
      have hcon := lch_any a' ca x 14 wr h6.at_ (hs x (List.mem_of_getElem? hx)) (by decide) (by decide)
      have dlt : decide ((k : Int) < (L.length : Int)) = true := decide_eq_true (by omega)
      have HS : Hid ((L.take (k + 1)).all (fun x => lchB x 14) = ((L.take k).all (fun x => lchB x 14) && lchB x 14)) := by
        show _ = _
        rw [List.take_add_one, hx, List.all_append]
        simp
      have HF : Hid (lchB x 14 = false → L.all (fun x => lchB x 14) = false) := fun h => by
        rw [List.all_eq_false]; exact ⟨x, List.mem_of_getElem? hx, by simp [h]⟩
      clear h4 h6 hx
      cases hb : lchB x 14
      · rw [hb] at hcon
        have HF2 := HF.out hb
        clear hb HF HS
        go_wp2_with fail
        refine hcon.mono ?_
        rintro e w1 ⟨rfl, rfl⟩
        go_wp2_with fail
        go_ret
        exact ⟨by rw [HR.out, HF2]; rfl, rfl⟩
      · rw [hb] at hcon
        have HS2 : Hid ((L.take (k + 1)).all (fun x => lchB x 14) = true) := by show _ = _; rw [HS.out, hn.out, hb]; rfl
        clear hb HF HS hn
        go_wp2_with fail
        refine hcon.mono ?_
        rintro e w1 ⟨rfl, rfl⟩
        go_wp2_with fail
        go_roundw
        case rel => exact ⟨k + 1, by omega, by go_num, HS2, by first | trivial | rfl⟩
        case measure => simp [intOf]; omega
    · have HT := hn.out
      rw [List.take_of_length_le (by omega)] at HT
      have HR2 : Hid (ldB L most = true) := by show _ = _; rw [HR.out]; exact HT
      have dlt : decide ((k : Int) < (L.length : Int)) = false := decide_eq_false (by omega)
      clear hn HT HR
      go_wp2_with fail
      go_ret
      exact ⟨by rw [HR2.out]; rfl, rfl⟩
end Go.Proofs.Ytjhkabhhlpdpaaa
