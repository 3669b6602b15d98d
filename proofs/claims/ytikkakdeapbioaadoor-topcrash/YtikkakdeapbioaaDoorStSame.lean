/- writkeepref: SameChanges; writkeeptop: number, lightDeeds. -/
import Derived.Test.YtikkakdeapbioaaDoorLogFall
set_option linter.unusedVariables false
set_option linter.unusedSimpArgs false
set_option linter.unnecessarySimpa false
namespace Go.Proofs.YtikkakdeapbioaaDoor
open Go.RowKit

theorem tl_inj {a b : ByteArray} (h : a.toList = b.toList) : a = b := by
  rw [ByteArray.toList_eq, ByteArray.toList_eq] at h
  exact ByteArray.ext (Array.ext' h)
theorem ch_ext {x y : Ch} (h1 : x.key = y.key) (h2 : x.val = y.val) (h3 : x.gone = y.gone) : x = y := by cases x; cases y; simp_all
set_option maxHeartbeats 4000000 in
set_option maxRecDepth 100000 in
theorem samech_any (a b : Option Addr) (c c' : Nat) (l m : List Ch) (w : World) (ha : ChsAt w a l) (hb : ChsAt w b m) (hm : l.length ≤ maxLen) (hm2 : m.length ≤ maxLen) :
    Calls Tryd.prog 15 #[.slice a l.length c, .slice b m.length c'] w fun e w' => (∃ r, e = .returned (.bool r) ∧ (r = true ↔ l = m)) ∧ Below w.heap.size w w' := by
  unfold maxLen at hm hm2
  by_cases hlm : l.length = m.length
  rotate_left
  · have d0 : ((l.length : Int) == (m.length : Int)) = false := by simp; omega
    go_enter Tryd.func15, Tryd.ntmps15
    go_wp2_with fail
    go_ret
    exact ⟨⟨false, rfl, by simp; intro e; exact hlm (by rw [e])⟩, Below.refl _ _⟩
  rw [← hlm]
  have HLM : Hid (l.length = m.length) := hlm
  clear hlm hm2
  go_enter Tryd.func15, Tryd.ntmps15
  go_wp2_with fail
  go_loopw [5, 4] (fun i _ wr => ∃ k : Nat, k ≤ l.length ∧ i = .int .i64 k ∧ Below w.heap.size w wr ∧ Hid (l.take k = m.take k)) (fun i _ _ => l.length - (intOf i).toNat)
  case atStart => exact ⟨0, Nat.zero_le _, rfl, Below.refl _ _, rfl⟩
  case round =>
    obtain ⟨k, hk, rfl, hbl, HT⟩ := hrel
    by_cases hlt : k < l.length
    · obtain ⟨x, hx⟩ : ∃ x, l[k]? = some x := ⟨l[k], List.getElem?_eq_getElem hlt⟩
      obtain ⟨y, hy⟩ : ∃ y, m[k]? = some y := ⟨m[k]'(by have := HLM.out; omega), List.getElem?_eq_getElem _⟩
      obtain ⟨b1, o1, rfl, hb1, h1⟩ := (ha.below hbl).resolve_left (by rintro e; rw [e] at hlt; simp at hlt)
      obtain ⟨b2, o2, rfl, hb2, h2⟩ := (hb.below hbl).resolve_left (by rintro e; rw [e] at hy; simp at hy)
      obtain ⟨⟨p0, p1, p2⟩, -⟩ := h1 k x hx
      obtain ⟨⟨q0, q1, q2⟩, -⟩ := h2 k y hy
      have dlt : decide ((k : Int) < (l.length : Int)) = true := decide_eq_true (by omega)
      by_cases hxy : x = y
      · subst hxy
        have HT2 : Hid (l.take (k + 1) = m.take (k + 1)) := by
          show _ = _
          rw [List.take_add_one, List.take_add_one, hx, hy, HT.out]
        clear h1 h2 hx hy HT
        go_wp2_with fail
        refine wp_region_held_drew (S := fun w' => w'.cell? ⟨b1, o1 + k * 3, none⟩ = some (.string x.key) ∧ w'.cell? ⟨b1, o1 + k * 3 + 1, none⟩ = some (.string x.val) ∧ w'.cell? ⟨b1, o1 + k * 3 + 2, none⟩ = some (.bool x.gone) ∧ w'.cell? ⟨b2, o2 + k * 3, none⟩ = some (.string x.key) ∧ w'.cell? ⟨b2, o2 + k * 3 + 1, none⟩ = some (.string x.val) ∧ w'.cell? ⟨b2, o2 + k * 3 + 2, none⟩ = some (.bool x.gone)) (by kernel_rfl) ?_ (fun hHeld => ?_)
        · exact ⟨p0, p1, p2, q0, q1, q2⟩
        refine wpAnyH_take (i := 0) (oi := ({ dst := some 17, op := Op.move (Operand.tmp 0), type := 36, pos := "parts.go:98", after := #[], guard := none } : Oper)) (v := .slice (some ⟨b1, o1, none⟩) l.length c) rfl (by kernel_rfl) (by kernel_rfl) (by kernel_rfl) (fun _ _ _ h => h) (Or.inl ⟨by rfl, ?_⟩) (by assumption) ?_
        · intro w hSw; (try dsimp only at hSw); go_simp
        (try simp only [Act.put, List.setIfInBounds_toArray, List.set_cons_zero, List.set_cons_succ])
        refine wpAnyH_take (i := 1) (oi := ({ dst := some 18, op := Op.move (Operand.tmp 5), type := 3, pos := "parts.go:98", after := #[], guard := none } : Oper)) (v := .int .i64 k) rfl (by kernel_rfl) (by kernel_rfl) (by kernel_rfl) (fun _ _ _ h => h) (Or.inl ⟨by rfl, ?_⟩) (by assumption) ?_
        · intro w hSw; (try dsimp only at hSw); go_simp
        (try simp only [Act.put, List.setIfInBounds_toArray, List.set_cons_zero, List.set_cons_succ])
        refine wpAnyH_take (i := 2) (oi := ({ dst := some 19, op := Op.indexAddr 36 (Operand.tmp 17) (Operand.tmp 18), type := 0, pos := "parts.go:98", after := #[{ on := 0, ground := Ground.data }, { on := 1, ground := Ground.data }], guard := none } : Oper)) (v := .pointer (some ⟨b1, o1 + k * 3, none⟩)) rfl (by kernel_rfl) (by kernel_rfl) (by kernel_rfl) (fun _ _ _ h => h) (Or.inl ⟨by rfl, ?_⟩) (by assumption) ?_
        · intro w hSw; (try dsimp only at hSw); go_simp
        (try simp only [Act.put, List.setIfInBounds_toArray, List.set_cons_zero, List.set_cons_succ])
        refine wpAnyH_take (i := 3) (oi := ({ dst := some 20, op := Op.load 61 (Operand.tmp 19), type := 61, pos := "parts.go:98", after := #[{ on := 2, ground := Ground.data }], guard := none } : Oper)) (v := .agg #[.string x.key, .string x.val, .bool x.gone]) rfl (by kernel_rfl) (by kernel_rfl) (by kernel_rfl) (fun _ _ _ h => h) (Or.inl ⟨by rfl, ?_⟩) (by assumption) ?_
        · intro w hSw; (try dsimp only at hSw); go_simp
        (try simp only [Act.put, List.setIfInBounds_toArray, List.set_cons_zero, List.set_cons_succ])
        refine wpAnyH_take (i := 4) (oi := ({ dst := some 21, op := Op.move (Operand.tmp 1), type := 36, pos := "parts.go:98", after := #[], guard := none } : Oper)) (v := .slice (some ⟨b2, o2, none⟩) l.length c') rfl (by kernel_rfl) (by kernel_rfl) (by kernel_rfl) (fun _ _ _ h => h) (Or.inl ⟨by rfl, ?_⟩) (by assumption) ?_
        · intro w hSw; (try dsimp only at hSw); go_simp
        (try simp only [Act.put, List.setIfInBounds_toArray, List.set_cons_zero, List.set_cons_succ])
        refine wpAnyH_take (i := 5) (oi := ({ dst := some 22, op := Op.move (Operand.tmp 5), type := 3, pos := "parts.go:98", after := #[], guard := none } : Oper)) (v := .int .i64 k) rfl (by kernel_rfl) (by kernel_rfl) (by kernel_rfl) (fun _ _ _ h => h) (Or.inl ⟨by rfl, ?_⟩) (by assumption) ?_
        · intro w hSw; (try dsimp only at hSw); go_simp
        (try simp only [Act.put, List.setIfInBounds_toArray, List.set_cons_zero, List.set_cons_succ])
        refine wpAnyH_take (i := 6) (oi := ({ dst := some 23, op := Op.indexAddr 36 (Operand.tmp 21) (Operand.tmp 22), type := 0, pos := "parts.go:98", after := #[{ on := 4, ground := Ground.data }, { on := 5, ground := Ground.data }], guard := none } : Oper)) (v := .pointer (some ⟨b2, o2 + k * 3, none⟩)) rfl (by kernel_rfl) (by kernel_rfl) (by kernel_rfl) (fun _ _ _ h => h) (Or.inl ⟨by rfl, ?_⟩) (by assumption) ?_
        · intro w hSw; (try dsimp only at hSw); go_simp
        (try simp only [Act.put, List.setIfInBounds_toArray, List.set_cons_zero, List.set_cons_succ])
        refine wpAnyH_take (i := 7) (oi := ({ dst := some 24, op := Op.load 61 (Operand.tmp 23), type := 61, pos := "parts.go:98", after := #[{ on := 6, ground := Ground.data }], guard := none } : Oper)) (v := .agg #[.string x.key, .string x.val, .bool x.gone]) rfl (by kernel_rfl) (by kernel_rfl) (by kernel_rfl) (fun _ _ _ h => h) (Or.inl ⟨by rfl, ?_⟩) (by assumption) ?_
        · intro w hSw; (try dsimp only at hSw); go_simp
        (try simp only [Act.put, List.setIfInBounds_toArray, List.set_cons_zero, List.set_cons_succ])
        refine wpAnyH_take (i := 8) (oi := ({ dst := some 25, op := Op.binOp BinOp.neq 61 (Operand.tmp 20) (Operand.tmp 24) 61, type := 4, pos := "parts.go:98", after := #[{ on := 3, ground := Ground.data }, { on := 7, ground := Ground.data }], guard := none } : Oper)) (v := .bool false) rfl (by kernel_rfl) (by kernel_rfl) (by kernel_rfl) (fun _ _ _ h => h) (Or.inl ⟨by rfl, ?_⟩) (by assumption) ?_
        · intro w hSw; (try dsimp only at hSw); go_simp
        (try simp only [Act.put, List.setIfInBounds_toArray, List.set_cons_zero, List.set_cons_succ])
        refine wpAnyH_done (by kernel_rfl) ?_ _
        go_wp2_with fail
        go_roundw
        case rel => exact ⟨k + 1, by omega, by go_num, below_drewN hbl 1, HT2⟩
        case measure => simp [intOf]; omega
      · have HN : Hid (l ≠ m) := fun e => hxy (by rw [e, hy] at hx; exact (Option.some.inj hx).symm)
        have hne : x.key.toList = y.key.toList → x.val.toList = y.val.toList → ¬ x.gone = y.gone := fun e1 e2 e3 => hxy (ch_ext (tl_inj e1) (tl_inj e2) e3)
        clear h1 h2 hx hy HT hxy
        go_wp2_with fail
        refine wp_region_held_drew (S := fun w' => w'.cell? ⟨b1, o1 + k * 3, none⟩ = some (.string x.key) ∧ w'.cell? ⟨b1, o1 + k * 3 + 1, none⟩ = some (.string x.val) ∧ w'.cell? ⟨b1, o1 + k * 3 + 2, none⟩ = some (.bool x.gone) ∧ w'.cell? ⟨b2, o2 + k * 3, none⟩ = some (.string y.key) ∧ w'.cell? ⟨b2, o2 + k * 3 + 1, none⟩ = some (.string y.val) ∧ w'.cell? ⟨b2, o2 + k * 3 + 2, none⟩ = some (.bool y.gone)) (by kernel_rfl) ?_ (fun hHeld => ?_)
        · exact ⟨p0, p1, p2, q0, q1, q2⟩
        refine wpAnyH_take (i := 0) (oi := ({ dst := some 17, op := Op.move (Operand.tmp 0), type := 36, pos := "parts.go:98", after := #[], guard := none } : Oper)) (v := .slice (some ⟨b1, o1, none⟩) l.length c) rfl (by kernel_rfl) (by kernel_rfl) (by kernel_rfl) (fun _ _ _ h => h) (Or.inl ⟨by rfl, ?_⟩) (by assumption) ?_
        · intro w hSw; (try dsimp only at hSw); go_simp
        (try simp only [Act.put, List.setIfInBounds_toArray, List.set_cons_zero, List.set_cons_succ])
        refine wpAnyH_take (i := 1) (oi := ({ dst := some 18, op := Op.move (Operand.tmp 5), type := 3, pos := "parts.go:98", after := #[], guard := none } : Oper)) (v := .int .i64 k) rfl (by kernel_rfl) (by kernel_rfl) (by kernel_rfl) (fun _ _ _ h => h) (Or.inl ⟨by rfl, ?_⟩) (by assumption) ?_
        · intro w hSw; (try dsimp only at hSw); go_simp
        (try simp only [Act.put, List.setIfInBounds_toArray, List.set_cons_zero, List.set_cons_succ])
        refine wpAnyH_take (i := 2) (oi := ({ dst := some 19, op := Op.indexAddr 36 (Operand.tmp 17) (Operand.tmp 18), type := 0, pos := "parts.go:98", after := #[{ on := 0, ground := Ground.data }, { on := 1, ground := Ground.data }], guard := none } : Oper)) (v := .pointer (some ⟨b1, o1 + k * 3, none⟩)) rfl (by kernel_rfl) (by kernel_rfl) (by kernel_rfl) (fun _ _ _ h => h) (Or.inl ⟨by rfl, ?_⟩) (by assumption) ?_
        · intro w hSw; (try dsimp only at hSw); go_simp
        (try simp only [Act.put, List.setIfInBounds_toArray, List.set_cons_zero, List.set_cons_succ])
        refine wpAnyH_take (i := 3) (oi := ({ dst := some 20, op := Op.load 61 (Operand.tmp 19), type := 61, pos := "parts.go:98", after := #[{ on := 2, ground := Ground.data }], guard := none } : Oper)) (v := .agg #[.string x.key, .string x.val, .bool x.gone]) rfl (by kernel_rfl) (by kernel_rfl) (by kernel_rfl) (fun _ _ _ h => h) (Or.inl ⟨by rfl, ?_⟩) (by assumption) ?_
        · intro w hSw; (try dsimp only at hSw); go_simp
        (try simp only [Act.put, List.setIfInBounds_toArray, List.set_cons_zero, List.set_cons_succ])
        refine wpAnyH_take (i := 4) (oi := ({ dst := some 21, op := Op.move (Operand.tmp 1), type := 36, pos := "parts.go:98", after := #[], guard := none } : Oper)) (v := .slice (some ⟨b2, o2, none⟩) l.length c') rfl (by kernel_rfl) (by kernel_rfl) (by kernel_rfl) (fun _ _ _ h => h) (Or.inl ⟨by rfl, ?_⟩) (by assumption) ?_
        · intro w hSw; (try dsimp only at hSw); go_simp
        (try simp only [Act.put, List.setIfInBounds_toArray, List.set_cons_zero, List.set_cons_succ])
        refine wpAnyH_take (i := 5) (oi := ({ dst := some 22, op := Op.move (Operand.tmp 5), type := 3, pos := "parts.go:98", after := #[], guard := none } : Oper)) (v := .int .i64 k) rfl (by kernel_rfl) (by kernel_rfl) (by kernel_rfl) (fun _ _ _ h => h) (Or.inl ⟨by rfl, ?_⟩) (by assumption) ?_
        · intro w hSw; (try dsimp only at hSw); go_simp
        (try simp only [Act.put, List.setIfInBounds_toArray, List.set_cons_zero, List.set_cons_succ])
        refine wpAnyH_take (i := 6) (oi := ({ dst := some 23, op := Op.indexAddr 36 (Operand.tmp 21) (Operand.tmp 22), type := 0, pos := "parts.go:98", after := #[{ on := 4, ground := Ground.data }, { on := 5, ground := Ground.data }], guard := none } : Oper)) (v := .pointer (some ⟨b2, o2 + k * 3, none⟩)) rfl (by kernel_rfl) (by kernel_rfl) (by kernel_rfl) (fun _ _ _ h => h) (Or.inl ⟨by rfl, ?_⟩) (by assumption) ?_
        · intro w hSw; (try dsimp only at hSw); go_simp
        (try simp only [Act.put, List.setIfInBounds_toArray, List.set_cons_zero, List.set_cons_succ])
        refine wpAnyH_take (i := 7) (oi := ({ dst := some 24, op := Op.load 61 (Operand.tmp 23), type := 61, pos := "parts.go:98", after := #[{ on := 6, ground := Ground.data }], guard := none } : Oper)) (v := .agg #[.string y.key, .string y.val, .bool y.gone]) rfl (by kernel_rfl) (by kernel_rfl) (by kernel_rfl) (fun _ _ _ h => h) (Or.inl ⟨by rfl, ?_⟩) (by assumption) ?_
        · intro w hSw; (try dsimp only at hSw); go_simp
        (try simp only [Act.put, List.setIfInBounds_toArray, List.set_cons_zero, List.set_cons_succ])
        refine wpAnyH_take (i := 8) (oi := ({ dst := some 25, op := Op.binOp BinOp.neq 61 (Operand.tmp 20) (Operand.tmp 24) 61, type := 4, pos := "parts.go:98", after := #[{ on := 3, ground := Ground.data }, { on := 7, ground := Ground.data }], guard := none } : Oper)) (v := .bool true) rfl (by kernel_rfl) (by kernel_rfl) (by kernel_rfl) (fun _ _ _ h => h) (Or.inl ⟨by rfl, ?_⟩) (by assumption) ?_
        · intro w hSw; go_simp; exact hne
        (try simp only [Act.put, List.setIfInBounds_toArray, List.set_cons_zero, List.set_cons_succ])
        refine wpAnyH_done (by kernel_rfl) ?_ _
        go_wp2_with fail
        go_ret
        exact ⟨⟨false, rfl, by simp; exact HN.out⟩, below_drewN hbl 1⟩
    · have HE : Hid (l = m) := by
        show _ = _
        have h1 := HT.out
        have := HLM.out
        rwa [List.take_of_length_le (by omega), List.take_of_length_le (by omega)] at h1
      have dlt : decide ((k : Int) < (l.length : Int)) = false := decide_eq_false (by omega)
      clear HT
      go_wp2_with fail
      go_ret
      exact ⟨⟨true, rfl, by simp; exact HE.out⟩, hbl⟩
theorem DdsB.below {B : Nat → Prop} {w w' : World} {a : Option Addr} {L : List (List Ch)} (h : DdsB B w a L) (hb : Below w.heap.size w w') : DdsB B w' a L := h.tr (Tr.of_below hb)
theorem ChsB.below {B : Nat → Prop} {w w' : World} {a : Option Addr} {l : List Ch} (h : ChsB B w a l) (hb : Below w.heap.size w w') : ChsB B w' a l := h.tr (Tr.of_below hb)
@[go_sem] theorem asErr (v : Value) (w : World) : (Instr.typeAssert (.iface 63 v) 27 63 true).run Tryd.prog w = .ok (.tuple #[v, .bool true]) w := by kernel_rfl
set_option maxHeartbeats 4000000 in
set_option maxRecDepth 100000 in
theorem number_err (n : Int) (w : World) :
    Calls Tryd.prog 21 #[errV n] w fun e w' => e = .returned (.int .i64 n) ∧ w' = w := by
  by_cases h : n = 0
  · subst h
    rw [errV_zero]
    go_enter Tryd.func21, Tryd.ntmps21
    go_wp2_with fail
    go_ret
    exact ⟨rfl, rfl⟩
  · rw [errV_pos h]
    go_enter Tryd.func21, Tryd.ntmps21
    go_wp2_with fail
    go_ret
    exact ⟨rfl, rfl⟩
def ldB (L : List (List Ch)) (most : Int) : Bool := decide ((L.length : Int) ≤ most) && L.all fun x => lchB x 14
set_option maxHeartbeats 4000000 in
set_option maxRecDepth 100000 in
theorem light_any (B : Nat → Prop) (a : Option Addr) (c : Nat) (L : List (List Ch)) (most : Int) (w : World) (ha : DdsB B w a L) (hm : L.length ≤ maxLen) (hs : ∀ x ∈ L, x.length ≤ maxLen) (h0 : 0 ≤ most) (h1 : most ≤ 1000) :
    Calls Tryd.prog 19 #[.slice a L.length c, .int .i64 most] w fun e w' => e = .returned (.bool (ldB L most)) ∧ w' = w := by
  unfold maxLen at hm
  by_cases hl : (L.length : Int) ≤ most
  rotate_left
  · have HR : Hid (ldB L most = false) := by show _ = _; unfold ldB; rw [decide_eq_false hl]; rfl
    have h2 : most < (L.length : Int) := by omega
    go_enter Tryd.func19, Tryd.ntmps19
    go_wp2_with fail
    go_ret
    exact ⟨by rw [HR.out]; rfl, rfl⟩
  have HR : Hid (ldB L most = L.all fun x => lchB x 14) := by show _ = _; unfold ldB; rw [decide_eq_true hl]; rfl
  go_enter Tryd.func19, Tryd.ntmps19
  go_wp2_with fail
  go_loopw [5, 4] (fun i _ wr => ∃ k : Nat, k ≤ L.length ∧ i = .int .i64 k ∧ Hid ((L.take k).all (fun x => lchB x 14) = true) ∧ wr = w) (fun i _ _ => L.length - (intOf i).toNat)
  case atStart => exact ⟨0, Nat.zero_le _, rfl, (show Hid _ by show _ = _; simp), rfl⟩
  case round =>
    obtain ⟨k, hk, rfl, hn, rfl⟩ := hrel
    by_cases hlt : k < L.length
    · obtain ⟨x, hx⟩ : ∃ x, L[k]? = some x := ⟨L[k], List.getElem?_eq_getElem hlt⟩
      obtain ⟨b1, o1, rfl, hb1, -, h4⟩ := ha.resolve_left (by rintro e; rw [e] at hlt; simp at hlt)
      obtain ⟨a', ca, p1, h6⟩ := h4 k x hx
      have hcon := lch_any a' ca x 14 wr h6.at_ (hs x (List.mem_of_getElem? hx)) (by decide) (by decide)
      have dlt : decide ((k : Int) < (L.length : Int)) = true := decide_eq_true (by omega)
      have HS : Hid ((L.take (k + 1)).all (fun x => lchB x 14) = ((L.take k).all (fun x => lchB x 14) && lchB x 14)) := by
        show _ = _
        rw [List.take_add_one, hx, List.all_append]
        simp
      have HF : Hid (lchB x 14 = false → L.all (fun x => lchB x 14) = false) := fun h => by
        rw [List.all_eq_false]; exact ⟨x, List.mem_of_getElem? hx, by simp [h]⟩
      clear h4 h6 hx
      cases hb : lchB x 14
      · rw [hb] at hcon
        have HF2 := HF.out hb
        clear hb HF HS
        go_wp2_with fail
        refine hcon.mono ?_
        rintro e w1 ⟨rfl, rfl⟩
        go_wp2_with fail
        go_ret
        exact ⟨by rw [HR.out, HF2]; rfl, rfl⟩
      · rw [hb] at hcon
        have HS2 : Hid ((L.take (k + 1)).all (fun x => lchB x 14) = true) := by show _ = _; rw [HS.out, hn.out, hb]; rfl
        clear hb HF HS hn
        go_wp2_with fail
        refine hcon.mono ?_
        rintro e w1 ⟨rfl, rfl⟩
        go_wp2_with fail
        go_roundw
        case rel => exact ⟨k + 1, by omega, by go_num, HS2, by first | trivial | rfl⟩
        case measure => simp [intOf]; omega
    · have HT := hn.out
      rw [List.take_of_length_le (by omega)] at HT
      have HR2 : Hid (ldB L most = true) := by show _ = _; rw [HR.out]; exact HT
      have dlt : decide ((k : Int) < (L.length : Int)) = false := decide_eq_false (by omega)
      clear hn HT HR
      go_wp2_with fail
      go_ret
      exact ⟨by rw [HR2.out]; rfl, rfl⟩
end Go.Proofs.YtikkakdeapbioaaDoor
