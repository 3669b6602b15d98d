/- TopRights holds: for all numbers a, b, c the landed code's answer is true. No condition. -/
import Derived.Test.YtnjncemjghmpoaaRightB
import Derived.Test.YtnjncemjghmpoaaRows
import Derived.ProofKit
import Derived.OpenShut
import Derived.ShutString
namespace Go.Proofs.Ytnjncemjghmpoaa.topRights
open Go.ChangeShapes Go.WideShapes Go.ChangeAt Go.RowKit
set_option linter.unusedVariables false
theorem own : ownKnob Try.prog.godebug = none := by kernel_rfl
theorem eight {a : Int} (h0 : 0 ≤ a) (h7 : a ≤ 7) : ∃ x : Fin 8, a = ((x : Nat) : Int) := ⟨⟨a.toNat, by omega⟩, by simp; omega⟩
theorem land_fin1 : ∀ a b : Fin 8, (bits BinOp.and IntKind.i64 ((a : Nat) : Int) (bits BinOp.and IntKind.i64 ((a : Nat) : Int) ((b : Nat) : Int)) == bits BinOp.and IntKind.i64 ((a : Nat) : Int) ((b : Nat) : Int)) = true := by decide
theorem land_fin2 : ∀ a b : Fin 8, (bits BinOp.and IntKind.i64 ((b : Nat) : Int) (bits BinOp.and IntKind.i64 ((a : Nat) : Int) ((b : Nat) : Int)) == bits BinOp.and IntKind.i64 ((a : Nat) : Int) ((b : Nat) : Int)) = true := by decide
theorem land_fin3 : ∀ a b c : Fin 8, (bits BinOp.and IntKind.i64 ((a : Nat) : Int) ((c : Nat) : Int) == ((c : Nat) : Int)) = true → (bits BinOp.and IntKind.i64 ((b : Nat) : Int) ((c : Nat) : Int) == ((c : Nat) : Int)) = true → (bits BinOp.and IntKind.i64 (bits BinOp.and IntKind.i64 ((a : Nat) : Int) ((b : Nat) : Int)) ((c : Nat) : Int) == ((c : Nat) : Int)) = true := by decide +kernel
theorem prs_fin : ∀ a : Fin 8, prs (txt ((a : Nat) : Int)) = ((a : Nat) : Int) := by decide +kernel
theorem txt_fin : ∀ a b : Fin 8, a ≠ b → ((txt ((a : Nat) : Int)).toList == (txt ((b : Nat) : Int)).toList) = false := by decide +kernel
theorem land_0 : ∀ a : Fin 8, (bits BinOp.and IntKind.i64 ((a : Nat) : Int) 0 == 0) = true := by decide
theorem land_7 : ∀ a : Fin 8, (bits BinOp.and IntKind.i64 7 ((a : Nat) : Int) == ((a : Nat) : Int)) = true := by decide
set_option maxHeartbeats 1000000 in
theorem walk (a b c : Int) (w0 : (Lit.int .i64 a).wf = true) (w1 : (Lit.int .i64 b).wf = true) (w2 : (Lit.int .i64 c).wf = true) (w : World) :
    Calls Try.prog 7 #[.int .i64 a, .int .i64 b, .int .i64 c] w fun e w' => e = .returned (.bool true) ∧ Grown w w' := by
  have s1 : (bits BinOp.and IntKind.i64 7 5 == 5) = true := by decide
  have s1' : (bits BinOp.and IntKind.i64 7 5) = 5 := by decide
  have s2 : ((txt 0).toList == [45]) = true := by decide +kernel
  by_cases ha : 0 ≤ a ∧ a ≤ 7
  · by_cases hb : 0 ≤ b ∧ b ≤ 7
    · by_cases hc : 0 ≤ c ∧ c ≤ 7
      · obtain ⟨x, hx⟩ := eight ha.1 ha.2
        obtain ⟨y, hy⟩ := eight hb.1 hb.2
        obtain ⟨z, hz⟩ := eight hc.1 hc.2
        have f1 := land_fin1 x y
        have f2 := land_fin2 x y
        have f3 := land_fin3 x y z
        have f4 := prs_fin x
        have f5 := land_0 x
        have f6 := land_7 x
        rw [← hx, ← hy] at f1 f2
        rw [← hx, ← hy, ← hz] at f3
        rw [← hx] at f4 f5 f6
        obtain ⟨ha0, ha7⟩ := ha
        obtain ⟨hb0, hb7⟩ := hb
        obtain ⟨hc0, hc7⟩ := hc
        by_cases hab : a = b
        · have f7 : ((txt a).toList == (txt b).toList) = true := by rw [hab]; simp
          have f8 : (a == b) = true := by simp [hab]
          clear hx hy hz hab
          by_cases g1 : (bits BinOp.and IntKind.i64 a c == c) = true
          · by_cases g2 : (bits BinOp.and IntKind.i64 b c == c) = true
            · have f3' := f3 g1 g2
              clear f3
              go_enter Try.func7, Try.ntmps7
              go_wp2_with (first | (go_at_call 8; refine (text_any _ (by omega) (by omega) _).mono ?_; rintro e w' ⟨rfl, rfl⟩) | (go_at_call 10; refine (check_in _ _ (by omega) (by omega)).mono ?_; rintro e w' ⟨rfl, rfl⟩) | (go_at_call 10; refine (check_out _ _ (by omega)).mono ?_; rintro e w' ⟨rfl, rfl⟩) | (go_at_call 12; refine (parse_yes _ _ (by omega)).mono ?_; rintro e w' ⟨rfl, rfl⟩) | (go_at_call 14; go_in) | (go_at_call 9; go_in))
              go_ret
              exact ⟨rfl, Grown.refl _⟩
            · have g2' : (bits BinOp.and IntKind.i64 b c == c) = false := by simpa using g2
              clear f3 g2
              go_enter Try.func7, Try.ntmps7
              go_wp2_with (first | (go_at_call 8; refine (text_any _ (by omega) (by omega) _).mono ?_; rintro e w' ⟨rfl, rfl⟩) | (go_at_call 10; refine (check_in _ _ (by omega) (by omega)).mono ?_; rintro e w' ⟨rfl, rfl⟩) | (go_at_call 10; refine (check_out _ _ (by omega)).mono ?_; rintro e w' ⟨rfl, rfl⟩) | (go_at_call 12; refine (parse_yes _ _ (by omega)).mono ?_; rintro e w' ⟨rfl, rfl⟩) | (go_at_call 14; go_in) | (go_at_call 9; go_in))
              go_ret
              exact ⟨rfl, Grown.refl _⟩
          · have g1' : (bits BinOp.and IntKind.i64 a c == c) = false := by simpa using g1
            clear f3 g1
            go_enter Try.func7, Try.ntmps7
            go_wp2_with (first | (go_at_call 8; refine (text_any _ (by omega) (by omega) _).mono ?_; rintro e w' ⟨rfl, rfl⟩) | (go_at_call 10; refine (check_in _ _ (by omega) (by omega)).mono ?_; rintro e w' ⟨rfl, rfl⟩) | (go_at_call 10; refine (check_out _ _ (by omega)).mono ?_; rintro e w' ⟨rfl, rfl⟩) | (go_at_call 12; refine (parse_yes _ _ (by omega)).mono ?_; rintro e w' ⟨rfl, rfl⟩) | (go_at_call 14; go_in) | (go_at_call 9; go_in))
            go_ret
            exact ⟨rfl, Grown.refl _⟩
        · have f7 : ((txt a).toList == (txt b).toList) = false := by
            rw [hx, hy]; exact txt_fin x y (by intro h; subst h; exact hab (by rw [hx, hy]))
          have f8 : (a == b) = false := by simp [hab]
          clear hx hy hz hab
          by_cases g1 : (bits BinOp.and IntKind.i64 a c == c) = true
          · by_cases g2 : (bits BinOp.and IntKind.i64 b c == c) = true
            · have f3' := f3 g1 g2
              clear f3
              go_enter Try.func7, Try.ntmps7
              go_wp2_with (first | (go_at_call 8; refine (text_any _ (by omega) (by omega) _).mono ?_; rintro e w' ⟨rfl, rfl⟩) | (go_at_call 10; refine (check_in _ _ (by omega) (by omega)).mono ?_; rintro e w' ⟨rfl, rfl⟩) | (go_at_call 10; refine (check_out _ _ (by omega)).mono ?_; rintro e w' ⟨rfl, rfl⟩) | (go_at_call 12; refine (parse_yes _ _ (by omega)).mono ?_; rintro e w' ⟨rfl, rfl⟩) | (go_at_call 14; go_in) | (go_at_call 9; go_in))
              go_ret
              exact ⟨rfl, Grown.refl _⟩
            · have g2' : (bits BinOp.and IntKind.i64 b c == c) = false := by simpa using g2
              clear f3 g2
              go_enter Try.func7, Try.ntmps7
              go_wp2_with (first | (go_at_call 8; refine (text_any _ (by omega) (by omega) _).mono ?_; rintro e w' ⟨rfl, rfl⟩) | (go_at_call 10; refine (check_in _ _ (by omega) (by omega)).mono ?_; rintro e w' ⟨rfl, rfl⟩) | (go_at_call 10; refine (check_out _ _ (by omega)).mono ?_; rintro e w' ⟨rfl, rfl⟩) | (go_at_call 12; refine (parse_yes _ _ (by omega)).mono ?_; rintro e w' ⟨rfl, rfl⟩) | (go_at_call 14; go_in) | (go_at_call 9; go_in))
              go_ret
              exact ⟨rfl, Grown.refl _⟩
          · have g1' : (bits BinOp.and IntKind.i64 a c == c) = false := by simpa using g1
            clear f3 g1
            go_enter Try.func7, Try.ntmps7
            go_wp2_with (first | (go_at_call 8; refine (text_any _ (by omega) (by omega) _).mono ?_; rintro e w' ⟨rfl, rfl⟩) | (go_at_call 10; refine (check_in _ _ (by omega) (by omega)).mono ?_; rintro e w' ⟨rfl, rfl⟩) | (go_at_call 10; refine (check_out _ _ (by omega)).mono ?_; rintro e w' ⟨rfl, rfl⟩) | (go_at_call 12; refine (parse_yes _ _ (by omega)).mono ?_; rintro e w' ⟨rfl, rfl⟩) | (go_at_call 14; go_in) | (go_at_call 9; go_in))
            go_ret
            exact ⟨rfl, Grown.refl _⟩
      · obtain ⟨ha0, ha7⟩ := ha
        obtain ⟨hb0, hb7⟩ := hb
        have hc' : c < 0 ∨ 7 < c := by omega
        clear hc
        go_enter Try.func7, Try.ntmps7
        go_wp2_with (first | (go_at_call 8; refine (text_any _ (by omega) (by omega) _).mono ?_; rintro e w' ⟨rfl, rfl⟩) | (go_at_call 10; refine (check_in _ _ (by omega) (by omega)).mono ?_; rintro e w' ⟨rfl, rfl⟩) | (go_at_call 10; refine (check_out _ _ (by omega)).mono ?_; rintro e w' ⟨rfl, rfl⟩) | (go_at_call 12; refine (parse_yes _ _ (by omega)).mono ?_; rintro e w' ⟨rfl, rfl⟩) | (go_at_call 14; go_in) | (go_at_call 9; go_in))
        go_ret
        exact ⟨rfl, Grown.refl _⟩
    · obtain ⟨ha0, ha7⟩ := ha
      have hb' : b < 0 ∨ 7 < b := by omega
      clear hb
      go_enter Try.func7, Try.ntmps7
      go_wp2_with (first | (go_at_call 8; refine (text_any _ (by omega) (by omega) _).mono ?_; rintro e w' ⟨rfl, rfl⟩) | (go_at_call 10; refine (check_in _ _ (by omega) (by omega)).mono ?_; rintro e w' ⟨rfl, rfl⟩) | (go_at_call 10; refine (check_out _ _ (by omega)).mono ?_; rintro e w' ⟨rfl, rfl⟩) | (go_at_call 12; refine (parse_yes _ _ (by omega)).mono ?_; rintro e w' ⟨rfl, rfl⟩) | (go_at_call 14; go_in) | (go_at_call 9; go_in))
      go_ret
      exact ⟨rfl, Grown.refl _⟩
  · have ha' : a < 0 ∨ 7 < a := by omega
    clear ha
    go_enter Try.func7, Try.ntmps7
    go_wp2_with (first | (go_at_call 8; refine (text_any _ (by omega) (by omega) _).mono ?_; rintro e w' ⟨rfl, rfl⟩) | (go_at_call 10; refine (check_in _ _ (by omega) (by omega)).mono ?_; rintro e w' ⟨rfl, rfl⟩) | (go_at_call 10; refine (check_out _ _ (by omega)).mono ?_; rintro e w' ⟨rfl, rfl⟩) | (go_at_call 12; refine (parse_yes _ _ (by omega)).mono ?_; rintro e w' ⟨rfl, rfl⟩) | (go_at_call 14; go_in) | (go_at_call 9; go_in))
    go_ret
    exact ⟨rfl, Grown.refl _⟩

/-! ### THE ROW's STEP: WRITTEN OUT: LEAVE IT -/
set_option maxRecDepth 100000 in
theorem lifted (os : Os) (started : os.Started) (H : Type) (enc : TypeId × Value → H) :
    ReturnsInHanded {} Try.checked os 7 .any (Rows.topRightsSpec.pre6 enc Try.prog Try.f7 Rows.topRightsRow.domain false) (Rows.topRightsSpec.post enc Try.prog Try.f7 false true false false) := by
  refine returnsInHanded_of_change (C := Try.checked) own started (by kernel_rfl) Try.func7
    (ChangeSpec.witness6 (enc := enc) (C := Try.checked) false ⟨#[], #[.int .i64 0, .int .i64 0, .int .i64 0], []⟩ 8 (by kernel_rfl) (by kernel_rfl) (by kernel_rfl) (by kernel_rfl)) ?_
  intro W base args ds gs before hval0 hW hcnd _
  have hval : ∀ (j : Nat) t v, Try.f7.params[j]? = some t → args[j]? = some v → Value.okWide Try.prog W .any base t v := hval0
  have hW' := hW
  obtain ⟨p, q, hA0, hV, rfl, hfz, hnd⟩ := hW
  have hA : DataW.TrodAll enc Try.prog W 0 (fun _ => true) true Try.f7.params.toList args.toList ds p := hA0
  rw [Try.params7] at hA hval
  obtain ⟨v0, vs0, d0, ds0, p0, q0, hargs, rfl, rfl, h0, r0⟩ := trodAll_cons hA
  obtain ⟨v1, vs1, d1, ds1, p1, q1, rfl, rfl, rfl, h1, r1⟩ := trodAll_cons r0
  obtain ⟨v2, vs2, d2, ds2, p2, q2, rfl, rfl, rfl, h2, r2⟩ := trodAll_cons r1
  obtain ⟨rfl, rfl, rfl⟩ := trodAll_nil r2
  obtain rfl : args = #[v0, v1, v2] := by cases args; simp_all
  obtain ⟨rfl, rfl⟩ := trodVars_none hV
  obtain ⟨a0, rfl, rfl, rfl, w0⟩ := open_int Try.underlying3 (hval 0 3 v0 rfl rfl) h0
  obtain ⟨a1, rfl, rfl, rfl, w1⟩ := open_int Try.underlying3 (hval 1 3 v1 rfl rfl) h1
  obtain ⟨a2, rfl, rfl, rfl, w2⟩ := open_int Try.underlying3 (hval 2 3 v2 rfl rfl) h2
  clear hA0 hval0
  simp only [List.append_nil] at hW'
  refine (walk a0 a1 a2 w0 w1 w2 W).mono fun e W' ⟨he, hg⟩ => ?_
  subst he
  exact ⟨_, rfl, post_of_same (pa := []) (pv := []) hW' (fun _ _ _ => (trodAll_cons_mk (shut_bool Try.underlying4 _) trodAll_mk0)) (fun sp _ => (trodAll_cons_mk (shut_int Try.underlying3 w0) (trodAll_cons_mk (shut_int Try.underlying3 w1) (trodAll_cons_mk (shut_int Try.underlying3 w2) trodAll_mk0)))) (fun _ _ => rfl) rfl
    (hg.frame _) hg.2.1 (ok_one (by kernel_rfl) rfl (okWide_bool_mk Try.underlying4 _))⟩

theorem over : Rows.topRightsRow.holds Try.pinned (OpenSpec.ofChange Rows.topRightsSpec) :=
  OpenClaim.holds_of_wide 7 Try.f7 rfl rfl rfl rfl rfl rfl rfl ⟨rfl, rfl, rfl, rfl, rfl⟩ rfl rfl rfl rfl rfl (by kernel_rfl) Try.func7 (by kernel_rfl)
    (of_decide_eq_true (by kernel_rfl)) (by unfold Func.isWrapper; first | (rw [if_pos (by decide +kernel)]; kernel_rfl) | (rw [if_neg (by decide +kernel)]; exact ⟨rfl, rfl⟩))
    (fun os started H enc _ => lifted os started H enc)


end Go.Proofs.Ytnjncemjghmpoaa.topRights
namespace Go.Proofs.Ytnjncemjghmpoaa
theorem topRights_holds : Rows.TopRightsSaid := topRights.over
end Go.Proofs.Ytnjncemjghmpoaa
