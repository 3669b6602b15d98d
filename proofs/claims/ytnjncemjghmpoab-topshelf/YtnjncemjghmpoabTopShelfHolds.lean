/- TopShelf holds: for every slice of places, all places and every number the landed code's answer is true. No condition. -/
import Derived.Test.YtnjncemjghmpoabRows
import Derived.Test.YtnjncemjghmpoabTopShelfB
import Derived.Test.YtnjncemjghmpoabTopShelfE
import Derived.Test.YtnjncemjghmpoabOpenHd
import Derived.ProofKit
import Derived.OpenShut
namespace Go.Proofs.Ytnjncemjghmpoab.topShelf
open Go.ChangeShapes Go.WideShapes Go.ChangeAt Go.RowKit
set_option linter.unusedVariables false
theorem ts_all (w : World) (a : Option Addr) (l : List Hd) (c : Nat) (hw : HdsAt w a l) (hm : l.length ≤ maxLen) (h s g t id : Int) :
    Calls Try.prog 6 #[.slice a l.length c, .agg #[.int .i64 h, .int .i64 s], .agg #[.int .i64 g, .int .i64 t], .int .i64 id] w fun e w' => e = .returned (.bool true) ∧ Below w.heap.size w w' := by
  by_cases hg : Good l
  · by_cases hp : plOk h s
    · by_cases hq : plOk g t
      · by_cases e1 : g = h
        · subst e1
          by_cases e2 : t = s
          · subst e2
            rcases free_spec l g with ⟨h1, h2⟩ | ⟨m, h1, h2, h3, h4⟩
            · exact ts_E_neg a l c g t id w hw hm hg hp hq h1 (h2 t hp.2.2.1 hp.2.2.2)
            · by_cases hsk : (m : Int) ≤ t
              · exact ts_E_ge a l c g t id w hw hm hg hp hq m h2 h1 h3 hsk
              · exact ts_E_lt a l c g t id w hw hm hg hp hq m h2 h1 h3 hsk (h4 t hp.2.2.1 (by omega))
          · have hd : (t == s) = false := by simp [e2]
            have ho := at_put_other l g s id g t (fun e => e2 e.2)
            rcases free_spec l g with ⟨h1, h2⟩ | ⟨m, h1, h2, h3, h4⟩
            · exact ts_B_neg a l c g s t id w hw hm hg hp hq hd ho h1 (h2 s hp.2.2.1 hp.2.2.2)
            · by_cases hsk : (m : Int) ≤ s
              · exact ts_B_ge a l c g s t id w hw hm hg hp hq hd ho m h2 h1 h3 hsk
              · exact ts_B_lt a l c g s t id w hw hm hg hp hq hd ho m h2 h1 h3 hsk (h4 s hp.2.2.1 (by omega))
        · have hd : (g == h) = false := by simp [e1]
          have ho := at_put_other l h s id g t (fun e => e1 e.1)
          rcases free_spec l h with ⟨h1, h2⟩ | ⟨m, h1, h2, h3, h4⟩
          · exact ts_A_neg a l c h s g t id w hw hm hg hp hq hd ho h1 (h2 s hp.2.2.1 hp.2.2.2)
          · by_cases hsk : (m : Int) ≤ s
            · exact ts_A_ge a l c h s g t id w hw hm hg hp hq hd ho m h2 h1 h3 hsk
            · exact ts_A_lt a l c h s g t id w hw hm hg hp hq hd ho m h2 h1 h3 hsk (h4 s hp.2.2.1 (by omega))
      · exact ts_badq a l c h s g t id w hw hm hg hp hq
    · exact ts_badp a l c h s g t id w hw hm hg hp
  · exact ts_notgood a l c h s g t id w hw hm hg
theorem own : ownKnob Try.prog.godebug = none := by kernel_rfl
theorem laidOut : laidOutB Try.prog = true := by kernel_rfl
set_option maxRecDepth 100000 in
theorem lifted (os : Os) (started : os.Started) (H : Type) (enc : TypeId × Value → H) :
    ReturnsInHanded {} Try.checked os 6 .any (Rows.topShelfSpec.pre6 enc Try.prog Try.f6 Rows.topShelfRow.domain false) (Rows.topShelfSpec.post enc Try.prog Try.f6 false true false false) := by
  refine returnsInHanded_of_change (C := Try.checked) own started (by kernel_rfl) Try.func6
    (ChangeSpec.witness6 (enc := enc) (C := Try.checked) false ⟨#[], #[.slice none 0 0, .agg #[.int .i64 0, .int .i64 0], .agg #[.int .i64 0, .int .i64 0], .int .i64 0], []⟩ 8 (by kernel_rfl) (by kernel_rfl) (by kernel_rfl) (by kernel_rfl)) ?_
  intro W base args ds gs before hval0 hW hcnd _
  have hval : ∀ (j : Nat) t v, Try.f6.params[j]? = some t → args[j]? = some v → Value.okWide Try.prog W .any base t v := hval0
  have hW' := hW
  have hlt0 := hW'.lt
  obtain ⟨p, q, hA0, hV, rfl, hfz, hnd⟩ := hW
  have hA : DataW.TrodAll enc Try.prog W 0 (fun _ => true) true Try.f6.params.toList args.toList ds p := hA0
  rw [Try.params6] at hA hval
  obtain ⟨v0, vs0, d0, ds0, p0, q0, hargs, rfl, rfl, h0, r0⟩ := trodAll_cons hA
  obtain ⟨v1, vs1, d1, ds1, p1, q1, rfl, rfl, rfl, h1, r1⟩ := trodAll_cons r0
  obtain ⟨v2, vs2, d2, ds2, p2, q2, rfl, rfl, rfl, h2, r2⟩ := trodAll_cons r1
  obtain ⟨v3, vs3, d3, ds3, p3, q3, rfl, rfl, rfl, h3, r3⟩ := trodAll_cons r2
  obtain ⟨rfl, rfl, rfl⟩ := trodAll_nil r3
  obtain rfl : args = #[v0, v1, v2, v3] := by cases args; simp_all
  obtain ⟨rfl, rfl⟩ := trodVars_none hV
  clear hA0 hval0 hnd hfz hcnd
  simp only [List.append_nil] at hW' hlt0
  have hl0 : ∀ x ∈ p0, x.block < W.heap.size := fun x hx => hlt0 x (by simp [hx])
  obtain ⟨a0, l0, c0, e0, at0, m0⟩ := open_hds (hval 0 42 v0 rfl rfl) h0
  subst e0
  have hl1 : ∀ x ∈ p1, x.block < W.heap.size := fun x hx => hlt0 x (by simp [hx])
  obtain ⟨x1, y1, e1⟩ := open_place (hval 1 44 v1 rfl rfl) h1
  subst e1
  have hl2 : ∀ x ∈ p2, x.block < W.heap.size := fun x hx => hlt0 x (by simp [hx])
  obtain ⟨x2, y2, e2⟩ := open_place (hval 2 44 v2 rfl rfl) h2
  subst e2
  have hl3 : ∀ x ∈ p3, x.block < W.heap.size := fun x hx => hlt0 x (by simp [hx])
  obtain ⟨x3, e3, _, _, w3⟩ := open_int Try.underlying3 (hval 3 3 v3 rfl rfl) h3
  subst e3
  refine (ts_all W a0 l0 c0 at0 m0 x1 y1 x2 y2 x3).mono fun e W' ⟨he, hb⟩ => ?_
  subst he
  refine ⟨_, rfl, _, _, _, [], p0 ++ (p1 ++ (p2 ++ (p3))), [], hW', ?_, ?_, ?_, hb.frame _, fun h => by cases h⟩
  · exact trodAll_cons_mk (shut_bool Try.underlying4 _) trodAll_mk0
  · have := trodAll_cons_mk (Below.trod laidOut (by kernel_rfl) (of_decide_eq_true (by kernel_rfl)) h0 hb hl0) (trodAll_cons_mk (Below.trod laidOut (by kernel_rfl) (of_decide_eq_true (by kernel_rfl)) h1 hb hl1) (trodAll_cons_mk (Below.trod laidOut (by kernel_rfl) (of_decide_eq_true (by kernel_rfl)) h2 hb hl2) (trodAll_cons_mk (Below.trod laidOut (by kernel_rfl) (of_decide_eq_true (by kernel_rfl)) h3 hb hl3) (trodAll_mk0))))
    simp only [List.append_nil] at this
    exact this
  · rfl
theorem over : Rows.TopShelfSaid :=
  OpenClaim.holds_of_wide 6 Try.f6 rfl rfl rfl rfl rfl rfl rfl ⟨rfl, rfl, rfl, rfl, rfl⟩ rfl rfl rfl rfl rfl (by kernel_rfl) Try.func6 (by kernel_rfl)
    (of_decide_eq_true (by kernel_rfl)) (by unfold Func.isWrapper; first | (rw [if_pos (by decide +kernel)]; kernel_rfl) | (rw [if_neg (by decide +kernel)]; exact ⟨rfl, rfl⟩))
    (fun os started H enc _ => lifted os started H enc)
end Go.Proofs.Ytnjncemjghmpoab.topShelf
namespace Go.Proofs.Ytnjncemjghmpoab
theorem topShelf_holds : Rows.TopShelfSaid := topShelf.over
end Go.Proofs.Ytnjncemjghmpoab
