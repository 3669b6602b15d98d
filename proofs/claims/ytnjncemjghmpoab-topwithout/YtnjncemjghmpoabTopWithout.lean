/- The walk of TopWithout: whatever comes in, the answer is true (C2, C3). -/
import Derived.Test.YtnjncemjghmpoabTopBeneath
set_option linter.unusedSimpArgs false
set_option linter.unusedVariables false
namespace Go.Proofs.Ytnjncemjghmpoab
open Go.RowKit

theorem row_cap {w : World} {base : Nat} {e : TypeId} {v : Value} {l : List Wr} (h : w.ownsRow base e 5 v l.length (l.flatMap wcells)) : ∃ a cap, v = .slice a l.length cap ∧ WrsAt w a l ∧ l.length ≤ cap ∧ cap ≤ maxLen := by
  obtain ⟨a, cap, hv, hat⟩ := wrs_of_row h
  refine ⟨a, cap, hv, hat, ?_⟩
  rcases h.2 with ⟨hv', hn⟩ | ⟨g, cap', cur, hv', _, _, h1, h2, _⟩
  · rw [hv] at hv'
    injection hv' with e1 e2 e3
    rw [e3, e2]; exact ⟨Nat.le_refl _, by unfold maxLen; omega⟩
  · rw [hv] at hv'
    injection hv' with e1 e2 e3
    rw [e3]; exact ⟨h1, h2⟩
theorem withoutLen (l : List Wr) (id : Int) : (withoutL l id).length ≤ l.length := wo_len _ _ l
theorem wo_find5 {l : List Wr} (hg : GoodW l) (id : Int) {x : Wr} (hx : x ∈ l) (hne : ¬ x.id = id) : ∃ (j : Nat) (g : Int), find (withoutL l id) x.id = (j : Int) ∧ (withoutL l id)[j]? = some ⟨x.id, x.thing, x.rights, x.badge, g⟩ := by
  obtain ⟨j, h1, h2⟩ := wo_find hg id hx hne
  refine ⟨j, (woG id (woFrom l id) x).frm, h1, ?_⟩
  rw [h2]
  congr 1
  unfold woG
  split <;> rfl
theorem getD_at {A : List Int} {j : Nat} (h : j < A.length) : A.getD j 0 = A[j] := by simp [List.getD, h]
/-- those that are not the number -/
def notId (id : Int) (a : Int) : Bool := decide (¬ a = id)
theorem nt_same {A : List Int} {id : Int} {k : Nat} (hk : k < A.length) (he : A[k] = id) : ((A.take (k + 1)).filter (notId id)).length = ((A.take k).filter (notId id)).length := by
  rw [List.take_succ_eq_append_getElem hk, List.filter_append]
  simp [notId, he]
theorem nt_next {A : List Int} {id : Int} {k : Nat} (hk : k < A.length) (he : ¬ A[k] = id) : ((A.take (k + 1)).filter (notId id)).length = ((A.take k).filter (notId id)).length + 1 := by
  rw [List.take_succ_eq_append_getElem hk, List.filter_append]
  simp [notId, he]
theorem nt_get {A : List Int} {id : Int} {k : Nat} (hk : k < A.length) (he : ¬ A[k] = id) : (A.filter (notId id))[((A.take k).filter (notId id)).length]? = some A[k] := by
  have h : A = A.take k ++ A[k] :: A.drop (k + 1) := by rw [← List.drop_eq_getElem_cons hk, List.take_append_drop]
  conv => lhs; rw [h]
  have e1 : (A.take k ++ A[k] :: A.drop (k + 1)).filter (notId id) = (A.take k).filter (notId id) ++ A[k] :: (A.drop (k + 1)).filter (notId id) := by
    rw [List.filter_append, List.filter_cons_of_pos (by simp [notId, he])]
  rw [e1]
  have e2 : (A.take k ++ A[k] :: A.drop (k + 1)).take k = A.take k := by rw [← h]
  rw [e2]
  simp

set_option maxHeartbeats 1000000 in
theorem tw_long (a : Option Addr) (c : Nat) (l : List Wr) (id : Int) (w : World) (h : ¬ l.length ≤ 40) (hm : l.length ≤ maxLen) :
    Calls Try.prog 5 #[.slice a l.length c, .int .i64 id] w fun e w' => e = .returned (.bool true) ∧ Below w.heap.size w w' := by
  have d0 : decide ((40 : Int) < (l.length : Int)) = true := decide_eq_true (by omega)
  unfold maxLen at hm
  go_enter Try.func5, Try.ntmps5
  go_wp2_with fail
  refine (treed_any w).mono ?_
  rintro e w1 ⟨rfl, b1⟩
  go_wp2_with fail
  go_ret
  exact ⟨rfl, b1⟩
set_option maxHeartbeats 1000000 in
theorem tw_wrong (a : Option Addr) (c : Nat) (l : List Wr) (id : Int) (w : World) (hw : WrsAt w a l) (h : l.length ≤ 40) (hcap : l.length ≤ c) (hc63 : c ≤ maxLen) (hc : ¬ chk l = 0) :
    Calls Try.prog 5 #[.slice a l.length c, .int .i64 id] w fun e w' => e = .returned (.bool true) ∧ Below w.heap.size w w' := by
  have d0 : decide ((40 : Int) < (l.length : Int)) = false := decide_eq_false (by omega)
  go_enter Try.func5, Try.ntmps5
  go_wp2_with fail
  refine (treed_any w).mono ?_
  rintro e w1 ⟨rfl, b1⟩
  have at1 := hw.below b1
  go_wp2_with fail
  refine (chk_bad a c l w1 at1 (by omega) hcap hc63 hc).mono ?_
  rintro e w2 ⟨rfl, b2'⟩
  have b2 := Below_after b1 b2'
  go_wp2_with fail
  go_ret
  exact ⟨rfl, b2⟩
set_option maxHeartbeats 4000000 in
set_option maxRecDepth 100000 in
theorem tw_whole (a : Option Addr) (c : Nat) (l : List Wr) (id : Int) (w : World) (hw : WrsAt w a l) (h : l.length ≤ 40) (hcap : l.length ≤ c) (hc63 : c ≤ maxLen) (hc : chk l = 0) :
    Calls Try.prog 5 #[.slice a l.length c, .int .i64 id] w fun e w' => e = .returned (.bool true) ∧ Below w.heap.size w w' := by
  have d0 : decide ((40 : Int) < (l.length : Int)) = false := decide_eq_false (by omega)
  have hg := good_of_chk hc
  have hcm := chk_of_good (wo_good hg id)
  have hfm := wo_find_id (l := l) id
  have hml := withoutLen l id
  have hpart : ∀ x ∈ l, ¬ x.id = id → ∃ (j : Nat) (g : Int), find (withoutL l id) x.id = (j : Int) ∧ (withoutL l id)[j]? = some ⟨x.id, x.thing, x.rights, x.badge, g⟩ := fun x hx hne => wo_find5 hg id hx hne
  have habv : ∀ x ∈ l, ¬ x.id = id → aboveL (withoutL l id) x.id = (aboveL l x.id).filter (notId id) := fun x hx hne => wo_above hg id hx hne
  clear hg
  go_enter Try.func5, Try.ntmps5
  go_wp2_with fail
  refine (treed_any w).mono ?_
  rintro e w1 ⟨rfl, b1⟩
  have at1 := hw.below b1
  go_wp2_with fail
  refine (chk_good a c l w1 at1 (by omega) hcap hc63 hc).mono ?_
  rintro e w2 ⟨rfl, b2'⟩
  have b2 := Below_after b1 b2'
  have at2 := hw.below b2
  go_wp2_with fail
  refine (without_any a c l id w2 at2 (by omega)).mono ?_
  rintro e w3 ⟨v, rfl, hrow, b3'⟩
  obtain ⟨am, cm, rfl, mat3, hmcap, hmc63⟩ := row_cap hrow
  have b3 := Below_after b2 b3'
  clear hrow b2' b3' at1 at2
  generalize withoutL l id = m at *
  go_wp2_with fail
  refine (chk_good am cm m w3 mat3 (by omega) hmcap hmc63 hcm).mono ?_
  rintro e w4 ⟨rfl, b4'⟩
  have b4 := Below_after b3 b4'
  have mat4 := mat3.below b4'
  clear b4' mat3
  go_wp2_with fail
  refine (find_any am cm m id w4 mat4 (by omega)).mono ?_
  rintro e w5 ⟨rfl, b5'⟩
  have b5 := Below_after b4 b5'
  have mat5 := mat4.below b5'
  have at5 := hw.below b5
  rw [hfm]
  clear b5' mat4 hw
  go_wp2_with fail
  go_loopw [7] (fun i wr => ∃ k : Nat, k ≤ l.length ∧ i = .int .i64 k ∧ Below w5.heap.size w5 wr) (fun i _ => l.length - (intOf i).toNat)
  case atStart => exact ⟨0, Nat.zero_le _, rfl, Below.refl _ _⟩
  case round =>
    obtain ⟨k, hk, rfl, hbl⟩ := hrel
    by_cases hlt : k < l.length
    · obtain ⟨x, hx⟩ : ∃ x, l[k]? = some x := ⟨l[k], List.getElem?_eq_getElem hlt⟩
      have hxl : x ∈ l := List.mem_of_getElem? hx
      obtain ⟨b, o, rfl, hb, hw⟩ := at5.resolve_left (by rintro rfl; simp at hlt)
      have wat := WrsAt.below hbl (.inr ⟨b, o, rfl, hb, hw⟩ : WrsAt w5 (some ⟨b, o, none⟩) l)
      have mat := mat5.below hbl
      obtain ⟨q1, q2, q3, q4, q5⟩ := (hw k x hx).below hbl hb
      have hbz : b < wr.heap.size := Nat.lt_of_lt_of_le hb hbl.size
      by_cases h1 : x.id = id
      · have d1 : (x.id == id) = true := by simp [h1]
        clear hw h1 hx hpart habv wat mat hxl hc hcm hfm hml mat5 q2 q3 q4 q5
        go_wp2_with fail
        go_roundw
        case rel => exact ⟨k + 1, by omega, by go_num, hbl⟩
        case measure => simp [intOf]; omega
      · have d1 : (x.id == id) = false := by simp [h1]
        obtain ⟨j, g, hj, hmj⟩ := hpart x hxl h1
        have hA := habv x hxl h1
        have hjl : j < m.length := (List.getElem?_eq_some_iff.1 hmj).1
        obtain ⟨bm, om, rfl, hbm, hwm⟩ := mat.resolve_left (by rintro rfl; simp at hjl)
        have nA := aboveLen l x.id
        have nB := aboveLen m x.id
        have HX : Hid (l[k]? = some x) := hx
        clear hpart habv h1 hx
        go_wp2_with fail
        refine (find_any (some ⟨bm, om, none⟩) cm m x.id wr (.inr ⟨bm, om, rfl, hbm, hwm⟩) (by omega)).mono ?_
        rintro e w6 ⟨rfl, b6'⟩
        have b6 : Below w5.heap.size w5 w6 := Below_after hbl b6'
        obtain ⟨q1, q2, q3, q4, q5⟩ := (hw k x HX.out).below b6 hb
        obtain ⟨p1, p2, p3, p4, p5⟩ := (hwm j _ hmj).below b6' hbm
        have hbz6 : b < w6.heap.size := Nat.lt_of_lt_of_le hb b6.size
        have hbm6 : bm < w6.heap.size := Nat.lt_of_lt_of_le hbm b6'.size
        have mat6 := WrsAt.below b6' (.inr ⟨bm, om, rfl, hbm, hwm⟩ : WrsAt wr (some ⟨bm, om, none⟩) m)
        rw [hj]
        have wat6 := WrsAt.below b6 (.inr ⟨b, o, rfl, hb, hw⟩ : WrsAt w5 (some ⟨b, o, none⟩) l)
        have HW : Hid (∀ j x, l[j]? = some x → WrAt w5 b (o + j * 5) x) := hw
        clear b6' hj hmj hwm wat mat hw
        go_wp2_with fail
        go_quiet (fail)
        go_wp2_with fail
        have bq : Below w6.heap.size w6 ((w6.alloc (.cells #[.int .i64 x.id, .int .i64 x.thing, .int .i64 x.rights, .int .i64 x.badge, .int .i64 x.frm] 23)).drewN nq) := below_drewN ((Below.refl _ _).alloc (Nat.le_refl _) _) nq
        generalize (w6.alloc (.cells #[.int .i64 x.id, .int .i64 x.thing, .int .i64 x.rights, .int .i64 x.badge, .int .i64 x.frm] 23)).drewN nq = w7 at bq ⊢
        have wat7 := wat6.below bq
        have mat7 := mat6.below bq
        have b7 := Below_after b6 bq
        clear q1 q2 q3 q4 q5 p1 p2 p3 p4 p5 wat6 mat6 bq
        refine (above_any (some ⟨b, o, none⟩) c l x.id w7 wat7 (by omega) hcap hc63).mono ?_
        rintro e w8 ⟨a8, c8, rfl, i8, l8, b8'⟩
        have mat8 := mat7.below b8'
        have b8 := Below_after b7 b8'
        obtain ⟨q1, -, -, -, -⟩ := (HW.out k x HX.out).below b8 hb
        clear b8' mat7 wat7 b7
        go_wp2_with fail
        refine (above_any (some ⟨bm, om, none⟩) cm m x.id w8 mat8 (by omega) hmcap hmc63).mono ?_
        rintro e w9 ⟨a9, c9, rfl, i9, l9, b9'⟩
        have i8' := i8.below b9' l8
        have b9 := Below_after b8 b9'
        rw [hA] at i9 nB ⊢
        clear b9' mat8 b8 i8 hA q1 l8 l9 hbz6 hbm6 hbz
        generalize aboveL l x.id = A at *
        go_wp2_with fail
        go_loopw [12, 13] (fun n jv wr => ∃ jj : Nat, jj ≤ A.length ∧ jv = .int .i64 jj ∧ n = .int .i64 ((A.take jj).filter (notId id)).length ∧ ∃ q, wr = w9.drewN q) (fun _ jv _ => A.length - (intOf jv).toNat)
        case atStart => exact ⟨0, Nat.zero_le _, rfl, by simp, 0, rfl⟩
        case round =>
          obtain ⟨jj, hjj, rfl, rfl, q, rfl⟩ := hrel
          by_cases hlt2 : jj < A.length
          · obtain ⟨ba, oa, rfl, hca⟩ := i8'.resolve_left (by rintro rfl; simp at hlt2)
            have c1 := hca jj hlt2
            rw [getD_at hlt2] at c1
            by_cases h2 : A[jj] = id
            · have e2 := nt_same hlt2 h2
              have E2 : Hid (((A.take (jj + 1)).filter (notId id)).length = ((A.take jj).filter (notId id)).length) := e2
              have d2 : (A[jj] == id) = true := by simp [h2]
              generalize ((A.take jj).filter (notId id)).length = nn at *
              generalize A[jj] = y at *
              clear h2 e2 hca
              go_wp2_with fail
              go_roundw
              case rel => exact ⟨jj + 1, by omega, by go_num, by rw [E2.out], q, rfl⟩
              case measure => simp [intOf]; omega
            · have g := nt_get hlt2 h2
              have e2 := nt_next hlt2 h2
              have E2 : Hid (((A.take (jj + 1)).filter (notId id)).length = ((A.take jj).filter (notId id)).length + 1) := e2
              have d2 : (A[jj] == id) = false := by simp [h2]
              obtain ⟨bb, ob, rfl, hcb⟩ := i9.resolve_left (by intro e; rw [e] at g; simp at g)
              obtain ⟨hN, hg⟩ := List.getElem?_eq_some_iff.1 g
              have c2 := hcb _ hN
              rw [getD_at hN, hg] at c2
              clear hca hcb g hg
              generalize (A.filter (notId id)).length = nf at *
              generalize ((A.take jj).filter (notId id)).length = nn at *
              generalize A[jj] = y at *
              clear h2 e2
              have d3 : decide (nf ≤ nn) = false := decide_eq_false (by omega)
              go_wp2_with fail
              go_quiet (fail)
              go_wp2_with fail
              go_roundw
              case rel => exact ⟨jj + 1, by omega, by go_num, by rw [E2.out]; go_num, q + _, rfl⟩
              case measure => simp [intOf]; omega
          · rw [List.take_of_length_le (by omega)]
            generalize (A.filter (notId id)).length = nf at *
            clear i8' i9
            go_wp2_with fail
            go_roundw
            case rel => exact ⟨k + 1, by omega, by go_num, below_drewN b9 q⟩
            case measure => simp [intOf]; omega
    · clear at5 mat5 hpart habv
      go_wp2_with fail
      go_ret
      exact ⟨rfl, Below_after b5 hbl⟩
theorem tw_all (w : World) (a : Option Addr) (l : List Wr) (c : Nat) (hw : WrsAt w a l) (hm : l.length ≤ maxLen) (hcap : l.length ≤ c ∧ c ≤ maxLen) (id : Int) :
    Calls Try.prog 5 #[.slice a l.length c, .int .i64 id] w fun e w' => e = .returned (.bool true) ∧ Below w.heap.size w w' := by
  by_cases h : l.length ≤ 40
  · by_cases hc : chk l = 0
    · exact tw_whole a c l id w hw h hcap.1 hcap.2 hc
    · exact tw_wrong a c l id w hw h hcap.1 hcap.2 hc
  · exact tw_long a c l id w h hm
end Go.Proofs.Ytnjncemjghmpoab
