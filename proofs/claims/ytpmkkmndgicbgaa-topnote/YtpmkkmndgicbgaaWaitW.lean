/- waiting: how many notes are at a port. -/
import Derived.Test.YtpmkkmndgicbgaaOnceLaw
import Derived.Test.YtpmkkmndgicbgaaGetAny
set_option linter.unusedSimpArgs false
set_option linter.unnecessarySimpa false
set_option linter.unusedVariables false
namespace Go.Proofs.Ytpmkkmndgicbgaa
open Go.RowKit

set_option maxHeartbeats 2000000 in
set_option maxRecDepth 100000 in
theorem wait_any (aw at_ ah an : Option Addr) (cw ct ch cn : Nat) (r : Rm) (t : Int) (w : World) (hr : RmAt w aw at_ ah an cw ct ch cn r) (hz : RmSz r) :
    Calls Try.prog 12 #[.agg #[.slice aw r.ws.length cw, .slice at_ r.ts.length ct, .slice ah r.hs.length ch, .slice an r.ns.length cn, .int .i64 r.nw, .int .i64 r.nt], .int .i64 t] w fun e w' => e = .returned (.int .i64 ((r.ns.countP (fun y => y.port == t) : Nat) : Int)) ∧ Below w.heap.size w w' := by
  have BR := Bx.new w [.slice aw r.ws.length cw, .slice at_ r.ts.length ct, .slice ah r.hs.length ch, .slice an r.ns.length cn, .int .i64 r.nw, .int .i64 r.nt] 31
  have bl := (Below.refl w.heap.size w).alloc (by first | exact Nat.le_refl _ | (simp <;> omega)) (.cells #[.slice aw r.ws.length cw, .slice at_ r.ts.length ct, .slice ah r.hs.length ch, .slice an r.ns.length cn, .int .i64 r.nw, .int .i64 r.nt] 31)
  have hat := hr.below bl
  have hzn := hz.n
  have hc0 := fun j => cnt_take_le (fun y : Nt => y.port == t) r.ns j
  go_enter Try.func12, Try.ntmps12
  have cR0 := (BR.2 0 _ rfl).1
  have cR1 := (BR.2 1 _ rfl).1
  have cR2 := (BR.2 2 _ rfl).1
  have cR3 := (BR.2 3 _ rfl).1
  have cR4 := (BR.2 4 _ rfl).1
  have cR5 := (BR.2 5 _ rfl).1
  have zR := BR.1
  go_wp2_with fail
  clear cR0 cR1 cR2 cR3 cR4 cR5 zR
  generalize (w.alloc (.cells #[.slice aw r.ws.length cw, .slice at_ r.ts.length ct, .slice ah r.hs.length ch, .slice an r.ns.length cn, .int .i64 r.nw, .int .i64 r.nt] 31)) = v0 at *
  go_loopw [5, 6] (fun n i wr => ∃ j : Nat, j ≤ r.ns.length ∧ i = .int .i64 j ∧ n = .int .i64 ((r.ns.take j).countP (fun y => y.port == t) : Nat) ∧ Below v0.heap.size v0 wr) (fun _ i _ => r.ns.length - (intOf i).toNat)
  case atStart => exact ⟨0, Nat.zero_le _, rfl, rfl, Below.refl _ _⟩
  case round =>
    obtain ⟨j, hj', rfl, rfl, hbl⟩ := hrel
    have hcj := hc0 j
    replace BR := BR.below hbl
    replace hat := hat.below hbl
    replace bl := Below_after bl hbl
    have yR := BR.1
    have cR0 := (BR.2 0 _ rfl).1
    have cR1 := (BR.2 1 _ rfl).1
    have cR2 := (BR.2 2 _ rfl).1
    have cR3 := (BR.2 3 _ rfl).1
    have cR4 := (BR.2 4 _ rfl).1
    have cR5 := (BR.2 5 _ rfl).1
    have zR := BR.1
    by_cases hlt : j < r.ns.length
    rotate_left
    · have hfull : r.ns.take j = r.ns := List.take_of_length_le (by omega)
      rw [hfull] at hcj ⊢
      clear hfull hc0
      go_wp2_with fail
      go_ret
      exact ⟨rfl, bl⟩
    obtain ⟨y, hy⟩ : ∃ y, r.ns[j]? = some y := ⟨r.ns[j], List.getElem?_eq_getElem hlt⟩
    have HST : Hid (_ = _) := cnt_step (p := fun y : Nt => y.port == t) hy
    obtain ⟨b, o, rfl, hb, hww⟩ := hat.n.resolve_left (by rintro e; rw [e] at hlt; simp at hlt)
    obtain ⟨p1, p2, p3, p4⟩ := hww j y hy
    clear hww hy p2 p3 p4 hc0
    have hcs : (y.port == t) = true ∨ (y.port == t) = false := by cases (y.port == t) <;> simp
    rcases hcs with d1 | d1
    all_goals
      have hs2 := HST.out
      simp only [d1] at hs2
      have HS2 : Hid (_ = _) := hs2
      clear hs2 HST
      generalize hcp : (r.ns.take j).countP (fun y => y.port == t) = cp at *
      clear hcp
      go_wp2_with fail
      go_roundw
      case rel => exact ⟨j + 1, by omega, by go_num, by have := HS2.out; simp at this; rw [this]; (try go_num), hbl⟩
      case measure => simp [intOf]; omega
end Go.Proofs.Ytpmkkmndgicbgaa
