/- Find: the walks alone (the plain part stands in AllPure). -/
import Derived.Test.YtddgpgldbekamaaGreatProg
import Derived.Test.YtddgpgldbekamaaGreatAllPure
set_option linter.unusedSimpArgs false
set_option linter.unusedVariables false
namespace Go.Proofs.YtddgpgldbekamaaGreat
open Go.RowKit

theorem eqId_any (x : Wr) (b0 : Nat) (id : Int) (w : World) (hc : w.cell? ⟨b0, 0, none⟩ = some (.int .i64 id)) (hlt : b0 < w.heap.size) :
    Calls Tryz.prog 64 #[.agg #[.int .i64 x.id, .int .i64 x.thing, .int .i64 x.rights, .int .i64 x.badge, .int .i64 x.frm], .pointer (some ⟨b0, 0, none⟩)] w fun e w' => e = .returned (.bool (x.id == id)) ∧ Below w.heap.size w w' := by
  go_enter Tryz.func64, Tryz.ntmps64
  go_wp2
  go_ret
  exact ⟨rfl, (Below.refl _ _).alloc (Nat.le_refl _) _⟩
theorem indexFunc_any (b o c b0 : Nat) (l : List Wr) (id : Int) (w : World) (hw : ∀ j x, l[j]? = some x → WrAt w b (o + j * 5) x) (hb : b < w.heap.size) (hc : w.cell? ⟨b0, 0, none⟩ = some (.int .i64 id)) (hlt : b0 < w.heap.size) (hm : l.length ≤ 1000000) :
    Calls Tryz.prog 63 #[.slice (some ⟨b, o, none⟩) l.length c, .func (.func 64) #[] #[.pointer (some ⟨b0, 0, none⟩)]] w fun e w' => e = .returned (.int .i64 (find l id)) ∧ Below w.heap.size w w' := by
  go_enter Tryz.func63, Tryz.ntmps63
  go_wp2
  go_loopw [8] (fun i wr => ∃ k : Nat, k ≤ l.length ∧ i = .int .i64 k ∧ Hid (findFrom id (l.drop k) k = find l id) ∧ Below w.heap.size w wr) (fun i _ => l.length - (intOf i).toNat)
  case atStart => exact ⟨0, Nat.zero_le _, rfl, show Hid _ from rfl, Below.refl _ _⟩
  case round =>
    obtain ⟨k, hk, rfl, hn, hbl⟩ := hrel
    by_cases hlt' : k < l.length
    · obtain ⟨x, hx⟩ : ∃ x, l[k]? = some x := ⟨l[k], List.getElem?_eq_getElem hlt'⟩
      obtain ⟨q1, q2, q3, q4, q5⟩ := (hw k x hx).below hbl hb
      have q0 : wr.cell? ⟨b0, 0, none⟩ = some (.int .i64 id) := by rw [(bcell hbl).1 _ _ hlt]; exact hc
      have hz : b0 < wr.heap.size := Nat.lt_of_lt_of_le hlt hbl.size
      have HX : Hid (l[k]? = some x) := hx
      clear hw hx hc
      go_wp2_with fail
      refine (eqId_any x b0 id wr q0 hz).mono ?_
      rintro e w1 ⟨rfl, hb1⟩
      have bl1 : Below w.heap.size w w1 := Below_after hbl hb1
      go_wp2_with fail
      · have := find_yes HX.out (by simpa using ‹(x.id == id) = true›) hn.out
        go_ret
        exact ⟨retInt this.symm, bl1⟩
      · go_roundw
        case rel => exact ⟨k + 1, by omega, by go_num, show Hid _ from find_no HX.out (by simpa using ‹(x.id == id) = false›) hn.out, bl1⟩
        case measure => simp [intOf]; omega
    · have := find_end hlt' hn.out
      have HF : Hid (find l id = -1) := this
      clear hw this
      go_wp2
      go_ret
      exact ⟨retInt HF.out.symm, hbl⟩
theorem indexFunc_nil (a : Option Addr) (c b0 : Nat) (w : World) :
    Calls Tryz.prog 63 #[.slice a 0 c, .func (.func 64) #[] #[.pointer (some ⟨b0, 0, none⟩)]] w fun e w' => e = .returned (.int .i64 (-1)) ∧ Below w.heap.size w w' := by
  go_enter Tryz.func63, Tryz.ntmps63
  go_wp2
  refine wp_loop_rounds 1 ?_
  rw [rounds_succ]
  go_wp2
  go_ret
  exact ⟨rfl, Below.refl _ _⟩
theorem index_any (a : Option Addr) (c b0 : Nat) (l : List Wr) (id : Int) (w : World) (hw : WrsAt w a l) (hc : w.cell? ⟨b0, 0, none⟩ = some (.int .i64 id)) (hlt : b0 < w.heap.size) (hm : l.length ≤ 1000000) :
    Calls Tryz.prog 63 #[.slice a l.length c, .func (.func 64) #[] #[.pointer (some ⟨b0, 0, none⟩)]] w fun e w' => e = .returned (.int .i64 (find l id)) ∧ Below w.heap.size w w' := by
  rcases hw with rfl | ⟨b, o, rfl, hb, hx⟩
  · exact indexFunc_nil a c b0 w
  · exact indexFunc_any b o c b0 l id w hx hb hc hlt hm
theorem find_any (a : Option Addr) (c : Nat) (l : List Wr) (id : Int) (w : World) (hw : WrsAt w a l) (hm : l.length ≤ 1000000) :
    Calls Tryz.prog 24 #[.slice a l.length c, .int .i64 id] w fun e w' => e = .returned (.int .i64 (find l id)) ∧ Below w.heap.size w w' := by
  have hmf : ∀ (fn : Fn) (first cap : Array Value) (w : World), (Instr.makeFunc fn first cap).run Tryz.prog w = .ok (.func fn first cap) w := fun _ _ _ _ => rfl
  have hw1 : WrsAt (w.alloc (.cells #[.int .i64 id] 3)) a l := hw.below ((Below.refl _ _).alloc (Nat.le_refl _) _)
  go_enter Tryz.func24, Tryz.ntmps24
  go_wp2_with fail
  refine (index_any a c w.heap.size l id _ hw1 (by simp) (by simp) hm).mono ?_
  rintro e w1 ⟨rfl, hb1⟩
  go_wp2_with fail
  go_ret
  exact ⟨rfl, Below_after ((Below.refl _ _).alloc (Nat.le_refl _) _) hb1⟩
end Go.Proofs.YtddgpgldbekamaaGreat
