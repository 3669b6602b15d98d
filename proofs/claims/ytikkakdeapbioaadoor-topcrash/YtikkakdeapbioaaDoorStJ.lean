/- store.join: rows as one text. -/
import Derived.Test.YtikkakdeapbioaaDoorBld
import Derived.Test.YtikkakdeapbioaaDoorStPure
import Derived.Test.YtikkakdeapbioaaDoorLogNev
set_option linter.unusedVariables false
set_option linter.unusedSimpArgs false
set_option linter.unnecessarySimpa false
namespace Go.Proofs.YtikkakdeapbioaaDoor
open Go.RowKit Go.Shelf

def Bd (B b : Nat) (l : List UInt8) (w : World) : Prop := Lib.IsBuilder 98 5 B b (Lib.byteCells l) w
theorem Bd.below {B b : Nat} {l : List UInt8} {w w' : World} (h : Bd B b l w) (hb : Below w.heap.size w w') : Bd B b l w' := by
  have key : ∀ p, Lib.BuilderAt 98 5 B b p (Lib.byteCells l) w → Lib.BuilderAt 98 5 B b p (Lib.byteCells l) w' := by
    rintro p ⟨h1, v, h2, h3, h4⟩
    exact ⟨h1, v, (hb.block b (heap_lt h2)).trans h2, own_keep h3 (fun k hk => hb.block k (h3.lt k hk).2), h4⟩
  rcases h with h | h
  · exact .inl (key _ h)
  · exact .inr (key _ h)
theorem Bd.fresh (w : World) : Bd w.heap.size w.heap.size [] (w.alloc (.cells #[.pointer none, .slice none 0 0] 98)) := Lib.fresh_isBuilder _ _ w
theorem join_snoc (l : List Ch) (c : Ch) : joinL (l ++ [c]) = joinL l ++ (UInt8.ofNat (chL c).length :: chL c) := by simp [joinL, List.flatMap_append]
theorem one_byte (n : Nat) (s : List UInt8) : (leB n 1 ++ strOf s).data.toList = UInt8.ofNat n :: s := by
  unfold leB
  rw [str_app, str_data]
  simp [leL]
set_option maxHeartbeats 2000000 in
set_option maxRecDepth 100000 in
theorem join_good (a : Option Addr) (c : Nat) (rows : List Ch) (w : World) (hw : ChsAt w a rows) (hg : ∀ x ∈ rows, chkC x = 0) (hl : rows.length ≤ 200) :
    Calls Tryd.prog 49 #[.slice a rows.length c] w fun e w' => e = .returned (.tuple #[.string (strOf (joinL rows)), .nilIface]) ∧ Below w.heap.size w w' := by
  have hjl : ∀ k, (joinL (rows.take k)).length ≤ 7000 := fun k => by
    have h1 := join_len (rows.take k) (fun x hx => hg x (List.mem_of_mem_take hx))
    have h2 : (rows.take k).length ≤ rows.length := by rw [List.length_take]; omega
    omega
  have hfin : rows.take rows.length = rows := List.take_length
  go_enter Tryd.func49, Tryd.ntmps49
  go_wp2_with fail
  go_loopw [11] (fun i wr => ∃ k : Nat, k ≤ rows.length ∧ i = .int .i64 k ∧ Bd w.heap.size w.heap.size (joinL (rows.take k)) wr ∧ Below w.heap.size w wr) (fun i _ => rows.length - (intOf i).toNat)
  case atStart => exact ⟨0, Nat.zero_le _, rfl, Bd.fresh w, (Below.refl _ _).alloc (Nat.le_refl _) _⟩
  case round =>
    obtain ⟨k, hk, rfl, hB, bl⟩ := hrel
    by_cases hlt : k < rows.length
    · have hx : rows[k]? = some rows[k] := List.getElem?_eq_getElem hlt
      have hck := hg _ (List.getElem_mem hlt)
      have hts : rows.take (k + 1) = rows.take k ++ [rows[k]] := List.take_succ_eq_append_getElem hlt
      have hjn : joinL (rows.take (k + 1)) = joinL (rows.take k) ++ (UInt8.ofNat (chL rows[k]).length :: chL rows[k]) := by rw [hts, join_snoc]
      have HJ : Hid (joinL (rows.take (k + 1)) = joinL (rows.take k) ++ (UInt8.ofNat (chL rows[k]).length :: chL rows[k])) := hjn
      have hjk := hjl k
      clear hts hjn hjl
      generalize joinL (rows.take k) = J at *
      rcases hw with h0 | ⟨b, o, rfl, hb, hc⟩
      · rw [h0] at hlt; simp at hlt
      have hat := (hc k _ hx).below bl hb
      have HX : Hid (rows[k]? = some rows[k]) := hx
      generalize hxx : rows[k] = x at *
      obtain ⟨⟨q0, q1, q2⟩, hz1, hz2⟩ := hat
      have hcl := chL_len hck
      have hby := fun W => rbytes_any x W hz1 hz2
      rw [if_pos hck, hck, errV_zero] at hby
      have hle := fun W => bytes_any (chB x).size 1 W (by decide) (by rw [chB, str_size]; omega)
      rw [show ((1 : Nat) : Int) = 1 from rfl] at hle
      have hlb : (leB (chB x).size 1).size = 1 := leB_size _ 1
      have hsz : (chB x).size = (chL x).length := by rw [chB, str_size]
      have hbb : b < wr.heap.size := Nat.lt_of_lt_of_le hb bl.size
      have HB1 : Hid ((leB (chB x).size 1 ++ chB x).data.toList = UInt8.ofNat (chL x).length :: chL x) := by
        show _ = _
        rw [hsz, chB, one_byte]
      have hcs : (leB (chB x).size 1 ++ chB x).size ≤ 100 := by rw [ByteArray.size_append, hlb, hsz]; omega
      have hys : (chB x).size ≤ 34 := by omega
      clear hsz
      generalize hY : chB x = y at *
      generalize hY1 : leB y.size 1 = y1 at *
      clear hc hb hxx hck hx hY hY1 hfin
      go_wp2_with fail
      refine (hby _).mono ?_
      rintro e w1 ⟨rfl, hb1⟩
      have bw1 := Below_after ((Below.refl wr.heap.size wr).alloc (Nat.le_refl _) (.cells #[.string x.key, .string x.val, .bool x.gone] 61)) hb1
      have hB1 := hB.below bw1
      clear hby hb1
      go_wp2_with fail
      refine (hle _).mono ?_
      rintro e w2 ⟨rfl, hb2⟩
      have hB2 := hB1.below hb2
      have hbw := bld_write w.heap.size w.heap.size J (y1 ++ y) w2 hB2 (by omega) (by omega) (Nat.le_trans bl.size (Nat.le_trans bw1.size hb2.size))
      clear hle
      go_wp2_with fail
      refine hbw.mono ?_
      rintro e w3 ⟨rfl, hB3, hb3⟩
      go_wp2_with fail
      go_roundw
      case rel => exact ⟨k + 1, by omega, by go_num, by rw [HJ.out, ← HB1.out]; exact hB3, (bl.trans ((Below_after bw1 hb2).mono bl.size)).trans hb3⟩
      case measure => simp [intOf]; omega
    · have hkk : k = rows.length := by omega
      rw [hkk, hfin] at hB
      subst hkk
      clear hfin
      have hst := bld_string w.heap.size w.heap.size (joinL rows) wr hB bl.size
      go_wp2_with fail
      refine hst.mono ?_
      rintro e w1 ⟨rfl, hb1⟩
      go_wp2_with fail
      go_ret2
      exact ⟨rfl, bl.trans hb1⟩
end Go.Proofs.YtikkakdeapbioaaDoor
