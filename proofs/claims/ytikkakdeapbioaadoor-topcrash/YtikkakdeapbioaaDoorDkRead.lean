/- disk.Read (G1), as the landed code has it. -/
import Derived.Test.YtikkakdeapbioaaDoorDkBase
import Derived.Laws.BytesString
set_option linter.unusedVariables false
set_option linter.unusedSimpArgs false
set_option linter.unnecessarySimpa false
namespace Go.Proofs.YtikkakdeapbioaaDoor
open Go.RowKit

theorem fold_push (l : List UInt8) : ∀ (acc : ByteArray), (l.map (fun x => (x.toNat : Int))).foldl (fun r n => r.push (UInt8.ofNat n.toNat)) acc = ⟨acc.data ++ l.toArray⟩ := by
  induction l with
  | nil => intro acc; simp
  | cons a l ih =>
    intro acc
    simp only [List.map_cons, List.foldl_cons]
    rw [ih]
    cases acc with
    | mk data => simp [ByteArray.push]
/-- the bytes of a sector, as a text -/
theorem run_secString (w : World) (b o : Nat) (s : List UInt8) (n c : Nat) (hl : s.length = n) (hc : w.rangeAt b o (secV s)) : (convert 92 9 (.slice (some ⟨b, o, none⟩) n c)).run Tryd.prog w = .ok (.string (strOf s)) w := by
  subst hl
  rw [run_convert_bytes_string w 92 9 5 (some ⟨b, o, none⟩) s.length c Tryd.underlying92 Tryd.underlying5 Tryd.underlying9]
  have hm : (s.map (fun x => (x.toNat : Int))).map (Value.int .u8) = secV s := by simp [secV]
  have hload : (loadCells ⟨b, o, none⟩ s.length).run Tryd.prog w = .ok ((s.map (fun x => (x.toNat : Int))).map (Value.int .u8)).toArray w := by
    rw [hm]
    have := run_loadCells_list (P := Tryd.prog) w ⟨b, o, none⟩ (secV s) (fun j v hv => by rw [Addr.add_mid]; exact hc j v hv)
    rwa [secV_len] at this
  rw [run_bytesToString w ⟨b, o, none⟩ s.length c _ hload, fold_push]
  simp [strOf]
theorem DkAt.range1 {w : World} {base p b1 b2 : Nat} {v : Value} {d : Dk} (h : DkAt w base p b1 b2 v d) {i : Nat} {s : List UInt8} (hi : d.now[i]? = some s) : w.rangeAt b1 (i * 48) (secV s) := fun j u hu => by
  rw [cell_of_row w b1 _ _ _ _ h.h1]
  have := secsV_get h.ok.nows hi j u hu
  simpa using this
set_option maxRecDepth 100000 in
theorem read_dn (base p b1 b2 : Nat) (v : Value) (d : Dk) (at_ : Int) (w : World) (h : DkAt w base p b1 b2 v d) (hd : d.down = true) :
    Calls Tryd.prog 25 #[.pointer (some ⟨p, 0, none⟩), .int .i64 at_] w fun e w' => e = .returned (.tuple #[.string ⟨#[]⟩, .iface 63 (.int .i64 10)]) ∧ w' = w := by
  obtain ⟨c0, c1, c2, c3, c4⟩ := h.cells
  rw [hd] at c4
  clear hd
  go_enter Tryd.func25, Tryd.ntmps25
  go_wp2_with fail
  go_ret2
  exact ⟨rfl, rfl⟩
set_option maxRecDepth 100000 in
theorem read_no (base p b1 b2 : Nat) (v : Value) (d : Dk) (at_ : Int) (w : World) (h : DkAt w base p b1 b2 v d) (hd : d.down = false) (hh : hasB2 d at_ = false) :
    Calls Tryd.prog 25 #[.pointer (some ⟨p, 0, none⟩), .int .i64 at_] w fun e w' => e = .returned (.tuple #[.string ⟨#[]⟩, .iface 63 (.int .i64 1)]) ∧ w' = w := by
  obtain ⟨c0, c1, c2, c3, c4⟩ := h.cells
  have hcon := has_dk base p b1 b2 v d at_ w h
  rw [hh] at hcon
  rw [hd] at c4
  clear hd hh
  go_enter Tryd.func25, Tryd.ntmps25
  go_wp2_with fail
  refine hcon.mono ?_
  rintro e w' ⟨rfl, rfl⟩
  go_wp2_with fail
  go_ret2
  exact ⟨rfl, rfl⟩
set_option maxRecDepth 100000 in
theorem read_ok (base p b1 b2 : Nat) (v : Value) (d : Dk) (i : Nat) (s : List UInt8) (w : World) (h : DkAt w base p b1 b2 v d) (hd : d.down = false) (hs : d.now[i]? = some s) :
    Calls Tryd.prog 25 #[.pointer (some ⟨p, 0, none⟩), .int .i64 (i : Int)] w fun e w' => e = .returned (.tuple #[.string (strOf s), .nilIface]) ∧ w' = w := by
  obtain ⟨c0, c1, c2, c3, c4⟩ := h.cells
  have hi : i < d.now.length := (List.getElem?_eq_some_iff.1 hs).1
  have hcon := has_dk base p b1 b2 v d i w h
  have hh : hasB2 d (i : Int) = true := (hasB2_iff d i).2 ⟨by omega, by omega⟩
  have hm := h.ok.most
  rw [hh] at hcon
  rw [hd] at c4
  have hcv := run_secString w b1 (i * 48) s 48 48 (h.ok.nows s (List.mem_of_getElem? hs)) (h.range1 hs)
  clear hd hh hs
  have i0 : (0 : Int) ≤ (i : Int) := by omega
  have i1 : (i : Int) < (d.now.length : Int) := by omega
  go_enter Tryd.func25, Tryd.ntmps25
  go_wp2_with fail
  refine hcon.mono ?_
  rintro e w' ⟨rfl, rfl⟩
  go_wp2_with fail
  go_ret2
  exact ⟨rfl, rfl⟩
end Go.Proofs.YtikkakdeapbioaaDoor
