/- Decimal digits, and the numbers that they are read as: plain data (nothing of the program). -/
/- A realm as rows (chapter 6), as plain data: the rows, what rows are read as, and that they are read as what they were made of. Nothing of the program. -/
/- A quiet realm's rows are read as it (TopRows), on plain data; nothing of the program. -/
/- What is read has the rows that it was read from (F2), on plain data; nothing of the program. -/
import Derived.Test.YtddgpgldbekamaaGreatDoorImNum
import Derived.Test.YtddgpgldbekamaaGreatDoorRealmTops2
import Derived.Test.YtddgpgldbekamaaGreatDoorLightW
set_option linter.unusedVariables false
set_option linter.unusedSimpArgs false
namespace Go.Proofs.YtddgpgldbekamaaGreatDoor
open Go.RowKit

/-- the lowest digit; four digits -/
def dg (n : Nat) : UInt8 := UInt8.ofNat (48 + n % 10)
def d4 (n : Nat) : List UInt8 := [dg (n / 1000), dg (n / 100), dg (n / 10), dg n]
theorem dg_toNat (n : Nat) : (dg n).toNat = 48 + n % 10 := by
  have : n % 10 < 10 := Nat.mod_lt _ (by decide)
  unfold dg
  simp; omega
theorem toList_data (s : ByteArray) : s.toList = s.data.toList := by
  have key : ∀ (n i : Nat) (r : List UInt8), s.size - i = n → ByteArray.toList.loop s i r = r.reverse ++ s.data.toList.drop i := by
    intro n
    induction n with
    | zero =>
      intro i r h
      have hl : s.data.toList.length = s.size := by simp
      rw [ByteArray.toList.loop, if_neg (by omega), List.drop_of_length_le (by omega), List.append_nil]
    | succ n ih =>
      intro i r h
      have hl : s.data.toList.length = s.size := by simp
      rw [ByteArray.toList.loop, if_pos (by omega), ih (i + 1) _ (by omega)]
      rw [List.reverse_cons, List.append_assoc]
      congr 1
      have hi : i < s.data.toList.length := by omega
      rw [List.drop_eq_getElem_cons hi]
      show [s.get! i] ++ _ = _
      have : s.get! i = s.data.toList[i] := by
        have hs : i < s.data.size := by simpa using hi
        show s.data[i]! = _
        rw [getElem!_pos s.data i hs]
        simp
      rw [this]; rfl
  show ByteArray.toList.loop s 0 [] = _
  rw [key s.size 0 [] (by omega)]
  rfl
end Go.Proofs.YtddgpgldbekamaaGreatDoor
set_option linter.unusedVariables false
set_option linter.unusedSimpArgs false
set_option linter.unnecessarySimpa false
namespace Go.Proofs.YtddgpgldbekamaaGreatDoor
open Go.RowKit

theorem bl_irr : ∀ a : List UInt8, Op.bytesLess a a = false
  | [] => rfl
  | x :: r => by simp [Op.bytesLess, bl_irr r]
theorem bl_trans : ∀ a b c : List UInt8, Op.bytesLess a b = true → Op.bytesLess b c = true → Op.bytesLess a c = true
  | _, [], _, h, _ => by simp [Op.bytesLess] at h
  | _, _ :: _, [], _, h => by simp [Op.bytesLess] at h
  | [], _ :: _, _ :: _, _, _ => rfl
  | x :: a, y :: b, z :: c, h1, h2 => by
    simp only [Op.bytesLess, Bool.or_eq_true, decide_eq_true_eq, Bool.and_eq_true, beq_iff_eq] at h1 h2 ⊢
    rcases h1 with h1 | ⟨rfl, h1⟩
    · rcases h2 with h2 | ⟨rfl, h2⟩
      · exact .inl (UInt8.lt_trans h1 h2)
      · exact .inl h1
    · rcases h2 with h2 | ⟨rfl, h2⟩
      · exact .inl h2
      · exact .inr ⟨rfl, bl_trans a b c h1 h2⟩
def kl (x : Ch) : List UInt8 := x.key.toList
/-- they rise by their keys -/
def Ris (l : List Ch) : Prop := l.Pairwise (fun x y => Op.bytesLess (kl x) (kl y) = true)

instance (l : List Ch) : Decidable (Ris l) := by unfold Ris; infer_instance

/-! ### Digits -/
def bsO (l : List UInt8) : ByteArray := ⟨l.toArray⟩
theorem bsO_list (l : List UInt8) : (bsO l).toList = l := by rw [toList_data]; rfl
theorem bsO_data (l : List UInt8) : (bsO l).data.toList = l := rfl
theorem bsO_size (l : List UInt8) : (bsO l).size = l.length := by simp [bsO, ByteArray.size]
theorem bsO_of (s : ByteArray) : bsO s.data.toList = s := by cases s; simp [bsO]
theorem d4_len (n : Nat) : (d4 n).length = 4 := rfl
/-! ### Rows -/
def hRow (h : Hd) : Ch := ⟨bsO (104 :: [dg h.holder.toNat, dg h.slot.toNat]), bsO (d4 h.writ.toNat), false⟩
def tRow (t : Th) : Ch := ⟨bsO (116 :: d4 t.id.toNat), bsO (d4 t.kind.toNat ++ t.data.data.toList), false⟩
def wRow (w : Wr) : Ch := ⟨bsO (119 :: d4 w.id.toNat), bsO (d4 w.thing.toNat ++ d4 w.rights.toNat ++ d4 w.badge.toNat ++ d4 w.frm.toNat), false⟩
def xRow (a b : Int) : Ch := ⟨bsO [120], bsO (d4 a.toNat ++ d4 b.toNat), false⟩
def rowsL (r : Rm) : List Ch := r.hs.map hRow ++ r.ts.map tRow ++ r.ws.map wRow ++ [xRow r.nw r.nt]

/-- numbers that four digits hold (one: a place's) -/
def N4 (n : Int) : Prop := 0 ≤ n ∧ n ≤ 1000
structure ImOk (r : Rm) : Prop where
  h : ∀ x ∈ r.hs, (0 ≤ x.holder ∧ x.holder ≤ 9) ∧ (0 ≤ x.slot ∧ x.slot ≤ 9) ∧ N4 x.writ
  t : ∀ x ∈ r.ts, N4 x.id ∧ N4 x.kind ∧ x.data.size ≤ 8
  w : ∀ x ∈ r.ws, N4 x.id ∧ N4 x.thing ∧ N4 x.rights ∧ N4 x.badge ∧ N4 x.frm
  n : N4 r.nw ∧ N4 r.nt

/-! ### What rows are read as -/
/-- so many numbers of so many digits each -/
def nOk (d m : Nat) (l : List UInt8) : Bool := decide (l.length = d * m) && l.all digB
def nAt (d m : Nat) (l : List UInt8) (i : Nat) : Int := ((nsP d m l (d * m)).getD i 0 : Nat)
def rH (r : Rm) (k v : List UInt8) : Option Rm := if nOk 1 2 k = true ∧ nOk 4 1 v = true then some ⟨r.ws, r.ts, r.hs ++ [⟨nAt 1 2 k 0, nAt 1 2 k 1, nAt 4 1 v 0⟩], r.ns, r.nw, r.nt⟩ else none
def rT (r : Rm) (k v : List UInt8) : Option Rm := if nOk 4 1 k = true ∧ nOk 4 1 (v.take 4) = true then some ⟨r.ws, r.ts ++ [⟨nAt 4 1 k 0, nAt 4 1 (v.take 4) 0, bsO (v.drop 4)⟩], r.hs, r.ns, r.nw, r.nt⟩ else none
def rW (r : Rm) (k v : List UInt8) : Option Rm := if nOk 4 1 k = true ∧ nOk 4 4 v = true then some ⟨r.ws ++ [⟨nAt 4 1 k 0, nAt 4 4 v 0, nAt 4 4 v 1, nAt 4 4 v 2, nAt 4 4 v 3⟩], r.ts, r.hs, r.ns, r.nw, r.nt⟩ else none
def rX (r : Rm) (k v : List UInt8) : Option Rm := if k = [] ∧ nOk 4 2 v = true then some ⟨r.ws, r.ts, r.hs, r.ns, nAt 4 2 v 0, nAt 4 2 v 1⟩ else none
def rdK (r : Rm) (b : UInt8) (k v : List UInt8) : Option Rm := if b = 104 then rH r k v else if b = 116 then rT r k v else if b = 119 then rW r k v else if b = 120 then rX r k v else none
def rdC (r : Rm) (c : Ch) : Option Rm := match c.key.data.toList with
  | [] => none
  | b :: k => rdK r b k c.val.data.toList
def rdL : Rm → List Ch → Option Rm
  | r, [] => some r
  | r, c :: l => (rdC r c).bind (rdL · l)
def rmZ : Rm := ⟨[], [], [], [], 0, 0⟩
theorem rdL_app : ∀ (l m : List Ch) (r : Rm), rdL r (l ++ m) = (rdL r l).bind (rdL · m)
  | [], m, r => rfl
  | c :: l, m, r => by
    show (rdC r c).bind _ = ((rdC r c).bind _).bind _
    cases h : rdC r c with
    | none => rfl
    | some x => exact rdL_app l m x
theorem rdL_take {l : List Ch} {k : Nat} {c : Ch} {r : Rm} (h : l[k]? = some c) : rdL r (l.take (k + 1)) = (rdL r (l.take k)).bind (rdC · c) := by
  rw [List.take_add_one, h, rdL_app]
  congr 1
  funext x
  show (rdC x c).bind (rdL · []) = _
  cases rdC x c <;> rfl
/-- where it fails it stays so -/
theorem rdL_stop {l : List Ch} {k : Nat} {r : Rm} (h : rdL r (l.take k) = none) : rdL r l = none := by
  rw [← List.take_append_drop k l, rdL_app, h]; rfl
def thOk (t : Th) : Bool := (t.kind == 1 && decide (t.data.size ≤ 8)) || (t.kind == 2 && decide (t.data.size = 0))
def thsOk (r : Rm) : Bool := r.ts.all thOk && decide (r.ts.length ≤ 10) && decide (r.ts.map (·.id) = thingsL r.ws)
def hdsOk (r : Rm) : Bool := r.hs.all (fun h => decide (plOk h.holder h.slot)) && r.ws.all (fun w => r.hs.any fun h => h.writ == w.id) && decide (r.hs.length = r.ws.length)
def nxOk (r : Rm) : Bool := decide (1 ≤ r.nw ∧ r.nw ≤ 1000 ∧ 1 ≤ r.nt ∧ r.nt ≤ 1000) && r.ws.all (fun w => decide (w.id < r.nw)) && r.ts.all (fun t => decide (t.id < r.nt))
def togB (r : Rm) : Bool := decide (chk r.ws = 0) && thsOk r && hdsOk r && nxOk r
/-- F2: what rows are read as -/
def parseR (l : List Ch) : Option Rm := if Ris l ∧ (∀ c ∈ l, c.gone = false) then (rdL rmZ l).filter togB else none

/-! ### What is made is read as it was -/
theorem kl_bs (l : List UInt8) (v : ByteArray) (g : Bool) : kl ⟨bsO l, v, g⟩ = l := bsO_list l
theorem rows_len (r : Rm) : (rowsL r).length = r.hs.length + r.ts.length + r.ws.length + 1 := by simp [rowsL]; omega
end Go.Proofs.YtddgpgldbekamaaGreatDoor
set_option linter.unusedVariables false
set_option linter.unusedSimpArgs false
namespace Go.Proofs.YtddgpgldbekamaaGreatDoor
open Go.RowKit

theorem whole_imok {r : Rm} (h : Whole r) : ImOk r := by
  have hw : ∀ x ∈ r.ws, wrOk x := h.gw.1
  refine ⟨fun x hx => ?_, fun x hx => ?_, fun x hx => ?_, ?_⟩
  · obtain ⟨⟨h1, h2, h3, h4⟩, -⟩ := good_mem h.gh hx
    obtain ⟨y, hy, e⟩ := h.hin x hx
    obtain ⟨y1, y2, -⟩ := hw y hy
    unfold N4
    omega
  · obtain ⟨y, hy, e⟩ := h.tof x hx
    obtain ⟨-, -, y1, y2, -⟩ := hw y hy
    unfold N4
    rcases h.tk x hx with ⟨k1, k2⟩ | ⟨k1, k2⟩
    · exact ⟨by omega, by omega, k2⟩
    · exact ⟨by omega, by omega, by rw [k2]; decide⟩
  · obtain ⟨w1, w2, w3, w4, w5, w6, w7, w8, w9, w10⟩ := hw x hx
    unfold N4
    omega
  · obtain ⟨a, b⟩ := h.nw
    obtain ⟨c, d⟩ := h.nt
    unfold N4
    omega
theorem held_len {r : Rm} (h : Whole r) (hn : r.ns = []) : r.hs.length = r.ws.length := by
  have h1 : (r.ws.map (·.id)).Nodup := by
    have := h.gw.2.1
    rw [List.Nodup, List.pairwise_map]
    exact this.imp (fun h => by omega)
  have := len_bij (b := r.hs.map (·.writ)) h1 (fun y hy => by
    obtain ⟨x, hx, rfl⟩ := List.mem_map.1 hy
    have h2 := h.one x hx
    unfold cnt at h2
    rw [hn, List.countP_nil, Nat.add_zero] at h2
    rw [List.count, List.countP_map]
    exact h2) (fun y hy => by
    obtain ⟨a, ha, rfl⟩ := List.mem_map.1 hy
    obtain ⟨x, hx, e⟩ := h.hin a ha
    exact List.mem_map.2 ⟨x, hx, e⟩)
  simpa using this
theorem rows_sixty {r : Rm} (h : Whole r) (hn : r.ns = []) : (rowsL r).length ≤ 60 := by
  rw [rows_len]
  have := good_len h.gh
  have := held_len h hn
  have := h.tl
  omega
end Go.Proofs.YtddgpgldbekamaaGreatDoor
set_option linter.unusedVariables false
set_option linter.unusedSimpArgs false
namespace Go.Proofs.YtddgpgldbekamaaGreatDoor
open Go.RowKit

theorem dg_of {b : UInt8} (h : digB b = true) {n : Nat} (hn : n % 10 = b.toNat - 48) : dg n = b := by
  have h2 := digB_le h
  rw [← UInt8.toNat_inj, dg_toNat, hn]
  omega
def v4 (a b c d : UInt8) : Nat := 1000 * (a.toNat - 48) + 100 * (b.toNat - 48) + 10 * (c.toNat - 48) + (d.toNat - 48)
theorem d4_v4 {a b c d : UInt8} (ha : digB a = true) (hb : digB b = true) (hc : digB c = true) (hd : digB d = true) : d4 (v4 a b c d) = [a, b, c, d] := by
  have a2 := digB_le ha
  have b2 := digB_le hb
  have c2 := digB_le hc
  have d2 := digB_le hd
  unfold d4 v4
  rw [dg_of ha (by omega), dg_of hb (by omega), dg_of hc (by omega), dg_of hd (by omega)]
theorem nsP41 (a b c d : UInt8) : nsP 4 1 [a, b, c, d] 4 = [v4 a b c d] := by
  simp [nsP, nst, v4]; omega
theorem nsP42 (a b c d e f g h : UInt8) : nsP 4 2 [a, b, c, d, e, f, g, h] 8 = [v4 a b c d, v4 e f g h] := by
  simp [nsP, nst, v4]; omega
theorem nsP44 (a b c d e f g h i j k l m n o p : UInt8) : nsP 4 4 [a, b, c, d, e, f, g, h, i, j, k, l, m, n, o, p] 16 = [v4 a b c d, v4 e f g h, v4 i j k l, v4 m n o p] := by
  simp [nsP, nst, v4]; omega
theorem nsP12 (a b : UInt8) : nsP 1 2 [a, b] 2 = [a.toNat - 48, b.toNat - 48] := by
  simp [nsP, nst]
theorem nOk_len {d m : Nat} {l : List UInt8} (h : nOk d m l = true) : l.length = d * m ∧ l.all digB = true := by
  unfold nOk at h
  rw [Bool.and_eq_true] at h
  exact ⟨of_decide_eq_true h.1, h.2⟩
theorem d4_nAt {l : List UInt8} (h : nOk 4 1 l = true) : d4 (nAt 4 1 l 0).toNat = l := by
  obtain ⟨hl, hd⟩ := nOk_len h
  match l, hl, hd with
  | [a, b, c, d], _, hd =>
    simp only [List.all_cons, List.all_nil, Bool.and_eq_true, Bool.and_true] at hd
    unfold nAt
    rw [show 4 * 1 = 4 from rfl, nsP41]
    exact d4_v4 hd.1 hd.2.1 hd.2.2.1 hd.2.2.2
theorem d4_nAt2 {l : List UInt8} (h : nOk 4 2 l = true) : d4 (nAt 4 2 l 0).toNat ++ d4 (nAt 4 2 l 1).toNat = l := by
  obtain ⟨hl, hd⟩ := nOk_len h
  match l, hl, hd with
  | [a, b, c, d, e, f, g, h], _, hd =>
    simp only [List.all_cons, List.all_nil, Bool.and_eq_true, Bool.and_true] at hd
    obtain ⟨h1, h2, h3, h4, h5, h6, h7, h8⟩ := hd
    unfold nAt
    rw [show 4 * 2 = 8 from rfl, nsP42]
    show d4 (v4 a b c d) ++ d4 (v4 e f g h) = _
    rw [d4_v4 h1 h2 h3 h4, d4_v4 h5 h6 h7 h8]
    rfl
theorem d4_nAt4 {l : List UInt8} (h : nOk 4 4 l = true) : d4 (nAt 4 4 l 0).toNat ++ d4 (nAt 4 4 l 1).toNat ++ d4 (nAt 4 4 l 2).toNat ++ d4 (nAt 4 4 l 3).toNat = l := by
  obtain ⟨hl, hd⟩ := nOk_len h
  match l, hl, hd with
  | [a, b, c, d, e, f, g, h, i, j, k, l, m, n, o, p], _, hd =>
    simp only [List.all_cons, List.all_nil, Bool.and_eq_true, Bool.and_true] at hd
    obtain ⟨h1, h2, h3, h4, h5, h6, h7, h8, i1, i2, i3, i4, i5, i6, i7, i8⟩ := hd
    unfold nAt
    rw [show 4 * 4 = 16 from rfl, nsP44]
    show d4 (v4 a b c d) ++ d4 (v4 e f g h) ++ d4 (v4 i j k l) ++ d4 (v4 m n o p) = _
    rw [d4_v4 h1 h2 h3 h4, d4_v4 h5 h6 h7 h8, d4_v4 i1 i2 i3 i4, d4_v4 i5 i6 i7 i8]
    rfl
theorem d1_nAt {l : List UInt8} (h : nOk 1 2 l = true) : [dg (nAt 1 2 l 0).toNat, dg (nAt 1 2 l 1).toNat] = l := by
  obtain ⟨hl, hd⟩ := nOk_len h
  match l, hl, hd with
  | [a, b], _, hd =>
    simp only [List.all_cons, List.all_nil, Bool.and_eq_true, Bool.and_true] at hd
    have a2 := digB_le hd.1
    have b2 := digB_le hd.2
    unfold nAt
    rw [show 1 * 2 = 2 from rfl, nsP12]
    show [dg (a.toNat - 48), dg (b.toNat - 48)] = _
    rw [dg_of hd.1 (by omega), dg_of hd.2 (by omega)]
/-- a row by its bytes -/
theorem ch_eq {c : Ch} {k v : List UInt8} (hk : c.key.data.toList = k) (hv : c.val.data.toList = v) (hg : c.gone = false) : c = ⟨bsO k, bsO v, false⟩ := by
  cases c
  dsimp only at *
  rw [← hk, ← hv, bsO_of, bsO_of, hg]
theorem rH_inv {r z : Rm} {c : Ch} {k : List UInt8} (hk : c.key.data.toList = 104 :: k) (hg : c.gone = false) (h : rH r k c.val.data.toList = some z) : ∃ y, z = ⟨r.ws, r.ts, r.hs ++ [y], r.ns, r.nw, r.nt⟩ ∧ c = hRow y := by
  unfold rH at h
  split at h
  · rename_i hh
    refine ⟨_, (Option.some.inj h).symm, ?_⟩
    unfold hRow
    rw [d1_nAt hh.1, d4_nAt hh.2]
    exact ch_eq hk rfl hg
  · cases h
theorem rT_inv {r z : Rm} {c : Ch} {k : List UInt8} (hk : c.key.data.toList = 116 :: k) (hg : c.gone = false) (h : rT r k c.val.data.toList = some z) : ∃ y, z = ⟨r.ws, r.ts ++ [y], r.hs, r.ns, r.nw, r.nt⟩ ∧ c = tRow y := by
  unfold rT at h
  split at h
  · rename_i hh
    refine ⟨_, (Option.some.inj h).symm, ?_⟩
    unfold tRow
    rw [d4_nAt hh.1, d4_nAt hh.2, bsO_data, List.take_append_drop]
    exact ch_eq hk rfl hg
  · cases h
theorem rW_inv {r z : Rm} {c : Ch} {k : List UInt8} (hk : c.key.data.toList = 119 :: k) (hg : c.gone = false) (h : rW r k c.val.data.toList = some z) : ∃ y, z = ⟨r.ws ++ [y], r.ts, r.hs, r.ns, r.nw, r.nt⟩ ∧ c = wRow y := by
  unfold rW at h
  split at h
  · rename_i hh
    refine ⟨_, (Option.some.inj h).symm, ?_⟩
    unfold wRow
    rw [d4_nAt hh.1, d4_nAt4 hh.2]
    exact ch_eq hk rfl hg
  · cases h
theorem rX_inv {r z : Rm} {c : Ch} {k : List UInt8} (hk : c.key.data.toList = 120 :: k) (hg : c.gone = false) (h : rX r k c.val.data.toList = some z) : ∃ a b, z = ⟨r.ws, r.ts, r.hs, r.ns, a, b⟩ ∧ c = xRow a b := by
  unfold rX at h
  split at h
  · rename_i hh
    refine ⟨_, _, (Option.some.inj h).symm, ?_⟩
    unfold xRow
    rw [d4_nAt2 hh.2]
    exact ch_eq (by rw [hk, hh.1]) rfl hg
  · cases h
def rowsX (r : Rm) (x : List Ch) : List Ch := r.hs.map hRow ++ r.ts.map tRow ++ r.ws.map wRow ++ x
/-- none of these stands ahead of one that is lower -/
theorem ris_none {α : Type} {f : α → Ch} {l : List α} {A B C : List Ch} {c : Ch} (h : Ris (A ++ l.map f ++ B ++ c :: C)) (hlow : ∀ x, Op.bytesLess (kl (f x)) (kl c) = false) : l = [] := by
  cases l with
  | nil => rfl
  | cons x l =>
    have h1 := (List.pairwise_append.1 h).2.2 (f x) (by simp) c (by simp)
    rw [hlow x] at h1
    cases h1
theorem bl_cons_no {x y : UInt8} (a b : List UInt8) (h : y < x) : Op.bytesLess (x :: a) (y :: b) = false := by
  have h2 := UInt8.lt_iff_toNat_lt.1 h
  have h3 : ¬ x < y := by rw [UInt8.lt_iff_toNat_lt]; omega
  have h4 : (x == y) = false := by
    rw [beq_eq_false_iff_ne]
    intro e
    rw [e] at h2; omega
  simp [Op.bytesLess, h3, h4]
theorem rd_inv : ∀ (l : List Ch) (r z : Rm) (x : List Ch), rdL r l = some z → Ris (rowsX r x ++ l) → (∀ c ∈ l, c.gone = false) → r.ns = [] → (x = [] ∧ r.nw = 0 ∨ x = [xRow r.nw r.nt]) → ∃ x', rowsX r x ++ l = rowsX z x' ∧ z.ns = [] ∧ (x' = [] ∧ z.nw = 0 ∨ x' = [xRow z.nw z.nt])
  | [], r, z, x, h, hr, hg, hn, hx => by
    cases Option.some.inj h
    exact ⟨x, by rw [List.append_nil], hn, hx⟩
  | c :: l, r, z, x, h, hr, hg, hn, hx => by
    have hgc := hg c (List.mem_cons_self ..)
    have hgl : ∀ c' ∈ l, c'.gone = false := fun c' hc' => hg c' (List.mem_cons_of_mem _ hc')
    have kh : ∀ x, kl (hRow x) = 104 :: [dg x.holder.toNat, dg x.slot.toNat] := fun x => kl_bs _ _ _
    have kt : ∀ x, kl (tRow x) = 116 :: d4 x.id.toNat := fun x => kl_bs _ _ _
    have kw : ∀ x, kl (wRow x) = 119 :: d4 x.id.toNat := fun x => kl_bs _ _ _
    have kx : ∀ a b, kl (xRow a b) = [120] := fun a b => kl_bs _ _ _
    have hx2 : ∃ q : List (Int × Int), x = q.map (fun p => xRow p.1 p.2) := by
      rcases hx with ⟨hx, -⟩ | hx
      · exact ⟨[], hx⟩
      · exact ⟨[(r.nw, r.nt)], hx⟩
    obtain ⟨q, hq⟩ := hx2
    cases hc : rdC r c with
    | none => rw [show rdL r (c :: l) = (rdC r c).bind _ from rfl, hc] at h; cases h
    | some r1 =>
      have h1 : rdL r1 l = some z := by rw [show rdL r (c :: l) = (rdC r c).bind _ from rfl, hc] at h; exact h
      have cx (hlow : ∀ p : Int × Int, Op.bytesLess (kl (xRow p.1 p.2)) (kl c) = false) : x = [] := by
        have := ris_none (f := fun p : Int × Int => xRow p.1 p.2) (l := q) (A := r.hs.map hRow ++ r.ts.map tRow ++ r.ws.map wRow) (B := []) (C := l) (c := c) (by rw [← hq]; simpa [rowsX] using hr) hlow
        rw [hq, this]; rfl
      have cw (hlow : ∀ p, Op.bytesLess (kl (wRow p)) (kl c) = false) : r.ws = [] :=
        ris_none (f := wRow) (l := r.ws) (A := r.hs.map hRow ++ r.ts.map tRow) (B := x) (C := l) (c := c) (by simpa [rowsX] using hr) hlow
      have ct (hlow : ∀ p, Op.bytesLess (kl (tRow p)) (kl c) = false) : r.ts = [] :=
        ris_none (f := tRow) (l := r.ts) (A := r.hs.map hRow) (B := r.ws.map wRow ++ x) (C := l) (c := c) (by simpa [rowsX] using hr) hlow
      have key : ∃ x1, rowsX r x ++ c :: l = rowsX r1 x1 ++ l ∧ r1.ns = [] ∧ (x1 = [] ∧ r1.nw = 0 ∨ x1 = [xRow r1.nw r1.nt]) := by
        unfold rdC at hc
        cases hk : c.key.data.toList with
        | nil => rw [hk] at hc; cases hc
        | cons b k =>
          rw [hk] at hc
          dsimp only at hc
          unfold rdK at hc
          by_cases e1 : b = 104
          · rw [if_pos e1] at hc
            subst e1
            obtain ⟨y, rfl, rfl⟩ := rH_inv hk hgc hc
            have e3 := cx (fun p => by rw [kx, kh]; exact bl_cons_no _ _ (by decide))
            have e4 := cw (fun p => by rw [kw, kh]; exact bl_cons_no _ _ (by decide))
            have e5 := ct (fun p => by rw [kt, kh]; exact bl_cons_no _ _ (by decide))
            refine ⟨x, ?_, hn, ?_⟩
            · simp [rowsX, e3, e4, e5]
            · exact hx
          · rw [if_neg e1] at hc
            by_cases e2 : b = 116
            · rw [if_pos e2] at hc
              subst e2
              obtain ⟨y, rfl, rfl⟩ := rT_inv hk hgc hc
              have e3 := cx (fun p => by rw [kx, kt]; exact bl_cons_no _ _ (by decide))
              have e4 := cw (fun p => by rw [kw, kt]; exact bl_cons_no _ _ (by decide))
              refine ⟨x, ?_, hn, hx⟩
              simp [rowsX, e3, e4]
            · rw [if_neg e2] at hc
              by_cases e3 : b = 119
              · rw [if_pos e3] at hc
                subst e3
                obtain ⟨y, rfl, rfl⟩ := rW_inv hk hgc hc
                have e3 := cx (fun p => by rw [kx, kw]; exact bl_cons_no _ _ (by decide))
                refine ⟨x, ?_, hn, hx⟩
                simp [rowsX, e3]
              · rw [if_neg e3] at hc
                by_cases e4 : b = 120
                · rw [if_pos e4] at hc
                  subst e4
                  obtain ⟨a, b, rfl, rfl⟩ := rX_inv hk hgc hc
                  have e3 := cx (fun p => by rw [kx, kx]; exact bl_irr _)
                  refine ⟨[xRow a b], ?_, hn, .inr rfl⟩
                  simp [rowsX, e3]
                · rw [if_neg e4] at hc; cases hc
      obtain ⟨x1, he, hn1, hx1⟩ := key
      obtain ⟨x2, he2, h2⟩ := rd_inv l r1 z x1 h1 (by rw [← he]; exact hr) hgl hn1 hx1
      exact ⟨x2, by rw [he, he2], h2⟩
/-- what is read has these rows -/
theorem parse_inv {l : List Ch} {z : Rm} (h : parseR l = some z) : rowsL z = l ∧ z.ns = [] ∧ togB z = true ∧ Ris l := by
  unfold parseR at h
  split at h
  · rename_i hh
    cases hz : rdL rmZ l with
    | none => rw [hz] at h; cases h
    | some y =>
      rw [hz] at h
      have h3 : (if togB y = true then some y else none) = some z := h
      split at h3
      · rename_i ht
        cases Option.some.inj h3
        obtain ⟨x, he, hn, hx⟩ := rd_inv l rmZ _ [] hz hh.1 hh.2 rfl (.inl ⟨rfl, rfl⟩)
        refine ⟨?_, hn, ht, hh.1⟩
        rcases hx with ⟨hx, h0⟩ | hx
        · exfalso
          unfold togB nxOk at ht
          simp only [Bool.and_eq_true, decide_eq_true_eq] at ht
          have := ht.2.1.1.1
          omega
        · show _ = l
          rw [show l = rowsX rmZ [] ++ l from rfl, he, hx]; rfl
      · cases h3
  · cases h
/-- where there are as many, there is no other one -/
theorem all_in : ∀ {a b : List Int}, a.Nodup → (∀ x ∈ a, x ∈ b) → b.length = a.length → ∀ y ∈ b, y ∈ a
  | [], b, _, _, hl, y, hy => by
    have : b = [] := List.length_eq_zero_iff.1 hl
    rw [this] at hy; cases hy
  | x :: a, b, hn, h, hl, y, hy => by
    rw [List.nodup_cons] at hn
    have hm : x ∈ b := h x (List.mem_cons_self ..)
    have h1 := List.length_erase_of_mem hm
    by_cases e : y = x
    · rw [e]; exact List.mem_cons_self ..
    · refine List.mem_cons_of_mem _ (all_in (b := b.erase x) hn.2 (fun z hz => ?_) ?_ y ?_)
      · have : z ≠ x := fun e => hn.1 (e ▸ hz)
        exact (List.mem_erase_of_ne this).2 (h z (List.mem_cons_of_mem _ hz))
      · rw [h1, hl, List.length_cons]; omega
      · exact (List.mem_erase_of_ne e).2 hy
/-- what goes together -/
structure Tog (z : Rm) : Prop where
  gw : GoodW z.ws
  tk : ∀ x ∈ z.ts, thOk x = true
  tl : z.ts.length ≤ 10
  tt : z.ts.map (·.id) = thingsL z.ws
  hp : ∀ x ∈ z.hs, plOk x.holder x.slot
  hl : z.hs.length = z.ws.length
  hw : ∀ x ∈ z.hs, ∃ y ∈ z.ws, y.id = x.writ
  nw : 1 ≤ z.nw ∧ z.nw ≤ 1000
  nt : 1 ≤ z.nt ∧ z.nt ≤ 1000
theorem tog_of {z : Rm} (h : togB z = true) : Tog z := by
  unfold togB thsOk hdsOk nxOk at h
  simp only [Bool.and_eq_true, decide_eq_true_eq, List.all_eq_true, List.any_eq_true, beq_iff_eq] at h
  obtain ⟨⟨⟨h1, ⟨h2, h3⟩, h4⟩, ⟨h5, h6⟩, h7⟩, ⟨h8, h9⟩, h10⟩ := h
  have hg := good_of_chk h1
  have hwid : ((z.ws.map (·.id))).Nodup := by
    have := hg.2.1
    rw [List.Nodup, List.pairwise_map]
    exact this.imp (fun h => by omega)
  refine ⟨hg, h2, h3, h4, h5, h7, fun x hx => ?_, ⟨h8.1, h8.2.1⟩, ⟨h8.2.2.1, h8.2.2.2⟩⟩
  have := all_in (b := z.hs.map (·.writ)) hwid (fun y hy => by
    obtain ⟨w, hw, rfl⟩ := List.mem_map.1 hy
    obtain ⟨a, ha, e⟩ := h6 w hw
    exact List.mem_map.2 ⟨a, ha, e⟩) (by simpa using h7) x.writ (List.mem_map.2 ⟨x, hx, rfl⟩)
  obtain ⟨y, hy, e⟩ := List.mem_map.1 this
  exact ⟨y, hy, e⟩
/-- and its numbers are small -/
theorem Tog.ok {z : Rm} (h : Tog z) : ImOk z := by
  have hw : ∀ x ∈ z.ws, wrOk x := h.gw.1
  refine ⟨fun x hx => ?_, fun x hx => ?_, fun x hx => ?_, ?_⟩
  · obtain ⟨y, hy, e⟩ := h.hw x hx
    obtain ⟨y1, y2, -⟩ := hw y hy
    obtain ⟨p1, p2, p3, p4⟩ := h.hp x hx
    unfold N4; omega
  · have hm : x.id ∈ thingsL z.ws := by rw [← h.tt]; exact List.mem_map.2 ⟨x, hx, rfl⟩
    rw [things_of_good h.gw] at hm
    have hk := h.tk x hx
    have hr := thUp_mem.1 hm
    unfold thOk at hk
    simp only [Bool.or_eq_true, Bool.and_eq_true, beq_iff_eq, decide_eq_true_eq] at hk
    unfold N4; omega
  · obtain ⟨w1, w2, w3, w4, w5, w6, w7, w8, w9, w10⟩ := hw x hx
    unfold N4; omega
  · have := h.nw
    have := h.nt
    unfold N4; omega
/-- places rise where their rows do -/
theorem Tog.good {z : Rm} (h : Tog z) (hr : Ris (rowsL z)) : Good z.hs := by
  refine good_of_rise (fun x hx => ?_) ?_
  · obtain ⟨y, hy, e⟩ := h.hw x hx
    have := (h.gw.1 y hy).1
    exact ⟨h.hp x hx, by omega⟩
  · have h1 : Ris (z.hs.map hRow) := by
      unfold Ris rowsL at hr
      exact (List.pairwise_append.1 (List.pairwise_append.1 (List.pairwise_append.1 hr).1).1).1
    refine List.Pairwise.imp_of_mem ?_ (List.pairwise_map.1 h1)
    intro a b ha hb hab
    obtain ⟨a1, a2, a3, a4⟩ := h.hp a ha
    obtain ⟨b1, b2, b3, b4⟩ := h.hp b hb
    rw [show kl (hRow a) = 104 :: [dg a.holder.toNat, dg a.slot.toNat] from kl_bs _ _ _, show kl (hRow b) = 104 :: [dg b.holder.toNat, dg b.slot.toNat] from kl_bs _ _ _] at hab
    have hab2 : 48 + a.holder.toNat % 10 < 48 + b.holder.toNat % 10 ∨ (48 + a.holder.toNat % 10 = 48 + b.holder.toNat % 10 ∧ 48 + a.slot.toNat % 10 < 48 + b.slot.toNat % 10) := by
      simpa [Op.bytesLess, UInt8.lt_iff_toNat_lt, ← UInt8.toNat_inj, dg_toNat] using hab
    unfold befB
    split
    · exact decide_eq_true (by omega)
    · exact decide_eq_true (by omega)
end Go.Proofs.YtddgpgldbekamaaGreatDoor
