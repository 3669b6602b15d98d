/- image.Parse: rows are read as a realm. -/
import Derived.Test.YtddgpgldbekamaaGreatDoorAllPure
import Derived.Test.YtddgpgldbekamaaGreatDoorImRd
import Derived.Test.YtddgpgldbekamaaGreatDoorImTg
set_option linter.unusedVariables false
set_option linter.unusedSimpArgs false
set_option linter.unnecessarySimpa false
namespace Go.Proofs.YtddgpgldbekamaaGreatDoor
open Go.RowKit

theorem rdC_sz {r z : Rm} {c : Ch} (h : rdC r c = some z) : z.hs.length ≤ r.hs.length + 1 ∧ z.ts.length ≤ r.ts.length + 1 ∧ z.ws.length ≤ r.ws.length + 1 ∧ ∀ x ∈ z.ts, x ∈ r.ts ∨ x.data.size ≤ c.val.size := by
  unfold rdC at h
  split at h
  · cases h
  · unfold rdK at h
    split at h
    · unfold rH at h
      split at h
      · cases Option.some.inj h
        refine ⟨by simp, by simp, by simp, fun x hx => .inl hx⟩
      · cases h
    · split at h
      · unfold rT at h
        split at h
        · cases Option.some.inj h
          refine ⟨by simp, by simp, by simp, fun x hx => ?_⟩
          rcases List.mem_append.1 hx with hx | hx
          · exact .inl hx
          · right
            rw [List.mem_singleton.1 hx]
            show (bsO _).size ≤ _
            rw [bsO_size, List.length_drop]
            have : c.val.data.toList.length = c.val.size := by simp
            omega
        · cases h
      · split at h
        · unfold rW at h
          split at h
          · cases Option.some.inj h
            refine ⟨by simp, by simp, by simp, fun x hx => .inl hx⟩
          · cases h
        · split at h
          · unfold rX at h
            split at h
            · cases Option.some.inj h
              refine ⟨by simp, by simp, by simp, fun x hx => .inl hx⟩
            · cases h
          · cases h
theorem ris_take {l : List Ch} {m : Nat} {x y : Ch} (h : Ris (l.take (m + 1))) (hx : l[m]? = some x) (hy : l[m + 1]? = some y) (hlt : Op.bytesLess (kl x) (kl y) = true) : Ris (l.take (m + 2)) := by
  unfold Ris at h ⊢
  rw [List.take_add_one, hy]
  refine List.pairwise_append.2 ⟨h, List.pairwise_singleton _ _, ?_⟩
  intro a ha b hb
  rw [Option.toList_some, List.mem_singleton] at hb
  subst hb
  rw [List.take_add_one, hx] at ha h
  rcases List.mem_append.1 ha with ha | ha
  · exact bl_trans _ _ _ ((List.pairwise_append.1 h).2.2 a ha x (by simp)) hlt
  · rw [Option.toList_some, List.mem_singleton] at ha
    rw [ha]; exact hlt
theorem ris_not {l : List Ch} {m : Nat} {x y : Ch} (hx : l[m]? = some x) (hy : l[m + 1]? = some y) (hlt : Op.bytesLess (kl x) (kl y) = false) : ¬ Ris l := by
  intro h
  obtain ⟨h1, e1⟩ := List.getElem?_eq_some_iff.1 hx
  obtain ⟨h2, e2⟩ := List.getElem?_eq_some_iff.1 hy
  have := (List.pairwise_iff_getElem.1 h) m (m + 1) h1 h2 (by omega)
  rw [e1, e2, hlt] at this
  cases this
theorem bl_tri : ∀ a b : List UInt8, Op.bytesLess a b = true ∨ a = b ∨ Op.bytesLess b a = true
  | [], [] => .inr (.inl rfl)
  | [], _ :: _ => .inl rfl
  | _ :: _, [] => .inr (.inr rfl)
  | x :: a, y :: b => by
    simp only [Op.bytesLess, Bool.or_eq_true, decide_eq_true_eq, Bool.and_eq_true, beq_iff_eq]
    have htri : x < y ∨ x = y ∨ y < x := by simp only [UInt8.lt_iff_toNat_lt, ← UInt8.toNat_inj]; omega
    rcases htri with h | rfl | h
    · exact .inl (.inl h)
    · rcases bl_tri a b with h | rfl | h
      · exact .inl (.inr ⟨rfl, h⟩)
      · exact .inr (.inl rfl)
      · exact .inr (.inr (.inr ⟨rfl, h⟩))
    · exact .inr (.inr (.inl h))
theorem bl_asym {a b : List UInt8} (h : Op.bytesLess a b = true) : Op.bytesLess b a = false := by
  cases e : Op.bytesLess b a
  · rfl
  · have := bl_trans a b a h e; rw [bl_irr] at this; cases this
theorem bl_ne {a b : List UInt8} (h : Op.bytesLess a b = true) : a ≠ b := fun e => by rw [e, bl_irr] at h; cases h
theorem le_not (a b : List UInt8) : (Op.bytesLess a b || a == b) = !Op.bytesLess b a := by
  rcases bl_tri a b with h | h | h
  · rw [h, bl_asym h]; rfl
  · rw [h, bl_irr]; simp
  · rw [h, bl_asym h]
    have := bl_ne h
    simp
    exact fun e => this e.symm
theorem Bx.lowB {w w' : World} {b B : Nat} {vs : List Value} (h : Bx w b vs) (hb : Below B w w') (hlt : b < B) : Bx w' b vs :=
  ⟨Nat.lt_of_lt_of_le h.1 hb.size, fun j u hu => ⟨(hb.cell (p := ⟨b, j, none⟩) hlt).trans (h.2 j u hu).1, (hb.frozen (p := ⟨b, j, none⟩) hlt).trans (h.2 j u hu).2⟩⟩
/-- how far it has come -/
structure PaI (w wr : World) (l : List Ch) (k : Nat) (r : Rm) (v0 v1 v2 : Value) : Prop where
  rd : rdL rmZ (l.take k) = some r
  ri : Ris (l.take k)
  st : ∀ c ∈ l.take k, c.gone = false
  pt : Pt wr (w.heap.size + 1) (w.heap.size + 1) v0 v1 v2 r
  b0 : Bx wr w.heap.size [.slice none 0 0, .slice none 0 0, .slice none 0 0, .slice none 0 0, .int .i64 0, .int .i64 0]
  l1 : r.hs.length ≤ k
  l2 : r.ts.length ≤ k
  l3 : r.ws.length ≤ k
  ds : ∀ x ∈ r.ts, x.data.size ≤ maxLen
  bl : Below w.heap.size w wr
/-- what Parse gives -/
def PaOut (w : World) (l : List Ch) (e : Ending) (w' : World) : Prop :=
  Below w.heap.size w w' ∧ ((∃ z b0 b1 b2 b3 d0 d1 d2 d3, parseR l = some z ∧ e = .returned (.tuple #[.agg #[.slice b0 z.ws.length d0, .slice b1 z.ts.length d1, .slice b2 z.hs.length d2, .slice b3 z.ns.length d3, .int .i64 z.nw, .int .i64 z.nt], .nilIface]) ∧ RmAt w' b0 b1 b2 b3 d0 d1 d2 d3 z) ∨
    (parseR l = none ∧ e = .returned (.tuple #[.agg #[.slice none 0 0, .slice none 0 0, .slice none 0 0, .slice none 0 0, .int .i64 0, .int .i64 0], .iface 82 (.int .i64 4)])))
theorem parse_no {l : List Ch} (h : ¬ Ris l ∨ (∃ c ∈ l, c.gone = true) ∨ rdL rmZ l = none) : parseR l = none := by
  unfold parseR
  by_cases hc : Ris l ∧ (∀ c ∈ l, c.gone = false)
  · rcases h with h | ⟨c, h1, h2⟩ | h
    · exact absurd hc.1 h
    · rw [hc.2 c h1] at h2; cases h2
    · rw [if_pos hc, h]; rfl
  · rw [if_neg hc]
set_option maxHeartbeats 2000000 in
set_option maxRecDepth 100000 in
theorem parse_any (a : Option Addr) (cc : Nat) (l : List Ch) (w : World) (hw : ChsAt w a l) (hm : l.length ≤ 100) :
    Calls Tryz.prog 17 #[.slice a l.length cc] w (PaOut w l) := by
  obtain ⟨B0, B1, ba⟩ := boxes2 w [.slice none 0 0, .slice none 0 0, .slice none 0 0, .slice none 0 0, .int .i64 0, .int .i64 0] 32 [.slice none 0 0, .slice none 0 0, .slice none 0 0, .slice none 0 0, .int .i64 0, .int .i64 0] 32
  have tg : RTag ((w.alloc (.cells #[.slice none 0 0, .slice none 0 0, .slice none 0 0, .slice none 0 0, .int .i64 0, .int .i64 0] 32)).alloc (.cells #[.slice none 0 0, .slice none 0 0, .slice none 0 0, .slice none 0 0, .int .i64 0, .int .i64 0] 32)) (w.heap.size + 1) := by
    have := RTag.new (w.alloc (.cells #[.slice none 0 0, .slice none 0 0, .slice none 0 0, .slice none 0 0, .int .i64 0, .int .i64 0] 32)) #[.slice none 0 0, .slice none 0 0, .slice none 0 0, .slice none 0 0, .int .i64 0, .int .i64 0]
    rw [sz_alloc] at this; exact this
  have hI0 : PaI w ((w.alloc (.cells #[.slice none 0 0, .slice none 0 0, .slice none 0 0, .slice none 0 0, .int .i64 0, .int .i64 0] 32)).alloc (.cells #[.slice none 0 0, .slice none 0 0, .slice none 0 0, .slice none 0 0, .int .i64 0, .int .i64 0] 32)) l 0 rmZ (.slice none 0 0) (.slice none 0 0) (.slice none 0 0) :=
    ⟨rfl, List.Pairwise.nil, (fun c hc => by cases hc), ⟨B1, tg, OwnsR.of4 (World.ownsRow_nil _ _ _ _) (World.ownsRow_nil _ _ _ _) (World.ownsRow_nil _ _ _ _) (World.ownsRow_nil _ _ _ _), Nat.le_refl _, rfl⟩, B0, Nat.le_refl _, Nat.le_refl _, Nat.le_refl _, (fun x hx => by cases hx), ba⟩
  clear tg B0 B1 ba
  go_enter Tryz.func17, Tryz.ntmps17
  go_wp2_with fail
  go_loopw [9] (fun i wr => ∃ k : Nat, k ≤ l.length ∧ i = .int .i64 k ∧ ∃ r v0 v1 v2, PaI w wr l k r v0 v1 v2) (fun i _ => l.length - (intOf i).toNat)
  case atStart => exact ⟨0, Nat.zero_le _, rfl, _, _, _, _, hI0⟩
  case round =>
    clear hI0
    obtain ⟨k, hk, rfl, r, v0, v1, v2, hI⟩ := hrel
    by_cases hlt : k < l.length
    · obtain ⟨c, hc⟩ : ∃ c, l[k]? = some c := ⟨l[k], List.getElem?_eq_getElem hlt⟩
      obtain ⟨b, o, rfl, hb, hxs⟩ := hw.resolve_left (fun e => by rw [e] at hlt; simp at hlt)
      obtain ⟨⟨q1, q2, q3⟩, s1, s2⟩ := (hxs k c hc).below hI.bl hb
      have hbz : b < wr.heap.size := Nat.lt_of_lt_of_le hb hI.bl.size
      have HC : Hid (l[k]? = some c) := hc
      have b1 : Below wr.heap.size wr (wr.alloc (.cells #[.string c.key, .string c.val, .bool c.gone] 52)).drew := ((Below.refl _ wr).alloc (Nat.le_refl _) _).drew
      have X0 := Bx.new wr [.string c.key, .string c.val, .bool c.gone] 52
      have X5 : Bx (wr.alloc (.cells #[.string c.key, .string c.val, .bool c.gone] 52)).drew wr.heap.size [.string c.key, .string c.val, .bool c.gone] := X0.below (below_drewN (Below.refl _ _) 1)
      have B5 := hI.b0.below b1
      have P5 := hI.pt.below b1
      have b5 := Below_after hI.bl b1
      cases k with
      | zero =>
        have hS0 : True := trivial
        have HR : Hid (Ris (l.take (0 + 1))) := (show Ris (l.take (0 + 1)) from by rw [List.take_add_one, HC.out]; exact List.pairwise_singleton _ _)
        clear hxs hw hc b1
        simp only [Nat.zero_mul, Nat.add_zero] at q1 q2 q3
        go_wp2_with fail
        refine wp_region_held_drew (S := fun w' => True) (by kernel_rfl) ?_ (fun hHeld => ?_)
        · trivial
        refine tkI 0 (.int .i64 ((0 : Nat) : Int)) rfl ?_
        refine tkI 1 (.bool false) rfl ?_
        refine tkI 2 (.bool false) rfl ?_
        refine tkS 3 rfl ?_
        refine tkS 4 rfl ?_
        refine tkS 5 rfl ?_
        refine tkS 6 rfl ?_
        refine tkS 7 rfl ?_
        refine tkS 8 rfl ?_
        refine tkS 9 rfl ?_
        refine tkS 10 rfl ?_
        refine tkS 11 rfl ?_
        refine tkI 12 (.bool false) rfl ?_
        refine wpAnyH_done (by kernel_rfl) ?_ _
        clear hS0
        generalize hW5 : (wr.alloc (.cells #[.string c.key, .string c.val, .bool c.gone] 52)).drew = W5 at *
        obtain ⟨y1, y2, y3⟩ := X5.c3
        have yz := X5.1
        by_cases hg : c.gone = true
        · have HN : Hid (parseR l = none) := parse_no (.inr (.inl ⟨c, List.mem_of_getElem? HC.out, hg⟩))
          rw [hg] at y3
          clear hg HR
          obtain ⟨cZ0, fZ0, cZ1, fZ1, cZ2, fZ2, cZ3, fZ3, cZ4, fZ4, cZ5, fZ5⟩ := B5.cf6
          have zZ := B5.1
          go_wp2_with fail
          obtain ⟨y0, y1, y2, y3, y4, y5⟩ := (B5.put6 (.slice none 0 0) (.slice none 0 0) (.slice none 0 0) (.slice none 0 0) (.int .i64 0) (.int .i64 0)).six
          exact bodyPost_ret (v := .tuple #[.agg #[.slice none 0 0, .slice none 0 0, .slice none 0 0, .slice none 0 0, .int .i64 0, .int .i64 0], .iface 82 (.int .i64 4)]) (by simp [results, Tryz.results17, go_sem, y0, y1, y2, y3, y4, y5]) rfl ⟨below_set6 b5 (Nat.le_refl _) _ _ _ _ _ _, .inr ⟨HN.out, rfl⟩⟩
        have hg' : c.gone = false := by simpa using hg
        rw [hg'] at y3
        have hcon := read_any (w.heap.size + 1) (w.heap.size + 1) v0 v1 v2 r c s1 s2 W5 P5 (by have := hI.l1; omega) (by have := hI.l2; omega) (by have := hI.l3; omega)
        rw [hg'] at hcon
        have HG : Hid (c.gone = false) := hg'
        clear hg hg'
        go_wp2_with fail
        refine hcon.mono ?_
        rintro e w2 ⟨hb2, ⟨z, u0, u1, u2, g1, rfl, g2⟩ | ⟨g1, rfl⟩⟩
        · have B2 := B5.lowB hb2 (Nat.lt_succ_self _)
          have b2 : Below w.heap.size w w2 := b5.trans (hb2.mono (Nat.le_succ _))
          obtain ⟨z1, z2, z3, z4⟩ := rdC_sz g1
          have hP : PaI w w2 l (0 + 1) z u0 u1 u2 := ⟨by rw [rdL_take HC.out, hI.rd]; exact g1, HR.out, (fun d hd => by rw [List.take_add_one, HC.out] at hd; rcases List.mem_append.1 hd with hd | hd; exact hI.st d hd; rw [Option.toList_some, List.mem_singleton] at hd; rw [hd]; exact HG.out), g2, B2, by have := hI.l1; omega, by have := hI.l2; omega, by have := hI.l3; omega, (fun d hd => by rcases z4 d hd with hd | hd; exact hI.ds d hd; omega), b2⟩
          clear hcon hI B5 P5 X5 B2 b2 z1 z2 z3 z4 g1 g2 HR HG y1 y2 y3 hb2
          go_wp2_with fail
          go_roundw
          case rel => exact ⟨0 + 1, by omega, by go_num, _, _, _, _, hP⟩
          case measure => simp [intOf]; omega
        · have B2 := B5.lowB hb2 (Nat.lt_succ_self _)
          have b2 : Below w.heap.size w w2 := b5.trans (hb2.mono (Nat.le_succ _))
          have HN : Hid (parseR l = none) := parse_no (.inr (.inr (rdL_stop (k := 0 + 1) (by rw [rdL_take HC.out, hI.rd]; exact g1))))
          clear hcon hI B5 P5 X5 g1 HR HG y1 y2 y3 hb2
          obtain ⟨cZ0, fZ0, cZ1, fZ1, cZ2, fZ2, cZ3, fZ3, cZ4, fZ4, cZ5, fZ5⟩ := B2.cf6
          have zZ := B2.1
          go_wp2_with fail
          obtain ⟨y0, y1, y2, y3, y4, y5⟩ := (B2.put6 (.slice none 0 0) (.slice none 0 0) (.slice none 0 0) (.slice none 0 0) (.int .i64 0) (.int .i64 0)).six
          exact bodyPost_ret (v := .tuple #[.agg #[.slice none 0 0, .slice none 0 0, .slice none 0 0, .slice none 0 0, .int .i64 0, .int .i64 0], .iface 82 (.int .i64 4)]) (by simp [results, Tryz.results17, go_sem, y0, y1, y2, y3, y4, y5]) rfl ⟨below_set6 b2 (Nat.le_refl _) _ _ _ _ _ _, .inr ⟨HN.out, rfl⟩⟩
      | succ m =>
        obtain ⟨c', hc'⟩ : ∃ c', l[m]? = some c' := ⟨l[m]'(by omega), List.getElem?_eq_getElem (by omega)⟩
        obtain ⟨⟨p1, -, -⟩, -, -⟩ := ((hxs m c' hc').below hI.bl hb).below b1 hbz
        obtain ⟨x1, -, -⟩ := X0.c3
        have hS0 : (wr.alloc (.cells #[.string c.key, .string c.val, .bool c.gone] 52)).drew.cell? ⟨wr.heap.size, 0, none⟩ = some (.string c.key) ∧ (wr.alloc (.cells #[.string c.key, .string c.val, .bool c.gone] 52)).drew.cell? ⟨b, o + m * 3, none⟩ = some (.string c'.key) := ⟨x1, p1⟩
        have hle := le_not c.key.toList c'.key.toList
        have HC' : Hid (l[m]? = some c') := hc'
        clear hxs hw hc hc' b1
        go_wp2_with fail
        refine wp_region_held_drew (S := fun w' => w'.cell? ⟨wr.heap.size, 0, none⟩ = some (.string c.key) ∧ w'.cell? ⟨b, o + m * 3, none⟩ = some (.string c'.key)) (by kernel_rfl) ?_ (fun hHeld => ?_)
        · exact hS0
        refine tkI 0 (.int .i64 ((m + 1 : Nat) : Int)) rfl ?_
        refine tkI 1 (.bool true) rfl ?_
        refine tkI 2 (.bool true) rfl ?_
        refine tkI 3 (.pointer (some ⟨wr.heap.size, 0, none⟩)) rfl ?_
        refine tkJ 4 (.string c.key) rfl (by intro w hSw; (try dsimp only at hSw); obtain ⟨z0, z1⟩ := hSw; go_simp) ?_
        refine tkI 5 (.slice (some ⟨b, o, none⟩) l.length cc) rfl ?_
        refine tkI 6 (.int .i64 ((m + 1 : Nat) : Int)) rfl ?_
        refine tkJ 7 (.int .i64 (m : Int)) rfl (by intro w hSw; go_simp; (try rw [wrap_id (by omega) (by omega)]); (try omega)) ?_
        refine tkJ 8 (.pointer (some ⟨b, o + m * 3, none⟩)) rfl (by intro w hSw; go_simp; all_goals (intro hx; exact absurd hx (by omega))) ?_
        refine tkI 9 (.pointer (some ⟨b, o + m * 3, none⟩)) rfl ?_
        refine tkJ 10 ((.string c'.key)) rfl (by intro w hSw; (try dsimp only at hSw); obtain ⟨z0, z1⟩ := hSw; go_simp) ?_
        refine tkI 11 (.bool (Op.bytesLess c.key.toList c'.key.toList || c.key.toList == c'.key.toList)) rfl ?_
        refine tkI 12 (.bool (Op.bytesLess c.key.toList c'.key.toList || c.key.toList == c'.key.toList)) rfl ?_
        refine wpAnyH_done (by kernel_rfl) ?_ _
        cases hbl : Op.bytesLess (kl c') (kl c) with
        | false =>
          have hle2 : (Op.bytesLess c.key.toList c'.key.toList || c.key.toList == c'.key.toList) = true := by rw [hle, show Op.bytesLess c'.key.toList c.key.toList = false from hbl]; rfl
          have HN : Hid (parseR l = none) := parse_no (.inl (ris_not HC'.out HC.out hbl))
          clear hle hbl
          rw [hle2]
          clear hle2 hS0 x1 p1
          generalize hW5 : (wr.alloc (.cells #[.string c.key, .string c.val, .bool c.gone] 52)).drew = W5 at *
          obtain ⟨cZ0, fZ0, cZ1, fZ1, cZ2, fZ2, cZ3, fZ3, cZ4, fZ4, cZ5, fZ5⟩ := B5.cf6
          have zZ := B5.1
          go_wp2_with fail
          obtain ⟨y0, y1, y2, y3, y4, y5⟩ := (B5.put6 (.slice none 0 0) (.slice none 0 0) (.slice none 0 0) (.slice none 0 0) (.int .i64 0) (.int .i64 0)).six
          exact bodyPost_ret (v := .tuple #[.agg #[.slice none 0 0, .slice none 0 0, .slice none 0 0, .slice none 0 0, .int .i64 0, .int .i64 0], .iface 82 (.int .i64 4)]) (by simp [results, Tryz.results17, go_sem, y0, y1, y2, y3, y4, y5]) rfl ⟨below_set6 b5 (Nat.le_refl _) _ _ _ _ _ _, .inr ⟨HN.out, rfl⟩⟩
        | true =>
        have hle2 : (Op.bytesLess c.key.toList c'.key.toList || c.key.toList == c'.key.toList) = false := by rw [hle, show Op.bytesLess c'.key.toList c.key.toList = true from hbl]; rfl
        have HR : Hid (Ris (l.take (m + 1 + 1))) := ris_take hI.ri HC'.out HC.out hbl
        clear hle hbl
        rw [hle2]
        clear hle2
        clear x1 p1 hS0
        generalize hW5 : (wr.alloc (.cells #[.string c.key, .string c.val, .bool c.gone] 52)).drew = W5 at *
        obtain ⟨y1, y2, y3⟩ := X5.c3
        have yz := X5.1
        by_cases hg : c.gone = true
        · have HN : Hid (parseR l = none) := parse_no (.inr (.inl ⟨c, List.mem_of_getElem? HC.out, hg⟩))
          rw [hg] at y3
          clear hg HR
          obtain ⟨cZ0, fZ0, cZ1, fZ1, cZ2, fZ2, cZ3, fZ3, cZ4, fZ4, cZ5, fZ5⟩ := B5.cf6
          have zZ := B5.1
          go_wp2_with fail
          obtain ⟨y0, y1, y2, y3, y4, y5⟩ := (B5.put6 (.slice none 0 0) (.slice none 0 0) (.slice none 0 0) (.slice none 0 0) (.int .i64 0) (.int .i64 0)).six
          exact bodyPost_ret (v := .tuple #[.agg #[.slice none 0 0, .slice none 0 0, .slice none 0 0, .slice none 0 0, .int .i64 0, .int .i64 0], .iface 82 (.int .i64 4)]) (by simp [results, Tryz.results17, go_sem, y0, y1, y2, y3, y4, y5]) rfl ⟨below_set6 b5 (Nat.le_refl _) _ _ _ _ _ _, .inr ⟨HN.out, rfl⟩⟩
        have hg' : c.gone = false := by simpa using hg
        rw [hg'] at y3
        have hcon := read_any (w.heap.size + 1) (w.heap.size + 1) v0 v1 v2 r c s1 s2 W5 P5 (by have := hI.l1; omega) (by have := hI.l2; omega) (by have := hI.l3; omega)
        rw [hg'] at hcon
        have HG : Hid (c.gone = false) := hg'
        clear hg hg'
        go_wp2_with fail
        refine hcon.mono ?_
        rintro e w2 ⟨hb2, ⟨z, u0, u1, u2, g1, rfl, g2⟩ | ⟨g1, rfl⟩⟩
        · have B2 := B5.lowB hb2 (Nat.lt_succ_self _)
          have b2 : Below w.heap.size w w2 := b5.trans (hb2.mono (Nat.le_succ _))
          obtain ⟨z1, z2, z3, z4⟩ := rdC_sz g1
          have hP : PaI w w2 l ((m + 1) + 1) z u0 u1 u2 := ⟨by rw [rdL_take HC.out, hI.rd]; exact g1, HR.out, (fun d hd => by rw [List.take_add_one, HC.out] at hd; rcases List.mem_append.1 hd with hd | hd; exact hI.st d hd; rw [Option.toList_some, List.mem_singleton] at hd; rw [hd]; exact HG.out), g2, B2, by have := hI.l1; omega, by have := hI.l2; omega, by have := hI.l3; omega, (fun d hd => by rcases z4 d hd with hd | hd; exact hI.ds d hd; omega), b2⟩
          clear hcon hI B5 P5 X5 B2 b2 z1 z2 z3 z4 g1 g2 HR HG y1 y2 y3 hb2
          go_wp2_with fail
          go_roundw
          case rel => exact ⟨(m + 1) + 1, by omega, by go_num, _, _, _, _, hP⟩
          case measure => simp [intOf]; omega
        · have B2 := B5.lowB hb2 (Nat.lt_succ_self _)
          have b2 : Below w.heap.size w w2 := b5.trans (hb2.mono (Nat.le_succ _))
          have HN : Hid (parseR l = none) := parse_no (.inr (.inr (rdL_stop (k := (m + 1) + 1) (by rw [rdL_take HC.out, hI.rd]; exact g1))))
          clear hcon hI B5 P5 X5 g1 HR HG y1 y2 y3 hb2
          obtain ⟨cZ0, fZ0, cZ1, fZ1, cZ2, fZ2, cZ3, fZ3, cZ4, fZ4, cZ5, fZ5⟩ := B2.cf6
          have zZ := B2.1
          go_wp2_with fail
          obtain ⟨y0, y1, y2, y3, y4, y5⟩ := (B2.put6 (.slice none 0 0) (.slice none 0 0) (.slice none 0 0) (.slice none 0 0) (.int .i64 0) (.int .i64 0)).six
          exact bodyPost_ret (v := .tuple #[.agg #[.slice none 0 0, .slice none 0 0, .slice none 0 0, .slice none 0 0, .int .i64 0, .int .i64 0], .iface 82 (.int .i64 4)]) (by simp [results, Tryz.results17, go_sem, y0, y1, y2, y3, y4, y5]) rfl ⟨below_set6 b2 (Nat.le_refl _) _ _ _ _ _ _, .inr ⟨HN.out, rfl⟩⟩
    · have hkn : k = l.length := by omega
      have hrd := hI.rd
      rw [hkn, List.take_length] at hrd
      have hri := hI.ri
      rw [hkn, List.take_length] at hri
      have hst := hI.st
      rw [hkn, List.take_length] at hst
      have hpr : parseR l = if togB r = true then some r else none := by unfold parseR; rw [if_pos ⟨hri, hst⟩, hrd]; rfl
      have HPR : Hid (parseR l = if togB r = true then some r else none) := hpr
      have hO := hI.pt.own
      obtain ⟨b0, b1, b2, b3, d0, d1, d2, d3, rfl, rfl, rfl, e3, hR⟩ := hO.at
      have hrn := hI.pt.nn
      have e3' : d3 = 0 ∧ b3 = none := by
        injection e3 with e4 e5 e6
        exact ⟨e6.symm, e4.symm⟩
      obtain ⟨rfl, rfl⟩ := e3'
      have hnl : r.ns.length = 0 := by rw [hrn]; rfl
      have P1 := hI.pt.bx
      have B0 := hI.b0
      have bl := hI.bl
      have hds := hI.ds
      have k1 := hI.l1
      have k2 := hI.l2
      have k3 := hI.l3
      have hcon := tog_any b0 b1 b2 none d0 d1 d2 0 r wr hR hds (by omega) (by omega) (by omega)
      rw [hnl] at hcon
      have HNL : Hid (r.ns.length = 0) := hnl
      clear hI hpr hrd hri hst e3 hnl hrn hkn hds k1 k2 k3
      obtain ⟨c0, c1, c2, c3, c4, c5⟩ := P1.c6
      have hz := P1.1
      go_wp2_with fail
      refine hcon.mono ?_
      rintro e w2 ⟨rfl, hb2⟩
      have B2 := B0.below hb2
      have bl2 := Below_after bl hb2
      have P2 := P1.below hb2
      have hR2 := hR.below hb2
      have hO2 := hO.below hb2
      clear hcon c0 c1 c2 c3 c4 c5 hz hb2 B0 bl P1 hR hO
      by_cases ok : togB r = true
      · have HS : Hid (parseR l = some r) := HPR.out.trans (if_pos ok)
        rw [ok]
        clear ok HPR
        obtain ⟨c0, c1, c2, c3, c4, c5⟩ := P2.c6
        have hz := P2.1
        obtain ⟨cZ0, fZ0, cZ1, fZ1, cZ2, fZ2, cZ3, fZ3, cZ4, fZ4, cZ5, fZ5⟩ := B2.cf6
        have zZ := B2.1
        go_wp2_with fail
        have y6 := (B2.put6 (.slice b0 r.ws.length d0) (.slice b1 r.ts.length d1) (.slice b2 r.hs.length d2) (.slice none 0 0) (.int .i64 r.nw) (.int .i64 r.nt)).six
        obtain ⟨y0, y1, y2, y3, y4, y5⟩ := y6
        obtain ⟨g0, g1, g2, g3, e0, e1, e2, e3, h0, h1, h2, h3, hR3⟩ := (hO2.set6 (b := w.heap.size) (Nat.lt_succ_self _) (.slice b0 r.ws.length d0) (.slice b1 r.ts.length d1) (.slice b2 r.hs.length d2) (.slice none 0 0) (.int .i64 r.nw) (.int .i64 r.nt)).at
        cases h0
        cases h1
        cases h2
        have h3' : g3 = none ∧ e3 = 0 := by
          injection h3 with q1 q2 q3
          exact ⟨q1.symm, q3.symm⟩
        obtain ⟨rfl, rfl⟩ := h3'
        refine bodyPost_ret (v := .tuple #[.agg #[.slice b0 r.ws.length d0, .slice b1 r.ts.length d1, .slice b2 r.hs.length d2, .slice none 0 0, .int .i64 r.nw, .int .i64 r.nt], .nilIface]) (by simp [results, Tryz.results17, go_sem, y0, y1, y2, y3, y4, y5]) rfl ⟨below_set6 bl2 (Nat.le_refl _) _ _ _ _ _ _, .inl ⟨r, b0, b1, b2, none, d0, d1, d2, 0, HS.out, by rw [HNL.out], hR3⟩⟩
      · have ok' : togB r = false := by simpa using ok
        have HN : Hid (parseR l = none) := HPR.out.trans (if_neg ok)
        rw [ok']
        clear ok ok' HPR P2 hR2 hO2
        obtain ⟨cZ0, fZ0, cZ1, fZ1, cZ2, fZ2, cZ3, fZ3, cZ4, fZ4, cZ5, fZ5⟩ := B2.cf6
        have zZ := B2.1
        go_wp2_with fail
        obtain ⟨y0, y1, y2, y3, y4, y5⟩ := (B2.put6 (.slice none 0 0) (.slice none 0 0) (.slice none 0 0) (.slice none 0 0) (.int .i64 0) (.int .i64 0)).six
        exact bodyPost_ret (v := .tuple #[.agg #[.slice none 0 0, .slice none 0 0, .slice none 0 0, .slice none 0 0, .int .i64 0, .int .i64 0], .iface 82 (.int .i64 4)]) (by simp [results, Tryz.results17, go_sem, y0, y1, y2, y3, y4, y5]) rfl ⟨below_set6 bl2 (Nat.le_refl _) _ _ _ _ _ _, .inr ⟨HN.out, rfl⟩⟩
end Go.Proofs.YtddgpgldbekamaaGreatDoor
