/- slices.IndexFunc, slices.DeleteFunc and realm.leaveOut at the types of a realm's lists, with whatever closure. -/
import Derived.Test.YtddgpgldbekamaaGreatCloneW
import Derived.Test.YtddgpgldbekamaaGreatBox
import Derived.Shelf.Abstract
set_option linter.unusedSimpArgs false
set_option linter.unusedVariables false
namespace Go.Proofs.YtddgpgldbekamaaGreat
open Go.RowKit

theorem kept_of {w0 w w1 : World} (h : Below w0.heap.size w0 w) (h1 : Below w.heap.size w w1) : Below w0.heap.size w0 w1 := h.trans (h1.mono h.size)

/-- what is asked of a closure over Notes -/
def Predn (w0 : World) (g : Nat) (lb : Array Value) (p : Nt → Bool) : Prop :=
  ∀ (x : Nt) (W : World), Below w0.heap.size w0 W → Calls Tryz.prog g (#[.agg #[.int .i64 x.port, .string x.data, .int .i64 x.badge, .int .i64 x.writ]] ++ lb) W fun e w' => e = .returned (.bool (p x)) ∧ Below W.heap.size W w'
set_option maxHeartbeats 1000000 in
theorem idx_somen (b o c : Nat) (l : List Nt) (p : Nt → Bool) (g : Nat) (lb : Array Value) (eg : ∀ args w, (callFunc g args).run Tryz.prog w = .ok (.enter g args) w) (w0 w : World) (hp : Predn w0 g lb p) (hB : Below w0.heap.size w0 w)
    (hw : ∀ j x, l[j]? = some x → NtAt w b (o + j * 4) x) (hb : b < w.heap.size) (hm : l.length ≤ 1000000) :
    Calls Tryz.prog 32 #[.slice (some ⟨b, o, none⟩) l.length c, .func (.func g) #[] lb] w fun e w' => e = .returned (.int .i64 (idx p l)) ∧ Below w.heap.size w w' := by
  have HP : Hid (Predn w0 g lb p) := hp
  clear hp
  go_enter Tryz.func32, Tryz.ntmps32
  go_wp2
  go_loopw [8] (fun i wr => ∃ k : Nat, k ≤ l.length ∧ i = .int .i64 k ∧ Hid (idxFrom p (l.drop k) k = idx p l) ∧ Below w.heap.size w wr) (fun i _ => l.length - (intOf i).toNat)
  case atStart => exact ⟨0, Nat.zero_le _, rfl, show Hid _ from rfl, Below.refl _ _⟩
  case round =>
    obtain ⟨k, hk, rfl, hn, hbl⟩ := hrel
    by_cases hlt' : k < l.length
    · obtain ⟨x, hx⟩ : ∃ x, l[k]? = some x := ⟨l[k], List.getElem?_eq_getElem hlt'⟩
      obtain ⟨q0, q1, q2, q3⟩ := (hw k x hx).below hbl hb
      have HX : Hid (l[k]? = some x) := hx
      have hcall := HP.out x wr (kept_of hB hbl)
      clear hw hx
      cases hq : p x with
      | true =>
        rw [hq] at hcall
        go_wp2_with (go_at_fn g; refine hcall.mono ?_; rintro e w1 ⟨rfl, hb1⟩)
        go_ret
        exact ⟨retInt (idx_yes HX.out hq hn.out).symm, Below_after hbl hb1⟩
      | false =>
        rw [hq] at hcall
        go_wp2_with (go_at_fn g; refine hcall.mono ?_; rintro e w1 ⟨rfl, hb1⟩)
        go_roundw
        case rel => exact ⟨k + 1, by omega, by go_num, show Hid _ from idx_no HX.out hq hn.out, Below_after hbl hb1⟩
        case measure => simp [intOf]; omega
    · have HF : Hid (idx p l = -1) := idx_end hlt' hn.out
      clear hw
      go_wp2
      go_ret
      exact ⟨retInt HF.out.symm, hbl⟩
theorem idx_niln (a : Option Addr) (c : Nat) (fv : Value) (w : World) :
    Calls Tryz.prog 32 #[.slice a 0 c, fv] w fun e w' => e = .returned (.int .i64 (-1)) ∧ Below w.heap.size w w' := by
  go_enter Tryz.func32, Tryz.ntmps32
  go_wp2
  refine wp_loop_rounds 1 ?_
  rw [rounds_succ]
  go_wp2
  go_ret
  exact ⟨rfl, Below.refl _ _⟩
theorem idx_anyn (a : Option Addr) (c : Nat) (l : List Nt) (p : Nt → Bool) (g : Nat) (lb : Array Value) (eg : ∀ args w, (callFunc g args).run Tryz.prog w = .ok (.enter g args) w) (w0 w : World) (hp : Predn w0 g lb p) (hB : Below w0.heap.size w0 w)
    (hw : NtsAt w a l) (hm : l.length ≤ 1000000) :
    Calls Tryz.prog 32 #[.slice a l.length c, .func (.func g) #[] lb] w fun e w' => e = .returned (.int .i64 (idx p l)) ∧ Below w.heap.size w w' := by
  rcases hw with rfl | ⟨b, o, rfl, hb, hx⟩
  · exact idx_niln a c _ w
  · exact idx_somen b o c l p g lb eg w0 w hp hB hx hb hm
set_option maxHeartbeats 4000000 in
set_option maxRecDepth 100000 in
theorem del_n (v : Value) (l : List Nt) (p : Nt → Bool) (g : Nat) (lb : Array Value) (eg : ∀ args w, (callFunc g args).run Tryz.prog w = .ok (.enter g args) w) (w0 w : World) (hp : Predn w0 g lb p) (hB : Below w0.heap.size w0 w)
    (hown : w.ownsRow w0.heap.size 52 4 v l.length (l.flatMap ncells)) (hm : l.length ≤ 1000000) :
    Calls Tryz.prog 101 #[v, .func (.func g) #[] lb] w fun e w' => ∃ v', e = .returned v' ∧ w'.ownsRow w0.heap.size 52 4 v' (l.filter (fun x => !p x)).length ((l.filter (fun x => !p x)).flatMap ncells) ∧ Below w0.heap.size w0 w' := by
  rcases row_open hown with ⟨rfl, rfl⟩ | ⟨bk, cap, rfl, hbk, hbw, hfit, hc⟩
  · clear hown
    go_enter Tryz.func101, Tryz.ntmps101
    go_wp2_with fail
    refine (idx_niln none 0 _ w).mono ?_
    rintro e w1 ⟨rfl, hb1⟩
    go_wp2_with fail
    go_ret
    exact ⟨_, rfl, World.ownsRow_nil _ _ _ _, kept_of hB hb1⟩
  · have hat := nt_unflat hc
    have hI := idx_somen bk 0 cap l p g lb eg w0 w hp hB hat hbw hm
    have HP : Hid (Predn w0 g lb p) := hp
    obtain ⟨hf1, hf2⟩ := hfit
    unfold maxLen at hf2
    clear hat hc hp
    rcases idx_cases p l with ⟨e1, _⟩ | ⟨k0, x0, e1, hx0, hp0, _⟩
    · have HF : Hid (l.filter (fun x => !p x) = l) := idx_all e1
      rw [e1] at hI
      have HO : Hid (w.ownsRow w0.heap.size 52 4 (.slice (some ⟨bk, 0, none⟩) l.length cap) l.length (l.flatMap ncells)) := hown
      clear hown e1
      go_enter Tryz.func101, Tryz.ntmps101
      go_wp2_with fail
      refine hI.mono ?_
      rintro e w1 ⟨rfl, hb1⟩
      go_wp2_with fail
      go_ret
      exact ⟨_, rfl, by rw [HF.out]; exact ownsRow_after HO.out hb1, kept_of hB hb1⟩
    · have hk0 : k0 < l.length := (List.getElem?_eq_some_iff.1 hx0).1
      rw [e1] at hI
      have hfl := flatlen_n l
      have HFL : Hid ((l.flatMap ncells).length = l.length * 4) := hfl
      have HT : Hid ((l.take (k0 + 1)).filter (fun x => !p x) = l.take k0) := idx_first_take e1 hx0 hp0
      have d1 : ((k0 : Int) == -1) = false := beq_eq_false_iff_ne.2 (by omega)
      have HO : Hid (w.ownsRow w0.heap.size 52 4 (.slice (some ⟨bk, 0, none⟩) l.length cap) l.length (l.flatMap ncells)) := hown
      have hget : ∀ (m : Nat) (x : Nt) (q : Nat), l[m]? = some x → q < 4 → (l.flatMap ncells)[m * 4 + q]? = (ncells x)[q]? := fun m x q h1 h2 => flat_get ncells 4 (fun _ => rfl) l m q x h1 h2
      have HG : Hid (∀ (m : Nat) (x : Nt) (q : Nat), l[m]? = some x → q < 4 → (l.flatMap ncells)[m * 4 + q]? = (ncells x)[q]?) := hget
      have HS : Hid ((l.take k0).flatMap ncells = (l.flatMap ncells).take (k0 * 4)) := by
        show _ = _
        have h1 : l.flatMap ncells = (l.take k0).flatMap ncells ++ (l.drop k0).flatMap ncells := by rw [← List.flatMap_append, List.take_append_drop]
        have h2 : ((l.take k0).flatMap ncells).length = k0 * 4 := by rw [flatlen_n, List.length_take, Nat.min_eq_left (by omega)]
        rw [h1, ← h2, List.take_left]
      clear hown hx0 hp0 e1 hfl hget
      go_enter Tryz.func101, Tryz.ntmps101
      go_wp2_with fail
      refine hI.mono ?_
      rintro e w1 ⟨rfl, hb1⟩
      have ho1 := ownsRow_after HO.out hb1
      have bl1 := kept_of hB hb1
      clear hI hb1
      go_wp2_with fail
      go_loopw [5, 6, 7] (fun s5 s6 s7 wr => ∃ i j : Nat, i < j ∧ j ≤ l.length ∧ s5 = .int .i64 i ∧ s6 = .int .i64 j ∧ Hid (i = ((l.take j).filter (fun x => !p x)).length) ∧ (∃ xs, Hid (KInv 4 i j xs (((l.take j).filter (fun x => !p x)).flatMap ncells) (l.flatMap ncells)) ∧ Hid (wr.ownsRow w0.heap.size 52 4 (.slice (some ⟨bk, 0, none⟩) l.length cap) l.length xs)) ∧ Below w0.heap.size w0 wr) (fun _ s6 _ _ => l.length - (intOf s6).toNat)
      case atStart =>
        refine ⟨k0, k0 + 1, by omega, by omega, rfl, by go_num, ?_, ⟨_, ?_, ho1⟩, bl1⟩
        · show k0 = _
          rw [HT.out, List.length_take]; omega
        · show KInv _ _ _ _ _ _
          rw [HT.out, HS.out]
          exact KInv.start (by rw [HFL.out]; exact Nat.mul_le_mul_right _ (by omega))
      case round =>
        obtain ⟨i, j, hij, hj, rfl, rfl, HI, ⟨xs, HK, HW⟩, hbl⟩ := hrel
        clear ho1
        by_cases hlt : j < l.length
        · obtain ⟨x, hx⟩ : ∃ x, l[j]? = some x := ⟨l[j], List.getElem?_eq_getElem hlt⟩
          have HX : Hid (l[j]? = some x) := hx
          have hcell : ∀ q u, q < 4 → (ncells x)[q]? = some u → wr.cell? ⟨bk, j * 4 + q, none⟩ = some u := by
            intro q u hq hu
            rw [HW.out.cellAt (j * 4 + q) (by omega), HK.out.2.2.2 _ (by omega), HG.out j x q hx hq]; exact hu
          have q0 := hcell 0 _ (by omega) (by rfl : (ncells x)[0]? = some (.int .i64 x.port))
          have q1 := hcell 1 _ (by omega) (by rfl : (ncells x)[1]? = some (.string x.data))
          have q2 := hcell 2 _ (by omega) (by rfl : (ncells x)[2]? = some (.int .i64 x.badge))
          have q3 := hcell 3 _ (by omega) (by rfl : (ncells x)[3]? = some (.int .i64 x.writ))
          simp only [Nat.add_zero] at q0
          have hbw2 : bk < wr.heap.size := (HW.out.lt bk rfl).2
          clear hcell hx
          have hcall := HP.out x (wr.alloc (.cells #[.int .i64 x.port, .string x.data, .int .i64 x.badge, .int .i64 x.writ] 52)) (hbl.alloc hbl.size _)
          cases hq : p x with
          | true =>
            rw [hq] at hcall
            go_wp2_with (go_at_fn g; refine hcall.mono ?_; rintro e w2 ⟨rfl, hb2⟩)
            go_roundw
            case rel =>
              refine ⟨i, j + 1, by omega, by omega, rfl, by go_num, ?_, ⟨xs, ?_, ownsRow_after (HW.out.alloc _) hb2⟩, kept_of (hbl.alloc hbl.size _) hb2⟩
              · show i = _
                rw [filt_snoc HX.out, if_neg (by simp [hq]), List.append_nil]; exact HI.out
              · show KInv _ _ _ _ _ _
                rw [filt_snoc HX.out, if_neg (by simp [hq]), List.append_nil]; exact HK.out.skip
            case measure => simp [intOf]; omega
          | false =>
            rw [hq] at hcall
            go_wp2_with fail
            refine hcall.mono ?_
            rintro e w2 ⟨rfl, hb2⟩
            have hown2 := ownsRow_after (HW.out.alloc (.cells #[.int .i64 x.port, .string x.data, .int .i64 x.badge, .int .i64 x.writ] 52)) hb2
            have bl2 := kept_of (hbl.alloc hbl.size (.cells #[.int .i64 x.port, .string x.data, .int .i64 x.badge, .int .i64 x.writ] 52)) hb2
            have hxl : xs.length = l.length * 4 := by rw [HK.out.1]; exact HFL.out
            obtain ⟨p0, p1, p2, p3⟩ := (NtAt_new wr 52 x).below hb2 (by simp)
            have hz2 : wr.heap.size < w2.heap.size := by have := hb2.size; simp at this; omega
            have hbw3 : bk < w2.heap.size := by omega
            have hne : ¬ bk = wr.heap.size := by omega
            obtain ⟨o0, ho0⟩ : ∃ u, xs[i * 4]? = some u := ⟨_, List.getElem?_eq_getElem (by omega)⟩
            have c0 := hown2.cellAt (i * 4) (by omega)
            rw [ho0] at c0
            have f0 := hown2.frozenAt (i * 4)
            obtain ⟨o1, ho1⟩ : ∃ u, xs[i * 4 + 1]? = some u := ⟨_, List.getElem?_eq_getElem (by omega)⟩
            have c1 := hown2.cellAt (i * 4 + 1) (by omega)
            rw [ho1] at c1
            have f1 := hown2.frozenAt (i * 4 + 1)
            obtain ⟨o2, ho2⟩ : ∃ u, xs[i * 4 + 2]? = some u := ⟨_, List.getElem?_eq_getElem (by omega)⟩
            have c2 := hown2.cellAt (i * 4 + 2) (by omega)
            rw [ho2] at c2
            have f2 := hown2.frozenAt (i * 4 + 2)
            obtain ⟨o3, ho3⟩ : ∃ u, xs[i * 4 + 3]? = some u := ⟨_, List.getElem?_eq_getElem (by omega)⟩
            have c3 := hown2.cellAt (i * 4 + 3) (by omega)
            rw [ho3] at c3
            have f3 := hown2.frozenAt (i * 4 + 3)
            clear ho0 ho1 ho2 ho3 hb2 hcall
            have HW2 : Hid (w2.ownsRow w0.heap.size 52 4 (.slice (some ⟨bk, 0, none⟩) l.length cap) l.length xs) := hown2
            clear hown2
            go_wp2_with fail
            go_roundw
            case rel =>
              refine ⟨i + 1, j + 1, by omega, by omega, by go_num, by go_num, ?_, ⟨setRun xs (i * 4) (ncells x), ?_, ?_⟩, ((((bl2.setCell (p := ⟨bk, i * 4, none⟩) hbk (.int .i64 x.port)).setCell (p := ⟨bk, i * 4 + 1, none⟩) hbk (.string x.data)).setCell (p := ⟨bk, i * 4 + 2, none⟩) hbk (.int .i64 x.badge)).setCell (p := ⟨bk, i * 4 + 3, none⟩) hbk (.int .i64 x.writ))⟩
              · show i + 1 = _
                rw [filt_snoc HX.out, if_pos (by simp [hq]), List.length_append, ← HI.out]; rfl
              · show KInv _ _ _ _ _ _
                rw [filt_snoc HX.out, if_pos (by simp [hq]), List.flatMap_append, show [x].flatMap ncells = ncells x by simp]
                exact HK.out.keep hij (by rw [HFL.out]; exact Nat.mul_le_mul_right _ (by omega)) rfl
              · exact ((((HW2.out.stored (i * 4) (.int .i64 x.port)).1.stored (i * 4 + 1) (.string x.data)).1.stored (i * 4 + 2) (.int .i64 x.badge)).1.stored (i * 4 + 3) (.int .i64 x.writ)).1
            case measure => simp [intOf]; omega
        · obtain rfl : j = l.length := by omega
          have hi : i < l.length := hij
          obtain ⟨w3, hcl, ho3, hg3⟩ := run_clear_own (P := Tryz.prog) 28 (.agg #[.int .i64 0, .string ByteArray.empty, .int .i64 0, .int .i64 0]) HW.out Tryz.underlying28 Tryz.zeroValue52 rfl (by intro u hu; simp [Value.cells] at hu; rcases hu with rfl | rfl | rfl | rfl <;> rfl) i hi
          have bl3 := hbl.grown hg3 hbl.size (fun k hk => by cases hk; exact hbk)
          have HD : Hid (xs.take (i * 4) = (l.filter (fun x => !p x)).flatMap ncells) := by
            have := HK.out.done
            rw [List.take_length] at this
            exact this
          have HN : Hid (i = (l.filter (fun x => !p x)).length) := by
            have := HI.out
            rw [List.take_length] at this
            exact this
          clear HK HI HW
          go_wp2_with fail
          go_ret
          exact ⟨_, rfl, by rw [← HD.out, ← HN.out]; exact ho3, bl3⟩
theorem leave_n (a : Option Addr) (c : Nat) (l : List Nt) (p : Nt → Bool) (g : Nat) (lb : Array Value) (eg : ∀ args w, (callFunc g args).run Tryz.prog w = .ok (.enter g args) w) (w : World) (hp : Predn w g lb p)
    (hw : NtsAt w a l) (hm : l.length ≤ 1000000) :
    Calls Tryz.prog 77 #[.slice a l.length c, .func (.func g) #[] lb] w fun e w' => ∃ v', e = .returned v' ∧ w'.ownsRow w.heap.size 52 4 v' (l.filter (fun x => !p x)).length ((l.filter (fun x => !p x)).flatMap ncells) ∧ Below w.heap.size w w' := by
  go_enter Tryz.func77, Tryz.ntmps77
  go_wp2_with fail
  refine (clone_n a c l w hw hm).mono ?_
  rintro e w1 ⟨v, rfl, ho, hb⟩
  go_wp2_with fail
  refine (del_n v l p g lb eg w w1 hp hb ho hm).mono ?_
  rintro e w2 ⟨v', rfl, ho2, hb2⟩
  go_wp2_with fail
  go_ret
  exact ⟨_, rfl, ho2, hb2⟩

/-- what is asked of a closure over Things -/
def Predt (w0 : World) (g : Nat) (lb : Array Value) (p : Th → Bool) : Prop :=
  ∀ (x : Th) (W : World), Below w0.heap.size w0 W → Calls Tryz.prog g (#[.agg #[.int .i64 x.id, .int .i64 x.kind, .string x.data]] ++ lb) W fun e w' => e = .returned (.bool (p x)) ∧ Below W.heap.size W w'
set_option maxHeartbeats 1000000 in
theorem idx_somet (b o c : Nat) (l : List Th) (p : Th → Bool) (g : Nat) (lb : Array Value) (eg : ∀ args w, (callFunc g args).run Tryz.prog w = .ok (.enter g args) w) (w0 w : World) (hp : Predt w0 g lb p) (hB : Below w0.heap.size w0 w)
    (hw : ∀ j x, l[j]? = some x → ThAt w b (o + j * 3) x) (hb : b < w.heap.size) (hm : l.length ≤ 1000000) :
    Calls Tryz.prog 68 #[.slice (some ⟨b, o, none⟩) l.length c, .func (.func g) #[] lb] w fun e w' => e = .returned (.int .i64 (idx p l)) ∧ Below w.heap.size w w' := by
  have HP : Hid (Predt w0 g lb p) := hp
  clear hp
  go_enter Tryz.func68, Tryz.ntmps68
  go_wp2
  go_loopw [8] (fun i wr => ∃ k : Nat, k ≤ l.length ∧ i = .int .i64 k ∧ Hid (idxFrom p (l.drop k) k = idx p l) ∧ Below w.heap.size w wr) (fun i _ => l.length - (intOf i).toNat)
  case atStart => exact ⟨0, Nat.zero_le _, rfl, show Hid _ from rfl, Below.refl _ _⟩
  case round =>
    obtain ⟨k, hk, rfl, hn, hbl⟩ := hrel
    by_cases hlt' : k < l.length
    · obtain ⟨x, hx⟩ : ∃ x, l[k]? = some x := ⟨l[k], List.getElem?_eq_getElem hlt'⟩
      obtain ⟨q0, q1, q2⟩ := (hw k x hx).below hbl hb
      have HX : Hid (l[k]? = some x) := hx
      have hcall := HP.out x wr (kept_of hB hbl)
      clear hw hx
      cases hq : p x with
      | true =>
        rw [hq] at hcall
        go_wp2_with (go_at_fn g; refine hcall.mono ?_; rintro e w1 ⟨rfl, hb1⟩)
        go_ret
        exact ⟨retInt (idx_yes HX.out hq hn.out).symm, Below_after hbl hb1⟩
      | false =>
        rw [hq] at hcall
        go_wp2_with (go_at_fn g; refine hcall.mono ?_; rintro e w1 ⟨rfl, hb1⟩)
        go_roundw
        case rel => exact ⟨k + 1, by omega, by go_num, show Hid _ from idx_no HX.out hq hn.out, Below_after hbl hb1⟩
        case measure => simp [intOf]; omega
    · have HF : Hid (idx p l = -1) := idx_end hlt' hn.out
      clear hw
      go_wp2
      go_ret
      exact ⟨retInt HF.out.symm, hbl⟩
theorem idx_nilt (a : Option Addr) (c : Nat) (fv : Value) (w : World) :
    Calls Tryz.prog 68 #[.slice a 0 c, fv] w fun e w' => e = .returned (.int .i64 (-1)) ∧ Below w.heap.size w w' := by
  go_enter Tryz.func68, Tryz.ntmps68
  go_wp2
  refine wp_loop_rounds 1 ?_
  rw [rounds_succ]
  go_wp2
  go_ret
  exact ⟨rfl, Below.refl _ _⟩
theorem idx_anyt (a : Option Addr) (c : Nat) (l : List Th) (p : Th → Bool) (g : Nat) (lb : Array Value) (eg : ∀ args w, (callFunc g args).run Tryz.prog w = .ok (.enter g args) w) (w0 w : World) (hp : Predt w0 g lb p) (hB : Below w0.heap.size w0 w)
    (hw : ThsAt w a l) (hm : l.length ≤ 1000000) :
    Calls Tryz.prog 68 #[.slice a l.length c, .func (.func g) #[] lb] w fun e w' => e = .returned (.int .i64 (idx p l)) ∧ Below w.heap.size w w' := by
  rcases hw with rfl | ⟨b, o, rfl, hb, hx⟩
  · exact idx_nilt a c _ w
  · exact idx_somet b o c l p g lb eg w0 w hp hB hx hb hm
set_option maxHeartbeats 4000000 in
set_option maxRecDepth 100000 in
theorem del_t (v : Value) (l : List Th) (p : Th → Bool) (g : Nat) (lb : Array Value) (eg : ∀ args w, (callFunc g args).run Tryz.prog w = .ok (.enter g args) w) (w0 w : World) (hp : Predt w0 g lb p) (hB : Below w0.heap.size w0 w)
    (hown : w.ownsRow w0.heap.size 73 3 v l.length (l.flatMap tcells)) (hm : l.length ≤ 1000000) :
    Calls Tryz.prog 105 #[v, .func (.func g) #[] lb] w fun e w' => ∃ v', e = .returned v' ∧ w'.ownsRow w0.heap.size 73 3 v' (l.filter (fun x => !p x)).length ((l.filter (fun x => !p x)).flatMap tcells) ∧ Below w0.heap.size w0 w' := by
  rcases row_open hown with ⟨rfl, rfl⟩ | ⟨bk, cap, rfl, hbk, hbw, hfit, hc⟩
  · clear hown
    go_enter Tryz.func105, Tryz.ntmps105
    go_wp2_with fail
    refine (idx_nilt none 0 _ w).mono ?_
    rintro e w1 ⟨rfl, hb1⟩
    go_wp2_with fail
    go_ret
    exact ⟨_, rfl, World.ownsRow_nil _ _ _ _, kept_of hB hb1⟩
  · have hat := th_unflat hc
    have hI := idx_somet bk 0 cap l p g lb eg w0 w hp hB hat hbw hm
    have HP : Hid (Predt w0 g lb p) := hp
    obtain ⟨hf1, hf2⟩ := hfit
    unfold maxLen at hf2
    clear hat hc hp
    rcases idx_cases p l with ⟨e1, _⟩ | ⟨k0, x0, e1, hx0, hp0, _⟩
    · have HF : Hid (l.filter (fun x => !p x) = l) := idx_all e1
      rw [e1] at hI
      have HO : Hid (w.ownsRow w0.heap.size 73 3 (.slice (some ⟨bk, 0, none⟩) l.length cap) l.length (l.flatMap tcells)) := hown
      clear hown e1
      go_enter Tryz.func105, Tryz.ntmps105
      go_wp2_with fail
      refine hI.mono ?_
      rintro e w1 ⟨rfl, hb1⟩
      go_wp2_with fail
      go_ret
      exact ⟨_, rfl, by rw [HF.out]; exact ownsRow_after HO.out hb1, kept_of hB hb1⟩
    · have hk0 : k0 < l.length := (List.getElem?_eq_some_iff.1 hx0).1
      rw [e1] at hI
      have hfl := flatlen_t l
      have HFL : Hid ((l.flatMap tcells).length = l.length * 3) := hfl
      have HT : Hid ((l.take (k0 + 1)).filter (fun x => !p x) = l.take k0) := idx_first_take e1 hx0 hp0
      have d1 : ((k0 : Int) == -1) = false := beq_eq_false_iff_ne.2 (by omega)
      have HO : Hid (w.ownsRow w0.heap.size 73 3 (.slice (some ⟨bk, 0, none⟩) l.length cap) l.length (l.flatMap tcells)) := hown
      have hget : ∀ (m : Nat) (x : Th) (q : Nat), l[m]? = some x → q < 3 → (l.flatMap tcells)[m * 3 + q]? = (tcells x)[q]? := fun m x q h1 h2 => flat_get tcells 3 (fun _ => rfl) l m q x h1 h2
      have HG : Hid (∀ (m : Nat) (x : Th) (q : Nat), l[m]? = some x → q < 3 → (l.flatMap tcells)[m * 3 + q]? = (tcells x)[q]?) := hget
      have HS : Hid ((l.take k0).flatMap tcells = (l.flatMap tcells).take (k0 * 3)) := by
        show _ = _
        have h1 : l.flatMap tcells = (l.take k0).flatMap tcells ++ (l.drop k0).flatMap tcells := by rw [← List.flatMap_append, List.take_append_drop]
        have h2 : ((l.take k0).flatMap tcells).length = k0 * 3 := by rw [flatlen_t, List.length_take, Nat.min_eq_left (by omega)]
        rw [h1, ← h2, List.take_left]
      clear hown hx0 hp0 e1 hfl hget
      go_enter Tryz.func105, Tryz.ntmps105
      go_wp2_with fail
      refine hI.mono ?_
      rintro e w1 ⟨rfl, hb1⟩
      have ho1 := ownsRow_after HO.out hb1
      have bl1 := kept_of hB hb1
      clear hI hb1
      go_wp2_with fail
      go_loopw [5, 6, 7] (fun s5 s6 s7 wr => ∃ i j : Nat, i < j ∧ j ≤ l.length ∧ s5 = .int .i64 i ∧ s6 = .int .i64 j ∧ Hid (i = ((l.take j).filter (fun x => !p x)).length) ∧ (∃ xs, Hid (KInv 3 i j xs (((l.take j).filter (fun x => !p x)).flatMap tcells) (l.flatMap tcells)) ∧ Hid (wr.ownsRow w0.heap.size 73 3 (.slice (some ⟨bk, 0, none⟩) l.length cap) l.length xs)) ∧ Below w0.heap.size w0 wr) (fun _ s6 _ _ => l.length - (intOf s6).toNat)
      case atStart =>
        refine ⟨k0, k0 + 1, by omega, by omega, rfl, by go_num, ?_, ⟨_, ?_, ho1⟩, bl1⟩
        · show k0 = _
          rw [HT.out, List.length_take]; omega
        · show KInv _ _ _ _ _ _
          rw [HT.out, HS.out]
          exact KInv.start (by rw [HFL.out]; exact Nat.mul_le_mul_right _ (by omega))
      case round =>
        obtain ⟨i, j, hij, hj, rfl, rfl, HI, ⟨xs, HK, HW⟩, hbl⟩ := hrel
        clear ho1
        by_cases hlt : j < l.length
        · obtain ⟨x, hx⟩ : ∃ x, l[j]? = some x := ⟨l[j], List.getElem?_eq_getElem hlt⟩
          have HX : Hid (l[j]? = some x) := hx
          have hcell : ∀ q u, q < 3 → (tcells x)[q]? = some u → wr.cell? ⟨bk, j * 3 + q, none⟩ = some u := by
            intro q u hq hu
            rw [HW.out.cellAt (j * 3 + q) (by omega), HK.out.2.2.2 _ (by omega), HG.out j x q hx hq]; exact hu
          have q0 := hcell 0 _ (by omega) (by rfl : (tcells x)[0]? = some (.int .i64 x.id))
          have q1 := hcell 1 _ (by omega) (by rfl : (tcells x)[1]? = some (.int .i64 x.kind))
          have q2 := hcell 2 _ (by omega) (by rfl : (tcells x)[2]? = some (.string x.data))
          simp only [Nat.add_zero] at q0
          have hbw2 : bk < wr.heap.size := (HW.out.lt bk rfl).2
          clear hcell hx
          have hcall := HP.out x (wr.alloc (.cells #[.int .i64 x.id, .int .i64 x.kind, .string x.data] 73)) (hbl.alloc hbl.size _)
          cases hq : p x with
          | true =>
            rw [hq] at hcall
            go_wp2_with (go_at_fn g; refine hcall.mono ?_; rintro e w2 ⟨rfl, hb2⟩)
            go_roundw
            case rel =>
              refine ⟨i, j + 1, by omega, by omega, rfl, by go_num, ?_, ⟨xs, ?_, ownsRow_after (HW.out.alloc _) hb2⟩, kept_of (hbl.alloc hbl.size _) hb2⟩
              · show i = _
                rw [filt_snoc HX.out, if_neg (by simp [hq]), List.append_nil]; exact HI.out
              · show KInv _ _ _ _ _ _
                rw [filt_snoc HX.out, if_neg (by simp [hq]), List.append_nil]; exact HK.out.skip
            case measure => simp [intOf]; omega
          | false =>
            rw [hq] at hcall
            go_wp2_with fail
            refine hcall.mono ?_
            rintro e w2 ⟨rfl, hb2⟩
            have hown2 := ownsRow_after (HW.out.alloc (.cells #[.int .i64 x.id, .int .i64 x.kind, .string x.data] 73)) hb2
            have bl2 := kept_of (hbl.alloc hbl.size (.cells #[.int .i64 x.id, .int .i64 x.kind, .string x.data] 73)) hb2
            have hxl : xs.length = l.length * 3 := by rw [HK.out.1]; exact HFL.out
            obtain ⟨p0, p1, p2⟩ := (ThAt_new wr 73 x).below hb2 (by simp)
            have hz2 : wr.heap.size < w2.heap.size := by have := hb2.size; simp at this; omega
            have hbw3 : bk < w2.heap.size := by omega
            have hne : ¬ bk = wr.heap.size := by omega
            obtain ⟨o0, ho0⟩ : ∃ u, xs[i * 3]? = some u := ⟨_, List.getElem?_eq_getElem (by omega)⟩
            have c0 := hown2.cellAt (i * 3) (by omega)
            rw [ho0] at c0
            have f0 := hown2.frozenAt (i * 3)
            obtain ⟨o1, ho1⟩ : ∃ u, xs[i * 3 + 1]? = some u := ⟨_, List.getElem?_eq_getElem (by omega)⟩
            have c1 := hown2.cellAt (i * 3 + 1) (by omega)
            rw [ho1] at c1
            have f1 := hown2.frozenAt (i * 3 + 1)
            obtain ⟨o2, ho2⟩ : ∃ u, xs[i * 3 + 2]? = some u := ⟨_, List.getElem?_eq_getElem (by omega)⟩
            have c2 := hown2.cellAt (i * 3 + 2) (by omega)
            rw [ho2] at c2
            have f2 := hown2.frozenAt (i * 3 + 2)
            clear ho0 ho1 ho2 hb2 hcall
            have HW2 : Hid (w2.ownsRow w0.heap.size 73 3 (.slice (some ⟨bk, 0, none⟩) l.length cap) l.length xs) := hown2
            clear hown2
            go_wp2_with fail
            go_roundw
            case rel =>
              refine ⟨i + 1, j + 1, by omega, by omega, by go_num, by go_num, ?_, ⟨setRun xs (i * 3) (tcells x), ?_, ?_⟩, (((bl2.setCell (p := ⟨bk, i * 3, none⟩) hbk (.int .i64 x.id)).setCell (p := ⟨bk, i * 3 + 1, none⟩) hbk (.int .i64 x.kind)).setCell (p := ⟨bk, i * 3 + 2, none⟩) hbk (.string x.data))⟩
              · show i + 1 = _
                rw [filt_snoc HX.out, if_pos (by simp [hq]), List.length_append, ← HI.out]; rfl
              · show KInv _ _ _ _ _ _
                rw [filt_snoc HX.out, if_pos (by simp [hq]), List.flatMap_append, show [x].flatMap tcells = tcells x by simp]
                exact HK.out.keep hij (by rw [HFL.out]; exact Nat.mul_le_mul_right _ (by omega)) rfl
              · exact (((HW2.out.stored (i * 3) (.int .i64 x.id)).1.stored (i * 3 + 1) (.int .i64 x.kind)).1.stored (i * 3 + 2) (.string x.data)).1
            case measure => simp [intOf]; omega
        · obtain rfl : j = l.length := by omega
          have hi : i < l.length := hij
          obtain ⟨w3, hcl, ho3, hg3⟩ := run_clear_own (P := Tryz.prog) 26 (.agg #[.int .i64 0, .int .i64 0, .string ByteArray.empty]) HW.out Tryz.underlying26 Tryz.zeroValue73 rfl (by intro u hu; simp [Value.cells] at hu; rcases hu with rfl | rfl | rfl <;> rfl) i hi
          have bl3 := hbl.grown hg3 hbl.size (fun k hk => by cases hk; exact hbk)
          have HD : Hid (xs.take (i * 3) = (l.filter (fun x => !p x)).flatMap tcells) := by
            have := HK.out.done
            rw [List.take_length] at this
            exact this
          have HN : Hid (i = (l.filter (fun x => !p x)).length) := by
            have := HI.out
            rw [List.take_length] at this
            exact this
          clear HK HI HW
          go_wp2_with fail
          go_ret
          exact ⟨_, rfl, by rw [← HD.out, ← HN.out]; exact ho3, bl3⟩
theorem leave_t (a : Option Addr) (c : Nat) (l : List Th) (p : Th → Bool) (g : Nat) (lb : Array Value) (eg : ∀ args w, (callFunc g args).run Tryz.prog w = .ok (.enter g args) w) (w : World) (hp : Predt w g lb p)
    (hw : ThsAt w a l) (hm : l.length ≤ 1000000) :
    Calls Tryz.prog 81 #[.slice a l.length c, .func (.func g) #[] lb] w fun e w' => ∃ v', e = .returned v' ∧ w'.ownsRow w.heap.size 73 3 v' (l.filter (fun x => !p x)).length ((l.filter (fun x => !p x)).flatMap tcells) ∧ Below w.heap.size w w' := by
  go_enter Tryz.func81, Tryz.ntmps81
  go_wp2_with fail
  refine (clone_t a c l w hw hm).mono ?_
  rintro e w1 ⟨v, rfl, ho, hb⟩
  go_wp2_with fail
  refine (del_t v l p g lb eg w w1 hp hb ho hm).mono ?_
  rintro e w2 ⟨v', rfl, ho2, hb2⟩
  go_wp2_with fail
  go_ret
  exact ⟨_, rfl, ho2, hb2⟩

/-- what is asked of a closure over Helds -/
def Predh (w0 : World) (g : Nat) (lb : Array Value) (p : Hd → Bool) : Prop :=
  ∀ (x : Hd) (W : World), Below w0.heap.size w0 W → Calls Tryz.prog g (#[.agg #[.int .i64 x.holder, .int .i64 x.slot, .int .i64 x.writ]] ++ lb) W fun e w' => e = .returned (.bool (p x)) ∧ Below W.heap.size W w'
set_option maxHeartbeats 1000000 in
theorem idx_someh (b o c : Nat) (l : List Hd) (p : Hd → Bool) (g : Nat) (lb : Array Value) (eg : ∀ args w, (callFunc g args).run Tryz.prog w = .ok (.enter g args) w) (w0 w : World) (hp : Predh w0 g lb p) (hB : Below w0.heap.size w0 w)
    (hw : ∀ j x, l[j]? = some x → HdAt w b (o + j * 3) x) (hb : b < w.heap.size) (hm : l.length ≤ 1000000) :
    Calls Tryz.prog 65 #[.slice (some ⟨b, o, none⟩) l.length c, .func (.func g) #[] lb] w fun e w' => e = .returned (.int .i64 (idx p l)) ∧ Below w.heap.size w w' := by
  have HP : Hid (Predh w0 g lb p) := hp
  clear hp
  go_enter Tryz.func65, Tryz.ntmps65
  go_wp2
  go_loopw [8] (fun i wr => ∃ k : Nat, k ≤ l.length ∧ i = .int .i64 k ∧ Hid (idxFrom p (l.drop k) k = idx p l) ∧ Below w.heap.size w wr) (fun i _ => l.length - (intOf i).toNat)
  case atStart => exact ⟨0, Nat.zero_le _, rfl, show Hid _ from rfl, Below.refl _ _⟩
  case round =>
    obtain ⟨k, hk, rfl, hn, hbl⟩ := hrel
    by_cases hlt' : k < l.length
    · obtain ⟨x, hx⟩ : ∃ x, l[k]? = some x := ⟨l[k], List.getElem?_eq_getElem hlt'⟩
      obtain ⟨q0, q1, q2⟩ := (hw k x hx).below hbl hb
      have HX : Hid (l[k]? = some x) := hx
      have hcall := HP.out x wr (kept_of hB hbl)
      clear hw hx
      cases hq : p x with
      | true =>
        rw [hq] at hcall
        go_wp2_with (go_at_fn g; refine hcall.mono ?_; rintro e w1 ⟨rfl, hb1⟩)
        go_ret
        exact ⟨retInt (idx_yes HX.out hq hn.out).symm, Below_after hbl hb1⟩
      | false =>
        rw [hq] at hcall
        go_wp2_with (go_at_fn g; refine hcall.mono ?_; rintro e w1 ⟨rfl, hb1⟩)
        go_roundw
        case rel => exact ⟨k + 1, by omega, by go_num, show Hid _ from idx_no HX.out hq hn.out, Below_after hbl hb1⟩
        case measure => simp [intOf]; omega
    · have HF : Hid (idx p l = -1) := idx_end hlt' hn.out
      clear hw
      go_wp2
      go_ret
      exact ⟨retInt HF.out.symm, hbl⟩
theorem idx_nilh (a : Option Addr) (c : Nat) (fv : Value) (w : World) :
    Calls Tryz.prog 65 #[.slice a 0 c, fv] w fun e w' => e = .returned (.int .i64 (-1)) ∧ Below w.heap.size w w' := by
  go_enter Tryz.func65, Tryz.ntmps65
  go_wp2
  refine wp_loop_rounds 1 ?_
  rw [rounds_succ]
  go_wp2
  go_ret
  exact ⟨rfl, Below.refl _ _⟩
theorem idx_anyh (a : Option Addr) (c : Nat) (l : List Hd) (p : Hd → Bool) (g : Nat) (lb : Array Value) (eg : ∀ args w, (callFunc g args).run Tryz.prog w = .ok (.enter g args) w) (w0 w : World) (hp : Predh w0 g lb p) (hB : Below w0.heap.size w0 w)
    (hw : HdsAt w a l) (hm : l.length ≤ 1000000) :
    Calls Tryz.prog 65 #[.slice a l.length c, .func (.func g) #[] lb] w fun e w' => e = .returned (.int .i64 (idx p l)) ∧ Below w.heap.size w w' := by
  rcases hw with rfl | ⟨b, o, rfl, hb, hx⟩
  · exact idx_nilh a c _ w
  · exact idx_someh b o c l p g lb eg w0 w hp hB hx hb hm
set_option maxHeartbeats 4000000 in
set_option maxRecDepth 100000 in
theorem del_h (v : Value) (l : List Hd) (p : Hd → Bool) (g : Nat) (lb : Array Value) (eg : ∀ args w, (callFunc g args).run Tryz.prog w = .ok (.enter g args) w) (w0 w : World) (hp : Predh w0 g lb p) (hB : Below w0.heap.size w0 w)
    (hown : w.ownsRow w0.heap.size 93 3 v l.length (l.flatMap hcells)) (hm : l.length ≤ 1000000) :
    Calls Tryz.prog 107 #[v, .func (.func g) #[] lb] w fun e w' => ∃ v', e = .returned v' ∧ w'.ownsRow w0.heap.size 93 3 v' (l.filter (fun x => !p x)).length ((l.filter (fun x => !p x)).flatMap hcells) ∧ Below w0.heap.size w0 w' := by
  rcases row_open hown with ⟨rfl, rfl⟩ | ⟨bk, cap, rfl, hbk, hbw, hfit, hc⟩
  · clear hown
    go_enter Tryz.func107, Tryz.ntmps107
    go_wp2_with fail
    refine (idx_nilh none 0 _ w).mono ?_
    rintro e w1 ⟨rfl, hb1⟩
    go_wp2_with fail
    go_ret
    exact ⟨_, rfl, World.ownsRow_nil _ _ _ _, kept_of hB hb1⟩
  · have hat := hd_unflat hc
    have hI := idx_someh bk 0 cap l p g lb eg w0 w hp hB hat hbw hm
    have HP : Hid (Predh w0 g lb p) := hp
    obtain ⟨hf1, hf2⟩ := hfit
    unfold maxLen at hf2
    clear hat hc hp
    rcases idx_cases p l with ⟨e1, _⟩ | ⟨k0, x0, e1, hx0, hp0, _⟩
    · have HF : Hid (l.filter (fun x => !p x) = l) := idx_all e1
      rw [e1] at hI
      have HO : Hid (w.ownsRow w0.heap.size 93 3 (.slice (some ⟨bk, 0, none⟩) l.length cap) l.length (l.flatMap hcells)) := hown
      clear hown e1
      go_enter Tryz.func107, Tryz.ntmps107
      go_wp2_with fail
      refine hI.mono ?_
      rintro e w1 ⟨rfl, hb1⟩
      go_wp2_with fail
      go_ret
      exact ⟨_, rfl, by rw [HF.out]; exact ownsRow_after HO.out hb1, kept_of hB hb1⟩
    · have hk0 : k0 < l.length := (List.getElem?_eq_some_iff.1 hx0).1
      rw [e1] at hI
      have hfl := flatlen_h l
      have HFL : Hid ((l.flatMap hcells).length = l.length * 3) := hfl
      have HT : Hid ((l.take (k0 + 1)).filter (fun x => !p x) = l.take k0) := idx_first_take e1 hx0 hp0
      have d1 : ((k0 : Int) == -1) = false := beq_eq_false_iff_ne.2 (by omega)
      have HO : Hid (w.ownsRow w0.heap.size 93 3 (.slice (some ⟨bk, 0, none⟩) l.length cap) l.length (l.flatMap hcells)) := hown
      have hget : ∀ (m : Nat) (x : Hd) (q : Nat), l[m]? = some x → q < 3 → (l.flatMap hcells)[m * 3 + q]? = (hcells x)[q]? := fun m x q h1 h2 => flat_get hcells 3 (fun _ => rfl) l m q x h1 h2
      have HG : Hid (∀ (m : Nat) (x : Hd) (q : Nat), l[m]? = some x → q < 3 → (l.flatMap hcells)[m * 3 + q]? = (hcells x)[q]?) := hget
      have HS : Hid ((l.take k0).flatMap hcells = (l.flatMap hcells).take (k0 * 3)) := by
        show _ = _
        have h1 : l.flatMap hcells = (l.take k0).flatMap hcells ++ (l.drop k0).flatMap hcells := by rw [← List.flatMap_append, List.take_append_drop]
        have h2 : ((l.take k0).flatMap hcells).length = k0 * 3 := by rw [flatlen_h, List.length_take, Nat.min_eq_left (by omega)]
        rw [h1, ← h2, List.take_left]
      clear hown hx0 hp0 e1 hfl hget
      go_enter Tryz.func107, Tryz.ntmps107
      go_wp2_with fail
      refine hI.mono ?_
      rintro e w1 ⟨rfl, hb1⟩
      have ho1 := ownsRow_after HO.out hb1
      have bl1 := kept_of hB hb1
      clear hI hb1
      go_wp2_with fail
      go_loopw [5, 6, 7] (fun s5 s6 s7 wr => ∃ i j : Nat, i < j ∧ j ≤ l.length ∧ s5 = .int .i64 i ∧ s6 = .int .i64 j ∧ Hid (i = ((l.take j).filter (fun x => !p x)).length) ∧ (∃ xs, Hid (KInv 3 i j xs (((l.take j).filter (fun x => !p x)).flatMap hcells) (l.flatMap hcells)) ∧ Hid (wr.ownsRow w0.heap.size 93 3 (.slice (some ⟨bk, 0, none⟩) l.length cap) l.length xs)) ∧ Below w0.heap.size w0 wr) (fun _ s6 _ _ => l.length - (intOf s6).toNat)
      case atStart =>
        refine ⟨k0, k0 + 1, by omega, by omega, rfl, by go_num, ?_, ⟨_, ?_, ho1⟩, bl1⟩
        · show k0 = _
          rw [HT.out, List.length_take]; omega
        · show KInv _ _ _ _ _ _
          rw [HT.out, HS.out]
          exact KInv.start (by rw [HFL.out]; exact Nat.mul_le_mul_right _ (by omega))
      case round =>
        obtain ⟨i, j, hij, hj, rfl, rfl, HI, ⟨xs, HK, HW⟩, hbl⟩ := hrel
        clear ho1
        by_cases hlt : j < l.length
        · obtain ⟨x, hx⟩ : ∃ x, l[j]? = some x := ⟨l[j], List.getElem?_eq_getElem hlt⟩
          have HX : Hid (l[j]? = some x) := hx
          have hcell : ∀ q u, q < 3 → (hcells x)[q]? = some u → wr.cell? ⟨bk, j * 3 + q, none⟩ = some u := by
            intro q u hq hu
            rw [HW.out.cellAt (j * 3 + q) (by omega), HK.out.2.2.2 _ (by omega), HG.out j x q hx hq]; exact hu
          have q0 := hcell 0 _ (by omega) (by rfl : (hcells x)[0]? = some (.int .i64 x.holder))
          have q1 := hcell 1 _ (by omega) (by rfl : (hcells x)[1]? = some (.int .i64 x.slot))
          have q2 := hcell 2 _ (by omega) (by rfl : (hcells x)[2]? = some (.int .i64 x.writ))
          simp only [Nat.add_zero] at q0
          have hbw2 : bk < wr.heap.size := (HW.out.lt bk rfl).2
          clear hcell hx
          have hcall := HP.out x (wr.alloc (.cells #[.int .i64 x.holder, .int .i64 x.slot, .int .i64 x.writ] 93)) (hbl.alloc hbl.size _)
          cases hq : p x with
          | true =>
            rw [hq] at hcall
            go_wp2_with (go_at_fn g; refine hcall.mono ?_; rintro e w2 ⟨rfl, hb2⟩)
            go_roundw
            case rel =>
              refine ⟨i, j + 1, by omega, by omega, rfl, by go_num, ?_, ⟨xs, ?_, ownsRow_after (HW.out.alloc _) hb2⟩, kept_of (hbl.alloc hbl.size _) hb2⟩
              · show i = _
                rw [filt_snoc HX.out, if_neg (by simp [hq]), List.append_nil]; exact HI.out
              · show KInv _ _ _ _ _ _
                rw [filt_snoc HX.out, if_neg (by simp [hq]), List.append_nil]; exact HK.out.skip
            case measure => simp [intOf]; omega
          | false =>
            rw [hq] at hcall
            go_wp2_with fail
            refine hcall.mono ?_
            rintro e w2 ⟨rfl, hb2⟩
            have hown2 := ownsRow_after (HW.out.alloc (.cells #[.int .i64 x.holder, .int .i64 x.slot, .int .i64 x.writ] 93)) hb2
            have bl2 := kept_of (hbl.alloc hbl.size (.cells #[.int .i64 x.holder, .int .i64 x.slot, .int .i64 x.writ] 93)) hb2
            have hxl : xs.length = l.length * 3 := by rw [HK.out.1]; exact HFL.out
            obtain ⟨p0, p1, p2⟩ := (HdAt_new wr 93 x).below hb2 (by simp)
            have hz2 : wr.heap.size < w2.heap.size := by have := hb2.size; simp at this; omega
            have hbw3 : bk < w2.heap.size := by omega
            have hne : ¬ bk = wr.heap.size := by omega
            obtain ⟨o0, ho0⟩ : ∃ u, xs[i * 3]? = some u := ⟨_, List.getElem?_eq_getElem (by omega)⟩
            have c0 := hown2.cellAt (i * 3) (by omega)
            rw [ho0] at c0
            have f0 := hown2.frozenAt (i * 3)
            obtain ⟨o1, ho1⟩ : ∃ u, xs[i * 3 + 1]? = some u := ⟨_, List.getElem?_eq_getElem (by omega)⟩
            have c1 := hown2.cellAt (i * 3 + 1) (by omega)
            rw [ho1] at c1
            have f1 := hown2.frozenAt (i * 3 + 1)
            obtain ⟨o2, ho2⟩ : ∃ u, xs[i * 3 + 2]? = some u := ⟨_, List.getElem?_eq_getElem (by omega)⟩
            have c2 := hown2.cellAt (i * 3 + 2) (by omega)
            rw [ho2] at c2
            have f2 := hown2.frozenAt (i * 3 + 2)
            clear ho0 ho1 ho2 hb2 hcall
            have HW2 : Hid (w2.ownsRow w0.heap.size 93 3 (.slice (some ⟨bk, 0, none⟩) l.length cap) l.length xs) := hown2
            clear hown2
            go_wp2_with fail
            go_roundw
            case rel =>
              refine ⟨i + 1, j + 1, by omega, by omega, by go_num, by go_num, ?_, ⟨setRun xs (i * 3) (hcells x), ?_, ?_⟩, (((bl2.setCell (p := ⟨bk, i * 3, none⟩) hbk (.int .i64 x.holder)).setCell (p := ⟨bk, i * 3 + 1, none⟩) hbk (.int .i64 x.slot)).setCell (p := ⟨bk, i * 3 + 2, none⟩) hbk (.int .i64 x.writ))⟩
              · show i + 1 = _
                rw [filt_snoc HX.out, if_pos (by simp [hq]), List.length_append, ← HI.out]; rfl
              · show KInv _ _ _ _ _ _
                rw [filt_snoc HX.out, if_pos (by simp [hq]), List.flatMap_append, show [x].flatMap hcells = hcells x by simp]
                exact HK.out.keep hij (by rw [HFL.out]; exact Nat.mul_le_mul_right _ (by omega)) rfl
              · exact (((HW2.out.stored (i * 3) (.int .i64 x.holder)).1.stored (i * 3 + 1) (.int .i64 x.slot)).1.stored (i * 3 + 2) (.int .i64 x.writ)).1
            case measure => simp [intOf]; omega
        · obtain rfl : j = l.length := by omega
          have hi : i < l.length := hij
          obtain ⟨w3, hcl, ho3, hg3⟩ := run_clear_own (P := Tryz.prog) 27 (.agg #[.int .i64 0, .int .i64 0, .int .i64 0]) HW.out Tryz.underlying27 Tryz.zeroValue93 rfl (by intro u hu; simp [Value.cells] at hu; rcases hu with rfl | rfl | rfl <;> rfl) i hi
          have bl3 := hbl.grown hg3 hbl.size (fun k hk => by cases hk; exact hbk)
          have HD : Hid (xs.take (i * 3) = (l.filter (fun x => !p x)).flatMap hcells) := by
            have := HK.out.done
            rw [List.take_length] at this
            exact this
          have HN : Hid (i = (l.filter (fun x => !p x)).length) := by
            have := HI.out
            rw [List.take_length] at this
            exact this
          clear HK HI HW
          go_wp2_with fail
          go_ret
          exact ⟨_, rfl, by rw [← HD.out, ← HN.out]; exact ho3, bl3⟩
theorem leave_h (a : Option Addr) (c : Nat) (l : List Hd) (p : Hd → Bool) (g : Nat) (lb : Array Value) (eg : ∀ args w, (callFunc g args).run Tryz.prog w = .ok (.enter g args) w) (w : World) (hp : Predh w g lb p)
    (hw : HdsAt w a l) (hm : l.length ≤ 1000000) :
    Calls Tryz.prog 84 #[.slice a l.length c, .func (.func g) #[] lb] w fun e w' => ∃ v', e = .returned v' ∧ w'.ownsRow w.heap.size 93 3 v' (l.filter (fun x => !p x)).length ((l.filter (fun x => !p x)).flatMap hcells) ∧ Below w.heap.size w w' := by
  go_enter Tryz.func84, Tryz.ntmps84
  go_wp2_with fail
  refine (clone_h a c l w hw hm).mono ?_
  rintro e w1 ⟨v, rfl, ho, hb⟩
  go_wp2_with fail
  refine (del_h v l p g lb eg w w1 hp hb ho hm).mono ?_
  rintro e w2 ⟨v', rfl, ho2, hb2⟩
  go_wp2_with fail
  go_ret
  exact ⟨_, rfl, ho2, hb2⟩

/-- what is asked of a closure over Writs -/
def Predw (w0 : World) (g : Nat) (lb : Array Value) (p : Wr → Bool) : Prop :=
  ∀ (x : Wr) (W : World), Below w0.heap.size w0 W → Calls Tryz.prog g (#[.agg #[.int .i64 x.id, .int .i64 x.thing, .int .i64 x.rights, .int .i64 x.badge, .int .i64 x.frm]] ++ lb) W fun e w' => e = .returned (.bool (p x)) ∧ Below W.heap.size W w'
set_option maxHeartbeats 1000000 in
theorem idx_somew (b o c : Nat) (l : List Wr) (p : Wr → Bool) (g : Nat) (lb : Array Value) (eg : ∀ args w, (callFunc g args).run Tryz.prog w = .ok (.enter g args) w) (w0 w : World) (hp : Predw w0 g lb p) (hB : Below w0.heap.size w0 w)
    (hw : ∀ j x, l[j]? = some x → WrAt w b (o + j * 5) x) (hb : b < w.heap.size) (hm : l.length ≤ 1000000) :
    Calls Tryz.prog 63 #[.slice (some ⟨b, o, none⟩) l.length c, .func (.func g) #[] lb] w fun e w' => e = .returned (.int .i64 (idx p l)) ∧ Below w.heap.size w w' := by
  have HP : Hid (Predw w0 g lb p) := hp
  clear hp
  go_enter Tryz.func63, Tryz.ntmps63
  go_wp2
  go_loopw [8] (fun i wr => ∃ k : Nat, k ≤ l.length ∧ i = .int .i64 k ∧ Hid (idxFrom p (l.drop k) k = idx p l) ∧ Below w.heap.size w wr) (fun i _ => l.length - (intOf i).toNat)
  case atStart => exact ⟨0, Nat.zero_le _, rfl, show Hid _ from rfl, Below.refl _ _⟩
  case round =>
    obtain ⟨k, hk, rfl, hn, hbl⟩ := hrel
    by_cases hlt' : k < l.length
    · obtain ⟨x, hx⟩ : ∃ x, l[k]? = some x := ⟨l[k], List.getElem?_eq_getElem hlt'⟩
      obtain ⟨q0, q1, q2, q3, q4⟩ := (hw k x hx).below hbl hb
      have HX : Hid (l[k]? = some x) := hx
      have hcall := HP.out x wr (kept_of hB hbl)
      clear hw hx
      cases hq : p x with
      | true =>
        rw [hq] at hcall
        go_wp2_with (go_at_fn g; refine hcall.mono ?_; rintro e w1 ⟨rfl, hb1⟩)
        go_ret
        exact ⟨retInt (idx_yes HX.out hq hn.out).symm, Below_after hbl hb1⟩
      | false =>
        rw [hq] at hcall
        go_wp2_with (go_at_fn g; refine hcall.mono ?_; rintro e w1 ⟨rfl, hb1⟩)
        go_roundw
        case rel => exact ⟨k + 1, by omega, by go_num, show Hid _ from idx_no HX.out hq hn.out, Below_after hbl hb1⟩
        case measure => simp [intOf]; omega
    · have HF : Hid (idx p l = -1) := idx_end hlt' hn.out
      clear hw
      go_wp2
      go_ret
      exact ⟨retInt HF.out.symm, hbl⟩
theorem idx_nilw (a : Option Addr) (c : Nat) (fv : Value) (w : World) :
    Calls Tryz.prog 63 #[.slice a 0 c, fv] w fun e w' => e = .returned (.int .i64 (-1)) ∧ Below w.heap.size w w' := by
  go_enter Tryz.func63, Tryz.ntmps63
  go_wp2
  refine wp_loop_rounds 1 ?_
  rw [rounds_succ]
  go_wp2
  go_ret
  exact ⟨rfl, Below.refl _ _⟩
theorem idx_anyw (a : Option Addr) (c : Nat) (l : List Wr) (p : Wr → Bool) (g : Nat) (lb : Array Value) (eg : ∀ args w, (callFunc g args).run Tryz.prog w = .ok (.enter g args) w) (w0 w : World) (hp : Predw w0 g lb p) (hB : Below w0.heap.size w0 w)
    (hw : WrsAt w a l) (hm : l.length ≤ 1000000) :
    Calls Tryz.prog 63 #[.slice a l.length c, .func (.func g) #[] lb] w fun e w' => e = .returned (.int .i64 (idx p l)) ∧ Below w.heap.size w w' := by
  rcases hw with rfl | ⟨b, o, rfl, hb, hx⟩
  · exact idx_nilw a c _ w
  · exact idx_somew b o c l p g lb eg w0 w hp hB hx hb hm
set_option maxHeartbeats 4000000 in
set_option maxRecDepth 100000 in
theorem del_w (v : Value) (l : List Wr) (p : Wr → Bool) (g : Nat) (lb : Array Value) (eg : ∀ args w, (callFunc g args).run Tryz.prog w = .ok (.enter g args) w) (w0 w : World) (hp : Predw w0 g lb p) (hB : Below w0.heap.size w0 w)
    (hown : w.ownsRow w0.heap.size 39 5 v l.length (l.flatMap wcells)) (hm : l.length ≤ 1000000) :
    Calls Tryz.prog 109 #[v, .func (.func g) #[] lb] w fun e w' => ∃ v', e = .returned v' ∧ w'.ownsRow w0.heap.size 39 5 v' (l.filter (fun x => !p x)).length ((l.filter (fun x => !p x)).flatMap wcells) ∧ Below w0.heap.size w0 w' := by
  rcases row_open hown with ⟨rfl, rfl⟩ | ⟨bk, cap, rfl, hbk, hbw, hfit, hc⟩
  · clear hown
    go_enter Tryz.func109, Tryz.ntmps109
    go_wp2_with fail
    refine (idx_nilw none 0 _ w).mono ?_
    rintro e w1 ⟨rfl, hb1⟩
    go_wp2_with fail
    go_ret
    exact ⟨_, rfl, World.ownsRow_nil _ _ _ _, kept_of hB hb1⟩
  · have hat := wr_unflat hc
    have hI := idx_somew bk 0 cap l p g lb eg w0 w hp hB hat hbw hm
    have HP : Hid (Predw w0 g lb p) := hp
    obtain ⟨hf1, hf2⟩ := hfit
    unfold maxLen at hf2
    clear hat hc hp
    rcases idx_cases p l with ⟨e1, _⟩ | ⟨k0, x0, e1, hx0, hp0, _⟩
    · have HF : Hid (l.filter (fun x => !p x) = l) := idx_all e1
      rw [e1] at hI
      have HO : Hid (w.ownsRow w0.heap.size 39 5 (.slice (some ⟨bk, 0, none⟩) l.length cap) l.length (l.flatMap wcells)) := hown
      clear hown e1
      go_enter Tryz.func109, Tryz.ntmps109
      go_wp2_with fail
      refine hI.mono ?_
      rintro e w1 ⟨rfl, hb1⟩
      go_wp2_with fail
      go_ret
      exact ⟨_, rfl, by rw [HF.out]; exact ownsRow_after HO.out hb1, kept_of hB hb1⟩
    · have hk0 : k0 < l.length := (List.getElem?_eq_some_iff.1 hx0).1
      rw [e1] at hI
      have hfl := flatlen_w l
      have HFL : Hid ((l.flatMap wcells).length = l.length * 5) := hfl
      have HT : Hid ((l.take (k0 + 1)).filter (fun x => !p x) = l.take k0) := idx_first_take e1 hx0 hp0
      have d1 : ((k0 : Int) == -1) = false := beq_eq_false_iff_ne.2 (by omega)
      have HO : Hid (w.ownsRow w0.heap.size 39 5 (.slice (some ⟨bk, 0, none⟩) l.length cap) l.length (l.flatMap wcells)) := hown
      have hget : ∀ (m : Nat) (x : Wr) (q : Nat), l[m]? = some x → q < 5 → (l.flatMap wcells)[m * 5 + q]? = (wcells x)[q]? := fun m x q h1 h2 => flat_get wcells 5 (fun _ => rfl) l m q x h1 h2
      have HG : Hid (∀ (m : Nat) (x : Wr) (q : Nat), l[m]? = some x → q < 5 → (l.flatMap wcells)[m * 5 + q]? = (wcells x)[q]?) := hget
      have HS : Hid ((l.take k0).flatMap wcells = (l.flatMap wcells).take (k0 * 5)) := by
        show _ = _
        have h1 : l.flatMap wcells = (l.take k0).flatMap wcells ++ (l.drop k0).flatMap wcells := by rw [← List.flatMap_append, List.take_append_drop]
        have h2 : ((l.take k0).flatMap wcells).length = k0 * 5 := by rw [flatlen_w, List.length_take, Nat.min_eq_left (by omega)]
        rw [h1, ← h2, List.take_left]
      clear hown hx0 hp0 e1 hfl hget
      go_enter Tryz.func109, Tryz.ntmps109
      go_wp2_with fail
      refine hI.mono ?_
      rintro e w1 ⟨rfl, hb1⟩
      have ho1 := ownsRow_after HO.out hb1
      have bl1 := kept_of hB hb1
      clear hI hb1
      go_wp2_with fail
      go_loopw [5, 6, 7] (fun s5 s6 s7 wr => ∃ i j : Nat, i < j ∧ j ≤ l.length ∧ s5 = .int .i64 i ∧ s6 = .int .i64 j ∧ Hid (i = ((l.take j).filter (fun x => !p x)).length) ∧ (∃ xs, Hid (KInv 5 i j xs (((l.take j).filter (fun x => !p x)).flatMap wcells) (l.flatMap wcells)) ∧ Hid (wr.ownsRow w0.heap.size 39 5 (.slice (some ⟨bk, 0, none⟩) l.length cap) l.length xs)) ∧ Below w0.heap.size w0 wr) (fun _ s6 _ _ => l.length - (intOf s6).toNat)
      case atStart =>
        refine ⟨k0, k0 + 1, by omega, by omega, rfl, by go_num, ?_, ⟨_, ?_, ho1⟩, bl1⟩
        · show k0 = _
          rw [HT.out, List.length_take]; omega
        · show KInv _ _ _ _ _ _
          rw [HT.out, HS.out]
          exact KInv.start (by rw [HFL.out]; exact Nat.mul_le_mul_right _ (by omega))
      case round =>
        obtain ⟨i, j, hij, hj, rfl, rfl, HI, ⟨xs, HK, HW⟩, hbl⟩ := hrel
        clear ho1
        by_cases hlt : j < l.length
        · obtain ⟨x, hx⟩ : ∃ x, l[j]? = some x := ⟨l[j], List.getElem?_eq_getElem hlt⟩
          have HX : Hid (l[j]? = some x) := hx
          have hcell : ∀ q u, q < 5 → (wcells x)[q]? = some u → wr.cell? ⟨bk, j * 5 + q, none⟩ = some u := by
            intro q u hq hu
            rw [HW.out.cellAt (j * 5 + q) (by omega), HK.out.2.2.2 _ (by omega), HG.out j x q hx hq]; exact hu
          have q0 := hcell 0 _ (by omega) (by rfl : (wcells x)[0]? = some (.int .i64 x.id))
          have q1 := hcell 1 _ (by omega) (by rfl : (wcells x)[1]? = some (.int .i64 x.thing))
          have q2 := hcell 2 _ (by omega) (by rfl : (wcells x)[2]? = some (.int .i64 x.rights))
          have q3 := hcell 3 _ (by omega) (by rfl : (wcells x)[3]? = some (.int .i64 x.badge))
          have q4 := hcell 4 _ (by omega) (by rfl : (wcells x)[4]? = some (.int .i64 x.frm))
          simp only [Nat.add_zero] at q0
          have hbw2 : bk < wr.heap.size := (HW.out.lt bk rfl).2
          clear hcell hx
          have hcall := HP.out x (wr.alloc (.cells #[.int .i64 x.id, .int .i64 x.thing, .int .i64 x.rights, .int .i64 x.badge, .int .i64 x.frm] 39)) (hbl.alloc hbl.size _)
          cases hq : p x with
          | true =>
            rw [hq] at hcall
            go_wp2_with (go_at_fn g; refine hcall.mono ?_; rintro e w2 ⟨rfl, hb2⟩)
            go_roundw
            case rel =>
              refine ⟨i, j + 1, by omega, by omega, rfl, by go_num, ?_, ⟨xs, ?_, ownsRow_after (HW.out.alloc _) hb2⟩, kept_of (hbl.alloc hbl.size _) hb2⟩
              · show i = _
                rw [filt_snoc HX.out, if_neg (by simp [hq]), List.append_nil]; exact HI.out
              · show KInv _ _ _ _ _ _
                rw [filt_snoc HX.out, if_neg (by simp [hq]), List.append_nil]; exact HK.out.skip
            case measure => simp [intOf]; omega
          | false =>
            rw [hq] at hcall
            go_wp2_with fail
            refine hcall.mono ?_
            rintro e w2 ⟨rfl, hb2⟩
            have hown2 := ownsRow_after (HW.out.alloc (.cells #[.int .i64 x.id, .int .i64 x.thing, .int .i64 x.rights, .int .i64 x.badge, .int .i64 x.frm] 39)) hb2
            have bl2 := kept_of (hbl.alloc hbl.size (.cells #[.int .i64 x.id, .int .i64 x.thing, .int .i64 x.rights, .int .i64 x.badge, .int .i64 x.frm] 39)) hb2
            have hxl : xs.length = l.length * 5 := by rw [HK.out.1]; exact HFL.out
            obtain ⟨p0, p1, p2, p3, p4⟩ := (WrAt_new wr 39 x).below hb2 (by simp)
            have hz2 : wr.heap.size < w2.heap.size := by have := hb2.size; simp at this; omega
            have hbw3 : bk < w2.heap.size := by omega
            have hne : ¬ bk = wr.heap.size := by omega
            obtain ⟨o0, ho0⟩ : ∃ u, xs[i * 5]? = some u := ⟨_, List.getElem?_eq_getElem (by omega)⟩
            have c0 := hown2.cellAt (i * 5) (by omega)
            rw [ho0] at c0
            have f0 := hown2.frozenAt (i * 5)
            obtain ⟨o1, ho1⟩ : ∃ u, xs[i * 5 + 1]? = some u := ⟨_, List.getElem?_eq_getElem (by omega)⟩
            have c1 := hown2.cellAt (i * 5 + 1) (by omega)
            rw [ho1] at c1
            have f1 := hown2.frozenAt (i * 5 + 1)
            obtain ⟨o2, ho2⟩ : ∃ u, xs[i * 5 + 2]? = some u := ⟨_, List.getElem?_eq_getElem (by omega)⟩
            have c2 := hown2.cellAt (i * 5 + 2) (by omega)
            rw [ho2] at c2
            have f2 := hown2.frozenAt (i * 5 + 2)
            obtain ⟨o3, ho3⟩ : ∃ u, xs[i * 5 + 3]? = some u := ⟨_, List.getElem?_eq_getElem (by omega)⟩
            have c3 := hown2.cellAt (i * 5 + 3) (by omega)
            rw [ho3] at c3
            have f3 := hown2.frozenAt (i * 5 + 3)
            obtain ⟨o4, ho4⟩ : ∃ u, xs[i * 5 + 4]? = some u := ⟨_, List.getElem?_eq_getElem (by omega)⟩
            have c4 := hown2.cellAt (i * 5 + 4) (by omega)
            rw [ho4] at c4
            have f4 := hown2.frozenAt (i * 5 + 4)
            clear ho0 ho1 ho2 ho3 ho4 hb2 hcall
            have HW2 : Hid (w2.ownsRow w0.heap.size 39 5 (.slice (some ⟨bk, 0, none⟩) l.length cap) l.length xs) := hown2
            clear hown2
            go_wp2_with fail
            go_roundw
            case rel =>
              refine ⟨i + 1, j + 1, by omega, by omega, by go_num, by go_num, ?_, ⟨setRun xs (i * 5) (wcells x), ?_, ?_⟩, (((((bl2.setCell (p := ⟨bk, i * 5, none⟩) hbk (.int .i64 x.id)).setCell (p := ⟨bk, i * 5 + 1, none⟩) hbk (.int .i64 x.thing)).setCell (p := ⟨bk, i * 5 + 2, none⟩) hbk (.int .i64 x.rights)).setCell (p := ⟨bk, i * 5 + 3, none⟩) hbk (.int .i64 x.badge)).setCell (p := ⟨bk, i * 5 + 4, none⟩) hbk (.int .i64 x.frm))⟩
              · show i + 1 = _
                rw [filt_snoc HX.out, if_pos (by simp [hq]), List.length_append, ← HI.out]; rfl
              · show KInv _ _ _ _ _ _
                rw [filt_snoc HX.out, if_pos (by simp [hq]), List.flatMap_append, show [x].flatMap wcells = wcells x by simp]
                exact HK.out.keep hij (by rw [HFL.out]; exact Nat.mul_le_mul_right _ (by omega)) rfl
              · exact (((((HW2.out.stored (i * 5) (.int .i64 x.id)).1.stored (i * 5 + 1) (.int .i64 x.thing)).1.stored (i * 5 + 2) (.int .i64 x.rights)).1.stored (i * 5 + 3) (.int .i64 x.badge)).1.stored (i * 5 + 4) (.int .i64 x.frm)).1
            case measure => simp [intOf]; omega
        · obtain rfl : j = l.length := by omega
          have hi : i < l.length := hij
          obtain ⟨w3, hcl, ho3, hg3⟩ := run_clear_own (P := Tryz.prog) 25 (.agg #[.int .i64 0, .int .i64 0, .int .i64 0, .int .i64 0, .int .i64 0]) HW.out Tryz.underlying25 Tryz.zeroValue39 rfl (by intro u hu; simp [Value.cells] at hu; rcases hu with rfl | rfl | rfl | rfl | rfl <;> rfl) i hi
          have bl3 := hbl.grown hg3 hbl.size (fun k hk => by cases hk; exact hbk)
          have HD : Hid (xs.take (i * 5) = (l.filter (fun x => !p x)).flatMap wcells) := by
            have := HK.out.done
            rw [List.take_length] at this
            exact this
          have HN : Hid (i = (l.filter (fun x => !p x)).length) := by
            have := HI.out
            rw [List.take_length] at this
            exact this
          clear HK HI HW
          go_wp2_with fail
          go_ret
          exact ⟨_, rfl, by rw [← HD.out, ← HN.out]; exact ho3, bl3⟩
theorem leave_w (a : Option Addr) (c : Nat) (l : List Wr) (p : Wr → Bool) (g : Nat) (lb : Array Value) (eg : ∀ args w, (callFunc g args).run Tryz.prog w = .ok (.enter g args) w) (w : World) (hp : Predw w g lb p)
    (hw : WrsAt w a l) (hm : l.length ≤ 1000000) :
    Calls Tryz.prog 91 #[.slice a l.length c, .func (.func g) #[] lb] w fun e w' => ∃ v', e = .returned v' ∧ w'.ownsRow w.heap.size 39 5 v' (l.filter (fun x => !p x)).length ((l.filter (fun x => !p x)).flatMap wcells) ∧ Below w.heap.size w w' := by
  go_enter Tryz.func91, Tryz.ntmps91
  go_wp2_with fail
  refine (clone_w a c l w hw hm).mono ?_
  rintro e w1 ⟨v, rfl, ho, hb⟩
  go_wp2_with fail
  refine (del_w v l p g lb eg w w1 hp hb ho hm).mono ?_
  rintro e w2 ⟨v', rfl, ho2, hb2⟩
  go_wp2_with fail
  go_ret
  exact ⟨_, rfl, ho2, hb2⟩
end Go.Proofs.YtddgpgldbekamaaGreat
