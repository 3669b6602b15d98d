/- TopAlone, walked. -/
import Derived.Test.YtihckdndecbefacGrownB
import Derived.Test.YtihckdndecbefacMadeW
import Derived.Test.YtihckdndecbefacGetAny
import Derived.Test.YtihckdndecbefacAloneLaw
import Derived.Test.YtihckdndecbefacOpenAct
import Derived.Deep.RegionHeld3
set_option linter.unusedSimpArgs false
set_option linter.unnecessarySimpa false
set_option linter.unusedVariables false
namespace Go.Proofs.Ytihckdndecbefac
open Go.RowKit

set_option maxHeartbeats 2000000 in
set_option maxRecDepth 100000 in
theorem talone_no (a : Option Addr) (c : Nat) (l : List Ac) (x : Ac) (h s : Int) (w : World) (hw : AcsAt w a l) (hm : l.length ≤ maxLen) (hx : AcOk w x) (hq : lacB l 80 = false) :
    Calls Try.prog 8 #[.slice a l.length c, .agg #[.string x.kd, .string x.sd, .int .i64 x.ph, .int .i64 x.ps, .int .i64 x.qh, .int .i64 x.qs, .int .i64 x.aa, .int .i64 x.bb, .int .i64 x.nn, .int .u64 x.kk, .slice x.xc x.lc x.cc], .agg #[.int .i64 h, .int .i64 s]] w fun e w' => e = .returned (.bool true) ∧ Below w.heap.size w w' := by
  have BA := Bx.new w [.string x.kd, .string x.sd, .int .i64 x.ph, .int .i64 x.ps, .int .i64 x.qh, .int .i64 x.qs, .int .i64 x.aa, .int .i64 x.bb, .int .i64 x.nn, .int .u64 x.kk, .slice x.xc x.lc x.cc] 66
  replace BA := BA.alloc (.cells #[.int .i64 h, .int .i64 s] 44)
  have BP := Bx.new (w.alloc (.cells #[.string x.kd, .string x.sd, .int .i64 x.ph, .int .i64 x.ps, .int .i64 x.qh, .int .i64 x.qs, .int .i64 x.aa, .int .i64 x.bb, .int .i64 x.nn, .int .u64 x.kk, .slice x.xc x.lc x.cc] 66)) [.int .i64 h, .int .i64 s] 44
  rw [sz_alloc] at BP
  have bl := ((Below.refl w.heap.size w).alloc (by first | exact Nat.le_refl _ | (simp <;> omega)) (.cells #[.string x.kd, .string x.sd, .int .i64 x.ph, .int .i64 x.ps, .int .i64 x.qh, .int .i64 x.qs, .int .i64 x.aa, .int .i64 x.bb, .int .i64 x.nn, .int .u64 x.kk, .slice x.xc x.lc x.cc] 66)).alloc (by first | exact Nat.le_refl _ | (simp <;> omega)) (.cells #[.int .i64 h, .int .i64 s] 44)
  go_enter Try.func8, Try.ntmps8
  have hcon := made_any ((w.alloc (.cells #[.string x.kd, .string x.sd, .int .i64 x.ph, .int .i64 x.ps, .int .i64 x.qh, .int .i64 x.qs, .int .i64 x.aa, .int .i64 x.bb, .int .i64 x.nn, .int .u64 x.kk, .slice x.xc x.lc x.cc] 66)).alloc (.cells #[.int .i64 h, .int .i64 s] 44))
  go_wp2_with fail
  refine hcon.mono ?_
  rintro e w1 ⟨rfl, hb1⟩
  clear hcon
  replace BA := BA.below hb1
  replace BP := BP.below hb1
  replace bl := Below_after bl hb1
  have yA := BA.1
  have yP := BP.1
  have hcon := grown_no a c l w1 (hw.below bl) hm hq
  go_wp2_with fail
  refine hcon.mono ?_
  rintro e w2 ⟨rfl, hb2⟩
  clear hcon
  clear yA yP
  replace BA := BA.below hb2
  replace BP := BP.below hb2
  replace bl := Below_after bl hb2
  have yA := BA.1
  have yP := BP.1
  replace BA := BA.alloc (.cells #[.slice none 0 0, .slice none 0 0, .slice none 0 0, .slice none 0 0, .int .i64 0, .int .i64 0] 29)
  replace BP := BP.alloc (.cells #[.slice none 0 0, .slice none 0 0, .slice none 0 0, .slice none 0 0, .int .i64 0, .int .i64 0] 29)
  replace bl := bl.alloc bl.size (.cells #[.slice none 0 0, .slice none 0 0, .slice none 0 0, .slice none 0 0, .int .i64 0, .int .i64 0] 29)
  have BZ := Bx.new w2 [.slice none 0 0, .slice none 0 0, .slice none 0 0, .slice none 0 0, .int .i64 0, .int .i64 0] 29
  go_wp2_with fail
  go_ret
  exact ⟨rfl, bl⟩
set_option maxHeartbeats 2000000 in
set_option maxRecDepth 100000 in
theorem talone_heavy (a : Option Addr) (c : Nat) (l : List Ac) (x : Ac) (h s : Int) (w : World) (hw : AcsAt w a l) (hm : l.length ≤ maxLen) (hx : AcOk w x) (hq : lacB l 80 = true) (hl : lacB [x] 1 = false) :
    Calls Try.prog 8 #[.slice a l.length c, .agg #[.string x.kd, .string x.sd, .int .i64 x.ph, .int .i64 x.ps, .int .i64 x.qh, .int .i64 x.qs, .int .i64 x.aa, .int .i64 x.bb, .int .i64 x.nn, .int .u64 x.kk, .slice x.xc x.lc x.cc], .agg #[.int .i64 h, .int .i64 s]] w fun e w' => e = .returned (.bool true) ∧ Below w.heap.size w w' := by
  have BA := Bx.new w [.string x.kd, .string x.sd, .int .i64 x.ph, .int .i64 x.ps, .int .i64 x.qh, .int .i64 x.qs, .int .i64 x.aa, .int .i64 x.bb, .int .i64 x.nn, .int .u64 x.kk, .slice x.xc x.lc x.cc] 66
  replace BA := BA.alloc (.cells #[.int .i64 h, .int .i64 s] 44)
  have BP := Bx.new (w.alloc (.cells #[.string x.kd, .string x.sd, .int .i64 x.ph, .int .i64 x.ps, .int .i64 x.qh, .int .i64 x.qs, .int .i64 x.aa, .int .i64 x.bb, .int .i64 x.nn, .int .u64 x.kk, .slice x.xc x.lc x.cc] 66)) [.int .i64 h, .int .i64 s] 44
  rw [sz_alloc] at BP
  have bl := ((Below.refl w.heap.size w).alloc (by first | exact Nat.le_refl _ | (simp <;> omega)) (.cells #[.string x.kd, .string x.sd, .int .i64 x.ph, .int .i64 x.ps, .int .i64 x.qh, .int .i64 x.qs, .int .i64 x.aa, .int .i64 x.bb, .int .i64 x.nn, .int .u64 x.kk, .slice x.xc x.lc x.cc] 66)).alloc (by first | exact Nat.le_refl _ | (simp <;> omega)) (.cells #[.int .i64 h, .int .i64 s] 44)
  have hlen := lac_len hq
  have hi := inv_grow l l.length (by omega)
  rw [List.take_length] at hi
  have hI : RmI (growR l) := ⟨hi.sz (by omega), hi.put, hi.wf⟩
  have hW := whole_grow l
  have hk : InvK 80 (growR l) := hi.mono (by omega)
  clear hi
  go_enter Try.func8, Try.ntmps8
  have hcon := made_any ((w.alloc (.cells #[.string x.kd, .string x.sd, .int .i64 x.ph, .int .i64 x.ps, .int .i64 x.qh, .int .i64 x.qs, .int .i64 x.aa, .int .i64 x.bb, .int .i64 x.nn, .int .u64 x.kk, .slice x.xc x.lc x.cc] 66)).alloc (.cells #[.int .i64 h, .int .i64 s] 44))
  go_wp2_with fail
  refine hcon.mono ?_
  rintro e w1 ⟨rfl, hb1⟩
  clear hcon
  replace BA := BA.below hb1
  replace BP := BP.below hb1
  replace bl := Below_after bl hb1
  have yA := BA.1
  have yP := BP.1
  have hg := grown_yes a c l w1 (hw.below bl) hm hq
  generalize growR l = g at hg hI hW hk
  clear hq hw hm hlen
  have hcon := hg
  clear hg
  go_wp2_with fail
  refine hcon.mono ?_
  rintro e w2 ⟨a0, a1, a2, a3, N0, N1, N2, N3, c0, c1, c2, c3, M, N, rfl, ⟨l0, l1, l2, l3, l4, l5⟩, hat, -, hb2⟩
  clear hcon
  clear yA yP
  replace BA := BA.below hb2
  replace BP := BP.below hb2
  replace bl := Below_after bl hb2
  have yA := BA.1
  have yP := BP.1
  replace BA := BA.alloc (.cells #[.slice a0 N0 c0, .slice a1 N1 c1, .slice a2 N2 c2, .slice a3 N3 c3, .int .i64 M, .int .i64 N] 29)
  replace BP := BP.alloc (.cells #[.slice a0 N0 c0, .slice a1 N1 c1, .slice a2 N2 c2, .slice a3 N3 c3, .int .i64 M, .int .i64 N] 29)
  replace hat := hat.below ((Below.refl _ _).alloc (Nat.le_refl _) (.cells #[.slice a0 N0 c0, .slice a1 N1 c1, .slice a2 N2 c2, .slice a3 N3 c3, .int .i64 M, .int .i64 N] 29))
  replace bl := bl.alloc bl.size (.cells #[.slice a0 N0 c0, .slice a1 N1 c1, .slice a2 N2 c2, .slice a3 N3 c3, .int .i64 M, .int .i64 N] 29)
  have BR := Bx.new w2 [.slice a0 N0 c0, .slice a1 N1 c1, .slice a2 N2 c2, .slice a3 N3 c3, .int .i64 M, .int .i64 N] 29
  have BS := Bx.new (w2.alloc (.cells #[.slice a0 N0 c0, .slice a1 N1 c1, .slice a2 N2 c2, .slice a3 N3 c3, .int .i64 M, .int .i64 N] 29)) [.string x.kd, .string x.sd, .int .i64 x.ph, .int .i64 x.ps, .int .i64 x.qh, .int .i64 x.qs, .int .i64 x.aa, .int .i64 x.bb, .int .i64 x.nn, .int .u64 x.kk, .slice x.xc x.lc x.cc] 66
  have hs2 : AcsAt ((w2.alloc (.cells #[.slice a0 N0 c0, .slice a1 N1 c1, .slice a2 N2 c2, .slice a3 N3 c3, .int .i64 M, .int .i64 N] 29)).alloc (.cells #[.string x.kd, .string x.sd, .int .i64 x.ph, .int .i64 x.ps, .int .i64 x.qh, .int .i64 x.qs, .int .i64 x.aa, .int .i64 x.bb, .int .i64 x.nn, .int .u64 x.kk, .slice x.xc x.lc x.cc] 66)) (some ⟨(w2.alloc (.cells #[.slice a0 N0 c0, .slice a1 N1 c1, .slice a2 N2 c2, .slice a3 N3 c3, .int .i64 M, .int .i64 N] 29)).heap.size, 0, none⟩) [x] := by
    refine .inr ⟨_, 0, rfl, BS.1, ?_⟩
    intro j y hy
    match j, hy with
    | 0, hy =>
      cases hy
      refine ⟨⟨(BS.2 0 _ rfl).1, (BS.2 1 _ rfl).1, (BS.2 2 _ rfl).1, (BS.2 3 _ rfl).1, (BS.2 4 _ rfl).1, (BS.2 5 _ rfl).1, (BS.2 6 _ rfl).1, (BS.2 7 _ rfl).1, (BS.2 8 _ rfl).1, (BS.2 9 _ rfl).1, (BS.2 10 _ rfl).1⟩, hx.1, hx.2.1, hx.2.2.1, ?_⟩
      exact (hx.2.2.2.below bl).below ((Below.refl _ _).alloc (Nat.le_refl _) _)
  have hlac := lac_any _ 1 [x] 1 _ hs2 (by simp [maxLen]) (by omega) (by omega)
  rw [sz_alloc] at hlac
  change Calls _ _ #[.slice (some ⟨w2.heap.size + 1, 0, none⟩) 1 1, .int .i64 1] _ _ at hlac
  clear hs2 BS
  have cA0 := (BA.2 0 _ rfl).1
  have cA1 := (BA.2 1 _ rfl).1
  have cA2 := (BA.2 2 _ rfl).1
  have cA3 := (BA.2 3 _ rfl).1
  have cA4 := (BA.2 4 _ rfl).1
  have cA5 := (BA.2 5 _ rfl).1
  have cA6 := (BA.2 6 _ rfl).1
  have cA7 := (BA.2 7 _ rfl).1
  have cA8 := (BA.2 8 _ rfl).1
  have cA9 := (BA.2 9 _ rfl).1
  have cA10 := (BA.2 10 _ rfl).1
  have zA := BA.1
  rw [hl] at hlac
  go_wp2_with fail
  refine hlac.mono ?_
  rintro e w' ⟨rfl, hw'⟩
  rw [hw']
  clear hw' w' hlac
  replace bl := bl.alloc bl.size (.cells #[.string x.kd, .string x.sd, .int .i64 x.ph, .int .i64 x.ps, .int .i64 x.qh, .int .i64 x.qs, .int .i64 x.aa, .int .i64 x.bb, .int .i64 x.nn, .int .u64 x.kk, .slice x.xc x.lc x.cc] 66)
  go_wp2_with fail
  go_ret
  exact ⟨rfl, bl⟩
set_option maxHeartbeats 2000000 in
set_option maxRecDepth 100000 in
theorem talone_place (a : Option Addr) (c : Nat) (l : List Ac) (x : Ac) (h s : Int) (w : World) (hw : AcsAt w a l) (hm : l.length ≤ maxLen) (hx : AcOk w x) (hq : lacB l 80 = true) (hl : lacB [x] 1 = true) (hp : ¬ plOk h s) :
    Calls Try.prog 8 #[.slice a l.length c, .agg #[.string x.kd, .string x.sd, .int .i64 x.ph, .int .i64 x.ps, .int .i64 x.qh, .int .i64 x.qs, .int .i64 x.aa, .int .i64 x.bb, .int .i64 x.nn, .int .u64 x.kk, .slice x.xc x.lc x.cc], .agg #[.int .i64 h, .int .i64 s]] w fun e w' => e = .returned (.bool true) ∧ Below w.heap.size w w' := by
  have BA := Bx.new w [.string x.kd, .string x.sd, .int .i64 x.ph, .int .i64 x.ps, .int .i64 x.qh, .int .i64 x.qs, .int .i64 x.aa, .int .i64 x.bb, .int .i64 x.nn, .int .u64 x.kk, .slice x.xc x.lc x.cc] 66
  replace BA := BA.alloc (.cells #[.int .i64 h, .int .i64 s] 44)
  have BP := Bx.new (w.alloc (.cells #[.string x.kd, .string x.sd, .int .i64 x.ph, .int .i64 x.ps, .int .i64 x.qh, .int .i64 x.qs, .int .i64 x.aa, .int .i64 x.bb, .int .i64 x.nn, .int .u64 x.kk, .slice x.xc x.lc x.cc] 66)) [.int .i64 h, .int .i64 s] 44
  rw [sz_alloc] at BP
  have bl := ((Below.refl w.heap.size w).alloc (by first | exact Nat.le_refl _ | (simp <;> omega)) (.cells #[.string x.kd, .string x.sd, .int .i64 x.ph, .int .i64 x.ps, .int .i64 x.qh, .int .i64 x.qs, .int .i64 x.aa, .int .i64 x.bb, .int .i64 x.nn, .int .u64 x.kk, .slice x.xc x.lc x.cc] 66)).alloc (by first | exact Nat.le_refl _ | (simp <;> omega)) (.cells #[.int .i64 h, .int .i64 s] 44)
  have hlen := lac_len hq
  have hi := inv_grow l l.length (by omega)
  rw [List.take_length] at hi
  have hI : RmI (growR l) := ⟨hi.sz (by omega), hi.put, hi.wf⟩
  have hW := whole_grow l
  have hk : InvK 80 (growR l) := hi.mono (by omega)
  clear hi
  go_enter Try.func8, Try.ntmps8
  have hcon := made_any ((w.alloc (.cells #[.string x.kd, .string x.sd, .int .i64 x.ph, .int .i64 x.ps, .int .i64 x.qh, .int .i64 x.qs, .int .i64 x.aa, .int .i64 x.bb, .int .i64 x.nn, .int .u64 x.kk, .slice x.xc x.lc x.cc] 66)).alloc (.cells #[.int .i64 h, .int .i64 s] 44))
  go_wp2_with fail
  refine hcon.mono ?_
  rintro e w1 ⟨rfl, hb1⟩
  clear hcon
  replace BA := BA.below hb1
  replace BP := BP.below hb1
  replace bl := Below_after bl hb1
  have yA := BA.1
  have yP := BP.1
  have hg := grown_yes a c l w1 (hw.below bl) hm hq
  generalize growR l = g at hg hI hW hk
  clear hq hw hm hlen
  have hcon := hg
  clear hg
  go_wp2_with fail
  refine hcon.mono ?_
  rintro e w2 ⟨a0, a1, a2, a3, N0, N1, N2, N3, c0, c1, c2, c3, M, N, rfl, ⟨l0, l1, l2, l3, l4, l5⟩, hat, -, hb2⟩
  clear hcon
  clear yA yP
  replace BA := BA.below hb2
  replace BP := BP.below hb2
  replace bl := Below_after bl hb2
  have yA := BA.1
  have yP := BP.1
  replace BA := BA.alloc (.cells #[.slice a0 N0 c0, .slice a1 N1 c1, .slice a2 N2 c2, .slice a3 N3 c3, .int .i64 M, .int .i64 N] 29)
  replace BP := BP.alloc (.cells #[.slice a0 N0 c0, .slice a1 N1 c1, .slice a2 N2 c2, .slice a3 N3 c3, .int .i64 M, .int .i64 N] 29)
  replace hat := hat.below ((Below.refl _ _).alloc (Nat.le_refl _) (.cells #[.slice a0 N0 c0, .slice a1 N1 c1, .slice a2 N2 c2, .slice a3 N3 c3, .int .i64 M, .int .i64 N] 29))
  replace bl := bl.alloc bl.size (.cells #[.slice a0 N0 c0, .slice a1 N1 c1, .slice a2 N2 c2, .slice a3 N3 c3, .int .i64 M, .int .i64 N] 29)
  have BR := Bx.new w2 [.slice a0 N0 c0, .slice a1 N1 c1, .slice a2 N2 c2, .slice a3 N3 c3, .int .i64 M, .int .i64 N] 29
  have BS := Bx.new (w2.alloc (.cells #[.slice a0 N0 c0, .slice a1 N1 c1, .slice a2 N2 c2, .slice a3 N3 c3, .int .i64 M, .int .i64 N] 29)) [.string x.kd, .string x.sd, .int .i64 x.ph, .int .i64 x.ps, .int .i64 x.qh, .int .i64 x.qs, .int .i64 x.aa, .int .i64 x.bb, .int .i64 x.nn, .int .u64 x.kk, .slice x.xc x.lc x.cc] 66
  have hs2 : AcsAt ((w2.alloc (.cells #[.slice a0 N0 c0, .slice a1 N1 c1, .slice a2 N2 c2, .slice a3 N3 c3, .int .i64 M, .int .i64 N] 29)).alloc (.cells #[.string x.kd, .string x.sd, .int .i64 x.ph, .int .i64 x.ps, .int .i64 x.qh, .int .i64 x.qs, .int .i64 x.aa, .int .i64 x.bb, .int .i64 x.nn, .int .u64 x.kk, .slice x.xc x.lc x.cc] 66)) (some ⟨(w2.alloc (.cells #[.slice a0 N0 c0, .slice a1 N1 c1, .slice a2 N2 c2, .slice a3 N3 c3, .int .i64 M, .int .i64 N] 29)).heap.size, 0, none⟩) [x] := by
    refine .inr ⟨_, 0, rfl, BS.1, ?_⟩
    intro j y hy
    match j, hy with
    | 0, hy =>
      cases hy
      refine ⟨⟨(BS.2 0 _ rfl).1, (BS.2 1 _ rfl).1, (BS.2 2 _ rfl).1, (BS.2 3 _ rfl).1, (BS.2 4 _ rfl).1, (BS.2 5 _ rfl).1, (BS.2 6 _ rfl).1, (BS.2 7 _ rfl).1, (BS.2 8 _ rfl).1, (BS.2 9 _ rfl).1, (BS.2 10 _ rfl).1⟩, hx.1, hx.2.1, hx.2.2.1, ?_⟩
      exact (hx.2.2.2.below bl).below ((Below.refl _ _).alloc (Nat.le_refl _) _)
  have hlac := lac_any _ 1 [x] 1 _ hs2 (by simp [maxLen]) (by omega) (by omega)
  rw [sz_alloc] at hlac
  change Calls _ _ #[.slice (some ⟨w2.heap.size + 1, 0, none⟩) 1 1, .int .i64 1] _ _ at hlac
  clear hs2 BS
  have cA0 := (BA.2 0 _ rfl).1
  have cA1 := (BA.2 1 _ rfl).1
  have cA2 := (BA.2 2 _ rfl).1
  have cA3 := (BA.2 3 _ rfl).1
  have cA4 := (BA.2 4 _ rfl).1
  have cA5 := (BA.2 5 _ rfl).1
  have cA6 := (BA.2 6 _ rfl).1
  have cA7 := (BA.2 7 _ rfl).1
  have cA8 := (BA.2 8 _ rfl).1
  have cA9 := (BA.2 9 _ rfl).1
  have cA10 := (BA.2 10 _ rfl).1
  have zA := BA.1
  rw [hl] at hlac
  go_wp2_with fail
  refine hlac.mono ?_
  rintro e w' ⟨rfl, hw'⟩
  rw [hw']
  clear hw' w' hlac hl
  clear cA0 cA1 cA2 cA3 cA4 cA5 cA6 cA7 cA8 cA9 cA10 zA
  replace BA := BA.alloc (.cells #[.string x.kd, .string x.sd, .int .i64 x.ph, .int .i64 x.ps, .int .i64 x.qh, .int .i64 x.qs, .int .i64 x.aa, .int .i64 x.bb, .int .i64 x.nn, .int .u64 x.kk, .slice x.xc x.lc x.cc] 66)
  replace BP := BP.alloc (.cells #[.string x.kd, .string x.sd, .int .i64 x.ph, .int .i64 x.ps, .int .i64 x.qh, .int .i64 x.qs, .int .i64 x.aa, .int .i64 x.bb, .int .i64 x.nn, .int .u64 x.kk, .slice x.xc x.lc x.cc] 66)
  replace BR := BR.alloc (.cells #[.string x.kd, .string x.sd, .int .i64 x.ph, .int .i64 x.ps, .int .i64 x.qh, .int .i64 x.qs, .int .i64 x.aa, .int .i64 x.bb, .int .i64 x.nn, .int .u64 x.kk, .slice x.xc x.lc x.cc] 66)
  replace hat := hat.below ((Below.refl _ _).alloc (Nat.le_refl _) (.cells #[.string x.kd, .string x.sd, .int .i64 x.ph, .int .i64 x.ps, .int .i64 x.qh, .int .i64 x.qs, .int .i64 x.aa, .int .i64 x.bb, .int .i64 x.nn, .int .u64 x.kk, .slice x.xc x.lc x.cc] 66))
  replace bl := bl.alloc bl.size (.cells #[.string x.kd, .string x.sd, .int .i64 x.ph, .int .i64 x.ps, .int .i64 x.qh, .int .i64 x.qs, .int .i64 x.aa, .int .i64 x.bb, .int .i64 x.nn, .int .u64 x.kk, .slice x.xc x.lc x.cc] 66)
  generalize ((w2.alloc (.cells #[.slice a0 N0 c0, .slice a1 N1 c1, .slice a2 N2 c2, .slice a3 N3 c3, .int .i64 M, .int .i64 N] 29)).alloc (.cells #[.string x.kd, .string x.sd, .int .i64 x.ph, .int .i64 x.ps, .int .i64 x.qh, .int .i64 x.qs, .int .i64 x.aa, .int .i64 x.bb, .int .i64 x.nn, .int .u64 x.kk, .slice x.xc x.lc x.cc] 66)) = w3 at BA BP BR hat bl ⊢
  generalize w2.heap.size = rb at BR ⊢
  have hcon := scheck_bad h s w3 hp
  have cP0 := (BP.2 0 _ rfl).1
  have cP1 := (BP.2 1 _ rfl).1
  have zP := BP.1
  go_wp2_with fail
  refine hcon.mono ?_
  rintro e w4 ⟨rfl, hb4⟩
  replace bl := Below_after bl hb4
  go_wp2_with fail
  go_ret
  exact ⟨rfl, bl⟩
set_option maxHeartbeats 2000000 in
set_option maxRecDepth 100000 in
theorem talone_err (a : Option Addr) (c : Nat) (l : List Ac) (x : Ac) (h s : Int) (w : World) (hw : AcsAt w a l) (hm : l.length ≤ maxLen) (hx : AcOk w x) (hq : lacB l 80 = true) (hl : lacB [x] 1 = true) (hp : plOk h s) (hc : ¬ doC (growR l) x = 0) :
    Calls Try.prog 8 #[.slice a l.length c, .agg #[.string x.kd, .string x.sd, .int .i64 x.ph, .int .i64 x.ps, .int .i64 x.qh, .int .i64 x.qs, .int .i64 x.aa, .int .i64 x.bb, .int .i64 x.nn, .int .u64 x.kk, .slice x.xc x.lc x.cc], .agg #[.int .i64 h, .int .i64 s]] w fun e w' => e = .returned (.bool true) ∧ Below w.heap.size w w' := by
  have BA := Bx.new w [.string x.kd, .string x.sd, .int .i64 x.ph, .int .i64 x.ps, .int .i64 x.qh, .int .i64 x.qs, .int .i64 x.aa, .int .i64 x.bb, .int .i64 x.nn, .int .u64 x.kk, .slice x.xc x.lc x.cc] 66
  replace BA := BA.alloc (.cells #[.int .i64 h, .int .i64 s] 44)
  have BP := Bx.new (w.alloc (.cells #[.string x.kd, .string x.sd, .int .i64 x.ph, .int .i64 x.ps, .int .i64 x.qh, .int .i64 x.qs, .int .i64 x.aa, .int .i64 x.bb, .int .i64 x.nn, .int .u64 x.kk, .slice x.xc x.lc x.cc] 66)) [.int .i64 h, .int .i64 s] 44
  rw [sz_alloc] at BP
  have bl := ((Below.refl w.heap.size w).alloc (by first | exact Nat.le_refl _ | (simp <;> omega)) (.cells #[.string x.kd, .string x.sd, .int .i64 x.ph, .int .i64 x.ps, .int .i64 x.qh, .int .i64 x.qs, .int .i64 x.aa, .int .i64 x.bb, .int .i64 x.nn, .int .u64 x.kk, .slice x.xc x.lc x.cc] 66)).alloc (by first | exact Nat.le_refl _ | (simp <;> omega)) (.cells #[.int .i64 h, .int .i64 s] 44)
  have hlen := lac_len hq
  have hi := inv_grow l l.length (by omega)
  rw [List.take_length] at hi
  have hI : RmI (growR l) := ⟨hi.sz (by omega), hi.put, hi.wf⟩
  have hW := whole_grow l
  have hk : InvK 80 (growR l) := hi.mono (by omega)
  clear hi
  go_enter Try.func8, Try.ntmps8
  have hcon := made_any ((w.alloc (.cells #[.string x.kd, .string x.sd, .int .i64 x.ph, .int .i64 x.ps, .int .i64 x.qh, .int .i64 x.qs, .int .i64 x.aa, .int .i64 x.bb, .int .i64 x.nn, .int .u64 x.kk, .slice x.xc x.lc x.cc] 66)).alloc (.cells #[.int .i64 h, .int .i64 s] 44))
  go_wp2_with fail
  refine hcon.mono ?_
  rintro e w1 ⟨rfl, hb1⟩
  clear hcon
  replace BA := BA.below hb1
  replace BP := BP.below hb1
  replace bl := Below_after bl hb1
  have yA := BA.1
  have yP := BP.1
  have hg := grown_yes a c l w1 (hw.below bl) hm hq
  generalize growR l = g at hg hI hW hk hc
  clear hq hw hm hlen
  have hcon := hg
  clear hg
  go_wp2_with fail
  refine hcon.mono ?_
  rintro e w2 ⟨a0, a1, a2, a3, N0, N1, N2, N3, c0, c1, c2, c3, M, N, rfl, ⟨l0, l1, l2, l3, l4, l5⟩, hat, -, hb2⟩
  clear hcon
  clear yA yP
  replace BA := BA.below hb2
  replace BP := BP.below hb2
  replace bl := Below_after bl hb2
  have yA := BA.1
  have yP := BP.1
  replace BA := BA.alloc (.cells #[.slice a0 N0 c0, .slice a1 N1 c1, .slice a2 N2 c2, .slice a3 N3 c3, .int .i64 M, .int .i64 N] 29)
  replace BP := BP.alloc (.cells #[.slice a0 N0 c0, .slice a1 N1 c1, .slice a2 N2 c2, .slice a3 N3 c3, .int .i64 M, .int .i64 N] 29)
  replace hat := hat.below ((Below.refl _ _).alloc (Nat.le_refl _) (.cells #[.slice a0 N0 c0, .slice a1 N1 c1, .slice a2 N2 c2, .slice a3 N3 c3, .int .i64 M, .int .i64 N] 29))
  replace bl := bl.alloc bl.size (.cells #[.slice a0 N0 c0, .slice a1 N1 c1, .slice a2 N2 c2, .slice a3 N3 c3, .int .i64 M, .int .i64 N] 29)
  have BR := Bx.new w2 [.slice a0 N0 c0, .slice a1 N1 c1, .slice a2 N2 c2, .slice a3 N3 c3, .int .i64 M, .int .i64 N] 29
  have BS := Bx.new (w2.alloc (.cells #[.slice a0 N0 c0, .slice a1 N1 c1, .slice a2 N2 c2, .slice a3 N3 c3, .int .i64 M, .int .i64 N] 29)) [.string x.kd, .string x.sd, .int .i64 x.ph, .int .i64 x.ps, .int .i64 x.qh, .int .i64 x.qs, .int .i64 x.aa, .int .i64 x.bb, .int .i64 x.nn, .int .u64 x.kk, .slice x.xc x.lc x.cc] 66
  have hs2 : AcsAt ((w2.alloc (.cells #[.slice a0 N0 c0, .slice a1 N1 c1, .slice a2 N2 c2, .slice a3 N3 c3, .int .i64 M, .int .i64 N] 29)).alloc (.cells #[.string x.kd, .string x.sd, .int .i64 x.ph, .int .i64 x.ps, .int .i64 x.qh, .int .i64 x.qs, .int .i64 x.aa, .int .i64 x.bb, .int .i64 x.nn, .int .u64 x.kk, .slice x.xc x.lc x.cc] 66)) (some ⟨(w2.alloc (.cells #[.slice a0 N0 c0, .slice a1 N1 c1, .slice a2 N2 c2, .slice a3 N3 c3, .int .i64 M, .int .i64 N] 29)).heap.size, 0, none⟩) [x] := by
    refine .inr ⟨_, 0, rfl, BS.1, ?_⟩
    intro j y hy
    match j, hy with
    | 0, hy =>
      cases hy
      refine ⟨⟨(BS.2 0 _ rfl).1, (BS.2 1 _ rfl).1, (BS.2 2 _ rfl).1, (BS.2 3 _ rfl).1, (BS.2 4 _ rfl).1, (BS.2 5 _ rfl).1, (BS.2 6 _ rfl).1, (BS.2 7 _ rfl).1, (BS.2 8 _ rfl).1, (BS.2 9 _ rfl).1, (BS.2 10 _ rfl).1⟩, hx.1, hx.2.1, hx.2.2.1, ?_⟩
      exact (hx.2.2.2.below bl).below ((Below.refl _ _).alloc (Nat.le_refl _) _)
  have hlac := lac_any _ 1 [x] 1 _ hs2 (by simp [maxLen]) (by omega) (by omega)
  rw [sz_alloc] at hlac
  change Calls _ _ #[.slice (some ⟨w2.heap.size + 1, 0, none⟩) 1 1, .int .i64 1] _ _ at hlac
  clear hs2 BS
  have cA0 := (BA.2 0 _ rfl).1
  have cA1 := (BA.2 1 _ rfl).1
  have cA2 := (BA.2 2 _ rfl).1
  have cA3 := (BA.2 3 _ rfl).1
  have cA4 := (BA.2 4 _ rfl).1
  have cA5 := (BA.2 5 _ rfl).1
  have cA6 := (BA.2 6 _ rfl).1
  have cA7 := (BA.2 7 _ rfl).1
  have cA8 := (BA.2 8 _ rfl).1
  have cA9 := (BA.2 9 _ rfl).1
  have cA10 := (BA.2 10 _ rfl).1
  have zA := BA.1
  rw [hl] at hlac
  go_wp2_with fail
  refine hlac.mono ?_
  rintro e w' ⟨rfl, hw'⟩
  rw [hw']
  clear hw' w' hlac hl
  clear cA0 cA1 cA2 cA3 cA4 cA5 cA6 cA7 cA8 cA9 cA10 zA
  replace BA := BA.alloc (.cells #[.string x.kd, .string x.sd, .int .i64 x.ph, .int .i64 x.ps, .int .i64 x.qh, .int .i64 x.qs, .int .i64 x.aa, .int .i64 x.bb, .int .i64 x.nn, .int .u64 x.kk, .slice x.xc x.lc x.cc] 66)
  replace BP := BP.alloc (.cells #[.string x.kd, .string x.sd, .int .i64 x.ph, .int .i64 x.ps, .int .i64 x.qh, .int .i64 x.qs, .int .i64 x.aa, .int .i64 x.bb, .int .i64 x.nn, .int .u64 x.kk, .slice x.xc x.lc x.cc] 66)
  replace BR := BR.alloc (.cells #[.string x.kd, .string x.sd, .int .i64 x.ph, .int .i64 x.ps, .int .i64 x.qh, .int .i64 x.qs, .int .i64 x.aa, .int .i64 x.bb, .int .i64 x.nn, .int .u64 x.kk, .slice x.xc x.lc x.cc] 66)
  replace hat := hat.below ((Below.refl _ _).alloc (Nat.le_refl _) (.cells #[.string x.kd, .string x.sd, .int .i64 x.ph, .int .i64 x.ps, .int .i64 x.qh, .int .i64 x.qs, .int .i64 x.aa, .int .i64 x.bb, .int .i64 x.nn, .int .u64 x.kk, .slice x.xc x.lc x.cc] 66))
  replace bl := bl.alloc bl.size (.cells #[.string x.kd, .string x.sd, .int .i64 x.ph, .int .i64 x.ps, .int .i64 x.qh, .int .i64 x.qs, .int .i64 x.aa, .int .i64 x.bb, .int .i64 x.nn, .int .u64 x.kk, .slice x.xc x.lc x.cc] 66)
  generalize ((w2.alloc (.cells #[.slice a0 N0 c0, .slice a1 N1 c1, .slice a2 N2 c2, .slice a3 N3 c3, .int .i64 M, .int .i64 N] 29)).alloc (.cells #[.string x.kd, .string x.sd, .int .i64 x.ph, .int .i64 x.ps, .int .i64 x.qh, .int .i64 x.qs, .int .i64 x.aa, .int .i64 x.bb, .int .i64 x.nn, .int .u64 x.kk, .slice x.xc x.lc x.cc] 66)) = w3 at BA BP BR hat bl ⊢
  generalize w2.heap.size = rb at BR ⊢
  have hcon := scheck_ok h s w3 hp
  have cP0 := (BP.2 0 _ rfl).1
  have cP1 := (BP.2 1 _ rfl).1
  have zP := BP.1
  go_wp2_with fail
  refine hcon.mono ?_
  rintro e w4 ⟨rfl, hb4⟩
  clear cP0 cP1 zP hcon
  clear yA yP
  replace BA := BA.below hb4
  replace BP := BP.below hb4
  replace BR := BR.below hb4
  replace hat := hat.below hb4
  replace bl := Below_after bl hb4
  have yA := BA.1
  have yP := BP.1
  have yR := BR.1
  have hcon := do_any a0 a1 a2 a3 c0 c1 c2 c3 g x _ hat hI hx.1
  rw [l0, l1, l2, l3, l4, l5] at hcon
  have cA0 := (BA.2 0 _ rfl).1
  have cA1 := (BA.2 1 _ rfl).1
  have cA2 := (BA.2 2 _ rfl).1
  have cA3 := (BA.2 3 _ rfl).1
  have cA4 := (BA.2 4 _ rfl).1
  have cA5 := (BA.2 5 _ rfl).1
  have cA6 := (BA.2 6 _ rfl).1
  have cA7 := (BA.2 7 _ rfl).1
  have cA8 := (BA.2 8 _ rfl).1
  have cA9 := (BA.2 9 _ rfl).1
  have cA10 := (BA.2 10 _ rfl).1
  have zA := BA.1
  have cR0 := (BR.2 0 _ rfl).1
  have cR1 := (BR.2 1 _ rfl).1
  have cR2 := (BR.2 2 _ rfl).1
  have cR3 := (BR.2 3 _ rfl).1
  have cR4 := (BR.2 4 _ rfl).1
  have cR5 := (BR.2 5 _ rfl).1
  have zR := BR.1
  go_wp2_with fail
  refine hcon.mono ?_
  rintro e w5 ⟨e0, e1, e2, e3, n0, n1, n2, n3, f0, f1, f2, f3, m, n, ev, rfl, hD, hb5⟩
  clear cA0 cA1 cA2 cA3 cA4 cA5 cA6 cA7 cA8 cA9 cA10 zA cR0 cR1 cR2 cR3 cR4 cR5 zR hcon
  clear yA yP yR
  replace BA := BA.below hb5
  replace BP := BP.below hb5
  replace BR := BR.below hb5
  replace hat := hat.below hb5
  replace bl := Below_after bl hb5
  have yA := BA.1
  have yP := BP.1
  have yR := BR.1
  obtain ⟨rfl, rfl, rfl, rfl, rfl, rfl, rfl, rfl, rfl, rfl, rfl, rfl, rfl, rfl, rfl⟩ : ev = .iface 74 (.int .i64 (doC g x)) ∧ e0 = none ∧ e1 = none ∧ e2 = none ∧ e3 = none ∧ n0 = 0 ∧ n1 = 0 ∧ n2 = 0 ∧ n3 = 0 ∧ f0 = 0 ∧ f1 = 0 ∧ f2 = 0 ∧ f3 = 0 ∧ m = 0 ∧ n = 0 := by
    rcases hD with (⟨h, -⟩ | ⟨-, h⟩) | ⟨h, -⟩
    · exact absurd h hc
    · exact h
    · exact absurd h hc
  replace BA := BA.alloc (.cells #[.slice none 0 0, .slice none 0 0, .slice none 0 0, .slice none 0 0, .int .i64 0, .int .i64 0] 29)
  replace BP := BP.alloc (.cells #[.slice none 0 0, .slice none 0 0, .slice none 0 0, .slice none 0 0, .int .i64 0, .int .i64 0] 29)
  replace BR := BR.alloc (.cells #[.slice none 0 0, .slice none 0 0, .slice none 0 0, .slice none 0 0, .int .i64 0, .int .i64 0] 29)
  replace hat := hat.below ((Below.refl _ _).alloc (Nat.le_refl _) (.cells #[.slice none 0 0, .slice none 0 0, .slice none 0 0, .slice none 0 0, .int .i64 0, .int .i64 0] 29))
  replace bl := bl.alloc bl.size (.cells #[.slice none 0 0, .slice none 0 0, .slice none 0 0, .slice none 0 0, .int .i64 0, .int .i64 0] 29)
  have BY := Bx.new w5 [.slice none 0 0, .slice none 0 0, .slice none 0 0, .slice none 0 0, .int .i64 0, .int .i64 0] 29
  go_wp2_with fail
  generalize (w5.alloc (.cells #[.slice none 0 0, .slice none 0 0, .slice none 0 0, .slice none 0 0, .int .i64 0, .int .i64 0] 29)) = vv at *
  have mk : ∀ w' : World, Below vv.heap.size vv w' → Below vv.heap.size vv w' := fun w' h => h
  have hB0 : Below vv.heap.size vv vv.drew := below_drewN (Below.refl _ _) 1
  refine wp_region_held_drew (S := fun w' => Below vv.heap.size vv w') (by kernel_rfl) ?_ (fun hHeld => ?_)
  · exact mk _ hB0
  refine wpAnyH_take (i := 0) (oi := ({ dst := some 38, op := Op.move (Operand.tmp 10), type := 33, pos := "parts.go:375", after := #[], guard := none } : Oper)) (v := .iface 74 (.int .i64 (doC g x))) rfl (by kernel_rfl) (by kernel_rfl) (by kernel_rfl) (fun _ _ _ h => h) (Or.inl ⟨by rfl, ?_⟩) (by assumption) ?_
  · intro w hSw; (try dsimp only at hSw); go_simp
  (try simp only [Act.put, List.setIfInBounds_toArray, List.set_cons_zero, List.set_cons_succ])
  refine wpAnyH_take (i := 1) (oi := ({ dst := some 39, op := Op.binOp BinOp.neq 33 (Operand.tmp 38) (Operand.const Value.nilIface) 33, type := 4, pos := "parts.go:375", after := #[{ on := 0, ground := Ground.data }], guard := none } : Oper)) (v := .bool true) rfl (by kernel_rfl) (by kernel_rfl) (by kernel_rfl) (fun _ _ _ h => h) (Or.inl ⟨by rfl, ?_⟩) (by assumption) ?_
  · intro w hSw; (try dsimp only at hSw); go_simp
  (try simp only [Act.put, List.setIfInBounds_toArray, List.set_cons_zero, List.set_cons_succ])
  refine wpAnyH_take (i := 2) (oi := ({ dst := some 40, op := Op.move (Operand.tmp 39), type := 4, pos := "parts.go:375", after := #[{ on := 1, ground := Ground.data }], guard := none } : Oper)) (v := .bool true) rfl (by kernel_rfl) (by kernel_rfl) (by kernel_rfl) (fun _ _ _ h => h) (Or.inl ⟨by rfl, ?_⟩) (by assumption) ?_
  · intro w hSw; (try dsimp only at hSw); go_simp
  (try simp only [Act.put, List.setIfInBounds_toArray, List.set_cons_zero, List.set_cons_succ])
  refine wpAnyH_take (i := 3) (oi := ({ dst := some 41, op := Op.fieldAddr 29 (Operand.tmp 9) 2, type := 0, pos := "parts.go:375", after := #[{ on := 2, ground := Ground.guard }], guard := some (2, false) } : Oper)) (v := undef) rfl (by kernel_rfl) (by kernel_rfl) (by kernel_rfl) (fun _ _ _ h => h) (Or.inr ⟨by rfl, rfl⟩) (by assumption) ?_
  (try simp only [Act.put, List.setIfInBounds_toArray, List.set_cons_zero, List.set_cons_succ])
  refine wpAnyH_take (i := 4) (oi := ({ dst := some 42, op := Op.load 26 (Operand.tmp 41), type := 26, pos := "parts.go:375", after := #[{ on := 3, ground := Ground.data }, { on := 2, ground := Ground.guard }], guard := some (2, false) } : Oper)) (v := undef) rfl (by kernel_rfl) (by kernel_rfl) (by kernel_rfl) (fun _ _ _ h => h) (Or.inr ⟨by rfl, rfl⟩) (by assumption) ?_
  (try simp only [Act.put, List.setIfInBounds_toArray, List.set_cons_zero, List.set_cons_succ])
  refine wpAnyH_take (i := 5) (oi := ({ dst := some 43, op := Op.load 44 (Operand.tmp 5), type := 44, pos := "parts.go:375", after := #[{ on := 2, ground := Ground.guard }], guard := some (2, false) } : Oper)) (v := undef) rfl (by kernel_rfl) (by kernel_rfl) (by kernel_rfl) (fun _ _ _ h => h) (Or.inr ⟨by rfl, rfl⟩) (by assumption) ?_
  (try simp only [Act.put, List.setIfInBounds_toArray, List.set_cons_zero, List.set_cons_succ])
  refine wpAnyH_take (i := 6) (oi := ({ dst := some 44, op := Op.call { callee := Callee.value (Operand.func 24), args := #[Operand.tmp 42, Operand.tmp 43], argTypes := #[26, 44] }, type := 3, pos := "parts.go:375", after := #[{ on := 4, ground := Ground.data }, { on := 5, ground := Ground.data }, { on := 2, ground := Ground.chain }, { on := 2, ground := Ground.guard }], guard := some (2, false) } : Oper)) (v := undef) rfl (by kernel_rfl) (by kernel_rfl) (by kernel_rfl) (fun _ _ _ h => h) (Or.inr ⟨by rfl, rfl⟩) (by assumption) ?_
  (try simp only [Act.put, List.setIfInBounds_toArray, List.set_cons_zero, List.set_cons_succ])
  refine wpAnyH_take (i := 7) (oi := ({ dst := some 45, op := Op.fieldAddr 29 (Operand.tmp 8) 2, type := 0, pos := "parts.go:375", after := #[{ on := 2, ground := Ground.guard }], guard := some (2, false) } : Oper)) (v := undef) rfl (by kernel_rfl) (by kernel_rfl) (by kernel_rfl) (fun _ _ _ h => h) (Or.inr ⟨by rfl, rfl⟩) (by assumption) ?_
  (try simp only [Act.put, List.setIfInBounds_toArray, List.set_cons_zero, List.set_cons_succ])
  refine wpAnyH_take (i := 8) (oi := ({ dst := some 46, op := Op.load 26 (Operand.tmp 45), type := 26, pos := "parts.go:375", after := #[{ on := 7, ground := Ground.data }, { on := 2, ground := Ground.guard }], guard := some (2, false) } : Oper)) (v := undef) rfl (by kernel_rfl) (by kernel_rfl) (by kernel_rfl) (fun _ _ _ h => h) (Or.inr ⟨by rfl, rfl⟩) (by assumption) ?_
  (try simp only [Act.put, List.setIfInBounds_toArray, List.set_cons_zero, List.set_cons_succ])
  refine wpAnyH_take (i := 9) (oi := ({ dst := some 47, op := Op.load 44 (Operand.tmp 5), type := 44, pos := "parts.go:375", after := #[{ on := 2, ground := Ground.guard }], guard := some (2, false) } : Oper)) (v := undef) rfl (by kernel_rfl) (by kernel_rfl) (by kernel_rfl) (fun _ _ _ h => h) (Or.inr ⟨by rfl, rfl⟩) (by assumption) ?_
  (try simp only [Act.put, List.setIfInBounds_toArray, List.set_cons_zero, List.set_cons_succ])
  refine wpAnyH_take (i := 10) (oi := ({ dst := some 48, op := Op.call { callee := Callee.value (Operand.func 24), args := #[Operand.tmp 46, Operand.tmp 47], argTypes := #[26, 44] }, type := 3, pos := "parts.go:375", after := #[{ on := 8, ground := Ground.data }, { on := 9, ground := Ground.data }, { on := 6, ground := Ground.chain }, { on := 2, ground := Ground.guard }], guard := some (2, false) } : Oper)) (v := undef) rfl (by kernel_rfl) (by kernel_rfl) (by kernel_rfl) (fun _ _ _ h => h) (Or.inr ⟨by rfl, rfl⟩) (by assumption) ?_
  (try simp only [Act.put, List.setIfInBounds_toArray, List.set_cons_zero, List.set_cons_succ])
  refine wpAnyH_take (i := 11) (oi := ({ dst := some 49, op := Op.binOp BinOp.eql 3 (Operand.tmp 44) (Operand.tmp 48) 3, type := 4, pos := "parts.go:375", after := #[{ on := 6, ground := Ground.data }, { on := 10, ground := Ground.data }, { on := 2, ground := Ground.guard }], guard := some (2, false) } : Oper)) (v := undef) rfl (by kernel_rfl) (by kernel_rfl) (by kernel_rfl) (fun _ _ _ h => h) (Or.inr ⟨by rfl, rfl⟩) (by assumption) ?_
  (try simp only [Act.put, List.setIfInBounds_toArray, List.set_cons_zero, List.set_cons_succ])
  refine wpAnyH_take (i := 12) (oi := ({ dst := some 50, op := Op.pick (Operand.tmp 40) (Operand.const (Value.bool true)) (Operand.tmp 49), type := 4, pos := "parts.go:375", after := #[{ on := 2, ground := Ground.data }, { on := 11, ground := Ground.data }], guard := none } : Oper)) (v := .bool true) rfl (by kernel_rfl) (by kernel_rfl) (by kernel_rfl) (fun _ _ _ h => h) (Or.inl ⟨by rfl, ?_⟩) (by assumption) ?_
  · intro w hSw; (try dsimp only at hSw); go_simp
  (try simp only [Act.put, List.setIfInBounds_toArray, List.set_cons_zero, List.set_cons_succ])
  refine wpAnyH_done (by kernel_rfl) ?_ _
  replace bl := below_drewN bl 1
  go_wp2_with fail
  go_ret
  exact ⟨rfl, bl⟩
set_option maxHeartbeats 2000000 in
set_option maxRecDepth 100000 in
theorem talone_ok (a : Option Addr) (c : Nat) (l : List Ac) (x : Ac) (h s : Int) (w : World) (hw : AcsAt w a l) (hm : l.length ≤ maxLen) (hx : AcOk w x) (hq : lacB l 80 = true) (hl : lacB [x] 1 = true) (hp : plOk h s) (hc : doC (growR l) x = 0) :
    Calls Try.prog 8 #[.slice a l.length c, .agg #[.string x.kd, .string x.sd, .int .i64 x.ph, .int .i64 x.ps, .int .i64 x.qh, .int .i64 x.qs, .int .i64 x.aa, .int .i64 x.bb, .int .i64 x.nn, .int .u64 x.kk, .slice x.xc x.lc x.cc], .agg #[.int .i64 h, .int .i64 s]] w fun e w' => e = .returned (.bool true) ∧ Below w.heap.size w w' := by
  have BA := Bx.new w [.string x.kd, .string x.sd, .int .i64 x.ph, .int .i64 x.ps, .int .i64 x.qh, .int .i64 x.qs, .int .i64 x.aa, .int .i64 x.bb, .int .i64 x.nn, .int .u64 x.kk, .slice x.xc x.lc x.cc] 66
  replace BA := BA.alloc (.cells #[.int .i64 h, .int .i64 s] 44)
  have BP := Bx.new (w.alloc (.cells #[.string x.kd, .string x.sd, .int .i64 x.ph, .int .i64 x.ps, .int .i64 x.qh, .int .i64 x.qs, .int .i64 x.aa, .int .i64 x.bb, .int .i64 x.nn, .int .u64 x.kk, .slice x.xc x.lc x.cc] 66)) [.int .i64 h, .int .i64 s] 44
  rw [sz_alloc] at BP
  have bl := ((Below.refl w.heap.size w).alloc (by first | exact Nat.le_refl _ | (simp <;> omega)) (.cells #[.string x.kd, .string x.sd, .int .i64 x.ph, .int .i64 x.ps, .int .i64 x.qh, .int .i64 x.qs, .int .i64 x.aa, .int .i64 x.bb, .int .i64 x.nn, .int .u64 x.kk, .slice x.xc x.lc x.cc] 66)).alloc (by first | exact Nat.le_refl _ | (simp <;> omega)) (.cells #[.int .i64 h, .int .i64 s] 44)
  have hlen := lac_len hq
  have hi := inv_grow l l.length (by omega)
  rw [List.take_length] at hi
  have hI : RmI (growR l) := ⟨hi.sz (by omega), hi.put, hi.wf⟩
  have hW := whole_grow l
  have hk : InvK 80 (growR l) := hi.mono (by omega)
  clear hi
  go_enter Try.func8, Try.ntmps8
  have hcon := made_any ((w.alloc (.cells #[.string x.kd, .string x.sd, .int .i64 x.ph, .int .i64 x.ps, .int .i64 x.qh, .int .i64 x.qs, .int .i64 x.aa, .int .i64 x.bb, .int .i64 x.nn, .int .u64 x.kk, .slice x.xc x.lc x.cc] 66)).alloc (.cells #[.int .i64 h, .int .i64 s] 44))
  go_wp2_with fail
  refine hcon.mono ?_
  rintro e w1 ⟨rfl, hb1⟩
  clear hcon
  replace BA := BA.below hb1
  replace BP := BP.below hb1
  replace bl := Below_after bl hb1
  have yA := BA.1
  have yP := BP.1
  have hg := grown_yes a c l w1 (hw.below bl) hm hq
  generalize growR l = g at hg hI hW hk hc
  clear hq hw hm hlen
  have hcon := hg
  clear hg
  go_wp2_with fail
  refine hcon.mono ?_
  rintro e w2 ⟨a0, a1, a2, a3, N0, N1, N2, N3, c0, c1, c2, c3, M, N, rfl, ⟨l0, l1, l2, l3, l4, l5⟩, hat, -, hb2⟩
  clear hcon
  clear yA yP
  replace BA := BA.below hb2
  replace BP := BP.below hb2
  replace bl := Below_after bl hb2
  have yA := BA.1
  have yP := BP.1
  replace BA := BA.alloc (.cells #[.slice a0 N0 c0, .slice a1 N1 c1, .slice a2 N2 c2, .slice a3 N3 c3, .int .i64 M, .int .i64 N] 29)
  replace BP := BP.alloc (.cells #[.slice a0 N0 c0, .slice a1 N1 c1, .slice a2 N2 c2, .slice a3 N3 c3, .int .i64 M, .int .i64 N] 29)
  replace hat := hat.below ((Below.refl _ _).alloc (Nat.le_refl _) (.cells #[.slice a0 N0 c0, .slice a1 N1 c1, .slice a2 N2 c2, .slice a3 N3 c3, .int .i64 M, .int .i64 N] 29))
  replace bl := bl.alloc bl.size (.cells #[.slice a0 N0 c0, .slice a1 N1 c1, .slice a2 N2 c2, .slice a3 N3 c3, .int .i64 M, .int .i64 N] 29)
  have BR := Bx.new w2 [.slice a0 N0 c0, .slice a1 N1 c1, .slice a2 N2 c2, .slice a3 N3 c3, .int .i64 M, .int .i64 N] 29
  have BS := Bx.new (w2.alloc (.cells #[.slice a0 N0 c0, .slice a1 N1 c1, .slice a2 N2 c2, .slice a3 N3 c3, .int .i64 M, .int .i64 N] 29)) [.string x.kd, .string x.sd, .int .i64 x.ph, .int .i64 x.ps, .int .i64 x.qh, .int .i64 x.qs, .int .i64 x.aa, .int .i64 x.bb, .int .i64 x.nn, .int .u64 x.kk, .slice x.xc x.lc x.cc] 66
  have hs2 : AcsAt ((w2.alloc (.cells #[.slice a0 N0 c0, .slice a1 N1 c1, .slice a2 N2 c2, .slice a3 N3 c3, .int .i64 M, .int .i64 N] 29)).alloc (.cells #[.string x.kd, .string x.sd, .int .i64 x.ph, .int .i64 x.ps, .int .i64 x.qh, .int .i64 x.qs, .int .i64 x.aa, .int .i64 x.bb, .int .i64 x.nn, .int .u64 x.kk, .slice x.xc x.lc x.cc] 66)) (some ⟨(w2.alloc (.cells #[.slice a0 N0 c0, .slice a1 N1 c1, .slice a2 N2 c2, .slice a3 N3 c3, .int .i64 M, .int .i64 N] 29)).heap.size, 0, none⟩) [x] := by
    refine .inr ⟨_, 0, rfl, BS.1, ?_⟩
    intro j y hy
    match j, hy with
    | 0, hy =>
      cases hy
      refine ⟨⟨(BS.2 0 _ rfl).1, (BS.2 1 _ rfl).1, (BS.2 2 _ rfl).1, (BS.2 3 _ rfl).1, (BS.2 4 _ rfl).1, (BS.2 5 _ rfl).1, (BS.2 6 _ rfl).1, (BS.2 7 _ rfl).1, (BS.2 8 _ rfl).1, (BS.2 9 _ rfl).1, (BS.2 10 _ rfl).1⟩, hx.1, hx.2.1, hx.2.2.1, ?_⟩
      exact (hx.2.2.2.below bl).below ((Below.refl _ _).alloc (Nat.le_refl _) _)
  have hlac := lac_any _ 1 [x] 1 _ hs2 (by simp [maxLen]) (by omega) (by omega)
  rw [sz_alloc] at hlac
  change Calls _ _ #[.slice (some ⟨w2.heap.size + 1, 0, none⟩) 1 1, .int .i64 1] _ _ at hlac
  clear hs2 BS
  have cA0 := (BA.2 0 _ rfl).1
  have cA1 := (BA.2 1 _ rfl).1
  have cA2 := (BA.2 2 _ rfl).1
  have cA3 := (BA.2 3 _ rfl).1
  have cA4 := (BA.2 4 _ rfl).1
  have cA5 := (BA.2 5 _ rfl).1
  have cA6 := (BA.2 6 _ rfl).1
  have cA7 := (BA.2 7 _ rfl).1
  have cA8 := (BA.2 8 _ rfl).1
  have cA9 := (BA.2 9 _ rfl).1
  have cA10 := (BA.2 10 _ rfl).1
  have zA := BA.1
  rw [hl] at hlac
  go_wp2_with fail
  refine hlac.mono ?_
  rintro e w' ⟨rfl, hw'⟩
  rw [hw']
  clear hw' w' hlac hl
  clear cA0 cA1 cA2 cA3 cA4 cA5 cA6 cA7 cA8 cA9 cA10 zA
  replace BA := BA.alloc (.cells #[.string x.kd, .string x.sd, .int .i64 x.ph, .int .i64 x.ps, .int .i64 x.qh, .int .i64 x.qs, .int .i64 x.aa, .int .i64 x.bb, .int .i64 x.nn, .int .u64 x.kk, .slice x.xc x.lc x.cc] 66)
  replace BP := BP.alloc (.cells #[.string x.kd, .string x.sd, .int .i64 x.ph, .int .i64 x.ps, .int .i64 x.qh, .int .i64 x.qs, .int .i64 x.aa, .int .i64 x.bb, .int .i64 x.nn, .int .u64 x.kk, .slice x.xc x.lc x.cc] 66)
  replace BR := BR.alloc (.cells #[.string x.kd, .string x.sd, .int .i64 x.ph, .int .i64 x.ps, .int .i64 x.qh, .int .i64 x.qs, .int .i64 x.aa, .int .i64 x.bb, .int .i64 x.nn, .int .u64 x.kk, .slice x.xc x.lc x.cc] 66)
  replace hat := hat.below ((Below.refl _ _).alloc (Nat.le_refl _) (.cells #[.string x.kd, .string x.sd, .int .i64 x.ph, .int .i64 x.ps, .int .i64 x.qh, .int .i64 x.qs, .int .i64 x.aa, .int .i64 x.bb, .int .i64 x.nn, .int .u64 x.kk, .slice x.xc x.lc x.cc] 66))
  replace bl := bl.alloc bl.size (.cells #[.string x.kd, .string x.sd, .int .i64 x.ph, .int .i64 x.ps, .int .i64 x.qh, .int .i64 x.qs, .int .i64 x.aa, .int .i64 x.bb, .int .i64 x.nn, .int .u64 x.kk, .slice x.xc x.lc x.cc] 66)
  generalize ((w2.alloc (.cells #[.slice a0 N0 c0, .slice a1 N1 c1, .slice a2 N2 c2, .slice a3 N3 c3, .int .i64 M, .int .i64 N] 29)).alloc (.cells #[.string x.kd, .string x.sd, .int .i64 x.ph, .int .i64 x.ps, .int .i64 x.qh, .int .i64 x.qs, .int .i64 x.aa, .int .i64 x.bb, .int .i64 x.nn, .int .u64 x.kk, .slice x.xc x.lc x.cc] 66)) = w3 at BA BP BR hat bl ⊢
  generalize w2.heap.size = rb at BR ⊢
  have hcon := scheck_ok h s w3 hp
  have cP0 := (BP.2 0 _ rfl).1
  have cP1 := (BP.2 1 _ rfl).1
  have zP := BP.1
  go_wp2_with fail
  refine hcon.mono ?_
  rintro e w4 ⟨rfl, hb4⟩
  clear cP0 cP1 zP hcon
  clear yA yP
  replace BA := BA.below hb4
  replace BP := BP.below hb4
  replace BR := BR.below hb4
  replace hat := hat.below hb4
  replace bl := Below_after bl hb4
  have yA := BA.1
  have yP := BP.1
  have yR := BR.1
  have hcon := do_any a0 a1 a2 a3 c0 c1 c2 c3 g x _ hat hI hx.1
  rw [l0, l1, l2, l3, l4, l5] at hcon
  have cA0 := (BA.2 0 _ rfl).1
  have cA1 := (BA.2 1 _ rfl).1
  have cA2 := (BA.2 2 _ rfl).1
  have cA3 := (BA.2 3 _ rfl).1
  have cA4 := (BA.2 4 _ rfl).1
  have cA5 := (BA.2 5 _ rfl).1
  have cA6 := (BA.2 6 _ rfl).1
  have cA7 := (BA.2 7 _ rfl).1
  have cA8 := (BA.2 8 _ rfl).1
  have cA9 := (BA.2 9 _ rfl).1
  have cA10 := (BA.2 10 _ rfl).1
  have zA := BA.1
  have cR0 := (BR.2 0 _ rfl).1
  have cR1 := (BR.2 1 _ rfl).1
  have cR2 := (BR.2 2 _ rfl).1
  have cR3 := (BR.2 3 _ rfl).1
  have cR4 := (BR.2 4 _ rfl).1
  have cR5 := (BR.2 5 _ rfl).1
  have zR := BR.1
  go_wp2_with fail
  refine hcon.mono ?_
  rintro e w5 ⟨e0, e1, e2, e3, n0, n1, n2, n3, f0, f1, f2, f3, m, n, ev, rfl, hD, hb5⟩
  clear cA0 cA1 cA2 cA3 cA4 cA5 cA6 cA7 cA8 cA9 cA10 zA cR0 cR1 cR2 cR3 cR4 cR5 zR hcon
  clear yA yP yR
  replace BA := BA.below hb5
  replace BP := BP.below hb5
  replace BR := BR.below hb5
  replace hat := hat.below hb5
  replace bl := Below_after bl hb5
  have yA := BA.1
  have yP := BP.1
  have yR := BR.1
  obtain ⟨rfl, hn2, hat2⟩ : ev = .nilIface ∧ n2 = (doR g x).hs.length ∧ RmAt w5 e0 e1 e2 e3 f0 f1 f2 f3 (doR g x) := by
    rcases hD with (⟨-, h1, -, -, h2, -, -, -, h3, -⟩ | ⟨h, -⟩) | ⟨-, hr, rfl, rfl, rfl, rfl, rfl, -, -, h2, -, rfl, rfl, rfl, rfl, -, -, h3⟩
    · exact ⟨h1, h2, h3⟩
    · exact absurd hc h
    · rw [hr]; exact ⟨rfl, h2, h3⟩
  subst hn2
  clear hD
  have hks := (inv_do hk hc).sz (by omega)
  have hT := fun hne => top_alone (g := h) (t := s) hW hc hne
  generalize doR g x = d at *
  replace BA := BA.alloc (.cells #[.slice e0 n0 f0, .slice e1 n1 f1, .slice e2 d.hs.length f2, .slice e3 n3 f3, .int .i64 m, .int .i64 n] 29)
  replace BP := BP.alloc (.cells #[.slice e0 n0 f0, .slice e1 n1 f1, .slice e2 d.hs.length f2, .slice e3 n3 f3, .int .i64 m, .int .i64 n] 29)
  replace BR := BR.alloc (.cells #[.slice e0 n0 f0, .slice e1 n1 f1, .slice e2 d.hs.length f2, .slice e3 n3 f3, .int .i64 m, .int .i64 n] 29)
  replace hat := hat.below ((Below.refl _ _).alloc (Nat.le_refl _) (.cells #[.slice e0 n0 f0, .slice e1 n1 f1, .slice e2 d.hs.length f2, .slice e3 n3 f3, .int .i64 m, .int .i64 n] 29))
  replace hat2 := hat2.below ((Below.refl _ _).alloc (Nat.le_refl _) (.cells #[.slice e0 n0 f0, .slice e1 n1 f1, .slice e2 d.hs.length f2, .slice e3 n3 f3, .int .i64 m, .int .i64 n] 29))
  replace bl := bl.alloc bl.size (.cells #[.slice e0 n0 f0, .slice e1 n1 f1, .slice e2 d.hs.length f2, .slice e3 n3 f3, .int .i64 m, .int .i64 n] 29)
  have BY := Bx.new w5 [.slice e0 n0 f0, .slice e1 n1 f1, .slice e2 d.hs.length f2, .slice e3 n3 f3, .int .i64 m, .int .i64 n] 29
  have hz2 := hks.h
  have hz0 := hI.sz.h
  have cR0 := (BR.2 0 _ rfl).1
  have cR1 := (BR.2 1 _ rfl).1
  have cR2 := (BR.2 2 _ rfl).1
  have cR3 := (BR.2 3 _ rfl).1
  have cR4 := (BR.2 4 _ rfl).1
  have cR5 := (BR.2 5 _ rfl).1
  have zR := BR.1
  have cY0 := (BY.2 0 _ rfl).1
  have cY1 := (BY.2 1 _ rfl).1
  have cY2 := (BY.2 2 _ rfl).1
  have cY3 := (BY.2 3 _ rfl).1
  have cY4 := (BY.2 4 _ rfl).1
  have cY5 := (BY.2 5 _ rfl).1
  have zY := BY.1
  have cP0 := (BP.2 0 _ rfl).1
  have cP1 := (BP.2 1 _ rfl).1
  have zP := BP.1
  have cA0 := (BA.2 0 _ rfl).1
  have cA1 := (BA.2 1 _ rfl).1
  have cA2 := (BA.2 2 _ rfl).1
  have cA3 := (BA.2 3 _ rfl).1
  have cA4 := (BA.2 4 _ rfl).1
  have cA5 := (BA.2 5 _ rfl).1
  have cA6 := (BA.2 6 _ rfl).1
  have cA7 := (BA.2 7 _ rfl).1
  have cA8 := (BA.2 8 _ rfl).1
  have cA9 := (BA.2 9 _ rfl).1
  have cA10 := (BA.2 10 _ rfl).1
  have zA := BA.1
  go_wp2_with fail
  generalize (w5.alloc (.cells #[.slice e0 n0 f0, .slice e1 n1 f1, .slice e2 d.hs.length f2, .slice e3 n3 f3, .int .i64 m, .int .i64 n] 29)) = vv at *
  have ha1 := fun (W : World) (h' : Below vv.heap.size vv W) => at_any e2 f2 d.hs h s W (hat2.h.below h') (by simp [maxLen]; omega)
  have ha0 := fun (W : World) (h' : Below vv.heap.size vv W) => at_any a2 c2 g.hs h s W (hat.h.below h') (by simp [maxLen]; omega)
  rw [l2] at ha0
  generalize atP d.hs h s = nv at *
  generalize atP g.hs h s = ov at *
  by_cases hnv : nv = ov
  · have hd : (nv == ov) = true := by simp [hnv]
    clear hnv hT
    have mk : ∀ w' : World, Below vv.heap.size vv w' → Below vv.heap.size vv w' ∧ w'.cell? ⟨w5.heap.size, 2, none⟩ = some (.slice e2 d.hs.length f2) ∧ w'.cell? ⟨rb, 2, none⟩ = some (.slice a2 N2 c2) ∧ w'.cell? ⟨w.heap.size + 1, 0, none⟩ = some (.int .i64 h) ∧ w'.cell? ⟨w.heap.size + 1, 1, none⟩ = some (.int .i64 s) := fun w' h => ⟨h, by rw [(bcell h).1 _ _ zY]; exact cY2, by rw [(bcell h).1 _ _ zR]; exact cR2, by rw [(bcell h).1 _ _ zP]; exact cP0, by rw [(bcell h).1 _ _ zP]; exact cP1⟩
    have hB0 : Below vv.heap.size vv vv.drew := below_drewN (Below.refl _ _) 1
    refine wp_region_held_drew (S := fun w' => Below vv.heap.size vv w' ∧ w'.cell? ⟨w5.heap.size, 2, none⟩ = some (.slice e2 d.hs.length f2) ∧ w'.cell? ⟨rb, 2, none⟩ = some (.slice a2 N2 c2) ∧ w'.cell? ⟨w.heap.size + 1, 0, none⟩ = some (.int .i64 h) ∧ w'.cell? ⟨w.heap.size + 1, 1, none⟩ = some (.int .i64 s)) (by kernel_rfl) ?_ (fun hHeld => ?_)
    · exact mk _ hB0
    refine wpAnyH_take (i := 0) (oi := ({ dst := some 38, op := Op.move (Operand.tmp 10), type := 33, pos := "parts.go:375", after := #[], guard := none } : Oper)) (v := .nilIface) rfl (by kernel_rfl) (by kernel_rfl) (by kernel_rfl) (fun _ _ _ h => h) (Or.inl ⟨by rfl, ?_⟩) (by assumption) ?_
    · intro w hSw; (try dsimp only at hSw); go_simp
    (try simp only [Act.put, List.setIfInBounds_toArray, List.set_cons_zero, List.set_cons_succ])
    refine wpAnyH_take (i := 1) (oi := ({ dst := some 39, op := Op.binOp BinOp.neq 33 (Operand.tmp 38) (Operand.const Value.nilIface) 33, type := 4, pos := "parts.go:375", after := #[{ on := 0, ground := Ground.data }], guard := none } : Oper)) (v := .bool false) rfl (by kernel_rfl) (by kernel_rfl) (by kernel_rfl) (fun _ _ _ h => h) (Or.inl ⟨by rfl, ?_⟩) (by assumption) ?_
    · intro w hSw; (try dsimp only at hSw); go_simp
    (try simp only [Act.put, List.setIfInBounds_toArray, List.set_cons_zero, List.set_cons_succ])
    refine wpAnyH_take (i := 2) (oi := ({ dst := some 40, op := Op.move (Operand.tmp 39), type := 4, pos := "parts.go:375", after := #[{ on := 1, ground := Ground.data }], guard := none } : Oper)) (v := .bool false) rfl (by kernel_rfl) (by kernel_rfl) (by kernel_rfl) (fun _ _ _ h => h) (Or.inl ⟨by rfl, ?_⟩) (by assumption) ?_
    · intro w hSw; (try dsimp only at hSw); go_simp
    (try simp only [Act.put, List.setIfInBounds_toArray, List.set_cons_zero, List.set_cons_succ])
    refine wpAnyH_take (i := 3) (oi := ({ dst := some 41, op := Op.fieldAddr 29 (Operand.tmp 9) 2, type := 0, pos := "parts.go:375", after := #[{ on := 2, ground := Ground.guard }], guard := some (2, false) } : Oper)) (v := .pointer (some ⟨w5.heap.size, 2, none⟩)) rfl (by kernel_rfl) (by kernel_rfl) (by kernel_rfl) (fun _ _ _ h => h) (Or.inl ⟨by rfl, ?_⟩) (by assumption) ?_
    · intro w hSw; (try dsimp only at hSw); go_simp
    (try simp only [Act.put, List.setIfInBounds_toArray, List.set_cons_zero, List.set_cons_succ])
    refine wpAnyH_take (i := 4) (oi := ({ dst := some 42, op := Op.load 26 (Operand.tmp 41), type := 26, pos := "parts.go:375", after := #[{ on := 3, ground := Ground.data }, { on := 2, ground := Ground.guard }], guard := some (2, false) } : Oper)) (v := .slice e2 d.hs.length f2) rfl (by kernel_rfl) (by kernel_rfl) (by kernel_rfl) (fun _ _ _ h => h) (Or.inl ⟨by rfl, ?_⟩) (by assumption) ?_
    · intro w hSw; (try dsimp only at hSw); go_simp
    (try simp only [Act.put, List.setIfInBounds_toArray, List.set_cons_zero, List.set_cons_succ])
    refine wpAnyH_take (i := 5) (oi := ({ dst := some 43, op := Op.load 44 (Operand.tmp 5), type := 44, pos := "parts.go:375", after := #[{ on := 2, ground := Ground.guard }], guard := some (2, false) } : Oper)) (v := .agg #[.int .i64 h, .int .i64 s]) rfl (by kernel_rfl) (by kernel_rfl) (by kernel_rfl) (fun _ _ _ h => h) (Or.inl ⟨by rfl, ?_⟩) (by assumption) ?_
    · intro w hSw; (try dsimp only at hSw); go_simp
    (try simp only [Act.put, List.setIfInBounds_toArray, List.set_cons_zero, List.set_cons_succ])
    refine wpAnyH_take (i := 7) (oi := ({ dst := some 45, op := Op.fieldAddr 29 (Operand.tmp 8) 2, type := 0, pos := "parts.go:375", after := #[{ on := 2, ground := Ground.guard }], guard := some (2, false) } : Oper)) (v := .pointer (some ⟨rb, 2, none⟩)) rfl (by kernel_rfl) (by kernel_rfl) (by kernel_rfl) (fun _ _ _ h => h) (Or.inl ⟨by rfl, ?_⟩) (by assumption) ?_
    · intro w hSw; (try dsimp only at hSw); go_simp
    (try simp only [Act.put, List.setIfInBounds_toArray, List.set_cons_zero, List.set_cons_succ])
    refine wpAnyH_take (i := 8) (oi := ({ dst := some 46, op := Op.load 26 (Operand.tmp 45), type := 26, pos := "parts.go:375", after := #[{ on := 7, ground := Ground.data }, { on := 2, ground := Ground.guard }], guard := some (2, false) } : Oper)) (v := .slice a2 N2 c2) rfl (by kernel_rfl) (by kernel_rfl) (by kernel_rfl) (fun _ _ _ h => h) (Or.inl ⟨by rfl, ?_⟩) (by assumption) ?_
    · intro w hSw; (try dsimp only at hSw); go_simp
    (try simp only [Act.put, List.setIfInBounds_toArray, List.set_cons_zero, List.set_cons_succ])
    refine wpAnyH_take (i := 9) (oi := ({ dst := some 47, op := Op.load 44 (Operand.tmp 5), type := 44, pos := "parts.go:375", after := #[{ on := 2, ground := Ground.guard }], guard := some (2, false) } : Oper)) (v := .agg #[.int .i64 h, .int .i64 s]) rfl (by kernel_rfl) (by kernel_rfl) (by kernel_rfl) (fun _ _ _ h => h) (Or.inl ⟨by rfl, ?_⟩) (by assumption) ?_
    · intro w hSw; (try dsimp only at hSw); go_simp
    (try simp only [Act.put, List.setIfInBounds_toArray, List.set_cons_zero, List.set_cons_succ])
    refine wpAnyH_ready (rs := [6]) (by kernel_rfl) (by simp) ?_
    refine AllReadyH.cons (o := ({ dst := some 44, op := Op.call { callee := Callee.value (Operand.func 24), args := #[Operand.tmp 42, Operand.tmp 43], argTypes := #[26, 44] }, type := 3, pos := "parts.go:375", after := #[{ on := 4, ground := Ground.data }, { on := 5, ground := Ground.data }, { on := 2, ground := Ground.chain }, { on := 2, ground := Ground.guard }], guard := some (2, false) } : Oper)) rfl (fun K hK => ?_) AllReadyH.nil
    rw [if_pos (by rfl)]
    go_wp2_with (first | (go_at_call 24; refine Calls.mono (ha1 _ hB0) ?_; rintro e w6 ⟨rfl, hb6⟩; have hB6 := Below_after hB0 hb6))
    refine hK.out _ _ ?_ (fun hHeld => ?_)
    · exact mk _ hB6
    clear hK K
    (try simp only [Act.put, List.setIfInBounds_toArray, List.set_cons_zero, List.set_cons_succ])
    refine wpAnyH_ready (rs := [10]) (by kernel_rfl) (by simp) ?_
    refine AllReadyH.cons (o := ({ dst := some 48, op := Op.call { callee := Callee.value (Operand.func 24), args := #[Operand.tmp 46, Operand.tmp 47], argTypes := #[26, 44] }, type := 3, pos := "parts.go:375", after := #[{ on := 8, ground := Ground.data }, { on := 9, ground := Ground.data }, { on := 6, ground := Ground.chain }, { on := 2, ground := Ground.guard }], guard := some (2, false) } : Oper)) rfl (fun K hK => ?_) AllReadyH.nil
    rw [if_pos (by rfl)]
    go_wp2_with (first | (go_at_call 24; refine Calls.mono (ha0 _ hB6) ?_; rintro e w7 ⟨rfl, hb7⟩; have hB7 := Below_after hB6 hb7))
    refine hK.out _ _ ?_ (fun hHeld => ?_)
    · exact mk _ hB7
    clear hK K
    (try simp only [Act.put, List.setIfInBounds_toArray, List.set_cons_zero, List.set_cons_succ])
    refine wpAnyH_take (i := 11) (oi := ({ dst := some 49, op := Op.binOp BinOp.eql 3 (Operand.tmp 44) (Operand.tmp 48) 3, type := 4, pos := "parts.go:375", after := #[{ on := 6, ground := Ground.data }, { on := 10, ground := Ground.data }, { on := 2, ground := Ground.guard }], guard := some (2, false) } : Oper)) (v := .bool true) rfl (by kernel_rfl) (by kernel_rfl) (by kernel_rfl) (fun _ _ _ h => h) (Or.inl ⟨by rfl, ?_⟩) (by assumption) ?_
    · intro w hSw; (try dsimp only at hSw); go_simp
    (try simp only [Act.put, List.setIfInBounds_toArray, List.set_cons_zero, List.set_cons_succ])
    refine wpAnyH_take (i := 12) (oi := ({ dst := some 50, op := Op.pick (Operand.tmp 40) (Operand.const (Value.bool true)) (Operand.tmp 49), type := 4, pos := "parts.go:375", after := #[{ on := 2, ground := Ground.data }, { on := 11, ground := Ground.data }], guard := none } : Oper)) (v := .bool true) rfl (by kernel_rfl) (by kernel_rfl) (by kernel_rfl) (fun _ _ _ h => h) (Or.inl ⟨by rfl, ?_⟩) (by assumption) ?_
    · intro w hSw; (try dsimp only at hSw); go_simp
    (try simp only [Act.put, List.setIfInBounds_toArray, List.set_cons_zero, List.set_cons_succ])
    refine wpAnyH_done (by kernel_rfl) ?_ _
    all_goals
      replace bl := Below_after bl hB7
      go_wp2_with fail
      go_ret
      exact ⟨rfl, bl⟩
  · have hd : (nv == ov) = false := by simp [hnv]
    have hT' := hT hnv
    clear hnv hT
    have mk : ∀ w' : World, Below vv.heap.size vv w' → Below vv.heap.size vv w' ∧ w'.cell? ⟨w5.heap.size, 2, none⟩ = some (.slice e2 d.hs.length f2) ∧ w'.cell? ⟨rb, 2, none⟩ = some (.slice a2 N2 c2) ∧ w'.cell? ⟨w.heap.size + 1, 0, none⟩ = some (.int .i64 h) ∧ w'.cell? ⟨w.heap.size + 1, 1, none⟩ = some (.int .i64 s) := fun w' h => ⟨h, by rw [(bcell h).1 _ _ zY]; exact cY2, by rw [(bcell h).1 _ _ zR]; exact cR2, by rw [(bcell h).1 _ _ zP]; exact cP0, by rw [(bcell h).1 _ _ zP]; exact cP1⟩
    have hB0 : Below vv.heap.size vv vv.drew := below_drewN (Below.refl _ _) 1
    refine wp_region_held_drew (S := fun w' => Below vv.heap.size vv w' ∧ w'.cell? ⟨w5.heap.size, 2, none⟩ = some (.slice e2 d.hs.length f2) ∧ w'.cell? ⟨rb, 2, none⟩ = some (.slice a2 N2 c2) ∧ w'.cell? ⟨w.heap.size + 1, 0, none⟩ = some (.int .i64 h) ∧ w'.cell? ⟨w.heap.size + 1, 1, none⟩ = some (.int .i64 s)) (by kernel_rfl) ?_ (fun hHeld => ?_)
    · exact mk _ hB0
    refine wpAnyH_take (i := 0) (oi := ({ dst := some 38, op := Op.move (Operand.tmp 10), type := 33, pos := "parts.go:375", after := #[], guard := none } : Oper)) (v := .nilIface) rfl (by kernel_rfl) (by kernel_rfl) (by kernel_rfl) (fun _ _ _ h => h) (Or.inl ⟨by rfl, ?_⟩) (by assumption) ?_
    · intro w hSw; (try dsimp only at hSw); go_simp
    (try simp only [Act.put, List.setIfInBounds_toArray, List.set_cons_zero, List.set_cons_succ])
    refine wpAnyH_take (i := 1) (oi := ({ dst := some 39, op := Op.binOp BinOp.neq 33 (Operand.tmp 38) (Operand.const Value.nilIface) 33, type := 4, pos := "parts.go:375", after := #[{ on := 0, ground := Ground.data }], guard := none } : Oper)) (v := .bool false) rfl (by kernel_rfl) (by kernel_rfl) (by kernel_rfl) (fun _ _ _ h => h) (Or.inl ⟨by rfl, ?_⟩) (by assumption) ?_
    · intro w hSw; (try dsimp only at hSw); go_simp
    (try simp only [Act.put, List.setIfInBounds_toArray, List.set_cons_zero, List.set_cons_succ])
    refine wpAnyH_take (i := 2) (oi := ({ dst := some 40, op := Op.move (Operand.tmp 39), type := 4, pos := "parts.go:375", after := #[{ on := 1, ground := Ground.data }], guard := none } : Oper)) (v := .bool false) rfl (by kernel_rfl) (by kernel_rfl) (by kernel_rfl) (fun _ _ _ h => h) (Or.inl ⟨by rfl, ?_⟩) (by assumption) ?_
    · intro w hSw; (try dsimp only at hSw); go_simp
    (try simp only [Act.put, List.setIfInBounds_toArray, List.set_cons_zero, List.set_cons_succ])
    refine wpAnyH_take (i := 3) (oi := ({ dst := some 41, op := Op.fieldAddr 29 (Operand.tmp 9) 2, type := 0, pos := "parts.go:375", after := #[{ on := 2, ground := Ground.guard }], guard := some (2, false) } : Oper)) (v := .pointer (some ⟨w5.heap.size, 2, none⟩)) rfl (by kernel_rfl) (by kernel_rfl) (by kernel_rfl) (fun _ _ _ h => h) (Or.inl ⟨by rfl, ?_⟩) (by assumption) ?_
    · intro w hSw; (try dsimp only at hSw); go_simp
    (try simp only [Act.put, List.setIfInBounds_toArray, List.set_cons_zero, List.set_cons_succ])
    refine wpAnyH_take (i := 4) (oi := ({ dst := some 42, op := Op.load 26 (Operand.tmp 41), type := 26, pos := "parts.go:375", after := #[{ on := 3, ground := Ground.data }, { on := 2, ground := Ground.guard }], guard := some (2, false) } : Oper)) (v := .slice e2 d.hs.length f2) rfl (by kernel_rfl) (by kernel_rfl) (by kernel_rfl) (fun _ _ _ h => h) (Or.inl ⟨by rfl, ?_⟩) (by assumption) ?_
    · intro w hSw; (try dsimp only at hSw); go_simp
    (try simp only [Act.put, List.setIfInBounds_toArray, List.set_cons_zero, List.set_cons_succ])
    refine wpAnyH_take (i := 5) (oi := ({ dst := some 43, op := Op.load 44 (Operand.tmp 5), type := 44, pos := "parts.go:375", after := #[{ on := 2, ground := Ground.guard }], guard := some (2, false) } : Oper)) (v := .agg #[.int .i64 h, .int .i64 s]) rfl (by kernel_rfl) (by kernel_rfl) (by kernel_rfl) (fun _ _ _ h => h) (Or.inl ⟨by rfl, ?_⟩) (by assumption) ?_
    · intro w hSw; (try dsimp only at hSw); go_simp
    (try simp only [Act.put, List.setIfInBounds_toArray, List.set_cons_zero, List.set_cons_succ])
    refine wpAnyH_take (i := 7) (oi := ({ dst := some 45, op := Op.fieldAddr 29 (Operand.tmp 8) 2, type := 0, pos := "parts.go:375", after := #[{ on := 2, ground := Ground.guard }], guard := some (2, false) } : Oper)) (v := .pointer (some ⟨rb, 2, none⟩)) rfl (by kernel_rfl) (by kernel_rfl) (by kernel_rfl) (fun _ _ _ h => h) (Or.inl ⟨by rfl, ?_⟩) (by assumption) ?_
    · intro w hSw; (try dsimp only at hSw); go_simp
    (try simp only [Act.put, List.setIfInBounds_toArray, List.set_cons_zero, List.set_cons_succ])
    refine wpAnyH_take (i := 8) (oi := ({ dst := some 46, op := Op.load 26 (Operand.tmp 45), type := 26, pos := "parts.go:375", after := #[{ on := 7, ground := Ground.data }, { on := 2, ground := Ground.guard }], guard := some (2, false) } : Oper)) (v := .slice a2 N2 c2) rfl (by kernel_rfl) (by kernel_rfl) (by kernel_rfl) (fun _ _ _ h => h) (Or.inl ⟨by rfl, ?_⟩) (by assumption) ?_
    · intro w hSw; (try dsimp only at hSw); go_simp
    (try simp only [Act.put, List.setIfInBounds_toArray, List.set_cons_zero, List.set_cons_succ])
    refine wpAnyH_take (i := 9) (oi := ({ dst := some 47, op := Op.load 44 (Operand.tmp 5), type := 44, pos := "parts.go:375", after := #[{ on := 2, ground := Ground.guard }], guard := some (2, false) } : Oper)) (v := .agg #[.int .i64 h, .int .i64 s]) rfl (by kernel_rfl) (by kernel_rfl) (by kernel_rfl) (fun _ _ _ h => h) (Or.inl ⟨by rfl, ?_⟩) (by assumption) ?_
    · intro w hSw; (try dsimp only at hSw); go_simp
    (try simp only [Act.put, List.setIfInBounds_toArray, List.set_cons_zero, List.set_cons_succ])
    refine wpAnyH_ready (rs := [6]) (by kernel_rfl) (by simp) ?_
    refine AllReadyH.cons (o := ({ dst := some 44, op := Op.call { callee := Callee.value (Operand.func 24), args := #[Operand.tmp 42, Operand.tmp 43], argTypes := #[26, 44] }, type := 3, pos := "parts.go:375", after := #[{ on := 4, ground := Ground.data }, { on := 5, ground := Ground.data }, { on := 2, ground := Ground.chain }, { on := 2, ground := Ground.guard }], guard := some (2, false) } : Oper)) rfl (fun K hK => ?_) AllReadyH.nil
    rw [if_pos (by rfl)]
    go_wp2_with (first | (go_at_call 24; refine Calls.mono (ha1 _ hB0) ?_; rintro e w6 ⟨rfl, hb6⟩; have hB6 := Below_after hB0 hb6))
    refine hK.out _ _ ?_ (fun hHeld => ?_)
    · exact mk _ hB6
    clear hK K
    (try simp only [Act.put, List.setIfInBounds_toArray, List.set_cons_zero, List.set_cons_succ])
    refine wpAnyH_ready (rs := [10]) (by kernel_rfl) (by simp) ?_
    refine AllReadyH.cons (o := ({ dst := some 48, op := Op.call { callee := Callee.value (Operand.func 24), args := #[Operand.tmp 46, Operand.tmp 47], argTypes := #[26, 44] }, type := 3, pos := "parts.go:375", after := #[{ on := 8, ground := Ground.data }, { on := 9, ground := Ground.data }, { on := 6, ground := Ground.chain }, { on := 2, ground := Ground.guard }], guard := some (2, false) } : Oper)) rfl (fun K hK => ?_) AllReadyH.nil
    rw [if_pos (by rfl)]
    go_wp2_with (first | (go_at_call 24; refine Calls.mono (ha0 _ hB6) ?_; rintro e w7 ⟨rfl, hb7⟩; have hB7 := Below_after hB6 hb7))
    refine hK.out _ _ ?_ (fun hHeld => ?_)
    · exact mk _ hB7
    clear hK K
    (try simp only [Act.put, List.setIfInBounds_toArray, List.set_cons_zero, List.set_cons_succ])
    refine wpAnyH_take (i := 11) (oi := ({ dst := some 49, op := Op.binOp BinOp.eql 3 (Operand.tmp 44) (Operand.tmp 48) 3, type := 4, pos := "parts.go:375", after := #[{ on := 6, ground := Ground.data }, { on := 10, ground := Ground.data }, { on := 2, ground := Ground.guard }], guard := some (2, false) } : Oper)) (v := .bool false) rfl (by kernel_rfl) (by kernel_rfl) (by kernel_rfl) (fun _ _ _ h => h) (Or.inl ⟨by rfl, ?_⟩) (by assumption) ?_
    · intro w hSw; (try dsimp only at hSw); go_simp
    (try simp only [Act.put, List.setIfInBounds_toArray, List.set_cons_zero, List.set_cons_succ])
    refine wpAnyH_take (i := 12) (oi := ({ dst := some 50, op := Op.pick (Operand.tmp 40) (Operand.const (Value.bool true)) (Operand.tmp 49), type := 4, pos := "parts.go:375", after := #[{ on := 2, ground := Ground.data }, { on := 11, ground := Ground.data }], guard := none } : Oper)) (v := .bool false) rfl (by kernel_rfl) (by kernel_rfl) (by kernel_rfl) (fun _ _ _ h => h) (Or.inl ⟨by rfl, ?_⟩) (by assumption) ?_
    · intro w hSw; (try dsimp only at hSw); go_simp
    (try simp only [Act.put, List.setIfInBounds_toArray, List.set_cons_zero, List.set_cons_succ])
    refine wpAnyH_done (by kernel_rfl) ?_ _
    all_goals
      clear cR0 cR1 cR2 cR3 cR4 cR5 zR cY0 cY1 cY2 cY3 cY4 cY5 zY cP0 cP1 zP cA0 cA1 cA2 cA3 cA4 cA5 cA6 cA7 cA8 cA9 cA10 zA mk hB0 hb6 hb7 hB6
      clear yA yP yR
      replace BA := BA.below hB7
      replace BP := BP.below hB7
      replace BR := BR.below hB7
      replace BY := BY.below hB7
      replace hat := hat.below hB7
      replace hat2 := hat2.below hB7
      replace bl := Below_after bl hB7
      have yA := BA.1
      have yP := BP.1
      have yR := BR.1
      have yY := BY.1
      replace ha1 := fun (W : World) (h' : Below w7.heap.size w7 W) => ha1 W (Below_after hB7 h')
      replace ha0 := fun (W : World) (h' : Below w7.heap.size w7 W) => ha0 W (Below_after hB7 h')
      rcases hT' with ⟨h0, hK⟩ | ⟨h0, ho, hK⟩
      · have z0 : (nv == 0) = true := by simp [h0]
        clear h0
        have hcon := ha1 w7 (Below.refl _ _)
        have cY0 := (BY.2 0 _ rfl).1
        have cY1 := (BY.2 1 _ rfl).1
        have cY2 := (BY.2 2 _ rfl).1
        have cY3 := (BY.2 3 _ rfl).1
        have cY4 := (BY.2 4 _ rfl).1
        have cY5 := (BY.2 5 _ rfl).1
        have zY := BY.1
        have cP0 := (BP.2 0 _ rfl).1
        have cP1 := (BP.2 1 _ rfl).1
        have zP := BP.1
        go_wp2_with fail
        refine hcon.mono ?_
        rintro e w6 ⟨rfl, hb6⟩
        clear cY0 cY1 cY2 cY3 cY4 cY5 zY cP0 cP1 zP hcon
        clear yA yP yR yY
        replace BA := BA.below hb6
        replace BP := BP.below hb6
        replace BR := BR.below hb6
        replace BY := BY.below hb6
        replace hat := hat.below hb6
        replace hat2 := hat2.below hb6
        replace bl := Below_after bl hb6
        have yA := BA.1
        have yP := BP.1
        have yR := BR.1
        have yY := BY.1
        have cA0 := (BA.2 0 _ rfl).1
        have cA1 := (BA.2 1 _ rfl).1
        have cA2 := (BA.2 2 _ rfl).1
        have cA3 := (BA.2 3 _ rfl).1
        have cA4 := (BA.2 4 _ rfl).1
        have cA5 := (BA.2 5 _ rfl).1
        have cA6 := (BA.2 6 _ rfl).1
        have cA7 := (BA.2 7 _ rfl).1
        have cA8 := (BA.2 8 _ rfl).1
        have cA9 := (BA.2 9 _ rfl).1
        have cA10 := (BA.2 10 _ rfl).1
        have zA := BA.1
        have cP0 := (BP.2 0 _ rfl).1
        have cP1 := (BP.2 1 _ rfl).1
        have zP := BP.1
        rcases hK with hK | hK | ⟨hK, rfl, rfl⟩
        · have k_drop : (x.kd.toList == [100, 114, 111, 112]) = true := by rw [hK]; decide
          clear hK
          go_wp2_with fail
          go_ret
          exact ⟨rfl, bl⟩
        · have k_drop : (x.kd.toList == [100, 114, 111, 112]) = false := by rw [hK]; decide
          have k_revoke : (x.kd.toList == [114, 101, 118, 111, 107, 101]) = true := by rw [hK]; decide
          clear hK
          go_wp2_with fail
          go_ret
          exact ⟨rfl, bl⟩
        · have k_drop : (x.kd.toList == [100, 114, 111, 112]) = false := by rw [hK]; decide
          have k_revoke : (x.kd.toList == [114, 101, 118, 111, 107, 101]) = false := by rw [hK]; decide
          have k_move : (x.kd.toList == [109, 111, 118, 101]) = true := by rw [hK]; decide
          clear hK
          go_wp2_with fail
          go_ret
          exact ⟨rfl, bl⟩
      · have z0 : (nv == 0) = false := by simp [h0]
        subst ho
        clear h0
        have hcon := ha1 w7 (Below.refl _ _)
        have cY0 := (BY.2 0 _ rfl).1
        have cY1 := (BY.2 1 _ rfl).1
        have cY2 := (BY.2 2 _ rfl).1
        have cY3 := (BY.2 3 _ rfl).1
        have cY4 := (BY.2 4 _ rfl).1
        have cY5 := (BY.2 5 _ rfl).1
        have zY := BY.1
        have cP0 := (BP.2 0 _ rfl).1
        have cP1 := (BP.2 1 _ rfl).1
        have zP := BP.1
        go_wp2_with fail
        refine hcon.mono ?_
        rintro e w7 ⟨rfl, hb7⟩
        clear cY0 cY1 cY2 cY3 cY4 cY5 zY cP0 cP1 zP hcon
        clear yA yP yR yY
        replace BA := BA.below hb7
        replace BP := BP.below hb7
        replace BR := BR.below hb7
        replace BY := BY.below hb7
        replace hat := hat.below hb7
        replace hat2 := hat2.below hb7
        replace bl := Below_after bl hb7
        have yA := BA.1
        have yP := BP.1
        have yR := BR.1
        have yY := BY.1
        have hcon := ha0 w7 hb7
        have cR0 := (BR.2 0 _ rfl).1
        have cR1 := (BR.2 1 _ rfl).1
        have cR2 := (BR.2 2 _ rfl).1
        have cR3 := (BR.2 3 _ rfl).1
        have cR4 := (BR.2 4 _ rfl).1
        have cR5 := (BR.2 5 _ rfl).1
        have zR := BR.1
        have cP0 := (BP.2 0 _ rfl).1
        have cP1 := (BP.2 1 _ rfl).1
        have zP := BP.1
        go_wp2_with fail
        refine hcon.mono ?_
        rintro e w9 ⟨rfl, hb9⟩
        clear cR0 cR1 cR2 cR3 cR4 cR5 zR cP0 cP1 zP hcon
        clear yA yP yR yY
        replace BA := BA.below hb9
        replace BP := BP.below hb9
        replace BR := BR.below hb9
        replace BY := BY.below hb9
        replace hat := hat.below hb9
        replace hat2 := hat2.below hb9
        replace bl := Below_after bl hb9
        have yA := BA.1
        have yP := BP.1
        have yR := BR.1
        have yY := BY.1
        have cA0 := (BA.2 0 _ rfl).1
        have cA1 := (BA.2 1 _ rfl).1
        have cA2 := (BA.2 2 _ rfl).1
        have cA3 := (BA.2 3 _ rfl).1
        have cA4 := (BA.2 4 _ rfl).1
        have cA5 := (BA.2 5 _ rfl).1
        have cA6 := (BA.2 6 _ rfl).1
        have cA7 := (BA.2 7 _ rfl).1
        have cA8 := (BA.2 8 _ rfl).1
        have cA9 := (BA.2 9 _ rfl).1
        have cA10 := (BA.2 10 _ rfl).1
        have zA := BA.1
        have cP0 := (BP.2 0 _ rfl).1
        have cP1 := (BP.2 1 _ rfl).1
        have zP := BP.1
        rcases hK with ⟨hK, rfl, rfl⟩ | ⟨hK, rfl, rfl⟩ | ⟨hK, rfl⟩ | ⟨hK, rfl⟩
        · have k_give : (x.kd.toList == [103, 105, 118, 101]) = true := by rw [hK]; decide
          clear hK
          go_wp2_with fail
          go_ret
          exact ⟨rfl, bl⟩
        · have k_give : (x.kd.toList == [103, 105, 118, 101]) = false := by rw [hK]; decide
          have k_make : (x.kd.toList == [109, 97, 107, 101]) = true := by rw [hK]; decide
          clear hK
          go_wp2_with fail
          go_ret
          exact ⟨rfl, bl⟩
        · have k_give : (x.kd.toList == [103, 105, 118, 101]) = false := by rw [hK]; decide
          have k_make : (x.kd.toList == [109, 97, 107, 101]) = false := by rw [hK]; decide
          have k_move : (x.kd.toList == [109, 111, 118, 101]) = true := by rw [hK]; decide
          clear hK
          go_wp2_with fail
          go_ret
          exact ⟨rfl, bl⟩
        · have k_give : (x.kd.toList == [103, 105, 118, 101]) = false := by rw [hK]; decide
          have k_make : (x.kd.toList == [109, 97, 107, 101]) = false := by rw [hK]; decide
          have k_move : (x.kd.toList == [109, 111, 118, 101]) = false := by rw [hK]; decide
          have k_take : (x.kd.toList == [116, 97, 107, 101]) = true := by rw [hK]; decide
          clear hK
          go_wp2_with fail
          go_ret
          exact ⟨rfl, bl⟩
theorem talone_any (w : World) (a : Option Addr) (l : List Ac) (c : Nat) (hw : AcsAt w a l) (hm : l.length ≤ maxLen) (x : Ac) (hx : AcOk w x) (h s : Int) :
    Calls Try.prog 8 #[.slice a l.length c, .agg #[.string x.kd, .string x.sd, .int .i64 x.ph, .int .i64 x.ps, .int .i64 x.qh, .int .i64 x.qs, .int .i64 x.aa, .int .i64 x.bb, .int .i64 x.nn, .int .u64 x.kk, .slice x.xc x.lc x.cc], .agg #[.int .i64 h, .int .i64 s]] w fun e w' => e = .returned (.bool true) ∧ Below w.heap.size w w' := by
  cases hq : lacB l 80
  · exact talone_no a c l x h s w hw hm hx hq
  · cases hl : lacB [x] 1
    · exact talone_heavy a c l x h s w hw hm hx hq hl
    · by_cases hp : plOk h s
      · by_cases hc : doC (growR l) x = 0
        · exact talone_ok a c l x h s w hw hm hx hq hl hp hc
        · exact talone_err a c l x h s w hw hm hx hq hl hp hc
      · exact talone_place a c l x h s w hw hm hx hq hl hp
end Go.Proofs.Ytihckdndecbefac
