/- The walks of package right, as the landed code has it: each text of rights 0 to 7 is the one that the document names. No condition but the bounds 0 and 7 of the rights. -/
import Derived.Test.YtnjncemjghmpoaaProg
import Derived.WalkKit
import Derived.WalkSpells
import Derived.WalkLawsBesides
namespace Go.Proofs.Ytnjncemjghmpoaa
open Go.RowKit

/-- the text of rights 0 .. 7 -/
def txt (r : Int) : ByteArray :=
  if r = 0 then ⟨#[45]⟩ else if r = 1 then ⟨#[108]⟩ else if r = 2 then ⟨#[97]⟩ else if r = 3 then ⟨#[108, 97]⟩
  else if r = 4 then ⟨#[103]⟩ else if r = 5 then ⟨#[108, 103]⟩ else if r = 6 then ⟨#[97, 103]⟩ else ⟨#[108, 97, 103]⟩

theorem ret_str {a b : ByteArray} (h : a = b) : Ending.returned (.string a) = .returned (.string b) := by rw [h]
theorem ret_int {k : IntKind} {a b : Int} (h : a = b) : Ending.returned (.int k a) = .returned (.int k b) := by rw [h]
theorem ret_bool {a b : Bool} (h : a = b) : Ending.returned (.bool a) = .returned (.bool b) := by rw [h]
theorem text0 (w : World) : Calls Try.prog 8 #[.int .i64 0] w fun e w' => e = .returned (.string (txt 0)) ∧ w' = w := by
  have k0 : (bits BinOp.and IntKind.i64 0 1 == 1) = false := by decide
  have k1 : (bits BinOp.and IntKind.i64 0 2 == 2) = false := by decide
  have k2 : (bits BinOp.and IntKind.i64 0 4 == 4) = false := by decide
  have ke : ((⟨#[]⟩ : ByteArray)).toList.isEmpty = true := by decide +kernel
  go_enter Try.func8, Try.ntmps8
  go_wp2
  refine wp_loop_rounds 4 ?_
  rw [rounds_succ]
  go_wp2
  rw [rounds_succ]
  go_wp2
  rw [rounds_succ]
  go_wp2
  rw [rounds_succ]
  go_wp2
  go_ret
  exact ⟨rfl, rfl⟩
theorem text1 (w : World) : Calls Try.prog 8 #[.int .i64 1] w fun e w' => e = .returned (.string (txt 1)) ∧ w' = w := by
  have k0 : (bits BinOp.and IntKind.i64 1 1 == 1) = true := by decide
  have k1 : (bits BinOp.and IntKind.i64 1 2 == 2) = false := by decide
  have k2 : (bits BinOp.and IntKind.i64 1 4 == 4) = false := by decide
  have ke : ((⟨#[]⟩ : ByteArray) ++ (⟨#[108, 97, 103]⟩ : ByteArray).extract 0 1).toList.isEmpty = false := by decide +kernel
  go_enter Try.func8, Try.ntmps8
  go_wp2
  refine wp_loop_rounds 4 ?_
  rw [rounds_succ]
  go_wp2
  rw [rounds_succ]
  go_wp2
  rw [rounds_succ]
  go_wp2
  rw [rounds_succ]
  go_wp2
  go_ret
  exact ⟨ret_str (by decide), rfl⟩
theorem text2 (w : World) : Calls Try.prog 8 #[.int .i64 2] w fun e w' => e = .returned (.string (txt 2)) ∧ w' = w := by
  have k0 : (bits BinOp.and IntKind.i64 2 1 == 1) = false := by decide
  have k1 : (bits BinOp.and IntKind.i64 2 2 == 2) = true := by decide
  have k2 : (bits BinOp.and IntKind.i64 2 4 == 4) = false := by decide
  have ke : ((⟨#[]⟩ : ByteArray) ++ (⟨#[108, 97, 103]⟩ : ByteArray).extract 1 2).toList.isEmpty = false := by decide +kernel
  go_enter Try.func8, Try.ntmps8
  go_wp2
  refine wp_loop_rounds 4 ?_
  rw [rounds_succ]
  go_wp2
  rw [rounds_succ]
  go_wp2
  rw [rounds_succ]
  go_wp2
  rw [rounds_succ]
  go_wp2
  go_ret
  exact ⟨ret_str (by decide), rfl⟩
theorem text3 (w : World) : Calls Try.prog 8 #[.int .i64 3] w fun e w' => e = .returned (.string (txt 3)) ∧ w' = w := by
  have k0 : (bits BinOp.and IntKind.i64 3 1 == 1) = true := by decide
  have k1 : (bits BinOp.and IntKind.i64 3 2 == 2) = true := by decide
  have k2 : (bits BinOp.and IntKind.i64 3 4 == 4) = false := by decide
  have ke : ((⟨#[]⟩ : ByteArray) ++ (⟨#[108, 97, 103]⟩ : ByteArray).extract 0 1 ++ (⟨#[108, 97, 103]⟩ : ByteArray).extract 1 2).toList.isEmpty = false := by decide +kernel
  go_enter Try.func8, Try.ntmps8
  go_wp2
  refine wp_loop_rounds 4 ?_
  rw [rounds_succ]
  go_wp2
  rw [rounds_succ]
  go_wp2
  rw [rounds_succ]
  go_wp2
  rw [rounds_succ]
  go_wp2
  go_ret
  exact ⟨ret_str (by decide), rfl⟩
theorem text4 (w : World) : Calls Try.prog 8 #[.int .i64 4] w fun e w' => e = .returned (.string (txt 4)) ∧ w' = w := by
  have k0 : (bits BinOp.and IntKind.i64 4 1 == 1) = false := by decide
  have k1 : (bits BinOp.and IntKind.i64 4 2 == 2) = false := by decide
  have k2 : (bits BinOp.and IntKind.i64 4 4 == 4) = true := by decide
  have ke : ((⟨#[]⟩ : ByteArray) ++ (⟨#[108, 97, 103]⟩ : ByteArray).extract 2 3).toList.isEmpty = false := by decide +kernel
  go_enter Try.func8, Try.ntmps8
  go_wp2
  refine wp_loop_rounds 4 ?_
  rw [rounds_succ]
  go_wp2
  rw [rounds_succ]
  go_wp2
  rw [rounds_succ]
  go_wp2
  rw [rounds_succ]
  go_wp2
  go_ret
  exact ⟨ret_str (by decide), rfl⟩
theorem text5 (w : World) : Calls Try.prog 8 #[.int .i64 5] w fun e w' => e = .returned (.string (txt 5)) ∧ w' = w := by
  have k0 : (bits BinOp.and IntKind.i64 5 1 == 1) = true := by decide
  have k1 : (bits BinOp.and IntKind.i64 5 2 == 2) = false := by decide
  have k2 : (bits BinOp.and IntKind.i64 5 4 == 4) = true := by decide
  have ke : ((⟨#[]⟩ : ByteArray) ++ (⟨#[108, 97, 103]⟩ : ByteArray).extract 0 1 ++ (⟨#[108, 97, 103]⟩ : ByteArray).extract 2 3).toList.isEmpty = false := by decide +kernel
  go_enter Try.func8, Try.ntmps8
  go_wp2
  refine wp_loop_rounds 4 ?_
  rw [rounds_succ]
  go_wp2
  rw [rounds_succ]
  go_wp2
  rw [rounds_succ]
  go_wp2
  rw [rounds_succ]
  go_wp2
  go_ret
  exact ⟨ret_str (by decide), rfl⟩
theorem text6 (w : World) : Calls Try.prog 8 #[.int .i64 6] w fun e w' => e = .returned (.string (txt 6)) ∧ w' = w := by
  have k0 : (bits BinOp.and IntKind.i64 6 1 == 1) = false := by decide
  have k1 : (bits BinOp.and IntKind.i64 6 2 == 2) = true := by decide
  have k2 : (bits BinOp.and IntKind.i64 6 4 == 4) = true := by decide
  have ke : ((⟨#[]⟩ : ByteArray) ++ (⟨#[108, 97, 103]⟩ : ByteArray).extract 1 2 ++ (⟨#[108, 97, 103]⟩ : ByteArray).extract 2 3).toList.isEmpty = false := by decide +kernel
  go_enter Try.func8, Try.ntmps8
  go_wp2
  refine wp_loop_rounds 4 ?_
  rw [rounds_succ]
  go_wp2
  rw [rounds_succ]
  go_wp2
  rw [rounds_succ]
  go_wp2
  rw [rounds_succ]
  go_wp2
  go_ret
  exact ⟨ret_str (by decide), rfl⟩
theorem text7 (w : World) : Calls Try.prog 8 #[.int .i64 7] w fun e w' => e = .returned (.string (txt 7)) ∧ w' = w := by
  have k0 : (bits BinOp.and IntKind.i64 7 1 == 1) = true := by decide
  have k1 : (bits BinOp.and IntKind.i64 7 2 == 2) = true := by decide
  have k2 : (bits BinOp.and IntKind.i64 7 4 == 4) = true := by decide
  have ke : ((⟨#[]⟩ : ByteArray) ++ (⟨#[108, 97, 103]⟩ : ByteArray).extract 0 1 ++ (⟨#[108, 97, 103]⟩ : ByteArray).extract 1 2 ++ (⟨#[108, 97, 103]⟩ : ByteArray).extract 2 3).toList.isEmpty = false := by decide +kernel
  go_enter Try.func8, Try.ntmps8
  go_wp2
  refine wp_loop_rounds 4 ?_
  rw [rounds_succ]
  go_wp2
  rw [rounds_succ]
  go_wp2
  rw [rounds_succ]
  go_wp2
  rw [rounds_succ]
  go_wp2
  go_ret
  exact ⟨ret_str (by decide), rfl⟩
theorem text_any (r : Int) (h0 : 0 ≤ r) (h7 : r ≤ 7) (w : World) : Calls Try.prog 8 #[.int .i64 r] w fun e w' => e = .returned (.string (txt r)) ∧ w' = w := by
  have hr : r = 0 ∨ r = 1 ∨ r = 2 ∨ r = 3 ∨ r = 4 ∨ r = 5 ∨ r = 6 ∨ r = 7 := by omega
  rcases hr with rfl | rfl | rfl | rfl | rfl | rfl | rfl | rfl
  · exact text0 w
  · exact text1 w
  · exact text2 w
  · exact text3 w
  · exact text4 w
  · exact text5 w
  · exact text6 w
  · exact text7 w
/-- the same text by the document's answer -/
theorem rtext_any (r : Int) (h0 : 0 ≤ r) (h7 : r ≤ 7) (w : World) : Calls Try.prog 16 #[.int .i64 r] w fun e w' => e = .returned (.string (txt r)) ∧ w' = w := by
  have hr : r = 0 ∨ r = 1 ∨ r = 2 ∨ r = 3 ∨ r = 4 ∨ r = 5 ∨ r = 6 ∨ r = 7 := by omega
  rcases hr with rfl | rfl | rfl | rfl | rfl | rfl | rfl | rfl
  · have ke : ((⟨#[]⟩ : ByteArray)).toList.isEmpty = true := by decide +kernel
    go_enter Try.func16, Try.ntmps16
    go_wp2
    go_ret
    exact ⟨ret_str (by decide), rfl⟩
  · have ke : ((⟨#[]⟩ : ByteArray) ++ (⟨#[108]⟩ : ByteArray)).toList.isEmpty = false := by decide +kernel
    go_enter Try.func16, Try.ntmps16
    go_wp2
    go_ret
    exact ⟨ret_str (by decide), rfl⟩
  · have ke : ((⟨#[]⟩ : ByteArray) ++ (⟨#[97]⟩ : ByteArray)).toList.isEmpty = false := by decide +kernel
    go_enter Try.func16, Try.ntmps16
    go_wp2
    go_ret
    exact ⟨ret_str (by decide), rfl⟩
  · have ke : ((⟨#[]⟩ : ByteArray) ++ (⟨#[108]⟩ : ByteArray) ++ (⟨#[97]⟩ : ByteArray)).toList.isEmpty = false := by decide +kernel
    go_enter Try.func16, Try.ntmps16
    go_wp2
    go_ret
    exact ⟨ret_str (by decide), rfl⟩
  · have ke : ((⟨#[]⟩ : ByteArray) ++ (⟨#[103]⟩ : ByteArray)).toList.isEmpty = false := by decide +kernel
    go_enter Try.func16, Try.ntmps16
    go_wp2
    go_ret
    exact ⟨ret_str (by decide), rfl⟩
  · have ke : ((⟨#[]⟩ : ByteArray) ++ (⟨#[108]⟩ : ByteArray) ++ (⟨#[103]⟩ : ByteArray)).toList.isEmpty = false := by decide +kernel
    go_enter Try.func16, Try.ntmps16
    go_wp2
    go_ret
    exact ⟨ret_str (by decide), rfl⟩
  · have ke : ((⟨#[]⟩ : ByteArray) ++ (⟨#[97]⟩ : ByteArray) ++ (⟨#[103]⟩ : ByteArray)).toList.isEmpty = false := by decide +kernel
    go_enter Try.func16, Try.ntmps16
    go_wp2
    go_ret
    exact ⟨ret_str (by decide), rfl⟩
  · have ke : ((⟨#[]⟩ : ByteArray) ++ (⟨#[108]⟩ : ByteArray) ++ (⟨#[97]⟩ : ByteArray) ++ (⟨#[103]⟩ : ByteArray)).toList.isEmpty = false := by decide +kernel
    go_enter Try.func16, Try.ntmps16
    go_wp2
    go_ret
    exact ⟨ret_str (by decide), rfl⟩
end Go.Proofs.Ytnjncemjghmpoaa
