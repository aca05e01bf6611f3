/-
  Constants of package math; Float; the two floats that wake the statements.
-/
import Derived.Test.YtibijjaeekameaaW2
namespace Go.Proofs.Ytibijjaeekameaa
open Go.RowKit
open Fl

theorem c10 (w : World) : Calls Try.prog 10 #[] w fun e w' => e = .returned (.float .f64 9221120237041090561) ∧ w = w' := by
  have hy := fun w => x29 9221120237041090561 w
  go_enter Try.func10, Try.ntmps10
  go_wp2
  go_ret
  exact ⟨rfl, rfl⟩
theorem c11p (w : World) : Calls Try.prog 11 #[.int .i64 1] w fun e w' => e = .returned (.float .f64 9218868437227405312) ∧ w = w' := by
  have hy := fun w => x29 9218868437227405312 w
  go_enter Try.func11, Try.ntmps11
  go_wp2
  go_ret
  exact ⟨rfl, rfl⟩
theorem c11n (w : World) : Calls Try.prog 11 #[.int .i64 (-1)] w fun e w' => e = .returned (.float .f64 18442240474082181120) ∧ w = w' := by
  have hy := fun w => x29 18442240474082181120 w
  go_enter Try.func11, Try.ntmps11
  go_wp2
  go_ret
  exact ⟨rfl, rfl⟩

theorem k3 : workZ 4613937818241073152 = 3 ∧ fineB 4613937818241073152 = true := work_near (n := 3) (by decide) (by decide)
theorem kinds_half : kindZ 4602678819172646912 = 3 := by
  have hb : (4602678819172646912 : Nat) < 2 ^ 63 := by decide
  have w0 : wk 4602678819172646912 = 0 := wk_between hb (by decide) (by decide) (by decide +kernel)
  have hr : rung 4602678819172646912 < infR := by decide
  refine kind_broken hr (sgn_small hb) (.inr ?_)
  rw [tr_eq hr (sgn_small hb) (by rw [w0]; decide), w0]
  decide
theorem half : workZ 4602678819172646912 = 0 ∧ fineB 4602678819172646912 = false := work_no (by rw [kinds_half]; decide)
theorem kinds_minus0 : kindZ 9223372036854775808 = 2 := kind_neg (by decide) (by decide)

theorem c28 (w : World) : Calls Try.prog 28 #[.float .f64 0, .float .f64 13830554455654793216] w fun e w' => e = .returned (.float .f64 9223372036854775808) ∧ w = w' := by
  have hx1 := fun w => x36 0 w
  have hx2 := fun w => x36 13830554455654793216 w
  have hy := fun w => x29 9223372036854775808 w
  have e1 : bits BinOp.andNot IntKind.u64 0 9223372036854775808 = 0 := by decide +kernel
  have e2 : bits BinOp.and IntKind.u64 13830554455654793216 9223372036854775808 = 9223372036854775808 := by decide +kernel
  have e3 : bits BinOp.or IntKind.u64 0 9223372036854775808 = 9223372036854775808 := by decide +kernel
  go_enter Try.func28, Try.ntmps28
  go_wp2
  go_ret
  exact ⟨rfl, rfl⟩

theorem c9 (w : World) : Calls Try.prog 9 #[] w fun e w' => e = .returned (.bool true) ∧ w = w' := by
  obtain ⟨a1, a2⟩ := k3
  obtain ⟨b1, b2⟩ := half
  have c := kinds_minus0
  go_enter Try.func9, Try.ntmps9
  go_wp2_with (first | (go_at_call 12; refine (c12 _ _ (by decide)).mono ?_; rintro e w' ⟨rfl, rfl⟩) | (go_at_call 28; refine (c28 _).mono ?_; rintro e w' ⟨rfl, rfl⟩) | (go_at_call 13; refine (c13 _ _ (by decide)).mono ?_; rintro e w' ⟨rfl, rfl⟩))
  go_ret
  exact ⟨rfl, rfl⟩
end Go.Proofs.Ytibijjaeekameaa
