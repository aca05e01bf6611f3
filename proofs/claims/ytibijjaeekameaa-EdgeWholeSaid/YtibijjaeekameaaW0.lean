import Derived.Test.YtibijjaeekameaaChecked
import Derived.Test.YtibijjaeekameaaFl
import Derived.WalkKit
import Derived.WalkLawsBesides
import Derived.WalkSpells
import Derived.Outline
import Derived.Laws.Externs
import Derived.Laws.FloatArith
import Derived.Laws.BitsAllLaws
import Derived.Lib.Hide
import Derived.KernelRfl
namespace Go.Proofs.Ytibijjaeekameaa
open Go.RowKit
open Fl

theorem x36 (b : Nat) (w : World) : (callFunc 36 #[.float .f64 b]).run Try.prog w = .ok (.value (.int .u64 b)) w := by
  rw [run_callFunc_extern (e := Extern.MathFloatBits.float64bits) Try.func36 (by kernel_rfl) (by kernel_rfl) (by kernel_rfl) (by kernel_rfl)]
  rfl
theorem x29 (b : Int) (w : World) : (callFunc 29 #[.int .u64 b]).run Try.prog w = .ok (.value (.float .f64 b.toNat)) w := by
  rw [run_callFunc_extern (e := Extern.MathFloatBits.float64frombits) Try.func29 (by kernel_rfl) (by kernel_rfl) (by kernel_rfl) (by kernel_rfl)]
  rfl
theorem integral_pure (name : String) (way : Ieee.Toward) (b : Nat) (h : rung b ≤ infR) : Extern.MathFloor.toIntegral name way #[.float .f64 b] = pure (.float .f64 (FloatKind.f64.encode ((FloatKind.f64.decode b).integral way))) := by
  have key : ∀ d, FloatKind.f64.decode b = d → d.isNaN = false → Extern.MathFloor.toIntegral name way #[.float .f64 b] = pure (.float .f64 (FloatKind.f64.encode (d.integral way))) := by
    intro d hd hn
    show (match FloatKind.f64.decode b with
      | .nan s t => _
      | d => pure (Value.float .f64 (FloatKind.f64.encode (d.integral way)))) = _
    rw [hd]
    cases d with
    | number s m e => rfl
    | infinity s => rfl
    | nan s t => cases hn
  by_cases h1 : rung b < infR
  · exact (key _ (decode_fin h1) rfl).trans (by rw [decode_fin h1])
  · have h2 : rung b = infR := by omega
    exact (key _ (decode_inf h2) rfl).trans (by rw [decode_inf h2])
theorem x38 (b : Nat) (w : World) (h : rung b ≤ infR) : (callFunc 38 #[.float .f64 b]).run Try.prog w = .ok (.value (.float .f64 (tr b))) w := by
  rw [run_callFunc_extern (e := Extern.MathFloor.toIntegral "math.archTrunc" .zero) Try.func38 (by kernel_rfl) (by kernel_rfl) (by kernel_rfl) (by kernel_rfl), integral_pure _ _ b h]
  rfl
theorem x40 (b : Nat) (w : World) (h : rung b ≤ infR) : (callFunc 40 #[.float .f64 b]).run Try.prog w = .ok (.value (.float .f64 (fl b))) w := by
  rw [run_callFunc_extern (e := Extern.MathFloor.toIntegral "math.archFloor" .down) Try.func40 (by kernel_rfl) (by kernel_rfl) (by kernel_rfl) (by kernel_rfl), integral_pure _ _ b h]
  rfl

theorem c30 (b : Nat) (w : World) (h : rung b ≤ infR) : Calls Try.prog 30 #[.float .f64 b] w fun e w' => e = .returned (.bool false) ∧ w = w' := by
  have hx := num_ne h
  clear h
  go_enter Try.func30, Try.ntmps30
  go_wp2
  go_ret
  exact ⟨rfl, rfl⟩
theorem c30n (b : Nat) (w : World) (h : infR < rung b) : Calls Try.prog 30 #[.float .f64 b] w fun e w' => e = .returned (.bool true) ∧ w = w' := by
  have hx := nan_ne h
  clear h
  go_enter Try.func30, Try.ntmps30
  go_wp2
  go_ret
  exact ⟨rfl, rfl⟩
theorem wrap_sgn {b : Nat} (h : b < 2 ^ 64) : decide (wrap64 (b : Int) < 0) = sgn b := by
  rw [← sgn_wrap h]; unfold wrap64; with_reducible rfl
theorem c32 (b : Nat) (w : World) (h : b < 2 ^ 64) : Calls Try.prog 32 #[.float .f64 b] w fun e w' => e = .returned (.bool (sgn b)) ∧ w = w' := by
  have H := Lib.hid h
  clear h
  have hx := fun w => x36 b w
  go_enter Try.func32, Try.ntmps32
  go_wp2
  go_ret
  refine ⟨?_, rfl⟩
  show Ending.returned (.bool (decide (wrap64 (b : Int) < 0))) = _
  rw [wrap_sgn H.out]
theorem c37 (b : Nat) (w : World) (h : b < 2 ^ 64) : Calls Try.prog 37 #[.float .f64 b] w fun e w' => e = .returned (.float .f64 (rung b)) ∧ w = w' := by
  have H := Lib.hid h
  clear h
  have hx := fun w => x36 b w
  have hy := fun b w => x29 b w
  go_enter Try.func37, Try.ntmps37
  go_wp2
  go_ret
  refine ⟨?_, rfl⟩
  have h := H.out
  have e1 : (2 : Nat) ^ 64 = 18446744073709551616 := by decide
  rw [← rung_and b]
  rw [e1] at h
  have e := u64_andNot_nat b 9223372036854775808 h (by decide)
  rw [show ((9223372036854775808 : Nat) : Int) = 9223372036854775808 from rfl] at e
  rw [e, Int.toNat_natCast]
  rfl
theorem c31 (b : Nat) (w : World) (h : b < 2 ^ 64) (hn : rung b ≤ infR) : Calls Try.prog 31 #[.float .f64 b, .int .i64 0] w fun e w' => e = .returned (.bool (decide (rung b = infR))) ∧ w = w' := by
  have hk : (FloatKind.f64.format.order (rung b) 9218868437227405311 == some Ordering.gt) = decide (rung b = infR) := by
    have hr : rung 9218868437227405311 = 9218868437227405311 := rung_small (by decide)
    have hi : infR = 9218868437227405312 := by decide
    rw [ord_gt (by rw [rung_rung]; exact hn) (by rw [hr]; decide), key_small (rung_lt b), key_small (by decide)]
    rw [Bool.eq_iff_iff, decide_eq_true_iff, decide_eq_true_iff]
    omega
  have H := Lib.hid h
  clear h
  have HN := Lib.hid hn
  clear hn
  go_enter Try.func31, Try.ntmps31
  go_wp2_with (go_at_call 37; refine (c37 b _ (by exact H.out)).mono ?_; rintro e w' ⟨rfl, rfl⟩)
  go_ret
  exact ⟨rfl, rfl⟩
theorem c33 (b : Nat) (w : World) (h : rung b ≤ infR) : Calls Try.prog 33 #[.float .f64 b] w fun e w' => e = .returned (.float .f64 (tr b)) ∧ w = w' := by
  have hx := fun w => x38 b w h
  go_enter Try.func33, Try.ntmps33
  go_wp2
  go_ret
  exact ⟨rfl, rfl⟩
theorem c35 (b : Nat) (w : World) (h : rung b ≤ infR) : Calls Try.prog 35 #[.float .f64 b] w fun e w' => e = .returned (.float .f64 (fl b)) ∧ w = w' := by
  have hx := fun w => x40 b w h
  go_enter Try.func35, Try.ntmps35
  go_wp2
  go_ret
  exact ⟨rfl, rfl⟩
theorem c34t (w : World) : Calls Try.prog 34 #[.bool true] w fun e w' => e = .returned (.int .i64 1) ∧ w = w' := by
  go_enter Try.func34, Try.ntmps34
  go_wp2
  go_ret
  exact ⟨rfl, rfl⟩
theorem c34f (w : World) : Calls Try.prog 34 #[.bool false] w fun e w' => e = .returned (.int .i64 0) ∧ w = w' := by
  go_enter Try.func34, Try.ntmps34
  go_wp2
  go_ret
  exact ⟨rfl, rfl⟩
end Go.Proofs.Ytibijjaeekameaa
