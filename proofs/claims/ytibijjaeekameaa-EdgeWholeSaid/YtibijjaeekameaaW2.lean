/-
  The order of floats, their whole numbers, and the constants of package math.
-/
import Derived.Test.YtibijjaeekameaaW1
namespace Go.Proofs.Ytibijjaeekameaa
open Go.RowKit
open Fl

theorem c30b (b : Nat) (w : World) : Calls Try.prog 30 #[.float .f64 b] w fun e w' => e = .returned (.bool (nanB b)) ∧ w = w' := by
  have hx := nan_eq b
  go_enter Try.func30, Try.ntmps30
  go_wp2
  go_ret
  exact ⟨rfl, rfl⟩
theorem c34 (b : Bool) (w : World) : Calls Try.prog 34 #[.bool b] w fun e w' => e = .returned (.int .i64 (rankZ b)) ∧ w = w' := by
  cases b with
  | true => exact (c34t w).mono fun _ _ h => h
  | false => exact (c34f w).mono fun _ _ h => h

/-! ### Compare -/
theorem c14 (a b : Nat) (w : World) (ha : a < 2 ^ 64) (hb : b < 2 ^ 64) : Calls Try.prog 14 #[.float .f64 a, .float .f64 b] w fun e w' => e = .returned (.int .i64 (cmpZ a b)) ∧ w = w' := by
  have r1 : rankZ true = 1 := rfl
  have r0 : rankZ false = 0 := rfl
  have HA := Lib.hid ha
  have HB := Lib.hid hb
  clear ha hb
  by_cases na : infR < rung a
  · have fa := nan_yes na
    by_cases nb : infR < rung b
    · have fb := nan_yes nb
      rw [cmp_alike ((tkey_nan na).trans (tkey_nan nb).symm)]
      clear na nb
      go_enter Try.func14, Try.ntmps14
      go_wp2_with (first | (go_at_call 30; refine (c30b _ _).mono ?_; rintro e w' ⟨rfl, rfl⟩) | (go_at_call 32; refine (c32 _ _ (by first | exact HA.out | exact HB.out)).mono ?_; rintro e w' ⟨rfl, rfl⟩) | (go_at_call 34; refine (c34 _ _).mono ?_; rintro e w' ⟨rfl, rfl⟩))
      go_ret
      exact ⟨rfl, rfl⟩
    · have fb := nan_no (show rung b ≤ infR by omega)
      rw [cmp_less (show tkey a < tkey b by have := tkey_nan na; have := tkey_num (b := b) (by omega); omega)]
      clear na nb
      go_enter Try.func14, Try.ntmps14
      go_wp2_with (first | (go_at_call 30; refine (c30b _ _).mono ?_; rintro e w' ⟨rfl, rfl⟩) | (go_at_call 32; refine (c32 _ _ (by first | exact HA.out | exact HB.out)).mono ?_; rintro e w' ⟨rfl, rfl⟩) | (go_at_call 34; refine (c34 _ _).mono ?_; rintro e w' ⟨rfl, rfl⟩))
      go_ret
      exact ⟨rfl, rfl⟩
  have na : rung a ≤ infR := by omega
  have fa := nan_no na
  by_cases nb : infR < rung b
  · have fb := nan_yes nb
    rw [cmp_more (show tkey b < tkey a by have := tkey_nan nb; have := tkey_num na; omega)]
    clear na nb
    go_enter Try.func14, Try.ntmps14
    go_wp2_with (first | (go_at_call 30; refine (c30b _ _).mono ?_; rintro e w' ⟨rfl, rfl⟩) | (go_at_call 32; refine (c32 _ _ (by first | exact HA.out | exact HB.out)).mono ?_; rintro e w' ⟨rfl, rfl⟩) | (go_at_call 34; refine (c34 _ _).mono ?_; rintro e w' ⟨rfl, rfl⟩))
    go_ret
    exact ⟨rfl, rfl⟩
  have nb : rung b ≤ infR := by omega
  have fb := nan_no nb
  have o1 := ord_lt na nb
  have o2 := ord_gt na nb
  rcases Int.lt_trichotomy (key a) (key b) with h | h | h
  · rw [cmp_less (key_lt na nb h)]
    rw [decide_eq_true h] at o1
    clear na nb h o2
    go_enter Try.func14, Try.ntmps14
    go_wp2_with (first | (go_at_call 30; refine (c30b _ _).mono ?_; rintro e w' ⟨rfl, rfl⟩) | (go_at_call 32; refine (c32 _ _ (by first | exact HA.out | exact HB.out)).mono ?_; rintro e w' ⟨rfl, rfl⟩) | (go_at_call 34; refine (c34 _ _).mono ?_; rintro e w' ⟨rfl, rfl⟩))
    go_ret
    exact ⟨rfl, rfl⟩
  · rw [decide_eq_false (by omega)] at o1 o2
    have ks := key_same na nb h
    cases hs : sgn a <;> cases hu : sgn b
    · rw [cmp_alike (ks.1 (by rw [hs, hu]))]
      clear na nb h ks
      go_enter Try.func14, Try.ntmps14
      go_wp2_with (first | (go_at_call 30; refine (c30b _ _).mono ?_; rintro e w' ⟨rfl, rfl⟩) | (go_at_call 32; refine (c32 _ _ (by first | exact HA.out | exact HB.out)).mono ?_; rintro e w' ⟨rfl, rfl⟩) | (go_at_call 34; refine (c34 _ _).mono ?_; rintro e w' ⟨rfl, rfl⟩))
      go_ret
      exact ⟨rfl, rfl⟩
    · rw [cmp_more (ks.2.2 hs hu)]
      clear na nb h ks
      go_enter Try.func14, Try.ntmps14
      go_wp2_with (first | (go_at_call 30; refine (c30b _ _).mono ?_; rintro e w' ⟨rfl, rfl⟩) | (go_at_call 32; refine (c32 _ _ (by first | exact HA.out | exact HB.out)).mono ?_; rintro e w' ⟨rfl, rfl⟩) | (go_at_call 34; refine (c34 _ _).mono ?_; rintro e w' ⟨rfl, rfl⟩))
      go_ret
      exact ⟨rfl, rfl⟩
    · rw [cmp_less (ks.2.1 hs hu)]
      clear na nb h ks
      go_enter Try.func14, Try.ntmps14
      go_wp2_with (first | (go_at_call 30; refine (c30b _ _).mono ?_; rintro e w' ⟨rfl, rfl⟩) | (go_at_call 32; refine (c32 _ _ (by first | exact HA.out | exact HB.out)).mono ?_; rintro e w' ⟨rfl, rfl⟩) | (go_at_call 34; refine (c34 _ _).mono ?_; rintro e w' ⟨rfl, rfl⟩))
      go_ret
      exact ⟨rfl, rfl⟩
    · rw [cmp_alike (ks.1 (by rw [hs, hu]))]
      clear na nb h ks
      go_enter Try.func14, Try.ntmps14
      go_wp2_with (first | (go_at_call 30; refine (c30b _ _).mono ?_; rintro e w' ⟨rfl, rfl⟩) | (go_at_call 32; refine (c32 _ _ (by first | exact HA.out | exact HB.out)).mono ?_; rintro e w' ⟨rfl, rfl⟩) | (go_at_call 34; refine (c34 _ _).mono ?_; rintro e w' ⟨rfl, rfl⟩))
      go_ret
      exact ⟨rfl, rfl⟩
  · rw [cmp_more (key_lt nb na h)]
    rw [decide_eq_true h] at o2
    rw [decide_eq_false (by omega)] at o1
    clear na nb h
    go_enter Try.func14, Try.ntmps14
    go_wp2_with (first | (go_at_call 30; refine (c30b _ _).mono ?_; rintro e w' ⟨rfl, rfl⟩) | (go_at_call 32; refine (c32 _ _ (by first | exact HA.out | exact HB.out)).mono ?_; rintro e w' ⟨rfl, rfl⟩) | (go_at_call 34; refine (c34 _ _).mono ?_; rintro e w' ⟨rfl, rfl⟩))
    go_ret
    exact ⟨rfl, rfl⟩
theorem c25 (a b : Nat) (w : World) (ha : a < 2 ^ 64) (hb : b < 2 ^ 64) : Calls Try.prog 25 #[.float .f64 a, .float .f64 b] w fun e w' => e = .returned (.int .i64 (cmpZ a b)) ∧ w = w' := by
  have r1 : rankZ true = 1 := rfl
  have r0 : rankZ false = 0 := rfl
  have HA := Lib.hid ha
  have HB := Lib.hid hb
  clear ha hb
  have q1 := nan_eq a
  have q2 := nan_eq b
  by_cases na : infR < rung a
  · have fa := nan_yes na
    by_cases nb : infR < rung b
    · have fb := nan_yes nb
      rw [cmp_alike ((tkey_nan na).trans (tkey_nan nb).symm)]
      clear na nb
      go_enter Try.func25, Try.ntmps25
      go_wp2_with (first | (go_at_call 32; refine (c32 _ _ (by first | exact HA.out | exact HB.out)).mono ?_; rintro e w' ⟨rfl, rfl⟩) | fail)
      go_ret
      exact ⟨rfl, rfl⟩
    · have fb := nan_no (show rung b ≤ infR by omega)
      rw [cmp_less (show tkey a < tkey b by have := tkey_nan na; have := tkey_num (b := b) (by omega); omega)]
      clear na nb
      go_enter Try.func25, Try.ntmps25
      go_wp2_with (first | (go_at_call 32; refine (c32 _ _ (by first | exact HA.out | exact HB.out)).mono ?_; rintro e w' ⟨rfl, rfl⟩) | fail)
      go_ret
      exact ⟨rfl, rfl⟩
  have na : rung a ≤ infR := by omega
  have fa := nan_no na
  by_cases nb : infR < rung b
  · have fb := nan_yes nb
    rw [cmp_more (show tkey b < tkey a by have := tkey_nan nb; have := tkey_num na; omega)]
    clear na nb
    go_enter Try.func25, Try.ntmps25
    go_wp2_with (first | (go_at_call 32; refine (c32 _ _ (by first | exact HA.out | exact HB.out)).mono ?_; rintro e w' ⟨rfl, rfl⟩) | fail)
    go_ret
    exact ⟨rfl, rfl⟩
  have nb : rung b ≤ infR := by omega
  have fb := nan_no nb
  have o1 := ord_lt na nb
  have o2 := ord_gt na nb
  rcases Int.lt_trichotomy (key a) (key b) with h | h | h
  · rw [cmp_less (key_lt na nb h)]
    rw [decide_eq_true h] at o1
    clear na nb h o2
    go_enter Try.func25, Try.ntmps25
    go_wp2_with (first | (go_at_call 32; refine (c32 _ _ (by first | exact HA.out | exact HB.out)).mono ?_; rintro e w' ⟨rfl, rfl⟩) | fail)
    go_ret
    exact ⟨rfl, rfl⟩
  · rw [decide_eq_false (by omega)] at o1 o2
    have ks := key_same na nb h
    cases hs : sgn a <;> cases hu : sgn b
    · rw [cmp_alike (ks.1 (by rw [hs, hu]))]
      clear na nb h ks
      go_enter Try.func25, Try.ntmps25
      go_wp2_with (first | (go_at_call 32; refine (c32 _ _ (by first | exact HA.out | exact HB.out)).mono ?_; rintro e w' ⟨rfl, rfl⟩) | fail)
      go_ret
      exact ⟨rfl, rfl⟩
    · rw [cmp_more (ks.2.2 hs hu)]
      clear na nb h ks
      go_enter Try.func25, Try.ntmps25
      go_wp2_with (first | (go_at_call 32; refine (c32 _ _ (by first | exact HA.out | exact HB.out)).mono ?_; rintro e w' ⟨rfl, rfl⟩) | fail)
      go_ret
      exact ⟨rfl, rfl⟩
    · rw [cmp_less (ks.2.1 hs hu)]
      clear na nb h ks
      go_enter Try.func25, Try.ntmps25
      go_wp2_with (first | (go_at_call 32; refine (c32 _ _ (by first | exact HA.out | exact HB.out)).mono ?_; rintro e w' ⟨rfl, rfl⟩) | fail)
      go_ret
      exact ⟨rfl, rfl⟩
    · rw [cmp_alike (ks.1 (by rw [hs, hu]))]
      clear na nb h ks
      go_enter Try.func25, Try.ntmps25
      go_wp2_with (first | (go_at_call 32; refine (c32 _ _ (by first | exact HA.out | exact HB.out)).mono ?_; rintro e w' ⟨rfl, rfl⟩) | fail)
      go_ret
      exact ⟨rfl, rfl⟩
  · rw [cmp_more (key_lt nb na h)]
    rw [decide_eq_true h] at o2
    rw [decide_eq_false (by omega)] at o1
    clear na nb h
    go_enter Try.func25, Try.ntmps25
    go_wp2_with (first | (go_at_call 32; refine (c32 _ _ (by first | exact HA.out | exact HB.out)).mono ?_; rintro e w' ⟨rfl, rfl⟩) | fail)
    go_ret
    exact ⟨rfl, rfl⟩

end Go.Proofs.Ytibijjaeekameaa
