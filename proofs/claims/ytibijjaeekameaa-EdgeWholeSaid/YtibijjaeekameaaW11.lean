/-
  EdgeWhole: the floats beside a whole number are none; the walk of Nextafter.
-/
import Derived.Test.YtibijjaeekameaaW4
import Derived.Test.YtibijjaeekameaaW9
namespace Go.Proofs.Ytibijjaeekameaa
open Go.RowKit
open Fl

theorem near_63 {n : Nat} (h : n < 2 ^ 53) : near n < 2 ^ 63 := by
  have := near_lt h
  have := infR_lt
  omega
theorem small53 {n : Nat} (h : n ≤ 1048577) : n < 2 ^ 53 := by
  have : (1048577 : Nat) < 2 ^ 53 := by decide
  omega
theorem small50 {n : Nat} (h : n ≤ 1048577) : n < 2 ^ 50 := by
  have : (1048577 : Nat) < 2 ^ 50 := by decide
  omega
theorem near_ge {n : Nat} (h0 : 0 < n) (h : n ≤ 1048577) : 2 ≤ near n := by
  have h1 : near 0 + 2 ≤ near 1 := near_gap (n := 0) (by decide)
  have h2 : near 1 ≤ near n := by
    rcases Nat.lt_or_eq_of_le h0 with g | g
    · exact Nat.le_of_lt ((near_lt_iff (by decide) (small53 h)).2 g)
    · rw [← g]; exact Nat.le_refl _
  omega
/-- a float between two whole numbers is none -/
theorem between_none {b n : Nat} (hb : b < 2 ^ 63) (hn : n + 1 ≤ 1048577) (h1 : near n < b) (h2 : b < near (n + 1)) : kindZ b ≠ 5 := by
  intro h
  obtain ⟨f1, f2, _, f4, _⟩ := kind_of_fine h
  have hw := wk_between hb (small53 hn) (Nat.le_of_lt h1) h2
  rw [tr_eq f1 f2 (by rw [hw]; exact small53 (by omega)), hw] at f4
  omega
theorem above_none {n : Nat} (h : n ≤ 1048576) : kindZ (near n + 1) ≠ 5 := by
  have g := near_gap (n := n) (small50 (by omega))
  have := near_63 (n := n + 1) (small53 (by omega))
  exact between_none (n := n) (by omega) (by omega) (by omega) (by omega)
theorem below_none {n : Nat} (h0 : 0 < n) (h : n ≤ 1048576) : kindZ (near n - 1) ≠ 5 := by
  obtain ⟨m, rfl⟩ : ∃ m, n = m + 1 := ⟨n - 1, by omega⟩
  have g := near_gap (n := m) (small50 (by omega))
  have := near_63 (n := m + 1) (small53 (by omega))
  exact between_none (n := m) (by omega) (by omega) (by omega) (by omega)
theorem neg_sgn (b : Nat) : sgn (b ^^^ 2 ^ 63) = !sgn b := by
  have e : ∀ x, sgn x = x.testBit 63 := fun x => by
    unfold sgn
    rw [Nat.testBit_eq_decide_div_mod_eq, Bool.eq_iff_iff]
    simp
  rw [e, e, Nat.testBit_xor, Nat.testBit_two_pow_self]
  cases b.testBit 63 <;> rfl
theorem neg_rung (b : Nat) : rung (b ^^^ 2 ^ 63) = rung b := by
  unfold rung
  rw [Nat.xor_mod_two_pow, Nat.mod_self, Nat.xor_zero]
theorem neg_none {n : Nat} (h0 : 0 < n) (h : n ≤ 1048576) : kindZ (near n ^^^ 2 ^ 63) = 2 := by
  apply kind_neg
  · rw [neg_rung, rung_near (small53 (by omega))]; exact near_lt (small53 (by omega))
  · rw [neg_sgn, sgn_small (near_63 (small53 (by omega)))]; rfl

theorem c26u (n : Nat) (w : World) (h0 : 0 < n) (h : n ≤ 1048576) : Calls Try.prog 26 #[.float .f64 (near n), .float .f64 9218868437227405312] w fun e w' => e = .returned (.float .f64 (near n + 1)) ∧ w = w' := by
  have hn := small53 (show n ≤ 1048577 by omega)
  have r1 : rung (near n) ≤ infR := by rw [rung_near hn]; exact Nat.le_of_lt (near_lt hn)
  have r2 : rung 9218868437227405312 ≤ infR := by decide
  have k1 := key_small (near_63 hn)
  have k2 : key 9218868437227405312 = 9218868437227405312 := by decide
  have k0 : key 0 = 0 := by decide
  have lt := near_lt hn
  have gt := near_ge h0 (by omega)
  have li : (infR : Int) = 9218868437227405312 := by decide
  have n1 := nan_no r1
  have n2 := nan_no r2
  have o1 : (FloatKind.f64.format.order (near n) 9218868437227405312 == some Ordering.eq) = false := by rw [ord_eq r1 r2, k1, k2]; exact decide_eq_false (by omega)
  have o2 : (FloatKind.f64.format.order (near n) 0 == some Ordering.eq) = false := by rw [ord_eq r1 (by decide), k1]; exact decide_eq_false (by rw [k0]; omega)
  have o3 : (FloatKind.f64.format.order 9218868437227405312 (near n) == some Ordering.gt) = true := by rw [ord_gt r2 r1, k1, k2]; exact decide_eq_true (by omega)
  have o4 : (FloatKind.f64.format.order (near n) 0 == some Ordering.gt) = true := by rw [ord_gt r1 (by decide), k1]; exact decide_eq_true (by rw [k0]; omega)
  have hx := fun w => x36 (near n) w
  have hy := fun b w => x29 b w
  have lb : (near n : Int) < 9218868437227405312 := by omega
  have lp : (2 : Int) ≤ near n := by omega
  clear r1 r2 k0 k1 k2 lt gt li
  go_enter Try.func26, Try.ntmps26
  go_wp2_with (go_at_call 30; refine (c30b _ _).mono ?_; rintro e w' ⟨rfl, rfl⟩)
  go_ret
  exact ⟨rfl, rfl⟩

theorem c26d (n : Nat) (w : World) (h0 : 0 < n) (h : n ≤ 1048576) : Calls Try.prog 26 #[.float .f64 (near n), .float .f64 0] w fun e w' => e = .returned (.float .f64 (near n - 1)) ∧ w = w' := by
  have hn := small53 (show n ≤ 1048577 by omega)
  have r1 : rung (near n) ≤ infR := by rw [rung_near hn]; exact Nat.le_of_lt (near_lt hn)
  have k1 := key_small (near_63 hn)
  have k0 : key 0 = 0 := by decide
  have lt := near_lt hn
  have gt := near_ge h0 (by omega)
  have li : (infR : Int) = 9218868437227405312 := by decide
  have n1 := nan_no r1
  have n2 : nanB 0 = false := nan_no (by decide)
  have o2 : (FloatKind.f64.format.order (near n) 0 == some Ordering.eq) = false := by rw [ord_eq r1 (by decide), k1, k0]; exact decide_eq_false (by omega)
  have o3 : (FloatKind.f64.format.order 0 (near n) == some Ordering.gt) = false := by rw [ord_gt (by decide) r1, k1, k0]; exact decide_eq_false (by omega)
  have o4 : (FloatKind.f64.format.order (near n) 0 == some Ordering.gt) = true := by rw [ord_gt r1 (by decide), k1, k0]; exact decide_eq_true (by omega)
  have hx := fun w => x36 (near n) w
  have hy := fun b w => x29 b w
  have lb : (near n : Int) < 9218868437227405312 := by omega
  have lp : (2 : Int) ≤ near n := by omega
  clear r1 k1 k0 lt li
  clear gt
  go_enter Try.func26, Try.ntmps26
  go_wp2_with (go_at_call 30; refine (c30b _ _).mono ?_; rintro e w' ⟨rfl, rfl⟩)
  go_ret
  exact ⟨rfl, rfl⟩
end Go.Proofs.Ytibijjaeekameaa
