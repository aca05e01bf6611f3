/-
  Float, the program's and the document's own; the walks of EdgeKnown and EdgeKinds.
-/
import Derived.Test.YtibijjaeekameaaW3
import Derived.Deep.RegionWith
namespace Go.Proofs.Ytibijjaeekameaa
open Go.RowKit
open Fl

theorem floatOf_in {n : Int} (h : 1 ≤ n ∧ n ≤ 1048576) : floatOfInt .f64 n = near n.toNat := by
  have b : (1048576 : Nat) < 2 ^ 53 := by decide
  have := floatOf (n := n.toNat) (by omega)
  rw [show ((n.toNat : Nat) : Int) = n by omega] at this
  exact this
theorem c16 (n : Int) (w : World) : Calls Try.prog 16 #[.int .i64 n] w fun e w' => e = .returned (.tuple #[.float .f64 (floatZ n), .bool (inB n)]) ∧ w = w' := by
  by_cases h1 : n < 1
  · rw [(in_no (by omega)).1, (in_no (by omega)).2]
    go_enter Try.func16, Try.ntmps16
    go_wp2
    go_ret2
    exact ⟨rfl, rfl⟩
  by_cases h2 : 1048576 < n
  · rw [(in_no (by omega)).1, (in_no (by omega)).2]
    go_enter Try.func16, Try.ntmps16
    go_wp2
    go_ret2
    exact ⟨rfl, rfl⟩
  have hc := floatOf_in (n := n) (by omega)
  rw [(in_yes (by omega)).1, (in_yes (by omega)).2]
  go_enter Try.func16, Try.ntmps16
  go_wp2
  go_ret2
  exact ⟨rfl, rfl⟩
theorem c17 (n : Int) (w : World) : Calls Try.prog 17 #[.int .i64 n] w fun e w' => e = .returned (.tuple #[.float .f64 (floatZ n), .bool (inB n)]) ∧ w = w' := by
  by_cases h1 : n < 1
  · rw [(in_no (by omega)).1, (in_no (by omega)).2]
    go_enter Try.func17, Try.ntmps17
    go_wp2
    go_ret2
    exact ⟨rfl, rfl⟩
  by_cases h2 : 1048576 < n
  · rw [(in_no (by omega)).1, (in_no (by omega)).2]
    go_enter Try.func17, Try.ntmps17
    go_wp2
    go_ret2
    exact ⟨rfl, rfl⟩
  have hc := floatOf_in (n := n) (by omega)
  rw [(in_yes (by omega)).1, (in_yes (by omega)).2]
  go_enter Try.func17, Try.ntmps17
  go_wp2
  go_ret2
  exact ⟨rfl, rfl⟩

def infZ (s : Int) : Nat := if 0 ≤ s then 9218868437227405312 else 18442240474082181120
theorem c11 (s : Int) (w : World) : Calls Try.prog 11 #[.int .i64 s] w fun e w' => e = .returned (.float .f64 (infZ s)) ∧ w = w' := by
  have h1 := fun w => x29 9218868437227405312 w
  have h2 := fun w => x29 18442240474082181120 w
  by_cases h : 0 ≤ s
  · rw [show infZ s = 9218868437227405312 from if_pos h]
    go_enter Try.func11, Try.ntmps11
    go_wp2
    go_ret
    exact ⟨rfl, rfl⟩
  · rw [show infZ s = 18442240474082181120 from if_neg h]
    go_enter Try.func11, Try.ntmps11
    go_wp2
    go_ret
    exact ⟨rfl, rfl⟩

set_option maxRecDepth 100000 in
set_option maxHeartbeats 1000000 in
theorem walkKnown (w : World) : Calls Try.prog 3 #[] w fun e w' => e = .returned (.bool true) ∧ w = w' := by
  have n0 : kindZ 9221120237041090561 = 0 := kind_nan (by decide)
  have n1 : kindZ 9218868437227405312 = 1 := kind_inf (by decide)
  have n2 : kindZ 18442240474082181120 = 1 := kind_inf (by decide)
  have n3 := kinds_half
  have n4 := kind_zero
  have n5 : kindZ 13837309855095848960 = 2 := kind_neg (by decide) (by decide)
  have n6 : kindZ 4701758010974797824 = 4 := near_great (n := 2097152) (by decide) (by decide)
  obtain ⟨a1, a2⟩ := work_no (b := 9221120237041090561) (by rw [n0]; decide)
  obtain ⟨b1, b2⟩ := work_no (b := 9218868437227405312) (by rw [n1]; decide)
  obtain ⟨d1, d2⟩ := work_no (b := 18442240474082181120) (by rw [n2]; decide)
  obtain ⟨e1, e2⟩ := work_no (b := 0) (by rw [n4]; decide)
  obtain ⟨f1, f2⟩ := work_near (n := 1048576) (by decide) (by decide)
  rw [show near 1048576 = 4697254411347427328 by decide +kernel] at f1 f2
  have g0 : kindZ 4697254415642394624 = 4 := near_great (n := 1048577) (by decide) (by decide)
  obtain ⟨g1, g2⟩ := work_no (b := 4697254415642394624) (by rw [g0]; decide)
  obtain ⟨i1, i2⟩ := work_no (b := 9218868437227405311) (fun h => absurd (kind_of_fine h).2.2.2.2 (by decide))
  have p1 : cmpZ 9221120237041090561 18442240474082181120 = -1 := by decide
  have p2 : cmpZ 18442240474082181120 9218868437227405312 = -1 := by decide
  have i3 : infZ 1 = 9218868437227405312 := rfl
  have i4 : infZ (-1) = 18442240474082181120 := rfl
  clear g0
  go_enter Try.func3, Try.ntmps3
  go_wp2_with (first | (go_at_call 9; refine (c9 _).mono ?_; rintro e w' ⟨rfl, rfl⟩) | (go_at_call 10; refine (c10 _).mono ?_; rintro e w' ⟨rfl, rfl⟩) | (go_at_call 11; refine (c11 _ _).mono ?_; rintro e w' ⟨rfl, rfl⟩) | (go_at_call 12; refine (c12 _ _ (by decide)).mono ?_; rintro e w' ⟨rfl, rfl⟩) | (go_at_call 13; refine (c13 _ _ (by decide)).mono ?_; rintro e w' ⟨rfl, rfl⟩) | (go_at_call 14; refine (c14 _ _ _ (by decide) (by decide)).mono ?_; rintro e w' ⟨rfl, rfl⟩))
  go_ret
  exact ⟨rfl, rfl⟩

theorem walkKinds (b : Nat) (n : Int) (w : World) (h : b < 2 ^ 64) : Calls Try.prog 4 #[.float .f64 b, .int .i64 n] w fun e w' => e = .returned (.bool true) ∧ w = w' := by
  have H := Lib.hid h
  have HF := Lib.hid (floatZ_lt n)
  clear h
  by_cases hn : 1 ≤ n ∧ n ≤ 1048576
  · obtain ⟨a1, a2⟩ := work_float hn
    have a3 := (in_yes hn).1
    have hr : rung (floatZ n) ≤ infR := by
      rw [(in_yes hn).2]
      have b : (1048576 : Nat) < 2 ^ 53 := by decide
      rw [rung_near (by omega)]
      exact Nat.le_of_lt (near_lt (by omega))
    have a4 : (FloatKind.f64.format.order (floatZ n) (floatZ n) == some Ordering.eq) = true := by
      rw [ord_eq hr hr]; exact decide_eq_true rfl
    clear hn hr
    go_enter Try.func4, Try.ntmps4
    go_wp2_with (first | (go_at_call 9; refine (c9 _).mono ?_; rintro e w' ⟨rfl, rfl⟩) | (go_at_call 12; refine (c12 _ _ (by first | exact H.out | exact HF.out)).mono ?_; rintro e w' ⟨rfl, rfl⟩) | (go_at_call 15; refine (c15 _ _ (by exact H.out)).mono ?_; rintro e w' ⟨rfl, rfl⟩) | (go_at_call 13; refine (c13 _ _ (by exact H.out)).mono ?_; rintro e w' ⟨rfl, rfl⟩) | (go_at_call 18; refine (c18 _ _ (by exact H.out)).mono ?_; rintro e w' ⟨rfl, rfl⟩) | (go_at_call 16; refine (c16 _ _).mono ?_; rintro e w' ⟨rfl, rfl⟩) | (go_at_call 17; refine (c17 _ _).mono ?_; rintro e w' ⟨rfl, rfl⟩))
    go_ret
    exact ⟨rfl, rfl⟩
  · have a3 := (in_no hn).1
    clear hn
    go_enter Try.func4, Try.ntmps4
    go_wp2_with (first | (go_at_call 9; refine (c9 _).mono ?_; rintro e w' ⟨rfl, rfl⟩) | (go_at_call 12; refine (c12 _ _ (by first | exact H.out | exact HF.out)).mono ?_; rintro e w' ⟨rfl, rfl⟩) | (go_at_call 15; refine (c15 _ _ (by exact H.out)).mono ?_; rintro e w' ⟨rfl, rfl⟩) | (go_at_call 13; refine (c13 _ _ (by exact H.out)).mono ?_; rintro e w' ⟨rfl, rfl⟩) | (go_at_call 18; refine (c18 _ _ (by exact H.out)).mono ?_; rintro e w' ⟨rfl, rfl⟩) | (go_at_call 16; refine (c16 _ _).mono ?_; rintro e w' ⟨rfl, rfl⟩) | (go_at_call 17; refine (c17 _ _).mono ?_; rintro e w' ⟨rfl, rfl⟩))
    go_ret
    exact ⟨rfl, rfl⟩
end Go.Proofs.Ytibijjaeekameaa
