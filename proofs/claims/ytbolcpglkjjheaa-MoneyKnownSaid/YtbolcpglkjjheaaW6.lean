/-
  The walk of MoneyKnown.
-/
import Derived.Test.YtbolcpglkjjheaaW5
namespace Go.Proofs.Ytbolcpglkjjheaa
open Go.RowKit

theorem row_three (w : World) (x y z : Int) : Row (w.alloc (Obj.cells #[.int .i64 x, .int .i64 y, .int .i64 z] 3)) (some ⟨w.heap.size, 0, none⟩) [x, y, z] := by
  refine .inr ⟨_, _, rfl, fun i hi => ?_⟩
  match i, hi with
  | 0, _ => simp [go_sem]
  | 1, _ => simp [go_sem]
  | 2, _ => simp [go_sem]
  | n + 3, h => exact absurd h (by simp)
theorem row_one (w : World) (x : Int) : Row (w.alloc (Obj.cells #[.int .i64 x] 3)) (some ⟨w.heap.size, 0, none⟩) [x] := by
  refine .inr ⟨_, _, rfl, fun i hi => ?_⟩
  match i, hi with
  | 0, _ => simp [go_sem]
  | n + 1, h => exact absurd h (by simp)
theorem sum_three (x y z : Int) (w : World) : Calls Try.prog 15 #[.slice (some ⟨w.heap.size, 0, none⟩) 3 3] (w.alloc (Obj.cells #[.int .i64 x, .int .i64 y, .int .i64 z] 3)) fun e w' => e = .returned (.tuple #[.int .i64 (sumZ [x, y, z]), .bool (okB [x, y, z])]) ∧ Below w.heap.size w w' :=
  (c15 _ 3 3 _ _ rfl (by decide) (row_three w x y z)).mono fun _ _ h => ⟨h.1, ((Below.refl _ _).alloc (Nat.le_refl _) _).trans (h.2.mono (by simp))⟩
theorem sum_one (x : Int) (w : World) : Calls Try.prog 15 #[.slice (some ⟨w.heap.size, 0, none⟩) 1 1] (w.alloc (Obj.cells #[.int .i64 x] 3)) fun e w' => e = .returned (.tuple #[.int .i64 (sumZ [x]), .bool (okB [x])]) ∧ Below w.heap.size w w' :=
  (c15 _ 1 1 _ _ rfl (by decide) (row_one w x)).mono fun _ _ h => ⟨h.1, ((Below.refl _ _).alloc (Nat.le_refl _) _).trans (h.2.mono (by simp))⟩
theorem sum_nil (w : World) : Calls Try.prog 15 #[.slice none 0 0] w fun e w' => e = .returned (.tuple #[.int .i64 (sumZ []), .bool (okB [])]) ∧ Below w.heap.size w w' :=
  c15 _ 0 0 [] _ rfl (by decide) (.inl rfl)

set_option maxHeartbeats 1000000 in
theorem walkKnown (w : World) : Calls Try.prog 7 #[] w fun e w' => e = .returned (.bool true) ∧ Below w.heap.size w w' := by
  have m1 : addB 1125899906842624 1 = false := by decide
  have m2 : addB 1125899906842624 0 = true := by decide
  have m3 : addZ 1125899906842624 0 = 1125899906842624 := by decide
  have m4 : subB 1 2 = false := by decide
  have m5 : mayB (-1) = false := by decide
  have m6 : mayB 1125899906842625 = false := by decide
  have m7 : mayB 0 = true := by decide
  have k1 : okB [1, 2, 3] = true := by decide
  have k2 : sumZ [1, 2, 3] = 6 := by decide
  have k3 : okB [] = true := by decide
  have k4 : sumZ [] = 0 := by decide
  have k5 : okB [-1] = false := by decide
  have k6 : okB [5, -1, 1] = false := by decide
  go_enter Try.func7, Try.ntmps7
  go_wp2_with (first | (go_at_call 8; refine (c8 _).mono ?_; rintro e w' ⟨rfl, rfl⟩) | (go_at_call 9; refine (c9 _ _ _).mono ?_; rintro e w' ⟨rfl, rfl⟩) | (go_at_call 11; refine (c11 _ _ _).mono ?_; rintro e w' ⟨rfl, rfl⟩))
  refine (sum_three 1 2 3 _).mono ?_
  rintro e w1 ⟨rfl, hb1⟩
  have B1 := Lib.hid hb1
  clear hb1
  go_wp2_with fail
  refine (sum_nil _).mono ?_
  rintro e w2 ⟨rfl, hb2⟩
  have B2 := Lib.hid (B1.out.trans (hb2.mono B1.out.size))
  clear hb2
  go_wp2_with fail
  refine (sum_one (-1) _).mono ?_
  rintro e w3 ⟨rfl, hb3⟩
  have B3 := Lib.hid (B2.out.trans (hb3.mono B2.out.size))
  clear hb3
  go_wp2_with fail
  refine (sum_three 5 (-1) 1 _).mono ?_
  rintro e w4 ⟨rfl, hb4⟩
  have B4 := Lib.hid (B3.out.trans (hb4.mono B3.out.size))
  clear hb4
  go_wp2_with (go_at_call 13; refine (c13 _ _).mono ?_; rintro e w' ⟨rfl, rfl⟩)
  go_ret
  exact ⟨rfl, B4.out⟩
end Go.Proofs.Ytbolcpglkjjheaa
