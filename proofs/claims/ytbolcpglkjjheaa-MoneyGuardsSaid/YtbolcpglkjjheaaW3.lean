/-
  The walks of MoneyReckons and MoneyBack.
-/
import Derived.Test.YtbolcpglkjjheaaW2
namespace Go.Proofs.Ytbolcpglkjjheaa
open Go.RowKit

theorem toBelow {K : Nat} {args : Array Value} {w : World} {v : Ending} (h : Calls Try.prog K args w fun e w' => e = v ∧ w = w') : Calls Try.prog K args w fun e w' => e = v ∧ Below w.heap.size w w' :=
  h.mono fun _ _ h => ⟨h.1, h.2 ▸ Below.refl _ _⟩

set_option maxHeartbeats 1000000 in
theorem walkReckons (a b : Int) (w : World) : Calls Try.prog 3 #[.int .i64 a, .int .i64 b] w fun e w' => e = .returned (.bool true) ∧ w = w' := by
  go_enter Try.func3, Try.ntmps3
  go_wp2_with (first | (go_at_call 8; refine (c8 _).mono ?_; rintro e w' ⟨rfl, rfl⟩) | (go_at_call 9; refine (c9 _ _ _).mono ?_; rintro e w' ⟨rfl, rfl⟩) | (go_at_call 10; refine (c10 _ _ _).mono ?_; rintro e w' ⟨rfl, rfl⟩) | (go_at_call 11; refine (c11 _ _ _).mono ?_; rintro e w' ⟨rfl, rfl⟩) | (go_at_call 12; refine (c12 _ _ _).mono ?_; rintro e w' ⟨rfl, rfl⟩) | (go_at_call 13; refine (c13 _ _).mono ?_; rintro e w' ⟨rfl, rfl⟩) | (go_at_call 14; refine (c14 _ _).mono ?_; rintro e w' ⟨rfl, rfl⟩))
  go_ret
  exact ⟨rfl, rfl⟩

set_option maxHeartbeats 2000000 in
theorem walkBack (a b : Int) (w : World) : Calls Try.prog 6 #[.int .i64 a, .int .i64 b] w fun e w' => e = .returned (.bool true) ∧ w = w' := by
  by_cases h : addB a b = true
  · have h' := add_iff.mp h
    obtain ⟨a1, a2, b1, b2, s1⟩ := h'
    have hz : addZ a b = a + b := if_pos h
    have u1 : subB (a + b) a = true := (sub_yes (by omega)).1
    have u2 : subZ (a + b) a = b := by rw [(sub_yes (by omega)).2]; omega
    have v1 : subB (a + b) b = true := (sub_yes (by omega)).1
    have v2 : subZ (a + b) b = a := by rw [(sub_yes (by omega)).2]; omega
    have m1 : mayB (a + b) = true := may_yes ⟨by omega, by omega⟩
    by_cases hb : b = 0
    · have x1 : subB a (a + b) = true := (sub_yes (by omega)).1
      have hb' : (b == 0) = true := by simpa using hb
      clear hb
      go_enter Try.func6, Try.ntmps6
      go_wp2_with (first | (go_at_call 8; refine (c8 _).mono ?_; rintro e w' ⟨rfl, rfl⟩) | (go_at_call 9; refine (c9 _ _ _).mono ?_; rintro e w' ⟨rfl, rfl⟩) | (go_at_call 11; refine (c11 _ _ _).mono ?_; rintro e w' ⟨rfl, rfl⟩) | (go_at_call 13; refine (c13 _ _).mono ?_; rintro e w' ⟨rfl, rfl⟩))
      go_ret
      exact ⟨rfl, rfl⟩
    · have x1 : subB a (a + b) = false := (sub_no (by omega)).1
      have hb' : (b == 0) = false := by simpa using hb
      clear hb
      go_enter Try.func6, Try.ntmps6
      go_wp2_with (first | (go_at_call 8; refine (c8 _).mono ?_; rintro e w' ⟨rfl, rfl⟩) | (go_at_call 9; refine (c9 _ _ _).mono ?_; rintro e w' ⟨rfl, rfl⟩) | (go_at_call 11; refine (c11 _ _ _).mono ?_; rintro e w' ⟨rfl, rfl⟩) | (go_at_call 13; refine (c13 _ _).mono ?_; rintro e w' ⟨rfl, rfl⟩))
      go_ret
      exact ⟨rfl, rfl⟩
  · have h0 : addB a b = false := by simpa using h
    have hn : ¬ (0 ≤ a ∧ a ≤ 1125899906842624 ∧ 0 ≤ b ∧ b ≤ 1125899906842624 ∧ a + b ≤ 1125899906842624) := fun g => h (add_iff.mpr g)
    have HN := Lib.hid hn
    clear h hn
    by_cases k1 : a < 0
    · go_enter Try.func6, Try.ntmps6
      go_wp2_with (first | (go_at_call 8; refine (c8 _).mono ?_; rintro e w' ⟨rfl, rfl⟩) | (go_at_call 9; refine (c9 _ _ _).mono ?_; rintro e w' ⟨rfl, rfl⟩) | (go_at_call 11; refine (c11 _ _ _).mono ?_; rintro e w' ⟨rfl, rfl⟩) | (go_at_call 13; refine (c13 _ _).mono ?_; rintro e w' ⟨rfl, rfl⟩))
      go_ret
      exact ⟨rfl, rfl⟩
    by_cases k2 : b < 0
    · go_enter Try.func6, Try.ntmps6
      go_wp2_with (first | (go_at_call 8; refine (c8 _).mono ?_; rintro e w' ⟨rfl, rfl⟩) | (go_at_call 9; refine (c9 _ _ _).mono ?_; rintro e w' ⟨rfl, rfl⟩) | (go_at_call 11; refine (c11 _ _ _).mono ?_; rintro e w' ⟨rfl, rfl⟩) | (go_at_call 13; refine (c13 _ _).mono ?_; rintro e w' ⟨rfl, rfl⟩))
      go_ret
      exact ⟨rfl, rfl⟩
    by_cases k3 : 1125899906842624 < a
    · go_enter Try.func6, Try.ntmps6
      go_wp2_with (first | (go_at_call 8; refine (c8 _).mono ?_; rintro e w' ⟨rfl, rfl⟩) | (go_at_call 9; refine (c9 _ _ _).mono ?_; rintro e w' ⟨rfl, rfl⟩) | (go_at_call 11; refine (c11 _ _ _).mono ?_; rintro e w' ⟨rfl, rfl⟩) | (go_at_call 13; refine (c13 _ _).mono ?_; rintro e w' ⟨rfl, rfl⟩))
      go_ret
      exact ⟨rfl, rfl⟩
    by_cases k4 : 1125899906842624 < b
    · go_enter Try.func6, Try.ntmps6
      go_wp2_with (first | (go_at_call 8; refine (c8 _).mono ?_; rintro e w' ⟨rfl, rfl⟩) | (go_at_call 9; refine (c9 _ _ _).mono ?_; rintro e w' ⟨rfl, rfl⟩) | (go_at_call 11; refine (c11 _ _ _).mono ?_; rintro e w' ⟨rfl, rfl⟩) | (go_at_call 13; refine (c13 _ _).mono ?_; rintro e w' ⟨rfl, rfl⟩))
      go_ret
      exact ⟨rfl, rfl⟩
    have k5 : 1125899906842624 - b < a := by
      have := HN.out
      omega
    go_enter Try.func6, Try.ntmps6
    go_wp2_with (first | (go_at_call 8; refine (c8 _).mono ?_; rintro e w' ⟨rfl, rfl⟩) | (go_at_call 9; refine (c9 _ _ _).mono ?_; rintro e w' ⟨rfl, rfl⟩) | (go_at_call 11; refine (c11 _ _ _).mono ?_; rintro e w' ⟨rfl, rfl⟩) | (go_at_call 13; refine (c13 _ _).mono ?_; rintro e w' ⟨rfl, rfl⟩))
    go_ret
    exact ⟨rfl, rfl⟩

end Go.Proofs.Ytbolcpglkjjheaa
