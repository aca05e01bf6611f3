/-
  Money: Add, Sub of the program and of the document; Must, that panics; Guard over any function that ends or panics.
-/
import Derived.Test.YtbolcpglkjjheaaW0
namespace Go.Proofs.Ytbolcpglkjjheaa
open Go.RowKit

theorem c9 (a b : Int) (w : World) : Calls Try.prog 9 #[.int .i64 a, .int .i64 b] w fun e w' => e = .returned (.tuple #[.int .i64 (addZ a b), .bool (addB a b)]) ∧ w = w' := by
  by_cases ha : May a
  · have ma := may_yes ha
    by_cases hb : May b
    · have mb := may_yes hb
      by_cases hs : a + b ≤ 1125899906842624
      · rw [(add_yes ⟨ha.1, ha.2, hb.1, hb.2, hs⟩).1, (add_yes ⟨ha.1, ha.2, hb.1, hb.2, hs⟩).2]
        obtain ⟨a1, a2⟩ := ha
        obtain ⟨b1, b2⟩ := hb
        have ms : mayB (a + b) = true := may_yes ⟨by omega, by omega⟩
        go_enter Try.func9, Try.ntmps9
        go_wp2_with (go_at_call 13; refine (c13 _ _).mono ?_; rintro e w' ⟨rfl, rfl⟩)
        go_ret2
        exact ⟨rfl, rfl⟩
      · rw [(add_no (by omega)).1, (add_no (by omega)).2]
        obtain ⟨a1, a2⟩ := ha
        obtain ⟨b1, b2⟩ := hb
        have ms : mayB (a + b) = false := may_no (by omega)
        clear hs
        go_enter Try.func9, Try.ntmps9
        go_wp2_with (go_at_call 13; refine (c13 _ _).mono ?_; rintro e w' ⟨rfl, rfl⟩)
        go_ret2
        exact ⟨rfl, rfl⟩
    · have mb := may_no hb
      rw [(add_no (fun h => hb ⟨by omega, by omega⟩)).1, (add_no (fun h => hb ⟨by omega, by omega⟩)).2]
      clear ha hb
      go_enter Try.func9, Try.ntmps9
      go_wp2_with (go_at_call 13; refine (c13 _ _).mono ?_; rintro e w' ⟨rfl, rfl⟩)
      go_ret2
      exact ⟨rfl, rfl⟩
  · have ma := may_no ha
    rw [(add_no (fun h => ha ⟨by omega, by omega⟩)).1, (add_no (fun h => ha ⟨by omega, by omega⟩)).2]
    clear ha
    go_enter Try.func9, Try.ntmps9
    go_wp2_with (go_at_call 13; refine (c13 _ _).mono ?_; rintro e w' ⟨rfl, rfl⟩)
    go_ret2
    exact ⟨rfl, rfl⟩
theorem c11 (a b : Int) (w : World) : Calls Try.prog 11 #[.int .i64 a, .int .i64 b] w fun e w' => e = .returned (.tuple #[.int .i64 (subZ a b), .bool (subB a b)]) ∧ w = w' := by
  by_cases ha : May a
  · have ma := may_yes ha
    by_cases hb : May b
    · have mb := may_yes hb
      by_cases hs : b ≤ a
      · rw [(sub_yes ⟨ha.1, ha.2, hb.1, hb.2, hs⟩).1, (sub_yes ⟨ha.1, ha.2, hb.1, hb.2, hs⟩).2]
        obtain ⟨a1, a2⟩ := ha
        obtain ⟨b1, b2⟩ := hb
        have ms : mayB (a - b) = true := may_yes ⟨by omega, by omega⟩
        go_enter Try.func11, Try.ntmps11
        go_wp2_with (go_at_call 13; refine (c13 _ _).mono ?_; rintro e w' ⟨rfl, rfl⟩)
        go_ret2
        exact ⟨rfl, rfl⟩
      · rw [(sub_no (by omega)).1, (sub_no (by omega)).2]
        obtain ⟨a1, a2⟩ := ha
        obtain ⟨b1, b2⟩ := hb
        have ms : mayB (a - b) = false := may_no (by omega)
        clear hs
        go_enter Try.func11, Try.ntmps11
        go_wp2_with (go_at_call 13; refine (c13 _ _).mono ?_; rintro e w' ⟨rfl, rfl⟩)
        go_ret2
        exact ⟨rfl, rfl⟩
    · have mb := may_no hb
      rw [(sub_no (fun h => hb ⟨by omega, by omega⟩)).1, (sub_no (fun h => hb ⟨by omega, by omega⟩)).2]
      clear ha hb
      go_enter Try.func11, Try.ntmps11
      go_wp2_with (go_at_call 13; refine (c13 _ _).mono ?_; rintro e w' ⟨rfl, rfl⟩)
      go_ret2
      exact ⟨rfl, rfl⟩
  · have ma := may_no ha
    rw [(sub_no (fun h => ha ⟨by omega, by omega⟩)).1, (sub_no (fun h => ha ⟨by omega, by omega⟩)).2]
    clear ha
    go_enter Try.func11, Try.ntmps11
    go_wp2_with (go_at_call 13; refine (c13 _ _).mono ?_; rintro e w' ⟨rfl, rfl⟩)
    go_ret2
    exact ⟨rfl, rfl⟩
theorem c10 (a b : Int) (w : World) : Calls Try.prog 10 #[.int .i64 a, .int .i64 b] w fun e w' => e = .returned (.tuple #[.int .i64 (addZ a b), .bool (addB a b)]) ∧ w = w' := by
  by_cases ha : May a
  · have ma := may_yes ha
    by_cases hb : May b
    · have mb := may_yes hb
      by_cases hs : a + b ≤ 1125899906842624
      · rw [(add_yes ⟨ha.1, ha.2, hb.1, hb.2, hs⟩).1, (add_yes ⟨ha.1, ha.2, hb.1, hb.2, hs⟩).2]
        obtain ⟨a1, a2⟩ := ha
        obtain ⟨b1, b2⟩ := hb
        have hs' : ¬ (1125899906842624 - b < a) := by omega
        go_enter Try.func10, Try.ntmps10
        go_wp2_with (go_at_call 14; refine (c14 _ _).mono ?_; rintro e w' ⟨rfl, rfl⟩)
        go_ret2
        exact ⟨rfl, rfl⟩
      · rw [(add_no (by omega)).1, (add_no (by omega)).2]
        obtain ⟨a1, a2⟩ := ha
        obtain ⟨b1, b2⟩ := hb
        have hs' : 1125899906842624 - b < a := by omega
        clear hs
        go_enter Try.func10, Try.ntmps10
        go_wp2_with (go_at_call 14; refine (c14 _ _).mono ?_; rintro e w' ⟨rfl, rfl⟩)
        go_ret2
        exact ⟨rfl, rfl⟩
    · have mb := may_no hb
      rw [(add_no (fun h => hb ⟨by omega, by omega⟩)).1, (add_no (fun h => hb ⟨by omega, by omega⟩)).2]
      clear ha hb
      go_enter Try.func10, Try.ntmps10
      go_wp2_with (go_at_call 14; refine (c14 _ _).mono ?_; rintro e w' ⟨rfl, rfl⟩)
      go_ret2
      exact ⟨rfl, rfl⟩
  · have ma := may_no ha
    rw [(add_no (fun h => ha ⟨by omega, by omega⟩)).1, (add_no (fun h => ha ⟨by omega, by omega⟩)).2]
    clear ha
    go_enter Try.func10, Try.ntmps10
    go_wp2_with (go_at_call 14; refine (c14 _ _).mono ?_; rintro e w' ⟨rfl, rfl⟩)
    go_ret2
    exact ⟨rfl, rfl⟩
theorem c12 (a b : Int) (w : World) : Calls Try.prog 12 #[.int .i64 a, .int .i64 b] w fun e w' => e = .returned (.tuple #[.int .i64 (subZ a b), .bool (subB a b)]) ∧ w = w' := by
  by_cases ha : May a
  · have ma := may_yes ha
    by_cases hb : May b
    · have mb := may_yes hb
      by_cases hs : b ≤ a
      · rw [(sub_yes ⟨ha.1, ha.2, hb.1, hb.2, hs⟩).1, (sub_yes ⟨ha.1, ha.2, hb.1, hb.2, hs⟩).2]
        obtain ⟨a1, a2⟩ := ha
        obtain ⟨b1, b2⟩ := hb
        have hs' : ¬ (a < b) := by omega
        go_enter Try.func12, Try.ntmps12
        go_wp2_with (go_at_call 14; refine (c14 _ _).mono ?_; rintro e w' ⟨rfl, rfl⟩)
        go_ret2
        exact ⟨rfl, rfl⟩
      · rw [(sub_no (by omega)).1, (sub_no (by omega)).2]
        obtain ⟨a1, a2⟩ := ha
        obtain ⟨b1, b2⟩ := hb
        have hs' : a < b := by omega
        clear hs
        go_enter Try.func12, Try.ntmps12
        go_wp2_with (go_at_call 14; refine (c14 _ _).mono ?_; rintro e w' ⟨rfl, rfl⟩)
        go_ret2
        exact ⟨rfl, rfl⟩
    · have mb := may_no hb
      rw [(sub_no (fun h => hb ⟨by omega, by omega⟩)).1, (sub_no (fun h => hb ⟨by omega, by omega⟩)).2]
      clear ha hb
      go_enter Try.func12, Try.ntmps12
      go_wp2_with (go_at_call 14; refine (c14 _ _).mono ?_; rintro e w' ⟨rfl, rfl⟩)
      go_ret2
      exact ⟨rfl, rfl⟩
  · have ma := may_no ha
    rw [(sub_no (fun h => ha ⟨by omega, by omega⟩)).1, (sub_no (fun h => ha ⟨by omega, by omega⟩)).2]
    clear ha
    go_enter Try.func12, Try.ntmps12
    go_wp2_with (go_at_call 14; refine (c14 _ _).mono ?_; rintro e w' ⟨rfl, rfl⟩)
    go_ret2
    exact ⟨rfl, rfl⟩

def mustText : ByteArray := ⟨#[109, 111, 110, 101, 121, 58, 32, 97, 110, 32, 97, 109, 111, 117, 110, 116, 44, 32, 111, 114, 32, 97, 32, 115, 117, 109, 44, 32, 116, 104, 97, 116, 32, 109, 97, 121, 32, 110, 111, 116, 32, 98, 101]⟩
theorem c18y (a b : Int) (w : World) (h : addB a b = true) : Calls Try.prog 18 #[.int .i64 a, .int .i64 b] w fun e w' => e = .returned (.int .i64 (a + b)) ∧ w = w' := by
  have hz : addZ a b = a + b := if_pos h
  have c := c9 a b
  rw [h, hz] at c
  have C := Lib.hid c
  clear c hz h
  go_enter Try.func18, Try.ntmps18
  go_wp2_with (go_at_call 9; refine (C.out _).mono ?_; rintro e w' ⟨rfl, rfl⟩)
  go_ret
  exact ⟨rfl, rfl⟩
theorem c18n (a b : Int) (w : World) (h : addB a b = false) : Calls Try.prog 18 #[.int .i64 a, .int .i64 b] w fun e w' => e = .panicked [{ v := .iface 9 (.string mustText), recovered := false }] ∧ w = w' := by
  have c := c9 a b
  rw [h] at c
  have C := Lib.hid c
  clear c h
  go_enter Try.func18, Try.ntmps18
  go_wp2_with (go_at_call 9; refine (C.out _).mono ?_; rintro e w' ⟨rfl, rfl⟩)
  exact ⟨rfl, rfl, rfl⟩
end Go.Proofs.Ytbolcpglkjjheaa
