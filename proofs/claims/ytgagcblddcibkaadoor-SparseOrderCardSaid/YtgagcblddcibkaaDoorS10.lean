/-
  What is there is proved; awake.
-/
import Derived.Test.YtgagcblddcibkaaDoorS9
import Derived.Deep.RegionHeld3
namespace Go.Proofs.YtgagcblddcibkaaDoor
open Go.RowKit
open Go.Maps
theorem at8_prf (f : Int → List Int) (i : Nat) (hl : ∀ s, s < 16 → (nd f s ((sib (i / 2 ^ s) : Nat) : Int)).length = 8) : ∀ n, n ≤ 16 → ∀ s, s < n → at8 (prfL f i n) s = nd f s ((sib (i / 2 ^ s) : Nat) : Int)
  | 0, _, s, h => by omega
  | n + 1, hn, s, h => by
    have ln := prfL_len f i hl n (by omega)
    show at8 (prfL f i n ++ nd f n _) s = _
    by_cases e : s = n
    · subst e
      unfold at8
      rw [← ln, List.drop_left, List.take_of_length_le (by rw [hl s (by omega)]; exact Nat.le_refl _)]
    · rw [← at8_prf f i hl n (by omega) s (by omega)]
      unfold at8
      rw [List.drop_append_of_le_length (by omega), List.take_append_of_le_length (by rw [List.length_drop]; omega)]
theorem up_prf (f : Int → List Int) (i : Nat) (hl : ∀ s, s < 16 → (nd f s ((sib (i / 2 ^ s) : Nat) : Int)).length = 8) : ∀ s, s ≤ 16 → upF (f i) i (prfL f i 16) s = nd f s ((i / 2 ^ s : Nat) : Int)
  | 0, _ => by rw [upF_zero, nd_zero]; simp
  | s + 1, h => by
    have ih := up_prf f i hl s (by omega)
    have ha := at8_prf f i hl 16 (Nat.le_refl _) s (by omega)
    have e : i / 2 ^ (s + 1) = i / 2 ^ s / 2 := by rw [Nat.pow_succ, Nat.div_div_eq_div_mul]
    rw [nd_succ, e]
    rcases Nat.mod_two_eq_zero_or_one (i / 2 ^ s) with h0 | h0
    · rw [upF_even h0, ih, ha, sib_even h0]
      generalize i / 2 ^ s = q at *
      rw [show 2 * ((q / 2 : Nat) : Int) = (q : Int) by omega, show ((q + 1 : Nat) : Int) = (q : Int) + 1 by omega]
    · rw [upF_odd (by omega), ih, ha, sib_odd h0]
      generalize i / 2 ^ s = q at *
      rw [show 2 * ((q / 2 : Nat) : Int) = ((q - 1 : Nat) : Int) by omega, show ((q - 1 : Nat) : Int) + 1 = (q : Int) by omega]
/-- what stands at a place is proved from the root -/
theorem chk_prf (f : Int → List Int) (i : Nat) (hi : i < 65536) (hl : ∀ s, s < 16 → (nd f s ((sib (i / 2 ^ s) : Nat) : Int)).length = 8) : chk6 (nd f 16 0) i (f i) (prfL f i 16) = true := by
  have h := up_prf f i hl 16 (Nat.le_refl _)
  have e : i / 2 ^ 16 = 0 := Nat.div_eq_of_lt (by omega)
  rw [e] at h
  unfold chk6
  rw [decide_eq_true (by omega), Int.toNat_natCast, h]
  simp
theorem Tr.lens {w : World} {B T N : Nat} {ms : Nat → Option Nat} {f : Int → List Int} (h : Tr w B T ms (nd f) N) (i : Nat) (hi : i < 65536) : ∀ s, s < 16 → (nd f s ((sib (i / 2 ^ s) : Nat) : Int)).length = 8 := fun s hs =>
  (h.get s (by omega) (k := ((sib (i / 2 ^ s) : Nat) : Int)) (wf_small (by omega) (by have := sib_lt (Nat.lt_of_le_of_lt (Nat.div_le_self i (2 ^ s)) hi); omega))).2
end Go.Proofs.YtgagcblddcibkaaDoor
