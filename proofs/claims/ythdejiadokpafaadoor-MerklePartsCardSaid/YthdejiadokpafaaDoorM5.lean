/-
  How many cuts lead to a leaf.
-/
import Derived.Test.YthdejiadokpafaaDoorM4
namespace Go.Proofs.YthdejiadokpafaaDoor
open Go.RowKit
def stepsF : Nat → Nat → Nat → Nat
  | 0, _, _ => 0
  | f + 1, i, n => if n ≤ 1 then 0 else if i < cutN n then stepsF f i (cutN n) + 1 else stepsF f (i - cutN n) (n - cutN n) + 1
theorem stepsF_one (f i : Nat) : stepsF f i 1 = 0 := by
  cases f with
  | zero => rfl
  | succ f => rw [stepsF, if_pos (by omega)]
theorem stepsF_l (f i n : Nat) (hn : 2 ≤ n) (h : i < cutN n) : stepsF (f + 1) i n = stepsF f i (cutN n) + 1 := by rw [stepsF, if_neg (by omega), if_pos h]
theorem stepsF_r (f i n : Nat) (hn : 2 ≤ n) (h : ¬ i < cutN n) : stepsF (f + 1) i n = stepsF f (i - cutN n) (n - cutN n) + 1 := by rw [stepsF, if_neg (by omega), if_neg h]
theorem stepsF_fuel : ∀ (f g i n : Nat), n ≤ f → n ≤ g → n ≤ 65536 → stepsF f i n = stepsF g i n
  | 0, 0, _, _, _, _, _ => rfl
  | 0, g + 1, i, n, h1, _, _ => by rw [stepsF, stepsF, if_pos (by omega)]
  | f + 1, 0, i, n, _, h2, _ => by rw [stepsF, stepsF, if_pos (by omega)]
  | f + 1, g + 1, i, n, h1, h2, h3 => by
    by_cases hn : n ≤ 1
    · rw [stepsF, stepsF, if_pos hn, if_pos hn]
    · obtain ⟨c1, c2, _⟩ := cutN_lo n (by omega) h3
      by_cases h : i < cutN n
      · rw [stepsF_l f i n (by omega) h, stepsF_l g i n (by omega) h, stepsF_fuel f g i (cutN n) (by omega) (by omega) (by omega)]
      · rw [stepsF_r f i n (by omega) h, stepsF_r g i n (by omega) h, stepsF_fuel f g _ (n - cutN n) (by omega) (by omega) (by omega)]
theorem stepsF_le : ∀ (f i n : Nat), n ≤ 65536 → 1 ≤ n → stepsF f i n ≤ n
  | 0, _, _, _, _ => Nat.zero_le _
  | f + 1, i, n, h, h1 => by
    by_cases hn : n ≤ 1
    · rw [stepsF, if_pos hn]; omega
    · obtain ⟨c1, c2, _⟩ := cutN_lo n (by omega) h
      by_cases h2 : i < cutN n
      · rw [stepsF_l f i n (by omega) h2]
        have := stepsF_le f i (cutN n) (by omega) c1
        omega
      · rw [stepsF_r f i n (by omega) h2]
        have := stepsF_le f (i - cutN n) (n - cutN n) (by omega) (by omega)
        omega
attribute [local irreducible] stepsF cutN
set_option maxRecDepth 100000 in
set_option maxHeartbeats 2000000 in
theorem p21 (i n : Nat) (w : World) (hi : i < n) (h64 : n ≤ 65536) : Calls Tryd.prog 21 #[.int .i64 i, .int .i64 n] w fun e w' => e = .returned (.int .i64 (stepsF n i n)) ∧ w' = w := by
  have HT : Hid (∃ T, stepsF n i n = T) := ⟨_, rfl⟩
  obtain ⟨T, hT⟩ := HT.out
  have HTT := Lib.hid hT
  have hTn := stepsF_le n i n h64 (by omega)
  rw [hT] at hTn ⊢
  have HTN : Hid (T ≤ 65536) := by show _ ≤ _; omega
  have H0 : Hid (i < n ∧ n ≤ 65536) := ⟨hi, h64⟩
  clear hT hTn hi h64
  go_enter Tryd.func21, Tryd.ntmps21
  go_wp2
  go_loop [0, 1, 5, 6] (fun a b c _ => ∃ (i' n' c' : Nat), a = .int .i64 i' ∧ b = .int .i64 n' ∧ c = .int .i64 c' ∧ (i' < n' ∧ n' ≤ 65536) ∧ stepsF n' i' n' + c' = T) (fun _ b _ _ => (intOf b).toNat)
  case atStart => exact ⟨i, n, 0, rfl, rfl, rfl, H0.out, HTT.out⟩
  case round =>
    clear H0
    obtain ⟨i', n', c', rfl, rfl, rfl, hin, hs⟩ := hrel
    have HI := Lib.hid hin
    have HS := Lib.hid hs
    have n64 : (n' : Int) ≤ 65536 := by omega
    have i0 : (i' : Int) < 65536 := by omega
    by_cases hn : n' = 1
    · subst hn
      have e1 : c' = T := by
        have := HS.out
        rw [stepsF_one] at this
        omega
      subst e1
      clear hin hs
      go_wp2
      go_ret
      exact ⟨rfl, rfl⟩
    · have hn2 : 2 ≤ n' := by omega
      obtain ⟨c1, c2, c3⟩ := cutN_lo n' hn2 hin.2
      have CC := Lib.hid (p17 n' w hn2 hin.2)
      obtain ⟨k, hk⟩ : ∃ k, cutN n' = k := ⟨_, rfl⟩
      have HK := Lib.hid hk
      rw [hk] at c1 c2 c3 CC
      have q1 : (1 : Int) < (n' : Int) := by omega
      have HC : Hid (1 ≤ k ∧ k < n') := ⟨c1, c2⟩
      obtain ⟨n1, hn1⟩ : ∃ q, n' = q + 1 := ⟨n' - 1, by omega⟩
      have ct : c' < T := by
        have := HS.out
        rw [hn1] at this
        by_cases h : i' < cutN (n1 + 1)
        · rw [stepsF_l n1 i' (n1 + 1) (by omega) h] at this; omega
        · rw [stepsF_r n1 i' (n1 + 1) (by omega) h] at this; omega
      have cb : (c' : Int) < 65536 := by have := HTN.out; omega
      by_cases hlt : i' < k
      · have q2 : (i' : Int) < (k : Int) := by omega
        have HN : Hid (stepsF k i' k + (c' + 1) = T) := by
          show _ = _
          have := HS.out
          rw [hn1, stepsF_l n1 i' (n1 + 1) (by omega) (by rw [← hn1, hk]; exact hlt), ← hn1, hk, stepsF_fuel n1 k i' k (by omega) (by omega) (by omega)] at this
          omega
        have HL : Hid (i' < k ∧ k ≤ 65536) := ⟨hlt, by omega⟩
        clear hs hk hin c1 c2 c3 hlt hn hn2 hn1 ct HK HI HS HTT
        go_wp2_with (go_at_call 17; refine CC.out.mono ?_; rintro e w' ⟨rfl, rfl⟩)
        go_round
        case rel => exact ⟨i', k, c' + 1, rfl, rfl, by go_num, HL.out, HN.out⟩
        case measure => have := HC.out; simp [intOf]; omega
      · have q2 : ¬ (i' : Int) < (k : Int) := by omega
        have HN : Hid (stepsF (n' - k) (i' - k) (n' - k) + (c' + 1) = T) := by
          show _ = _
          have := HS.out
          rw [hn1, stepsF_r n1 i' (n1 + 1) (by omega) (by rw [← hn1, hk]; exact hlt), ← hn1, hk, stepsF_fuel n1 (n' - k) (i' - k) (n' - k) (by omega) (by omega) (by omega)] at this
          omega
        have HL : Hid (i' - k < n' - k ∧ n' - k ≤ 65536) := ⟨by omega, by omega⟩
        obtain ⟨i2, hi2⟩ : ∃ q, i' - k = q := ⟨_, rfl⟩
        obtain ⟨n2, hn2'⟩ : ∃ q, n' - k = q := ⟨_, rfl⟩
        have V1 : Hid (wrap64 ((i' : Int) - (k : Int)) = (i2 : Int)) := by show _ = _; unfold wrap64; omega
        have V2 : Hid (wrap64 ((n' : Int) - (k : Int)) = (n2 : Int)) := by show _ = _; unfold wrap64; omega
        have V3 : Hid (wrap64 ((c' : Int) + 1) = ((c' + 1 : Nat) : Int)) := by show _ = _; unfold wrap64; omega
        rw [hi2, hn2'] at HN HL
        have HM : Hid (n2 < n') := by show _ < _; omega
        clear hs hk hin c1 c2 c3 hlt hn hn2 hn1 ct HK HI HS HTT hi2 hn2' cb n64 i0
        go_wp2_with (go_at_call 17; refine CC.out.mono ?_; rintro e w' ⟨rfl, rfl⟩)
        go_round
        case rel => exact ⟨i2, n2, c' + 1, by rw [V1.out], by rw [V2.out], by rw [V3.out], HL.out, HN.out⟩
        case measure => have := HM.out; rw [V2.out]; simp [intOf]; omega
end Go.Proofs.YthdejiadokpafaaDoor
