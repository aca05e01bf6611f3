/-
  Where a row is cut in two.
-/
import Derived.Test.YthdejiadokpafaaDoorH21
import Derived.Test.YthdejiadokpafaaDoorH14
import Derived.Shelf.Small.Bits
namespace Go.Proofs.YthdejiadokpafaaDoor
open Go.RowKit Go.Shelf
def lays125_ren : Go.Shelf.Ren := ⟨fun | 125 => 26 | 128 => 31 | 129 => 32 | n => n, fun | 3 => 3 | 4 => 4 | 5 => 5 | 9 => 9 | 46 => 52 | 51 => 54 | 53 => 58 | n => n, fun | n => n⟩
theorem lays125 : Go.Proofs.Lays.n125 Tryd.prog lays125_ren := {
  mixed := by kernel_rfl
  f125 := Tryd.func26.trans (congrArg some (by kernel_rfl))
  f128 := Tryd.func31.trans (congrArg some (by kernel_rfl))
  f129 := Tryd.func32.trans (congrArg some (by kernel_rfl))
  t3 := Tryd.underlying3
  a3 := Tryd.isAgg3
  z3 := Tryd.sizeOf3
  v3 := Tryd.zeroValue3
  t4 := Tryd.underlying4
  a4 := Tryd.isAgg4
  z4 := Tryd.sizeOf4
  v4 := Tryd.zeroValue4
  t5 := Tryd.underlying5
  a5 := Tryd.isAgg5
  z5 := Tryd.sizeOf5
  v5 := Tryd.zeroValue5
  t9 := Tryd.underlying9
  a9 := Tryd.isAgg9
  z9 := Tryd.sizeOf9
  v9 := Tryd.zeroValue9
  t46 := Tryd.underlying52
  a46 := Tryd.isAgg52
  z46 := Tryd.sizeOf52
  v46 := Tryd.zeroValue52
  t51 := Tryd.underlying54
  a51 := Tryd.isAgg54
  z51 := Tryd.sizeOf54
  v51 := Tryd.zeroValue54
  t53 := Tryd.underlying58
  a53 := Tryd.isAgg58
  z53 := Tryd.sizeOf58
  v53 := Tryd.zeroValue58 }
theorem bitsLen (x : Int) (w : World) (h0 : 0 ≤ x) (h1 : x ≤ 18446744073709551615) : Calls Tryd.prog 26 #[.int .u64 x] w fun e w' => e = .returned (.int .i64 (Lib.bitLen x.toNat)) ∧ w' = w := Any.bits_Len lays125 x w h0 h1
/-- where n leaves are cut: the greatest power of two below n -/
def cutN (n : Nat) : Nat := 2 ^ (Lib.bitLen (n - 1) - 1)
theorem bitLen_pow : ∀ (j x : Nat), 2 ^ j ≤ x → x < 2 ^ (j + 1) → x < 2 ^ 64 → Lib.bitLen x = j + 1
  | 0, x, h0, h1, _ => by
    obtain rfl : x = 1 := by simp at h0 h1; omega
    rfl
  | j + 1, x, h0, h1, h2 => by
    have p1 : 2 ^ (j + 1) = 2 * 2 ^ j := by rw [Nat.pow_succ, Nat.mul_comm]
    have p2 : 2 ^ (j + 1 + 1) = 2 * 2 ^ (j + 1) := by rw [Nat.pow_succ, Nat.mul_comm]
    have hp := Nat.two_pow_pos j
    rw [Lib.bitLen_half x (by omega) h2, bitLen_pow j (x / 2) (by omega) (by omega) (by omega)]
    omega
theorem cutN_pow (j n : Nat) (h0 : 2 ^ j < n) (h1 : n ≤ 2 * 2 ^ j) (h2 : n ≤ 65536) : cutN n = 2 ^ j := by
  have p1 : 2 ^ (j + 1) = 2 * 2 ^ j := by rw [Nat.pow_succ, Nat.mul_comm]
  unfold cutN
  rw [bitLen_pow j (n - 1) (by omega) (by omega) (by omega), Nat.add_sub_cancel]
theorem pow_ex : ∀ (n : Nat), 2 ≤ n → ∃ j, 2 ^ j < n ∧ n ≤ 2 * 2 ^ j := by
  intro n hn
  induction n with
  | zero => omega
  | succ n ih =>
    by_cases h2 : n = 1
    · subst h2; exact ⟨0, by decide, by decide⟩
    · obtain ⟨j, a, b⟩ := ih (by omega)
      by_cases h : n + 1 ≤ 2 * 2 ^ j
      · exact ⟨j, by omega, h⟩
      · refine ⟨j + 1, ?_, ?_⟩
        · rw [Nat.pow_succ]; omega
        · rw [Nat.pow_succ]; omega
theorem cutN_lo (n : Nat) (hn : 2 ≤ n) (h : n ≤ 65536) : 1 ≤ cutN n ∧ cutN n < n ∧ n ≤ 2 * cutN n := by
  obtain ⟨j, a, b⟩ := pow_ex n hn
  rw [cutN_pow j n a b h]
  exact ⟨Nat.two_pow_pos j, a, b⟩
theorem bitLen_16 (n : Nat) (hn : 2 ≤ n) (h : n ≤ 65536) : 1 ≤ Lib.bitLen (n - 1) ∧ Lib.bitLen (n - 1) ≤ 17 := by
  obtain ⟨j, a, b⟩ := pow_ex n hn
  have p1 : 2 ^ (j + 1) = 2 * 2 ^ j := by rw [Nat.pow_succ, Nat.mul_comm]
  have hj : j < 16 := by
    have : 2 ^ j < 2 ^ 16 := by have : (2:Nat) ^ 16 = 65536 := rfl; omega
    exact (Nat.pow_lt_pow_iff_right (by decide)).1 this
  rw [bitLen_pow j (n - 1) (by omega) (by omega) (by omega)]
  omega
theorem ret_int {k : IntKind} {a b : Int} (h : a = b) : Ending.returned (.int k a) = .returned (.int k b) := by rw [h]
theorem pw17 : ∀ k : Fin 17, wrap64 ((2 : Int) ^ k.val) = ((2 ^ k.val : Nat) : Int) := by decide +kernel
theorem p17 (n : Nat) (w : World) (hn : 2 ≤ n) (h : n ≤ 65536) : Calls Tryd.prog 17 #[.int .i64 n] w fun e w' => e = .returned (.int .i64 (cutN n)) ∧ w' = w := by
  obtain ⟨b0, b1⟩ := bitLen_16 n hn h
  obtain ⟨q, hq⟩ : ∃ q, n - 1 = q := ⟨_, rfl⟩
  have e1 : (n : Int) - 1 = (q : Int) := by omega
  have hc : cutN n = 2 ^ (Lib.bitLen q - 1) := by unfold cutN; rw [hq]
  rw [hc]
  rw [hq] at b0 b1
  have CL := Lib.hid (bitsLen (q : Int) w (by omega) (by omega))
  obtain ⟨k, hk⟩ : ∃ k, Lib.bitLen q = k + 1 := ⟨Lib.bitLen q - 1, by omega⟩
  have CQ : Hid (Calls Tryd.prog 26 #[.int .u64 (q : Int)] w fun e w' => e = .returned (.int .i64 ((k + 1 : Nat) : Int)) ∧ w' = w) := by
    have := CL.out
    rw [Int.toNat_natCast, hk] at this
    exact this
  rw [hk, Nat.add_sub_cancel]
  have hk16 : k ≤ 16 := by omega
  have e2 : ((k + 1 : Nat) : Int) - 1 = (k : Int) := by omega
  have k0 : (0 : Int) ≤ (k : Int) := by omega
  have k1 : (k : Int) ≤ 16 := by omega
  have HK : Hid (k < 17) := by show _ < _; omega
  clear hq hc CL hk b0 b1
  go_enter Tryd.func17, Tryd.ntmps17
  go_wp2_with (go_at_call 26; refine CQ.out.mono ?_; rintro e w' ⟨rfl, rfl⟩)
  go_ret
  exact ⟨ret_int (pw17 ⟨k, HK.out⟩), rfl⟩
set_option maxHeartbeats 1000000 in
theorem p20 (n : Nat) (w : World) (hn : 2 ≤ n) (h : n ≤ 65536) : Calls Tryd.prog 20 #[.int .i64 n] w fun e w' => e = .returned (.int .i64 (cutN n)) ∧ w' = w := by
  go_enter Tryd.func20, Tryd.ntmps20
  go_wp2
  go_loop [3] (fun v => ∃ k : Nat, v = .int .i64 k ∧ k < n ∧ 1 ≤ k ∧ ∃ j, k = 2 ^ j) (fun v => n - (intOf v).toNat)
  case atStart => exact ⟨1, rfl, by omega, by omega, 0, rfl⟩
  case round =>
    obtain ⟨k, rfl, hk, h1, hj⟩ := hrel
    have HJ := Lib.hid hj
    have HK1 : Hid (1 ≤ k) := h1
    clear hj
    have e1 : 2 * (k : Int) = ((2 * k : Nat) : Int) := by omega
    by_cases hlt : 2 * k < n
    · obtain ⟨m, hm⟩ : ∃ m, 2 * k = m := ⟨_, rfl⟩
      rw [hm] at e1 hlt
      have HM := Lib.hid hm
      have m0 : m ≤ 65536 := by omega
      have q1 : (m : Int) < (n : Int) := by omega
      clear hm hk h1
      go_wp2
      go_round
      case rel =>
        obtain ⟨j, hj⟩ := HJ.out
        exact ⟨m, rfl, hlt, by have := HM.out; have := HK1.out; omega, j + 1, by rw [← HM.out, hj, Nat.pow_succ, Nat.mul_comm]⟩
      case measure => have := HM.out; have := HK1.out; simp [intOf]; omega
    · have HC : Hid (cutN n = k) := by
        obtain ⟨j, hj⟩ := HJ.out
        show _ = _
        rw [hj]
        exact cutN_pow j n (by omega) (by omega) h
      obtain ⟨m, hm⟩ : ∃ m, 2 * k = m := ⟨_, rfl⟩
      rw [hm] at e1 hlt
      have m0 : m ≤ 131072 := by omega
      have q1 : ¬ (m : Int) < (n : Int) := by omega
      clear hm
      go_wp2
      go_ret
      exact ⟨ret_int (by rw [HC.out]), rfl⟩
set_option maxHeartbeats 1000000 in
/-- may: any two numbers -/
theorem p16 (i n : Int) (w : World) : Calls Tryd.prog 16 #[.int .i64 i, .int .i64 n] w fun e w' => e = .returned (.bool (decide (0 ≤ i) && (decide (i < n) && decide (n ≤ 65536)))) ∧ w' = w := by
  by_cases h1 : 0 ≤ i
  · by_cases h2 : i < n
    · by_cases h3 : n ≤ 65536
      · rw [decide_eq_true h1, decide_eq_true h2, decide_eq_true h3]
        go_enter Tryd.func16, Tryd.ntmps16
        go_wp2
        go_ret
        exact ⟨rfl, rfl⟩
      · rw [decide_eq_true h1, decide_eq_true h2, decide_eq_false h3]
        go_enter Tryd.func16, Tryd.ntmps16
        go_wp2
        go_ret
        exact ⟨rfl, rfl⟩
    · rw [decide_eq_true h1, decide_eq_false h2]
      go_enter Tryd.func16, Tryd.ntmps16
      go_wp2
      go_ret
      exact ⟨rfl, rfl⟩
  · rw [decide_eq_false h1]
    go_enter Tryd.func16, Tryd.ntmps16
    go_wp2
    go_ret
    exact ⟨rfl, rfl⟩
end Go.Proofs.YthdejiadokpafaaDoor
