/-
  The number that a row of bytes is: without Go, and the program's own.
-/
import Derived.Test.YtjkhbddnbpnmcaaW1
import Derived.IntWalk
namespace Go.Proofs.Ytjkhbddnbpnmcaa
open Go.RowKit

def numL : List Int → Int
  | [] => 0
  | x :: xs => x + 256 * numL xs
theorem pow8 (k : Nat) : (2 : Int) ^ (8 * (k + 1)) = 256 * 2 ^ (8 * k) := by
  rw [show 8 * (k + 1) = 8 * k + 8 by omega, Int.pow_add]
  rw [show (2 : Int) ^ 8 = 256 by decide, Int.mul_comm]
theorem pow_pos8 (k : Nat) : (0 : Int) < 2 ^ (8 * k) := Int.pow_pos (by decide)
theorem numL_one (xs : List Int) (x : Int) : numL (xs ++ [x]) = numL xs + x * 2 ^ (8 * xs.length) := by
  induction xs with
  | nil => simp [numL]
  | cons y ys ih =>
    rw [List.cons_append, numL, numL, ih, List.length_cons, pow8, Int.mul_add]
    have : 256 * (x * 2 ^ (8 * ys.length)) = x * (256 * 2 ^ (8 * ys.length)) := by ac_rfl
    omega
theorem byt_tail {x : Int} {xs : List Int} (h : Byt (x :: xs)) : Byt xs := fun y hy => h y (List.mem_cons_of_mem _ hy)
theorem numL_range (xs : List Int) (h : Byt xs) : 0 ≤ numL xs ∧ numL xs < 2 ^ (8 * xs.length) := by
  induction xs with
  | nil => simp [numL]
  | cons x xs ih =>
    have i := ih (byt_tail h)
    have hx := h x (by simp)
    rw [numL, List.length_cons, pow8]
    generalize numL xs = a at *
    generalize (2 : Int) ^ (8 * xs.length) = p at *
    omega
theorem take_one (xs : List Int) (k : Nat) (h : k < xs.length) : xs.take (k + 1) = xs.take k ++ [xs.getD k 0] := by
  rw [List.take_add_one, List.getElem?_eq_getElem h]
  simp [List.getD, h]
theorem byt_take {xs : List Int} (h : Byt xs) (k : Nat) : Byt (xs.take k) := fun x hx => h x (List.mem_of_mem_take hx)
theorem byt_drop {xs : List Int} (h : Byt xs) (k : Nat) : Byt (xs.drop k) := fun x hx => h x (List.mem_of_mem_drop hx)
theorem byt_getD {xs : List Int} (h : Byt xs) (k : Nat) (hk : k < xs.length) : 0 ≤ xs.getD k 0 ∧ xs.getD k 0 < 256 := by
  have : xs.getD k 0 = xs[k] := by simp [List.getD, hk]
  rw [this]
  exact h _ (List.getElem_mem hk)
theorem numL_take (xs : List Int) (k : Nat) (h : k < xs.length) : numL (xs.take (k + 1)) = numL (xs.take k) + xs.getD k 0 * 2 ^ (8 * k) := by
  rw [take_one xs k h, numL_one, List.length_take, Nat.min_eq_left (by omega)]
theorem pow8_le {a b : Nat} (h : a ≤ b) : (2 : Int) ^ (8 * a) ≤ 2 ^ (8 * b) := by
  have := Nat.pow_le_pow_right (n := 2) (by decide) (show 8 * a ≤ 8 * b by omega)
  exact_mod_cast this

theorem i64_or_nat (a b : Nat) (ha : a < 9223372036854775808) (hb : b < 9223372036854775808) : bits .or .i64 (a : Int) (b : Int) = ((a ||| b : Nat) : Int) := by
  have hx : a ||| b < 2 ^ 63 := Nat.or_lt_two_pow (by omega) (by omega)
  show IntKind.i64.wrap ((BitVec.ofInt 64 (a : Int) ||| BitVec.ofInt 64 (b : Int)).toNat : Int) = _
  rw [BitVec.toNat_or, ofInt_u64 a (by omega), ofInt_u64 b (by omega), IntKind.wrap_i64]
  omega
theorem or_add (a x : Int) (k : Nat) (hk : k ≤ 6) (h0 : 0 ≤ a) (h1 : a < 2 ^ (8 * k)) (hx0 : 0 ≤ x) (hx1 : x < 256) :
    bits .or .i64 a (x * 2 ^ (8 * k)) = a + x * 2 ^ (8 * k) ∧ 0 ≤ x * 2 ^ (8 * k) ∧ x * 2 ^ (8 * k) < 72057594037927936 := by
  obtain ⟨A, rfl⟩ := Int.eq_ofNat_of_zero_le h0
  obtain ⟨X, rfl⟩ := Int.eq_ofNat_of_zero_le hx0
  have hp : (2 : Nat) ^ (8 * k) ≤ 2 ^ 48 := Nat.pow_le_pow_right (by decide) (by omega)
  have e48 : (2 : Nat) ^ 48 = 281474976710656 := by decide
  have h1' : A < 2 ^ (8 * k) := by exact_mod_cast h1
  have hX : X < 256 := by omega
  have hm : X * 2 ^ (8 * k) ≤ 255 * 281474976710656 := Nat.mul_le_mul (by omega) (by omega)
  have e : ((X : Int) * 2 ^ (8 * k)) = ((X * 2 ^ (8 * k) : Nat) : Int) := by simp
  rw [e]
  refine ⟨?_, by omega, by omega⟩
  rw [i64_or_nat A _ (by omega) (by omega), Nat.or_comm, Nat.mul_comm X, ← Nat.two_pow_add_eq_or_of_lt h1', Nat.add_comm]
  simp

set_option maxHeartbeats 1000000 in
theorem c31 (A : Option Addr) (len cap : Nat) (xs : List Int) (w : World) (hlen : xs.length = len) (hm : len ≤ 7) (hb : Byt xs) (hr : Row w A xs) :
    Calls Try.prog 31 #[.slice A len cap] w fun e w' => e = .returned (.int .i64 (numL xs)) ∧ w = w' := by
  rcases hr with rfl | ⟨b, off, rfl, hc⟩
  · obtain rfl : len = 0 := by simpa using hlen.symm
    go_enter Try.func31, Try.ntmps31
    go_wp2
    refine wp_loop_rounds 1 ?_
    rw [rounds_succ]
    go_wp2
    go_ret
    exact ⟨rfl, rfl⟩
  have HC := Lib.hid hc
  have HL := Lib.hid hlen
  have HB := Lib.hid hb
  clear hc hlen hb
  go_enter Try.func31, Try.ntmps31
  go_wp2
  go_loop [3, 4, 5, 8] (fun n j c i => ∃ k : Nat, ∃ z : Int, k ≤ len ∧ i = .int .i64 k ∧ n = .int .i64 z ∧ z = numL (xs.take k)) (fun _ _ _ i => len - (intOf i).toNat)
  case atStart => exact ⟨0, 0, Nat.zero_le _, rfl, rfl, rfl⟩
  case round =>
    obtain ⟨k, z, hk, rfl, rfl, hz⟩ := hrel
    by_cases hlt : k < len
    · have hk' : k < xs.length := by rw [HL.out]; exact hlt
      have hx := HC.out k hk'
      obtain ⟨x, hxe⟩ : ∃ x, x = xs.getD k 0 := ⟨_, rfl⟩
      have hx01 := byt_getD HB.out k hk'
      have NX := Lib.hid (numL_take xs k hk')
      have hr := numL_range _ (byt_take HB.out k)
      rw [List.length_take, Nat.min_eq_left (by omega), ← hz] at hr
      rw [← hxe] at hx hx01
      obtain ⟨x0, x1⟩ := hx01
      obtain ⟨o1, o2, o3⟩ := or_add z x k (by omega) hr.1 hr.2 x0 x1
      have E := Lib.hid (show z + x * 2 ^ (8 * k) = numL (xs.take (k + 1)) by rw [NX.out, hxe, hz])
      have h8 : (8 * (k : Int)).toNat = 8 * k := by omega
      have hmin : min (8 * k) 64 = 8 * k := by omega
      have hwr : wrap64 (x * 2 ^ (8 * k)) = x * 2 ^ (8 * k) := by unfold wrap64; omega
      clear hxe hz hr NX hk'
      go_wp2
      go_round
      case rel => exact ⟨k + 1, _, by omega, by go_num, rfl, E.out⟩
      case measure => simp [intOf]; omega
    · have ht : xs.take k = xs := List.take_of_length_le (by rw [HL.out]; omega)
      rw [ht] at hz
      have HZ := Lib.hid hz
      clear hz ht
      go_wp2
      go_ret
      exact ⟨by rw [HZ.out] <;> rfl, rfl⟩
end Go.Proofs.Ytjkhbddnbpnmcaa
