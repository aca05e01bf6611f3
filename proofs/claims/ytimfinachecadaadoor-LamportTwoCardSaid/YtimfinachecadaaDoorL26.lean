/-
  Words for messages that are put together bit by bit.
-/
import Derived.Test.YtimfinachecadaaDoorL19
namespace Go.Proofs.YtimfinachecadaaDoor
open Go.RowKit
/-- a number out of its bits -/
def bsum (f : Nat → Nat) : Nat → Nat
  | 0 => 0
  | n + 1 => bsum f n + f n * 2 ^ n
theorem bsum_lt (f : Nat → Nat) (hf : ∀ j, f j ≤ 1) : ∀ n, bsum f n < 2 ^ n
  | 0 => Nat.one_pos
  | n + 1 => by
    have h1 := bsum_lt f hf n
    have h2 : f n * 2 ^ n ≤ 1 * 2 ^ n := Nat.mul_le_mul_right _ (hf n)
    show bsum f n + f n * 2 ^ n < _
    rw [Nat.pow_succ]
    omega
theorem bsum_bit (f : Nat → Nat) (hf : ∀ j, f j ≤ 1) : ∀ n j, j < n → bsum f n / 2 ^ j % 2 = f j
  | 0, j, h => by omega
  | n + 1, j, h => by
    show (bsum f n + f n * 2 ^ n) / 2 ^ j % 2 = _
    by_cases e : j = n
    · subst e
      rw [Nat.add_mul_div_right _ _ (Nat.pow_pos (by decide)), Nat.div_eq_of_lt (bsum_lt f hf j), Nat.zero_add]
      have := hf j
      omega
    · have ih := bsum_bit f hf n j (by omega)
      obtain ⟨k, hk⟩ : ∃ k, n = j + (k + 1) := ⟨n - j - 1, by omega⟩
      have e2 : f n * 2 ^ n = (f n * 2 ^ k * 2) * 2 ^ j := by rw [hk, Nat.pow_add, Nat.pow_succ]; simp only [Nat.mul_comm, Nat.mul_left_comm]
      rw [e2, Nat.add_mul_div_right _ _ (Nat.pow_pos (by decide)), Nat.add_mul_mod_self_right]
      exact ih
theorem bsum_or (f : Nat → Nat) (hf : ∀ j, f j ≤ 1) (n : Nat) : bsum f n ||| f n * 2 ^ n = bsum f (n + 1) := by
  rw [Nat.or_comm, nat_join n _ _ (Nat.mul_mod_left _ _) (bsum_lt f hf n)]
  show f n * 2 ^ n + bsum f n = bsum f n + f n * 2 ^ n
  omega
/-- the message, so far as s bits -/
def mu (c : Nat → Nat) (s : Nat) : List Int := [((bsum c (min s 8) : Nat) : Int), ((bsum (fun j => c (8 + j)) (s - 8) : Nat) : Int), 0, 0, 0, 0, 0, 0]
theorem mu_zero (c : Nat → Nat) : mu c 0 = zeros 8 := rfl
theorem mu_len (c : Nat → Nat) (s : Nat) : (mu c s).length = 8 := rfl
theorem pow8 {n m : Nat} (h : n < 2 ^ m) (hm : m ≤ 8) : n < 256 := Nat.lt_of_lt_of_le h (Nat.pow_le_pow_right (by decide) hm)
theorem mu_at (c : Nat → Nat) (s : Nat) (hs : s < 16) : (mu c s).getD (s / 8) 0 = ((bsum (fun j => c (8 * (s / 8) + j)) (s % 8) : Nat) : Int) := by
  rcases (by omega : s < 8 ∨ 8 ≤ s) with h | h
  · rw [show s / 8 = 0 by omega, show s % 8 = min s 8 by omega]
    simp [mu, List.getD]
  · rw [show s / 8 = 1 by omega, show s % 8 = s - 8 by omega]
    simp [mu, List.getD]
theorem mu_set (c : Nat → Nat) (s : Nat) (hs : s < 16) : (mu c s).set (s / 8) ((bsum (fun j => c (8 * (s / 8) + j)) (s % 8 + 1) : Nat) : Int) = mu c (s + 1) := by
  rcases (by omega : s < 8 ∨ 8 ≤ s) with h | h
  · rw [show s / 8 = 0 by omega, show s % 8 + 1 = min (s + 1) 8 by omega]
    simp only [mu, List.set_cons_zero, show s - 8 = s + 1 - 8 by omega, Nat.mul_zero, Nat.zero_add]
  · rw [show s / 8 = 1 by omega, show s % 8 + 1 = s + 1 - 8 by omega]
    simp only [mu, List.set_cons_succ, List.set_cons_zero, show min s 8 = min (s + 1) 8 by omega, Nat.mul_one]
theorem mu_byt (c : Nat → Nat) (hc : ∀ j, c j ≤ 1) (s : Nat) (hs : s ≤ 16) : Byt (mu c s) := by
  have h1 := pow8 (bsum_lt c hc (min s 8)) (by omega)
  have h2 := pow8 (bsum_lt (fun j => c (8 + j)) (fun j => hc _) (s - 8)) (by omega)
  intro x hx
  simp only [mu, List.mem_cons, List.not_mem_nil, or_false] at hx
  rcases hx with rfl | rfl | rfl | rfl | rfl | rfl | rfl | rfl <;> omega
theorem mu_bt (c : Nat → Nat) (hc : ∀ j, c j ≤ 1) (i : Nat) (hi : i < 16) : bt (mu c 16) i = c i := by
  unfold bt
  rcases (by omega : i < 8 ∨ 8 ≤ i) with h | h
  · rw [show i / 8 = 0 by omega]
    have := bsum_bit c hc 8 (i % 8) (by omega)
    rw [show i % 8 = i by omega] at this ⊢
    simpa [mu, List.getD] using this
  · rw [show i / 8 = 1 by omega]
    have := bsum_bit (fun j => c (8 + j)) (fun j => hc _) 8 (i % 8) (by omega)
    rw [show 8 + i % 8 = i by omega] at this
    simpa [mu, List.getD] using this
/-- what is opened and shut, bit by bit -/
def oG (K : List Int) (c : Nat → Nat) (i : Nat) : List Int := at8 K (2 * i + c i)
def hG (K : List Int) (c : Nat → Nat) (i : Nat) : List Int := mk (at8 K (2 * i + (1 - c i)))
theorem oG_len (K : List Int) (c : Nat → Nat) (hc : ∀ j, c j ≤ 1) (hK : K.length = 256) (i : Nat) (hi : i < 16) : (oG K c i).length = 8 := at8_len (n := 32) hK (by have := hc i; omega)
theorem hG_len (K : List Int) (c : Nat → Nat) (i : Nat) : (hG K c i).length = 8 := mk_len _
theorem oG_mu (K : List Int) (c : Nat → Nat) (hc : ∀ j, c j ≤ 1) : cat (oG K c) 16 = cat (openF K (mu c 16)) 16 := cat_ext fun j hj => by unfold oG openF; rw [mu_bt c hc j hj]
theorem hG_mu (K : List Int) (c : Nat → Nat) (hc : ∀ j, c j ≤ 1) : cat (hG K c) 16 = cat (shutF K (mu c 16)) 16 := cat_ext fun j hj => by unfold hG shutF; rw [mu_bt c hc j hj]
/-- which of two bits -/
def cF (mix : Nat) (x y : List Int) (i : Nat) : Nat := if mix / 2 ^ i % 2 = 1 then bt x i else bt y i
theorem cF_le (mix : Nat) (x y : List Int) (i : Nat) : cF mix x y i ≤ 1 := by
  unfold cF
  have h1 := bt_two x i
  have h2 := bt_two y i
  split <;> omega
theorem cF_one {mix : Nat} {x y : List Int} {i : Nat} (h : mix / 2 ^ i % 2 = 1) : cF mix x y i = bt x i := by unfold cF; rw [if_pos h]
theorem cF_two {mix : Nat} {x y : List Int} {i : Nat} (h : mix / 2 ^ i % 2 = 0) : cF mix x y i = bt y i := by unfold cF; rw [if_neg (by omega)]
/-- a bit of a byte, where it stands -/
theorem bit_at (n r : Nat) : n &&& 2 ^ r = n / 2 ^ r % 2 * 2 ^ r := nat_bit r n
theorem andu8 (n r : Nat) (hn : n < 256) (hr : r < 8) : bits .and .u8 (n : Int) (((2 ^ r : Nat)) : Int) = ((n / 2 ^ r % 2 * 2 ^ r : Nat) : Int) := by
  have h : 2 ^ r < 256 := Nat.lt_of_lt_of_le (Nat.pow_lt_pow_right (by decide) hr) (by decide)
  rw [u8_and_nat n (2 ^ r) hn h, bit_at]
theorem and16 (d : Nat) (h : d < 65536) : bits .and .u16 (d : Int) 1 = ((d % 2 : Nat) : Int) := by
  have e := u16_and_nat d 1 h (by omega)
  rw [nat_mask1] at e
  exact e
theorem byt_two {a b : Int} (ha : 0 ≤ a ∧ a < 256) (hb : 0 ≤ b ∧ b < 256) : Byt [a, b, 0, 0, 0, 0, 0, 0] := by
  intro x hx
  simp only [List.mem_cons, List.not_mem_nil, or_false] at hx
  rcases hx with rfl | rfl | rfl | rfl | rfl | rfl | rfl | rfl <;> omega
theorem wu64 (r : Nat) (h : r < 64) : IntKind.u64.wrap (r : Int) = (r : Int) := by rw [IntKind.wrap_u64]; exact Int.emod_eq_of_lt (by omega) (by omega)
theorem step_at2 {w : World} {ops : Array Oper} {o : Oper} {a : Act} {K : Act → World → Prop} {Q : Exit → Act → World → Prop} {E : Prop} (hgd : o.guard = none) (ty : TypeId) (x y : Operand) (ho : o.op = .store ty x y)
    (b off : Nat) (l : List Int) (hx : a.eval x = .pointer (some ⟨b, off, none⟩)) (hy : a.eval y = .agg (bvals l).toArray)
    (hb : w.there b off l.length) (hi : (Tryd.prog.info? ty).map (·.size) = some l.length)
    (h : K (a.put o.dst undef) (w.setCells b off (bvals l))) : if Region.wanted o (yielded ops a.tmps) = true then Oper.wp Tryd.prog o a w K Q else E := by
  have hw : Region.wanted o (yielded ops a.tmps) = true := by simp [Region.wanted, hgd]
  have hs : (bvals l).toArray.size = l.length := by simp [bvals]
  rw [if_pos hw]
  exact wp_store_mid ty x y ho b off (bvals l).toArray hx hy (by rw [hs]; exact hb) (by rw [hs]; exact hi) (ba_one l) h
end Go.Proofs.YtimfinachecadaaDoor
