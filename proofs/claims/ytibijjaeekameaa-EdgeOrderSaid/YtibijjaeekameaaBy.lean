/-
  Eight bytes of a number of 64 bits, the lowest first, put together again.
-/
import Derived.Laws.BitsAllLaws
namespace Go.Proofs.Ytibijjaeekameaa.Fl
theorem or_put (k a c : Nat) (ha : a < 2 ^ k) (hc : c * 2 ^ k < 2 ^ 64) (hk : k ≤ 64) : bits BinOp.or IntKind.u64 (a : Int) (c * 2 ^ k : Nat) = ((a + c * 2 ^ k : Nat) : Int) := by
  have e : (2 : Nat) ^ 64 = 18446744073709551616 := by decide
  have h1 : (2 : Nat) ^ k ≤ 2 ^ 64 := Nat.pow_le_pow_right (by decide) hk
  rw [u64_or_nat a (c * 2 ^ k) (by omega) (by omega), Nat.or_comm, Nat.mul_comm c, ← Nat.two_pow_add_eq_or_of_lt ha, Nat.add_comm]

theorem bytes_or (u : Nat) (h : u < 18446744073709551616) : (bits BinOp.or IntKind.u64 (bits BinOp.or IntKind.u64 (bits BinOp.or IntKind.u64 (bits BinOp.or IntKind.u64 (bits BinOp.or IntKind.u64 (bits BinOp.or IntKind.u64 (bits BinOp.or IntKind.u64 (bits BinOp.or IntKind.u64 (0) ((u : Int) % 256)) ((u : Int) / 256 % 256 * 256)) ((u : Int) / 65536 % 256 * 65536)) ((u : Int) / 16777216 % 256 * 16777216)) ((u : Int) / 4294967296 % 256 * 4294967296)) ((u : Int) / 1099511627776 % 256 * 1099511627776)) ((u : Int) / 281474976710656 % 256 * 281474976710656)) ((u : Int) / 72057594037927936 % 256 * 72057594037927936)).toNat = u := by
  have s0 : bits BinOp.or IntKind.u64 (0) ((u : Int) % 256) = ((u % 256 : Nat) : Int) := by
    have e : (2 : Nat) ^ 64 = 18446744073709551616 := by decide
    have := or_put 0 0 (u % 256) (by decide) (by rw [e, Nat.pow_zero]; omega) (by decide)
    simpa using this
  have s1 : bits BinOp.or IntKind.u64 ((u % 256 : Nat) : Int) ((u : Int) / 256 % 256 * 256) = ((u % 65536 : Nat) : Int) := by
    have e : (2 : Nat) ^ 8 = 256 := by decide
    have e64 : (2 : Nat) ^ 64 = 18446744073709551616 := by decide
    have := or_put 8 (u % 256) (u / 256 % 256) (by rw [e]; exact Nat.mod_lt _ (by decide)) (by rw [e, e64]; omega) (by decide)
    rw [e] at this
    rw [show u % 65536 = u % 256 + u / 256 % 256 * 256 by omega, ← this]
    rfl
  have s2 : bits BinOp.or IntKind.u64 ((u % 65536 : Nat) : Int) ((u : Int) / 65536 % 256 * 65536) = ((u % 16777216 : Nat) : Int) := by
    have e : (2 : Nat) ^ 16 = 65536 := by decide
    have e64 : (2 : Nat) ^ 64 = 18446744073709551616 := by decide
    have := or_put 16 (u % 65536) (u / 65536 % 256) (by rw [e]; exact Nat.mod_lt _ (by decide)) (by rw [e, e64]; omega) (by decide)
    rw [e] at this
    rw [show u % 16777216 = u % 65536 + u / 65536 % 256 * 65536 by omega, ← this]
    rfl
  have s3 : bits BinOp.or IntKind.u64 ((u % 16777216 : Nat) : Int) ((u : Int) / 16777216 % 256 * 16777216) = ((u % 4294967296 : Nat) : Int) := by
    have e : (2 : Nat) ^ 24 = 16777216 := by decide
    have e64 : (2 : Nat) ^ 64 = 18446744073709551616 := by decide
    have := or_put 24 (u % 16777216) (u / 16777216 % 256) (by rw [e]; exact Nat.mod_lt _ (by decide)) (by rw [e, e64]; omega) (by decide)
    rw [e] at this
    rw [show u % 4294967296 = u % 16777216 + u / 16777216 % 256 * 16777216 by omega, ← this]
    rfl
  have s4 : bits BinOp.or IntKind.u64 ((u % 4294967296 : Nat) : Int) ((u : Int) / 4294967296 % 256 * 4294967296) = ((u % 1099511627776 : Nat) : Int) := by
    have e : (2 : Nat) ^ 32 = 4294967296 := by decide
    have e64 : (2 : Nat) ^ 64 = 18446744073709551616 := by decide
    have := or_put 32 (u % 4294967296) (u / 4294967296 % 256) (by rw [e]; exact Nat.mod_lt _ (by decide)) (by rw [e, e64]; omega) (by decide)
    rw [e] at this
    rw [show u % 1099511627776 = u % 4294967296 + u / 4294967296 % 256 * 4294967296 by omega, ← this]
    rfl
  have s5 : bits BinOp.or IntKind.u64 ((u % 1099511627776 : Nat) : Int) ((u : Int) / 1099511627776 % 256 * 1099511627776) = ((u % 281474976710656 : Nat) : Int) := by
    have e : (2 : Nat) ^ 40 = 1099511627776 := by decide
    have e64 : (2 : Nat) ^ 64 = 18446744073709551616 := by decide
    have := or_put 40 (u % 1099511627776) (u / 1099511627776 % 256) (by rw [e]; exact Nat.mod_lt _ (by decide)) (by rw [e, e64]; omega) (by decide)
    rw [e] at this
    rw [show u % 281474976710656 = u % 1099511627776 + u / 1099511627776 % 256 * 1099511627776 by omega, ← this]
    rfl
  have s6 : bits BinOp.or IntKind.u64 ((u % 281474976710656 : Nat) : Int) ((u : Int) / 281474976710656 % 256 * 281474976710656) = ((u % 72057594037927936 : Nat) : Int) := by
    have e : (2 : Nat) ^ 48 = 281474976710656 := by decide
    have e64 : (2 : Nat) ^ 64 = 18446744073709551616 := by decide
    have := or_put 48 (u % 281474976710656) (u / 281474976710656 % 256) (by rw [e]; exact Nat.mod_lt _ (by decide)) (by rw [e, e64]; omega) (by decide)
    rw [e] at this
    rw [show u % 72057594037927936 = u % 281474976710656 + u / 281474976710656 % 256 * 281474976710656 by omega, ← this]
    rfl
  have s7 : bits BinOp.or IntKind.u64 ((u % 72057594037927936 : Nat) : Int) ((u : Int) / 72057594037927936 % 256 * 72057594037927936) = ((u % 18446744073709551616 : Nat) : Int) := by
    have e : (2 : Nat) ^ 56 = 72057594037927936 := by decide
    have e64 : (2 : Nat) ^ 64 = 18446744073709551616 := by decide
    have := or_put 56 (u % 72057594037927936) (u / 72057594037927936 % 256) (by rw [e]; exact Nat.mod_lt _ (by decide)) (by rw [e, e64]; omega) (by decide)
    rw [e] at this
    rw [show u % 18446744073709551616 = u % 72057594037927936 + u / 72057594037927936 % 256 * 72057594037927936 by omega, ← this]
    rfl
  rw [s0, s1, s2, s3, s4, s5, s6, s7, Int.toNat_natCast]
  omega
end Go.Proofs.Ytibijjaeekameaa.Fl
