/-
  The bytes of floats: Bits and Of, the program's and the document's own; which floats are the same.
-/
import Derived.Test.YtibijjaeekameaaW3
import Derived.Test.YtibijjaeekameaaBy
import Derived.LoopN
import Derived.Below
namespace Go.Proofs.Ytibijjaeekameaa
open Go.RowKit
open Fl

def canon (b : Nat) : Nat := if infR < rung b then 9221120237041090561 else b
theorem canon_nan {b : Nat} (h : infR < rung b) : canon b = 9221120237041090561 := if_pos h
theorem canon_num {b : Nat} (h : rung b ≤ infR) : canon b = b := if_neg (by omega)
theorem canon_lt {b : Nat} (h : b < 2 ^ 64) : canon b < 18446744073709551616 := by
  have e : (2 : Nat) ^ 64 = 18446744073709551616 := by decide
  unfold canon
  split <;> omega

set_option maxRecDepth 100000 in
set_option maxHeartbeats 1000000 in
theorem c22 (u : Nat) (w : World) (h : u < 18446744073709551616) : Calls Try.prog 22 #[.agg #[.int .u8 ((u : Int) % 256), .int .u8 ((u : Int) / 256 % 256), .int .u8 ((u : Int) / 65536 % 256), .int .u8 ((u : Int) / 16777216 % 256), .int .u8 ((u : Int) / 4294967296 % 256), .int .u8 ((u : Int) / 1099511627776 % 256), .int .u8 ((u : Int) / 281474976710656 % 256), .int .u8 ((u : Int) / 72057594037927936 % 256)]] w fun e w' => e = .returned (.float .f64 u) ∧ Below w.heap.size w w' := by
  have hy := fun b w => x29 b w
  have H := Lib.hid (bytes_or u h)
  have i0 : ∀ w : World, (Instr.index 40 (.agg #[.int .u8 ((u : Int) % 256), .int .u8 ((u : Int) / 256 % 256), .int .u8 ((u : Int) / 65536 % 256), .int .u8 ((u : Int) / 16777216 % 256), .int .u8 ((u : Int) / 4294967296 % 256), .int .u8 ((u : Int) / 1099511627776 % 256), .int .u8 ((u : Int) / 281474976710656 % 256), .int .u8 ((u : Int) / 72057594037927936 % 256)]) (.int .i64 0)).run Try.prog w = .ok (.int .u8 ((u : Int) % 256)) w := fun _ => by kernel_rfl
  have i1 : ∀ w : World, (Instr.index 40 (.agg #[.int .u8 ((u : Int) % 256), .int .u8 ((u : Int) / 256 % 256), .int .u8 ((u : Int) / 65536 % 256), .int .u8 ((u : Int) / 16777216 % 256), .int .u8 ((u : Int) / 4294967296 % 256), .int .u8 ((u : Int) / 1099511627776 % 256), .int .u8 ((u : Int) / 281474976710656 % 256), .int .u8 ((u : Int) / 72057594037927936 % 256)]) (.int .i64 1)).run Try.prog w = .ok (.int .u8 ((u : Int) / 256 % 256)) w := fun _ => by kernel_rfl
  have i2 : ∀ w : World, (Instr.index 40 (.agg #[.int .u8 ((u : Int) % 256), .int .u8 ((u : Int) / 256 % 256), .int .u8 ((u : Int) / 65536 % 256), .int .u8 ((u : Int) / 16777216 % 256), .int .u8 ((u : Int) / 4294967296 % 256), .int .u8 ((u : Int) / 1099511627776 % 256), .int .u8 ((u : Int) / 281474976710656 % 256), .int .u8 ((u : Int) / 72057594037927936 % 256)]) (.int .i64 2)).run Try.prog w = .ok (.int .u8 ((u : Int) / 65536 % 256)) w := fun _ => by kernel_rfl
  have i3 : ∀ w : World, (Instr.index 40 (.agg #[.int .u8 ((u : Int) % 256), .int .u8 ((u : Int) / 256 % 256), .int .u8 ((u : Int) / 65536 % 256), .int .u8 ((u : Int) / 16777216 % 256), .int .u8 ((u : Int) / 4294967296 % 256), .int .u8 ((u : Int) / 1099511627776 % 256), .int .u8 ((u : Int) / 281474976710656 % 256), .int .u8 ((u : Int) / 72057594037927936 % 256)]) (.int .i64 3)).run Try.prog w = .ok (.int .u8 ((u : Int) / 16777216 % 256)) w := fun _ => by kernel_rfl
  have i4 : ∀ w : World, (Instr.index 40 (.agg #[.int .u8 ((u : Int) % 256), .int .u8 ((u : Int) / 256 % 256), .int .u8 ((u : Int) / 65536 % 256), .int .u8 ((u : Int) / 16777216 % 256), .int .u8 ((u : Int) / 4294967296 % 256), .int .u8 ((u : Int) / 1099511627776 % 256), .int .u8 ((u : Int) / 281474976710656 % 256), .int .u8 ((u : Int) / 72057594037927936 % 256)]) (.int .i64 4)).run Try.prog w = .ok (.int .u8 ((u : Int) / 4294967296 % 256)) w := fun _ => by kernel_rfl
  have i5 : ∀ w : World, (Instr.index 40 (.agg #[.int .u8 ((u : Int) % 256), .int .u8 ((u : Int) / 256 % 256), .int .u8 ((u : Int) / 65536 % 256), .int .u8 ((u : Int) / 16777216 % 256), .int .u8 ((u : Int) / 4294967296 % 256), .int .u8 ((u : Int) / 1099511627776 % 256), .int .u8 ((u : Int) / 281474976710656 % 256), .int .u8 ((u : Int) / 72057594037927936 % 256)]) (.int .i64 5)).run Try.prog w = .ok (.int .u8 ((u : Int) / 1099511627776 % 256)) w := fun _ => by kernel_rfl
  have i6 : ∀ w : World, (Instr.index 40 (.agg #[.int .u8 ((u : Int) % 256), .int .u8 ((u : Int) / 256 % 256), .int .u8 ((u : Int) / 65536 % 256), .int .u8 ((u : Int) / 16777216 % 256), .int .u8 ((u : Int) / 4294967296 % 256), .int .u8 ((u : Int) / 1099511627776 % 256), .int .u8 ((u : Int) / 281474976710656 % 256), .int .u8 ((u : Int) / 72057594037927936 % 256)]) (.int .i64 6)).run Try.prog w = .ok (.int .u8 ((u : Int) / 281474976710656 % 256)) w := fun _ => by kernel_rfl
  have i7 : ∀ w : World, (Instr.index 40 (.agg #[.int .u8 ((u : Int) % 256), .int .u8 ((u : Int) / 256 % 256), .int .u8 ((u : Int) / 65536 % 256), .int .u8 ((u : Int) / 16777216 % 256), .int .u8 ((u : Int) / 4294967296 % 256), .int .u8 ((u : Int) / 1099511627776 % 256), .int .u8 ((u : Int) / 281474976710656 % 256), .int .u8 ((u : Int) / 72057594037927936 % 256)]) (.int .i64 7)).run Try.prog w = .ok (.int .u8 ((u : Int) / 72057594037927936 % 256)) w := fun _ => by kernel_rfl
  go_enter Try.func22, Try.ntmps22
  go_wp2
  refine wp_loop_rounds 9 ?_
  iterate 9 (rw [rounds_succ]; go_wp2)
  go_ret
  exact ⟨congrArg (fun n => Ending.returned (.float .f64 n)) H.out, (Below.refl _ _).alloc (Nat.le_refl _) _⟩
set_option maxRecDepth 100000 in
set_option maxHeartbeats 1000000 in
theorem c27 (u : Nat) (w : World) (h : u < 18446744073709551616) : Calls Try.prog 27 #[.agg #[.int .u8 ((u : Int) % 256), .int .u8 ((u : Int) / 256 % 256), .int .u8 ((u : Int) / 65536 % 256), .int .u8 ((u : Int) / 16777216 % 256), .int .u8 ((u : Int) / 4294967296 % 256), .int .u8 ((u : Int) / 1099511627776 % 256), .int .u8 ((u : Int) / 281474976710656 % 256), .int .u8 ((u : Int) / 72057594037927936 % 256)]] w fun e w' => e = .returned (.float .f64 u) ∧ Below w.heap.size w w' := by
  have hy := fun b w => x29 b w
  have H := Lib.hid (bytes_or u h)
  go_enter Try.func27, Try.ntmps27
  go_wp2
  refine wp_loop_rounds 9 ?_
  iterate 9 (rw [rounds_succ]; go_wp2)
  go_ret
  exact ⟨congrArg (fun n => Ending.returned (.float .f64 n)) H.out, (Below.refl _ _).alloc (Nat.le_refl _) _⟩
set_option maxRecDepth 100000 in
set_option maxHeartbeats 1000000 in
theorem c23 (b : Nat) (w : World) (hb : b < 2 ^ 64) : Calls Try.prog 23 #[.float .f64 b] w fun e w' => e = .returned (.agg #[.int .u8 ((canon b : Int) % 256), .int .u8 ((canon b : Int) / 256 % 256), .int .u8 ((canon b : Int) / 65536 % 256), .int .u8 ((canon b : Int) / 16777216 % 256), .int .u8 ((canon b : Int) / 4294967296 % 256), .int .u8 ((canon b : Int) / 1099511627776 % 256), .int .u8 ((canon b : Int) / 281474976710656 % 256), .int .u8 ((canon b : Int) / 72057594037927936 % 256)]) ∧ Below w.heap.size w w' := by
  have e64 : (2 : Nat) ^ 64 = 18446744073709551616 := by decide
  rw [e64] at hb
  have hx := fun w => x36 b w
  have hq := nan_eq b
  by_cases hn : infR < rung b
  · have hf := nan_yes hn
    rw [canon_nan hn]
    clear hn e64
    go_enter Try.func23, Try.ntmps23
    go_wp2_with (go_at_call 30; refine (c30b _ _).mono ?_; rintro e w' ⟨rfl, rfl⟩)
    refine wp_loop_rounds 9 ?_
    iterate 9 (rw [rounds_succ]; go_wp2)
    exact bodyPost_ret (v := .agg #[.int .u8 (((9221120237041090561 : Nat) : Int) % 256), .int .u8 (((9221120237041090561 : Nat) : Int) / 256 % 256), .int .u8 (((9221120237041090561 : Nat) : Int) / 65536 % 256), .int .u8 (((9221120237041090561 : Nat) : Int) / 16777216 % 256), .int .u8 (((9221120237041090561 : Nat) : Int) / 4294967296 % 256), .int .u8 (((9221120237041090561 : Nat) : Int) / 1099511627776 % 256), .int .u8 (((9221120237041090561 : Nat) : Int) / 281474976710656 % 256), .int .u8 (((9221120237041090561 : Nat) : Int) / 72057594037927936 % 256)]) (by simp [results, Try.results23, go_sem]) rfl ⟨rfl, ((((Below.refl _ _).alloc (Nat.le_refl _) _).alloc (by simp) _))⟩
  · have hf := nan_no (show rung b ≤ infR by omega)
    rw [canon_num (by omega)]
    clear hn e64
    go_enter Try.func23, Try.ntmps23
    go_wp2_with (go_at_call 30; refine (c30b _ _).mono ?_; rintro e w' ⟨rfl, rfl⟩)
    refine wp_loop_rounds 9 ?_
    iterate 9 (rw [rounds_succ]; go_wp2)
    exact bodyPost_ret (v := .agg #[.int .u8 ((b : Int) % 256), .int .u8 ((b : Int) / 256 % 256), .int .u8 ((b : Int) / 65536 % 256), .int .u8 ((b : Int) / 16777216 % 256), .int .u8 ((b : Int) / 4294967296 % 256), .int .u8 ((b : Int) / 1099511627776 % 256), .int .u8 ((b : Int) / 281474976710656 % 256), .int .u8 ((b : Int) / 72057594037927936 % 256)]) (by simp [results, Try.results23, go_sem]; omega) rfl ⟨rfl, ((((Below.refl _ _).alloc (Nat.le_refl _) _).alloc (by simp) _))⟩
set_option maxRecDepth 100000 in
set_option maxHeartbeats 1000000 in
theorem c24 (b : Nat) (w : World) (hb : b < 2 ^ 64) : Calls Try.prog 24 #[.float .f64 b] w fun e w' => e = .returned (.agg #[.int .u8 ((canon b : Int) % 256), .int .u8 ((canon b : Int) / 256 % 256), .int .u8 ((canon b : Int) / 65536 % 256), .int .u8 ((canon b : Int) / 16777216 % 256), .int .u8 ((canon b : Int) / 4294967296 % 256), .int .u8 ((canon b : Int) / 1099511627776 % 256), .int .u8 ((canon b : Int) / 281474976710656 % 256), .int .u8 ((canon b : Int) / 72057594037927936 % 256)]) ∧ Below w.heap.size w w' := by
  have e64 : (2 : Nat) ^ 64 = 18446744073709551616 := by decide
  rw [e64] at hb
  have hx := fun w => x36 b w
  have hq := nan_eq b
  by_cases hn : infR < rung b
  · have hf := nan_yes hn
    rw [canon_nan hn]
    clear hn e64
    go_enter Try.func24, Try.ntmps24
    go_wp2
    refine wp_loop_rounds 9 ?_
    iterate 9 (rw [rounds_succ]; go_wp2)
    exact bodyPost_ret (v := .agg #[.int .u8 (((9221120237041090561 : Nat) : Int) % 256), .int .u8 (((9221120237041090561 : Nat) : Int) / 256 % 256), .int .u8 (((9221120237041090561 : Nat) : Int) / 65536 % 256), .int .u8 (((9221120237041090561 : Nat) : Int) / 16777216 % 256), .int .u8 (((9221120237041090561 : Nat) : Int) / 4294967296 % 256), .int .u8 (((9221120237041090561 : Nat) : Int) / 1099511627776 % 256), .int .u8 (((9221120237041090561 : Nat) : Int) / 281474976710656 % 256), .int .u8 (((9221120237041090561 : Nat) : Int) / 72057594037927936 % 256)]) (by simp [results, Try.results24, go_sem]) rfl ⟨rfl, ((((Below.refl _ _).alloc (Nat.le_refl _) _).alloc (by simp) _))⟩
  · have hf := nan_no (show rung b ≤ infR by omega)
    rw [canon_num (by omega)]
    clear hn e64
    go_enter Try.func24, Try.ntmps24
    go_wp2
    refine wp_loop_rounds 9 ?_
    iterate 9 (rw [rounds_succ]; go_wp2)
    exact bodyPost_ret (v := .agg #[.int .u8 ((b : Int) % 256), .int .u8 ((b : Int) / 256 % 256), .int .u8 ((b : Int) / 65536 % 256), .int .u8 ((b : Int) / 16777216 % 256), .int .u8 ((b : Int) / 4294967296 % 256), .int .u8 ((b : Int) / 1099511627776 % 256), .int .u8 ((b : Int) / 281474976710656 % 256), .int .u8 ((b : Int) / 72057594037927936 % 256)]) (by simp [results, Try.results24, go_sem]; omega) rfl ⟨rfl, ((((Below.refl _ _).alloc (Nat.le_refl _) _).alloc (by simp) _))⟩

def sameB (a b : Nat) : Bool := decide (tkey a = tkey b)
theorem c21 (a b : Nat) (w : World) (ha : a < 2 ^ 64) (hb : b < 2 ^ 64) : Calls Try.prog 21 #[.float .f64 a, .float .f64 b] w fun e w' => e = .returned (.bool (sameB a b)) ∧ w = w' := by
  have HA := Lib.hid ha
  have HB := Lib.hid hb
  have q1 := nan_eq a
  have q2 := nan_eq b
  clear ha hb
  by_cases na : infR < rung a
  · have fa := nan_yes na
    by_cases nb : infR < rung b
    · have fb := nan_yes nb
      rw [show sameB a b = true from decide_eq_true ((tkey_nan na).trans (tkey_nan nb).symm)]
      clear na nb
      go_enter Try.func21, Try.ntmps21
      go_wp2
      go_ret
      exact ⟨rfl, rfl⟩
    · have fb := nan_no (show rung b ≤ infR by omega)
      have o : (FloatKind.f64.format.order a b == some Ordering.eq) = false := by rw [order_nan1 na]; rfl
      rw [show sameB a b = false from decide_eq_false (by have := tkey_nan na; have := tkey_num (b := b) (by omega); omega)]
      clear na nb
      go_enter Try.func21, Try.ntmps21
      go_wp2
      go_ret
      exact ⟨rfl, rfl⟩
  have na : rung a ≤ infR := by omega
  have fa := nan_no na
  by_cases nb : infR < rung b
  · have fb := nan_yes nb
    have o : (FloatKind.f64.format.order a b == some Ordering.eq) = false := by rw [order_nan2 nb]; rfl
    rw [show sameB a b = false from decide_eq_false (by have := tkey_nan nb; have := tkey_num na; omega)]
    clear na nb
    go_enter Try.func21, Try.ntmps21
    go_wp2
    go_ret
    exact ⟨rfl, rfl⟩
  have nb : rung b ≤ infR := by omega
  have fb := nan_no nb
  have o := ord_eq na nb
  have hte := tkey_eq na nb
  by_cases hk : key a = key b
  · rw [decide_eq_true hk] at o
    have hd : sameB a b = (sgn a == sgn b) := by
      unfold sameB
      rw [Bool.eq_iff_iff, decide_eq_true_iff, hte, beq_iff_eq]
      exact ⟨fun h => h.2, fun h => ⟨hk, h⟩⟩
    rw [hd]
    clear na nb hk hte hd
    go_enter Try.func21, Try.ntmps21
    go_wp2_with (go_at_call 32; refine (c32 _ _ (by first | exact HA.out | exact HB.out)).mono ?_; rintro e w' ⟨rfl, rfl⟩)
    go_ret
    exact ⟨rfl, rfl⟩
  · rw [decide_eq_false hk] at o
    rw [show sameB a b = false from decide_eq_false (fun h => hk (hte.1 h).1)]
    clear na nb hk hte
    go_enter Try.func21, Try.ntmps21
    go_wp2
    go_ret
    exact ⟨rfl, rfl⟩
end Go.Proofs.Ytibijjaeekameaa
