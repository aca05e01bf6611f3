/-
  The walk of EdgeBytes: any eight bytes are a float, whose bytes they are, or those of the one NaN.
-/
import Derived.Test.YtibijjaeekameaaW5
import Derived.Laws.StructEq
namespace Go.Proofs.Ytibijjaeekameaa
open Go.RowKit
open Fl
theorem eq40 (x0 x1 x2 x3 x4 x5 x6 x7 : Int) (w : World) : (Op.equalIn 10000 40 (.agg #[.int .u8 x0, .int .u8 x1, .int .u8 x2, .int .u8 x3, .int .u8 x4, .int .u8 x5, .int .u8 x6, .int .u8 x7]) (.agg #[.int .u8 x0, .int .u8 x1, .int .u8 x2, .int .u8 x3, .int .u8 x4, .int .u8 x5, .int .u8 x6, .int .u8 x7])).run Try.prog w = .ok true w := by
  have u5 := Try.underlying5
  have a5 := Try.isAgg5
  have z5 := Try.sizeOf5
  rw [show (10000 : Nat) = 9999 + 1 from rfl, Op.equalIn]
  simp only [Sem.run_bind, run_underlying Try.underlying40, Result.andThen_ok]
  simp only [Std.Legacy.Range.forIn_eq_forIn_range', Std.Legacy.Range.size, Nat.sub_zero, Nat.add_sub_cancel, Nat.div_one, List.range'_succ, List.range'_zero, List.forIn_cons, List.forIn_nil]
  go_simp

theorem same_self (u : Nat) : sameB u u = true := decide_eq_true rfl

set_option maxRecDepth 100000 in
set_option maxHeartbeats 2000000 in
theorem walkBytes (u : Nat) (w : World) (h : u < 18446744073709551616) : Calls Try.prog 8 #[.agg #[.int .u8 ((u : Int) % 256), .int .u8 ((u : Int) / 256 % 256), .int .u8 ((u : Int) / 65536 % 256), .int .u8 ((u : Int) / 16777216 % 256), .int .u8 ((u : Int) / 4294967296 % 256), .int .u8 ((u : Int) / 1099511627776 % 256), .int .u8 ((u : Int) / 281474976710656 % 256), .int .u8 ((u : Int) / 72057594037927936 % 256)]] w fun e w' => e = .returned (.bool true) ∧ Below w.heap.size w w' := by
  have H64 := Lib.hid (show u < 2 ^ 64 from h)
  have q := nan_eq u
  have heq := fun (x0 x1 x2 x3 x4 x5 x6 x7 : Int) (w : World) => eq40 x0 x1 x2 x3 x4 x5 x6 x7 w
  have hself := same_self u
  by_cases hn : infR < rung u
  · have f := nan_yes hn
    have hc := canon_nan hn
    clear hn
    have hbuild : ∀ w : World, (Instr.build 40 #[(0, .int .u8 1), (1, .int .u8 0), (2, .int .u8 0), (3, .int .u8 0), (4, .int .u8 0), (5, .int .u8 0), (6, .int .u8 248), (7, .int .u8 127)]).run Try.prog w = .ok (.agg #[.int .u8 1, .int .u8 0, .int .u8 0, .int .u8 0, .int .u8 0, .int .u8 0, .int .u8 248, .int .u8 127]) w := fun w => run_build w 40 _ _ (by kernel_rfl)
    go_enter Try.func8, Try.ntmps8
    go_wp2_with (go_at_call 9; refine (c9 _).mono ?_; rintro e w' ⟨rfl, rfl⟩)
    refine (c22 u _ h).mono ?_
    rintro e w1 ⟨rfl, hb1⟩
    go_wp2_with fail
    refine (c23 u _ H64.out).mono ?_
    rintro e w2 ⟨rfl, hb2⟩
    rw [hc]
    have hz1 : w.heap.size < w1.heap.size := by have := hb1.size; simp at this; omega
    have hz2 : w.heap.size < w2.heap.size := by have := hb2.size; omega
    have k2 : ∀ o, w2.cell? ⟨w.heap.size, o, none⟩ = (w.alloc (Obj.cells #[.int .u8 ((u : Int) % 256), .int .u8 ((u : Int) / 256 % 256), .int .u8 ((u : Int) / 65536 % 256), .int .u8 ((u : Int) / 16777216 % 256), .int .u8 ((u : Int) / 4294967296 % 256), .int .u8 ((u : Int) / 1099511627776 % 256), .int .u8 ((u : Int) / 281474976710656 % 256), .int .u8 ((u : Int) / 72057594037927936 % 256)] 40)).cell? ⟨w.heap.size, o, none⟩ := fun o => (hb2.cell (p := ⟨w.heap.size, o, none⟩) hz1).trans (hb1.cell (p := ⟨w.heap.size, o, none⟩) (by simp))
    have B2 := Lib.hid ((((Below.refl w.heap.size w).alloc (Nat.le_refl _) (Obj.cells #[.int .u8 ((u : Int) % 256), .int .u8 ((u : Int) / 256 % 256), .int .u8 ((u : Int) / 65536 % 256), .int .u8 ((u : Int) / 16777216 % 256), .int .u8 ((u : Int) / 4294967296 % 256), .int .u8 ((u : Int) / 1099511627776 % 256), .int .u8 ((u : Int) / 281474976710656 % 256), .int .u8 ((u : Int) / 72057594037927936 % 256)] 40)).trans (hb1.mono (by simp))).trans (hb2.mono (Nat.le_of_lt hz1)))
    clear hb1 hb2 hc hz1
    have HZ := Lib.hid hz2
    have BA := Lib.hid (B2.out.trans ((Below.refl w2.heap.size w2).alloc (Nat.le_refl _) (Obj.cells #[.int .u8 1, .int .u8 0, .int .u8 0, .int .u8 0, .int .u8 0, .int .u8 0, .int .u8 248, .int .u8 127] 40) |>.mono (Nat.le_of_lt hz2)))

    go_wp2
    go_ret
    exact ⟨rfl, BA.out⟩
  · have f := nan_no (show rung u ≤ infR by omega)
    have hc := canon_num (show rung u ≤ infR by omega)
    clear hn
    go_enter Try.func8, Try.ntmps8
    go_wp2_with (go_at_call 9; refine (c9 _).mono ?_; rintro e w' ⟨rfl, rfl⟩)
    refine (c22 u _ h).mono ?_
    rintro e w1 ⟨rfl, hb1⟩
    go_wp2_with fail
    refine (c23 u _ H64.out).mono ?_
    rintro e w2 ⟨rfl, hb2⟩
    rw [hc]
    have hz1 : w.heap.size < w1.heap.size := by have := hb1.size; simp at this; omega
    have hz2 : w.heap.size < w2.heap.size := by have := hb2.size; omega
    have k2 : ∀ o, w2.cell? ⟨w.heap.size, o, none⟩ = (w.alloc (Obj.cells #[.int .u8 ((u : Int) % 256), .int .u8 ((u : Int) / 256 % 256), .int .u8 ((u : Int) / 65536 % 256), .int .u8 ((u : Int) / 16777216 % 256), .int .u8 ((u : Int) / 4294967296 % 256), .int .u8 ((u : Int) / 1099511627776 % 256), .int .u8 ((u : Int) / 281474976710656 % 256), .int .u8 ((u : Int) / 72057594037927936 % 256)] 40)).cell? ⟨w.heap.size, o, none⟩ := fun o => (hb2.cell (p := ⟨w.heap.size, o, none⟩) hz1).trans (hb1.cell (p := ⟨w.heap.size, o, none⟩) (by simp))
    have B2 := Lib.hid ((((Below.refl w.heap.size w).alloc (Nat.le_refl _) (Obj.cells #[.int .u8 ((u : Int) % 256), .int .u8 ((u : Int) / 256 % 256), .int .u8 ((u : Int) / 65536 % 256), .int .u8 ((u : Int) / 16777216 % 256), .int .u8 ((u : Int) / 4294967296 % 256), .int .u8 ((u : Int) / 1099511627776 % 256), .int .u8 ((u : Int) / 281474976710656 % 256), .int .u8 ((u : Int) / 72057594037927936 % 256)] 40)).trans (hb1.mono (by simp))).trans (hb2.mono (Nat.le_of_lt hz1)))
    clear hb1 hb2 hc hz1
    have HZ := Lib.hid hz2
    have BA := Lib.hid (B2.out.trans ((Below.refl w2.heap.size w2).alloc (Nat.le_refl _) (Obj.cells #[.int .u8 ((u : Int) % 256), .int .u8 ((u : Int) / 256 % 256), .int .u8 ((u : Int) / 65536 % 256), .int .u8 ((u : Int) / 16777216 % 256), .int .u8 ((u : Int) / 4294967296 % 256), .int .u8 ((u : Int) / 1099511627776 % 256), .int .u8 ((u : Int) / 281474976710656 % 256), .int .u8 ((u : Int) / 72057594037927936 % 256)] 40) |>.mono (Nat.le_of_lt hz2)))

    go_wp2_with (first | (go_at_call 27; refine (c27 u _ h).mono ?_; rintro e w3 ⟨rfl, hb3⟩; have B3 := Lib.hid (BA.out.trans (hb3.mono (by have := HZ.out; simp; omega))); clear hb3) | (go_at_call 21; refine (c21 u u _ H64.out H64.out).mono ?_; rintro e w' ⟨rfl, rfl⟩))
    go_ret
    exact ⟨rfl, B3.out⟩
end Go.Proofs.Ytibijjaeekameaa
