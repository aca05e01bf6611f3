/-
  fits, low; the digits of a number.
-/
import Derived.Test.YtgagcblddcibkaaDoorS11
namespace Go.Proofs.YtgagcblddcibkaaDoor
open Go.RowKit
open Go.Maps
theorem set_row (n : Int) (w k : Nat) (h : k < w) : (bvals (digs n k) ++ List.replicate (w - k) (Value.int .u8 0)).set k (.int .u8 (dig n k)) = bvals (digs n (k + 1)) ++ List.replicate (w - (k + 1)) (Value.int .u8 0) := by
  have h1 : (bvals (digs n k)).length = k := by simp [bvals, digs_len]
  rw [List.set_append_right _ _ (by omega), h1, Nat.sub_self, show w - k = (w - (k + 1)) + 1 by omega, List.replicate_succ, List.set_cons_zero, digs_succ]
  simp [bvals]
/-- what a number's bytes answer: a slice that has them -/
def DigR (n : Int) (w : Nat) (W : World) (e : Ending) (W' : World) : Prop := ∃ (A : Option Addr) (c : Nat), e = .returned (.slice A w c) ∧ Src W' A w (digs n w) ∧ (w ≤ c ∧ c ≤ 9223372036854775807 ∧ (A = none → c = 0)) ∧ Below W.heap.size W W'
theorem p34 (n : Int) (w : Nat) (W : World) (hw : w ≤ 7) : Calls Tryd.prog 34 #[.int .i64 n, .int .i64 w] W (DigR n w W) := by
  have key : Calls Tryd.prog 34 #[.int .i64 n, .int .i64 w] W fun e W' => e = .returned (.slice (some ⟨W.heap.size, 0, none⟩) w w) ∧ W'.ownsRow W.heap.size 5 1 (.slice (some ⟨W.heap.size, 0, none⟩) w w) w (bvals (digs n w)) ∧ Below W.heap.size W W' := by
    obtain ⟨i0, hi, hz0, hz1, hz2⟩ := info_parts info5
    have HI := Lib.hid hi
    have HI0 := Lib.hid hz0
    have HI1 := Lib.hid hz1
    have HI2 := Lib.hid hz2
    clear hi hz0 hz1 hz2
    go_enter Tryd.func34, Tryd.ntmps34
    go_wp2_with (refine wpList_make_full _ rfl (.tmp 7) (.tmp 7) 67 rfl W.heap.size 5 i0 (.int .u8 0) 1 Tryd.underlying67 HI.out HI0.out HI1.out .i64 .i64 w w w rfl rfl rfl rfl (by rw [HI2.out]; omega) (by unfold maxLen; omega) (Nat.le_refl _) ?_; intro w1 hown hg)
    have O1 : Hid (w1.ownsRow W.heap.size 5 1 (.slice (some ⟨W.heap.size, 0, none⟩) w w) w (bvals (digs n 0) ++ List.replicate (w - 0) (Value.int .u8 0))) := by
      show w1.ownsRow _ _ _ _ _ _
      have h := hown
      rw [show (Value.int IntKind.u8 0).cells = #[Value.int .u8 0] from rfl, Nat.mul_one, toList_madeCells_one] at h
      simpa [digs, bvals] using h
    have B1 : Hid (Below W.heap.size W w1) := (Below.refl _ _).grown hg (Nat.le_refl _) (fun k h => by cases h)
    clear hown hg
    go_loopw [6, 11] (fun j i wr => ∃ k : Nat, k ≤ w ∧ i = .int .i64 k ∧ wr.ownsRow W.heap.size 5 1 (.slice (some ⟨W.heap.size, 0, none⟩) w w) w (bvals (digs n k) ++ List.replicate (w - k) (Value.int .u8 0)) ∧ Below W.heap.size W wr) (fun _ i _ => w - (intOf i).toNat)
    case atStart => exact ⟨0, Nat.zero_le _, rfl, O1.out, B1.out⟩
    case round =>
      obtain ⟨k, hk, rfl, hown, hbel⟩ := hrel
      by_cases hlt : k < w
      · have hc := hown.cellAt k (by omega)
        have hlen : (bvals (digs n k) ++ List.replicate (w - k) (Value.int .u8 0)).length = w := by simp [bvals, digs_len]; omega
        obtain ⟨v, hv⟩ : ∃ v, wr.cell? ⟨W.heap.size, k, none⟩ = some v := ⟨_, hc.trans (List.getElem?_eq_getElem (by omega))⟩
        have hf := hown.frozenAt k
        have OW := Lib.hid hown
        have BL := Lib.hid hbel
        have h8 : (8 * (k : Int)).toNat = 8 * k := by omega
        have hmin : min (8 * k) 64 = 8 * k := by omega
        have ST := Lib.hid (hown.stored k (.int .u8 (dig n k)))
        clear hc hlen hown hbel
        go_wp2
        go_roundw
        case rel => exact ⟨k + 1, by omega, by go_num, by have := ST.out.1; rw [set_row n w k hlt] at this; exact this, BL.out.setCell (Nat.le_refl _) _⟩
        case measure => simp [intOf]; omega
      · obtain rfl : k = w := by omega
        have OW := Lib.hid hown
        have BL := Lib.hid hbel
        clear hown hbel
        go_wp2
        go_ret
        exact ⟨rfl, by have := OW.out; rw [Nat.sub_self] at this; simpa using this, BL.out⟩
  refine key.mono fun e W' h => ?_
  obtain ⟨rfl, ho, hb⟩ := h
  obtain ⟨h1, h2, h3, h4⟩ := src_own ho
  exact ⟨_, _, rfl, h1, ⟨h2, h4, h3⟩, hb⟩
theorem p37 (n : Int) (w : Nat) (W : World) (hw : w ≤ 7) : Calls Tryd.prog 37 #[.int .i64 n, .int .i64 w] W (DigR n w W) := by
  refine (c21 n w W hw).mono fun e W' h => ?_
  obtain ⟨A, c, rfl, ho, hb⟩ := h
  obtain ⟨h1, h2, h3, h4⟩ := src_own ho
  exact ⟨_, _, rfl, h1, ⟨h2, h4, h3⟩, hb⟩
theorem p31 (n : Int) (w : Nat) (W : World) (hw : w ≤ 7) : Calls Tryd.prog 31 #[.int .i64 n, .int .i64 w] W fun e W' => e = .returned (.bool (decide (n / 2 ^ (8 * w) = 0))) ∧ W = W' := by
  have h8 : (8 * (w : Int)).toNat = 8 * w := by omega
  have hmin : min (8 * w) 64 = 8 * w := by omega
  have w0 : (0 : Int) ≤ (w : Int) := by omega
  have w1 : (w : Int) ≤ 7 := by omega
  clear hw
  go_enter Tryd.func31, Tryd.ntmps31
  go_wp2
  go_ret
  exact ⟨rfl, rfl⟩
end Go.Proofs.YtgagcblddcibkaaDoor
