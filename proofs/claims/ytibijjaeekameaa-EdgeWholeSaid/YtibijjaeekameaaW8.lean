/-
  Sum of a row of floats, the program's and the document's own: their works added, if all are fine and they are not too many.
-/
import Derived.Test.YtibijjaeekameaaW3
import Derived.LoopTactic
import Derived.LoopN
import Derived.Below
namespace Go.Proofs.Ytibijjaeekameaa
open Go.RowKit
open Fl

/-! ### rows of floats, without Go -/
def wsum (xs : List Nat) : Int := (xs.map workZ).sum
def allFine (xs : List Nat) : Bool := xs.all fineB
def sumB (xs : List Nat) : Bool := decide (xs.length ≤ 400) && allFine xs
def sumZ (xs : List Nat) : Int := if sumB xs = true then wsum xs else 0
theorem wsum_bd (xs : List Nat) : 0 ≤ wsum xs ∧ wsum xs ≤ 1048576 * xs.length := by
  unfold wsum
  induction xs with
  | nil => exact ⟨Int.le_refl _, Int.le_refl _⟩
  | cons x xs ih =>
    have := work_bd x
    simp only [List.map_cons, List.sum_cons, List.length_cons]
    omega
theorem wsum_append (xs ys : List Nat) : wsum (xs ++ ys) = wsum xs + wsum ys := by
  unfold wsum; rw [List.map_append, List.sum_append]
theorem take_succ' (xs : List Nat) (k : Nat) (h : k < xs.length) : xs.take (k + 1) = xs.take k ++ [xs.getD k 0] := by
  rw [List.take_succ_eq_append_getElem h]; simp [List.getD, h]
theorem wsum_take (xs : List Nat) (k : Nat) (h : k < xs.length) : wsum (xs.take (k + 1)) = wsum (xs.take k) + workZ (xs.getD k 0) := by
  rw [take_succ' xs k h, wsum_append]; simp [wsum]
theorem fine_take (xs : List Nat) (k : Nat) (h : k < xs.length) : allFine (xs.take (k + 1)) = (allFine (xs.take k) && fineB (xs.getD k 0)) := by
  rw [take_succ' xs k h]; simp [allFine]
theorem getD_at (xs : List Nat) (k : Nat) (h : k < xs.length) : xs.getD k 0 = xs[k] := by simp [List.getD, h]
theorem fine_no (xs : List Nat) (k : Nat) (h : k < xs.length) (hf : fineB (xs.getD k 0) = false) : allFine xs = false := by
  unfold allFine
  rw [List.all_eq_false]
  refine ⟨xs.getD k 0, ?_, by rw [hf]; decide⟩
  rw [getD_at xs k h]
  exact List.getElem_mem h
theorem sum_many {xs : List Nat} (h : 400 < xs.length) : sumZ xs = 0 ∧ sumB xs = false := by
  have : sumB xs = false := by unfold sumB; rw [decide_eq_false (by omega)]; rfl
  exact ⟨by unfold sumZ; rw [this]; rfl, this⟩
theorem sum_broken {xs : List Nat} (h : allFine xs = false) : sumZ xs = 0 ∧ sumB xs = false := by
  have : sumB xs = false := by unfold sumB; rw [h, Bool.and_false]
  exact ⟨by unfold sumZ; rw [this]; rfl, this⟩
theorem sum_fine {xs : List Nat} (hl : xs.length ≤ 400) (h : allFine xs = true) : sumZ xs = wsum xs ∧ sumB xs = true := by
  have : sumB xs = true := by unfold sumB; rw [h, decide_eq_true hl]; rfl
  exact ⟨by unfold sumZ; rw [this]; rfl, this⟩
theorem sum_turn (xs : List Nat) (k : Nat) : sumZ (xs.drop k ++ xs.take k) = sumZ xs ∧ sumB (xs.drop k ++ xs.take k) = sumB xs := by
  have hl : (xs.drop k ++ xs.take k).length = xs.length := by
    rw [List.length_append, List.length_drop, List.length_take]; omega
  have hf : allFine (xs.drop k ++ xs.take k) = allFine xs := by
    unfold allFine
    rw [List.all_append, Bool.and_comm, ← List.all_append, List.take_append_drop]
  have hs : wsum (xs.drop k ++ xs.take k) = wsum xs := by
    rw [wsum_append, Int.add_comm, ← wsum_append, List.take_append_drop]
  have hb : sumB (xs.drop k ++ xs.take k) = sumB xs := by unfold sumB; rw [hl, hf]
  exact ⟨by unfold sumZ; rw [hb, hs], hb⟩

/-- a slice whose elements are these floats -/
def Row (w : World) (a : Option Addr) (xs : List Nat) : Prop :=
  xs = [] ∨ ∃ b off, a = some ⟨b, off, none⟩ ∧ ∀ i, i < xs.length → w.cell? ⟨b, off + i, none⟩ = some (.float .f64 (xs.getD i 0))

set_option maxHeartbeats 1000000 in
theorem c19 (a : Option Addr) (len cap : Nat) (xs : List Nat) (w : World) (hlen : xs.length = len) (hm : len ≤ 9223372036854775807) (hw : ∀ x ∈ xs, x < 2 ^ 64) (hr : Row w a xs) :
    Calls Try.prog 19 #[.slice a len cap] w fun e w' => e = .returned (.tuple #[.int .i64 (sumZ xs), .bool (sumB xs)]) ∧ w = w' := by
  rcases hr with rfl | ⟨b, off, rfl, hc⟩
  · obtain rfl : len = 0 := by simpa using hlen.symm
    rw [(sum_fine (xs := []) (by decide) rfl).1, (sum_fine (xs := []) (by decide) rfl).2]
    go_enter Try.func19, Try.ntmps19
    go_wp2
    refine wp_loop_rounds 1 ?_
    rw [rounds_succ]
    go_wp2
    go_ret2
    exact ⟨rfl, rfl⟩
  by_cases hbig : 400 < len
  · rw [(sum_many (xs := xs) (by omega)).1, (sum_many (xs := xs) (by omega)).2]
    clear hc
    go_enter Try.func19, Try.ntmps19
    go_wp2
    go_ret2
    exact ⟨rfl, rfl⟩
  have HW := Lib.hid hw
  have HC := Lib.hid hc
  have HL := Lib.hid hlen
  clear hw hc hlen
  go_enter Try.func19, Try.ntmps19
  go_wp2
  go_loop [4, 14] (fun s i => ∃ k : Nat, k ≤ len ∧ i = .int .i64 k ∧ s = .int .i64 (wsum (xs.take k)) ∧ allFine (xs.take k) = true) (fun _ i => len - (intOf i).toNat)
  case atStart => exact ⟨0, Nat.zero_le _, rfl, rfl, rfl⟩
  case round =>
    obtain ⟨k, hk, rfl, rfl, hf⟩ := hrel
    have HF := Lib.hid hf
    clear hf
    by_cases hlt : k < len
    · have hx := HC.out k (by rw [HL.out]; exact hlt)
      have h64 : xs.getD k 0 < 2 ^ 64 := by
        have hk' : k < xs.length := by rw [HL.out]; exact hlt
        rw [getD_at xs k hk']
        exact HW.out _ (List.getElem_mem hk')
      have H64 := Lib.hid h64
      clear h64
      have b1 := wsum_bd (xs.take k)
      have b2 := work_bd (xs.getD k 0)
      have b3 : ((xs.take k).length : Int) ≤ k := by rw [List.length_take]; omega
      obtain ⟨b1a, b1b⟩ := b1
      obtain ⟨b2a, b2b⟩ := b2
      have b4 : wsum (xs.take k) ≤ 1048576 * 400 := by omega
      clear b1b b3
      have WT := Lib.hid (wsum_take xs k (by rw [HL.out]; exact hlt))
      have FT := Lib.hid (fine_take xs k (by rw [HL.out]; exact hlt))
      have hxx : ∃ x, x = xs.getD k 0 := ⟨_, rfl⟩
      obtain ⟨x, hxe⟩ := hxx
      rw [← hxe] at hx H64 b2a b2b WT FT
      have HX := Lib.hid hxe
      clear hxe
      cases hfx : fineB x with
      | true =>
        go_wp2_with (go_at_call 12; refine (c12 x _ H64.out).mono ?_; rintro e w' ⟨rfl, rfl⟩)
        go_round
        case rel => exact ⟨k + 1, by omega, by go_num, by rw [WT.out], by rw [FT.out, HF.out, hfx]; rfl⟩
        case measure => simp [intOf]; omega
      | false =>
        have hno : allFine xs = false := fine_no xs k (by rw [HL.out]; exact hlt) (by rw [← HX.out]; exact hfx)
        have SB := Lib.hid (sum_broken hno)
        clear hno
        go_wp2_with (go_at_call 12; refine (c12 x _ H64.out).mono ?_; rintro e w' ⟨rfl, rfl⟩)
        go_ret2
        exact ⟨by rw [SB.out.1, SB.out.2] <;> rfl, rfl⟩
    · have SF : Hid (sumZ xs = wsum (xs.take k) ∧ sumB xs = true) := by
        have : xs.take k = xs := List.take_of_length_le (by rw [HL.out]; omega)
        have hf := HF.out
        rw [this] at hf ⊢
        exact sum_fine (by rw [HL.out]; omega) hf
      go_wp2
      go_ret2
      exact ⟨by rw [SF.out.1, SF.out.2] <;> rfl, rfl⟩

set_option maxHeartbeats 1000000 in
theorem c20 (a : Option Addr) (len cap : Nat) (xs : List Nat) (w : World) (hlen : xs.length = len) (hm : len ≤ 9223372036854775807) (hw : ∀ x ∈ xs, x < 2 ^ 64) (hr : Row w a xs) :
    Calls Try.prog 20 #[.slice a len cap] w fun e w' => e = .returned (.tuple #[.int .i64 (sumZ xs), .bool (sumB xs)]) ∧ w = w' := by
  rcases hr with rfl | ⟨b, off, rfl, hc⟩
  · obtain rfl : len = 0 := by simpa using hlen.symm
    rw [(sum_fine (xs := []) (by decide) rfl).1, (sum_fine (xs := []) (by decide) rfl).2]
    go_enter Try.func20, Try.ntmps20
    go_wp2
    refine wp_loop_rounds 1 ?_
    rw [rounds_succ]
    go_wp2
    go_ret2
    exact ⟨rfl, rfl⟩
  by_cases hbig : 400 < len
  · rw [(sum_many (xs := xs) (by omega)).1, (sum_many (xs := xs) (by omega)).2]
    clear hc
    go_enter Try.func20, Try.ntmps20
    go_wp2
    go_ret2
    exact ⟨rfl, rfl⟩
  have HW := Lib.hid hw
  have HC := Lib.hid hc
  have HL := Lib.hid hlen
  clear hw hc hlen
  go_enter Try.func20, Try.ntmps20
  go_wp2
  go_loop [4, 5] (fun s i => ∃ k : Nat, k ≤ len ∧ i = .int .i64 k ∧ s = .int .i64 (wsum (xs.take k)) ∧ allFine (xs.take k) = true) (fun _ i => len - (intOf i).toNat)
  case atStart => exact ⟨0, Nat.zero_le _, rfl, rfl, rfl⟩
  case round =>
    obtain ⟨k, hk, rfl, rfl, hf⟩ := hrel
    have HF := Lib.hid hf
    clear hf
    by_cases hlt : k < len
    · have hx := HC.out k (by rw [HL.out]; exact hlt)
      have h64 : xs.getD k 0 < 2 ^ 64 := by
        have hk' : k < xs.length := by rw [HL.out]; exact hlt
        rw [getD_at xs k hk']
        exact HW.out _ (List.getElem_mem hk')
      have H64 := Lib.hid h64
      clear h64
      have b1 := wsum_bd (xs.take k)
      have b2 := work_bd (xs.getD k 0)
      have b3 : ((xs.take k).length : Int) ≤ k := by rw [List.length_take]; omega
      obtain ⟨b1a, b1b⟩ := b1
      obtain ⟨b2a, b2b⟩ := b2
      have b4 : wsum (xs.take k) ≤ 1048576 * 400 := by omega
      clear b1b b3
      have WT := Lib.hid (wsum_take xs k (by rw [HL.out]; exact hlt))
      have FT := Lib.hid (fine_take xs k (by rw [HL.out]; exact hlt))
      have hxx : ∃ x, x = xs.getD k 0 := ⟨_, rfl⟩
      obtain ⟨x, hxe⟩ := hxx
      rw [← hxe] at hx H64 b2a b2b WT FT
      have HX := Lib.hid hxe
      clear hxe
      cases hfx : fineB x with
      | true =>
        go_wp2_with (go_at_call 15; refine (c15 x _ H64.out).mono ?_; rintro e w' ⟨rfl, rfl⟩)
        go_round
        case rel => exact ⟨k + 1, by omega, by go_num, by rw [WT.out], by rw [FT.out, HF.out, hfx]; rfl⟩
        case measure => simp [intOf]; omega
      | false =>
        have hno : allFine xs = false := fine_no xs k (by rw [HL.out]; exact hlt) (by rw [← HX.out]; exact hfx)
        have SB := Lib.hid (sum_broken hno)
        clear hno
        go_wp2_with (go_at_call 15; refine (c15 x _ H64.out).mono ?_; rintro e w' ⟨rfl, rfl⟩)
        go_ret2
        exact ⟨by rw [SB.out.1, SB.out.2] <;> rfl, rfl⟩
    · have SF : Hid (sumZ xs = wsum (xs.take k) ∧ sumB xs = true) := by
        have : xs.take k = xs := List.take_of_length_le (by rw [HL.out]; omega)
        have hf := HF.out
        rw [this] at hf ⊢
        exact sum_fine (by rw [HL.out]; omega) hf
      go_wp2
      go_ret2
      exact ⟨by rw [SF.out.1, SF.out.2] <;> rfl, rfl⟩
end Go.Proofs.Ytibijjaeekameaa
