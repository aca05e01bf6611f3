/-
  Sum of a row, the program's and the document's own.
-/
import Derived.Test.YtbolcpglkjjheaaW3
import Derived.LoopTactic
import Derived.LoopN
import Derived.Below
namespace Go.Proofs.Ytbolcpglkjjheaa
open Go.RowKit

/-! ### rows of amounts, without Go -/
def allMay (xs : List Int) : Bool := xs.all mayB
def okB (xs : List Int) : Bool := allMay xs && decide (xs.sum ≤ 1125899906842624)
def sumZ (xs : List Int) : Int := if okB xs = true then xs.sum else 0
theorem may_iff {n : Int} : mayB n = true ↔ 0 ≤ n ∧ n ≤ 1125899906842624 := by unfold mayB; simp
theorem all_nonneg (xs : List Int) (h : allMay xs = true) : 0 ≤ xs.sum := by
  induction xs with
  | nil => exact Int.le_refl _
  | cons x xs ih =>
    simp only [allMay, List.all_cons, Bool.and_eq_true] at h
    have := ih h.2
    have := may_iff.mp h.1
    simp only [List.sum_cons]; omega
theorem all_append (xs ys : List Int) : allMay (xs ++ ys) = (allMay xs && allMay ys) := by unfold allMay; rw [List.all_append]
theorem ok_parts {xs ys : List Int} (h : okB (xs ++ ys) = true) : okB xs = true ∧ okB ys = true ∧ xs.sum + ys.sum ≤ 1125899906842624 ∧ 0 ≤ xs.sum ∧ 0 ≤ ys.sum := by
  unfold okB at h ⊢
  rw [all_append, List.sum_append] at h
  simp only [Bool.and_eq_true, decide_eq_true_eq] at h ⊢
  obtain ⟨⟨h1, h2⟩, h3⟩ := h
  have := all_nonneg xs h1
  have := all_nonneg ys h2
  refine ⟨⟨h1, by omega⟩, ⟨h2, by omega⟩, h3, by omega, by omega⟩
theorem ok_snoc {xs : List Int} (x : Int) (h : okB xs = true) : okB (xs ++ [x]) = addB xs.sum x := by
  have h' := h
  unfold okB at h
  simp only [Bool.and_eq_true, decide_eq_true_eq] at h
  have := all_nonneg xs h.1
  rw [Bool.eq_iff_iff, add_iff]
  unfold okB
  rw [all_append, List.sum_append]
  simp only [Bool.and_eq_true, decide_eq_true_eq, h.1, true_and]
  simp only [allMay, List.all_cons, List.all_nil, Bool.and_true, may_iff, List.sum_cons, List.sum_nil]
  omega
theorem ok_swap (xs ys : List Int) : okB (ys ++ xs) = okB (xs ++ ys) ∧ (ys ++ xs).sum = (xs ++ ys).sum := by
  have hs : (ys ++ xs).sum = (xs ++ ys).sum := by rw [List.sum_append, List.sum_append]; omega
  exact ⟨by unfold okB; rw [hs, all_append, all_append, Bool.and_comm (allMay ys)], hs⟩
theorem ok_take {xs : List Int} (k : Nat) (h : okB xs = true) : okB (xs.take k) = true := by
  rw [← List.take_append_drop k xs] at h
  exact (ok_parts h).1
theorem getD_at (xs : List Int) (k : Nat) (h : k < xs.length) : xs.getD k 0 = xs[k] := by simp [List.getD, h]
theorem take_snoc (xs : List Int) (k : Nat) (h : k < xs.length) : xs.take (k + 1) = xs.take k ++ [xs.getD k 0] := by
  rw [List.take_succ_eq_append_getElem h, getD_at xs k h]
theorem ok_next {xs : List Int} {k : Nat} (h : k < xs.length) (hk : okB (xs.take k) = true) : okB (xs.take (k + 1)) = addB (xs.take k).sum (xs.getD k 0) := by
  rw [take_snoc xs k h, ok_snoc _ hk]
theorem sum_next {xs : List Int} {k : Nat} (h : k < xs.length) : (xs.take (k + 1)).sum = (xs.take k).sum + xs.getD k 0 := by
  rw [take_snoc xs k h, List.sum_append]; simp
theorem ok_no {xs : List Int} {k : Nat} (h : okB (xs.take k) = false) : okB xs = false := by
  cases hx : okB xs with
  | false => rfl
  | true => rw [ok_take k hx] at h; cases h
theorem sum_yes {xs : List Int} (h : okB xs = true) : sumZ xs = xs.sum := if_pos h
theorem sum_no {xs : List Int} (h : okB xs = false) : sumZ xs = 0 := by unfold sumZ; rw [h]; rfl
theorem ok_sum {xs : List Int} (h : okB xs = true) : 0 ≤ xs.sum ∧ xs.sum ≤ 1125899906842624 := by
  unfold okB at h
  simp only [Bool.and_eq_true, decide_eq_true_eq] at h
  exact ⟨all_nonneg xs h.1, h.2⟩

/-- a slice whose elements are these numbers -/
def Row (w : World) (a : Option Addr) (xs : List Int) : Prop :=
  xs = [] ∨ ∃ b off, a = some ⟨b, off, none⟩ ∧ ∀ i, i < xs.length → w.cell? ⟨b, off + i, none⟩ = some (.int .i64 (xs.getD i 0))
def Died (e : Ending) : Prop := ∃ u v, e = .panicked [{ v := .iface u v, recovered := false }]
def TotEnd (xs : List Int) (e : Ending) : Prop := if okB xs = true then e = .returned (.int .i64 xs.sum) else Died e
theorem tot_yes {xs : List Int} (h : okB xs = true) : TotEnd xs (.returned (.int .i64 xs.sum)) := by unfold TotEnd; rw [if_pos h]
theorem tot_no {xs : List Int} {e : Ending} (h : okB xs = false) (he : Died e) : TotEnd xs e := by unfold TotEnd; rw [h]; exact he

set_option maxHeartbeats 1000000 in
theorem c25 (a : Option Addr) (len cap : Nat) (xs : List Int) (w : World) (hlen : xs.length = len) (hm : len ≤ 9223372036854775807) (hr : Row w a xs) :
    Calls Try.prog 25 #[.slice a len cap] w fun e w' => TotEnd xs e ∧ w = w' := by
  rcases hr with rfl | ⟨b, off, rfl, hc⟩
  · obtain rfl : len = 0 := by simpa using hlen.symm
    go_enter Try.func25, Try.ntmps25
    go_wp2
    refine wp_loop_rounds 1 ?_
    rw [rounds_succ]
    go_wp2
    go_ret
    exact ⟨tot_yes (xs := []) rfl, rfl⟩
  have HC := Lib.hid hc
  have HL := Lib.hid hlen
  clear hc hlen
  go_enter Try.func25, Try.ntmps25
  go_wp2
  go_loop [3, 8] (fun s i => ∃ k : Nat, k ≤ len ∧ i = .int .i64 k ∧ s = .int .i64 (xs.take k).sum ∧ okB (xs.take k) = true) (fun _ i => len - (intOf i).toNat)
  case atStart => exact ⟨0, Nat.zero_le _, rfl, rfl, rfl⟩
  case round =>
    obtain ⟨k, hk, rfl, rfl, hf⟩ := hrel
    have HF := Lib.hid hf
    clear hf
    by_cases hlt : k < len
    · have hx := HC.out k (by rw [HL.out]; exact hlt)
      have hk' : k < xs.length := by rw [HL.out]; exact hlt
      have NX := Lib.hid (ok_next hk' HF.out)
      have SX := Lib.hid (sum_next hk')
      clear hk'
      obtain ⟨x, hxe⟩ : ∃ x, x = xs.getD k 0 := ⟨_, rfl⟩
      rw [← hxe] at hx NX SX
      have HX := Lib.hid hxe
      clear hxe
      cases ha : addB (xs.take k).sum x with
      | true =>
        have C := Lib.hid (c18y _ _ w ha)
        rw [ha] at NX
        clear ha
        go_wp2_with (go_at_call 18; refine C.out.mono ?_; rintro e w' ⟨rfl, rfl⟩)
        go_round
        case rel => exact ⟨k + 1, by omega, by go_num, by rw [SX.out], NX.out⟩
        case measure => simp [intOf]; omega
      | false =>
        have C := Lib.hid (c18n _ _ w ha)
        rw [ha] at NX
        clear ha
        have D := Lib.hid (ok_no NX.out)
        go_wp2_with (go_at_call 18; refine C.out.mono ?_; rintro e w' ⟨rfl, rfl⟩)
        exact ⟨rfl, tot_no D.out ⟨_, _, rfl⟩, rfl⟩
    · have SF : Hid (okB xs = true ∧ xs.take k = xs) := by
        have : xs.take k = xs := List.take_of_length_le (by rw [HL.out]; omega)
        have hf := HF.out
        rw [this] at hf
        exact ⟨hf, this⟩
      go_wp2
      go_ret
      exact ⟨by rw [SF.out.2]; exact tot_yes SF.out.1, rfl⟩
end Go.Proofs.Ytbolcpglkjjheaa
