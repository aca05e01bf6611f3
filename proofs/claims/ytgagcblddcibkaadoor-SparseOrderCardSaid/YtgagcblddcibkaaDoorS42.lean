/-
  What stands hangs on what is there alone.
-/
import Derived.Test.YtgagcblddcibkaaDoorS41
namespace Go.Proofs.YtgagcblddcibkaaDoor
open Go.RowKit
open Go.Maps
theorem lk_putA (L : List (Int × List Int)) (d : Int × List Int) : lk (putA L d) = if inr d.1 = true then upd (lk L) d.1 d.2 else lk L := by
  unfold putA
  split
  · exact lk_put L d.1 d.2
  · rfl
def Apart (P : Nat → Int × List Int) (n : Nat) : Prop := ∀ i, i < n → ∀ k, k < i → (P k).1 ≠ (P i).1
theorem lk_fill_in {P : Nat → Int × List Int} : ∀ n, Apart P n → ∀ i, i < n → inr (P i).1 = true → lk (fillL P n) (P i).1 = (P i).2
  | 0, _, i, h, _ => by omega
  | n + 1, ha, i, h, hr => by
    rw [show fillL P (n + 1) = putA (fillL P n) (P n) from rfl, lk_putA]
    by_cases e : i = n
    · subst e
      rw [if_pos hr, upd_same]
    · have hne : (P i).1 ≠ (P n).1 := ha n (by omega) i (by omega)
      have ih := lk_fill_in n (fun a hA k hk => ha a (by omega) k hk) i (by omega) hr
      split
      · rw [upd_other _ _ hne, ih]
      · exact ih
theorem lk_fill_out {P : Nat → Int × List Int} (j : Int) : ∀ n, (inr j = false ∨ ∀ i, i < n → (P i).1 ≠ j) → lk (fillL P n) j = zeros 8
  | 0, _ => rfl
  | n + 1, h => by
    have ih := lk_fill_out j n (h.imp id fun h i hi => h i (by omega))
    rw [show fillL P (n + 1) = putA (fillL P n) (P n) from rfl, lk_putA]
    split
    · rename_i hr
      rw [upd_other _ _ (fun e => ?_), ih]
      rcases h with h | h
      · rw [e, hr] at h; cases h
      · exact h n (by omega) e.symm
    · exact ih
theorem fill_same {P Q : Nat → Int × List Int} {n : Nat} (hP : Apart P n) (hQ : Apart Q n) (h1 : ∀ i, i < n → ∃ k, k < n ∧ Q k = P i) (h2 : ∀ i, i < n → ∃ k, k < n ∧ P k = Q i) : lk (fillL P n) = lk (fillL Q n) := by
  funext j
  by_cases hr : inr j = true
  · by_cases e : ∃ i, i < n ∧ (P i).1 = j
    · obtain ⟨i, hi, rfl⟩ := e
      obtain ⟨k, hk, e2⟩ := h1 i hi
      have := lk_fill_in n hQ k hk (by rw [e2]; exact hr)
      rw [lk_fill_in n hP i hi hr, ← e2, this]
    · rw [lk_fill_out j n (.inr fun i hi e3 => e ⟨i, hi, e3⟩), lk_fill_out j n (.inr fun i hi e3 => ?_)]
      obtain ⟨k, hk, e4⟩ := h2 i hi
      exact e ⟨k, hk, by rw [e4]; exact e3⟩
  · have hr : inr j = false := by simpa using hr
    rw [lk_fill_out j n (.inl hr), lk_fill_out j n (.inl hr)]
/-- the deeds, turned by k -/
def trn (P : Nat → Int × List Int) (n k : Nat) : Nat → Int × List Int := fun i => if i < n - k then P (k + i) else P (i - (n - k))
theorem fill_trn {P : Nat → Int × List Int} {n k : Nat} (hP : Apart P n) (hk : k ≤ n) : lk (fillL P n) = lk (fillL (trn P n k) n) := by
  have hap : ∀ a b, a < n → b < n → a ≠ b → (P a).1 ≠ (P b).1 := fun a b ha hb hne => by
    rcases Nat.lt_or_gt_of_ne hne with h | h
    · exact hP b hb a h
    · exact (hP a ha b h).symm
  refine fill_same hP (fun i hi j hj => ?_) (fun i hi => ?_) (fun i hi => ?_)
  · unfold trn
    split <;> split <;> exact hap _ _ (by omega) (by omega) (by omega)
  · by_cases h : k ≤ i
    · exact ⟨i - k, by omega, by unfold trn; rw [if_pos (by omega), show k + (i - k) = i by omega]⟩
    · exact ⟨i + (n - k), by omega, by unfold trn; rw [if_neg (by omega), show i + (n - k) - (n - k) = i by omega]⟩
  · unfold trn
    split
    · exact ⟨k + i, by omega, rfl⟩
    · exact ⟨i - (n - k), by omega, rfl⟩
end Go.Proofs.YtgagcblddcibkaaDoor
