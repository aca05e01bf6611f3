/-
  The document's Prove.
-/
import Derived.Test.YtmcmdpbdipgahaaM12
import Derived.Test.YtmcmdpbdipgahaaMC
namespace Go.Proofs.Ytmcmdpbdipgahaa
open Go.RowKit
/-- what the document's Prove answers where there is a proof: a row of its own -/
def PvO (R : List (List Int)) (w : World) (e : Ending) (w' : World) : Prop := ∃ (A : Option Addr) (c : Nat), e = .returned (.tuple #[.slice A R.length c, .bool true]) ∧ w'.ownsRow w.heap.size 31 8 (.slice A R.length c) R.length (bvals R.flatten) ∧ Below w.heap.size w w'
theorem own8_mono {w : World} {base b2 n : Nat} {v : Value} {xs : List Value} (h : w.ownsRow base 31 8 v n xs) (hb : b2 ≤ base) : w.ownsRow b2 31 8 v n xs := by
  refine ⟨h.1, ?_⟩
  rcases h.2 with h2 | ⟨g, cap, cur, e, hbg, rest⟩
  · exact .inl h2
  · exact .inr ⟨g, cap, cur, e, Nat.le_trans hb hbg, rest⟩
attribute [local irreducible] ua da ba kk sw S8.run rt hs comp splice outB sha msg rootF leafH twoH stepsF cutN leadF provL bvals rootV

end Go.Proofs.Ytmcmdpbdipgahaa

/-
  Check and the document's at any numbers; a proof leads to its root.
-/
namespace Go.Proofs.Ytmcmdpbdipgahaa
open Go.RowKit
theorem chkB_no {root leaf pr : List Int} {i n : Int} {m : Nat} (h : (decide (0 ≤ i) && (decide (i < n) && decide (n ≤ 65536))) = false) : chkB root leaf i n m pr = false := by unfold chkB; rw [h]; rfl
theorem chkB_yes {root leaf pr : List Int} {i n m : Nat} (hi : i < n) (h : n ≤ 65536) : chkB root leaf i n m pr = (decide (m = stepsF n i n) && decide (leadF n leaf i n m pr = root)) := by
  unfold chkB
  rw [decide_eq_true (by omega : (0 : Int) ≤ (i : Int)), decide_eq_true (by omega : (i : Int) < (n : Int)), decide_eq_true (by omega : (n : Int) ≤ 65536), Int.toNat_natCast, Int.toNat_natCast]
  rfl
theorem may_split (i n : Int) : (decide (0 ≤ i) && (decide (i < n) && decide (n ≤ 65536))) = false ∨ ∃ (a b : Nat), i = a ∧ n = b ∧ a < b ∧ b ≤ 65536 := by
  by_cases h1 : 0 ≤ i
  · by_cases h2 : i < n
    · by_cases h3 : n ≤ 65536
      · exact .inr ⟨i.toNat, n.toNat, by omega, by omega, by omega, by omega⟩
      · exact .inl (by rw [decide_eq_false h3]; simp)
    · exact .inl (by rw [decide_eq_false h2]; simp)
  · exact .inl (by rw [decide_eq_false h1]; simp)
theorem drop_take_eight (l : List Int) (k i : Nat) (h : i < k) : ((l.take (8 * k)).drop (8 * i)).take 8 = (l.drop (8 * i)).take 8 := by
  rw [List.drop_take, List.take_take]
  congr 1
  omega
/-- a proof leads to its root -/
theorem lead_prov : ∀ (f : Nat) (l : List Int) (i n : Nat), l.length = 8 * n → i < n → n ≤ f → n ≤ 65536 → leadF f ((l.drop (8 * i)).take 8) i n (stepsF f i n) (provL f l i n).flatten = rootF f l
  | 0, _, _, _, _, hi, hf, _ => by omega
  | f + 1, l, i, n, hl, hi, hf, h64 => by
    by_cases hn : n = 1
    · subst hn
      obtain rfl : i = 0 := by omega
      rw [leadF_one, rootF_one f l hl, Nat.mul_zero, List.drop_zero, List.take_of_length_le (by omega)]
    · obtain ⟨c1, c2, c3⟩ := cutN_lo n (by omega) h64
      rw [rootF_two f l n hl (by omega)]
      have ht : (l.take (8 * cutN n)).length = 8 * cutN n := by rw [List.length_take]; omega
      have hd : (l.drop (8 * cutN n)).length = 8 * (n - cutN n) := by rw [List.length_drop]; omega
      have fl : ∀ (P : List (List Int)) (h : List Int), (∀ x ∈ P, x.length = 8) → ((P ++ [h]).flatten).take (8 * P.length) = P.flatten ∧ ((P ++ [h]).flatten).drop (8 * P.length) = h := fun P h h8 => by
        have e : (P ++ [h]).flatten = P.flatten ++ h := by simp
        have e2 := flat_len P h8
        rw [e, ← e2]
        exact ⟨by simp, by simp⟩
      by_cases h : i < cutN n
      · rw [stepsF_l f i n (by omega) h, provL_l f i n l (by omega) h, leadF_l f _ i n _ _ (by omega) h]
        have hP := fl (provL f (l.take (8 * cutN n)) i (cutN n)) (rootF (n - cutN n) (l.drop (8 * cutN n))) (provL_8 _ _ _ _)
        rw [provL_len] at hP
        rw [hP.1, hP.2, ← drop_take_eight l (cutN n) i h, lead_prov f _ i (cutN n) ht h (by omega) (by omega)]
        rw [rootF_fuel (n - cutN n) f _ (n - cutN n) hd (by omega) (Nat.le_refl _) (by omega) (by omega)]
      · rw [stepsF_r f i n (by omega) h, provL_r f i n l (by omega) h, leadF_r f _ i n _ _ (by omega) h]
        have hP := fl (provL f (l.drop (8 * cutN n)) (i - cutN n) (n - cutN n)) (rootF (cutN n) (l.take (8 * cutN n))) (provL_8 _ _ _ _)
        rw [provL_len] at hP
        have e : (l.drop (8 * i)).take 8 = ((l.drop (8 * cutN n)).drop (8 * (i - cutN n))).take 8 := by rw [List.drop_drop]; congr 2; omega
        rw [hP.1, hP.2, e, lead_prov f _ (i - cutN n) (n - cutN n) hd (by omega) (by omega) (by omega)]
        rw [rootF_fuel (cutN n) f _ (cutN n) ht (by omega) (Nat.le_refl _) (by omega) (by omega)]
end Go.Proofs.Ytmcmdpbdipgahaa
