/-
  Check and the document's at any numbers; a proof leads to its root.
-/
import Derived.Test.YthdejiadokpafaaDoorM9
import Derived.Test.YthdejiadokpafaaDoorM13
namespace Go.Proofs.YthdejiadokpafaaDoor
open Go.RowKit
theorem chkB_no {root leaf pr : List Int} {i n : Int} {m : Nat} (h : (decide (0 ≤ i) && (decide (i < n) && decide (n ≤ 65536))) = false) : chkB root leaf i n m pr = false := by unfold chkB; rw [h]; rfl
theorem chkB_yes {root leaf pr : List Int} {i n m : Nat} (hi : i < n) (h : n ≤ 65536) : chkB root leaf i n m pr = (decide (m = stepsF n i n) && decide (leadF n leaf i n m pr = root)) := by
  unfold chkB
  rw [decide_eq_true (by omega : (0 : Int) ≤ (i : Int)), decide_eq_true (by omega : (i : Int) < (n : Int)), decide_eq_true (by omega : (n : Int) ≤ 65536), Int.toNat_natCast, Int.toNat_natCast]
  rfl
theorem may_split (i n : Int) : (decide (0 ≤ i) && (decide (i < n) && decide (n ≤ 65536))) = false ∨ ∃ (a b : Nat), i = a ∧ n = b ∧ a < b ∧ b ≤ 65536 := by
  by_cases h1 : 0 ≤ i
  · by_cases h2 : i < n
    · by_cases h3 : n ≤ 65536
      · exact .inr ⟨i.toNat, n.toNat, by omega, by omega, by omega, by omega⟩
      · exact .inl (by rw [decide_eq_false h3]; simp)
    · exact .inl (by rw [decide_eq_false h2]; simp)
  · exact .inl (by rw [decide_eq_false h1]; simp)
/-- Check: any numbers -/
theorem p12 (root leaf : List Int) (i n : Int) (A : Option Addr) (m cap : Nat) (pr : List Int) (w : World) (hk : Keys w) (hr : root.length = 8) (hl : leaf.length = 8) (hs : Src w A (8 * m) pr) (hcap : m ≤ cap) :
    Calls Tryd.prog 12 #[.agg (ba root), .agg (ba leaf), .int .i64 i, .int .i64 n, .slice A m cap] w fun e w' => e = .returned (.bool (chkB root leaf i n m pr)) ∧ Below w.heap.size w w' := by
  rcases may_split i n with h | ⟨a, b, rfl, rfl, h1, h2⟩
  · rw [chkB_no h]
    exact p12a root leaf i n A m cap w h
  · rw [chkB_yes h1 h2]
    by_cases hm : m = stepsF b a b
    · rw [decide_eq_true hm, Bool.true_and]
      exact p12c root leaf a b A m cap pr w hk hr hl hs h1 h2 hm hcap
    · rw [decide_eq_false hm, Bool.false_and]
      exact p12b root leaf a b A m cap w h1 h2 hm
/-- the document's Check: any numbers -/
theorem r13 (root leaf : List Int) (i n : Int) (A : Option Addr) (m cap : Nat) (pr : List Int) (w : World) (hk : Keys w) (hr : root.length = 8) (hl : leaf.length = 8) (hs : Src w A (8 * m) pr) (hm : m ≤ 1000000) (hcap : m ≤ cap) :
    Calls Tryd.prog 13 #[.agg (ba root), .agg (ba leaf), .int .i64 i, .int .i64 n, .slice A m cap] w fun e w' => e = .returned (.bool (chkB root leaf i n m pr)) ∧ Below w.heap.size w w' := by
  rcases may_split i n with h | ⟨a, b, rfl, rfl, h1, h2⟩
  · rw [chkB_no h]
    exact r13a root leaf i n A m cap w h
  · rw [chkB_yes h1 h2]
    exact r13b root leaf a b A m cap pr w hk hr hl hs h1 h2 hm hcap
theorem drop_take_eight (l : List Int) (k i : Nat) (h : i < k) : ((l.take (8 * k)).drop (8 * i)).take 8 = (l.drop (8 * i)).take 8 := by
  rw [List.drop_take, List.take_take]
  congr 1
  omega
/-- a proof leads to its root -/
theorem lead_prov : ∀ (f : Nat) (l : List Int) (i n : Nat), l.length = 8 * n → i < n → n ≤ f → n ≤ 65536 → leadF f ((l.drop (8 * i)).take 8) i n (stepsF f i n) (provL f l i n).flatten = rootF f l
  | 0, _, _, _, _, hi, hf, _ => by omega
  | f + 1, l, i, n, hl, hi, hf, h64 => by
    by_cases hn : n = 1
    · subst hn
      obtain rfl : i = 0 := by omega
      rw [leadF_one, rootF_one f l hl, Nat.mul_zero, List.drop_zero, List.take_of_length_le (by omega)]
    · obtain ⟨c1, c2, c3⟩ := cutN_lo n (by omega) h64
      rw [rootF_two f l n hl (by omega)]
      have ht : (l.take (8 * cutN n)).length = 8 * cutN n := by rw [List.length_take]; omega
      have hd : (l.drop (8 * cutN n)).length = 8 * (n - cutN n) := by rw [List.length_drop]; omega
      have fl : ∀ (P : List (List Int)) (h : List Int), (∀ x ∈ P, x.length = 8) → ((P ++ [h]).flatten).take (8 * P.length) = P.flatten ∧ ((P ++ [h]).flatten).drop (8 * P.length) = h := fun P h h8 => by
        have e : (P ++ [h]).flatten = P.flatten ++ h := by simp
        have e2 := flat_len P h8
        rw [e, ← e2]
        exact ⟨by simp, by simp⟩
      by_cases h : i < cutN n
      · rw [stepsF_l f i n (by omega) h, provL_l f i n l (by omega) h, leadF_l f _ i n _ _ (by omega) h]
        have hP := fl (provL f (l.take (8 * cutN n)) i (cutN n)) (rootF (n - cutN n) (l.drop (8 * cutN n))) (provL_8 _ _ _ _)
        rw [provL_len] at hP
        rw [hP.1, hP.2, ← drop_take_eight l (cutN n) i h, lead_prov f _ i (cutN n) ht h (by omega) (by omega)]
        rw [rootF_fuel (n - cutN n) f _ (n - cutN n) hd (by omega) (Nat.le_refl _) (by omega) (by omega)]
      · rw [stepsF_r f i n (by omega) h, provL_r f i n l (by omega) h, leadF_r f _ i n _ _ (by omega) h]
        have hP := fl (provL f (l.drop (8 * cutN n)) (i - cutN n) (n - cutN n)) (rootF (cutN n) (l.take (8 * cutN n))) (provL_8 _ _ _ _)
        rw [provL_len] at hP
        have e : (l.drop (8 * i)).take 8 = ((l.drop (8 * cutN n)).drop (8 * (i - cutN n))).take 8 := by rw [List.drop_drop]; congr 2; omega
        rw [hP.1, hP.2, e, lead_prov f _ (i - cutN n) (n - cutN n) hd (by omega) (by omega) (by omega)]
        rw [rootF_fuel (cutN n) f _ (cutN n) ht (by omega) (Nat.le_refl _) (by omega) (by omega)]
end Go.Proofs.YthdejiadokpafaaDoor
