/-
  Which parameters may be, which signatures are right, how many keys have signed, without Go.
-/
import Derived.Test.YtmcmdpbdipgahaaK2
import Derived.Test.YtmcmdpbdipgahaaQP
namespace Go.Proofs.Ytmcmdpbdipgahaa
open Go.RowKit
/-- where p holds below n -/
def cntN (p : Nat → Bool) : Nat → Nat
  | 0 => 0
  | n + 1 => cntN p n + (if p n = true then 1 else 0)
theorem cntN_congr (p q : Nat → Bool) : ∀ n, (∀ k, k < n → p k = q k) → cntN p n = cntN q n
  | 0, _ => rfl
  | n + 1, h => by rw [cntN, cntN, cntN_congr p q n fun k hk => h k (by omega), h n (by omega)]
theorem cntN_le (p : Nat → Bool) : ∀ n, cntN p n ≤ n
  | 0 => Nat.le_refl _
  | n + 1 => by have := cntN_le p n; rw [cntN]; split <;> omega
theorem cntN_or (p : Nat → Bool) (a : Nat) (hp : p a = false) : ∀ n, a < n → cntN (fun k => p k || decide (a = k)) n = cntN p n + 1
  | 0, h => by omega
  | n + 1, h => by
    rw [cntN, cntN]
    by_cases e : a = n
    · subst e
      rw [cntN_congr (fun k => p k || decide (a = k)) p a fun k hk => by simp [show a ≠ k by omega]]
      simp [hp]
    · rw [cntN_or p a hp n (by omega)]
      simp only [show decide (a = n) = false from decide_eq_false e, Bool.or_false]
      omega
theorem cntN_zero (p : Nat → Bool) (h : ∀ k, p k = false) (n : Nat) : cntN p n = 0 := by
  induction n with
  | zero => rfl
  | succ n ih => rw [cntN, ih, h n]; rfl
/-- a signature is right -/
def okS (F : Nat → List Int) (n : Nat) (m : List Int) (x : Sgd) : Bool := decide (0 ≤ x.key) && (decide (x.key < (n : Int)) && ckB (F x.key.toNat) m x.idx x.sig)
/-- a key has signed -/
def has (F : Nat → List Int) (n : Nat) (m : List Int) (xs : List Sgd) (k : Nat) : Bool := xs.any fun x => decide (x.key = (k : Int)) && okS F n m x
/-- how many have -/
def cnt (F : Nat → List Int) (n : Nat) (m : List Int) (xs : List Sgd) : Nat := cntN (has F n m xs) n
theorem has_nil (F : Nat → List Int) (n : Nat) (m : List Int) (k : Nat) : has F n m [] k = false := rfl
theorem has_app (F : Nat → List Int) (n : Nat) (m : List Int) (xs : List Sgd) (x : Sgd) (k : Nat) : has F n m (xs ++ [x]) k = (has F n m xs k || (decide (x.key = (k : Int)) && okS F n m x)) := by simp [has]
theorem cnt_nil (F : Nat → List Int) (n : Nat) (m : List Int) : cnt F n m [] = 0 := cntN_zero _ (fun _ => rfl) n
theorem okS_key {F : Nat → List Int} {n : Nat} {m : List Int} {x : Sgd} (h : okS F n m x = true) : 0 ≤ x.key ∧ x.key < n := by
  simp only [okS, Bool.and_eq_true, decide_eq_true_eq] at h
  exact ⟨h.1, h.2.1⟩
theorem okS_no {F : Nat → List Int} {n : Nat} {m : List Int} {x : Sgd} (h : ¬ (0 ≤ x.key ∧ x.key < n)) : okS F n m x = false := by
  cases e : okS F n m x
  · rfl
  · exact absurd (okS_key e) h
theorem okS_eq {F : Nat → List Int} {n : Nat} {m : List Int} {x : Sgd} (h : 0 ≤ x.key ∧ x.key < n) : okS F n m x = ckB (F x.key.toNat) m x.idx x.sig := by
  simp [okS, h.1, h.2]
/-- one more: it counts where it is right and its key has not signed yet -/
theorem cnt_yes (F : Nat → List Int) (n : Nat) (m : List Int) (xs : List Sgd) (x : Sgd) (h : okS F n m x = true) (h2 : has F n m xs x.key.toNat = false) : cnt F n m (xs ++ [x]) = cnt F n m xs + 1 := by
  have hk := okS_key h
  unfold cnt
  rw [← cntN_or (has F n m xs) x.key.toNat h2 n (by omega)]
  refine cntN_congr _ _ n fun k _ => ?_
  rw [has_app, h, Bool.and_true]
  congr 1
  exact decide_eq_decide.2 (by omega)
theorem cnt_wrong (F : Nat → List Int) (n : Nat) (m : List Int) (xs : List Sgd) (x : Sgd) (h : okS F n m x = false) : cnt F n m (xs ++ [x]) = cnt F n m xs := by
  refine cntN_congr _ _ n fun k _ => ?_
  rw [has_app, h, Bool.and_false, Bool.or_false]
theorem cnt_again (F : Nat → List Int) (n : Nat) (m : List Int) (xs : List Sgd) (x : Sgd) (h : has F n m xs x.key.toNat = true) (h0 : 0 ≤ x.key) : cnt F n m (xs ++ [x]) = cnt F n m xs := by
  refine cntN_congr _ _ n fun k _ => ?_
  rw [has_app]
  by_cases e : x.key = (k : Int)
  · have : x.key.toNat = k := by omega
    rw [this] at h
    rw [h, Bool.true_or]
  · rw [decide_eq_false e, Bool.false_and, Bool.or_false]
theorem has_wrong (F : Nat → List Int) (n : Nat) (m : List Int) (xs : List Sgd) (x : Sgd) (h : okS F n m x = false) (k : Nat) : has F n m (xs ++ [x]) k = has F n m xs k := by rw [has_app, h, Bool.and_false, Bool.or_false]
theorem has_again (F : Nat → List Int) (n : Nat) (m : List Int) (xs : List Sgd) (x : Sgd) (h : has F n m xs x.key.toNat = true) (h0 : 0 ≤ x.key) (k : Nat) : has F n m (xs ++ [x]) k = has F n m xs k := by
  rw [has_app]
  by_cases e : x.key = (k : Int)
  · have : x.key.toNat = k := by omega
    rw [this] at h
    rw [h, Bool.true_or]
  · rw [decide_eq_false e, Bool.false_and, Bool.or_false]
def allP (F : Nat → List Int) (n : Nat) (m : List Int) (xs : List Sgd) : Prop := ∀ i, i < xs.length → okS F n m (xs.getD i sgd0) = true
instance (F : Nat → List Int) (n : Nat) (m : List Int) (xs : List Sgd) : Decidable (allP F n m xs) := inferInstanceAs (Decidable (∀ i, i < xs.length → _))
theorem has_take {F : Nat → List Int} {n : Nat} {m : List Int} {xs : List Sgd} {i k : Nat} (hi : i ≤ xs.length) (h : ∀ j, j < i → keyAt xs j ≠ (k : Int)) : has F n m (xs.take i) k = false := by
  induction i with
  | zero => rfl
  | succ i ih =>
    rw [take_snoc xs i (by omega), has_app, ih (by omega) fun j hj => h j (by omega)]
    have := h i (by omega)
    unfold keyAt at this
    rw [decide_eq_false this, Bool.false_and, Bool.or_false]
/-- of keys that rise as many count as are right -/
theorem cnt_rise {F : Nat → List Int} {n : Nat} {m : List Int} {xs : List Sgd} (h : riseP xs) : ∀ i, i ≤ xs.length → cnt F n m (xs.take i) ≤ i ∧ (cnt F n m (xs.take i) = i ↔ ∀ j, j < i → okS F n m (xs.getD j sgd0) = true)
  | 0, _ => by rw [List.take_zero, cnt_nil]; exact ⟨Nat.le_refl _, ⟨fun _ j hj => by omega, fun _ => rfl⟩⟩
  | i + 1, hi => by
    obtain ⟨h1, h2⟩ := cnt_rise (F := F) (n := n) (m := m) h i (by omega)
    rw [take_snoc xs i (by omega)]
    cases e : okS F n m (xs.getD i sgd0)
    · rw [cnt_wrong _ _ _ _ _ e]
      refine ⟨by omega, ⟨fun h3 => by omega, fun h3 => ?_⟩⟩
      have := h3 i (by omega)
      rw [e] at this
      cases this
    · have hk := okS_key e
      have e2 : has F n m (xs.take i) (xs.getD i sgd0).key.toNat = false := has_take (by omega) fun j hj => by
        have := rise_lt h i j hj (by omega)
        have e3 : keyAt xs i = (xs.getD i sgd0).key := rfl
        omega
      rw [cnt_yes _ _ _ _ _ e e2]
      refine ⟨by omega, ⟨fun h3 j hj => ?_, fun h3 => ?_⟩⟩
      · by_cases ej : j = i
        · subst ej; exact e
        · exact h2.1 (by omega) j (by omega)
      · have := h2.2 fun j hj => h3 j (by omega)
        omega
theorem cnt_all {F : Nat → List Int} {n : Nat} {m : List Int} {xs : List Sgd} (h : riseP xs) : cnt F n m xs = xs.length ↔ allP F n m xs := by
  have := (cnt_rise (F := F) (n := n) (m := m) h xs.length (Nat.le_refl _)).2
  rw [List.take_length] at this
  exact this
theorem all_le {F : Nat → List Int} {n : Nat} {m : List Int} {xs : List Sgd} (h : riseP xs) (h2 : allP F n m xs) : xs.length ≤ n := by
  rw [← (cnt_all h).2 h2]
  exact cntN_le _ _
/-- they are enough -/
def enough (F : Nat → List Int) (n : Nat) (a b c : Int) (m : List Int) (xs : List Sgd) : Bool := mayP F n a b c && (decide (c ≤ (xs.length : Int)) && (decide (riseP xs) && decide (allP F n m xs)))
/-- the program's way -/
theorem enough_p (F : Nat → List Int) (n : Nat) (a b c : Int) (m : List Int) (xs : List Sgd) :
    (mayP F n a b c && (decide (c ≤ (xs.length : Int)) && (decide (riseP xs) && decide ((cnt F n m xs : Int) = (xs.length : Int))))) = enough F n a b c m xs := by
  unfold enough
  congr 2
  by_cases h : riseP xs
  · rw [decide_eq_true h, Bool.true_and, Bool.true_and]
    refine decide_eq_decide.2 ?_
    rw [← cnt_all h]
    omega
  · rw [decide_eq_false h, Bool.false_and, Bool.false_and]
/-- where there are more than keys -/
theorem enough_more (F : Nat → List Int) (n : Nat) (a b c : Int) (m : List Int) (xs : List Sgd) (h : n < xs.length) : enough F n a b c m xs = false := by
  unfold enough
  by_cases h1 : riseP xs
  · have : ¬ allP F n m xs := fun h2 => by have := all_le h1 h2; omega
    rw [decide_eq_false this]; simp
  · rw [decide_eq_false h1]; simp
end Go.Proofs.Ytmcmdpbdipgahaa
