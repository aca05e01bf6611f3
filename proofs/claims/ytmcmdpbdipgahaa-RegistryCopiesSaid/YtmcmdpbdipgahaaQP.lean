/-
  Which keys rise, which parameters may be, without Go.
-/
import Derived.Test.YtmcmdpbdipgahaaQ0
namespace Go.Proofs.Ytmcmdpbdipgahaa
open Go.RowKit
/-- the key at a place -/
def keyAt (xs : List Sgd) (i : Nat) : Int := (xs.getD i sgd0).key
theorem take_snoc (xs : List Sgd) (i : Nat) (h : i < xs.length) : xs.take (i + 1) = xs.take i ++ [xs.getD i sgd0] := by
  rw [List.take_add_one, List.getD_eq_getElem?_getD, List.getElem?_eq_getElem h]
  rfl
/-- each key is above the one ahead -/
def riseP (xs : List Sgd) : Prop := ∀ i, i < xs.length → i = 0 ∨ keyAt xs (i - 1) < keyAt xs i
instance (xs : List Sgd) : Decidable (riseP xs) := inferInstanceAs (Decidable (∀ i, i < xs.length → _))
theorem rise_lt {xs : List Sgd} (h : riseP xs) : ∀ j i, i < j → j < xs.length → keyAt xs i < keyAt xs j
  | 0, i, hi, _ => by omega
  | j + 1, i, hi, hj => by
    have h1 := h (j + 1) hj
    rw [Nat.add_sub_cancel] at h1
    rcases h1 with h1 | h1
    · omega
    · by_cases e : i = j
      · subst e; exact h1
      · have := rise_lt h j i (by omega) (by omega)
        omega
/- parameters -/
def win (lo hi x : Int) : Bool := decide (lo ≤ x) && decide (x ≤ hi)
/-- a key may stand behind those ahead -/
def fine (F : Nat → List Int) (i : Nat) : Prop := F i ≠ zeros 8 ∧ ∀ k, k < i → F k ≠ F i
instance (F : Nat → List Int) (i : Nat) : Decidable (fine F i) := inferInstanceAs (Decidable (_ ∧ _))
def fineP (F : Nat → List Int) (n : Nat) : Prop := ∀ i, i < n → fine F i
instance (F : Nat → List Int) (n : Nat) : Decidable (fineP F n) := inferInstanceAs (Decidable (∀ i, i < n → _))
def mayK (F : Nat → List Int) (n : Nat) : Bool := win 1 5 n && decide (fineP F n)
def mayP (F : Nat → List Int) (n : Nat) (a b c : Int) : Bool := mayK F n && (win 1 n c && (win 2 64 a && win 1 a b))
end Go.Proofs.Ytmcmdpbdipgahaa
