/-
  The parameters of so many certifiers may be; what they signed is right; the first thing that each law asks.
-/
import Derived.Test.YtmcmdpbdipgahaaQ11
import Derived.Test.YtmcmdpbdipgahaaFB
namespace Go.Proofs.Ytmcmdpbdipgahaa
open Go.RowKit
/-- the roots, as numbers -/
def rv : Nat → List Int
  | 0 => [42, 27, 56, 72, 149, 84, 97, 106]
  | 1 => [198, 66, 121, 243, 225, 231, 225, 136]
  | 2 => [103, 242, 72, 14, 141, 212, 250, 235]
  | 3 => [136, 180, 213, 230, 174, 33, 93, 175]
  | _ => [170, 223, 126, 121, 129, 128, 94, 198]
theorem rootS_rv : ∀ k, k < 5 → rootS k = rv k
  | 0, _ => qr0
  | 1, _ => qr1
  | 2, _ => qr2
  | 3, _ => qr3
  | 4, _ => qr4
  | k + 5, h => by omega
theorem rv_fine : ∀ i, i < 5 → rv i ≠ zeros 8 ∧ ∀ k, k < i → rv k ≠ rv i := by decide
/-- the keys of so many -/
def FK (n : Nat) : Nat → List Int := at8 (cat rootS n)
theorem FK_at {n j : Nat} (h : j < n) : FK n j = rootS j := at8_cat rootS rootS_len n j h
theorem fineK (n : Nat) (h : n ≤ 5) : fineP (FK n) n := fun i hi => by
  have := rv_fine i (by omega)
  refine ⟨?_, fun k hk => ?_⟩
  · rw [FK_at hi, rootS_rv i (by omega)]
    exact this.1
  · rw [FK_at hi, FK_at (by omega), rootS_rv i (by omega), rootS_rv k (by omega)]
    exact this.2 k hk
theorem may_made (n : Nat) (c : Int) (h1 : 1 ≤ n) (h5 : n ≤ 5) (hc : 1 ≤ c) (hc2 : c ≤ n) : mayP (FK n) n 4 2 c = true := by
  unfold mayP mayK
  rw [win_yes (by omega) (by omega), win_yes hc hc2, win_yes (by decide) (by decide), win_yes (by decide) (by decide), decide_eq_true (fineK n h5)]
  rfl
end Go.Proofs.Ytmcmdpbdipgahaa
