/-
  Money: the numbers without Go; May, Add, Sub of the program and of the document; Must.
-/
import Derived.Test.YtbolcpglkjjheaaRows
import Derived.WalkKit
import Derived.WalkLawsBesides
import Derived.Lib.Hide
import Derived.Defers
import Derived.Recover
namespace Go.Proofs.Ytbolcpglkjjheaa
open Go.RowKit

def mayB (n : Int) : Bool := decide (0 ≤ n) && decide (n ≤ 1125899906842624)
def addB (a b : Int) : Bool := mayB a && mayB b && decide (a + b ≤ 1125899906842624)
def addZ (a b : Int) : Int := if addB a b = true then a + b else 0
def subB (a b : Int) : Bool := mayB a && mayB b && decide (b ≤ a)
def subZ (a b : Int) : Int := if subB a b = true then a - b else 0
def May (n : Int) : Prop := 0 ≤ n ∧ n ≤ 1125899906842624
theorem may_yes {n : Int} (h : 0 ≤ n ∧ n ≤ 1125899906842624) : mayB n = true := by unfold mayB; simp; exact h
theorem may_no {n : Int} (h : ¬ (0 ≤ n ∧ n ≤ 1125899906842624)) : mayB n = false := by unfold mayB; simp; omega
theorem add_yes {a b : Int} (h : 0 ≤ a ∧ a ≤ 1125899906842624 ∧ 0 ≤ b ∧ b ≤ 1125899906842624 ∧ a + b ≤ 1125899906842624) : addB a b = true ∧ addZ a b = a + b := by
  have : addB a b = true := by unfold addB mayB; simp; omega
  exact ⟨this, if_pos this⟩
theorem add_no {a b : Int} (h : ¬ (0 ≤ a ∧ a ≤ 1125899906842624 ∧ 0 ≤ b ∧ b ≤ 1125899906842624 ∧ a + b ≤ 1125899906842624)) : addB a b = false ∧ addZ a b = 0 := by
  have : addB a b = false := by unfold addB mayB; simp; omega
  exact ⟨this, by unfold addZ; rw [this]; rfl⟩
theorem sub_yes {a b : Int} (h : 0 ≤ a ∧ a ≤ 1125899906842624 ∧ 0 ≤ b ∧ b ≤ 1125899906842624 ∧ b ≤ a) : subB a b = true ∧ subZ a b = a - b := by
  have : subB a b = true := by unfold subB mayB; simp; omega
  exact ⟨this, if_pos this⟩
theorem sub_no {a b : Int} (h : ¬ (0 ≤ a ∧ a ≤ 1125899906842624 ∧ 0 ≤ b ∧ b ≤ 1125899906842624 ∧ b ≤ a)) : subB a b = false ∧ subZ a b = 0 := by
  have : subB a b = false := by unfold subB mayB; simp; omega
  exact ⟨this, by unfold subZ; rw [this]; rfl⟩
theorem add_iff {a b : Int} : addB a b = true ↔ (0 ≤ a ∧ a ≤ 1125899906842624 ∧ 0 ≤ b ∧ b ≤ 1125899906842624 ∧ a + b ≤ 1125899906842624) := by
  unfold addB mayB; simp; omega

theorem c13 (n : Int) (w : World) : Calls Try.prog 13 #[.int .i64 n] w fun e w' => e = .returned (.bool (mayB n)) ∧ w = w' := by
  by_cases h0 : 0 ≤ n
  · by_cases h1 : n ≤ 1125899906842624
    · rw [may_yes ⟨h0, h1⟩]
      go_enter Try.func13, Try.ntmps13
      go_wp2
      go_ret
      exact ⟨rfl, rfl⟩
    · rw [may_no (by omega)]
      go_enter Try.func13, Try.ntmps13
      go_wp2
      go_ret
      exact ⟨rfl, rfl⟩
  · rw [may_no (by omega)]
    go_enter Try.func13, Try.ntmps13
    go_wp2
    go_ret
    exact ⟨rfl, rfl⟩
theorem c14 (n : Int) (w : World) : Calls Try.prog 14 #[.int .i64 n] w fun e w' => e = .returned (.bool (mayB n)) ∧ w = w' := by
  by_cases h0 : 0 ≤ n
  · by_cases h1 : n ≤ 1125899906842624
    · rw [may_yes ⟨h0, h1⟩]
      go_enter Try.func14, Try.ntmps14
      go_wp2
      go_ret
      exact ⟨rfl, rfl⟩
    · rw [may_no (by omega)]
      go_enter Try.func14, Try.ntmps14
      go_wp2
      go_ret
      exact ⟨rfl, rfl⟩
  · rw [may_no (by omega)]
    go_enter Try.func14, Try.ntmps14
    go_wp2
    go_ret
    exact ⟨rfl, rfl⟩
end Go.Proofs.Ytbolcpglkjjheaa
