/-
  Put.
-/
import Derived.Test.YtgagcblddcibkaaDoorS4
import Derived.WalkArith
namespace Go.Proofs.YtgagcblddcibkaaDoor
open Go.RowKit
open Go.Maps
/-- a tree's nodes, by steps from the leaves -/
def nd (f : Int → List Int) : Nat → Int → List Int
  | 0, k => f k
  | h + 1, k => ab (nd f h (2 * k)) (nd f h (2 * k + 1))
theorem nd_zero (f : Int → List Int) (k : Int) : nd f 0 k = f k := rfl
theorem nd_succ (f : Int → List Int) (h : Nat) (k : Int) : nd f (h + 1) k = ab (nd f h (2 * k)) (nd f h (2 * k + 1)) := rfl
theorem nd_upd (f : Int → List Int) (i : Nat) (x : List Int) : ∀ (h : Nat) (k : Int), k ≠ ((i / 2 ^ h : Nat) : Int) → nd (upd f i x) h k = nd f h k
  | 0, k, hk => by
    rw [nd_zero, nd_zero]
    exact upd_other f x (by simpa using hk)
  | h + 1, k, hk => by
    have e : i / 2 ^ (h + 1) = i / 2 ^ h / 2 := by rw [Nat.pow_succ, Nat.div_div_eq_div_mul]
    rw [e] at hk
    rw [nd_succ, nd_succ, nd_upd f i x h _ (by omega), nd_upd f i x h _ (by omega)]
/-- the nodes while a change goes up: at the steps up to s those of g, above those of f -/
def ndw (f g : Int → List Int) (s : Nat) : Nat → Int → List Int := fun j => if j ≤ s then nd g j else nd f j
theorem ndw_le {f g : Int → List Int} {s j : Nat} (h : j ≤ s) : ndw f g s j = nd g j := by unfold ndw; rw [if_pos h]
theorem ndw_gt {f g : Int → List Int} {s j : Nat} (h : s < j) : ndw f g s j = nd f j := by unfold ndw; rw [if_neg (by omega)]
theorem ndw_first (f : Int → List Int) (i : Nat) (x : List Int) : updL (nd f) 0 (upd (nd f 0) i x) = ndw f (upd f i x) 0 := by
  funext j
  by_cases e : j = 0
  · subst e
    rw [updL_same, ndw_le (Nat.le_refl 0)]
    rfl
  · rw [updL_other _ _ e, ndw_gt (by omega)]
theorem ndw_next (f : Int → List Int) (i s : Nat) (x : List Int) (p : Nat) (hp : i / 2 ^ s / 2 = p) : updL (ndw f (upd f i x) s) (s + 1) (upd (ndw f (upd f i x) s (s + 1)) p (ab (ndw f (upd f i x) s s (2 * (p : Int))) (ndw f (upd f i x) s s (2 * (p : Int) + 1)))) = ndw f (upd f i x) (s + 1) := by
  have e2 : i / 2 ^ (s + 1) = p := by rw [Nat.pow_succ, ← Nat.div_div_eq_div_mul]; exact hp
  funext j
  by_cases e : j = s + 1
  · subst e
    rw [updL_same, ndw_le (Nat.le_refl (s + 1)), ndw_gt (by omega), ndw_le (Nat.le_refl s), ← nd_succ]
    funext k
    by_cases ek : k = p
    · subst ek; rw [upd_same]
    · rw [upd_other _ _ ek, nd_upd f i x (s + 1) k (by rw [e2]; exact ek)]
  · rw [updL_other _ _ e]
    by_cases e3 : j ≤ s
    · rw [ndw_le e3, ndw_le (by omega)]
    · rw [ndw_gt (by omega), ndw_gt (by omega)]
theorem ndw_last (f : Int → List Int) (g : Int → List Int) {w : World} {B T N : Nat} {ms : Nat → Option Nat} (h : Tr w B T ms (ndw f g 16) N) : Tr w B T ms (nd g) N :=
  ⟨h.row, h.lo, fun s hs hm k => by rw [← h.nil s hs hm k, ndw_le (by omega)], fun s b hs hm => by rw [← ndw_le (f := f) (g := g) (s := 16) (j := s) (by omega)]; exact h.map s b hs hm, h.inj⟩
theorem wf_small {k : Int} (h0 : 0 ≤ k) (h1 : k < 4611686018427387904) : (Lit.int .i64 k).wf = true := by have e1 : IntKind.i64.min = -9223372036854775808 := rfl; have e2 : IntKind.i64.max = 9223372036854775807 := rfl; simp only [Lit.wf, e1, e2, Bool.and_eq_true, decide_eq_true_eq]; omega
/-- what stands at a key of one of a tree's maps -/
theorem Tr.get {w : World} {B T N : Nat} {ms : Nat → Option Nat} {F : Nat → Int → List Int} (h : Tr w B T ms F N) (s : Nat) (hs : s < 17) {k : Int} (hw : (Lit.int .i64 k).wf = true) : (Instr.lookup 55 (.map (ms s)) (.int .i64 k) false).run Tryd.prog w = .ok (.agg (ba (F s k))) w ∧ (F s k).length = 8 := by
  cases hm : ms s with
  | none =>
    rw [h.nil s hs hm k]
    exact ⟨get_nil w hw, rfl⟩
  | some b => exact (h.map s b hs hm).2.2.get hw
end Go.Proofs.YtgagcblddcibkaaDoor
