/-
  RegistryWindows without the walk.
-/
import Derived.Test.YtmcmdpbdipgahaaR11
namespace Go.Proofs.Ytmcmdpbdipgahaa
open Go.RowKit
set_option maxRecDepth 100000
/-- a record with a schedule alone -/
def smW (L W m : Int) : Sm := sm1 L W 0 none 0 0 [] m
theorem b53w (L W m : Int) (w : World) : (Instr.build 53 #[(1, .int .i64 m), (0, .agg #[.int .i64 L, .int .i64 W, .int .i64 0, .slice none 0 0])]).run Try.prog w = .ok (.agg (sdV (smW L W m)).toArray) w := by kernel_rfl
theorem sw_abm (L W m : Int) : (smW L W m).s.a = L ∧ (smW L W m).s.b = W ∧ (smW L W m).s.made = m := ⟨rfl, rfl, rfl⟩
structure WD (L W m : Int) : Prop where
  l1 : 2 ≤ L
  l2 : L ≤ 64
  w1 : 1 ≤ W
  w2 : W ≤ L
  m1 : 0 ≤ m
  m2 : m < 256
theorem WD.fair {L W m : Int} (d : WD L W m) : fairS (smW L W m) = true := by
  obtain ⟨l1, l2, w1, w2, m1, m2⟩ := d
  refine fair_iff.2 ⟨?_, ?_, ?_⟩
  · show 1 ≤ L ∧ L ≤ 64
    omega
  · show 0 ≤ W ∧ W ≤ 64
    omega
  · show 0 ≤ m ∧ m ≤ 400
    omega
/-- where j stands: z blocks of whole epochs, r in the one that runs -/
structure Wj (L q r z : Int) (j : Nat) : Prop where
  e : (j : Int) = z + r
  z : q * L = z
  r0 : 0 ≤ r
  r1 : r + 1 ≤ L
  q0 : 0 ≤ q
  q3 : q ≤ 3
theorem wj_of {L W m : Int} (d : WD L W m) {j : Nat} (hj : (j : Int) < 3 * L + 2) : Wj L ((j : Int) / L) ((j : Int) % L) ((j : Int) / L * L) j := by
  have l1 := d.l1
  have h1 := Int.emod_nonneg (j : Int) (show L ≠ 0 by omega)
  have h2 := Int.emod_lt_of_pos (j : Int) (show 0 < L by omega)
  have h3 := Int.mul_ediv_add_emod (j : Int) L
  rw [Int.mul_comm] at h3
  have h4 : 0 ≤ (j : Int) / L := Int.ediv_nonneg (by omega) (by omega)
  refine ⟨h3.symm, rfl, h1, by omega, h4, ?_⟩
  by_cases h5 : (j : Int) / L ≤ 3
  · exact h5
  · have : 4 * L ≤ (j : Int) / L * L := Int.mul_le_mul_of_nonneg_right (by omega) (by omega)
    omega
section
variable {L W m q r z : Int} {j : Nat}
theorem ep_w (d : WD L W m) : epC (smW L W m) (m + 1 + j) = ((j : Int) / L, true) := by
  unfold epC
  rw [if_pos ⟨d.fair, by show m < _; omega⟩]
  show ((m + 1 + (j : Int) - m - 1).tdiv L, true) = _
  rw [show m + 1 + (j : Int) - m - 1 = (j : Int) by omega, Int.tdiv_eq_ediv_of_nonneg (by omega)]
theorem ep_0 (d : WD L W m) : epC (smW L W m) m = (0, false) := by
  have := d.m1
  unfold epC
  rw [if_neg]
  rintro ⟨_, h⟩
  have h : m < m := h
  omega
theorem end_w (d : WD L W m) {k : Int} (h0 : 0 ≤ k) (h4 : k ≤ 400) : endC (smW L W m) k = m + (k + 1) * L := by
  unfold endC
  rw [if_pos ⟨d.fair, h0, h4⟩]
  rfl
theorem end_q (d : WD L W m) (h : Wj L q r z j) : endC (smW L W m) q = m + (z + L) := by
  rw [end_w d h.q0 (by have := h.q3; omega), Int.add_mul, h.z, Int.one_mul]
theorem end_p (d : WD L W m) (h : Wj L q r z j) : endC (smW L W m) (q - 1) = if 1 ≤ q then m + z else 0 := by
  by_cases h1 : 1 ≤ q
  · rw [if_pos h1, end_w d (by omega) (by have := h.q3; omega), show q - 1 + 1 = q by omega, h.z]
  · rw [if_neg h1]
    unfold endC
    rw [if_neg (fun g => by omega)]
theorem open_w (d : WD L W m) (h : Wj L q r z j) {k : Int} (h0 : 0 ≤ k) (h4 : k ≤ 400) : openC (smW L W m) k (m + 1 + j) = decide (k = q - 1 ∧ r + 1 ≤ W) := by
  obtain ⟨he, hz, r0, r1, q0, q3⟩ := h
  obtain ⟨l1, l2, w1, w2, m1, m2⟩ := d
  have d : WD L W m := ⟨l1, l2, w1, w2, m1, m2⟩
  unfold openC
  rw [end_w d h0 h4]
  rw [show (smW L W m).s.b = W from rfl]
  refine decide_eq_decide.2 ?_
  have e1 : (k + 1) * L = k * L + L := by rw [Int.add_mul, Int.one_mul]
  constructor
  · rintro ⟨_, _, _, g1, g2⟩
    rcases Int.lt_trichotomy k (q - 1) with g | g | g
    · exfalso
      have : (k + 2) * L ≤ q * L := Int.mul_le_mul_of_nonneg_right (by omega) (by omega)
      have e2 : (k + 2) * L = k * L + 2 * L := by rw [Int.add_mul]
      omega
    · refine ⟨g, ?_⟩
      subst g
      rw [show q - 1 + 1 = q by omega] at g2
      omega
    · exfalso
      have : q * L ≤ k * L := Int.mul_le_mul_of_nonneg_right (by omega) (by omega)
      omega
  · rintro ⟨rfl, g⟩
    rw [show q - 1 + 1 = q by omega]
    exact ⟨d.fair, by omega, by omega, by omega, by omega⟩
end
end Go.Proofs.Ytmcmdpbdipgahaa
