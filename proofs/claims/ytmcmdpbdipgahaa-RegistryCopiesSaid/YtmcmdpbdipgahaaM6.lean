/-
  Where a proof leads: the program's.
-/
import Derived.Test.YtmcmdpbdipgahaaMB
namespace Go.Proofs.Ytmcmdpbdipgahaa
open Go.RowKit
def leadF : Nat → List Int → Nat → Nat → Nat → List Int → List Int
  | 0, _, _, _, _, _ => zeros 8
  | f + 1, leaf, i, n, m, pr => if n ≤ 1 then leafH leaf else if i < cutN n then twoH (leadF f leaf i (cutN n) (m - 1) (pr.take (8 * (m - 1)))) (pr.drop (8 * (m - 1))) else twoH (pr.drop (8 * (m - 1))) (leadF f leaf (i - cutN n) (n - cutN n) (m - 1) (pr.take (8 * (m - 1))))
theorem leadF_len : ∀ (f : Nat) (leaf : List Int) (i n m : Nat) (pr : List Int), (leadF f leaf i n m pr).length = 8
  | 0, _, _, _, _, _ => zeros_len 8
  | f + 1, leaf, i, n, m, pr => by
    rw [leadF]
    split
    · exact leafH_len _
    · split
      · exact twoH_len _ _
      · exact twoH_len _ _
theorem leadF_one (f : Nat) (leaf : List Int) (i m : Nat) (pr : List Int) : leadF (f + 1) leaf i 1 m pr = leafH leaf := by rw [leadF, if_pos (by omega)]
theorem leadF_l (f : Nat) (leaf : List Int) (i n m : Nat) (pr : List Int) (hn : 2 ≤ n) (h : i < cutN n) : leadF (f + 1) leaf i n (m + 1) pr = twoH (leadF f leaf i (cutN n) m (pr.take (8 * m))) (pr.drop (8 * m)) := by rw [leadF, if_neg (by omega), if_pos h, Nat.add_sub_cancel]
theorem leadF_r (f : Nat) (leaf : List Int) (i n m : Nat) (pr : List Int) (hn : 2 ≤ n) (h : ¬ i < cutN n) : leadF (f + 1) leaf i n (m + 1) pr = twoH (pr.drop (8 * m)) (leadF f leaf (i - cutN n) (n - cutN n) m (pr.take (8 * m))) := by rw [leadF, if_neg (by omega), if_neg h, Nat.add_sub_cancel]
theorem src_eight {w : World} {g o q : Nat} {pr : List Int} (h : Src w (some ⟨g, o, none⟩) (8 * (q + 1)) pr) (x0 x1 x2 x3 x4 x5 x6 x7 : Int) (hx : pr.drop (8 * q) = [x0, x1, x2, x3, x4, x5, x6, x7]) :
    w.cell? ⟨g, o + q * 8, none⟩ = some (.int .u8 x0) ∧ w.cell? ⟨g, o + q * 8 + 1, none⟩ = some (.int .u8 x1) ∧ w.cell? ⟨g, o + q * 8 + 2, none⟩ = some (.int .u8 x2) ∧ w.cell? ⟨g, o + q * 8 + 3, none⟩ = some (.int .u8 x3) ∧ w.cell? ⟨g, o + q * 8 + 4, none⟩ = some (.int .u8 x4) ∧ w.cell? ⟨g, o + q * 8 + 5, none⟩ = some (.int .u8 x5) ∧ w.cell? ⟨g, o + q * 8 + 6, none⟩ = some (.int .u8 x6) ∧ w.cell? ⟨g, o + q * 8 + 7, none⟩ = some (.int .u8 x7) := by
  obtain ⟨hl, h2⟩ := h
  rcases h2 with h2 | ⟨g', o', h3, hc⟩
  · omega
  · cases h3
    have gg : ∀ j, j < 8 → w.cell? ⟨g, o + q * 8 + j, none⟩ = some (.int .u8 ((pr.drop (8 * q)).getD j 0)) := fun j hj => by
      rw [show o + q * 8 + j = o + (8 * q + j) by omega, hc (8 * q + j) (by omega)]
      simp [List.getD]
    rw [hx] at gg
    exact ⟨gg 0 (by decide), gg 1 (by decide), gg 2 (by decide), gg 3 (by decide), gg 4 (by decide), gg 5 (by decide), gg 6 (by decide), gg 7 (by decide)⟩
attribute [local irreducible] ua da ba kk sw S8.run rt hs comp splice outB sha msg rootF leafH twoH stepsF cutN leadF

end Go.Proofs.Ytmcmdpbdipgahaa
