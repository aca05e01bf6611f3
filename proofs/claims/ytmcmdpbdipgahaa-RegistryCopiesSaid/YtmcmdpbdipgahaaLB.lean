/-
  A key's own public key: words, and cells one by one.
-/
import Derived.Test.YtmcmdpbdipgahaaLA
namespace Go.Proofs.Ytmcmdpbdipgahaa
open Go.RowKit
theorem put16_eq (w : World) (b o : Nat) (m0 m1 m2 m3 m4 m5 m6 m7 n0 n1 n2 n3 n4 n5 n6 n7 : Int) : ((((((((((((((((w.setCell ⟨b, o, none⟩ (.int .u8 m0)).setCell ⟨b, o + 1, none⟩ (.int .u8 m1)).setCell ⟨b, o + 2, none⟩ (.int .u8 m2)).setCell ⟨b, o + 3, none⟩ (.int .u8 m3)).setCell ⟨b, o + 4, none⟩ (.int .u8 m4)).setCell ⟨b, o + 5, none⟩ (.int .u8 m5)).setCell ⟨b, o + 6, none⟩ (.int .u8 m6)).setCell ⟨b, o + 7, none⟩ (.int .u8 m7)).setCell ⟨b, o + 8, none⟩ (.int .u8 n0)).setCell ⟨b, o + 9, none⟩ (.int .u8 n1)).setCell ⟨b, o + 10, none⟩ (.int .u8 n2)).setCell ⟨b, o + 11, none⟩ (.int .u8 n3)).setCell ⟨b, o + 12, none⟩ (.int .u8 n4)).setCell ⟨b, o + 13, none⟩ (.int .u8 n5)).setCell ⟨b, o + 14, none⟩ (.int .u8 n6)).setCell ⟨b, o + 15, none⟩ (.int .u8 n7)) = w.setCells b o (bvals [m0, m1, m2, m3, m4, m5, m6, m7, n0, n1, n2, n3, n4, n5, n6, n7]) := rfl
theorem put8_eq (w : World) (b o : Nat) (m0 m1 m2 m3 m4 m5 m6 m7 : Int) : ((((((((w.setCell ⟨b, o, none⟩ (.int .u8 m0)).setCell ⟨b, o + 1, none⟩ (.int .u8 m1)).setCell ⟨b, o + 2, none⟩ (.int .u8 m2)).setCell ⟨b, o + 3, none⟩ (.int .u8 m3)).setCell ⟨b, o + 4, none⟩ (.int .u8 m4)).setCell ⟨b, o + 5, none⟩ (.int .u8 m5)).setCell ⟨b, o + 6, none⟩ (.int .u8 m6)).setCell ⟨b, o + 7, none⟩ (.int .u8 m7)) = w.setCells b o (bvals [m0, m1, m2, m3, m4, m5, m6, m7]) := rfl
theorem lst16 (a0 a1 a2 a3 a4 a5 a6 a7 b0 b1 b2 b3 b4 b5 b6 b7 : Int) : [a0, a1, a2, a3, a4, a5, a6, a7] ++ [b0, b1, b2, b3, b4, b5, b6, b7] = [a0, a1, a2, a3, a4, a5, a6, a7, b0, b1, b2, b3, b4, b5, b6, b7] := rfl
theorem cells16 {w : World} {b t : Nat} (a0 a1 a2 a3 a4 a5 a6 a7 c0 c1 c2 c3 c4 c5 c6 c7 : Int) (h : BA w b t ([a0, a1, a2, a3, a4, a5, a6, a7] ++ [c0, c1, c2, c3, c4, c5, c6, c7])) : (w.cell? ⟨b, 0, none⟩ = some (.int .u8 a0) ∧ w.cell? ⟨b, 1, none⟩ = some (.int .u8 a1) ∧ w.cell? ⟨b, 2, none⟩ = some (.int .u8 a2) ∧ w.cell? ⟨b, 3, none⟩ = some (.int .u8 a3) ∧ w.cell? ⟨b, 4, none⟩ = some (.int .u8 a4) ∧ w.cell? ⟨b, 5, none⟩ = some (.int .u8 a5) ∧ w.cell? ⟨b, 6, none⟩ = some (.int .u8 a6) ∧ w.cell? ⟨b, 7, none⟩ = some (.int .u8 a7) ∧ w.cell? ⟨b, 8, none⟩ = some (.int .u8 c0) ∧ w.cell? ⟨b, 9, none⟩ = some (.int .u8 c1) ∧ w.cell? ⟨b, 10, none⟩ = some (.int .u8 c2) ∧ w.cell? ⟨b, 11, none⟩ = some (.int .u8 c3) ∧ w.cell? ⟨b, 12, none⟩ = some (.int .u8 c4) ∧ w.cell? ⟨b, 13, none⟩ = some (.int .u8 c5) ∧ w.cell? ⟨b, 14, none⟩ = some (.int .u8 c6) ∧ w.cell? ⟨b, 15, none⟩ = some (.int .u8 c7)) := ⟨ba_cell h 0 (show 0 < 16 by decide), ba_cell h 1 (show 1 < 16 by decide), ba_cell h 2 (show 2 < 16 by decide), ba_cell h 3 (show 3 < 16 by decide), ba_cell h 4 (show 4 < 16 by decide), ba_cell h 5 (show 5 < 16 by decide), ba_cell h 6 (show 6 < 16 by decide), ba_cell h 7 (show 7 < 16 by decide), ba_cell h 8 (show 8 < 16 by decide), ba_cell h 9 (show 9 < 16 by decide), ba_cell h 10 (show 10 < 16 by decide), ba_cell h 11 (show 11 < 16 by decide), ba_cell h 12 (show 12 < 16 by decide), ba_cell h 13 (show 13 < 16 by decide), ba_cell h 14 (show 14 < 16 by decide), ba_cell h 15 (show 15 < 16 by decide)⟩
theorem zero_at {w : World} {b t n o : Nat} {X : List Int} (h : BA w b t (X ++ zeros n)) (hX : X.length = o) (k : Nat) (hk : k < n) : w.cell? ⟨b, o + k, none⟩ = some (.int .u8 0) := by
  rw [ba_cell h (o + k) (by rw [List.length_append, zeros_len]; omega)]
  rw [← hX]
  simp [List.getD, zeros, hk]
theorem zero16 {w : World} {b t n o : Nat} {X : List Int} (h : BA w b t (X ++ zeros n)) (hX : X.length = o) (hn : 16 ≤ n) : (w.cell? ⟨b, o, none⟩ = some (.int .u8 0) ∧ w.cell? ⟨b, o + 1, none⟩ = some (.int .u8 0) ∧ w.cell? ⟨b, o + 2, none⟩ = some (.int .u8 0) ∧ w.cell? ⟨b, o + 3, none⟩ = some (.int .u8 0) ∧ w.cell? ⟨b, o + 4, none⟩ = some (.int .u8 0) ∧ w.cell? ⟨b, o + 5, none⟩ = some (.int .u8 0) ∧ w.cell? ⟨b, o + 6, none⟩ = some (.int .u8 0) ∧ w.cell? ⟨b, o + 7, none⟩ = some (.int .u8 0) ∧ w.cell? ⟨b, o + 8, none⟩ = some (.int .u8 0) ∧ w.cell? ⟨b, o + 9, none⟩ = some (.int .u8 0) ∧ w.cell? ⟨b, o + 10, none⟩ = some (.int .u8 0) ∧ w.cell? ⟨b, o + 11, none⟩ = some (.int .u8 0) ∧ w.cell? ⟨b, o + 12, none⟩ = some (.int .u8 0) ∧ w.cell? ⟨b, o + 13, none⟩ = some (.int .u8 0) ∧ w.cell? ⟨b, o + 14, none⟩ = some (.int .u8 0) ∧ w.cell? ⟨b, o + 15, none⟩ = some (.int .u8 0)) := ⟨zero_at h hX 0 (by omega), zero_at h hX 1 (by omega), zero_at h hX 2 (by omega), zero_at h hX 3 (by omega), zero_at h hX 4 (by omega), zero_at h hX 5 (by omega), zero_at h hX 6 (by omega), zero_at h hX 7 (by omega), zero_at h hX 8 (by omega), zero_at h hX 9 (by omega), zero_at h hX 10 (by omega), zero_at h hX 11 (by omega), zero_at h hX 12 (by omega), zero_at h hX 13 (by omega), zero_at h hX 14 (by omega), zero_at h hX 15 (by omega)⟩
theorem ba16 : ba (zeros 16) = #[.int .u8 0, .int .u8 0, .int .u8 0, .int .u8 0, .int .u8 0, .int .u8 0, .int .u8 0, .int .u8 0, .int .u8 0, .int .u8 0, .int .u8 0, .int .u8 0, .int .u8 0, .int .u8 0, .int .u8 0, .int .u8 0] := by unfold ba bvals zeros; rfl
theorem lit_len (a0 a1 a2 a3 a4 a5 a6 a7 : Int) : [a0, a1, a2, a3, a4, a5, a6, a7].length = 8 := rfl
def marksF (K : List Int) (j : Nat) : List Int := mk (at8 K j)
theorem marksF_len (K : List Int) (j : Nat) : (marksF K j).length = 8 := mk_len _
end Go.Proofs.Ytmcmdpbdipgahaa

/-
  A key's own public key.
-/
namespace Go.Proofs.Ytmcmdpbdipgahaa
open Go.RowKit
attribute [local irreducible] ua da ba kk sw S8.run rt hs comp splice outB sha msg bvals cat at8 at16 secM zeros sec keyF marksF mk pubk

end Go.Proofs.Ytmcmdpbdipgahaa
