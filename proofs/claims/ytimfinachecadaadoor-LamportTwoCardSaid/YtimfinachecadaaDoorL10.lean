/-
  Words for the key that a signature gives.
-/
import Derived.Test.YtimfinachecadaaDoorL8
namespace Go.Proofs.YtimfinachecadaaDoor
open Go.RowKit
/-- the marks that a signature gives -/
def readF (m o h : List Int) (j : Nat) : List Int := if j % 2 = bt m (j / 2) then mk (at8 o (j / 2)) else at8 h (j / 2)
theorem readF_len (m o h : List Int) (hh : h.length = 128) (j : Nat) (hj : j < 32) : (readF m o h j).length = 8 := by
  unfold readF
  split
  · exact mk_len _
  · exact at8_len (n := 16) hh (by omega)
theorem readF_own {m o h : List Int} {s b : Nat} (hb : bt m s = b) (h2 : b < 2) : readF m o h (2 * s + b) = mk (at8 o s) := by
  unfold readF
  rw [show (2 * s + b) / 2 = s by omega, if_pos (by rw [hb]; omega)]
theorem readF_other {m o h : List Int} {s b c : Nat} (hb : bt m s = b) (h2 : c < 2) (hc : c ≠ b) : readF m o h (2 * s + c) = at8 h s := by
  unfold readF
  rw [show (2 * s + c) / 2 = s by omega, if_neg (by rw [hb]; omega)]
theorem zeros_split (z k : Nat) (h : k ≤ z) : zeros z = zeros k ++ zeros (z - k) := by unfold zeros; rw [List.replicate_append_replicate]; congr 1; omega
theorem two_spl (X n d : List Int) (z o b c : Nat) (hX : X.length = o) (hn : n.length = 8) (hd : d.length = 8) (hz : 16 ≤ z) (hbc : b = 0 ∧ c = 1 ∨ b = 1 ∧ c = 0) :
    splR (splR (X ++ zeros z) (o + b * 8) n) (o + c * 8) d = X ++ (if b = 0 then n ++ d else d ++ n) ++ zeros (z - 16) := by
  subst hX
  rcases hbc with ⟨rfl, rfl⟩ | ⟨rfl, rfl⟩
  · rw [if_pos rfl, Nat.zero_mul, Nat.add_zero, splR_app n X (zeros z) (by rw [zeros_len]; omega), zeros_drop, ← List.append_assoc]
    have := splR_app d (X ++ n) (zeros (z - n.length)) (by rw [zeros_len]; omega)
    rw [List.length_append, zeros_drop, hn, hd] at this
    rw [hn, Nat.one_mul, this]
    simp only [List.append_assoc]
    rw [show z - 8 - 8 = z - 16 by omega]
  · rw [if_neg (by omega), Nat.zero_mul, Nat.add_zero, zeros_split z 8 (by omega), ← List.append_assoc]
    have h1 := splR_app n (X ++ zeros 8) (zeros (z - 8)) (by rw [zeros_len]; omega)
    rw [List.length_append, zeros_len, zeros_drop, hn] at h1
    rw [h1, Nat.add_zero, List.append_assoc]
    have h2 := splR_app d X (zeros 8 ++ (n ++ zeros (z - 8 - 8))) (by rw [List.length_append, zeros_len]; omega)
    have h3 : (zeros 8 ++ (n ++ zeros (z - 8 - 8))).drop 8 = n ++ zeros (z - 8 - 8) := List.drop_left' (zeros_len 8)
    rw [h2, hd, h3]
    simp only [List.append_assoc]
    rw [show z - 8 - 8 = z - 16 by omega]
theorem any8 {w : World} {b t : Nat} {l : List Int} (h : BA w b t l) (o : Nat) (ho : o + 8 ≤ l.length) : ∃ z0 z1 z2 z3 z4 z5 z6 z7 : Int, (w.cell? ⟨b, o, none⟩ = some (.int .u8 z0) ∧ w.cell? ⟨b, o + 1, none⟩ = some (.int .u8 z1) ∧ w.cell? ⟨b, o + 2, none⟩ = some (.int .u8 z2) ∧ w.cell? ⟨b, o + 3, none⟩ = some (.int .u8 z3) ∧ w.cell? ⟨b, o + 4, none⟩ = some (.int .u8 z4) ∧ w.cell? ⟨b, o + 5, none⟩ = some (.int .u8 z5) ∧ w.cell? ⟨b, o + 6, none⟩ = some (.int .u8 z6) ∧ w.cell? ⟨b, o + 7, none⟩ = some (.int .u8 z7)) :=
  ⟨_, _, _, _, _, _, _, _, ba_cell h o (by omega), ba_cell h (o + 1) (by omega), ba_cell h (o + 2) (by omega), ba_cell h (o + 3) (by omega), ba_cell h (o + 4) (by omega), ba_cell h (o + 5) (by omega), ba_cell h (o + 6) (by omega), ba_cell h (o + 7) (by omega)⟩
theorem splR_len : ∀ (ys xs : List Int) (o : Nat), (splR xs o ys).length = xs.length
  | [], _, _ => rfl
  | y :: r, xs, o => by rw [splR, splR_len r]; exact List.length_set
end Go.Proofs.YtimfinachecadaaDoor
