/-
  Words for the key that a signature gives.
-/
import Derived.Test.YtmcmdpbdipgahaaLC
namespace Go.Proofs.Ytmcmdpbdipgahaa
open Go.RowKit
/-- the marks that a signature gives -/
def readF (m o h : List Int) (j : Nat) : List Int := if j % 2 = bt m (j / 2) then mk (at8 o (j / 2)) else at8 h (j / 2)
theorem readF_len (m o h : List Int) (hh : h.length = 128) (j : Nat) (hj : j < 32) : (readF m o h j).length = 8 := by
  unfold readF
  split
  · exact mk_len _
  · exact at8_len (n := 16) hh (by omega)
theorem readF_own {m o h : List Int} {s b : Nat} (hb : bt m s = b) (h2 : b < 2) : readF m o h (2 * s + b) = mk (at8 o s) := by
  unfold readF
  rw [show (2 * s + b) / 2 = s by omega, if_pos (by rw [hb]; omega)]
theorem readF_other {m o h : List Int} {s b c : Nat} (hb : bt m s = b) (h2 : c < 2) (hc : c ≠ b) : readF m o h (2 * s + c) = at8 h s := by
  unfold readF
  rw [show (2 * s + c) / 2 = s by omega, if_neg (by rw [hb]; omega)]
theorem zeros_split (z k : Nat) (h : k ≤ z) : zeros z = zeros k ++ zeros (z - k) := by unfold zeros; rw [List.replicate_append_replicate]; congr 1; omega
theorem two_spl (X n d : List Int) (z o b c : Nat) (hX : X.length = o) (hn : n.length = 8) (hd : d.length = 8) (hz : 16 ≤ z) (hbc : b = 0 ∧ c = 1 ∨ b = 1 ∧ c = 0) :
    splR (splR (X ++ zeros z) (o + b * 8) n) (o + c * 8) d = X ++ (if b = 0 then n ++ d else d ++ n) ++ zeros (z - 16) := by
  subst hX
  rcases hbc with ⟨rfl, rfl⟩ | ⟨rfl, rfl⟩
  · rw [if_pos rfl, Nat.zero_mul, Nat.add_zero, splR_app n X (zeros z) (by rw [zeros_len]; omega), zeros_drop, ← List.append_assoc]
    have := splR_app d (X ++ n) (zeros (z - n.length)) (by rw [zeros_len]; omega)
    rw [List.length_append, zeros_drop, hn, hd] at this
    rw [hn, Nat.one_mul, this]
    simp only [List.append_assoc]
    rw [show z - 8 - 8 = z - 16 by omega]
  · rw [if_neg (by omega), Nat.zero_mul, Nat.add_zero, zeros_split z 8 (by omega), ← List.append_assoc]
    have h1 := splR_app n (X ++ zeros 8) (zeros (z - 8)) (by rw [zeros_len]; omega)
    rw [List.length_append, zeros_len, zeros_drop, hn] at h1
    rw [h1, Nat.add_zero, List.append_assoc]
    have h2 := splR_app d X (zeros 8 ++ (n ++ zeros (z - 8 - 8))) (by rw [List.length_append, zeros_len]; omega)
    have h3 : (zeros 8 ++ (n ++ zeros (z - 8 - 8))).drop 8 = n ++ zeros (z - 8 - 8) := List.drop_left' (zeros_len 8)
    rw [h2, hd, h3]
    simp only [List.append_assoc]
    rw [show z - 8 - 8 = z - 16 by omega]
theorem any8 {w : World} {b t : Nat} {l : List Int} (h : BA w b t l) (o : Nat) (ho : o + 8 ≤ l.length) : ∃ z0 z1 z2 z3 z4 z5 z6 z7 : Int, (w.cell? ⟨b, o, none⟩ = some (.int .u8 z0) ∧ w.cell? ⟨b, o + 1, none⟩ = some (.int .u8 z1) ∧ w.cell? ⟨b, o + 2, none⟩ = some (.int .u8 z2) ∧ w.cell? ⟨b, o + 3, none⟩ = some (.int .u8 z3) ∧ w.cell? ⟨b, o + 4, none⟩ = some (.int .u8 z4) ∧ w.cell? ⟨b, o + 5, none⟩ = some (.int .u8 z5) ∧ w.cell? ⟨b, o + 6, none⟩ = some (.int .u8 z6) ∧ w.cell? ⟨b, o + 7, none⟩ = some (.int .u8 z7)) :=
  ⟨_, _, _, _, _, _, _, _, ba_cell h o (by omega), ba_cell h (o + 1) (by omega), ba_cell h (o + 2) (by omega), ba_cell h (o + 3) (by omega), ba_cell h (o + 4) (by omega), ba_cell h (o + 5) (by omega), ba_cell h (o + 6) (by omega), ba_cell h (o + 7) (by omega)⟩
theorem splR_len : ∀ (ys xs : List Int) (o : Nat), (splR xs o ys).length = xs.length
  | [], _, _ => rfl
  | y :: r, xs, o => by rw [splR, splR_len r]; exact List.length_set
end Go.Proofs.Ytmcmdpbdipgahaa

/-
  The key that a signature gives.
-/
namespace Go.Proofs.Ytmcmdpbdipgahaa
open Go.RowKit
attribute [local irreducible] ua da ba kk sw S8.run rt hs comp splice outB sha msg bvals cat at8 at16 secM zeros sec keyF marksF mk pubk bt openF shutF readF splR

end Go.Proofs.Ytmcmdpbdipgahaa

/-
  A signature gives the key; words for the first thing that each law asks.
-/
namespace Go.Proofs.Ytmcmdpbdipgahaa
open Go.RowKit
theorem at8_catN (F : Nat → List Int) (n j : Nat) (hF : ∀ j, j < n → (F j).length = 8) (hj : j < n) : at8 (cat F n) j = F j := by
  induction n with
  | zero => omega
  | succ n ih =>
    have hl := cat_lenN F n fun j hj => hF j (by omega)
    rw [cat_succ]
    by_cases h : j = n
    · subst h
      rw [at8_app _ _ _ hl, List.take_of_length_le (by rw [hF j (by omega)]; omega)]
    · rw [at8_lo _ _ j n hl (by omega)]
      exact ih (fun j hj => hF j (by omega)) (by omega)
theorem at8_open (K m : List Int) (hK : K.length = 256) (i : Nat) (hi : i < 16) : at8 (cat (openF K m) 16) i = openF K m i := at8_catN _ 16 i (fun j hj => openF_len K m hK j hj) hi
theorem at8_shut (K m : List Int) (i : Nat) (hi : i < 16) : at8 (cat (shutF K m) 16) i = shutF K m i := at8_catN _ 16 i (fun j _ => shutF_len K m j) hi
/-- what is signed gives the key's marks -/
theorem read_own (K m : List Int) (hK : K.length = 256) : cat (readF m (cat (openF K m) 16) (cat (shutF K m) 16)) 32 = cat (marksF K) 32 := by
  refine cat_ext fun j hj => ?_
  have hb := bt_two m (j / 2)
  unfold readF marksF
  rw [at8_open K m hK _ (by omega), at8_shut K m _ (by omega)]
  unfold openF shutF
  split
  · rename_i h
    rw [← h, show 2 * (j / 2) + j % 2 = j by omega]
  · rename_i h
    rw [show 2 * (j / 2) + (1 - bt m (j / 2)) = j by omega]
theorem cat_open_len (K m : List Int) (hK : K.length = 256) : (cat (openF K m) 16).length = 128 := cat_lenN _ 16 fun j hj => openF_len K m hK j hj
theorem cat_shut_len (K m : List Int) : (cat (shutF K m) 16).length = 128 := cat_len _ (shutF_len K m) 16
theorem key_len (seed : List Int) (x : Int) : (cat (keyF seed x) 32).length = 256 := cat_len _ (keyF_len seed x) 32
theorem at8_key (seed : List Int) (x : Int) (s b : Nat) (hs : s < 16) (hb : b < 2) : at8 (cat (keyF seed x) 32) (2 * s + b) = sec seed x s b := by
  rw [at8_cat _ (keyF_len seed x) 32 _ (by omega), keyF_at _ _ _ _ hb]
def sd1 : List Int := [1, 0, 0, 0, 0, 0, 0, 0]
def ms1 : List Int := [5, 6, 0, 0, 0, 0, 0, 0]
theorem byt_ms1 : Byt ms1 := by intro x hx; simp [ms1] at hx; rcases hx with rfl | rfl | rfl <;> omega
theorem bt_ms1 : bt ms1 0 = 1 := by decide
theorem ms_other : (decide (sec sd1 0 0 1 = mk (sec sd1 0 0 0))) = false := by kernel_rfl
theorem eqhL (x y : List Int) (w : World) (hx : x.length = 8) (hy : y.length = 8) : (Op.equalIn 10000 31 (.agg (ba x)) (.agg (ba y))).run Try.prog w = .ok (decide (x = y)) w := eq_ba 31 8 9998 Try.underlying31 x y w hx hy
theorem open_ms1 : openF (cat (keyF sd1 0) 32) ms1 0 = sec sd1 0 0 1 := by
  unfold openF
  rw [bt_ms1, at8_key sd1 0 0 1 (by omega) (by omega)]
theorem shut_ms1 : shutF (cat (keyF sd1 0) 32) ms1 0 = mk (sec sd1 0 0 0) := by
  unfold shutF
  rw [bt_ms1]
  have := at8_key sd1 0 0 0 (by omega) (by omega)
  exact congrArg mk this
end Go.Proofs.Ytmcmdpbdipgahaa
