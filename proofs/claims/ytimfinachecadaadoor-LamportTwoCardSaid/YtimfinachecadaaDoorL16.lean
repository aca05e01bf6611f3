/-
  A signature gives the key; words for the first thing that each law asks.
-/
import Derived.Test.YtimfinachecadaaDoorL8
import Derived.Test.YtimfinachecadaaDoorL10
namespace Go.Proofs.YtimfinachecadaaDoor
open Go.RowKit
theorem at8_catN (F : Nat → List Int) (n j : Nat) (hF : ∀ j, j < n → (F j).length = 8) (hj : j < n) : at8 (cat F n) j = F j := by
  induction n with
  | zero => omega
  | succ n ih =>
    have hl := cat_lenN F n fun j hj => hF j (by omega)
    rw [cat_succ]
    by_cases h : j = n
    · subst h
      rw [at8_app _ _ _ hl, List.take_of_length_le (by rw [hF j (by omega)]; omega)]
    · rw [at8_lo _ _ j n hl (by omega)]
      exact ih (fun j hj => hF j (by omega)) (by omega)
theorem at8_open (K m : List Int) (hK : K.length = 256) (i : Nat) (hi : i < 16) : at8 (cat (openF K m) 16) i = openF K m i := at8_catN _ 16 i (fun j hj => openF_len K m hK j hj) hi
theorem at8_shut (K m : List Int) (i : Nat) (hi : i < 16) : at8 (cat (shutF K m) 16) i = shutF K m i := at8_catN _ 16 i (fun j _ => shutF_len K m j) hi
/-- what is signed gives the key's marks -/
theorem read_own (K m : List Int) (hK : K.length = 256) : cat (readF m (cat (openF K m) 16) (cat (shutF K m) 16)) 32 = cat (marksF K) 32 := by
  refine cat_ext fun j hj => ?_
  have hb := bt_two m (j / 2)
  unfold readF marksF
  rw [at8_open K m hK _ (by omega), at8_shut K m _ (by omega)]
  unfold openF shutF
  split
  · rename_i h
    rw [← h, show 2 * (j / 2) + j % 2 = j by omega]
  · rename_i h
    rw [show 2 * (j / 2) + (1 - bt m (j / 2)) = j by omega]
theorem cat_open_len (K m : List Int) (hK : K.length = 256) : (cat (openF K m) 16).length = 128 := cat_lenN _ 16 fun j hj => openF_len K m hK j hj
theorem cat_shut_len (K m : List Int) : (cat (shutF K m) 16).length = 128 := cat_len _ (shutF_len K m) 16
theorem key_len (seed : List Int) (x : Int) : (cat (keyF seed x) 32).length = 256 := cat_len _ (keyF_len seed x) 32
theorem at8_key (seed : List Int) (x : Int) (s b : Nat) (hs : s < 16) (hb : b < 2) : at8 (cat (keyF seed x) 32) (2 * s + b) = sec seed x s b := by
  rw [at8_cat _ (keyF_len seed x) 32 _ (by omega), keyF_at _ _ _ _ hb]
def sd1 : List Int := [1, 0, 0, 0, 0, 0, 0, 0]
def ms1 : List Int := [5, 6, 0, 0, 0, 0, 0, 0]
theorem byt_ms1 : Byt ms1 := by intro x hx; simp [ms1] at hx; rcases hx with rfl | rfl | rfl <;> omega
theorem bt_ms1 : bt ms1 0 = 1 := by decide
theorem ms_other : (decide (sec sd1 0 0 1 = mk (sec sd1 0 0 0))) = false := by kernel_rfl
theorem eqh (x y : List Int) (w : World) (hx : x.length = 8) (hy : y.length = 8) : (Op.equalIn 10000 23 (.agg (ba x)) (.agg (ba y))).run Tryd.prog w = .ok (decide (x = y)) w := eq_ba 23 8 9998 Tryd.underlying23 x y w hx hy
theorem open_ms1 : openF (cat (keyF sd1 0) 32) ms1 0 = sec sd1 0 0 1 := by
  unfold openF
  rw [bt_ms1, at8_key sd1 0 0 1 (by omega) (by omega)]
theorem shut_ms1 : shutF (cat (keyF sd1 0) 32) ms1 0 = mk (sec sd1 0 0 0) := by
  unfold shutF
  rw [bt_ms1]
  have := at8_key sd1 0 0 0 (by omega) (by omega)
  exact congrArg mk this
end Go.Proofs.YtimfinachecadaaDoor
