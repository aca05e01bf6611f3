/-
  A tree's publics, a signature's bytes, and that what is signed is right, without Go.
-/
import Derived.Test.YtmcmdpbdipgahaaK1
import Derived.Test.YtmcmdpbdipgahaaME
import Derived.Test.YtmcmdpbdipgahaaLF
namespace Go.Proofs.Ytmcmdpbdipgahaa
open Go.RowKit
/-- the public key at an index -/
def pubF (seed : List Int) (j : Nat) : List Int := pubk (cat (marksF (cat (keyF seed (j : Int)) 32)) 32)
theorem pubF_len (seed : List Int) (j : Nat) : (pubF seed j).length = 8 := pubk_len _
def pubs (seed : List Int) : List Int := cat (pubF seed) 8
theorem pubs_len (seed : List Int) : (pubs seed).length = 8 * 8 := cat_len _ (pubF_len seed) 8
theorem cut_8 : cutN 8 = 4 := cutN_pow 2 8 (by decide) (by decide) (by decide)
theorem cut_4 : cutN 4 = 2 := cutN_pow 1 4 (by decide) (by decide) (by decide)
theorem cut_2 : cutN 2 = 1 := cutN_pow 0 2 (by decide) (by decide) (by decide)
theorem steps_2 (f i : Nat) : stepsF (f + 1) i 2 = 1 := by
  by_cases h : i < cutN 2
  · rw [stepsF_l f i 2 (by decide) h, cut_2, stepsF_one]
  · rw [stepsF_r f i 2 (by decide) h, cut_2, stepsF_one]
theorem steps_4 (f i : Nat) : stepsF (f + 2) i 4 = 2 := by
  by_cases h : i < cutN 4
  · rw [stepsF_l (f + 1) i 4 (by decide) h, cut_4, steps_2]
  · rw [stepsF_r (f + 1) i 4 (by decide) h, cut_4, steps_2]
theorem steps_8 (i : Nat) : stepsF 8 i 8 = 3 := by
  by_cases h : i < cutN 8
  · rw [stepsF_l 7 i 8 (by decide) h, cut_8, steps_4 5]
  · rw [stepsF_r 7 i 8 (by decide) h, cut_8, steps_4 5]
/-- the way from an index to the root -/
def wayP (seed : List Int) (i : Nat) : List (List Int) := provL 8 (pubs seed) i 8
theorem wayP_len (seed : List Int) (i : Nat) : (wayP seed i).length = 3 := by unfold wayP; rw [provL_len, steps_8]
def wayL (seed : List Int) (i : Nat) : List Int := (wayP seed i).flatten
theorem wayL_len (seed : List Int) (i : Nat) : (wayL seed i).length = 24 := by
  unfold wayL
  rw [flat_len _ (by unfold wayP; exact provL_8 8 (pubs seed) i 8), wayP_len]
/-- a key -/
def keyL (seed : List Int) (i : Nat) : List Int := cat (keyF seed (i : Int)) 32
theorem keyL_len (seed : List Int) (i : Nat) : (keyL seed i).length = 256 := key_len seed _
/-- what is signed: opened, shut, the way -/
def opL (seed : List Int) (i : Nat) (m : List Int) : List Int := cat (openF (keyL seed i) m) 16
def shL (seed : List Int) (i : Nat) (m : List Int) : List Int := cat (shutF (keyL seed i) m) 16
theorem opL_len (seed : List Int) (i : Nat) (m : List Int) : (opL seed i m).length = 128 := cat_open_len _ _ (keyL_len seed i)
theorem shL_len (seed : List Int) (i : Nat) (m : List Int) : (shL seed i m).length = 128 := cat_shut_len _ _
def sigL (seed : List Int) (i : Nat) (m : List Int) : List Int := opL seed i m ++ shL seed i m ++ wayL seed i
theorem sigL_len (seed : List Int) (i : Nat) (m : List Int) : (sigL seed i m).length = 280 := by
  unfold sigL
  rw [List.length_append, List.length_append, opL_len, shL_len, wayL_len]
theorem opn_sig (seed : List Int) (i : Nat) (m : List Int) : opn (sigL seed i m) = opL seed i m := opn_app _ _ _ (opL_len seed i m)
theorem sht_sig (seed : List Int) (i : Nat) (m : List Int) : sht (sigL seed i m) = shL seed i m := sht_app _ _ _ (opL_len seed i m) (shL_len seed i m)
theorem way_sig (seed : List Int) (i : Nat) (m : List Int) : way (sigL seed i m) = wayL seed i := way_app _ _ _ (opL_len seed i m) (shL_len seed i m)
/-- the key that a signature gives -/
def gives (m L : List Int) : List Int := pubk (cat (readF m (opn L) (sht L)) 32)
theorem gives_len (m L : List Int) : (gives m L).length = 8 := pubk_len _
theorem gives_sig (seed : List Int) (i : Nat) (m : List Int) : gives m (sigL seed i m) = pubF seed i := by
  unfold gives
  rw [opn_sig, sht_sig]
  unfold opL shL
  rw [read_own _ m (keyL_len seed i)]
  rfl
/-- the root of a seed's tree -/
def rootL (seed : List Int) : List Int := rootV 8 (pubs seed)
theorem rootL_len (seed : List Int) : (rootL seed).length = 8 := rootV_len _ _
/-- is a signature right? -/
def ckB (root m : List Int) (i : Int) (L : List Int) : Bool := chkB root (gives m L) i 8 3 (way L)
theorem ckB_no {root m L : List Int} {i : Int} (h : ¬ (0 ≤ i ∧ i < 8)) : ckB root m i L = false := chkB_no (by
  rcases Int.lt_or_le i 0 with h1 | h1
  · rw [decide_eq_false (by omega : ¬ 0 ≤ i), Bool.false_and]
  · rw [decide_eq_false (by omega : ¬ i < 8), Bool.false_and, Bool.and_false])
theorem at8_pubs (seed : List Int) (i : Nat) (hi : i < 8) : ((pubs seed).drop (8 * i)).take 8 = pubF seed i := at8_cat _ (pubF_len seed) 8 i hi
/-- what is signed is right -/
theorem ck_sig (seed m : List Int) (i : Nat) (hi : i < 8) : ckB (rootL seed) m (i : Int) (sigL seed i m) = true := by
  unfold ckB
  have h := chkB_yes (root := rootL seed) (leaf := gives m (sigL seed i m)) (pr := way (sigL seed i m)) (m := 3) hi (by decide : 8 ≤ 65536)
  refine h.trans ?_
  rw [steps_8, gives_sig, way_sig, decide_eq_true rfl, Bool.true_and]
  refine decide_eq_true ?_
  have h2 := lead_prov 8 (pubs seed) i 8 (pubs_len seed) hi (Nat.le_refl _) (by decide)
  rw [at8_pubs seed i hi, steps_8] at h2
  unfold wayL wayP rootL
  rw [h2, rootV_ok _ (by decide)]
end Go.Proofs.Ytmcmdpbdipgahaa
