/-
  What was written, read again, without Go; the memory of a function that Read calls.
-/
import Derived.Test.YtjkhbddnbpnmcaaW19
namespace Go.Proofs.Ytjkhbddnbpnmcaa
open Go.RowKit

theorem numL_mod (N w : Nat) : numL (digs N w) = ((N % 2 ^ (8 * w) : Nat) : Int) := by
  induction w with
  | zero => simp [digs, numL, Nat.mod_one]
  | succ w ih =>
    rw [digs_succ, numL_one, ih, digs_len]
    have e : dig (N : Int) w = ((N / 2 ^ (8 * w) % 256 : Nat) : Int) := by
      unfold dig
      rw [Int.natCast_emod, Int.natCast_ediv, Int.natCast_pow]
      rfl
    rw [e, show 8 * (w + 1) = 8 * w + 8 by omega, Nat.pow_add, Nat.mod_mul, Int.natCast_add, Int.natCast_mul, Int.natCast_pow, Int.mul_comm]
    rfl
theorem numL_digs (n : Int) (w : Nat) (h0 : 0 ≤ n) (h1 : n < 2 ^ (8 * w)) : numL (digs n w) = n := by
  obtain ⟨N, rfl⟩ := Int.eq_ofNat_of_zero_le h0
  rw [numL_mod, Nat.mod_eq_of_lt (by exact_mod_cast h1)]

def encF (P : Nat → Prt) : Nat → Nat → List Int
  | _, 0 => []
  | k, d + 1 => enc (P k) ++ encF P (k + 1) d
theorem encF_cat (P : Nat → Prt) (k d : Nat) : encN P k ++ encF P k d = encN P (k + d) := by
  induction d generalizing k with
  | zero => simp [encF]
  | succ d ih =>
    rw [encF, ← List.append_assoc]
    have := ih (k + 1)
    rw [encN] at this
    rw [this]
    congr 1
    omega
theorem encF_all (P : Nat → Prt) (len : Nat) : encF P 0 len = encN P len := by
  have := encF_cat P 0 len
  simpa [encN] using this
theorem encF_step (P : Nat → Prt) {k len : Nat} (h : k < len) : encF P k (len - k) = enc (P k) ++ encF P (k + 1) (len - (k + 1)) := by
  rw [show len - k = (len - (k + 1)) + 1 by omega, encF]

theorem St.below {Rb vb N : Nat} {w w' : World} (h : St Rb vb w w') (h1 : N ≤ Rb) (h2 : N ≤ vb) (h3 : N ≤ w.heap.size) : Below N w w' :=
  ⟨h.os, h.tape, h.output, h.size, fun k hk => h.block k (by omega) (by omega) (by omega)⟩

/-- where what a function that Read calls finds lies -/
structure Far (w0 : World) (Rb Lb vb : Nat) : Prop where
  l : w0.heap.size ≤ Lb
  v : w0.heap.size ≤ vb
  lr : Lb < Rb
  vr : vb < Rb
  lv : Lb ≠ vb
/-- the old memory, the box of a slice, one box more, the Reader -/
structure Box (w0 : World) (Rb Lb vb : Nat) (sl : Value) (lt : TypeId) (u : Value) (t : TypeId) (bs : List Int) (w : World) : Prop where
  below : Below w0.heap.size w0 w
  l : w.heap[Lb]? = some (.cells #[sl] lt (0, 0))
  v : w.heap[vb]? = some (.cells #[u] t (0, 0))
  rd : Rdr w Rb bs
theorem Box.drew {w0 : World} {Rb Lb vb : Nat} {sl u : Value} {lt t : TypeId} {bs : List Int} {w : World} (h : Box w0 Rb Lb vb sl lt u t bs w) : Box w0 Rb Lb vb sl lt u t bs w.drew :=
  ⟨h.below.drew, h.l, h.v, h.rd.keep (fun _ _ => rfl)⟩
theorem Box.grown {w0 : World} {Rb Lb vb : Nat} {sl u : Value} {lt t : TypeId} {bs bs' : List Int} {w w' : World} (h : Box w0 Rb Lb vb sl lt u t bs w) (hF : Far w0 Rb Lb vb) (hg : w.grownBy w' (some Rb)) (hr : Rdr w' Rb bs') : Box w0 Rb Lb vb sl lt u t bs' w' := by
  have h1 := hF.lr
  have h2 := hF.vr
  refine ⟨h.below.grown hg h.below.size (fun k e => ?_), (hg.block Lb (lt_of_block h.l) (by simp; omega)).trans h.l, (hg.block vb (lt_of_block h.v) (by simp; omega)).trans h.v, hr⟩
  cases e
  have := hF.l
  omega
theorem Box.set {w0 : World} {Rb Lb vb : Nat} {sl u : Value} {lt t : TypeId} {bs : List Int} {w : World} (u' : Value) (h : Box w0 Rb Lb vb sl lt u t bs w) (hF : Far w0 Rb Lb vb) (hu : ∀ z, u ≠ .int .u8 z) : Box w0 Rb Lb vb sl lt u' t bs (w.setCell ⟨vb, 0, none⟩ u') := by
  have h2 := hF.vr
  refine ⟨h.below.setCell hF.v _, (Below.heap_setCell _ _ _ _ hF.lv).trans h.l, one_setCell h.v, ?_⟩
  obtain ⟨A, c, r⟩ := h.rd
  have hR : (w.setCell ⟨vb, 0, none⟩ u').heap[Rb]? = w.heap[Rb]? := Below.heap_setCell _ _ _ _ (by show Rb ≠ vb; omega)
  refine ⟨A, c, hR.trans r.one, r.le, r.cm, row_block r.row (fun b off e hne hlt => ?_), r.byt, r.at'⟩
  refine Below.heap_setCell _ _ _ _ ?_
  show b ≠ vb
  rintro rfl
  rcases r.row with h0 | ⟨b', off', e', hc⟩
  · exact hne h0
  · rw [e] at e'
    cases e'
    cases bs with
    | nil => exact hne rfl
    | cons x xs =>
      have h3 := hc 0 (by simp)
      rw [cell_of_row w b (off + 0) _ t (0, 0) h.v] at h3
      cases hj : off + 0 with
      | zero => rw [hj] at h3; simp at h3; exact hu _ h3
      | succ n => rw [hj] at h3; simp at h3
end Go.Proofs.Ytjkhbddnbpnmcaa
