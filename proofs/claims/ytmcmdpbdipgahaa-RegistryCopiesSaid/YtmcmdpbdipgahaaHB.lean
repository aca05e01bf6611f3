/-
  The digest on its way: without Go; the document's sum as a function.
-/
import Derived.Test.YtmcmdpbdipgahaaHA
namespace Go.Proofs.Ytmcmdpbdipgahaa
open Go.RowKit

def ivS : S8 := ⟨1779033703, 3144134277, 1013904242, 2773480762, 1359893119, 2600822924, 528734635, 1541459225⟩
theorem ivS_l : ivS.l = iv := rfl
/-- what is mixed behind k chunks -/
def hs (m : List Int) : Nat → S8
  | 0 => ivS
  | k + 1 => comp (hs m k) ((m.drop (64 * k)).take 64)
theorem hs_more (m ys : List Int) (k : Nat) (h : 64 * k ≤ m.length) : hs (m ++ ys) k = hs m k := by
  induction k with
  | zero => rfl
  | succ k ih =>
    rw [hs, hs, ih (by omega)]
    congr 1
    rw [List.drop_append_of_le_length (by omega), List.take_append_of_le_length (by rw [List.length_drop]; omega)]
theorem splice_bg (bg ys : List Int) (r : Nat) (h : r + ys.length ≤ bg.length) : (splice bg r ys).take (r + ys.length) = bg.take r ++ ys := by
  unfold splice
  rw [← List.append_assoc, List.take_left' (by rw [List.length_append, List.length_take]; omega)]
theorem splice_da (mx bg ys : List Int) (n : Int) (r : Nat) (hm : mx.length = 8) (h : r + ys.length ≤ bg.length) :
    (da mx bg n).toList.take (8 + r) ++ (bvals ys ++ (da mx bg n).toList.drop (8 + r + (bvals ys).length)) = (da mx (splice bg r ys) n).toList := by
  have hu : (uvals mx).length = 8 := by simp [uvals, hm]
  have hb : (bvals bg).length = bg.length := by simp [bvals]
  have hy : (bvals ys).length = ys.length := by simp [bvals]
  simp only [da]
  rw [← hu, List.take_append, List.drop_append, show (uvals mx).length + r - (uvals mx).length = r by omega, List.take_of_length_le (by omega), List.drop_of_length_le (by omega), List.nil_append,
    List.take_append_of_le_length (by omega), hy, show (uvals mx).length + r + ys.length - (uvals mx).length = r + ys.length by omega, List.drop_append_of_le_length (by omega)]
  simp [splice, bvals]
theorem full_block {m ys bg : List Int} (h2 : bg.length = 64) (h3 : bg.take (m.length % 64) = m.drop (64 * (m.length / 64)))
    (hy : m.length % 64 + ys.length = 64) : splice bg (m.length % 64) ys = ((m ++ ys).drop (64 * (m.length / 64))).take 64 := by
  have := splice_bg bg ys (m.length % 64) (by omega)
  rw [hy, List.take_of_length_le (by rw [length_splice _ _ _ (by omega)]; omega)] at this
  rw [this, h3, List.drop_append_of_le_length (by omega), List.take_of_length_le (by rw [List.length_append, List.length_drop]; omega)]
/-- but for block b nothing that was there has changed -/
structure Oth (b : Nat) (w w' : World) : Prop where
  below : Below b w w'
  oth : ∀ k, k < w.heap.size → k ≠ b → w'.heap[k]? = w.heap[k]?
theorem Oth.refl (b : Nat) (w : World) : Oth b w w := ⟨Below.refl _ _, fun _ _ _ => rfl⟩
theorem Oth.trans {b : Nat} {w v u : World} (h : Oth b w v) (k : Oth b v u) : Oth b w u :=
  ⟨h.below.trans k.below, fun i hi hne => (k.oth i (Nat.lt_of_lt_of_le hi h.below.size) hne).trans (h.oth i hi hne)⟩
theorem Oth.drewN {b : Nat} {w v : World} (h : Oth b w v) (n : Nat) : Oth b w (v.drewN n) := ⟨below_drewN h.below n, h.oth⟩
theorem Oth.drew {b : Nat} {w v : World} (h : Oth b w v) : Oth b w v.drew := ⟨h.below.drew, h.oth⟩
theorem Oth.set {b : Nat} {w v : World} (h : Oth b w v) (i : Nat) (x : Value) : Oth b w (v.setCell ⟨b, i, none⟩ x) :=
  ⟨h.below.setCell (Nat.le_refl _) _, fun k hk hne => heap_else i x hne (h.oth k hk hne)⟩
theorem Oth.setRow {b : Nat} {w v : World} (h : Oth b w v) (cs : Array Value) : Oth b w (v.setRow b cs) :=
  ⟨below_setRow h.below (Nat.le_refl _) _, fun k hk hne => (setRow_other v b k cs hne).trans (h.oth k hk hne)⟩
theorem Oth.alloc {b : Nat} {w v : World} (h : Oth b w v) (hb : b < w.heap.size) (o : Obj) : Oth b w (v.alloc o) :=
  ⟨h.below.alloc (Nat.le_of_lt (Nat.lt_of_lt_of_le hb h.below.size)) o, fun k hk hne => (Below.heap_alloc v o k (Nat.lt_of_lt_of_le hk h.below.size)).trans (h.oth k hk hne)⟩
theorem Oth.of_below {b : Nat} {w v : World} (hb : b ≤ w.heap.size) (h : Below w.heap.size w v) : Oth b w v := ⟨h.mono hb, fun k hk _ => h.block k hk⟩
theorem Src.oth {w w' : World} {b : Nat} {A : Option Addr} {m : Nat} {xs : List Int} (h : Src w A m xs) (hA : ∀ g o, A = some ⟨g, o, none⟩ → g ≠ b) (k : Oth b w w') : Src w' A m xs := by
  refine ⟨h.1, ?_⟩
  rcases h.2 with h2 | ⟨g, o, rfl, hc⟩
  · exact .inl h2
  · refine .inr ⟨g, o, rfl, fun i hi => ?_⟩
    have h0 := World.block_lt_of_cell? w ⟨g, o + i, none⟩ (hc i hi)
    rw [World.cell?_of_block (w := w) (w' := w') (a := ⟨g, o + i, none⟩) (k.oth g h0 (hA g o rfl))]
    exact hc i hi
theorem keys_oth {w W : World} {b : Nat} (h : Keys w) (k : Oth b w W) (hB : 0 < b) : Keys W := keys_below h k.below hB
end Go.Proofs.Ytmcmdpbdipgahaa

/-
  write: bytes are fed to a digest.
-/
namespace Go.Proofs.Ytmcmdpbdipgahaa
open Go.RowKit
theorem info5s : (Try.prog.info? 5).map (·.size) = some 1 := by kernel_rfl
attribute [local irreducible] ua da ba kk sw S8.run rt hs comp splice

end Go.Proofs.Ytmcmdpbdipgahaa

/-
  length, sum, end.
-/
namespace Go.Proofs.Ytmcmdpbdipgahaa
open Go.RowKit
theorem s26 : (Try.prog.info? 30).map (·.size) = some 8 := by kernel_rfl
theorem z26 (w : World) : (zeroValue 30).run Try.prog w = .ok (.agg (ba (zeros 8))) w := by kernel_rfl
theorem src_ba {w : World} {b : Nat} {t : TypeId} {xs : List Int} (h : BA w b t xs) (n : Nat) (hn : n ≤ xs.length) : Src w (some ⟨b, 0, none⟩) n (xs.take n) := by
  refine ⟨by rw [List.length_take]; omega, .inr ⟨b, 0, rfl, fun i hi => ?_⟩⟩
  rw [Nat.zero_add, ba_cell h i (by omega)]
  simp [List.getD, hi]
/-- the bytes of a sum -/
def outB (s : S8) (k : Nat) : List Int := (List.range k).map fun i => s.l.getD (i / 4) 0 / 2 ^ (24 - 8 * (i % 4)) % 256
theorem outB_len (s : S8) (k : Nat) : (outB s k).length = k := by simp [outB]
theorem outB_succ (s : S8) (k : Nat) : outB s (k + 1) = outB s k ++ [s.l.getD (k / 4) 0 / 2 ^ (24 - 8 * (k % 4)) % 256] := by simp [outB, List.range_succ]
/-- a number's bytes, the highest first -/
def be (n : Int) (k : Nat) : List Int := (List.range k).map fun i => n / 2 ^ (8 * (7 - i)) % 256
theorem be_len (n : Int) (k : Nat) : (be n k).length = k := by simp [be]
theorem be_succ (n : Int) (k : Nat) : be n (k + 1) = be n k ++ [n / 2 ^ (8 * (7 - k)) % 256] := by simp [be, List.range_succ]
attribute [local irreducible] ua da ba kk sw S8.run rt hs comp splice

end Go.Proofs.Ytmcmdpbdipgahaa

/-
  end; Sum.
-/
namespace Go.Proofs.Ytmcmdpbdipgahaa
open Go.RowKit
def room (n : Nat) : Nat := (119 - n % 64) % 64
def fill (n : Nat) : List Int := 128 :: zeros (room n)
def pad (m : List Int) : List Int := m ++ fill m.length ++ be (8 * (m.length : Int)) 8
/-- SHA-256 -/
def sha (m : List Int) : List Int := outB (hs (pad m) ((pad m).length / 64)) 32
theorem sha_len (m : List Int) : (sha m).length = 32 := outB_len _ _
theorem fill_take (n : Nat) : (128 :: zeros 63).take (1 + room n) = fill n := by
  have : room n < 64 := Nat.mod_lt _ (by decide)
  unfold fill zeros
  rw [Nat.add_comm, List.take_succ_cons, List.take_replicate, Nat.min_eq_left (by omega)]
theorem fillA : (ba (zeros 64)).setIfInBounds 0 (.int .u8 128) = ba (128 :: zeros 63) := by rw [set_ba]; rfl
theorem ba_ne : ¬ ba (zeros 64) = #[] := fun e => by have := congrArg Array.size e; rw [ba_size, zeros_len] at this; cases this
theorem Oth.setRowN {b S : Nat} {w v : World} (h : Oth b w v) (hS : w.heap.size ≤ S) (hb : b ≤ S) (cs : Array Value) : Oth b w (v.setRow S cs) :=
  ⟨below_setRow h.below hb _, fun k hk hne => (setRow_other v S k cs (by omega)).trans (h.oth k hk hne)⟩
attribute [local irreducible] ua da ba kk sw S8.run rt hs comp splice outB

end Go.Proofs.Ytmcmdpbdipgahaa

/-
  Sum, Of, Two, Zero.
-/
namespace Go.Proofs.Ytmcmdpbdipgahaa
open Go.RowKit
theorem keys_pos {w : World} (h : Keys w) : 0 < w.heap.size := h
theorem src_lt {w : World} {A : Option Addr} {m : Nat} {xs : List Int} (h : Src w A m xs) (h0 : 0 < m) : ∀ g o, A = some ⟨g, o, none⟩ → g < w.heap.size := by
  intro g o e
  rcases h.2 with h2 | ⟨g2, o2, h3, hc⟩
  · omega
  · rw [e] at h3
    cases h3
    exact World.block_lt_of_cell? w ⟨g, o + 0, none⟩ (hc 0 h0)
theorem Src.keep {w W : World} {A : Option Addr} {m : Nat} {xs : List Int} (h : Src w A m xs) (hb : ∀ k, k < w.heap.size → W.heap[k]? = w.heap[k]?) : Src W A m xs := by
  refine ⟨h.1, ?_⟩
  rcases h.2 with h2 | ⟨g, o, h3, hc⟩
  · exact .inl h2
  · refine .inr ⟨g, o, h3, fun i hi => ?_⟩
    rw [World.cell?_of_block (w := w) (w' := W) (a := ⟨g, o + i, none⟩) (hb g (World.block_lt_of_cell? w ⟨g, o + i, none⟩ (hc i hi)))]
    exact hc i hi
attribute [local irreducible] ua da ba kk sw S8.run rt hs comp splice outB sha

end Go.Proofs.Ytmcmdpbdipgahaa
