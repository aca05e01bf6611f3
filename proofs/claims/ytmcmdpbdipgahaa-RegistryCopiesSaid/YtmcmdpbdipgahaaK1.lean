/-
  A signature as cells: its index, then its bytes; blocks of such.
-/
import Derived.Test.YtmcmdpbdipgahaaLC
import Derived.Deep.MidRow
namespace Go.Proofs.Ytmcmdpbdipgahaa
open Go.RowKit
/-- a signature's cells: the index, then 280 bytes -/
def sg (i : Int) (L : List Int) : List Value := .int .i64 i :: bvals L
/-- a signature lies in a block -/
def SB (w : World) (b : Nat) (i : Int) (L : List Int) : Prop := w.heap[b]? = some (.cells (sg i L).toArray 98 (0, 0))
theorem bvals_len (L : List Int) : (bvals L).length = L.length := by simp [bvals]
theorem sg_len (i : Int) (L : List Int) : (sg i L).length = L.length + 1 := by simp [sg, bvals]
theorem sg_one (i : Int) (L : List Int) : ∀ v ∈ sg i L, v.oneCell' = true := fun v hv => by
  rcases List.mem_cons.1 hv with rfl | h
  · rfl
  · exact bvals_one L v h
theorem sg_ones (i : Int) (L : List Int) : (sg i L).toArray.all (·.oneCell') = true := all_oneCell_toArray (sg_one i L)
theorem sb_set {w : World} {b : Nat} {i : Int} {L : List Int} (h : SB w b i L) (o : Nat) (y : Int) : SB (w.setCell ⟨b, o + 1, none⟩ (.int .u8 y)) b i (L.set o y) := by
  unfold SB at *
  rw [heap_setCell_same w b (o + 1) _ 98 _ h]
  congr 2
  simp [sg, bvals, List.map_set]
theorem sb_sets {b : Nat} {i : Int} : ∀ (ys : List Int) {w : World} {L : List Int} (o : Nat), SB w b i L → SB (w.setCells b (o + 1) (bvals ys)) b i (splR L o ys)
  | [], _, _, _, h => h
  | y :: r, _, _, o, h => sb_sets r (o + 1) (sb_set h o y)
theorem sb_idx {w : World} {b : Nat} {i : Int} {L : List Int} (h : SB w b i L) (k : Int) : SB (w.setCell ⟨b, 0, none⟩ (.int .i64 k)) b k L := by
  unfold SB at *
  rw [heap_setCell_same w b 0 _ 98 _ h]
  congr 2
theorem sb_row {w : World} {b : Nat} {i k : Int} {L M : List Int} (h : SB w b i L) (hl : L.length = M.length) : SB (w.setCells b 0 (sg k M)) b k M := by
  have h1 := sb_sets M 0 (sb_idx h k)
  have h2 := splR_app M [] L (by omega)
  rw [List.nil_append, List.nil_append, List.length_nil, List.drop_of_length_le (by omega), List.append_nil] at h2
  rw [h2] at h1
  exact h1
theorem sb_cell {w : World} {b : Nat} {i : Int} {L : List Int} (h : SB w b i L) (j : Nat) (v : Value) (hv : (sg i L)[j]? = some v) : w.cell? ⟨b, j, none⟩ = some v := by
  rw [cell_of_row w b j _ 98 (0, 0) h, ← hv]
  simp
theorem sb_at {w : World} {b : Nat} {i : Int} {L : List Int} (h : SB w b i L) (o : Nat) (ho : o < L.length) : w.cell? ⟨b, o + 1, none⟩ = some (.int .u8 (L.getD o 0)) :=
  sb_cell h (o + 1) _ (by simp [sg, bvals, List.getD, ho])
theorem sb_cell0 {w : World} {b : Nat} {i : Int} {L : List Int} (h : SB w b i L) : w.cell? ⟨b, 0, none⟩ = some (.int .i64 i) := sb_cell h 0 _ rfl
theorem sb_all {w : World} {b : Nat} {i : Int} {L : List Int} (h : SB w b i L) : w.rangeAt b 0 (sg i L) := fun j v hv => by
  rw [Nat.zero_add]
  exact sb_cell h j v hv
theorem sb_range {w : World} {b : Nat} {i : Int} {L : List Int} (h : SB w b i L) (p o n : Nat) (hp : p = o + 1) (hn : o + n ≤ L.length) : w.rangeAt b p (bvals ((L.drop o).take n)) := fun j v hv => by
  have hj := (List.getElem?_eq_some_iff.1 hv).1
  rw [bvals_len, List.length_take, List.length_drop] at hj
  subst hp
  rw [show o + 1 + j = o + j + 1 by omega, sb_at h (o + j) (by omega), ← hv]
  simp [bvals, List.getD, show j < n by omega, show o + j < L.length by omega]
theorem sb_src {w : World} {b : Nat} {i : Int} {L : List Int} (h : SB w b i L) (p o n : Nat) (hp : p = o + 1) (hn : o + n ≤ L.length) : Src w (some ⟨b, p, none⟩) n ((L.drop o).take n) := by
  refine ⟨by rw [List.length_take, List.length_drop]; omega, .inr ⟨b, p, rfl, fun j hj => ?_⟩⟩
  have h1 := sb_range h p o n hp hn
  refine h1 j _ ?_
  simp [bvals, List.getD, hj, show o + j < L.length by omega]
theorem sb_free {w : World} {b : Nat} {i : Int} {L : List Int} (h : SB w b i L) (j : Nat) : w.frozen? ⟨b, j, none⟩ = false := free_of h j
theorem sb_there {w : World} {b : Nat} {i : Int} {L : List Int} (h : SB w b i L) (o n : Nat) (hn : o + n ≤ L.length + 1) : w.there b o n := fun j hj => by
  refine ⟨?_, sb_free h _⟩
  rw [sb_cell h (o + j) _ (List.getElem?_eq_getElem (by rw [sg_len]; omega))]
  rfl
theorem sb_new {w : World} {S : Nat} (h : w.heap.size = S) (i : Int) (L : List Int) : SB (w.alloc (Obj.cells (sg i L).toArray 98)) S i L := by subst h; exact heap_alloc_last w _
theorem sb_old {w : World} {b : Nat} {i : Int} {L : List Int} (h : SB w b i L) (o : Obj) : SB (w.alloc o) b i L := (Below.heap_alloc _ _ _ (lt_of_block h)).trans h
theorem sb_lt {w : World} {b : Nat} {i : Int} {L : List Int} (h : SB w b i L) : b < w.heap.size := lt_of_block h
theorem sb_keep {w W : World} {B b : Nat} {i : Int} {L : List Int} (h : SB w b i L) (hb : Below B w W) (hB : b < B) : SB W b i L := (hb.block _ hB).trans h
theorem i30 : (Try.prog.info? 98).map (·.size) = some 281 := by kernel_rfl
theorem i28 : (Try.prog.info? 96).map (·.size) = some 24 := by kernel_rfl
theorem sg_info (i : Int) (L : List Int) (h : L.length = 280) : (Try.prog.info? 98).map (·.size) = some (sg i L).length := by rw [i30, sg_len, h]
theorem sg_infoA (i : Int) (L : List Int) (h : L.length = 280) : (Try.prog.info? 98).map (·.size) = some (sg i L).toArray.size := by rw [i30, List.size_toArray, sg_len, h]
theorem z30 (w : World) : (zeroValue 98).run Try.prog w = .ok (.agg (sg 0 (zeros 280)).toArray) w := by kernel_rfl
theorem b30 (w : World) : (Instr.build 98 #[]).run Try.prog w = .ok (.agg (sg 0 (zeros 280)).toArray) w := by kernel_rfl
theorem b30i (i : Int) (w : World) : (Instr.build 98 #[(0, .int .i64 i)]).run Try.prog w = .ok (.agg (sg i (zeros 280)).toArray) w := by kernel_rfl
/-- some cells of a row are written -/
theorem splR_at (A B C ys : List Int) (o : Nat) (hA : A.length = o) (hB : ys.length = B.length) : splR (A ++ B ++ C) o ys = A ++ ys ++ C := by
  have h := splR_app ys A (B ++ C) (by rw [List.length_append]; omega)
  rw [hA] at h
  rw [List.append_assoc, h, hB, List.drop_left, List.append_assoc]
/-- the parts of a signature -/
def opn (L : List Int) : List Int := L.take 128
def sht (L : List Int) : List Int := (L.drop 128).take 128
def way (L : List Int) : List Int := L.drop 256
theorem opn_len {L : List Int} (h : L.length = 280) : (opn L).length = 128 := by unfold opn; rw [List.length_take]; omega
theorem sht_len {L : List Int} (h : L.length = 280) : (sht L).length = 128 := by unfold sht; rw [List.length_take, List.length_drop]; omega
theorem way_len {L : List Int} (h : L.length = 280) : (way L).length = 24 := by unfold way; rw [List.length_drop]; omega
theorem opn_app (A B C : List Int) (h : A.length = 128) : opn (A ++ B ++ C) = A := by unfold opn; rw [List.append_assoc, List.take_left' h]
theorem sht_app (A B C : List Int) (h : A.length = 128) (h2 : B.length = 128) : sht (A ++ B ++ C) = B := by unfold sht; rw [List.append_assoc, List.drop_left' h, List.take_left' h2]
theorem way_app (A B C : List Int) (h : A.length = 128) (h2 : B.length = 128) : way (A ++ B ++ C) = C := by unfold way; rw [List.drop_left' (by rw [List.length_append]; omega)]
/-- one byte's conversion: whole cells stored -/
theorem step_sig {w : World} {ops : Array Oper} {o : Oper} {a : Act} {K : Act → World → Prop} {Q : Exit → Act → World → Prop} {E : Prop} (hgd : o.guard = none) (x y : Operand) (ho : o.op = .store 98 x y)
    (b : Nat) (i k : Int) (L M : List Int) (hx : a.eval x = .pointer (some ⟨b, 0, none⟩)) (hy : a.eval y = .agg (sg k M).toArray)
    (hb : SB w b i L) (hL : L.length = 280) (hM : M.length = 280)
    (h : K (a.put o.dst undef) (w.setCells b 0 (sg k M))) : if Region.wanted o (yielded ops a.tmps) = true then Oper.wp Try.prog o a w K Q else E := by
  have hw : Region.wanted o (yielded ops a.tmps) = true := by simp [Region.wanted, hgd]
  rw [if_pos hw]
  exact wp_store_mid 98 x y ho b 0 (sg k M).toArray hx hy (sb_there hb 0 _ (by rw [List.size_toArray, sg_len]; omega)) (sg_infoA k M hM) (sg_ones k M) h
end Go.Proofs.Ytmcmdpbdipgahaa
