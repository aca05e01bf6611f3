/-
  Blocks in memory.
-/
import Derived.Test.YtdggnmlhgglccaaU0
import Derived.Great.BuildSlice
import Derived.Laws.CopyOwn
import Derived.Laws.Tables
import Derived.Deep.MidRow
import Derived.Deep.WholeRow
namespace Go.Proofs.Ytdggnmlhgglccaa
open Go.RowKit
set_option maxRecDepth 100000
theorem free_of {w : World} {b : Nat} {cs : Array Value} {t : TypeId} (h : w.heap[b]? = some (.cells cs t (0, 0))) (i : Nat) : w.frozen? ⟨b, i, none⟩ = false := by
  simp [World.frozen?, h]
theorem below_drewN {B : Nat} {w W : World} (h : Below B w W) (n : Nat) : Below B w (W.drewN n) := ⟨h.os, h.tape, h.output, h.size, h.block⟩
theorem heap_set1 {b i : Nat} (x : Value) (w : World) (k : Nat) (h : k ≠ b) : (w.setCell ⟨b, i, none⟩ x).heap[k]? = w.heap[k]? := heap_setCell_other w ⟨b, i, none⟩ k x h
theorem range_keep {w W : World} {b o : Nat} {cs : List Value} (h : w.rangeAt b o cs) (hb : ∀ q, q < w.heap.size → W.heap[q]? = w.heap[q]?) : W.rangeAt b o cs := by
  intro i v hv
  have h3 := h i v hv
  have hlt := World.block_lt_of_cell? w ⟨b, o + i, none⟩ h3
  rw [← h3]
  simp only [World.cell?, hb b hlt]
theorem range_keep1 {w W : World} {b o : Nat} {cs : List Value} (h : w.rangeAt b o cs) (hb : W.heap[b]? = w.heap[b]?) : W.rangeAt b o cs := by
  intro i v hv
  have h3 := h i v hv
  rw [← h3]
  simp only [World.cell?, hb]
theorem range_app {w : World} {b o : Nat} {xs ys : List Value} (h : w.rangeAt b o (xs ++ ys)) : w.rangeAt b o xs ∧ w.rangeAt b (o + xs.length) ys := by
  constructor
  · intro i v hv
    have hi := (List.getElem?_eq_some_iff.1 hv).1
    exact h i v (by rw [List.getElem?_append_left hi]; exact hv)
  · intro i v hv
    rw [Nat.add_assoc]
    exact h (xs.length + i) v (by rw [List.getElem?_append_right (by omega), Nat.add_sub_cancel_left]; exact hv)
theorem range_join {w : World} {b o : Nat} {xs ys : List Value} (h : w.rangeAt b o xs) (g : w.rangeAt b (o + xs.length) ys) : w.rangeAt b o (xs ++ ys) := by
  intro i v hv
  by_cases hi : i < xs.length
  · rw [List.getElem?_append_left hi] at hv
    exact h i v hv
  · rw [List.getElem?_append_right (by omega)] at hv
    have := g (i - xs.length) v hv
    rwa [Nat.add_assoc, show xs.length + (i - xs.length) = i by omega] at this
theorem range_cell {w : World} {b o : Nat} {cs : List Value} (h : w.rangeAt b o cs) {i : Nat} {v : Value} (hv : cs[i]? = some v) : w.cell? ⟨b, o + i, none⟩ = some v := h i v hv
theorem range_of {w : World} {b : Nat} {cs : List Value} {t : TypeId} (h : w.heap[b]? = some (.cells cs.toArray t (0, 0))) : w.rangeAt b 0 cs := fun j u hj => by
  rw [Nat.zero_add, cell_of_row w b j _ t (0, 0) h, ← hj]
  simp
theorem range_new (w : World) (cs : List Value) (t : TypeId) : (w.alloc (.cells cs.toArray t)).rangeAt w.heap.size 0 cs := range_of (heap_alloc_last w _)
theorem wpList_load_midG {P : Program} {ops : Array Oper} {rest : List Oper} {op : Oper} {a : Act} {w : World} {Q : Exit → Act → World → Prop} (hw : Region.wanted op (yielded ops a.tmps) = true) (ty : TypeId) (x : Operand) (ho : op.op = .load ty x)
    (b o : Nat) (hx : a.eval x = .pointer (some ⟨b, o, none⟩)) (cs : List Value) (d : TypeDesc) (hc : w.rangeAt b o cs)
    (hu : P.underlying ty = some d) (hd : d.isRow = true) (hi : (P.info? ty).map (·.size) = some cs.length)
    (h : wpList P ops Q rest (a.put op.dst (.agg cs.toArray)) w) : wpList P ops Q (op :: rest) a w := by
  unfold wpList
  rw [if_pos hw]
  exact .inl (wp_load_mid ty x ho b o hx cs d hc hu hd hi h)
theorem szL {t n : Nat} {cs : List Value} (h : (Try.prog.info? t).map (·.size) = some n) (hl : cs.length = n) : (Try.prog.info? t).map (·.size) = some cs.length := by rw [hl]; exact h
theorem szA {t n : Nat} {cs : List Value} (h : (Try.prog.info? t).map (·.size) = some n) (hl : cs.length = n) : (Try.prog.info? t).map (·.size) = some cs.toArray.size := by rw [List.size_toArray, hl]; exact h
theorem rg_app {S T : Sch} {w : World} {b o n : Nat} {r : List Int} (h : w.rangeAt b o (vals (S ++ T) r)) (hS : S.length = n) (hl : n ≤ r.length) : w.rangeAt b o (vals S (r.take n)) ∧ w.rangeAt b (o + n) (vals T (r.drop n)) := by
  subst hS
  rw [vals_app hl] at h
  have := range_app h
  rw [vals_len (by rw [List.length_take]; omega)] at this
  exact this
theorem rg_num {k : Nat} {S : Sch} {w : World} {b o : Nat} {r : List Int} (h : w.rangeAt b o (vals (some k :: S) r)) (hl : 1 ≤ r.length) : w.cell? ⟨b, o, none⟩ = some (.int .i64 ((cel r 0))) ∧ w.rangeAt b (o + 1) (vals S (r.drop 1)) := by
  cases r with
  | nil => simp at hl
  | cons x r =>
    have h1 : w.rangeAt b o ([.int .i64 x] ++ vals S r) := h
    have h2 := range_app h1
    exact ⟨range_cell h2.1 (i := 0) rfl, h2.2⟩
theorem rg_byt {k : Nat} {w : World} {b o : Nat} {r : List Int} (h : w.rangeAt b o (vals (List.replicate k none) r)) (hl : r.length = k) : w.rangeAt b o (bvals r) := by
  rw [vals_byt k r hl] at h
  exact h
theorem drop_len {r : List Int} {n k : Nat} (h : r.length = n) : (r.drop k).length = n - k := by rw [List.length_drop, h]
theorem take_len {r : List Int} {n k : Nat} (h : r.length = n) (hk : k ≤ n) : (r.take k).length = k := by rw [List.length_take, h]; omega
theorem seg_all {r : List Int} {i k : Nat} (h : r.length = i + k) : seg r i k = r.drop i := by
  rw [seg, List.take_of_length_le (by rw [List.length_drop]; omega)]
theorem seg_0 (r : List Int) (k : Nat) : seg r 0 k = r.take k := by rw [seg, List.drop_zero]
def BL (w : World) (b : Nat) (cs : List Value) (T : TypeId) : Prop := w.heap[b]? = some (.cells cs.toArray T (0, 0))
theorem bl_lt {w : World} {b : Nat} {cs : List Value} {T : TypeId} (h : BL w b cs T) : b < w.heap.size := lt_of_block h
theorem bl_set {w : World} {b : Nat} {cs : List Value} {T : TypeId} (h : BL w b cs T) (i : Nat) (v : Value) : BL (w.setCell ⟨b, i, none⟩ v) b (cs.set i v) T := by
  unfold BL at *
  rw [heap_setCell_same w b i _ T v h, List.setIfInBounds_toArray]
theorem bl_sets {b : Nat} {T : TypeId} : ∀ (vs : List Value) {w : World} {cs : List Value} (o : Nat), BL w b cs T → o + vs.length ≤ cs.length → BL (w.setCells b o vs) b (cs.take o ++ (vs ++ cs.drop (o + vs.length))) T
  | [], w, cs, o, h, _ => by
    rw [List.length_nil, Nat.add_zero, List.nil_append, List.take_append_drop]
    exact h
  | v :: vs, w, cs, o, h, hl => by
    rw [List.length_cons] at hl
    have h1 := bl_sets vs (o + 1) (bl_set h o v) (by rw [List.length_set]; omega)
    have e : (cs.set o v).take (o + 1) ++ (vs ++ (cs.set o v).drop (o + 1 + vs.length)) = cs.take o ++ (v :: vs ++ cs.drop (o + (v :: vs).length)) := by
      rw [List.drop_set_of_lt (by omega), List.length_cons, show o + (vs.length + 1) = o + 1 + vs.length by omega]
      rw [List.take_set, List.set_eq_take_append_cons_drop]
      rw [if_pos (by rw [List.length_take]; omega), List.take_take, Nat.min_eq_left (by omega), List.drop_of_length_le (by rw [List.length_take]; omega)]
      simp
    rw [e] at h1
    exact h1
theorem bl_there {w : World} {b : Nat} {cs : List Value} {T : TypeId} (h : BL w b cs T) {o n : Nat} (hl : o + n ≤ cs.length) : w.there b o n := fun j hj => by
  refine ⟨?_, free_of h _⟩
  rw [cell_of_row w b (o + j) _ T (0, 0) h]
  simp [show o + j < cs.length by omega]
theorem bl_free {w : World} {b : Nat} {cs : List Value} {T : TypeId} (h : BL w b cs T) (i : Nat) : w.frozen? ⟨b, i, none⟩ = false := free_of h i
theorem bl_keep {w W : World} {b : Nat} {cs : List Value} {T : TypeId} (h : BL w b cs T) (hb : W.heap[b]? = w.heap[b]?) : BL W b cs T := hb.trans h
theorem wpList_bld {ops : Array Oper} {rest : List Oper} {o : Oper} {a : Act} {w : World} {Q : Exit → Act → World → Prop} (hw : Region.wanted o (yielded ops a.tmps) = true) (T : TypeId) (v : Value) (ho : o.op = .build T #[]) (hr : ∀ w, (Instr.build T #[]).run Try.prog w = .ok v w)
    (hK : wpList Try.prog ops Q rest (a.put o.dst v) w) : wpList Try.prog ops Q (o :: rest) a w := by
  unfold wpList
  rw [if_pos hw]
  refine .inl ?_
  unfold Oper.wp execOp
  simp only [ho, List.map_toArray, List.map_nil, Sem.run_bind, hr, Result.andThen_ok]
  exact hK
theorem cel_drop (r : List Int) (i j : Nat) : cel (r.drop i) j = cel r (i + j) := by simp [cel, List.getD, List.getElem?_drop]
theorem cel_take {r : List Int} {i j : Nat} (h : j < i) : cel (r.take i) j = cel r j := by simp [cel, List.getD, h]
theorem seg_len {r : List Int} {i k : Nat} (h : i + k ≤ r.length) : (seg r i k).length = k := by rw [seg, List.length_take, List.length_drop]; omega
theorem cel_seg {r : List Int} {i k j : Nat} (h : j < k) : cel (seg r i k) j = cel r (i + j) := by rw [seg, cel_take h, cel_drop]
end Go.Proofs.Ytdggnmlhgglccaa
