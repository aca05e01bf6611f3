/-
  New, Get, Root, Len; Put where there is no place.
-/
import Derived.Test.YtgagcblddcibkaaDoorS6
namespace Go.Proofs.YtgagcblddcibkaaDoor
open Go.RowKit
open Go.Maps
theorem mrow_none : mrow (fun _ => none) = #[.map none, .map none, .map none, .map none, .map none, .map none, .map none, .map none, .map none, .map none, .map none, .map none, .map none, .map none, .map none, .map none, .map none] := rfl
theorem b58 (w : World) : (Instr.build 58 #[]).run Tryd.prog w = .ok (.agg (mrow fun _ => none)) w := by kernel_rfl
theorem nd_none : ∀ (h : Nat) (k : Int), nd (fun _ => zeros 8) h k = zeros 8
  | 0, _ => rfl
  | h + 1, k => by rw [nd_succ, nd_none h, nd_none h, ab_zero]
theorem Tr.len {w : World} {B T N : Nat} {ms : Nat → Option Nat} {f : Int → List Int} (h : Tr w B T ms (nd f) N) (ks : List Int) (hnd : ks.Nodup) (hks : ∀ k, f k ≠ zeros 8 ↔ k ∈ ks) (ty : TypeId) : (Builtin.len_ #[55] ty #[.map (ms 0)]).run Tryd.prog w = .ok (.int .i64 ks.length) w := by
  cases hm : ms 0 with
  | none =>
    have : ks = [] := by
      cases ks with
      | nil => rfl
      | cons a l => exact absurd (h.nil 0 (by omega) hm a) ((hks a).2 (by simp))
    subst this
    exact Maps.len_nil Tryd.underlying55 ty
  | some b => exact (h.map 0 b (by omega) hm).2.2.len ks hnd hks ty
theorem wpList_mlen {w : World} {ops : Array Oper} {rest : List Oper} {o : Oper} {a : Act} {Q : Exit → Act → World → Prop} (hg : o.guard = none) (m : Operand) (hop : o.op = Op.call { callee := Callee.builtin Builtin.len, args := #[m], argTypes := #[55] })
    (r : Option Nat) (n : Int) (hm : a.eval m = .map r) (hrun : ∀ ty, (Builtin.len_ #[55] ty #[.map r]).run Tryd.prog w = .ok (.int .i64 n) w)
    (hK : wpList Tryd.prog ops Q rest (a.put o.dst (.int .i64 n)) w) : wpList Tryd.prog ops Q (o :: rest) a w := by
  refine wpList_plain hg fun K' hK' => ?_
  have hr := hrun o.type
  unfold Oper.wp
  simp [execOp, hop, resolve, invoke, builtin, hm, hr, Result.andThen]
  exact hK' _ _ hK
attribute [local irreducible] ua da ba kk sw S8.run rt hs comp splice outB sha msg twoM twoN ab zeros MapIs mrow nd
/-- New -/
theorem p23 (w : World) : Calls Tryd.prog 23 #[] w fun e w' => e = .returned (.pointer (some ⟨w.heap.size, 0, none⟩)) ∧ Tr w' w.heap.size w.heap.size (fun _ => none) (nd fun _ => zeros 8) 0 ∧ Below w.heap.size w w' := by
  have H0 : Hid ((w.alloc (Obj.cells (mrow fun _ => none) 58)).heap[w.heap.size]? = some (.cells (mrow fun _ => none) 58 (0, 0))) := heap_alloc_last w _
  rw [mrow_none] at H0
  go_enter Tryd.func23, Tryd.ntmps23
  go_wp2
  go_ret
  exact ⟨rfl, ⟨by rw [mrow_none]; exact H0.out, Nat.le_refl _, fun s _ _ k => nd_none s k, fun s b _ h => (by cases h), fun s s' b _ _ h => (by cases h)⟩, (Below.refl _ w).alloc (Nat.le_refl _) _⟩
set_option maxRecDepth 100000 in
set_option maxHeartbeats 4000000 in
/-- Get -/
theorem p14 (B T N : Nat) (i : Int) (ms : Nat → Option Nat) (f : Int → List Int) (w : World) (hT : Tr w B T ms (nd f) N) (hw : wf64 i) :
    Calls Tryd.prog 14 #[.pointer (some ⟨T, 0, none⟩), .int .i64 i] w fun e w' => e = .returned (.agg (ba (f i))) ∧ Below w.heap.size w w' := by
  have h4 := z27
  obtain ⟨S, hS⟩ : ∃ S, w.heap.size = S := ⟨_, rfl⟩
  have R0 : Hid (BA (w.alloc (Obj.cells (ba (zeros 8)) 29)) S 29 (zeros 8)) := by subst hS; exact heap_alloc_last w _
  have B0 : Hid (Below S w (w.alloc (Obj.cells (ba (zeros 8)) 29))) := by subst hS; exact (Below.refl _ w).alloc (Nat.le_refl _) _
  have T0 : Hid (Tr (w.alloc (Obj.cells (ba (zeros 8)) 29)) B T ms (nd f) N) := hT.grow ((Below.refl _ w).alloc (Nat.le_refl _) _)
  have HS := Lib.hid hS
  have HW : Hid ((Lit.int .i64 i).wf = true) := hw
  obtain ⟨x, hx⟩ : ∃ x, f i = x := ⟨_, rfl⟩
  obtain ⟨g1, l1⟩ := T0.out.get 0 (by omega) HW.out
  have e0 : nd f 0 i = x := by rw [← hx]; exact nd_zero f i
  rw [e0] at g1 l1
  rw [hx]
  have c1 := T0.out.cell 0 (by omega)
  have HL := Lib.hid l1
  clear l1 e0 hx hw hT
  go_enter Tryd.func14, Tryd.ntmps14
  go_wp2_with (refine wpList_store_rowTo rfl 29 (.tmp 4) (.tmp 14) rfl rfl S (ba x) rfl rfl 29 (ba (zeros 8)) R0.out (sz s27 (by rw [ba_size, HL.out])) (by rw [ba_size, ba_size, HL.out, zeros_len]) (ba_one _) ?_)
  refine bodyPost_ret (v := .agg (ba x)) (results_cell_row rfl _ _ S 29 _ (0, 0) _ rfl (setRow_heap _ _ _ _ _ _ R0.out) Tryd.underlying29 rfl (sz s27 (by rw [ba_size, HL.out]))) rfl ⟨rfl, ?_⟩
  rw [HS.out]
  exact below_setRow B0.out (by omega) _
set_option maxRecDepth 100000 in
set_option maxHeartbeats 4000000 in
/-- Root -/
theorem p12 (B T N : Nat) (ms : Nat → Option Nat) (f : Int → List Int) (w : World) (hT : Tr w B T ms (nd f) N) :
    Calls Tryd.prog 12 #[.pointer (some ⟨T, 0, none⟩)] w fun e w' => e = .returned (.agg (ba (nd f 16 0))) ∧ Below w.heap.size w w' := by
  have h4 := z27
  obtain ⟨S, hS⟩ : ∃ S, w.heap.size = S := ⟨_, rfl⟩
  have R0 : Hid (BA (w.alloc (Obj.cells (ba (zeros 8)) 29)) S 29 (zeros 8)) := by subst hS; exact heap_alloc_last w _
  have B0 : Hid (Below S w (w.alloc (Obj.cells (ba (zeros 8)) 29))) := by subst hS; exact (Below.refl _ w).alloc (Nat.le_refl _) _
  have T0 : Hid (Tr (w.alloc (Obj.cells (ba (zeros 8)) 29)) B T ms (nd f) N) := hT.grow ((Below.refl _ w).alloc (Nat.le_refl _) _)
  have HS := Lib.hid hS
  obtain ⟨x, hx⟩ : ∃ x, nd f 16 0 = x := ⟨_, rfl⟩
  obtain ⟨g1, l1⟩ := T0.out.get 16 (by omega) (k := 0) (wf_small (by omega) (by omega))
  rw [hx] at g1 l1
  rw [hx]
  have c1 := T0.out.cell 16 (by omega)
  have HL := Lib.hid l1
  clear l1 hx hT
  go_enter Tryd.func12, Tryd.ntmps12
  go_wp2_with (refine wpList_store_rowTo rfl 29 (.tmp 2) (.tmp 11) rfl rfl S (ba x) rfl rfl 29 (ba (zeros 8)) R0.out (sz s27 (by rw [ba_size, HL.out])) (by rw [ba_size, ba_size, HL.out, zeros_len]) (ba_one _) ?_)
  refine bodyPost_ret (v := .agg (ba x)) (results_cell_row rfl _ _ S 29 _ (0, 0) _ rfl (setRow_heap _ _ _ _ _ _ R0.out) Tryd.underlying29 rfl (sz s27 (by rw [ba_size, HL.out]))) rfl ⟨rfl, ?_⟩
  rw [HS.out]
  exact below_setRow B0.out (by omega) _
set_option maxRecDepth 100000 in
set_option maxHeartbeats 4000000 in
/-- Len -/
theorem p16 (B T N : Nat) (ms : Nat → Option Nat) (f : Int → List Int) (ks : List Int) (w : World) (hT : Tr w B T ms (nd f) N) (hnd : ks.Nodup) (hks : ∀ k, f k ≠ zeros 8 ↔ k ∈ ks) :
    Calls Tryd.prog 16 #[.pointer (some ⟨T, 0, none⟩)] w fun e w' => e = .returned (.int .i64 ks.length) ∧ w' = w := by
  have HL := Lib.hid (hT.len ks hnd hks)
  have c1 := hT.cell 0 (by omega)
  clear hT hnd hks
  go_enter Tryd.func16, Tryd.ntmps16
  go_wp2_with (at_len; refine wpList_mlen rfl (.tmp 9) rfl (ms 0) ks.length rfl HL.out ?_)
  go_ret
  exact ⟨rfl, rfl⟩
set_option maxRecDepth 100000 in
set_option maxHeartbeats 4000000 in
/-- Put where there is no place -/
theorem p20no (T : Nat) (i : Int) (h : List Int) (w : World) (hno : ¬ (0 ≤ i ∧ i < 65536)) (hh : h.length = 8) :
    Calls Tryd.prog 20 #[.pointer (some ⟨T, 0, none⟩), .int .i64 i, .agg (ba h)] w fun e w' => e = .returned (.bool false) ∧ Below w.heap.size w w' := by
  have C25 : Hid (∀ w, Calls Tryd.prog 25 #[.int .i64 i] w fun e w' => e = .returned (.bool false) ∧ w = w') := fun w => by
    have := p25 (i : Int) w
    have e : (decide (0 ≤ i) && decide (i < 65536)) = false := by simp; omega
    rw [e] at this
    exact this.mono fun _ _ h => ⟨h.1, h.2.symm⟩
  obtain ⟨h0, h1, h2, h3, h4, h5, h6, h7, hh8⟩ := c8cells h hh
  rw [hh8, ba_lit]
  clear hno hh hh8
  have B0 : Hid (Below w.heap.size w (w.alloc (Obj.cells #[.int .u8 h0, .int .u8 h1, .int .u8 h2, .int .u8 h3, .int .u8 h4, .int .u8 h5, .int .u8 h6, .int .u8 h7] 29))) := (Below.refl _ w).alloc (Nat.le_refl _) _
  go_enter Tryd.func20, Tryd.ntmps20
  go_wp2_with (go_at_call 25; refine (C25.out _).mono ?_; rintro e w1 ⟨rfl, rfl⟩)
  go_ret
  exact ⟨rfl, B0.out⟩
end Go.Proofs.YtgagcblddcibkaaDoor
