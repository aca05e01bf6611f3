/-
  A transaction without the fields that its kind has: others.
-/
import Derived.Test.YtffaddefnpkcgaaGreatDoorZE
namespace Go.Proofs.YtffaddefnpkcgaaGreatDoor
open Go.RowKit
set_option maxRecDepth 100000
def BL (w : World) (b : Nat) (cs : List Value) (T : TypeId) : Prop := w.heap[b]? = some (.cells cs.toArray T (0, 0))
theorem bl_lt {w : World} {b : Nat} {cs : List Value} {T : TypeId} (h : BL w b cs T) : b < w.heap.size := lt_of_block h
theorem bl_set {w : World} {b : Nat} {cs : List Value} {T : TypeId} (h : BL w b cs T) (i : Nat) (v : Value) : BL (w.setCell ⟨b, i, none⟩ v) b (cs.set i v) T := by
  unfold BL at *
  rw [heap_setCell_same w b i _ T v h, List.setIfInBounds_toArray]
theorem bl_sets {b : Nat} {T : TypeId} : ∀ (vs : List Value) {w : World} {cs : List Value} (o : Nat), BL w b cs T → o + vs.length ≤ cs.length → BL (w.setCells b o vs) b (cs.take o ++ (vs ++ cs.drop (o + vs.length))) T
  | [], w, cs, o, h, _ => by
    rw [List.length_nil, Nat.add_zero, List.nil_append, List.take_append_drop]
    exact h
  | v :: vs, w, cs, o, h, hl => by
    rw [List.length_cons] at hl
    have h1 := bl_sets vs (o + 1) (bl_set h o v) (by rw [List.length_set]; omega)
    have e : (cs.set o v).take (o + 1) ++ (vs ++ (cs.set o v).drop (o + 1 + vs.length)) = cs.take o ++ (v :: vs ++ cs.drop (o + (v :: vs).length)) := by
      rw [List.drop_set_of_lt (by omega), List.length_cons, show o + (vs.length + 1) = o + 1 + vs.length by omega]
      rw [List.take_set, List.set_eq_take_append_cons_drop]
      rw [if_pos (by rw [List.length_take]; omega), List.take_take, Nat.min_eq_left (by omega), List.drop_of_length_le (by rw [List.length_take]; omega)]
      simp
    rw [e] at h1
    exact h1
theorem bl_there {w : World} {b : Nat} {cs : List Value} {T : TypeId} (h : BL w b cs T) {o n : Nat} (hl : o + n ≤ cs.length) : w.there b o n := fun j hj => by
  refine ⟨?_, free_of h _⟩
  rw [cell_of_row w b (o + j) _ T (0, 0) h]
  simp [show o + j < cs.length by omega]
theorem bl_free {w : World} {b : Nat} {cs : List Value} {T : TypeId} (h : BL w b cs T) (i : Nat) : w.frozen? ⟨b, i, none⟩ = false := free_of h i
theorem bl_keep {w W : World} {b : Nat} {cs : List Value} {T : TypeId} (h : BL w b cs T) (hb : W.heap[b]? = w.heap[b]?) : BL W b cs T := hb.trans h
theorem below_sets {B : Nat} {b : Nat} : ∀ (vs : List Value) {w v : World} (o : Nat), Below B w v → B ≤ b → Below B w (v.setCells b o vs)
  | [], _, _, _, h, _ => h
  | x :: vs, _, _, o, h, hb => below_sets vs (o + 1) (h.setCell hb x) hb
theorem heap_sets {b : Nat} : ∀ (vs : List Value) (w : World) (o k : Nat), k ≠ b → (w.setCells b o vs).heap[k]? = w.heap[k]?
  | [], _, _, _, _ => rfl
  | x :: vs, w, o, k, h => by
    have := heap_sets vs (w.setCell ⟨b, o, none⟩ x) (o + 1) k h
    exact this.trans (heap_setCell_other w ⟨b, o, none⟩ k x h)
theorem heap_set1 {b i : Nat} (x : Value) (w : World) (k : Nat) (h : k ≠ b) : (w.setCell ⟨b, i, none⟩ x).heap[k]? = w.heap[k]? := heap_setCell_other w ⟨b, i, none⟩ k x h
def nS : Sl := ⟨none, 0⟩
def hd0 : TxH := ⟨nS, nS, nS, nS, nS, nS⟩
def othH (t : TxP) (h : TxH) : TxH :=
  if t.kind = 1 then { h with o := nS } else if t.kind = 2 then { h with i := nS, o := nS, f := nS } else if t.kind = 3 then { h with k := nS } else if t.kind = 4 then { h with co := nS, cs := nS } else h
theorem cap_nS : Cap nS 0 := ⟨Nat.le_refl _, Nat.zero_le _, fun _ => rfl⟩
theorem wf_oth {t : TxP} (h : WfT t) : WfT (othT t) := by
  have w0 := wf_tx0
  unfold othT
  split
  · exact { h with height := w0.height, outs := w0.outs }
  split
  · exact { h with ins := w0.ins, outs := w0.outs, fwds := w0.fwds }
  split
  · exact { h with par := w0.par, keys := w0.keys }
  split
  · exact { h with cer := w0.cer, couts := w0.couts, csigs := w0.csigs }
  split
  · exact { h with cla := w0.cla }
  exact h
theorem tx_set1 (t : TxP) (h : TxH) : (txC t h).set 1 (.int .i64 0) = txC { t with height := 0 } h := rfl
theorem tx_set2 (t : TxP) (h : TxH) : (txC t h).set 2 (.slice none 0 0) = txC { t with ins := [] } { h with i := nS } := rfl
theorem tx_set3 (t : TxP) (h : TxH) : (txC t h).set 3 (.slice none 0 0) = txC { t with outs := [] } { h with o := nS } := rfl
theorem tx_set4 (t : TxP) (h : TxH) : (txC t h).set 4 (.slice none 0 0) = txC { t with fwds := [] } { h with f := nS } := rfl
theorem tx_parts {t : TxP} (h : TxH) (hw : WfT t) : ∀ (a p c : List Value), a.length = 5 → p.length = 4 → c.length = 21 → ∀ l, txC t h = a ++ (p ++ (c ++ l)) →
    (∀ q : List Value, (txC t h).take 5 ++ (q ++ (txC t h).drop 9) = a ++ (q ++ (c ++ l))) ∧ (∀ q : List Value, (txC t h).take 9 ++ (q ++ (txC t h).drop 30) = a ++ (p ++ (q ++ l))) ∧ (∀ q : List Value, (txC t h).take 30 ++ (q ++ (txC t h).drop 170) = a ++ (p ++ (c ++ q))) := by
  intro a p c ha hp hc l e
  have hl : (txC t h).length = 170 := txC_len h hw
  rw [e] at hl ⊢
  simp only [List.length_append, ha, hp, hc] at hl
  refine ⟨fun q => ?_, fun q => ?_, fun q => ?_⟩
  · rw [List.take_left' ha, show (9 : Nat) = a.length + p.length by omega, ← List.append_assoc a p, List.drop_left' (by rw [List.length_append])]
  · rw [← List.append_assoc a p, List.take_left' (by rw [List.length_append]; omega), ← List.append_assoc (a ++ p) c, List.drop_left' (by rw [List.length_append, List.length_append]; omega), List.append_assoc]
  · rw [← List.append_assoc p c, ← List.append_assoc a (p ++ c), List.take_left' (by rw [List.length_append, List.length_append]; omega), List.drop_of_length_le (by simp only [List.length_append]; omega), List.append_nil]
    simp only [List.append_assoc]
def fstC (t : TxP) (h : TxH) : List Value := [.int .i64 t.kind, .int .i64 t.height, h.i.v t.ins.length, h.o.v t.outs.length, h.f.v t.fwds.length]
theorem tx_par {t : TxP} (h : TxH) (hw : WfT t) : (txC t h).take 5 ++ (parC tx0 hd0 ++ (txC t h).drop 9) = txC { t with par := zeros 3, keys := [] } { h with k := nS } :=
  ((tx_parts h hw (fstC t h) (parC t h) (cerC t h) rfl (parC_len h hw) (cerC_len h hw) (claC t) rfl).1 (parC tx0 hd0)).trans rfl
theorem tx_cer {t : TxP} (h : TxH) (hw : WfT t) : (txC t h).take 9 ++ (cerC tx0 hd0 ++ (txC t h).drop 30) = txC { t with cer := zeros 19, couts := [], csigs := [] } { h with co := nS, cs := nS } :=
  ((tx_parts h hw (fstC t h) (parC t h) (cerC t h) rfl (parC_len h hw) (cerC_len h hw) (claC t) rfl).2.1 (cerC tx0 hd0)).trans rfl
theorem tx_cla {t : TxP} (h : TxH) (hw : WfT t) : (txC t h).take 30 ++ (claC tx0 ++ (txC t h).drop 170) = txC { t with cla := zeros 140 } h :=
  ((tx_parts h hw (fstC t h) (parC t h) (cerC t h) rfl (parC_len h hw) (cerC_len h hw) (claC t) rfl).2.2 (claC tx0)).trans rfl
theorem z39 (w : World) : (zeroValue 39).run Tryz.prog w = .ok (.agg (txC tx0 hd0).toArray) w := by kernel_rfl
theorem b27 (w : World) : (Instr.build 27 #[]).run Tryz.prog w = .ok (.agg (parC tx0 hd0).toArray) w := by kernel_rfl
theorem b32 (w : World) : (Instr.build 32 #[]).run Tryz.prog w = .ok (.agg (cerC tx0 hd0).toArray) w := by kernel_rfl
theorem b37 (w : World) : (Instr.build 37 #[]).run Tryz.prog w = .ok (.agg (claC tx0).toArray) w := by kernel_rfl
theorem oth_1 {t : TxP} {h : TxH} (k : t.kind = 1) : othT t = { t with height := 0, outs := [] } ∧ othH t h = { h with o := nS } := by unfold othT othH; rw [if_pos k, if_pos k]; exact ⟨rfl, rfl⟩
theorem oth_2 {t : TxP} {h : TxH} (k : t.kind = 2) : othT t = { t with ins := [], outs := [], fwds := [] } ∧ othH t h = { h with i := nS, o := nS, f := nS } := by unfold othT othH; rw [if_neg (by omega), if_pos k, if_neg (by omega), if_pos k]; exact ⟨rfl, rfl⟩
theorem oth_3 {t : TxP} {h : TxH} (k : t.kind = 3) : othT t = { t with par := zeros 3, keys := [] } ∧ othH t h = { h with k := nS } := by unfold othT othH; rw [if_neg (by omega), if_neg (by omega), if_pos k, if_neg (by omega), if_neg (by omega), if_pos k]; exact ⟨rfl, rfl⟩
theorem oth_4 {t : TxP} {h : TxH} (k : t.kind = 4) : othT t = { t with cer := zeros 19, couts := [], csigs := [] } ∧ othH t h = { h with co := nS, cs := nS } := by unfold othT othH; rw [if_neg (by omega), if_neg (by omega), if_neg (by omega), if_pos k, if_neg (by omega), if_neg (by omega), if_neg (by omega), if_pos k]; exact ⟨rfl, rfl⟩
theorem oth_5 {t : TxP} {h : TxH} (k : t.kind = 5) : othT t = { t with cla := zeros 140 } ∧ othH t h = h := by unfold othT othH; rw [if_neg (by omega), if_neg (by omega), if_neg (by omega), if_neg (by omega), if_pos k, if_neg (by omega), if_neg (by omega), if_neg (by omega), if_neg (by omega)]; exact ⟨rfl, rfl⟩
theorem oth_no {t : TxP} {h : TxH} (k1 : t.kind ≠ 1) (k2 : t.kind ≠ 2) (k3 : t.kind ≠ 3) (k4 : t.kind ≠ 4) (k5 : t.kind ≠ 5) : othT t = t ∧ othH t h = h := by unfold othT othH; rw [if_neg k1, if_neg k2, if_neg k3, if_neg k4, if_neg k5, if_neg k1, if_neg k2, if_neg k3, if_neg k4]; exact ⟨rfl, rfl⟩
theorem mem_oth {w : World} {t : TxP} {h : TxH} (m : Mem w t h) : Mem w (othT t) (othH t h) := by
  by_cases k1 : t.kind = 1
  · rw [(oth_1 (h := h) k1).1, (oth_1 k1).2]
    exact { m with o := lrow_nil _ _ _, oc := cap_nS }
  by_cases k2 : t.kind = 2
  · rw [(oth_2 (h := h) k2).1, (oth_2 k2).2]
    exact { m with i := lrow_nil _ _ _, ic := cap_nS, o := lrow_nil _ _ _, oc := cap_nS, f := lrow_nil _ _ _, fc := cap_nS }
  by_cases k3 : t.kind = 3
  · rw [(oth_3 (h := h) k3).1, (oth_3 k3).2]
    exact { m with k := lrow_nil _ _ _, kc := cap_nS }
  by_cases k4 : t.kind = 4
  · rw [(oth_4 (h := h) k4).1, (oth_4 k4).2]
    exact { m with co := lrow_nil _ _ _, coc := cap_nS, cs := lrow_nil _ _ _, csc := cap_nS }
  by_cases k5 : t.kind = 5
  · rw [(oth_5 (h := h) k5).1, (oth_5 k5).2]
    exact { m with }
  rw [(oth_no (h := h) k1 k2 k3 k4 k5).1, (oth_no k1 k2 k3 k4 k5).2]
  exact m
theorem wpList_bld {ops : Array Oper} {rest : List Oper} {o : Oper} {a : Act} {w : World} {Q : Exit → Act → World → Prop} (hw : Region.wanted o (yielded ops a.tmps) = true) (T : TypeId) (v : Value) (ho : o.op = .build T #[]) (hr : ∀ w, (Instr.build T #[]).run Tryz.prog w = .ok v w)
    (hK : wpList Tryz.prog ops Q rest (a.put o.dst v) w) : wpList Tryz.prog ops Q (o :: rest) a w := by
  unfold wpList
  rw [if_pos hw]
  refine .inl ?_
  unfold Oper.wp execOp
  simp only [ho, List.map_toArray, List.map_nil, Sem.run_bind, hr, Result.andThen_ok]
  exact hK
attribute [local irreducible] ua da ba kk sw S8.run rt hs comp splice outB sha msg zeros win bvals vals parC cerC claC txC
set_option maxHeartbeats 4000000 in
theorem tOth1 (t : TxP) (h : TxH) (w : World) (ht : WfT t) (hk : t.kind = 1) :
    Calls Tryz.prog 41 #[.agg (txC t h).toArray] w fun e w' => e = .returned (.agg (txC (othT t) (othH t h)).toArray) ∧ Below w.heap.size w w' := by
  have HWF := Lib.hid (wf_oth ht)
  rw [(oth_1 (h := h) hk).1, (oth_1 hk).2]
  rw [(oth_1 (h := h) hk).1] at HWF
  have hz := z39
  obtain ⟨S, hS⟩ : ∃ S, w.heap.size = S := ⟨_, rfl⟩
  have HS := Lib.hid hS
  have W0 : Hid (BL ((w.alloc (Obj.cells (txC t h).toArray 39)).alloc (Obj.cells (txC tx0 hd0).toArray 39)) S (txC t h) 39) := by
    rw [← hS]
    exact (Below.heap_alloc _ _ _ (by simp)).trans (heap_alloc_last w _)
  have R0 : Hid (BL ((w.alloc (Obj.cells (txC t h).toArray 39)).alloc (Obj.cells (txC tx0 hd0).toArray 39)) (S + 1) (txC tx0 hd0) 39) := by
    have := heap_alloc_last (w.alloc (Obj.cells (txC t h).toArray 39)) (Obj.cells (txC tx0 hd0).toArray 39)
    rw [World.size_alloc, hS] at this
    exact this
  have B0 : Hid (Below S w ((w.alloc (Obj.cells (txC t h).toArray 39)).alloc (Obj.cells (txC tx0 hd0).toArray 39))) := by
    rw [← hS]; exact ((Below.refl _ w).alloc (Nat.le_refl _) _).alloc (by simp) _
  have L0 : Hid (WfT t) := ht
  go_enter Tryz.func41, Tryz.ntmps41
  go_upto_region 1 with (fail)
  generalize ((w.alloc (Obj.cells (txC t h).toArray 39)).alloc (Obj.cells (txC tx0 hd0).toArray 39)) = wp at *
  obtain ⟨k0, k1, k2, k3, k4, _, _, _⟩ := trng L0.out (range_of W0.out)
  rw [hk] at k0
  have f1 := bl_free W0.out 1
  have f2 := bl_free W0.out 2
  have f3 := bl_free W0.out 3
  have f4 := bl_free W0.out 4
  have hne : S + 1 ≠ S := by omega
  have WZ : Hid (BL ((wp.setCell ⟨S, 1, none⟩ (.int .i64 0)).setCell ⟨S, 3, none⟩ (.slice none 0 0)) S (txC { t with height := 0, outs := [] } { h with o := nS }) 39) := by
    have h1 := (bl_set (bl_set W0.out 1 (.int .i64 0)) 3 (.slice none 0 0))
    rw [tx_set1, tx_set3] at h1
    exact h1
  have RZ : Hid (BL ((wp.setCell ⟨S, 1, none⟩ (.int .i64 0)).setCell ⟨S, 3, none⟩ (.slice none 0 0)) (S + 1) (txC tx0 hd0) 39) := (bl_keep (bl_keep R0.out (heap_set1 _ _ _ hne)) (heap_set1 _ _ _ hne))
  have BZ : Hid (Below S w ((wp.setCell ⟨S, 1, none⟩ (.int .i64 0)).setCell ⟨S, 3, none⟩ (.slice none 0 0))) := ((B0.out.setCell (Nat.le_refl _) _).setCell (Nat.le_refl _) _)
  go_wp2_with (first
    | (refine wpList_load_mid rfl 39 (.tmp 1) rfl S 0 rfl (txC { t with height := 0, outs := [] } { h with o := nS }) _ (range_of WZ.out) Tryz.underlying39 rfl (szL i39 (txC_len _ HWF.out)) ?_)
    | (refine wpList_store_rowTo rfl 39 (.tmp 2) (.tmp 26) rfl rfl (S + 1) (txC { t with height := 0, outs := [] } { h with o := nS }).toArray rfl rfl 39 (txC tx0 hd0).toArray RZ.out (szA i39 (txC_len _ HWF.out)) (by rw [List.size_toArray, List.size_toArray, txC_len _ HWF.out, txC_len _ wf_tx0]) (all_oneCell_toArray (txC_one _ _)) ?_)
    | fail)
  refine bodyPost_ret (v := .agg (txC { t with height := 0, outs := [] } { h with o := nS }).toArray) (results_cell_row rfl _ _ (S + 1) 39 _ (0, 0) _ rfl (setRow_heap _ _ _ _ _ _ RZ.out) Tryz.underlying39 rfl (szA i39 (txC_len _ HWF.out))) rfl ⟨rfl, ?_⟩
  rw [HS.out]
  exact below_setRow BZ.out (by omega) _
set_option maxHeartbeats 4000000 in
theorem tOth2 (t : TxP) (h : TxH) (w : World) (ht : WfT t) (hk : t.kind = 2) :
    Calls Tryz.prog 41 #[.agg (txC t h).toArray] w fun e w' => e = .returned (.agg (txC (othT t) (othH t h)).toArray) ∧ Below w.heap.size w w' := by
  have HWF := Lib.hid (wf_oth ht)
  rw [(oth_2 (h := h) hk).1, (oth_2 hk).2]
  rw [(oth_2 (h := h) hk).1] at HWF
  have hz := z39
  obtain ⟨S, hS⟩ : ∃ S, w.heap.size = S := ⟨_, rfl⟩
  have HS := Lib.hid hS
  have W0 : Hid (BL ((w.alloc (Obj.cells (txC t h).toArray 39)).alloc (Obj.cells (txC tx0 hd0).toArray 39)) S (txC t h) 39) := by
    rw [← hS]
    exact (Below.heap_alloc _ _ _ (by simp)).trans (heap_alloc_last w _)
  have R0 : Hid (BL ((w.alloc (Obj.cells (txC t h).toArray 39)).alloc (Obj.cells (txC tx0 hd0).toArray 39)) (S + 1) (txC tx0 hd0) 39) := by
    have := heap_alloc_last (w.alloc (Obj.cells (txC t h).toArray 39)) (Obj.cells (txC tx0 hd0).toArray 39)
    rw [World.size_alloc, hS] at this
    exact this
  have B0 : Hid (Below S w ((w.alloc (Obj.cells (txC t h).toArray 39)).alloc (Obj.cells (txC tx0 hd0).toArray 39))) := by
    rw [← hS]; exact ((Below.refl _ w).alloc (Nat.le_refl _) _).alloc (by simp) _
  have L0 : Hid (WfT t) := ht
  go_enter Tryz.func41, Tryz.ntmps41
  go_upto_region 1 with (fail)
  generalize ((w.alloc (Obj.cells (txC t h).toArray 39)).alloc (Obj.cells (txC tx0 hd0).toArray 39)) = wp at *
  obtain ⟨k0, k1, k2, k3, k4, _, _, _⟩ := trng L0.out (range_of W0.out)
  rw [hk] at k0
  have f1 := bl_free W0.out 1
  have f2 := bl_free W0.out 2
  have f3 := bl_free W0.out 3
  have f4 := bl_free W0.out 4
  have hne : S + 1 ≠ S := by omega
  have WZ : Hid (BL (((wp.setCell ⟨S, 2, none⟩ (.slice none 0 0)).setCell ⟨S, 3, none⟩ (.slice none 0 0)).setCell ⟨S, 4, none⟩ (.slice none 0 0)) S (txC { t with ins := [], outs := [], fwds := [] } { h with i := nS, o := nS, f := nS }) 39) := by
    have h1 := (bl_set (bl_set (bl_set W0.out 2 (.slice none 0 0)) 3 (.slice none 0 0)) 4 (.slice none 0 0))
    rw [tx_set2, tx_set3, tx_set4] at h1
    exact h1
  have RZ : Hid (BL (((wp.setCell ⟨S, 2, none⟩ (.slice none 0 0)).setCell ⟨S, 3, none⟩ (.slice none 0 0)).setCell ⟨S, 4, none⟩ (.slice none 0 0)) (S + 1) (txC tx0 hd0) 39) := (bl_keep (bl_keep (bl_keep R0.out (heap_set1 _ _ _ hne)) (heap_set1 _ _ _ hne)) (heap_set1 _ _ _ hne))
  have BZ : Hid (Below S w (((wp.setCell ⟨S, 2, none⟩ (.slice none 0 0)).setCell ⟨S, 3, none⟩ (.slice none 0 0)).setCell ⟨S, 4, none⟩ (.slice none 0 0))) := (((B0.out.setCell (Nat.le_refl _) _).setCell (Nat.le_refl _) _).setCell (Nat.le_refl _) _)
  go_wp2_with (first
    | (refine wpList_load_mid rfl 39 (.tmp 1) rfl S 0 rfl (txC { t with ins := [], outs := [], fwds := [] } { h with i := nS, o := nS, f := nS }) _ (range_of WZ.out) Tryz.underlying39 rfl (szL i39 (txC_len _ HWF.out)) ?_)
    | (refine wpList_store_rowTo rfl 39 (.tmp 2) (.tmp 26) rfl rfl (S + 1) (txC { t with ins := [], outs := [], fwds := [] } { h with i := nS, o := nS, f := nS }).toArray rfl rfl 39 (txC tx0 hd0).toArray RZ.out (szA i39 (txC_len _ HWF.out)) (by rw [List.size_toArray, List.size_toArray, txC_len _ HWF.out, txC_len _ wf_tx0]) (all_oneCell_toArray (txC_one _ _)) ?_)
    | fail)
  refine bodyPost_ret (v := .agg (txC { t with ins := [], outs := [], fwds := [] } { h with i := nS, o := nS, f := nS }).toArray) (results_cell_row rfl _ _ (S + 1) 39 _ (0, 0) _ rfl (setRow_heap _ _ _ _ _ _ RZ.out) Tryz.underlying39 rfl (szA i39 (txC_len _ HWF.out))) rfl ⟨rfl, ?_⟩
  rw [HS.out]
  exact below_setRow BZ.out (by omega) _
set_option maxHeartbeats 4000000 in
theorem tOth0 (t : TxP) (h : TxH) (w : World) (ht : WfT t) (k1 : t.kind ≠ 1) (k2 : t.kind ≠ 2) (k3 : t.kind ≠ 3) (k4 : t.kind ≠ 4) (k5 : t.kind ≠ 5) :
    Calls Tryz.prog 41 #[.agg (txC t h).toArray] w fun e w' => e = .returned (.agg (txC (othT t) (othH t h)).toArray) ∧ Below w.heap.size w w' := by
  have HWF := Lib.hid (wf_oth ht)
  rw [(oth_no (h := h) k1 k2 k3 k4 k5).1, (oth_no k1 k2 k3 k4 k5).2]
  rw [(oth_no (h := h) k1 k2 k3 k4 k5).1] at HWF
  have hz := z39
  obtain ⟨S, hS⟩ : ∃ S, w.heap.size = S := ⟨_, rfl⟩
  have HS := Lib.hid hS
  have W0 : Hid (BL ((w.alloc (Obj.cells (txC t h).toArray 39)).alloc (Obj.cells (txC tx0 hd0).toArray 39)) S (txC t h) 39) := by
    rw [← hS]
    exact (Below.heap_alloc _ _ _ (by simp)).trans (heap_alloc_last w _)
  have R0 : Hid (BL ((w.alloc (Obj.cells (txC t h).toArray 39)).alloc (Obj.cells (txC tx0 hd0).toArray 39)) (S + 1) (txC tx0 hd0) 39) := by
    have := heap_alloc_last (w.alloc (Obj.cells (txC t h).toArray 39)) (Obj.cells (txC tx0 hd0).toArray 39)
    rw [World.size_alloc, hS] at this
    exact this
  have B0 : Hid (Below S w ((w.alloc (Obj.cells (txC t h).toArray 39)).alloc (Obj.cells (txC tx0 hd0).toArray 39))) := by
    rw [← hS]; exact ((Below.refl _ w).alloc (Nat.le_refl _) _).alloc (by simp) _
  have L0 : Hid (WfT t) := ht
  go_enter Tryz.func41, Tryz.ntmps41
  go_upto_region 1 with (fail)
  generalize ((w.alloc (Obj.cells (txC t h).toArray 39)).alloc (Obj.cells (txC tx0 hd0).toArray 39)) = wp at *
  obtain ⟨k0, k1, k2, k3, k4, _, _, _⟩ := trng L0.out (range_of W0.out)
  have f1 := bl_free W0.out 1
  have f2 := bl_free W0.out 2
  have f3 := bl_free W0.out 3
  have f4 := bl_free W0.out 4
  have hne : S + 1 ≠ S := by omega
  have WZ := W0
  have RZ := R0
  have BZ := B0
  go_wp2_with (first
    | (refine wpList_load_mid rfl 39 (.tmp 1) rfl S 0 rfl (txC t h) _ (range_of WZ.out) Tryz.underlying39 rfl (szL i39 (txC_len _ HWF.out)) ?_)
    | (refine wpList_store_rowTo rfl 39 (.tmp 2) (.tmp 26) rfl rfl (S + 1) (txC t h).toArray rfl rfl 39 (txC tx0 hd0).toArray RZ.out (szA i39 (txC_len _ HWF.out)) (by rw [List.size_toArray, List.size_toArray, txC_len _ HWF.out, txC_len _ wf_tx0]) (all_oneCell_toArray (txC_one _ _)) ?_)
    | fail)
  refine bodyPost_ret (v := .agg (txC t h).toArray) (results_cell_row rfl _ _ (S + 1) 39 _ (0, 0) _ rfl (setRow_heap _ _ _ _ _ _ RZ.out) Tryz.underlying39 rfl (szA i39 (txC_len _ HWF.out))) rfl ⟨rfl, ?_⟩
  rw [HS.out]
  exact below_setRow BZ.out (by omega) _
set_option maxHeartbeats 4000000 in
theorem tOth3 (t : TxP) (h : TxH) (w : World) (ht : WfT t) (hk : t.kind = 3) :
    Calls Tryz.prog 41 #[.agg (txC t h).toArray] w fun e w' => e = .returned (.agg (txC (othT t) (othH t h)).toArray) ∧ Below w.heap.size w w' := by
  have HWF := Lib.hid (wf_oth ht)
  rw [(oth_3 (h := h) hk).1, (oth_3 hk).2]
  rw [(oth_3 (h := h) hk).1] at HWF
  have hz := z39
  obtain ⟨S, hS⟩ : ∃ S, w.heap.size = S := ⟨_, rfl⟩
  have HS := Lib.hid hS
  have W0 : Hid (BL ((w.alloc (Obj.cells (txC t h).toArray 39)).alloc (Obj.cells (txC tx0 hd0).toArray 39)) S (txC t h) 39) := by
    rw [← hS]
    exact (Below.heap_alloc _ _ _ (by simp)).trans (heap_alloc_last w _)
  have R0 : Hid (BL ((w.alloc (Obj.cells (txC t h).toArray 39)).alloc (Obj.cells (txC tx0 hd0).toArray 39)) (S + 1) (txC tx0 hd0) 39) := by
    have := heap_alloc_last (w.alloc (Obj.cells (txC t h).toArray 39)) (Obj.cells (txC tx0 hd0).toArray 39)
    rw [World.size_alloc, hS] at this
    exact this
  have B0 : Hid (Below S w ((w.alloc (Obj.cells (txC t h).toArray 39)).alloc (Obj.cells (txC tx0 hd0).toArray 39))) := by
    rw [← hS]; exact ((Below.refl _ w).alloc (Nat.le_refl _) _).alloc (by simp) _
  have L0 : Hid (WfT t) := ht
  go_enter Tryz.func41, Tryz.ntmps41
  go_upto_region 1 with (fail)
  generalize ((w.alloc (Obj.cells (txC t h).toArray 39)).alloc (Obj.cells (txC tx0 hd0).toArray 39)) = wp at *
  obtain ⟨k0, k1, k2, k3, k4, _, _, _⟩ := trng L0.out (range_of W0.out)
  rw [hk] at k0
  have f1 := bl_free W0.out 1
  have f2 := bl_free W0.out 2
  have f3 := bl_free W0.out 3
  have f4 := bl_free W0.out 4
  have hne : S + 1 ≠ S := by omega
  go_wp2_with (first
    | (refine wpList_bld (by rfl) 27 (.agg (parC tx0 hd0).toArray) rfl b27 ?_)
    | (refine wpList_store_mid rfl 27 (.tmp 17) (.tmp 16) rfl S 5 (parC tx0 hd0).toArray rfl rfl (by rw [List.size_toArray, parC_len hd0 wf_tx0]; exact bl_there W0.out (by rw [txC_len _ L0.out]; decide)) (szA i27 (parC_len hd0 wf_tx0)) (all_oneCell_toArray (by first | exact parC_one _ _ | exact cerC_one _ _ | exact claC_one _)) ?_
       rw [List.toList_toArray]
       have WZ : Hid (BL (wp.setCells S 5 (parC tx0 hd0)) S (txC { t with par := zeros 3, keys := [] } { h with k := nS }) 39) := by
         have h1 := bl_sets (parC tx0 hd0) 5 W0.out (by rw [txC_len _ L0.out, parC_len hd0 wf_tx0]; decide)
         rw [parC_len hd0 wf_tx0] at h1
         rw [tx_par h L0.out] at h1
         exact h1
       have RZ : Hid (BL (wp.setCells S 5 (parC tx0 hd0)) (S + 1) (txC tx0 hd0) 39) := bl_keep R0.out (heap_sets _ _ _ _ (by omega))
       have BZ : Hid (Below S w (wp.setCells S 5 (parC tx0 hd0))) := below_sets _ _ B0.out (Nat.le_refl _))
    | (refine wpList_load_mid rfl 39 (.tmp 1) rfl S 0 rfl (txC { t with par := zeros 3, keys := [] } { h with k := nS }) _ (range_of WZ.out) Tryz.underlying39 rfl (szL i39 (txC_len _ HWF.out)) ?_)
    | (refine wpList_store_rowTo rfl 39 (.tmp 2) (.tmp 26) rfl rfl (S + 1) (txC { t with par := zeros 3, keys := [] } { h with k := nS }).toArray rfl rfl 39 (txC tx0 hd0).toArray RZ.out (szA i39 (txC_len _ HWF.out)) (by rw [List.size_toArray, List.size_toArray, txC_len _ HWF.out, txC_len _ wf_tx0]) (all_oneCell_toArray (txC_one _ _)) ?_)
    | fail)
  refine bodyPost_ret (v := .agg (txC { t with par := zeros 3, keys := [] } { h with k := nS }).toArray) (results_cell_row rfl _ _ (S + 1) 39 _ (0, 0) _ rfl (setRow_heap _ _ _ _ _ _ RZ.out) Tryz.underlying39 rfl (szA i39 (txC_len _ HWF.out))) rfl ⟨rfl, ?_⟩
  rw [HS.out]
  exact below_setRow BZ.out (by omega) _
set_option maxHeartbeats 4000000 in
theorem tOth4 (t : TxP) (h : TxH) (w : World) (ht : WfT t) (hk : t.kind = 4) :
    Calls Tryz.prog 41 #[.agg (txC t h).toArray] w fun e w' => e = .returned (.agg (txC (othT t) (othH t h)).toArray) ∧ Below w.heap.size w w' := by
  have HWF := Lib.hid (wf_oth ht)
  rw [(oth_4 (h := h) hk).1, (oth_4 hk).2]
  rw [(oth_4 (h := h) hk).1] at HWF
  have hz := z39
  obtain ⟨S, hS⟩ : ∃ S, w.heap.size = S := ⟨_, rfl⟩
  have HS := Lib.hid hS
  have W0 : Hid (BL ((w.alloc (Obj.cells (txC t h).toArray 39)).alloc (Obj.cells (txC tx0 hd0).toArray 39)) S (txC t h) 39) := by
    rw [← hS]
    exact (Below.heap_alloc _ _ _ (by simp)).trans (heap_alloc_last w _)
  have R0 : Hid (BL ((w.alloc (Obj.cells (txC t h).toArray 39)).alloc (Obj.cells (txC tx0 hd0).toArray 39)) (S + 1) (txC tx0 hd0) 39) := by
    have := heap_alloc_last (w.alloc (Obj.cells (txC t h).toArray 39)) (Obj.cells (txC tx0 hd0).toArray 39)
    rw [World.size_alloc, hS] at this
    exact this
  have B0 : Hid (Below S w ((w.alloc (Obj.cells (txC t h).toArray 39)).alloc (Obj.cells (txC tx0 hd0).toArray 39))) := by
    rw [← hS]; exact ((Below.refl _ w).alloc (Nat.le_refl _) _).alloc (by simp) _
  have L0 : Hid (WfT t) := ht
  go_enter Tryz.func41, Tryz.ntmps41
  go_upto_region 1 with (fail)
  generalize ((w.alloc (Obj.cells (txC t h).toArray 39)).alloc (Obj.cells (txC tx0 hd0).toArray 39)) = wp at *
  obtain ⟨k0, k1, k2, k3, k4, _, _, _⟩ := trng L0.out (range_of W0.out)
  rw [hk] at k0
  have f1 := bl_free W0.out 1
  have f2 := bl_free W0.out 2
  have f3 := bl_free W0.out 3
  have f4 := bl_free W0.out 4
  have hne : S + 1 ≠ S := by omega
  go_wp2_with (first
    | (refine wpList_bld (by rfl) 32 (.agg (cerC tx0 hd0).toArray) rfl b32 ?_)
    | (refine wpList_store_mid rfl 32 (.tmp 21) (.tmp 20) rfl S 9 (cerC tx0 hd0).toArray rfl rfl (by rw [List.size_toArray, cerC_len hd0 wf_tx0]; exact bl_there W0.out (by rw [txC_len _ L0.out]; decide)) (szA i32 (cerC_len hd0 wf_tx0)) (all_oneCell_toArray (by first | exact parC_one _ _ | exact cerC_one _ _ | exact claC_one _)) ?_
       rw [List.toList_toArray]
       have WZ : Hid (BL (wp.setCells S 9 (cerC tx0 hd0)) S (txC { t with cer := zeros 19, couts := [], csigs := [] } { h with co := nS, cs := nS }) 39) := by
         have h1 := bl_sets (cerC tx0 hd0) 9 W0.out (by rw [txC_len _ L0.out, cerC_len hd0 wf_tx0]; decide)
         rw [cerC_len hd0 wf_tx0] at h1
         rw [tx_cer h L0.out] at h1
         exact h1
       have RZ : Hid (BL (wp.setCells S 9 (cerC tx0 hd0)) (S + 1) (txC tx0 hd0) 39) := bl_keep R0.out (heap_sets _ _ _ _ (by omega))
       have BZ : Hid (Below S w (wp.setCells S 9 (cerC tx0 hd0))) := below_sets _ _ B0.out (Nat.le_refl _))
    | (refine wpList_load_mid rfl 39 (.tmp 1) rfl S 0 rfl (txC { t with cer := zeros 19, couts := [], csigs := [] } { h with co := nS, cs := nS }) _ (range_of WZ.out) Tryz.underlying39 rfl (szL i39 (txC_len _ HWF.out)) ?_)
    | (refine wpList_store_rowTo rfl 39 (.tmp 2) (.tmp 26) rfl rfl (S + 1) (txC { t with cer := zeros 19, couts := [], csigs := [] } { h with co := nS, cs := nS }).toArray rfl rfl 39 (txC tx0 hd0).toArray RZ.out (szA i39 (txC_len _ HWF.out)) (by rw [List.size_toArray, List.size_toArray, txC_len _ HWF.out, txC_len _ wf_tx0]) (all_oneCell_toArray (txC_one _ _)) ?_)
    | fail)
  refine bodyPost_ret (v := .agg (txC { t with cer := zeros 19, couts := [], csigs := [] } { h with co := nS, cs := nS }).toArray) (results_cell_row rfl _ _ (S + 1) 39 _ (0, 0) _ rfl (setRow_heap _ _ _ _ _ _ RZ.out) Tryz.underlying39 rfl (szA i39 (txC_len _ HWF.out))) rfl ⟨rfl, ?_⟩
  rw [HS.out]
  exact below_setRow BZ.out (by omega) _
set_option maxHeartbeats 4000000 in
theorem tOth5 (t : TxP) (h : TxH) (w : World) (ht : WfT t) (hk : t.kind = 5) :
    Calls Tryz.prog 41 #[.agg (txC t h).toArray] w fun e w' => e = .returned (.agg (txC (othT t) (othH t h)).toArray) ∧ Below w.heap.size w w' := by
  have HWF := Lib.hid (wf_oth ht)
  rw [(oth_5 (h := h) hk).1, (oth_5 hk).2]
  rw [(oth_5 (h := h) hk).1] at HWF
  have hz := z39
  obtain ⟨S, hS⟩ : ∃ S, w.heap.size = S := ⟨_, rfl⟩
  have HS := Lib.hid hS
  have W0 : Hid (BL ((w.alloc (Obj.cells (txC t h).toArray 39)).alloc (Obj.cells (txC tx0 hd0).toArray 39)) S (txC t h) 39) := by
    rw [← hS]
    exact (Below.heap_alloc _ _ _ (by simp)).trans (heap_alloc_last w _)
  have R0 : Hid (BL ((w.alloc (Obj.cells (txC t h).toArray 39)).alloc (Obj.cells (txC tx0 hd0).toArray 39)) (S + 1) (txC tx0 hd0) 39) := by
    have := heap_alloc_last (w.alloc (Obj.cells (txC t h).toArray 39)) (Obj.cells (txC tx0 hd0).toArray 39)
    rw [World.size_alloc, hS] at this
    exact this
  have B0 : Hid (Below S w ((w.alloc (Obj.cells (txC t h).toArray 39)).alloc (Obj.cells (txC tx0 hd0).toArray 39))) := by
    rw [← hS]; exact ((Below.refl _ w).alloc (Nat.le_refl _) _).alloc (by simp) _
  have L0 : Hid (WfT t) := ht
  go_enter Tryz.func41, Tryz.ntmps41
  go_upto_region 1 with (fail)
  generalize ((w.alloc (Obj.cells (txC t h).toArray 39)).alloc (Obj.cells (txC tx0 hd0).toArray 39)) = wp at *
  obtain ⟨k0, k1, k2, k3, k4, _, _, _⟩ := trng L0.out (range_of W0.out)
  rw [hk] at k0
  have f1 := bl_free W0.out 1
  have f2 := bl_free W0.out 2
  have f3 := bl_free W0.out 3
  have f4 := bl_free W0.out 4
  have hne : S + 1 ≠ S := by omega
  go_wp2_with (first
    | (refine wpList_bld (by rfl) 37 (.agg (claC tx0).toArray) rfl b37 ?_)
    | (refine wpList_store_mid rfl 37 (.tmp 25) (.tmp 24) rfl S 30 (claC tx0).toArray rfl rfl (by rw [List.size_toArray, claC_len wf_tx0]; exact bl_there W0.out (by rw [txC_len _ L0.out]; decide)) (szA i37 (claC_len wf_tx0)) (all_oneCell_toArray (by first | exact parC_one _ _ | exact cerC_one _ _ | exact claC_one _)) ?_
       rw [List.toList_toArray]
       have WZ : Hid (BL (wp.setCells S 30 (claC tx0)) S (txC { t with cla := zeros 140 } h) 39) := by
         have h1 := bl_sets (claC tx0) 30 W0.out (by rw [txC_len _ L0.out, claC_len wf_tx0]; decide)
         rw [claC_len wf_tx0] at h1
         rw [tx_cla h L0.out] at h1
         exact h1
       have RZ : Hid (BL (wp.setCells S 30 (claC tx0)) (S + 1) (txC tx0 hd0) 39) := bl_keep R0.out (heap_sets _ _ _ _ (by omega))
       have BZ : Hid (Below S w (wp.setCells S 30 (claC tx0))) := below_sets _ _ B0.out (Nat.le_refl _))
    | (refine wpList_load_mid rfl 39 (.tmp 1) rfl S 0 rfl (txC { t with cla := zeros 140 } h) _ (range_of WZ.out) Tryz.underlying39 rfl (szL i39 (txC_len _ HWF.out)) ?_)
    | (refine wpList_store_rowTo rfl 39 (.tmp 2) (.tmp 26) rfl rfl (S + 1) (txC { t with cla := zeros 140 } h).toArray rfl rfl 39 (txC tx0 hd0).toArray RZ.out (szA i39 (txC_len _ HWF.out)) (by rw [List.size_toArray, List.size_toArray, txC_len _ HWF.out, txC_len _ wf_tx0]) (all_oneCell_toArray (txC_one _ _)) ?_)
    | fail)
  refine bodyPost_ret (v := .agg (txC { t with cla := zeros 140 } h).toArray) (results_cell_row rfl _ _ (S + 1) 39 _ (0, 0) _ rfl (setRow_heap _ _ _ _ _ _ RZ.out) Tryz.underlying39 rfl (szA i39 (txC_len _ HWF.out))) rfl ⟨rfl, ?_⟩
  rw [HS.out]
  exact below_setRow BZ.out (by omega) _
theorem tOth (t : TxP) (h : TxH) (w : World) (ht : WfT t) :
    Calls Tryz.prog 41 #[.agg (txC t h).toArray] w fun e w' => e = .returned (.agg (txC (othT t) (othH t h)).toArray) ∧ Below w.heap.size w w' := by
  by_cases k1 : t.kind = 1
  · exact tOth1 t h w ht k1
  by_cases k2 : t.kind = 2
  · exact tOth2 t h w ht k2
  by_cases k3 : t.kind = 3
  · exact tOth3 t h w ht k3
  by_cases k4 : t.kind = 4
  · exact tOth4 t h w ht k4
  by_cases k5 : t.kind = 5
  · exact tOth5 t h w ht k5
  exact tOth0 t h w ht k1 k2 k3 k4 k5
end Go.Proofs.YtffaddefnpkcgaaGreatDoor
namespace Go.Proofs.YtffaddefnpkcgaaGreatDoor
open Go.RowKit
set_option maxRecDepth 100000
theorem eq_arr {t e : TypeId} {n k d : Nat} (ht : Tryz.prog.underlying t = some (.array n e)) (hk : ∀ w, (sizeOf e).run Tryz.prog w = .ok k w) (xs ys : Array Value) (vx vy : Nat → Value) (F : Nat → Bool)
    (hx : ∀ i, i < n → ∀ w, (part e xs (i * k)).run Tryz.prog w = .ok (vx i) w) (hy : ∀ i, i < n → ∀ w, (part e ys (i * k)).run Tryz.prog w = .ok (vy i) w) (he : ∀ i, i < n → ∀ w, (Op.equalIn d e (vx i) (vy i)).run Tryz.prog w = .ok (F i) w) (w : World) :
    (Op.equalIn (d + 1) t (.agg xs) (.agg ys)).run Tryz.prog w = .ok ((List.range n).all F) w := by
  rw [Op.equalIn]
  simp only [Sem.run_bind, run_underlying ht, Result.andThen_ok]
  have key : ∀ (L : List Nat) (hL : ∀ i ∈ L, i < n), Sem.run Tryz.prog (forIn L ((none, ()) : Option Bool × PUnit) fun i r => do
      let a ← part e xs (i * k)
      let b ← part e ys (i * k)
      let q ← Op.equalIn d e a b
      if (!q) = true then pure (ForInStep.done (some false, ())) else pure (ForInStep.yield (none, ()))) w = .ok (if L.all F = true then (none, ()) else (some false, ())) w := by
    intro L
    induction L with
    | nil => intro _; simp
    | cons i L ih =>
      intro hL
      have hi := hL i (by simp)
      rw [List.forIn_cons]
      simp only [Sem.run_bind, hx i hi, hy i hi, he i hi, Result.andThen_ok]
      cases hq : F i
      · simp [hq]
      · have := ih fun j hj => hL j (by simp [hj])
        simp only [Bool.not_true, Bool.false_eq_true, if_false, Sem.run_pure, Result.andThen_ok, List.all_cons, hq, Bool.true_and]
        exact this
  simp only [hk, Result.andThen_ok, Std.Legacy.Range.forIn_eq_forIn_range', Std.Legacy.Range.size, Nat.sub_zero, Nat.add_sub_cancel, Nat.div_one]
  rw [key (List.range' 0 n) (fun i hi => by simp [List.mem_range'] at hi; omega)]
  rw [← List.range_eq_range']
  cases (List.range n).all F <;> simp
theorem eq_str {t : TypeId} {d : Nat} {fs : Array Field} (ht : Tryz.prog.underlying t = some (.struct fs)) (hs : Tryz.prog.stoodInHeld t = false) (hn : ∀ f ∈ fs.toList, f.name ≠ "_") (xs ys : Array Value) (vx vy : Field → Value) (F : Field → Bool)
    (hx : ∀ f ∈ fs.toList, ∀ w, (part f.type xs f.offset).run Tryz.prog w = .ok (vx f) w) (hy : ∀ f ∈ fs.toList, ∀ w, (part f.type ys f.offset).run Tryz.prog w = .ok (vy f) w) (he : ∀ f ∈ fs.toList, ∀ w, (Op.equalIn d f.type (vx f) (vy f)).run Tryz.prog w = .ok (F f) w) (w : World) :
    (Op.equalIn (d + 1) t (.agg xs) (.agg ys)).run Tryz.prog w = .ok (fs.toList.all F) w := by
  rw [Op.equalIn]
  simp only [Sem.run_bind, run_underlying ht, Result.andThen_ok, run_program, hs, Bool.false_eq_true, if_false]
  have key : ∀ (L : List Field) (hL : ∀ f ∈ L, f ∈ fs.toList), Sem.run Tryz.prog (forIn L ((none, ()) : Option Bool × PUnit) fun f r => do
      if f.name ≠ "_" then do
        let a ← part f.type xs f.offset
        let b ← part f.type ys f.offset
        let q ← Op.equalIn d f.type a b
        if (!q) = true then pure (ForInStep.done (some false, ())) else pure (ForInStep.yield (none, ()))
      else pure (ForInStep.yield (none, ()))) w = .ok (if L.all F = true then (none, ()) else (some false, ())) w := by
    intro L
    induction L with
    | nil => intro _; simp
    | cons f L ih =>
      intro hL
      have hi := hL f (by simp)
      rw [List.forIn_cons]
      rw [if_pos (hn f hi)]
      simp only [Sem.run_bind, hx f hi, hy f hi, he f hi, Result.andThen_ok]
      cases hq : F f
      · simp [hq]
      · have := ih fun j hj => hL j (by simp [hj])
        simp only [Bool.not_true, Bool.false_eq_true, if_false, Sem.run_pure, Result.andThen_ok, List.all_cons, hq, Bool.true_and]
        exact this
  rw [← Array.forIn_toList, key fs.toList fun f h => h]
  cases fs.toList.all F <;> simp
theorem part_int (cs : List Value) (i : Nat) (v : Value) (h : cs[i]? = some v) (w : World) : (part 3 cs.toArray i).run Tryz.prog w = .ok v w := by
  have hu : Tryz.prog.underlying 3 = some (.int .i64) := by kernel_rfl
  simp [part, isAgg, run_underlying hu, Result.andThen, h]
theorem part_agg {t k : Nat} {d : TypeDesc} (hu : Tryz.prog.underlying t = some d) (hd : d.isRow = true) (hk : ∀ w, (sizeOf t).run Tryz.prog w = .ok k w) (cs : List Value) (i : Nat) (w : World) : (part t cs.toArray i).run Tryz.prog w = .ok (.agg ((cs.drop i).take k).toArray) w := by
  have ha : (isAgg t).run Tryz.prog w = .ok true w := by
    cases d <;> simp [TypeDesc.isRow] at hd <;> simp [isAgg, run_underlying hu]
  simp [part, Sem.run_bind, ha, hk, Result.andThen]
theorem eq_int (d : Nat) (a b : Int) (w : World) : (Op.equalIn (d + 1) 3 (.int .i64 a) (.int .i64 b)).run Tryz.prog w = .ok (a == b) w := by
  have hu : Tryz.prog.underlying 3 = some (.int .i64) := by kernel_rfl
  rw [Op.equalIn]
  simp [run_underlying hu]
theorem seg_vals (S T U : Sch) (r : List Int) (i k : Nat) (hS : S.length = i) (hT : T.length = k) (hl : i + k ≤ r.length) : ((vals (S ++ (T ++ U)) r).drop i).take k = vals T (seg r i k) := by
  rw [vals_app (by omega), List.drop_left' (by rw [vals_len (by rw [List.length_take]; omega)]; exact hS), vals_app (by rw [List.length_drop]; omega), List.take_left' (by rw [vals_len (by rw [List.length_take, List.length_drop]; omega)]; exact hT)]
  subst hS hT
  rfl
theorem cel_ext {a b : List Int} (h : a.length = b.length) : a = b ↔ ∀ i, i < a.length → cel a i = cel b i := by
  constructor
  · rintro rfl i _; rfl
  · intro g
    apply List.ext_getElem h
    intro i h1 h2
    have := g i h1
    simpa [cel, List.getD, h1, h2] using this
theorem seg_ext {a b : List Int} {i k : Nat} (ha : i + k ≤ a.length) (hb : i + k ≤ b.length) : seg a i k = seg b i k ↔ ∀ j, j < k → cel a (i + j) = cel b (i + j) := by
  rw [cel_ext (by rw [seg_len ha, seg_len hb]), seg_len ha]
  constructor
  · intro h j hj
    have := h j hj
    rwa [cel_seg hj, cel_seg hj] at this
  · intro h j hj
    rw [cel_seg hj, cel_seg hj]
    exact h j hj
theorem bvals_seg {x : List Int} (i k : Nat) : ((bvals x).drop i).take k = bvals (seg x i k) := by
  simp [bvals, seg, List.map_drop, List.map_take]
theorem eq_hash (d : Nat) (x y : List Int) (hx : x.length = 8) (hy : y.length = 8) (w : World) : (Op.equalIn (d + 2) 29 (.agg (bvals x).toArray) (.agg (bvals y).toArray)).run Tryz.prog w = .ok (decide (x = y)) w := by
  have := eq_ba 29 8 d Tryz.underlying29 x y w hx hy
  unfold ba at this
  exact this
theorem eq_prf (d : Nat) (x y : List Int) (hx : x.length = 128) (hy : y.length = 128) (w : World) : (Op.equalIn (d + 3) 35 (.agg (bvals x).toArray) (.agg (bvals y).toArray)).run Tryz.prog w = .ok (decide (x = y)) w := by
  have hp : ∀ (z : List Int) (i : Nat) (w : World), (part 29 (bvals z).toArray (i * 8)).run Tryz.prog w = .ok (.agg (bvals (seg z (i * 8) 8)).toArray) w := fun z i w => by
    rw [part_agg Tryz.underlying29 rfl (fun w => Tryz.sizeOf29 w), bvals_seg]
  rw [eq_arr (k := 8) Tryz.underlying35 (fun w => Tryz.sizeOf29 w) (bvals x).toArray (bvals y).toArray (fun i => .agg (bvals (seg x (i * 8) 8)).toArray) (fun i => .agg (bvals (seg y (i * 8) 8)).toArray) (fun i => decide (seg x (i * 8) 8 = seg y (i * 8) 8)) (fun i _ w => hp x i w) (fun i _ w => hp y i w)
    (fun i hi w => eq_hash d _ _ (seg_len (by omega)) (seg_len (by omega)) w) w]
  congr 1
  rw [Bool.eq_iff_iff, List.all_eq_true, decide_eq_true_eq, cel_ext (by omega)]
  constructor
  · intro h i hi
    have := h (i / 8) (by rw [List.mem_range]; omega)
    rw [decide_eq_true_eq, seg_ext (by omega) (by omega)] at this
    have h2 := this (i % 8) (Nat.mod_lt _ (by decide))
    rwa [show i / 8 * 8 + i % 8 = i by omega] at h2
  · intro h i hi
    rw [List.mem_range] at hi
    rw [decide_eq_true_eq, seg_ext (by omega) (by omega)]
    exact fun j hj => h _ (by omega)
def accS : Sch := hS ++ [some 7, some 1]
theorem cla_split : claS = [some 1, some 2] ++ (accS ++ List.replicate 128 none) := by unfold claS accS; simp
theorem acc_cells {r : List Int} (h : r.length = 10) : vals accS r = bvals (seg r 0 8) ++ [.int .i64 (cel r 8), .int .i64 (cel r 9)] := by
  match r, h with
  | [a, b, c, d, e, f, g, i, j, k], _ => rfl
theorem eq_acc (d : Nat) (x y : List Int) (hx : x.length = 10) (hy : y.length = 10) (w : World) : (Op.equalIn (d + 3) 34 (.agg (vals accS x).toArray) (.agg (vals accS y).toArray)).run Tryz.prog w = .ok (decide (x = y)) w := by
  have p0 : ∀ (z : List Int), z.length = 10 → ∀ (w : World), (part 29 (vals accS z).toArray 0).run Tryz.prog w = .ok (.agg (bvals (seg z 0 8)).toArray) w := fun z hz w => by
    rw [part_agg Tryz.underlying29 rfl (fun w => Tryz.sizeOf29 w), acc_cells hz, List.drop_zero, List.take_left' (by rw [bv_len, seg_len (by omega)])]
  have p1 : ∀ (z : List Int), z.length = 10 → ∀ (w : World), (part 3 (vals accS z).toArray 8).run Tryz.prog w = .ok (.int .i64 (cel z 8)) w := fun z hz w => part_int _ 8 _ (by rw [acc_cells hz, List.getElem?_append_right (by rw [bv_len, seg_len (by omega)]; omega), bv_len, seg_len (by omega)]; rfl) w
  have p2 : ∀ (z : List Int), z.length = 10 → ∀ (w : World), (part 3 (vals accS z).toArray 9).run Tryz.prog w = .ok (.int .i64 (cel z 9)) w := fun z hz w => part_int _ 9 _ (by rw [acc_cells hz, List.getElem?_append_right (by rw [bv_len, seg_len (by omega)]; omega), bv_len, seg_len (by omega)]; rfl) w
  have hs : Tryz.prog.stoodInHeld 34 = false := by kernel_rfl
  rw [eq_str Tryz.underlying34 hs (by simp) (vals accS x).toArray (vals accS y).toArray (fun f => if f.offset = 0 then .agg (bvals (seg x 0 8)).toArray else .int .i64 (cel x f.offset)) (fun f => if f.offset = 0 then .agg (bvals (seg y 0 8)).toArray else .int .i64 (cel y f.offset))
    (fun f => if f.offset = 0 then decide (seg x 0 8 = seg y 0 8) else (cel x f.offset == cel y f.offset))]
  · congr 1
    rw [Bool.eq_iff_iff, decide_eq_true_eq, cel_ext (a := x) (b := y) (by omega)]
    simp only [List.all_cons, List.all_nil, Bool.and_true, Bool.and_eq_true, if_true, decide_eq_true_eq, show ¬ (8 : Nat) = 0 by decide, show ¬ (9 : Nat) = 0 by decide, if_false, beq_iff_eq]
    rw [seg_ext (by omega) (by omega)]
    constructor
    · rintro ⟨h1, h2, h3⟩ i hi
      by_cases h8 : i < 8
      · have := h1 i h8; rwa [Nat.zero_add] at this
      · by_cases e : i = 8
        · subst e; exact h2
        · obtain rfl : i = 9 := by omega
          exact h3
    · intro h
      exact ⟨fun j hj => by rw [Nat.zero_add]; exact h j (by omega), h 8 (by omega), h 9 (by omega)⟩
  · intro f hf w
    simp only [List.mem_cons, List.not_mem_nil, or_false] at hf
    rcases hf with rfl | rfl | rfl
    · exact p0 x hx w
    · exact p1 x hx w
    · exact p2 x hx w
  · intro f hf w
    simp only [List.mem_cons, List.not_mem_nil, or_false] at hf
    rcases hf with rfl | rfl | rfl
    · exact p0 y hy w
    · exact p1 y hy w
    · exact p2 y hy w
  · intro f hf w
    simp only [List.mem_cons, List.not_mem_nil, or_false] at hf
    rcases hf with rfl | rfl | rfl
    · exact eq_hash d _ _ (seg_len (by omega)) (seg_len (by omega)) w
    · exact eq_int (d + 1) _ _ w
    · exact eq_int (d + 1) _ _ w
theorem eq_cla (x y : List Int) (hx : x.length = 140) (hy : y.length = 140) (w : World) : (Op.equalIn 10000 37 (.agg (vals claS x).toArray) (.agg (vals claS y).toArray)).run Tryz.prog w = .ok (decide (x = y)) w := by
  have p0 : ∀ (z : List Int), z.length = 140 → ∀ (w : World), (part 3 (vals claS z).toArray 0).run Tryz.prog w = .ok (.int .i64 (cel z 0)) w := fun z hz w => part_int _ 0 _ (vals_get (S := claS) (a := some 1) rfl (by omega)) w
  have p1 : ∀ (z : List Int), z.length = 140 → ∀ (w : World), (part 3 (vals claS z).toArray 1).run Tryz.prog w = .ok (.int .i64 (cel z 1)) w := fun z hz w => part_int _ 1 _ (vals_get (S := claS) (a := some 2) rfl (by omega)) w
  have p2 : ∀ (z : List Int), z.length = 140 → ∀ (w : World), (part 34 (vals claS z).toArray 2).run Tryz.prog w = .ok (.agg (vals accS (seg z 2 10)).toArray) w := fun z hz w => by
    rw [part_agg Tryz.underlying34 rfl (fun w => Tryz.sizeOf34 w), cla_split, seg_vals [some 1, some 2] accS (List.replicate 128 none) z 2 10 rfl rfl (by omega)]
  have p3 : ∀ (z : List Int), z.length = 140 → ∀ (w : World), (part 35 (vals claS z).toArray 12).run Tryz.prog w = .ok (.agg (bvals (seg z 12 128)).toArray) w := fun z hz w => by
    have e : claS = ([some 1, some 2] ++ accS) ++ (List.replicate 128 none ++ []) := by rw [cla_split]; simp
    rw [part_agg Tryz.underlying35 rfl (fun w => Tryz.sizeOf35 w), e, seg_vals ([some 1, some 2] ++ accS) (List.replicate 128 none) [] z 12 128 rfl (List.length_replicate ..) (by omega), vals_byt 128 _ (seg_len (by omega))]
  have hs : Tryz.prog.stoodInHeld 37 = false := by kernel_rfl
  rw [eq_str Tryz.underlying37 hs (by simp) (vals claS x).toArray (vals claS y).toArray
    (fun f => if f.offset = 2 then .agg (vals accS (seg x 2 10)).toArray else if f.offset = 12 then .agg (bvals (seg x 12 128)).toArray else .int .i64 (cel x f.offset))
    (fun f => if f.offset = 2 then .agg (vals accS (seg y 2 10)).toArray else if f.offset = 12 then .agg (bvals (seg y 12 128)).toArray else .int .i64 (cel y f.offset))
    (fun f => if f.offset = 2 then decide (seg x 2 10 = seg y 2 10) else if f.offset = 12 then decide (seg x 12 128 = seg y 12 128) else (cel x f.offset == cel y f.offset))]
  · congr 1
    rw [Bool.eq_iff_iff, decide_eq_true_eq, cel_ext (a := x) (b := y) (by omega)]
    simp only [List.all_cons, List.all_nil, Bool.and_true, Bool.and_eq_true, if_true, decide_eq_true_eq, show ¬ (0 : Nat) = 2 by decide, show ¬ (0 : Nat) = 12 by decide, show ¬ (1 : Nat) = 2 by decide, show ¬ (1 : Nat) = 12 by decide, show ¬ (12 : Nat) = 2 by decide, if_false, beq_iff_eq]
    rw [seg_ext (by omega) (by omega), seg_ext (by omega) (by omega)]
    constructor
    · rintro ⟨h0, h1, h2, h3⟩ i hi
      by_cases e0 : i = 0
      · subst e0; exact h0
      by_cases e1 : i = 1
      · subst e1; exact h1
      by_cases e2 : i < 12
      · have := h2 (i - 2) (by omega)
        rwa [show 2 + (i - 2) = i by omega] at this
      · have := h3 (i - 12) (by omega)
        rwa [show 12 + (i - 12) = i by omega] at this
    · intro h
      exact ⟨h 0 (by omega), h 1 (by omega), fun j hj => h _ (by omega), fun j hj => h _ (by omega)⟩
  · intro f hf w
    simp only [List.mem_cons, List.not_mem_nil, or_false] at hf
    rcases hf with rfl | rfl | rfl | rfl
    · exact p0 x hx w
    · exact p1 x hx w
    · exact p2 x hx w
    · exact p3 x hx w
  · intro f hf w
    simp only [List.mem_cons, List.not_mem_nil, or_false] at hf
    rcases hf with rfl | rfl | rfl | rfl
    · exact p0 y hy w
    · exact p1 y hy w
    · exact p2 y hy w
    · exact p3 y hy w
  · intro f hf w
    simp only [List.mem_cons, List.not_mem_nil, or_false] at hf
    rcases hf with rfl | rfl | rfl | rfl
    · exact eq_int 9998 _ _ w
    · exact eq_int 9998 _ _ w
    · exact eq_acc 9996 _ _ (seg_len (by omega)) (seg_len (by omega)) w
    · exact eq_prf 9996 _ _ (seg_len (by omega)) (seg_len (by omega)) w
theorem eq_pt (x y : List Int) (hx : x.length = 9) (hy : y.length = 9) (w : World) : (Op.equalIn 10000 61 (.agg (vals ptS x).toArray) (.agg (vals ptS y).toArray)).run Tryz.prog w = .ok (decide (x = y)) w := by
  have hc : ∀ (z : List Int), z.length = 9 → vals ptS z = bvals (seg z 0 8) ++ [.int .i64 (cel z 8)] := fun z hz => by
    match z, hz with
    | [a, b, c, d, e, f, g, i, j], _ => rfl
  have p0 : ∀ (z : List Int), z.length = 9 → ∀ (w : World), (part 29 (vals ptS z).toArray 0).run Tryz.prog w = .ok (.agg (bvals (seg z 0 8)).toArray) w := fun z hz w => by
    rw [part_agg Tryz.underlying29 rfl (fun w => Tryz.sizeOf29 w), hc z hz, List.drop_zero, List.take_left' (by rw [bv_len, seg_len (by omega)])]
  have p1 : ∀ (z : List Int), z.length = 9 → ∀ (w : World), (part 3 (vals ptS z).toArray 8).run Tryz.prog w = .ok (.int .i64 (cel z 8)) w := fun z hz w => part_int _ 8 _ (by rw [hc z hz, List.getElem?_append_right (by rw [bv_len, seg_len (by omega)]; omega), bv_len, seg_len (by omega)]; rfl) w
  have hs : Tryz.prog.stoodInHeld 61 = false := by kernel_rfl
  rw [eq_str Tryz.underlying61 hs (by simp) (vals ptS x).toArray (vals ptS y).toArray (fun f => if f.offset = 0 then .agg (bvals (seg x 0 8)).toArray else .int .i64 (cel x f.offset)) (fun f => if f.offset = 0 then .agg (bvals (seg y 0 8)).toArray else .int .i64 (cel y f.offset))
    (fun f => if f.offset = 0 then decide (seg x 0 8 = seg y 0 8) else (cel x f.offset == cel y f.offset))]
  · congr 1
    rw [Bool.eq_iff_iff, decide_eq_true_eq, cel_ext (a := x) (b := y) (by omega)]
    simp only [List.all_cons, List.all_nil, Bool.and_true, Bool.and_eq_true, if_true, decide_eq_true_eq, show ¬ (8 : Nat) = 0 by decide, if_false, beq_iff_eq]
    rw [seg_ext (by omega) (by omega)]
    constructor
    · rintro ⟨h1, h2⟩ i hi
      by_cases h8 : i < 8
      · have := h1 i h8; rwa [Nat.zero_add] at this
      · obtain rfl : i = 8 := by omega
        exact h2
    · intro h
      exact ⟨fun j hj => by rw [Nat.zero_add]; exact h j (by omega), h 8 (by omega)⟩
  · intro f hf w
    simp only [List.mem_cons, List.not_mem_nil, or_false] at hf
    rcases hf with rfl | rfl
    · exact p0 x hx w
    · exact p1 x hx w
  · intro f hf w
    simp only [List.mem_cons, List.not_mem_nil, or_false] at hf
    rcases hf with rfl | rfl
    · exact p0 y hy w
    · exact p1 y hy w
  · intro f hf w
    simp only [List.mem_cons, List.not_mem_nil, or_false] at hf
    rcases hf with rfl | rfl
    · exact eq_hash 9997 _ _ (seg_len (by omega)) (seg_len (by omega)) w
    · exact eq_int 9998 _ _ w
end Go.Proofs.YtffaddefnpkcgaaGreatDoor

