/-
  Get.
-/
import Derived.Test.YtdggnmlhgglccaaU3
import Derived.Laws.ResultCell
import Derived.OrdersHeld
import Derived.Deep.Cut
namespace Go.Proofs.Ytdggnmlhgglccaa
open Go.RowKit
set_option maxRecDepth 100000
theorem results_co {fn : Func} {p u : Tmp} (h : fn.results = #[.cell p 47, .tmp u]) (tmps : Array Value) (w : World) (g : Nat) (cs : List Value) (v : Value) (hp : tmps.getD p undef = .pointer (some ⟨g, 0, none⟩)) (hr : w.rangeAt g 0 cs) (hi : (Try.prog.info? 47).map (·.size) = some cs.length) (hu : tmps.getD u undef = v) :
    (results fn tmps).run Try.prog w = .ok (.tuple #[.agg cs.toArray, v]) w := by
  rw [results_cell_tmp h, hp, hu]
  simp only [asAddr, Sem.run_pure, Result.andThen_ok, run_loadVar_mid w g 0 47 cs _ hr Try.underlying47 rfl hi]
theorem cn_one (c : Cn) : ∀ v ∈ cnV c, v.oneCell' = true := fun v hv => by
  rcases List.mem_append.1 hv with g | g
  · exact vals_one _ _ v g
  · rw [List.mem_singleton.1 g]; rfl
theorem cn0_len : cn0.r.length = 10 := rfl
theorem pt_one (p : List Int) : ∀ v ∈ ptV p, v.oneCell' = true := vals_one _ _
theorem szC {c : Cn} (h : c.r.length = 10) : (Try.prog.info? 47).map (·.size) = some (cnV c).length := by rw [cnV_len h]; exact i47
theorem szCA {c : Cn} (h : c.r.length = 10) : (Try.prog.info? 47).map (·.size) = some (cnV c).toArray.size := by rw [List.size_toArray]; exact szC h
theorem ptV_len {p : List Int} (h : okP p) : (ptV p).length = 9 := by unfold ptV; rw [vals_len (okT_len h)]; rfl
theorem szP {p : List Int} (h : okP p) : (Try.prog.info? 38).map (·.size) = some (ptV p).length := by rw [ptV_len h]; exact i38
theorem szCC {c d : Cn} (h : c.r.length = 10) (g : d.r.length = 10) : (cnV c).toArray.size = (cnV d).toArray.size := by rw [List.size_toArray, List.size_toArray, cnV_len h, cnV_len g]
theorem step_allocC {w : World} {ops : Array Oper} {o : Oper} {a : Act} {K : Act → World → Prop} {Q : Exit → Act → World → Prop} {E : Prop} (hgd : o.guard = none) (ho : o.op = .alloc 47)
    (h : K (a.put o.dst (.pointer (some ⟨w.heap.size, 0, none⟩))) (w.alloc (Obj.cells (cnV cn0).toArray 47))) : if Region.wanted o (yielded ops a.tmps) = true then Oper.wp Try.prog o a w K Q else E := by
  have hw : Region.wanted o (yielded ops a.tmps) = true := by simp [Region.wanted, hgd]
  have hz : ∀ w, (zeroValue 47).run Try.prog w = .ok (.agg (cnV cn0).toArray) w := z47
  rw [if_pos hw]
  unfold Oper.wp execOp
  simp [ho, go_sem, hz]
  exact h
theorem step_storeR {w : World} {ops : Array Oper} {o : Oper} {a : Act} {K : Act → World → Prop} {Q : Exit → Act → World → Prop} {E : Prop} (hgd : o.guard = none) (ty : TypeId) (x y : Operand) (ho : o.op = .store ty x y)
    (hd : o.dst = none) (g : Nat) (cells : Array Value) (hx : a.eval x = .pointer (some ⟨g, 0, none⟩)) (hy : a.eval y = .agg cells)
    (t : TypeId) (old : Array Value) (hg : w.heap[g]? = some (.cells old t (0, 0))) (hi : (Try.prog.info? ty).map (·.size) = some cells.size)
    (hold : old.size = cells.size) (h1 : cells.all (·.oneCell') = true)
    (h : K a (w.setRow g cells)) : if Region.wanted o (yielded ops a.tmps) = true then Oper.wp Try.prog o a w K Q else E := by
  have hw : Region.wanted o (yielded ops a.tmps) = true := by simp [Region.wanted, hgd]
  rw [if_pos hw]
  exact wp_store_row ty x y ho g cells hx hy t old hg hi hold h1 (by rw [hd]; exact h)
attribute [local irreducible] ptV cnV zeros
set_option maxHeartbeats 4000000 in
theorem uGet (S : Nat) (L : List Stp) (P : Nat → Prop) (p : List Int) (w : World) (h : SetIs w S L P) (hp : okP p) :
    Calls Try.prog 21 #[.pointer (some ⟨S, 0, none⟩), .agg (ptV p).toArray] w fun e w' => e = .returned (.tuple #[.agg (cnV ((setF L p).getD cn0)).toArray, .bool (setF L p).isSome]) ∧ Below w.heap.size w w' := by
  obtain ⟨m, A, c, h⟩ := h
  obtain ⟨N, hN⟩ : ∃ N, w.heap.size = N := ⟨_, rfl⟩
  have HN := Lib.hid hN
  have LK : ∀ w', (∀ q, q < N → w'.heap[q]? = w.heap[q]?) → (Instr.lookup 67 (.map m) (.agg (ptV p).toArray) true).run Try.prog w' = .ok (.tuple #[.agg (cnV ((setF L p).getD cn0)).toArray, .bool (setF L p).isSome]) w' ∧ ((setF L p).getD cn0).r.length = 10 := fun w' hw => by
    have hm := h.map
    cases m with
    | none =>
      have hm : L = [] := hm
      subst hm
      exact ⟨get_nilC w' hp, cn0_len⟩
    | some b => exact (hm.1.keep (hw b (by rw [← hN]; exact h.lt b hm.2))).get hp
  have C0 : Hid (∀ w' : World, (∀ q, q < N → w'.heap[q]? = w.heap[q]?) → w'.cell? ⟨S, 0, none⟩ = some (.map m)) := fun w' hw => (World.cell?_of_block (w := w) (a := ⟨S, 0, none⟩) (hw S (by rw [← hN]; exact h.lt S h.inS))).trans h.c0
  have CL := Lib.hid (LK w fun _ _ => rfl).2
  have LK := Lib.hid fun w' hw => (LK w' hw).1
  generalize (setF L p).getD cn0 = C at *
  generalize (setF L p).isSome = D at *
  have hz : ∀ w, (zeroValue 47).run Try.prog w = .ok (.agg (cnV cn0).toArray) w := z47
  have HP := Lib.hid hp
  clear h hp
  obtain ⟨v, hv⟩ : ∃ v, ((w.alloc (Obj.cells (ptV p).toArray 38)).alloc (Obj.cells (cnV cn0).toArray 47)) = v := ⟨_, rfl⟩
  have RP : Hid (BL v N (ptV p) 38) := by
    subst hv hN
    exact bl_keep (heap_alloc_last w _) (Below.heap_alloc _ _ _ (by simp))
  have RC : Hid (BL v (N + 1) (cnV cn0) 47) := by
    subst hv hN
    have := heap_alloc_last (w.alloc (Obj.cells (ptV p).toArray 38)) (Obj.cells (cnV cn0).toArray 47)
    rw [World.size_alloc] at this
    exact this
  have BV : Hid (Below N w v) := by subst hv hN; exact ((Below.refl _ w).alloc (Nat.le_refl _) _).alloc (by simp) _
  have VS : Hid (v.heap.size = N + 2) := by subst hv hN; show _ = _; rw [World.size_alloc, World.size_alloc]
  go_enter Try.func21, Try.ntmps21
  go_upto_region 3 with (fail)
  (try rw [hv])
  have BD : Hid (Below N w v.drew) := Lib.hid BV.out.drew
  have RPd : Hid (BL v.drew N (ptV p) 38) := RP
  have RCd : Hid (BL v.drew (N + 1) (cnV cn0) 47) := RC
  have VD : Hid (v.drew.heap.size = N + 2) := VS
  refine wp_region_held_drew (S := (fun w' : World => ∀ q, q < N + 2 → w'.heap[q]? = v.heap[q]?)) (by kernel_rfl) (by exact fun _ _ => rfl) (fun hHeld => ?_)
  refine wpAnyH_take (i := 0) (v := ?_) rfl (by kernel_rfl) (by kernel_rfl) (by kernel_rfl) (fun _ _ _ h => h) (Or.inl ⟨by rfl, ?_⟩) (by assumption) ?_
  rotate_left
  · (intro w hSw; (try dsimp only at hSw); go_simp; try with_reducible rfl)
  simp only [Act.put, List.getElem_toArray, List.getElem_cons_zero, List.setIfInBounds_toArray, List.set_cons_zero, List.set_cons_succ]
  refine wpAnyH_take (i := 1) (v := ?_) rfl (by kernel_rfl) (by kernel_rfl) (by kernel_rfl) (fun _ _ _ h => h) (Or.inl ⟨by rfl, ?_⟩) (by assumption) ?_
  rotate_left
  · (intro w hSw; (try dsimp only at hSw); go_simp; try with_reducible rfl)
  simp only [Act.put, List.getElem_toArray, List.getElem_cons_succ, List.getElem_cons_zero, List.setIfInBounds_toArray, List.set_cons_zero, List.set_cons_succ]
  refine wpAnyH_take (i := 2) (v := ?_) rfl (by kernel_rfl) (by kernel_rfl) (by kernel_rfl) (fun _ _ _ h => h) (Or.inl ⟨by rfl, ?_⟩) (by assumption) ?_
  rotate_left
  · (intro w hSw; (try dsimp only at hSw); go_simp; try with_reducible rfl)
  simp only [Act.put, List.getElem_toArray, List.getElem_cons_succ, List.getElem_cons_zero, List.setIfInBounds_toArray, List.set_cons_zero, List.set_cons_succ]
  refine wpAnyH_take (i := 3) (v := ?_) rfl (by kernel_rfl) (by kernel_rfl) (by kernel_rfl) (fun _ _ _ h => h) (Or.inl ⟨by rfl, ?_⟩) (by assumption) ?_
  rotate_left
  · (intro w hSw; (try dsimp only at hSw); have c0 := C0.out w (fun q hq => (hSw q (by omega)).trans (BV.out.block q hq)); go_simp; try with_reducible rfl)
  simp only [Act.put, List.getElem_toArray, List.getElem_cons_succ, List.getElem_cons_zero, List.setIfInBounds_toArray, List.set_cons_zero, List.set_cons_succ]
  refine wpAnyH_take (i := 4) rfl (by kernel_rfl) (by kernel_rfl) (by kernel_rfl) (fun _ _ _ h => h) (yieldsIf_load_mid (by rfl) 38 (.tmp 3) rfl N 0 rfl (ptV p) _ (fun w h => range_keep1 (range_of RP.out) (h N (by omega))) Try.underlying38 rfl (szP HP.out)) (by assumption) ?_
  simp only [Act.put, List.getElem_toArray, List.getElem_cons_succ, List.getElem_cons_zero, List.setIfInBounds_toArray, List.set_cons_zero, List.set_cons_succ]
  refine wpAnyH_take (i := 5) (v := ?_) rfl (by kernel_rfl) (by kernel_rfl) (by kernel_rfl) (fun _ _ _ h => h) (Or.inl ⟨by rfl, ?_⟩) (by assumption) ?_
  rotate_left
  · (intro w hSw; (try dsimp only at hSw); have lk := LK.out w (fun q hq => (hSw q (by omega)).trans (BV.out.block q hq)); go_simp; try with_reducible rfl)
  simp only [Act.put, List.getElem_toArray, List.getElem_cons_succ, List.getElem_cons_zero, List.setIfInBounds_toArray, List.set_cons_zero, List.set_cons_succ]
  refine wpAnyH_take (i := 6) (v := ?_) rfl (by kernel_rfl) (by kernel_rfl) (by kernel_rfl) (fun _ _ _ h => h) (Or.inl ⟨by rfl, ?_⟩) (by assumption) ?_
  rotate_left
  · (intro w hSw; (try dsimp only at hSw); go_simp; try with_reducible rfl)
  simp only [Act.put, List.getElem_toArray, List.getElem_cons_succ, List.getElem_cons_zero, List.setIfInBounds_toArray, List.set_cons_zero, List.set_cons_succ]
  refine wpAnyH_take (i := 7) (v := ?_) rfl (by kernel_rfl) (by kernel_rfl) (by kernel_rfl) (fun _ _ _ h => h) (Or.inl ⟨by rfl, ?_⟩) (by assumption) ?_
  rotate_left
  · (intro w hSw; (try dsimp only at hSw); go_simp; try with_reducible rfl)
  simp only [Act.put, List.getElem_toArray, List.getElem_cons_succ, List.getElem_cons_zero, List.setIfInBounds_toArray, List.set_cons_zero, List.set_cons_succ]
  refine wpAnyH_take (i := 8) (v := ?_) rfl (by kernel_rfl) (by kernel_rfl) (by kernel_rfl) (fun _ _ _ h => h) (Or.inl ⟨by rfl, ?_⟩) (by assumption) ?_
  rotate_left
  · (intro w hSw; (try dsimp only at hSw); go_simp; try with_reducible rfl)
  simp only [Act.put, List.getElem_toArray, List.getElem_cons_succ, List.getElem_cons_zero, List.setIfInBounds_toArray, List.set_cons_zero, List.set_cons_succ]
  refine wpAnyH_ready (rs := [9]) (by kernel_rfl) (by simp) ?_
  refine AllReadyH.cons rfl (fun K hK => ?_) AllReadyH.nil
  refine step_allocC rfl rfl ?_
  have B2 : Hid (Below N w (v.drew.alloc (Obj.cells (cnV cn0).toArray 47))) := Lib.hid (BD.out.alloc (by have := VD.out; omega) _)
  have R2 : Hid (BL (v.drew.alloc (Obj.cells (cnV cn0).toArray 47)) (N + 2) (cnV cn0) 47) := by rw [← VD.out]; exact heap_alloc_last _ _
  have Q2 : Hid (BL (v.drew.alloc (Obj.cells (cnV cn0).toArray 47)) (N + 1) (cnV cn0) 47) := Lib.hid (bl_keep RCd.out (Below.heap_alloc _ _ _ (by rw [VD.out]; omega)))
  have H2 : ∀ q, q < N + 2 → (v.drew.alloc (Obj.cells (cnV cn0).toArray 47)).heap[q]? = v.heap[q]? := fun q hq => Below.heap_alloc v.drew _ q (by rw [VD.out]; exact hq)
  rw [VD.out]
  generalize v.drew.alloc (Obj.cells (cnV cn0).toArray 47) = v2 at *
  clear hHeld
  refine hK.out _ _ H2 (fun hHeld => ?_)
  clear hK K
  refine wpAnyH_ready (rs := [10]) (by kernel_rfl) (by simp) ?_
  refine AllReadyH.cons rfl (fun K hK => ?_) AllReadyH.nil
  refine step_storeR rfl 47 (.tmp 6) (.tmp 18) rfl rfl (N + 2) (cnV C).toArray rfl rfl 47 _ R2.out (szCA CL.out) (szCC cn0_len CL.out) (all_oneCell_toArray (cn_one C)) ?_
  have B3 : Hid (Below N w (v2.setRow (N + 2) (cnV C).toArray)) := Lib.hid (below_setRow B2.out (by omega) _)
  have R3 : Hid (BL (v2.setRow (N + 2) (cnV C).toArray) (N + 2) (cnV C) 47) := Lib.hid (setRow_heap _ _ _ _ _ _ R2.out)
  have Q3 : Hid (BL (v2.setRow (N + 2) (cnV C).toArray) (N + 1) (cnV cn0) 47) := Lib.hid (bl_keep Q2.out (setRow_other _ _ _ _ (by omega)))
  have H3 : ∀ q, q < N + 2 → (v2.setRow (N + 2) (cnV C).toArray).heap[q]? = v.heap[q]? := fun q hq => (setRow_other _ _ _ _ (by omega)).trans (H2 q hq)
  generalize v2.setRow (N + 2) (cnV C).toArray = v3 at *
  clear hHeld
  refine hK.out _ _ H3 (fun hHeld => ?_)
  clear hK K
  refine wpAnyH_take (i := 11) (v := ?_) rfl (by kernel_rfl) (by kernel_rfl) (by kernel_rfl) (fun _ _ _ h => h) (Or.inl ⟨by rfl, ?_⟩) (by assumption) ?_
  rotate_left
  · (intro w hSw; (try dsimp only at hSw); go_simp; try with_reducible rfl)
  simp only [Act.put, List.getElem_toArray, List.getElem_cons_succ, List.getElem_cons_zero, List.setIfInBounds_toArray, List.set_cons_zero, List.set_cons_succ]
  clear hHeld
  refine wpAnyH_done (by kernel_rfl) ?_ _
  go_wp2_with (first
    | (refine wpList_load_midG (by rfl) 47 (.tmp 6) rfl (N + 2) 0 rfl (cnV C) _ (range_of R3.out) Try.underlying47 rfl (szC CL.out) ?_)
    | (refine wpList_store_rowTo rfl 47 (.tmp 4) (.tmp 20) rfl rfl (N + 1) (cnV C).toArray rfl rfl 47 _ Q3.out (szCA CL.out) (szCC cn0_len CL.out) (all_oneCell_toArray (cn_one C)) ?_)
    | fail)
  exact bodyPost_ret (v := .tuple #[.agg (cnV C).toArray, .bool D]) (results_co rfl _ _ (N + 1) _ _ rfl (range_of (setRow_heap _ _ _ _ _ _ Q3.out)) (szC CL.out) rfl) rfl ⟨rfl, by rw [HN.out]; exact below_setRow B3.out (by omega) _⟩
end Go.Proofs.Ytdggnmlhgglccaa
