/-
  Side.
-/
import Derived.Test.YtmcmdpbdipgahaaR6
namespace Go.Proofs.Ytmcmdpbdipgahaa
open Go.RowKit Go.Maps
set_option maxRecDepth 100000
theorem results_sd {fn : Func} {p u : Tmp} (h : fn.results = #[.cell p 53, .tmp u]) (tmps : Array Value) (w : World) (g : Nat) (cs : List Value) (v : Value) (hp : tmps.getD p undef = .pointer (some ⟨g, 0, none⟩)) (hr : w.rangeAt g 0 cs) (hi : (Try.prog.info? 53).map (·.size) = some cs.length) (hu : tmps.getD u undef = v) :
    (results fn tmps).run Try.prog w = .ok (.tuple #[.agg cs.toArray, v]) w := by
  rw [results_cell_tmp h, hp, hu]
  simp only [asAddr, Sem.run_pure, Result.andThen_ok, run_loadVar_mid w g 0 53 cs _ hr Try.underlying53 rfl hi]
theorem step_allocS {w : World} {ops : Array Oper} {o : Oper} {a : Act} {K : Act → World → Prop} {Q : Exit → Act → World → Prop} {E : Prop} (hgd : o.guard = none) (ho : o.op = .alloc 53)
    (h : K (a.put o.dst (.pointer (some ⟨w.heap.size, 0, none⟩))) (w.alloc (Obj.cells (sdV sm0).toArray 53))) : if Region.wanted o (yielded ops a.tmps) = true then Oper.wp Try.prog o a w K Q else E := by
  have hw : Region.wanted o (yielded ops a.tmps) = true := by simp [Region.wanted, hgd]
  have hz : ∀ w, (zeroValue 53).run Try.prog w = .ok (.agg (sdV sm0).toArray) w := z53
  rw [if_pos hw]
  unfold Oper.wp execOp
  simp [ho, go_sem, hz]
  exact h
theorem step_storeR {w : World} {ops : Array Oper} {o : Oper} {a : Act} {K : Act → World → Prop} {Q : Exit → Act → World → Prop} {E : Prop} (hgd : o.guard = none) (ty : TypeId) (x y : Operand) (ho : o.op = .store ty x y)
    (hd : o.dst = none) (g : Nat) (cells : Array Value) (hx : a.eval x = .pointer (some ⟨g, 0, none⟩)) (hy : a.eval y = .agg cells)
    (t : TypeId) (old : Array Value) (hg : w.heap[g]? = some (.cells old t (0, 0))) (hi : (Try.prog.info? ty).map (·.size) = some cells.size)
    (hold : old.size = cells.size) (h1 : cells.all (·.oneCell') = true)
    (h : K a (w.setRow g cells)) : if Region.wanted o (yielded ops a.tmps) = true then Oper.wp Try.prog o a w K Q else E := by
  have hw : Region.wanted o (yielded ops a.tmps) = true := by simp [Region.wanted, hgd]
  rw [if_pos hw]
  exact wp_store_row ty x y ho g cells hx hy t old hg hi hold h1 (by rw [hd]; exact h)
/-- the record of a number, or the empty one -/
def atS (xs : List Sm) (i : Int) : Sm := if 0 ≤ i ∧ i < xs.length then xs.getD i.toNat sm0 else sm0
theorem fn_get (xs : List Sm) (i : Int) : (fnS xs i).getD z0 = sdV (atS xs i) ∧ (fnS xs i).isSome = decide (0 ≤ i ∧ i < xs.length) := by
  unfold fnS atS
  by_cases h : 0 ≤ i ∧ i < xs.length
  · rw [if_pos h, if_pos h, decide_eq_true h]; exact ⟨rfl, rfl⟩
  · rw [if_neg h, if_neg h, decide_eq_false h]; exact ⟨rfl, rfl⟩
theorem sm0_at (w : World) (P : Nat → Prop) : SdAt w P sm0 := ⟨rf0_at _ _ _, rf0_at _ _ _, rf0_at _ _ _, rf0_at _ _ _⟩
theorem RegM.at {w : World} {S : Nat} {m : Option Nat} {xs : List Sm} (h : RegM w S m xs) (i : Int) : SdAt w (isP S m) (atS xs i) := by
  unfold atS
  by_cases hi : 0 ≤ i ∧ i < xs.length
  · rw [if_pos hi]
    refine h.rows _ ?_
    rw [List.getD_eq_getElem?_getD, List.getElem?_eq_getElem (by omega)]
    exact List.getElem_mem (by omega)
  · rw [if_neg hi]
    exact sm0_at _ _
theorem RegM.look {w : World} {S : Nat} {m : Option Nat} {xs : List Sm} (h : RegM w S m xs) {i : Int} (hi : wfI i) : (Instr.lookup 74 (.map m) (.int .i64 i) true).run Try.prog w = .ok (.tuple #[.agg (sdV (atS xs i)).toArray, .bool (decide (0 ≤ i ∧ i < xs.length))]) w := by
  have hm := h.map
  cases m with
  | none =>
    have hm : xs = [] := hm
    subst hm
    have := get_nilV w hi
    rw [show atS [] i = sm0 from if_neg (by simp), decide_eq_false (by simp)]
    exact this
  | some b =>
    have := MapV.get hm hi
    rw [(fn_get xs i).1, (fn_get xs i).2] at this
    exact this
attribute [local irreducible] sdV MapV z0 fnS atS
set_option maxHeartbeats 4000000 in
theorem rSide (S : Nat) (m : Option Nat) (xs : List Sm) (i : Int) (w : World) (h : RegM w S m xs) (hi : wfI i) :
    Calls Try.prog 16 #[.pointer (some ⟨S, 0, none⟩), .int .i64 i] w fun e w' => ∃ x', e = .returned (.tuple #[.agg (sdV x').toArray, .bool (decide (0 ≤ i ∧ i < xs.length))]) ∧ x'.con = (atS xs i).con ∧ SdAt w' (fun q => q < w.heap.size) x' ∧ Below w.heap.size w w' := by
  obtain ⟨N, hN⟩ : ∃ N, w.heap.size = N := ⟨_, rfl⟩
  have HN := Lib.hid hN
  obtain ⟨v, hv⟩ : ∃ v, w.alloc (Obj.cells (sdV sm0).toArray 53) = v := ⟨_, rfl⟩
  have RC : Hid (BL v N (sdV sm0) 53) := Lib.hid (by subst hv hN; exact heap_alloc_last w _)
  have BV : Hid (Below N w v) := Lib.hid (by subst hv hN; exact (Below.refl _ w).alloc (Nat.le_refl _) _)
  have VS : Hid (v.heap.size = N + 1) := Lib.hid (by subst hv hN; show _ = _; rw [World.size_alloc])
  have hg := h.grow (show Below w.heap.size w v by rw [hN]; exact BV.out)
  have lk := hg.look hi
  have c0 := hg.c0
  have HA : Hid (SdAt v (isP S m) (atS xs i)) := Lib.hid (hg.at i)
  generalize decide (0 ≤ i ∧ i < xs.length) = D at *
  obtain ⟨x, hx⟩ : ∃ x, atS xs i = x := ⟨_, rfl⟩
  rw [hx] at lk HA ⊢
  have hz : ∀ w, (zeroValue 53).run Try.prog w = .ok (.agg (sdV sm0).toArray) w := z53
  clear h hg hi hx
  go_enter Try.func16, Try.ntmps16
  go_upto_region 3 with (fail)
  (try rw [hv])
  clear hv
  have sx : Hid ((sdV x).length = 42) := Lib.hid (sd_len x)
  have s0 : Hid ((sdV sm0).length = 42) := Lib.hid (sd_len sm0)
  go_upto_region 4 with (first
    | (refine wpList_store_rowTo rfl 53 (.tmp 6) (.tmp 18) rfl rfl v.heap.size (sdV x).toArray rfl rfl 53 _ (heap_alloc_last v _) (szA sz53 sx.out) (by rw [List.size_toArray, List.size_toArray, sx.out, s0.out]) (all_oneCell_toArray (sd_one x)) ?_)
    | fail)
  obtain ⟨M, hM⟩ : ∃ M, v.heap.size = M := ⟨_, rfl⟩
  have R1 : Hid (BL ((v.alloc (Obj.cells (sdV sm0).toArray 53)).setRow v.heap.size (sdV x).toArray) v.heap.size (sdV x) 53) := Lib.hid (setRow_heap _ _ _ _ _ _ (heap_alloc_last v _))
  have B1 : Hid (Below M v ((v.alloc (Obj.cells (sdV sm0).toArray 53)).setRow M (sdV x).toArray)) := Lib.hid (by subst hM; exact below_setRow ((Below.refl _ v).alloc (Nat.le_refl _) _) (Nat.le_refl _) _)
  rw [hM] at R1 ⊢
  generalize (v.alloc (Obj.cells (sdV sm0).toArray 53)).setRow M (sdV x).toArray = u at *
  have B1 : Hid (Below v.heap.size v u) := Lib.hid (by rw [hM]; exact B1.out)
  have HU : Hid (SdAt u (isP S m) x) := Lib.hid (HA.out.grow B1.out)
  have BU : Hid (Below N w u) := Lib.hid (BV.out.trans (B1.out.mono (by have := VS.out; omega)))
  have RU : Hid (BL u N (sdV sm0) 53) := Lib.hid (bl_keep RC.out (B1.out.block N (by have := VS.out; omega)))
  have NU : Hid (N < u.heap.size) := Lib.hid (bl_lt RU.out)
  clear lk c0 HA hM
  go_wp2_with (first
    | (refine wpList_load_midG (by rfl) 53 (.tmp 6) rfl M 0 rfl (sdV x) _ (range_of R1.out) Try.underlying53 rfl (szL sz53 sx.out) ?_)
    | fail)
  refine (kOwn _ x u HU.out).mono ?_
  rintro e w1 ⟨x', rfl, o1, o2, o3⟩
  have O1 := Lib.hid o1
  have O2 := Lib.hid o2
  have O3 := Lib.hid o3
  have RW : Hid (BL w1 N (sdV sm0) 53) := Lib.hid (bl_keep RU.out (o3.block N NU.out))
  have sx' : Hid ((sdV x').length = 42) := Lib.hid (sd_len x')
  clear o1 o2 o3
  go_wp2_with (first
    | (refine wpList_store_rowTo rfl 53 (.tmp 4) (.tmp 21) rfl rfl N (sdV x').toArray rfl rfl 53 _ RW.out (szA sz53 sx'.out) (by rw [List.size_toArray, List.size_toArray, sx'.out, s0.out]) (all_oneCell_toArray (sd_one x')) ?_)
    | fail)
  refine bodyPost_ret (v := .tuple #[.agg (sdV x').toArray, .bool D]) (results_sd rfl _ _ N _ _ rfl (range_of (setRow_heap _ _ _ _ _ _ RW.out)) (szL sz53 sx'.out) rfl) rfl ⟨x', rfl, O1.out, ?_, ?_⟩
  · rw [HN.out]
    exact O2.out.keep (by simp) (fun q _ hq => setRow_other _ _ _ _ fun e => hq (by rw [e]; exact NU.out)) fun q _ hq => by have := NU.out; omega
  · rw [HN.out]
    exact below_setRow (BU.out.trans (O3.out.mono (Nat.le_of_lt NU.out))) (Nat.le_refl _) _
end Go.Proofs.Ytmcmdpbdipgahaa
