/-
  Back: the walk.
-/
import Derived.Test.YtdggnmlhgglccaaU17
namespace Go.Proofs.Ytdggnmlhgglccaa
open Go.RowKit
set_option maxRecDepth 100000
attribute [local go_sem] Oper.semAt_some
theorem z75 (w : World) : (zeroValue 75).run Try.prog w = .ok (.agg (stV stD).toArray) w := by kernel_rfl
attribute [local irreducible] ptV cnV zeros MapC stV
section
variable {F : Fence} {n : Nat} {ops : Array Oper} {rest : List Oper} {o : Oper} {a : Act} {w : World} {Q : Exit → Act → World → Prop}
theorem wpListIn_allocT (hgd : o.guard = none) (ty : TypeId) (cs : Array Value) (hz : ∀ w, (zeroValue ty).run Try.prog w = .ok (.agg cs) w) (ho : o.op = .alloc ty)
    (h : wpListIn F n Try.prog ops Q rest (a.put o.dst (.pointer (some ⟨w.heap.size, 0, none⟩))) (w.alloc (Obj.cells cs ty))) : wpListIn F n Try.prog ops Q (o :: rest) a w := by
  refine wpListIn_plain hgd fun K hK' => ?_
  unfold Oper.wpIn
  refine ⟨?_, ?_⟩
  · simp [Oper.about, ho]
  · rw [Oper.semAt_plain F _ _ (by rw [ho]; intro c hc'; cases hc')]
    unfold execOp
    simp [ho, go_sem, hz]
    exact hK' _ _ h
theorem wpListIn_storeT (hgd : o.guard = none) (ty : TypeId) (x y : Operand) (ho : o.op = .store ty x y)
    (g : Nat) (cells : Array Value) (hx : a.eval x = .pointer (some ⟨g, 0, none⟩)) (hy : a.eval y = .agg cells)
    (t : TypeId) (old : Array Value) (hg : w.heap[g]? = some (.cells old t (0, 0))) (hi : (Try.prog.info? ty).map (·.size) = some cells.size)
    (hold : old.size = cells.size) (h1 : cells.all (·.oneCell') = true)
    (h : wpListIn F n Try.prog ops Q rest (a.put o.dst undef) (w.setRow g cells)) : wpListIn F n Try.prog ops Q (o :: rest) a w := by
  refine wpListIn_plain hgd fun K hK' => ?_
  unfold Oper.wpIn
  refine ⟨?_, ?_⟩
  · simp [Oper.about, ho]
  · rw [Oper.semAt_plain F _ _ (by rw [ho]; intro c hc'; cases hc')]
    unfold execOp
    simp only [ho, hx, hy, Instr.storeAt, Instr.sureAddr, Sem.run_bind, Sem.run_pure, Result.andThen_ok, run_storeVar_row w g t ty old cells hg hi hold h1]
    exact hK' _ _ h
end
theorem keeps_below {B : Nat} {W W' : World} (h : Below W.heap.size W W') : KeepsFrom B W W' := ⟨h.size, fun k _ _ hk _ => (h.block k (lt_of_block hk)).trans hk⟩
theorem own_below {I : List Nat → World → Prop} {B : Nat} (hI : OwnFrom B I) {pre : List Nat} {W W' : World} (h : I pre W) (hb : Below W.heap.size W W') : I pre W' :=
  hI pre W W' none h ⟨hb.os, hb.tape, hb.output, hb.size, fun k hk _ => hb.block k hk⟩ (fun r e => (by cases e))
set_option maxHeartbeats 4000000 in
theorem back_walk (S u n c g o : Nat) (A : Option Addr) (M : List Stp) (hM : allOk M) (hl : M.length < 100000) (B : Option Addr) (bn bc : Nat) (w : World) (hun : u ≤ n)
    (hSl : ∀ w', (Instr.slice 68 (.slice A n c) (some (.int .i64 u)) none none).run Try.prog w' = .ok (.slice B bn bc) w')
    (hSf : ∀ w', (Instr.slice 68 (.slice A n c) none (some (.int .i64 u)) none).run Try.prog w' = .ok (.slice A u c) w')
    (hS : S < w.heap.size) (hg : g < w.heap.size) (hc2 : (boxW w S u).cell? ⟨S, 2, none⟩ = some (.slice A n c))
    (hR : ∀ W, Below (w.heap.size + 2) (boxW w S u) W → RowS W g o (.slice B bn bc) M)
    (I : List Nat → World → Prop) (hI : OwnFrom (w.heap.size + 2) I) (hI0 : ∀ W, Below (w.heap.size + 2) (boxW w S u) W → w.heap.size + 3 ≤ W.heap.size → I [] W)
    (hIc : ∀ pre W, I pre W → W.cell? ⟨w.heap.size, 0, none⟩ = some (.pointer (some ⟨S, 0, none⟩)) ∧ W.cell? ⟨w.heap.size + 1, 0, none⟩ = some (.int .i64 u) ∧ W.cell? ⟨S, 2, none⟩ = some (.slice A n c) ∧ W.frozen? ⟨S, 2, none⟩ = false ∧ w.heap.size + 3 ≤ W.heap.size)
    (hU : ∀ pre x W, I pre W → pre.length < M.length → Calls Try.prog 31 #[.pointer (some ⟨S, 0, none⟩), .agg (stV (atS M x)).toArray] W fun e W' => e = .returned (.tuple #[]) ∧ I (pre ++ [x]) W' ∧ (∀ q, w.heap.size + 2 ≤ q → q < W.heap.size → W'.heap[q]? = W.heap[q]?) ∧ W.heap.size ≤ W'.heap.size ∧ (W.rangeAt g o (rowV M) → W'.rangeAt g o (rowV M))) :
    Calls Try.prog 16 #[.pointer (some ⟨S, 0, none⟩), .agg #[.int .i64 u]] w fun e w' => e = .returned (.bool true) ∧ ∃ W, I (List.range M.length) W ∧ w'.os = W.os ∧ w'.tape = W.tape ∧ w'.output = W.output ∧ w'.heap.size = W.heap.size ∧ (∀ q, q < w.heap.size + 2 → w'.heap[q]? = (W.setCell ⟨S, 2, none⟩ (.slice A u c)).heap[q]?) := by
  obtain ⟨N, hN⟩ : ∃ N, w.heap.size = N := ⟨_, rfl⟩
  obtain ⟨v, hv⟩ : ∃ v, boxW w S u = v := ⟨_, rfl⟩
  have vs := boxW_size w S u
  have cS := bl_c0 (boxW_s w S u)
  have cU := bl_c0 (boxW_u w S u)
  have hle : decide ((n : Int) < u) = false := by simp; omega
  rw [hv] at hc2 vs cS cU
  simp only [hv, hN] at hR hI0 hI hIc hU hS hg vs cS cU ⊢
  refine (callsIn_wide (n := 8)).1 ?_
  refine callsIn_of_wp_marks Try.func16 rfl trivial ?_ rfl
  simp only [Try.ntmps16, List.size_toArray, List.length_cons, List.length_nil, Nat.reduceAdd, Nat.reduceSub, Array.replicate_succ, Array.replicate_zero, List.push_toArray, List.append_toArray, List.nil_append, List.cons_append]
  refine wpIn_wide.2 ?_
  go_upto_region 1 with (fail)
  (try change Code.wp _ _ _ _ (boxW w S u))
  rw [hv]
  try rw [hN]
  have HR := Lib.hid hR
  have HU := Lib.hid hU
  have HI := Lib.hid hI
  have HIc := Lib.hid hIc
  have HI0 := Lib.hid hI0
  clear hR hU hI hIc hI0 hv
  go_quiet (fail)
  obtain ⟨v1, hv1⟩ : ∃ v1, v.drewN nq = v1 := ⟨_, rfl⟩
  rw [hv1]
  replace hc2 : v1.cell? ⟨S, 2, none⟩ = some (.slice A n c) := by rw [← hv1]; exact hc2
  replace cS : v1.cell? ⟨N, 0, none⟩ = some (.pointer (some ⟨S, 0, none⟩)) := by rw [← hv1]; exact cS
  replace cU : v1.cell? ⟨N + 1, 0, none⟩ = some (.int .i64 u) := by rw [← hv1]; exact cU
  have vs1 : v1.heap.size = N + 2 := by rw [← hv1]; exact vs
  have B1 : Hid (Below (N + 2) v v1) := Lib.hid (by rw [← hv1]; exact below_drewN (Below.refl _ _) _)
  clear hv1 vs
  go_upto_region 3 with (fail)
  go_still_tail 7, (by kernel_rfl)
  go_wp2_with (first
    | (go_at_call 30; refine (uBw B bn bc _).mono ?_; rintro e w2 ⟨rfl, hw2⟩)
    | fail)
  obtain ⟨W0, hW0⟩ : ∃ W0, (v1.alloc (Obj.cells #[.slice B bn bc] 68)).drew = W0 := ⟨_, rfl⟩
  have b0 : Below (N + 2) v W0 := by rw [← hW0]; exact (B1.out.alloc (by omega) _).drew
  have s0 : W0.heap.size = N + 3 := by rw [← hW0]; show (v1.alloc _).heap.size = _; rw [World.size_alloc, vs1]
  have cB : W0.cell? ⟨N + 2, 0, none⟩ = some (.slice B bn bc) := by
    rw [← hW0]
    have := heap_alloc_last v1 (Obj.cells #[.slice B bn bc] 68)
    rw [vs1] at this
    exact bl_c0 (w := v1.alloc _) this
  rw [hW0]
  clear hW0 hc2 cS cU B1
  have hI' : OwnFrom W0.heap.size I := fun s X Y row hs hg hr => HI.out s X Y row hs hg (fun r e => ⟨by have := (hr r e).1; omega, (hr r e).2⟩)
  refine (wpIn_wide (n := 8)).1 (wpIn_rangeFunc_ownH (α := Nat) rfl (by decide) (gf := 39) (lb := #[.pointer (some ⟨N + 2, 0, none⟩)]) rfl trivial (enters_of Try.func39 (by kernel_rfl) rfl)
    (bw_stops Fence.wide 7 trivial rfl (by decide) (N + 2) g o _ M hM hl W0 (by omega) cB (HR.out W0 b0)) (fun h k => kpB_t h k) (kpB_b (by omega) (by omega)) (Below.refl _ _) (fun _ => rfl)
    I (fun _ _ _ => False) hI' (fun _ _ _ _ _ hs _ _ => hs) (HI0.out W0 b0 (by omega))
    (fun x a' W => ∃ Bx, N + 3 ≤ Bx ∧ BL W Bx (stV (atS M x)) 75 ∧ a' = { tmps := ((.pointer (some ⟨S, 0, none⟩) :: .agg #[.int .i64 u] :: .pointer (some ⟨N, 0, none⟩) :: .pointer (some ⟨N + 1, 0, none⟩) :: .bool false :: undef :: .pointer (some ⟨Bx, 0, none⟩) :: .pointer (some ⟨S, 0, none⟩) :: .bool false :: .bool false :: .pointer (some ⟨N + 1, 0, none⟩) :: .int .i64 u :: .pointer (some ⟨S, 0, none⟩) :: .pointer (some ⟨S, 0, none⟩) :: .pointer (some ⟨S, 2, none⟩) :: .slice A n c :: .int .i64 n :: .bool false :: .bool false :: .pointer (some ⟨S, 0, none⟩) :: .pointer (some ⟨S, 0, none⟩) :: .pointer (some ⟨S, 2, none⟩) :: .slice A n c :: .pointer (some ⟨N + 1, 0, none⟩) :: .int .i64 u :: .slice B bn bc :: .func (.func 39) #[] #[.pointer (some ⟨N + 2, 0, none⟩)] :: .int .i64 ((M.length : Int) - 1 - x) :: .agg (stV (atS M x)).toArray :: undef :: undef :: undef :: undef :: undef :: undef :: undef :: undef :: undef :: undef :: undef :: undef :: undef :: ([] : List Value)).toArray), defers := [] })
    ?hAx ?assign ?body ?done ?stop)
  case hAx =>
    rintro x a' s X Y row ⟨Bx, h1, h2, e⟩ hg hr
    refine ⟨Bx, h1, (hg.block Bx (bl_lt h2) fun e => ?_).trans h2, e⟩
    obtain ⟨_, o', ho, hc⟩ := hr Bx e.symm
    rw [show X.heap[Bx]? = _ from h2] at ho
    cases ho
    cases hc
  case assign =>
    rintro l pre x W K hi hK
    obtain ⟨k1, k2, k3, k4, k5⟩ := HIc.out pre W hi
    have KF := Lib.hid hK
    clear hK
    unfold encB
    simp [Array.zip, Array.foldl]
    gi_wp2_with (first
      | (refine wpListIn_allocT rfl 75 _ z75 rfl ?_)
      | (refine wpListIn_storeT rfl 75 (.tmp 6) (.tmp 28) rfl W.heap.size (stV (atS M x)).toArray rfl rfl 75 _ (heap_alloc_last _ _) (szA i75 (stV_len (atS_ok hM x).1 (atS_ok hM x).2)) (by rw [List.size_toArray, List.size_toArray, stV_len0, stV_len (atS_ok hM x).1 (atS_ok hM x).2]) (all_oneCell_toArray (st_one _)) ?_)
      | fail)
    have hb1 : Below W.heap.size W ((W.alloc (Obj.cells (stV stD).toArray 75)).setRow W.heap.size (stV (atS M x)).toArray) := below_setRow ((Below.refl _ W).alloc (Nat.le_refl _) _) (Nat.le_refl _) _
    refine KF.out _ _ (keeps_below hb1) ⟨fun h => range_keep h hb1.block, hb1.block _ (by omega)⟩ (own_below HI.out hi hb1) ⟨W.heap.size, k5, ?_, by simp [Act.put]⟩
    exact setRow_heap _ _ _ _ _ _ (heap_alloc_last _ _)
  case body =>
    rintro l pre x a' W hl1 hl2 hi ⟨Bx, hBx, bX, rfl⟩ hlt
    obtain ⟨k1, k2, k3, k4, k5⟩ := HIc.out pre W hi
    have RX := Lib.hid (range_of bX)
    have UC := Lib.hid (HU.out pre x W hi hlt)
    have s21 := stV_len (atS_ok hM x).1 (atS_ok hM x).2
    clear k2 k3 k4 hlt hi bX
    gi_wp2_with (first
      | (refine wpListIn_load_midG rfl 75 (.tmp 6) rfl Bx 0 rfl (stV (atS M x)) _ RX.out Try.underlying75 rfl (szL i75 s21) ?_)
      | (refine ⟨trivial, ?_⟩; gi_at_call 31; refine (CallsIn.inRound l (callsIn_wide.2 UC.out)).mono ?_; rintro e w2 ⟨rfl, g1, g2, g3, g4⟩)
      | fail)
    exact ⟨⟨g3, fun k o' hB hk _ => (g2 k (by omega) (lt_of_block hk)).trans hk⟩, ⟨g4, g2 (N + 2) (by omega) (by omega)⟩, g1⟩
  case done =>
    rintro D ys W hD rfl hi hK
    obtain ⟨k1, k2, k3, k4, k5⟩ := HIc.out _ W hi
    have HIW := Lib.hid hi
    clear hi
    go_upto_region 6 with (fail)
    go_still_tail 10, (by kernel_rfl)
    go_wp2
    have hK' : ((W.setCell ⟨S, 2, none⟩ (.slice A u c)).drew).heap[D]? = some (.deferred (some [])) := (heap_set1 _ _ _ (by omega)).trans hK
    refine ⟨by simp, .inl ⟨_, _, rfl, run_takeDeferred hK', ?_⟩⟩
    refine ⟨_, results_tmp rfl _ _ _, rfl, W, HIW.out, rfl, rfl, rfl, by simp, fun q hq => World.putObj_heap_other (by omega)⟩
  case stop =>
    rintro D c' pre W _ _ h _
    exact h.elim
end Go.Proofs.Ytdggnmlhgglccaa
