/-
  remove, undo at whatever is there.
-/
import Derived.Test.YtdggnmlhgglccaaU14
namespace Go.Proofs.Ytdggnmlhgglccaa
open Go.RowKit Go.Maps
set_option maxRecDepth 100000
theorem step_mdelG {w : World} {ops : Array Oper} {o : Oper} {a : Act} {K : Act → World → Prop} {Q : Exit → Act → World → Prop} {E : Prop} (hgd : o.guard = none) (m x : Operand) (hop : o.op = Op.call { callee := Callee.builtin Builtin.delete, args := #[m, x], argTypes := #[67, 38] })
    (b n : Nat) (F : List Int → Option Cn) (p : List Int) (hm : a.eval m = .map (some b)) (hx : a.eval x = .agg (ptV p).toArray) (h : MapC w b n F) (hp : okP p)
    (hK : ∀ w', MapC w' b (if (F p).isSome then n - 1 else n) (updC F p none) → w.mapTurned w' b → K (a.put o.dst (.tuple #[])) w') : if Region.wanted o (yielded ops a.tmps) = true then Oper.wp Try.prog o a w K Q else E := by
  have hw : Region.wanted o (yielded ops a.tmps) = true := by simp [Region.wanted, hgd]
  rw [if_pos hw]
  obtain ⟨w', hrun, r1, r2⟩ := h.dropG hp o.type
  have hrun : (Builtin.delete_ #[67, 38] o.type #[.map (some b), .agg (ptV p).toArray]).run Try.prog w = .ok (.tuple #[]) w' := hrun
  unfold Oper.wp
  simp [execOp, hop, resolve, invoke, builtin, hm, hx, hrun, Result.andThen]
  exact hK w' r1 r2
attribute [local irreducible] ptV cnV zeros MapC
set_option maxHeartbeats 4000000 in
theorem uDelW (S b n k : Nat) (F : List Int → Option Cn) (T : Int) (R : List Stp) (P : Nat → Prop) (A : Option Addr) (p : List Int) (c : Cn) (w : World) (h : WAt w S F n T R P b A k) (hp : okP p) (hc : c.ok) :
    Calls Try.prog 29 #[.pointer (some ⟨S, 0, none⟩), .agg (ptV p).toArray, .agg (cnV c).toArray] w fun e w' => e = .returned (.tuple #[]) ∧ WAt w' S (updC F p none) (if (F p).isSome then n - 1 else n) (wrap64 (T - amt c)) R P b A k ∧ Fr w w' P := by
  obtain ⟨N, hN⟩ : ∃ N, w.heap.size = N := ⟨_, rfl⟩
  have HN := Lib.hid hN
  have HP := Lib.hid hp
  have HC := Lib.hid hc
  obtain ⟨v, hv⟩ : ∃ v, ((w.alloc (Obj.cells (ptV p).toArray 38)).alloc (Obj.cells (cnV c).toArray 47)) = v := ⟨_, rfl⟩
  have RP : Hid (BL v N (ptV p) 38) := by
    subst hv hN
    exact bl_keep (heap_alloc_last w _) (Below.heap_alloc _ _ _ (by simp))
  have RC : Hid (BL v (N + 1) (cnV c) 47) := by
    subst hv hN
    have := heap_alloc_last (w.alloc (Obj.cells (ptV p).toArray 38)) (Obj.cells (cnV c).toArray 47)
    rw [World.size_alloc] at this
    exact this
  have BV : Hid (Below N w v) := by subst hv hN; exact ((Below.refl _ w).alloc (Nat.le_refl _) _).alloc (by simp) _
  have VS : Hid (v.heap.size = N + 2) := by subst hv hN; show _ = _; rw [World.size_alloc, World.size_alloc]
  have HV : Hid (WAt v S F n T R P b A k) := Lib.hid (h.keep (fun q hq => BV.out.block q (by rw [← hN]; exact h.lt q hq)) BV.out.size)
  have HSP := Lib.hid h.inS
  have HPb := Lib.hid h.map.2
  obtain ⟨Z, hZ⟩ : ∃ Z, v.heap.size = Z := ⟨_, rfl⟩
  have HZ := Lib.hid hZ
  obtain ⟨n1, h1⟩ : ∃ n1, (if (F p).isSome = true then n - 1 else n) = n1 := ⟨_, rfl⟩
  have HN1 := Lib.hid h1
  rw [h1]
  clear h hp hc hZ h1
  · go_enter Try.func29, Try.ntmps29
    go_upto_region 1 with (fail)
    (try rw [hv])
    clear hv
    have NB : Hid (S ≠ b ∧ N ≠ b ∧ N + 1 ≠ b) := ⟨HV.out.ne, map_ne HV.out.map.1 RP.out, map_ne HV.out.map.1 RC.out⟩
    have C0 : Hid (∀ w' : World, (∀ q, q ≠ b → q < Z → w'.heap[q]? = v.heap[q]?) → w'.cell? ⟨S, 0, none⟩ = some (.map (some b))) := fun w' hw => (World.cell?_of_block (w := v) (a := ⟨S, 0, none⟩) (hw S NB.out.1 (by rw [← HZ.out]; exact HV.out.lt S HV.out.inS))).trans HV.out.c0
    have VZ : N + 2 ≤ Z := by have := VS.out; have := HZ.out; omega
    refine wp_region_held_drew (S := (fun w' : World => ∀ q, q ≠ b → q < Z → w'.heap[q]? = v.heap[q]?)) (by kernel_rfl) (by exact fun _ _ _ => rfl) (fun hHeld => ?_)
    refine wpAnyH_take (i := 0) (v := ?_) rfl (by kernel_rfl) (by kernel_rfl) (by kernel_rfl) (fun _ _ _ h => h) (Or.inl ⟨by rfl, ?_⟩) (by assumption) ?_
    rotate_left
    · (intro w hSw; (try dsimp only at hSw); go_simp; try with_reducible rfl)
    simp only [Act.put, List.getElem_toArray, List.getElem_cons_zero, List.setIfInBounds_toArray, List.set_cons_zero, List.set_cons_succ]
    refine wpAnyH_take (i := 1) (v := ?_) rfl (by kernel_rfl) (by kernel_rfl) (by kernel_rfl) (fun _ _ _ h => h) (Or.inl ⟨by rfl, ?_⟩) (by assumption) ?_
    rotate_left
    · (intro w hSw; (try dsimp only at hSw); go_simp; try with_reducible rfl)
    simp only [Act.put, List.getElem_toArray, List.getElem_cons_succ, List.getElem_cons_zero, List.setIfInBounds_toArray, List.set_cons_zero, List.set_cons_succ]
    refine wpAnyH_take (i := 2) (v := ?_) rfl (by kernel_rfl) (by kernel_rfl) (by kernel_rfl) (fun _ _ _ h => h) (Or.inl ⟨by rfl, ?_⟩) (by assumption) ?_
    rotate_left
    · (intro w hSw; (try dsimp only at hSw); go_simp; try with_reducible rfl)
    simp only [Act.put, List.getElem_toArray, List.getElem_cons_succ, List.getElem_cons_zero, List.setIfInBounds_toArray, List.set_cons_zero, List.set_cons_succ]
    refine wpAnyH_take (i := 3) (v := ?_) rfl (by kernel_rfl) (by kernel_rfl) (by kernel_rfl) (fun _ _ _ h => h) (Or.inl ⟨by rfl, ?_⟩) (by assumption) ?_
    rotate_left
    · (intro w hSw; (try dsimp only at hSw); have c0 := C0.out w hSw; go_simp; try with_reducible rfl)
    simp only [Act.put, List.getElem_toArray, List.getElem_cons_succ, List.getElem_cons_zero, List.setIfInBounds_toArray, List.set_cons_zero, List.set_cons_succ]
    refine wpAnyH_take (i := 4) rfl (by kernel_rfl) (by kernel_rfl) (by kernel_rfl) (fun _ _ _ h => h) (yieldsIf_load_mid (by rfl) 38 (.tmp 4) rfl N 0 rfl (ptV p) _ (fun w h => range_keep1 (range_of RP.out) (h N NB.out.2.1 (by omega))) Try.underlying38 rfl (szP HP.out)) (by assumption) ?_
    simp only [Act.put, List.getElem_toArray, List.getElem_cons_succ, List.getElem_cons_zero, List.setIfInBounds_toArray, List.set_cons_zero, List.set_cons_succ]
    refine wpAnyH_ready (rs := [5]) (by kernel_rfl) (by simp) ?_
    refine AllReadyH.cons rfl (fun K hK => ?_) AllReadyH.nil
    refine step_mdelG rfl (.tmp 9) (.tmp 10) rfl b n F p rfl rfl (HV.out.map.1.keep rfl) HP.out ?_
    intro w2 hm2 ht2
    rw [HN1.out] at hm2
    have ht := turned_fr ht2
    have KB : Hid (∀ q, q ≠ b → w2.heap[q]? = v.heap[q]?) := fun q hq => ht.2.2.2.2 q hq
    have M2 := Lib.hid hm2
    have F2 : Hid (w2.os = v.os ∧ w2.tape = v.drew.tape ∧ w2.output = v.output ∧ w2.heap.size = v.heap.size) := ⟨ht.1, ht.2.1, ht.2.2.1, ht.2.2.2.1⟩
    clear hHeld hm2 ht2 ht
    refine hK.out _ _ (by exact fun q hq _ => KB.out q hq) (fun hHeld => ?_)
    clear hK K hHeld
    refine wpAnyH_done (by kernel_rfl) ?_ _
    have c1 : w2.cell? ⟨S, 1, none⟩ = some (.int .i64 (T)) := (World.cell?_of_block (w := v) (a := ⟨S, 1, none⟩) (KB.out S NB.out.1)).trans HV.out.c1
    have f1 : w2.frozen? ⟨S, 1, none⟩ = false := bl_free (bl_keep HV.out.blk (KB.out S NB.out.1)) 1
    have cA : w2.cell? ⟨N + 1, 8, none⟩ = some (.int .i64 (amt c)) := (World.cell?_of_block (w := v) (a := ⟨N + 1, 8, none⟩) (KB.out (N + 1) NB.out.2.2)).trans (by have := range_cell (range_of RC.out) (cn_amt HC.out.len); rwa [Nat.zero_add] at this)
    go_upto_region 2 with (fail)
    go_still_tail 10, (by kernel_rfl)
    go_wp2
    refine bodyPost_end (v := .tuple #[]) (by simp [results, Try.results29, go_sem]) rfl ⟨rfl, ?_, ?_⟩
    · exact (w_done HV.out (fun q _ hq => KB.out q hq) M2.out (Nat.le_of_eq F2.out.2.2.2.symm) rfl).keep (fun q _ => rfl) (Nat.le_refl _)
    · refine ⟨F2.out.1.trans BV.out.os, F2.out.2.1.trans BV.out.tape, F2.out.2.2.1.trans BV.out.output, ?_, fun q hq hn => ?_⟩
      · show _ ≤ (w2.setCell _ _).heap.size
        rw [World.size_setCell, F2.out.2.2.2]
        exact BV.out.size
      · have hqS : q ≠ S := fun e => hn (e ▸ HSP.out)
        have hqb : q ≠ b := fun e => hn (e ▸ HPb.out)
        exact (heap_set1 _ _ _ hqS).trans ((KB.out q hqb).trans (BV.out.block q (by rw [← HN.out]; exact hq)))
/-- what undoing x makes of the coins, of their number's bound, of the total -/
def undF (F : List Int → Option Cn) (x : Stp) : List Int → Option Cn := updC F x.p (if x.s then some x.c else none)
def undT (T : Int) (x : Stp) : Int := wrap64 (if x.s then T + amt x.c else T - amt x.c)
def undN (F : List Int → Option Cn) (n : Nat) (x : Stp) : Nat := if x.s then (if (F x.p).isSome then n else n + 1) else (if (F x.p).isSome then n - 1 else n)
attribute [local irreducible] stV
set_option maxHeartbeats 4000000 in
theorem uUndoW (S b n k : Nat) (F : List Int → Option Cn) (T : Int) (R : List Stp) (P : Nat → Prop) (A : Option Addr) (x : Stp) (w : World) (h : WAt w S F n T R P b A k) (hp : okP x.p) (hc : x.c.ok) (hn : n < 100000) :
    Calls Try.prog 31 #[.pointer (some ⟨S, 0, none⟩), .agg (stV x).toArray] w fun e w' => e = .returned (.tuple #[]) ∧ WAt w' S (undF F x) (undN F n x) (undT T x) R P b A k ∧ Fr w w' P := by
  unfold undF undT undN
  obtain ⟨N, hN⟩ : ∃ N, w.heap.size = N := ⟨_, rfl⟩
  have HN := Lib.hid hN
  have HP := Lib.hid hp
  have HC := Lib.hid hc
  have HL := Lib.hid hn
  obtain ⟨v, hv⟩ : ∃ v, w.alloc (Obj.cells (stV x).toArray 75) = v := ⟨_, rfl⟩
  have RX : Hid (v.rangeAt N 0 (stV x)) := by subst hv hN; exact range_new w _ _
  have BV : Hid (Below w.heap.size w v) := by subst hv; exact (Below.refl _ w).alloc (Nat.le_refl _) _
  have HV : Hid (WAt v S F n T R P b A k) := Lib.hid (h.keep (fun q hq => BV.out.block q (h.lt q hq)) BV.out.size)
  obtain ⟨r1, r2, cB⟩ := st_rng HP.out HC.out RX.out
  rw [Nat.zero_add] at r2 cB
  have R1 := Lib.hid r1
  have R2 := Lib.hid r2
  have HF : Hid (∀ w2, Fr v w2 P → Fr w w2 P) := fun w2 g3 => (Fr.of_below BV.out).trans g3 fun q hq => .inl hq
  clear h hn hp hc r1 r2 RX
  cases hs : x.s
  · have CK := Lib.hid (uDelW S b n k F T R P A x.p x.c v HV.out HP.out HC.out)
    rw [hs] at cB
    simp only [Bool.false_eq_true, if_false]
    generalize (if (F x.p).isSome = true then n - 1 else n) = n1 at *
    clear hs
    go_enter Try.func31, Try.ntmps31
    go_wp2_with (first
      | (refine wpList_load_midG (by rfl) 38 (.tmp 13) rfl N 0 rfl (ptV x.p) _ R1.out Try.underlying38 rfl (szP HP.out) ?_)
      | (refine wpList_load_midG (by rfl) 47 (.tmp 15) rfl N 9 rfl (cnV x.c) _ R2.out Try.underlying47 rfl (szC HC.out.len) ?_)
      | (go_at_call 29; refine CK.out.mono ?_; rintro e w2 ⟨rfl, g1, g3⟩; have G1 := Lib.hid g1; have G3 := Lib.hid g3; clear g1 g3)
      | fail)
    refine bodyPost_end (v := .tuple #[]) (by simp [results, go_sem, Try.results31]) rfl ⟨rfl, G1.out, HF.out w2 G3.out⟩
  · have CK := Lib.hid (uPutW S b n k F T R P A x.p x.c v HV.out HP.out HC.out HL.out)
    rw [hs] at cB
    simp only [if_true]
    generalize (if (F x.p).isSome = true then n else n + 1) = n1 at *
    clear hs
    go_enter Try.func31, Try.ntmps31
    go_wp2_with (first
      | (refine wpList_load_midG (by rfl) 38 (.tmp 7) rfl N 0 rfl (ptV x.p) _ R1.out Try.underlying38 rfl (szP HP.out) ?_)
      | (refine wpList_load_midG (by rfl) 47 (.tmp 9) rfl N 9 rfl (cnV x.c) _ R2.out Try.underlying47 rfl (szC HC.out.len) ?_)
      | (go_at_call 28; refine CK.out.mono ?_; rintro e w2 ⟨rfl, g1, g3⟩; have G1 := Lib.hid g1; have G3 := Lib.hid g3; clear g1 g3)
      | fail)
    refine bodyPost_end (v := .tuple #[]) (by simp [results, go_sem, Try.results31]) rfl ⟨rfl, G1.out, HF.out w2 G3.out⟩
end Go.Proofs.Ytdggnmlhgglccaa
