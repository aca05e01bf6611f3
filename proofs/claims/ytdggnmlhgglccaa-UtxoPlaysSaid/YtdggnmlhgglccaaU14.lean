/-
  put and remove at whatever is there.
-/
import Derived.Test.YtdggnmlhgglccaaU1b
import Derived.Test.YtdggnmlhgglccaaU13
namespace Go.Proofs.Ytdggnmlhgglccaa
open Go.RowKit Go.Maps
set_option maxRecDepth 100000
/-- a Set whose coins are F, n of them, whose total is told as T -/
structure WAt (w : World) (S : Nat) (F : List Int → Option Cn) (n : Nat) (T : Int) (R : List Stp) (P : Nat → Prop) (b : Nat) (A : Option Addr) (c : Nat) : Prop where
  blk : BL w S [.map (some b), .int .i64 T, .slice A R.length c] 70
  map : MapC w b n F ∧ P b
  row : w.ownsRow 0 75 21 (.slice A R.length c) R.length (rowV R)
  rowP : ∀ q, (Value.slice A R.length c).ownBlock = some q → P q
  inS : P S
  lt : ∀ q, P q → q < w.heap.size
theorem WAt.of {w : World} {S : Nat} {L R : List Stp} {P : Nat → Prop} {b : Nat} {A : Option Addr} {c : Nat} (h : SetAt w S L R P (some b) A c) : WAt w S (setF L) (setN L) (setT L) R P b A c := ⟨h.blk, h.map, h.row, h.rowP, h.inS, h.lt⟩
theorem WAt.to {w : World} {S : Nat} {L R : List Stp} {P : Nat → Prop} {b : Nat} {A : Option Addr} {c : Nat} (h : WAt w S (setF L) (setN L) (setT L) R P b A c) (ho : okS L) : SetAt w S L R P (some b) A c := ⟨h.blk, h.map, h.row, h.rowP, ho, h.inS, h.lt⟩
section
variable {w : World} {S n k b : Nat} {F : List Int → Option Cn} {T : Int} {R : List Stp} {P : Nat → Prop} {A : Option Addr}
theorem WAt.c0 (h : WAt w S F n T R P b A k) : w.cell? ⟨S, 0, none⟩ = some (.map (some b)) := by rw [cell_of_row w S 0 _ _ _ h.blk]; rfl
theorem WAt.c1 (h : WAt w S F n T R P b A k) : w.cell? ⟨S, 1, none⟩ = some (.int .i64 T) := by rw [cell_of_row w S 1 _ _ _ h.blk]; rfl
theorem WAt.ne (h : WAt w S F n T R P b A k) : S ≠ b := map_ne h.map.1 h.blk
theorem WAt.keep {w' : World} (h : WAt w S F n T R P b A k) (hb : ∀ q, P q → w'.heap[q]? = w.heap[q]?) (hs : w.heap.size ≤ w'.heap.size) : WAt w' S F n T R P b A k := by
  refine ⟨bl_keep h.blk (hb S h.inS), ⟨h.map.1.keep (hb b h.map.2), h.map.2⟩, ⟨h.row.1, ?_⟩, h.rowP, h.inS, fun q hq => Nat.lt_of_lt_of_le (h.lt q hq) hs⟩
  rcases h.row.2 with h2 | ⟨g, cap, cur, e1, h1, h2, h3⟩
  · exact .inl h2
  · exact .inr ⟨g, cap, cur, e1, h1, by rw [hb g (h.rowP g (by rw [e1]; rfl))]; exact h2, h3⟩
theorem w_done {F' : List Int → Option Cn} {n' : Nat} {T' : Int} (hs : WAt w S F n T R P b A k) {w2 w3 : World} (hb : ∀ q, P q → q ≠ b → w2.heap[q]? = w.heap[q]?)
    (hm : MapC w2 b n' F') (h2 : w.heap.size ≤ w2.heap.size) (hw : w3 = w2.setCell ⟨S, 1, none⟩ (.int .i64 T')) : WAt w3 S F' n' T' R P b A k := by
  subst hw
  have ho : ∀ q, q ≠ S → (w2.setCell ⟨S, 1, none⟩ (.int .i64 T')).heap[q]? = w2.heap[q]? := fun q hq => heap_set1 _ _ _ hq
  refine ⟨bl_set (bl_keep hs.blk (hb S hs.inS hs.ne)) 1 (.int .i64 T'), ⟨hm.keep (ho b (Ne.symm hs.ne)), hs.map.2⟩, ⟨hs.row.1, ?_⟩, hs.rowP, hs.inS, fun q hq => Nat.lt_of_lt_of_le (hs.lt q hq) (by rw [World.size_setCell]; exact h2)⟩
  rcases hs.row.2 with g | ⟨g, cap, cur, e1, h1, h3, h4⟩
  · exact .inl g
  · have hgP := hs.rowP g (by rw [e1]; rfl)
    have hgb : g ≠ b := map_ne hs.map.1 (cs := cur.toList) (T := 75) (by unfold BL; rw [h3])
    exact .inr ⟨g, cap, cur, e1, h1, by rw [ho g (row_ne hs.blk h3), hb g hgP hgb]; exact h3, h4⟩
end
theorem step_mputG {w : World} {ops : Array Oper} {o : Oper} {a : Act} {K : Act → World → Prop} {Q : Exit → Act → World → Prop} {E : Prop} (hgd : o.guard = none) (m x v : Operand) (hop : o.op = Op.mapUpdate 67 m x v)
    (b n : Nat) (F : List Int → Option Cn) (p : List Int) (c : Cn) (hm : a.eval m = .map (some b)) (hx : a.eval x = .agg (ptV p).toArray) (hv : a.eval v = .agg (cnV c).toArray) (h : MapC w b n F) (hn : n < maxLen) (hp : okP p) (hc : c.r.length = 10)
    (hK : ∀ w', MapC w' b (if (F p).isSome then n else n + 1) (updC F p (some c)) → w.mapTurned w' b → K (a.put o.dst undef) w') : if Region.wanted o (yielded ops a.tmps) = true then Oper.wp Try.prog o a w K Q else E := by
  have hw : Region.wanted o (yielded ops a.tmps) = true := by simp [Region.wanted, hgd]
  rw [if_pos hw]
  obtain ⟨w', hrun, r1, r2⟩ := h.putG hn hp hc
  have hrun : (Instr.mapUpdate 67 (.map (some b)) (.agg (ptV p).toArray) (.agg (cnV c).toArray)).run Try.prog w = .ok () w' := hrun
  unfold Oper.wp
  simp [execOp, hop, hm, hx, hv, hrun, Result.andThen]
  exact hK w' r1 r2
attribute [local irreducible] ptV cnV zeros MapC
set_option maxHeartbeats 4000000 in
theorem uPutW (S b n k : Nat) (F : List Int → Option Cn) (T : Int) (R : List Stp) (P : Nat → Prop) (A : Option Addr) (p : List Int) (c : Cn) (w : World) (h : WAt w S F n T R P b A k) (hp : okP p) (hc : c.ok) (hn : n < 100000) :
    Calls Try.prog 28 #[.pointer (some ⟨S, 0, none⟩), .agg (ptV p).toArray, .agg (cnV c).toArray] w fun e w' => e = .returned (.tuple #[]) ∧ WAt w' S (updC F p (some c)) (if (F p).isSome then n else n + 1) (wrap64 (T + amt c)) R P b A k ∧ Fr w w' P := by
  obtain ⟨N, hN⟩ : ∃ N, w.heap.size = N := ⟨_, rfl⟩
  have HN := Lib.hid hN
  have HP := Lib.hid hp
  have HC := Lib.hid hc
  obtain ⟨v, hv⟩ : ∃ v, ((w.alloc (Obj.cells (ptV p).toArray 38)).alloc (Obj.cells (cnV c).toArray 47)) = v := ⟨_, rfl⟩
  have RP : Hid (BL v N (ptV p) 38) := by
    subst hv hN
    exact bl_keep (heap_alloc_last w _) (Below.heap_alloc _ _ _ (by simp))
  have RC : Hid (BL v (N + 1) (cnV c) 47) := by
    subst hv hN
    have := heap_alloc_last (w.alloc (Obj.cells (ptV p).toArray 38)) (Obj.cells (cnV c).toArray 47)
    rw [World.size_alloc] at this
    exact this
  have BV : Hid (Below N w v) := by subst hv hN; exact ((Below.refl _ w).alloc (Nat.le_refl _) _).alloc (by simp) _
  have VS : Hid (v.heap.size = N + 2) := by subst hv hN; show _ = _; rw [World.size_alloc, World.size_alloc]
  have NL : Hid (n < maxLen) := by show _ < _; unfold maxLen; omega
  have qT : ∀ (w : World) (r : Option Nat), (binOp .eql 67 (.map r) (.map none)).run Try.prog w = .ok (.bool r.isNone) w := fun w r => run_eql_map_nil w _ _ _ r Try.underlying67
  have HV : Hid (WAt v S F n T R P b A k) := Lib.hid (h.keep (fun q hq => BV.out.block q (by rw [← hN]; exact h.lt q hq)) BV.out.size)
  have c0 : v.cell? ⟨S, 0, none⟩ = some (.map (some b)) := HV.out.c0
  have HSP := Lib.hid h.inS
  have HPb := Lib.hid h.map.2
  obtain ⟨Z, hZ⟩ : ∃ Z, v.heap.size = Z := ⟨_, rfl⟩
  have HZ := Lib.hid hZ
  obtain ⟨n1, h1⟩ : ∃ n1, (if (F p).isSome = true then n else n + 1) = n1 := ⟨_, rfl⟩
  have HN1 := Lib.hid h1
  rw [h1]
  clear h hp hc hn hZ h1
  · go_enter Try.func28, Try.ntmps28
    go_upto_region 3 with (fail)
    (try rw [hv])
    clear c0 qT hv
    have NB : Hid (S ≠ b ∧ N ≠ b ∧ N + 1 ≠ b) := ⟨HV.out.ne, map_ne HV.out.map.1 RP.out, map_ne HV.out.map.1 RC.out⟩
    have C0 : Hid (∀ w' : World, (∀ q, q ≠ b → q < Z → w'.heap[q]? = v.heap[q]?) → w'.cell? ⟨S, 0, none⟩ = some (.map (some b))) := fun w' hw => (World.cell?_of_block (w := v) (a := ⟨S, 0, none⟩) (hw S NB.out.1 (by rw [← HZ.out]; exact HV.out.lt S HV.out.inS))).trans HV.out.c0
    have VZ : N + 2 ≤ Z := by have := VS.out; have := HZ.out; omega
    refine wp_region_held_drew (S := (fun w' : World => ∀ q, q ≠ b → q < Z → w'.heap[q]? = v.heap[q]?)) (by kernel_rfl) (by exact fun _ _ _ => rfl) (fun hHeld => ?_)
    refine wpAnyH_take (i := 0) (v := ?_) rfl (by kernel_rfl) (by kernel_rfl) (by kernel_rfl) (fun _ _ _ h => h) (Or.inl ⟨by rfl, ?_⟩) (by assumption) ?_
    rotate_left
    · (intro w hSw; (try dsimp only at hSw); go_simp; try with_reducible rfl)
    simp only [Act.put, List.getElem_toArray, List.getElem_cons_zero, List.setIfInBounds_toArray, List.set_cons_zero, List.set_cons_succ]
    refine wpAnyH_take (i := 1) (v := ?_) rfl (by kernel_rfl) (by kernel_rfl) (by kernel_rfl) (fun _ _ _ h => h) (Or.inl ⟨by rfl, ?_⟩) (by assumption) ?_
    rotate_left
    · (intro w hSw; (try dsimp only at hSw); go_simp; try with_reducible rfl)
    simp only [Act.put, List.getElem_toArray, List.getElem_cons_succ, List.getElem_cons_zero, List.setIfInBounds_toArray, List.set_cons_zero, List.set_cons_succ]
    refine wpAnyH_take (i := 2) (v := ?_) rfl (by kernel_rfl) (by kernel_rfl) (by kernel_rfl) (fun _ _ _ h => h) (Or.inl ⟨by rfl, ?_⟩) (by assumption) ?_
    rotate_left
    · (intro w hSw; (try dsimp only at hSw); go_simp; try with_reducible rfl)
    simp only [Act.put, List.getElem_toArray, List.getElem_cons_succ, List.getElem_cons_zero, List.setIfInBounds_toArray, List.set_cons_zero, List.set_cons_succ]
    refine wpAnyH_take (i := 3) (v := ?_) rfl (by kernel_rfl) (by kernel_rfl) (by kernel_rfl) (fun _ _ _ h => h) (Or.inl ⟨by rfl, ?_⟩) (by assumption) ?_
    rotate_left
    · (intro w hSw; (try dsimp only at hSw); have c0 := C0.out w hSw; go_simp; try with_reducible rfl)
    simp only [Act.put, List.getElem_toArray, List.getElem_cons_succ, List.getElem_cons_zero, List.setIfInBounds_toArray, List.set_cons_zero, List.set_cons_succ]
    refine wpAnyH_take (i := 4) rfl (by kernel_rfl) (by kernel_rfl) (by kernel_rfl) (fun _ _ _ h => h) (yieldsIf_load_mid (by rfl) 38 (.tmp 4) rfl N 0 rfl (ptV p) _ (fun w h => range_keep1 (range_of RP.out) (h N NB.out.2.1 (by omega))) Try.underlying38 rfl (szP HP.out)) (by assumption) ?_
    simp only [Act.put, List.getElem_toArray, List.getElem_cons_succ, List.getElem_cons_zero, List.setIfInBounds_toArray, List.set_cons_zero, List.set_cons_succ]
    refine wpAnyH_take (i := 5) rfl (by kernel_rfl) (by kernel_rfl) (by kernel_rfl) (fun _ _ _ h => h) (yieldsIf_load_mid (by rfl) 47 (.tmp 5) rfl (N + 1) 0 rfl (cnV c) _ (fun w h => range_keep1 (range_of RC.out) (h (N + 1) NB.out.2.2 (by omega))) Try.underlying47 rfl (szC HC.out.len)) (by assumption) ?_
    simp only [Act.put, List.getElem_toArray, List.getElem_cons_succ, List.getElem_cons_zero, List.setIfInBounds_toArray, List.set_cons_zero, List.set_cons_succ]
    refine wpAnyH_ready (rs := [6]) (by kernel_rfl) (by simp) ?_
    refine AllReadyH.cons rfl (fun K hK => ?_) AllReadyH.nil
    refine step_mputG rfl (.tmp 18) (.tmp 19) (.tmp 20) rfl b n F p c rfl rfl rfl (HV.out.map.1.keep rfl) NL.out HP.out HC.out.len ?_
    intro w2 hm2 ht2
    rw [HN1.out] at hm2
    have ht := turned_fr ht2
    have KB : Hid (∀ q, q ≠ b → w2.heap[q]? = v.heap[q]?) := fun q hq => ht.2.2.2.2 q hq
    have M2 := Lib.hid hm2
    have F2 : Hid (w2.os = v.os ∧ w2.tape = v.drew.tape ∧ w2.output = v.output ∧ w2.heap.size = v.heap.size) := ⟨ht.1, ht.2.1, ht.2.2.1, ht.2.2.2.1⟩
    clear hHeld hm2 ht2 ht
    refine hK.out _ _ (by exact fun q hq _ => KB.out q hq) (fun hHeld => ?_)
    clear hK K hHeld
    refine wpAnyH_done (by kernel_rfl) ?_ _
    have c1 : w2.cell? ⟨S, 1, none⟩ = some (.int .i64 (T)) := (World.cell?_of_block (w := v) (a := ⟨S, 1, none⟩) (KB.out S NB.out.1)).trans HV.out.c1
    have f1 : w2.frozen? ⟨S, 1, none⟩ = false := bl_free (bl_keep HV.out.blk (KB.out S NB.out.1)) 1
    have cA : w2.cell? ⟨N + 1, 8, none⟩ = some (.int .i64 (amt c)) := (World.cell?_of_block (w := v) (a := ⟨N + 1, 8, none⟩) (KB.out (N + 1) NB.out.2.2)).trans (by have := range_cell (range_of RC.out) (cn_amt HC.out.len); rwa [Nat.zero_add] at this)
    go_upto_region 4 with (fail)
    go_still_tail 10, (by kernel_rfl)
    go_wp2
    refine bodyPost_end (v := .tuple #[]) (by simp [results, Try.results28, go_sem]) rfl ⟨rfl, ?_, ?_⟩
    · exact (w_done HV.out (fun q _ hq => KB.out q hq) M2.out (Nat.le_of_eq F2.out.2.2.2.symm) rfl).keep (fun q _ => rfl) (Nat.le_refl _)
    · refine ⟨F2.out.1.trans BV.out.os, F2.out.2.1.trans BV.out.tape, F2.out.2.2.1.trans BV.out.output, ?_, fun q hq hn => ?_⟩
      · show _ ≤ (w2.setCell _ _).heap.size
        rw [World.size_setCell, F2.out.2.2.2]
        exact BV.out.size
      · have hqS : q ≠ S := fun e => hn (e ▸ HSP.out)
        have hqb : q ≠ b := fun e => hn (e ▸ HPb.out)
        exact (heap_set1 _ _ _ hqS).trans ((KB.out q hqb).trans (BV.out.block q (by rw [← HN.out]; exact hq)))
end Go.Proofs.Ytdggnmlhgglccaa
