/-
  remove.
-/
import Derived.Test.YtdggnmlhgglccaaU6
namespace Go.Proofs.Ytdggnmlhgglccaa
open Go.RowKit Go.Maps
set_option maxRecDepth 100000
/-- L turns into M when c goes from p -/
structure Goes (L M : List Stp) (p : List Int) (c : Cn) : Prop where
  hp : okP p
  hc : c.ok
  is : setF L p = some c
  F : setF M = updC (setF L) p none
  T : setT M = setT L - amt c
  N : setN L = setN M + 1
  ok : okS M
theorem step_mdel {w : World} {ops : Array Oper} {o : Oper} {a : Act} {K : Act → World → Prop} {Q : Exit → Act → World → Prop} {E : Prop} (hgd : o.guard = none) (m x : Operand) (hop : o.op = Op.call { callee := Callee.builtin Builtin.delete, args := #[m, x], argTypes := #[67, 38] })
    (b n : Nat) (F : List Int → Option Cn) (p : List Int) (c : Cn) (hm : a.eval m = .map (some b)) (hx : a.eval x = .agg (ptV p).toArray) (h : MapC w b (n + 1) F) (hp : okP p) (hF : F p = some c)
    (hK : ∀ w', MapC w' b n (updC F p none) → w.mapTurned w' b → K (a.put o.dst (.tuple #[])) w') : if Region.wanted o (yielded ops a.tmps) = true then Oper.wp Try.prog o a w K Q else E := by
  have hw : Region.wanted o (yielded ops a.tmps) = true := by simp [Region.wanted, hgd]
  rw [if_pos hw]
  obtain ⟨w', hrun, r1, r2⟩ := h.drop hp hF o.type
  have hrun : (Builtin.delete_ #[67, 38] o.type #[.map (some b), .agg (ptV p).toArray]).run Try.prog w = .ok (.tuple #[]) w' := hrun
  unfold Oper.wp
  simp [execOp, hop, resolve, invoke, builtin, hm, hx, hrun, Result.andThen]
  exact hK w' r1 r2
/-- the Set behind a change: nothing is said of what is not the map's or the total's -/
theorem set_done {w : World} {S : Nat} {L M R : List Stp} {P : Nat → Prop} {T : Int} {b : Nat} {A : Option Addr} {k : Nat} (hok : okS M) (hT : setT M = T) (hs : SetAt w S L R P (some b) A k) {w2 w3 : World} (hb : ∀ q, P q → q ≠ b → w2.heap[q]? = w.heap[q]?)
    (hm : MapC w2 b (setN M) (setF M)) (h2 : w.heap.size ≤ w2.heap.size) (hw : w3 = w2.setCell ⟨S, 1, none⟩ (.int .i64 (T))) : SetAt w3 S M R P (some b) A k := by
  subst hw
  have hSb : S ≠ b := by
    rintro rfl
    obtain ⟨D, ⟨es, clock, h1, _⟩, _⟩ := hs.map.1
    have h3 := hs.blk
    unfold BL at h3
    rw [h1] at h3
    cases h3
  have ho : ∀ q, q ≠ S → (w2.setCell ⟨S, 1, none⟩ (.int .i64 (T))).heap[q]? = w2.heap[q]? := fun q hq => heap_set1 _ _ _ hq
  refine ⟨?_, ⟨?_, hs.map.2⟩, ?_, hs.rowP, hok, hs.inS, fun q hq => Nat.lt_of_lt_of_le (hs.lt q hq) (by simpa using h2)⟩
  · have := bl_set (bl_keep hs.blk (hb S hs.inS hSb)) 1 (.int .i64 (T))
    rw [hT]
    exact this
  · exact hm.keep (ho b (Ne.symm hSb))
  · refine ⟨hs.row.1, ?_⟩
    rcases hs.row.2 with g | ⟨g, cap, cur, e1, h1, h3, h4⟩
    · exact .inl g
    · have hgP := hs.rowP g (by rw [e1]; rfl)
      have hgb : g ≠ b := by
        rintro rfl
        obtain ⟨D, ⟨es, clock, h5, _⟩, _⟩ := hs.map.1
        rw [h5] at h3
        cases h3
      have hgS : g ≠ S := by
        rintro rfl
        have h5 := hs.blk
        unfold BL at h5
        rw [h3] at h5
        have := (Obj.cells.inj (Option.some.inj h5)).2.1
        revert this
        decide
      exact .inr ⟨g, cap, cur, e1, h1, by rw [ho g hgS, hb g hgP hgb]; exact h3, h4⟩
attribute [local irreducible] ptV cnV zeros MapC
set_option maxHeartbeats 4000000 in
theorem uDelX (S : Nat) (L M R : List Stp) (P : Nat → Prop) (p : List Int) (c : Cn) (w : World) (h : Set2 w S L R P) (hk : Goes L M p c) (hL : okS L) :
    Calls Try.prog 29 #[.pointer (some ⟨S, 0, none⟩), .agg (ptV p).toArray, .agg (cnV c).toArray] w fun e w' => e = .returned (.tuple #[]) ∧ ∃ P', Set2 w' S M R P' ∧ (∀ q, P' q → P q) ∧ Fr w w' P := by
  obtain ⟨N, hN⟩ : ∃ N, w.heap.size = N := ⟨_, rfl⟩
  have HN := Lib.hid hN
  have HP := Lib.hid hk.hp
  have HC := Lib.hid hk.hc
  have HK := Lib.hid hk
  obtain ⟨v, hv⟩ : ∃ v, ((w.alloc (Obj.cells (ptV p).toArray 38)).alloc (Obj.cells (cnV c).toArray 47)) = v := ⟨_, rfl⟩
  have RP : Hid (BL v N (ptV p) 38) := by
    subst hv hN
    exact bl_keep (heap_alloc_last w _) (Below.heap_alloc _ _ _ (by simp))
  have RC : Hid (BL v (N + 1) (cnV c) 47) := by
    subst hv hN
    have := heap_alloc_last (w.alloc (Obj.cells (ptV p).toArray 38)) (Obj.cells (cnV c).toArray 47)
    rw [World.size_alloc] at this
    exact this
  have BV : Hid (Below N w v) := by subst hv hN; exact ((Below.refl _ w).alloc (Nat.le_refl _) _).alloc (by simp) _
  have VS : Hid (v.heap.size = N + 2) := by subst hv hN; show _ = _; rw [World.size_alloc, World.size_alloc]
  have T0 : Hid (0 ≤ setT L ∧ setT L ≤ 1125899906842624) := ⟨(inv_of hL).nn, (inv_of hL).mx⟩
  have T1 : Hid (0 ≤ setT L - amt c ∧ setT L - amt c ≤ 1125899906842624) := by
    show _ ∧ _
    rw [← hk.T]
    exact ⟨(inv_of hk.ok).nn, (inv_of hk.ok).mx⟩
  have AM : Hid (0 < amt c) := ((inv_of hL).ok p c hk.is).2.2
  obtain ⟨m, A, k, h⟩ := h
  have HW := Lib.hid h
  have HV : Hid (SetAt v S L R P m A k) := Lib.hid (h.keep (fun q hq => BV.out.block q (by rw [← hN]; exact h.lt q hq)) BV.out.size)
  have c0 : v.cell? ⟨S, 0, none⟩ = some (.map m) := HV.out.c0
  have hmp := h.map
  have HSP := Lib.hid h.inS
  clear h hk hL
  cases m with
  | none =>
    have hmp : L = [] := hmp
    have := HK.out.is
    rw [hmp] at this
    cases this
  | some b =>
    obtain ⟨P1, hP1⟩ : ∃ P1, P1 = P := ⟨_, rfl⟩
    have PB : Hid (∀ q, P1 q → P q) := by subst hP1; exact fun q hq => hq
    have HV : Hid (SetAt v S L R P1 (some b) A k) := by subst hP1; exact HV
    obtain ⟨Z, hZ⟩ : ∃ Z, v.heap.size = Z := ⟨_, rfl⟩
    have HZ := Lib.hid hZ
    clear hZ hP1
    go_enter Try.func29, Try.ntmps29
    go_upto_region 1 with (fail)
    (try rw [hv])
    clear hmp c0 hv
    have NB : Hid (S ≠ b ∧ N ≠ b ∧ N + 1 ≠ b) := ⟨set_ne HV.out, map_ne HV.out.map.1 RP.out, map_ne HV.out.map.1 RC.out⟩
    have C0 : Hid (∀ w' : World, (∀ q, q ≠ b → q < Z → w'.heap[q]? = v.heap[q]?) → w'.cell? ⟨S, 0, none⟩ = some (.map (some b))) := fun w' hw => (World.cell?_of_block (w := v) (a := ⟨S, 0, none⟩) (hw S NB.out.1 (by rw [← HZ.out]; exact HV.out.lt S HV.out.inS))).trans HV.out.c0
    have VZ : N + 2 ≤ Z := by have := VS.out; have := HZ.out; omega
    refine wp_region_held_drew (S := (fun w' : World => ∀ q, q ≠ b → q < Z → w'.heap[q]? = v.heap[q]?)) (by kernel_rfl) (by exact fun _ _ _ => rfl) (fun hHeld => ?_)
    refine wpAnyH_take (i := 0) (v := ?_) rfl (by kernel_rfl) (by kernel_rfl) (by kernel_rfl) (fun _ _ _ h => h) (Or.inl ⟨by rfl, ?_⟩) (by assumption) ?_
    rotate_left
    · (intro w hSw; (try dsimp only at hSw); go_simp; try with_reducible rfl)
    simp only [Act.put, List.getElem_toArray, List.getElem_cons_zero, List.setIfInBounds_toArray, List.set_cons_zero, List.set_cons_succ]
    refine wpAnyH_take (i := 1) (v := ?_) rfl (by kernel_rfl) (by kernel_rfl) (by kernel_rfl) (fun _ _ _ h => h) (Or.inl ⟨by rfl, ?_⟩) (by assumption) ?_
    rotate_left
    · (intro w hSw; (try dsimp only at hSw); go_simp; try with_reducible rfl)
    simp only [Act.put, List.getElem_toArray, List.getElem_cons_succ, List.getElem_cons_zero, List.setIfInBounds_toArray, List.set_cons_zero, List.set_cons_succ]
    refine wpAnyH_take (i := 2) (v := ?_) rfl (by kernel_rfl) (by kernel_rfl) (by kernel_rfl) (fun _ _ _ h => h) (Or.inl ⟨by rfl, ?_⟩) (by assumption) ?_
    rotate_left
    · (intro w hSw; (try dsimp only at hSw); go_simp; try with_reducible rfl)
    simp only [Act.put, List.getElem_toArray, List.getElem_cons_succ, List.getElem_cons_zero, List.setIfInBounds_toArray, List.set_cons_zero, List.set_cons_succ]
    refine wpAnyH_take (i := 3) (v := ?_) rfl (by kernel_rfl) (by kernel_rfl) (by kernel_rfl) (fun _ _ _ h => h) (Or.inl ⟨by rfl, ?_⟩) (by assumption) ?_
    rotate_left
    · (intro w hSw; (try dsimp only at hSw); have c0 := C0.out w hSw; go_simp; try with_reducible rfl)
    simp only [Act.put, List.getElem_toArray, List.getElem_cons_succ, List.getElem_cons_zero, List.setIfInBounds_toArray, List.set_cons_zero, List.set_cons_succ]
    refine wpAnyH_take (i := 4) rfl (by kernel_rfl) (by kernel_rfl) (by kernel_rfl) (fun _ _ _ h => h) (yieldsIf_load_mid (by rfl) 38 (.tmp 4) rfl N 0 rfl (ptV p) _ (fun w h => range_keep1 (range_of RP.out) (h N NB.out.2.1 (by omega))) Try.underlying38 rfl (szP HP.out)) (by assumption) ?_
    simp only [Act.put, List.getElem_toArray, List.getElem_cons_succ, List.getElem_cons_zero, List.setIfInBounds_toArray, List.set_cons_zero, List.set_cons_succ]
    refine wpAnyH_ready (rs := [5]) (by kernel_rfl) (by simp) ?_
    refine AllReadyH.cons rfl (fun K hK => ?_) AllReadyH.nil
    refine step_mdel rfl (.tmp 9) (.tmp 10) rfl b (setN M) (setF L) p c rfl rfl (by rw [← HK.out.N]; exact HV.out.map.1.keep rfl) HP.out HK.out.is ?_
    intro w2 hm2 ht2
    have ht := turned_fr ht2
    have KB : Hid (∀ q, q ≠ b → w2.heap[q]? = v.heap[q]?) := fun q hq => ht.2.2.2.2 q hq
    have M2 := Lib.hid hm2
    have F2 : Hid (w2.os = v.os ∧ w2.tape = v.drew.tape ∧ w2.output = v.output ∧ w2.heap.size = v.heap.size) := ⟨ht.1, ht.2.1, ht.2.2.1, ht.2.2.2.1⟩
    clear hHeld hm2 ht2 ht
    refine hK.out _ _ (by exact fun q hq _ => KB.out q hq) (fun hHeld => ?_)
    clear hK K hHeld
    refine wpAnyH_done (by kernel_rfl) ?_ _
    have c1 : w2.cell? ⟨S, 1, none⟩ = some (.int .i64 (setT L)) := (World.cell?_of_block (w := v) (a := ⟨S, 1, none⟩) (KB.out S NB.out.1)).trans HV.out.c1
    have f1 : w2.frozen? ⟨S, 1, none⟩ = false := bl_free (bl_keep HV.out.blk (KB.out S NB.out.1)) 1
    have cA : w2.cell? ⟨N + 1, 8, none⟩ = some (.int .i64 (amt c)) := (World.cell?_of_block (w := v) (a := ⟨N + 1, 8, none⟩) (KB.out (N + 1) NB.out.2.2)).trans (by have := range_cell (range_of RC.out) (cn_amt HC.out.len); rwa [Nat.zero_add] at this)
    obtain ⟨t0, t1⟩ := T0.out
    have t4 := AM.out
    obtain ⟨t2, t3⟩ := T1.out
    clear VZ
    go_upto_region 2 with (fail)
    go_still_tail 10, (by kernel_rfl)
    go_wp2
    refine bodyPost_end (v := .tuple #[]) (by simp [results, Try.results29, go_sem]) rfl ⟨rfl, P1, ⟨some b, A, k, ?_⟩, PB.out, ?_⟩
    · exact (set_done HK.out.ok HK.out.T HV.out (fun q _ hq => KB.out q hq) (by rw [HK.out.F]; exact M2.out) (Nat.le_of_eq F2.out.2.2.2.symm) rfl).keep (fun q _ => rfl) (Nat.le_refl _)
    · refine ⟨F2.out.1.trans BV.out.os, F2.out.2.1.trans BV.out.tape, F2.out.2.2.1.trans BV.out.output, ?_, fun q hq hn => ?_⟩
      · show _ ≤ (w2.setCell _ _).heap.size
        rw [World.size_setCell, F2.out.2.2.2]
        exact BV.out.size
      · have hqS : q ≠ S := fun e => hn (e ▸ HSP.out)
        have hqb : q ≠ b := fun e => hn (e ▸ PB.out b HV.out.map.2)
        exact (heap_set1 _ _ _ hqS).trans ((KB.out q hqb).trans (BV.out.block q (by rw [← HN.out]; exact hq)))
theorem uDel (S : Nat) (L M R : List Stp) (P : Nat → Prop) (p : List Int) (c : Cn) (w : World) (h : Set2 w S L R P) (hk : Goes L M p c) (hL : okS L) :
    Calls Try.prog 29 #[.pointer (some ⟨S, 0, none⟩), .agg (ptV p).toArray, .agg (cnV c).toArray] w fun e w' => e = .returned (.tuple #[]) ∧ ∃ P', Set2 w' S M R P' ∧ (∀ q, P' q → P q ∨ w.heap.size ≤ q) ∧ Fr w w' P :=
  (uDelX S L M R P p c w h hk hL).mono fun _ _ ⟨he, P', h1, h2, h3⟩ => ⟨he, P', h1, fun q hq => .inl (h2 q hq), h3⟩
end Go.Proofs.Ytdggnmlhgglccaa
