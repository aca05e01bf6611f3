/-
  Add.
-/
import Derived.Test.YtdggnmlhgglccaaU9
namespace Go.Proofs.Ytdggnmlhgglccaa
open Go.RowKit
set_option maxRecDepth 100000
theorem run_b75 {o : Oper} {ev : Operand → Value} {w : World} {p : List Int} {c : Cn} {t1 t2 : Tmp} (hp : okP p) (hc : c.ok) (ho : o.op = .build 75 #[(0, .tmp t1), (1, .tmp t2)]) (h0 : ev (.tmp t1) = .agg (ptV p).toArray) (h1 : ev (.tmp t2) = .agg (cnV c).toArray) : (execOp ev o).run Try.prog w = .ok (.value (.agg (stV ⟨p, c, false⟩).toArray)) w := by
  unfold execOp
  simp only [ho, List.map_toArray, List.map_cons, List.map_nil, h0, h1, Sem.run_bind, b75 hp hc, Result.andThen_ok, Sem.run_pure]
theorem comes_add {L : List Stp} {p : List Int} {c : Cn} (hL : okS L) (hp : okP p) (hc : c.ok) (h : mayAdd L p c) (hl : L.length < 1000) : Comes L (⟨p, c, false⟩ :: L) p c :=
  ⟨hp, hc, h.1, setF_put rfl, rfl, setN_put rfl, ⟨hL, hp, hc, h⟩, by omega⟩
attribute [local irreducible] ptV cnV zeros MapC stV
set_option maxHeartbeats 4000000 in
theorem uAddC (S : Nat) (L : List Stp) (P : Nat → Prop) (p : List Int) (c : Cn) (w : World) (h : SetIs w S L P) (hp : okP p) (hc : c.ok) (hl : L.length < 1000) :
    Calls Try.prog 11 #[.pointer (some ⟨S, 0, none⟩), .agg (ptV p).toArray, .agg (cnV c).toArray] w fun e w' => e = .returned (.bool (decide (mayAdd L p c))) ∧ ∃ P', SetIs w' S (if mayAdd L p c then ⟨p, c, false⟩ :: L else L) P' ∧ (∀ q, P' q → P q ∨ w.heap.size ≤ q) ∧ Fr w w' P := by
  obtain ⟨N, hN⟩ : ∃ N, w.heap.size = N := ⟨_, rfl⟩
  have HN := Lib.hid hN
  have HP := Lib.hid hp
  have HC := Lib.hid hc
  have HL := Lib.hid hl
  obtain ⟨v, hv⟩ : ∃ v, ((w.alloc (Obj.cells (ptV p).toArray 38)).alloc (Obj.cells (cnV c).toArray 47)) = v := ⟨_, rfl⟩
  have RP : Hid (BL v N (ptV p) 38) := by
    subst hv hN
    exact bl_keep (heap_alloc_last w _) (Below.heap_alloc _ _ _ (by simp))
  have RC : Hid (BL v (N + 1) (cnV c) 47) := by
    subst hv hN
    have := heap_alloc_last (w.alloc (Obj.cells (ptV p).toArray 38)) (Obj.cells (cnV c).toArray 47)
    rw [World.size_alloc] at this
    exact this
  have BV : Hid (Below N w v) := by subst hv hN; exact ((Below.refl _ w).alloc (Nat.le_refl _) _).alloc (by simp) _
  have VS : Hid (v.heap.size = N + 2) := by subst hv hN; show _ = _; rw [World.size_alloc, World.size_alloc]
  have GV : Hid (SetIs v S L P) := Lib.hid (SetIs.grow h (by rw [HN.out]; exact BV.out))
  have CM := Lib.hid (uMayC S L P p c v GV.out hp hc)
  have PL : Hid (∀ q, P q → q < N) := by obtain ⟨m, A, k, h⟩ := h; exact fun q hq => by rw [← hN]; exact h.lt q hq
  have OK := Lib.hid (Set2.ok h)
  clear h hp hc hl
  by_cases hm : mayAdd L p c
  · rw [if_pos hm]
    rw [decide_eq_true hm] at CM ⊢
    have CO := Lib.hid (comes_add OK.out HP.out HC.out hm HL.out)
    have CP : Hid (∀ w1, Below v.heap.size v w1 → Calls Try.prog 28 #[.pointer (some ⟨S, 0, none⟩), .agg (ptV p).toArray, .agg (cnV c).toArray] w1 fun e w' => e = .returned (.tuple #[]) ∧ ∃ P', Set2 w' S (⟨p, c, false⟩ :: L) L P' ∧ (∀ q, P' q → P q ∨ w1.heap.size ≤ q) ∧ Fr w1 w' P) := fun w1 hb => uPut S L _ L P p c w1 (SetIs.grow GV.out hb) CO.out OK.out
    clear hm
    go_enter Try.func11, Try.ntmps11
    go_upto_region 4 with (first
      | (refine wpList_load_midG (by rfl) 38 (.tmp 4) rfl N 0 rfl (ptV p) _ (range_of RP.out) Try.underlying38 rfl (szP HP.out) ?_)
      | (refine wpList_load_midG (by rfl) 47 (.tmp 5) rfl (N + 1) 0 rfl (cnV c) _ (range_of RC.out) Try.underlying47 rfl (szC HC.out.len) ?_)
      | (go_at_call 27; refine CM.out.mono ?_; rintro e w1 ⟨rfl, hb1⟩; have B1 := Lib.hid hb1; clear hb1)
      | (refine wpList_load_midG (by rfl) 38 (.tmp 4) rfl N 0 rfl (ptV p) _ (range_keep1 (range_of RP.out) (B1.out.block N (by rw [VS.out]; omega))) Try.underlying38 rfl (szP HP.out) ?_)
      | (refine wpList_load_midG (by rfl) 47 (.tmp 5) rfl (N + 1) 0 rfl (cnV c) _ (range_keep1 (range_of RC.out) (B1.out.block (N + 1) (by rw [VS.out]; omega))) Try.underlying47 rfl (szC HC.out.len) ?_)
      | (go_at_call 28; refine (CP.out w1 B1.out).mono ?_; rintro e w2 ⟨rfl, P1, g1, g2, g3⟩; have G2 := Lib.hid g2; have G3 := Lib.hid g3; obtain ⟨m, A, k, g1⟩ := g1; have G := Lib.hid g1; clear g1 g2 g3)
      | fail)
    have W1 : Hid (N + 2 ≤ w1.heap.size) := by show _ ≤ _; rw [← VS.out]; exact B1.out.size
    have RP2 : Hid (BL w2 N (ptV p) 38) := bl_keep RP.out ((G3.out.block N (by have := W1.out; omega) (fun e => by have := PL.out N e; omega)).trans (B1.out.block N (by rw [VS.out]; omega)))
    have RC2 : Hid (BL w2 (N + 1) (cnV c) 47) := bl_keep RC.out ((G3.out.block (N + 1) (by have := W1.out; omega) (fun e => by have := PL.out (N + 1) e; omega)).trans (B1.out.block (N + 1) (by rw [VS.out]; omega)))
    have LP : Hid (N < w2.heap.size) := bl_lt RP2.out
    have LC : Hid (N + 1 < w2.heap.size) := bl_lt RC2.out
    have SN : S < N := PL.out S (by obtain ⟨m', A', k', h'⟩ := GV.out; exact h'.inS)
    have NP : Hid (N ≠ S) := by show _ ≠ _; omega
    have NC : Hid (N + 1 ≠ S) := by show _ ≠ _; omega
    have RL : Hid (L.length ≤ 100000) := by show _ ≤ _; have := HL.out; omega
    have c2 : w2.cell? ⟨S, 2, none⟩ = some (.slice A L.length k) := G.out.c2
    have FIN : Hid (∀ u3, (∃ P', Set2 u3 S (⟨p, c, false⟩ :: L) (⟨p, c, false⟩ :: L) P' ∧ (∀ q, P' q → P1 q ∨ w2.heap.size ≤ q) ∧ Fr w2 u3 P1) → ∃ P', SetIs u3 S (⟨p, c, false⟩ :: L) P' ∧ (∀ q, P' q → P q ∨ w.heap.size ≤ q) ∧ Fr w u3 P) := fun u3 ⟨P', d1, d2, d3⟩ => by
      have s1 : w.heap.size ≤ w1.heap.size := by have := W1.out; have := HN.out; omega
      have f1 : Fr w w1 P := Fr.of_below (by rw [HN.out]; exact BV.out.trans (B1.out.mono (by rw [VS.out]; omega)))
      have f2 : Fr w w2 P := f1.trans G3.out fun q hq => .inl hq
      refine ⟨P', d1, fun q hq => ?_, f2.trans d3 fun q hq => (G2.out q hq).imp id fun e => Nat.le_trans s1 e⟩
      rcases d2 q hq with e | e
      · exact (G2.out q e).imp id fun e => Nat.le_trans s1 e
      · exact .inr (Nat.le_trans f2.size e)
    clear hv SN
    refine wp_region_held_drew (S := (fun w' : World => w'.heap[N]? = w2.heap[N]? ∧ w'.heap[(N + 1)]? = w2.heap[(N + 1)]?)) (by kernel_rfl) (by exact ⟨rfl, rfl⟩) (fun hHeld => ?_)
    refine wpAnyH_take (i := 0) (v := ?_) rfl (by kernel_rfl) (by kernel_rfl) (by kernel_rfl) (fun _ _ _ h => h) (Or.inl ⟨by rfl, ?_⟩) (by assumption) ?_
    rotate_left
    · (intro w hSw; (try dsimp only at hSw); go_simp; try with_reducible rfl)
    simp only [Act.put, List.getElem_toArray, List.getElem_cons_zero, List.setIfInBounds_toArray, List.set_cons_zero, List.set_cons_succ]
    refine wpAnyH_take (i := 1) (v := ?_) rfl (by kernel_rfl) (by kernel_rfl) (by kernel_rfl) (fun _ _ _ h => h) (Or.inl ⟨by rfl, ?_⟩) (by assumption) ?_
    rotate_left
    · (intro w hSw; (try dsimp only at hSw); go_simp; try with_reducible rfl)
    simp only [Act.put, List.getElem_toArray, List.getElem_cons_succ, List.getElem_cons_zero, List.setIfInBounds_toArray, List.set_cons_zero, List.set_cons_succ]
    refine wpAnyH_take (i := 2) (v := ?_) rfl (by kernel_rfl) (by kernel_rfl) (by kernel_rfl) (fun _ _ _ h => h) (Or.inl ⟨by rfl, ?_⟩) (by assumption) ?_
    rotate_left
    · (intro w hSw; (try dsimp only at hSw); go_simp; try with_reducible rfl)
    simp only [Act.put, List.getElem_toArray, List.getElem_cons_succ, List.getElem_cons_zero, List.setIfInBounds_toArray, List.set_cons_zero, List.set_cons_succ]
    refine wpAnyH_take (i := 3) (v := ?_) rfl (by kernel_rfl) (by kernel_rfl) (by kernel_rfl) (fun _ _ _ h => h) (Or.inl ⟨by rfl, ?_⟩) (by assumption) ?_
    rotate_left
    · (intro w hSw; (try dsimp only at hSw); go_simp; try with_reducible rfl)
    simp only [Act.put, List.getElem_toArray, List.getElem_cons_succ, List.getElem_cons_zero, List.setIfInBounds_toArray, List.set_cons_zero, List.set_cons_succ]
    refine wpAnyH_take (i := 5) rfl (by kernel_rfl) (by kernel_rfl) (by kernel_rfl) (fun _ _ _ h => h) (yieldsIf_load_mid (by rfl) 38 (.tmp 4) rfl N 0 rfl (ptV p) _ (fun w h => range_keep1 (range_of RP2.out) h.1) Try.underlying38 rfl (szP HP.out)) (by assumption) ?_
    simp only [Act.put, List.getElem_toArray, List.getElem_cons_succ, List.getElem_cons_zero, List.setIfInBounds_toArray, List.set_cons_zero, List.set_cons_succ]
    refine wpAnyH_take (i := 6) rfl (by kernel_rfl) (by kernel_rfl) (by kernel_rfl) (fun _ _ _ h => h) (yieldsIf_load_mid (by rfl) 47 (.tmp 5) rfl (N + 1) 0 rfl (cnV c) _ (fun w h => range_keep1 (range_of RC2.out) h.2) Try.underlying47 rfl (szC HC.out.len)) (by assumption) ?_
    simp only [Act.put, List.getElem_toArray, List.getElem_cons_succ, List.getElem_cons_zero, List.setIfInBounds_toArray, List.set_cons_zero, List.set_cons_succ]
    refine wpAnyH_take (i := 7) (v := .agg (stV ⟨p, c, false⟩).toArray) rfl (by kernel_rfl) (by kernel_rfl) (by kernel_rfl) (fun _ _ _ h => h) (Or.inl ⟨by rfl, fun w _ => run_b75 HP.out HC.out (by rfl) rfl rfl⟩) (by assumption) ?_
    simp only [Act.put, List.getElem_toArray, List.getElem_cons_succ, List.getElem_cons_zero, List.setIfInBounds_toArray, List.set_cons_zero, List.set_cons_succ]
    refine wpAnyH_ready (rs := [4, 8]) (by kernel_rfl) (by simp) ?_
    refine AllReadyH.cons rfl (fun K hK => ?_) (AllReadyH.cons rfl (fun K hK => ?_) AllReadyH.nil)
    · go_simp
      refine hK.out _ _ ⟨rfl, rfl⟩ (fun hHeld => ?_)
      clear hK K
      refine wpAnyH_ready (rs := [8]) (by kernel_rfl) (by simp) ?_
      refine AllReadyH.cons rfl (fun K hK => ?_) AllReadyH.nil
      refine step_bs1 (by rfl) (.tmp 27) (stV ⟨p, c, false⟩) rfl rfl Try.underlying68 infoS (stV_len HP.out HC.out) (by decide) (by decide) ?_
      refine hK.out _ _ ⟨Below.heap_alloc _ _ _ LP.out, Below.heap_alloc _ _ _ LC.out⟩ (fun hHeld => ?_)
      clear hK K
      refine wpAnyH_ready (rs := [9]) (by kernel_rfl) (by simp) ?_
      refine AllReadyH.cons rfl (fun K hK => ?_) AllReadyH.nil
      refine step_apS rfl (.tmp 24) (.tmp 28) rfl A k L ⟨p, c, false⟩ rfl (G.out.keep (w' := w2.drew.alloc (.cells (stV ⟨p, c, false⟩).toArray 75)) (fun q hq => Below.heap_alloc w2.drew _ q (G.out.lt q hq)) (by rw [World.size_alloc]; exact Nat.le_succ _)).row w2.drew.heap.size rfl HP.out HC.out (range_new _ _ _) RL.out ?_
      intro A2 k2 u2 hr hg ho
      have D := Lib.hid (add_done (x := ⟨p, c, false⟩) G.out ((Below.refl _ w2).drew.alloc (Nat.le_refl _) _) hr hg ho)
      have hown := fun q hq => row_own G.out.row (q := q) hq
      have kp : u2.heap[N]? = w2.heap[N]? := (hg.block _ (by show _ < (World.alloc _ _).heap.size; rw [World.size_alloc]; exact Nat.lt_succ_of_lt LP.out) (fun e => by obtain ⟨cur, h3⟩ := hown _ e.symm; have h4 := RP2.out; unfold BL at h4; rw [h3] at h4; have := (Obj.cells.inj (Option.some.inj h4)).2.1; revert this; decide)).trans (Below.heap_alloc w2.drew _ _ LP.out)
      have kc : u2.heap[(N + 1)]? = w2.heap[(N + 1)]? := (hg.block _ (by show _ < (World.alloc _ _).heap.size; rw [World.size_alloc]; exact Nat.lt_succ_of_lt LC.out) (fun e => by obtain ⟨cur, h3⟩ := hown _ e.symm; have h4 := RC2.out; unfold BL at h4; rw [h3] at h4; have := (Obj.cells.inj (Option.some.inj h4)).2.1; revert this; decide)).trans (Below.heap_alloc w2.drew _ _ LC.out)
      have ks : u2.heap[S]? = w2.heap[S]? := (hg.block _ (by show _ < (World.alloc _ _).heap.size; rw [World.size_alloc]; exact Nat.lt_succ_of_lt (G.out.lt S G.out.inS)) (fun e => by obtain ⟨cur, h3⟩ := hown _ e.symm; exact row_ne G.out.blk h3 rfl)).trans (Below.heap_alloc w2.drew _ _ (G.out.lt S G.out.inS))
      have f2 : u2.frozen? ⟨S, 2, none⟩ = false := bl_free (bl_keep G.out.blk ks) 2
      have c2' : u2.cell? ⟨S, 2, none⟩ = some (.slice A L.length k) := (World.cell?_of_block (w := w2) (a := ⟨S, 2, none⟩) ks).trans G.out.c2
      have KP := Lib.hid kp
      have KC := Lib.hid kc
      clear hr hg ho hown kp kc ks
      refine hK.out _ _ ⟨KP.out, KC.out⟩ (fun hHeld => ?_)
      clear hK K
      refine wpAnyH_take (i := 10) (v := ?_) rfl (by kernel_rfl) (by kernel_rfl) (by kernel_rfl) (fun _ _ _ h => h) (Or.inl ⟨by rfl, ?_⟩) (by assumption) ?_
      rotate_left
      · (intro w hSw; (try dsimp only at hSw); go_simp; try with_reducible rfl)
      simp only [Act.put, List.getElem_toArray, List.getElem_cons_succ, List.getElem_cons_zero, List.setIfInBounds_toArray, List.set_cons_zero, List.set_cons_succ]
      refine wpAnyH_take (i := 11) (v := ?_) rfl (by kernel_rfl) (by kernel_rfl) (by kernel_rfl) (fun _ _ _ h => h) (Or.inl ⟨by rfl, ?_⟩) (by assumption) ?_
      rotate_left
      · (intro w hSw; (try dsimp only at hSw); go_simp; try with_reducible rfl)
      simp only [Act.put, List.getElem_toArray, List.getElem_cons_succ, List.getElem_cons_zero, List.setIfInBounds_toArray, List.set_cons_zero, List.set_cons_succ]
      refine wpAnyH_ready (rs := [12]) (by kernel_rfl) (by simp) ?_
      refine AllReadyH.cons rfl (fun K hK => ?_) AllReadyH.nil
      go_simp
      refine hK.out _ _ ⟨(heap_set1 _ _ _ NP.out).trans KP.out, (heap_set1 _ _ _ NC.out).trans KC.out⟩ (fun hHeld => ?_)
      clear hK K hHeld c2 c2' f2
      refine wpAnyH_done (by kernel_rfl) ?_ _
      go_wp2
      go_ret
      exact ⟨rfl, FIN.out _ D.out⟩
    · refine step_bs1 (by rfl) (.tmp 27) (stV ⟨p, c, false⟩) rfl rfl Try.underlying68 infoS (stV_len HP.out HC.out) (by decide) (by decide) ?_
      refine hK.out _ _ ⟨Below.heap_alloc _ _ _ LP.out, Below.heap_alloc _ _ _ LC.out⟩ (fun hHeld => ?_)
      clear hK K
      have c4 : (w2.alloc (Obj.cells (stV ⟨p, c, false⟩).toArray 75)).cell? ⟨S, 2, none⟩ = some (.slice A L.length k) := (World.cell?_of_block (w := w2) (a := ⟨S, 2, none⟩) (Below.heap_alloc w2 _ S (G.out.lt S G.out.inS))).trans G.out.c2
      refine wpAnyH_ready (rs := [4]) (by kernel_rfl) (by simp) ?_
      refine AllReadyH.cons rfl (fun K hK => ?_) AllReadyH.nil
      go_simp
      refine hK.out _ _ ⟨Below.heap_alloc _ _ _ LP.out, Below.heap_alloc _ _ _ LC.out⟩ (fun hHeld => ?_)
      clear hK K
      clear c4
      refine wpAnyH_ready (rs := [9]) (by kernel_rfl) (by simp) ?_
      refine AllReadyH.cons rfl (fun K hK => ?_) AllReadyH.nil
      refine step_apS rfl (.tmp 24) (.tmp 28) rfl A k L ⟨p, c, false⟩ rfl (G.out.keep (w' := w2.drew.alloc (.cells (stV ⟨p, c, false⟩).toArray 75)) (fun q hq => Below.heap_alloc w2.drew _ q (G.out.lt q hq)) (by rw [World.size_alloc]; exact Nat.le_succ _)).row w2.drew.heap.size rfl HP.out HC.out (range_new _ _ _) RL.out ?_
      intro A2 k2 u2 hr hg ho
      have D := Lib.hid (add_done (x := ⟨p, c, false⟩) G.out ((Below.refl _ w2).drew.alloc (Nat.le_refl _) _) hr hg ho)
      have hown := fun q hq => row_own G.out.row (q := q) hq
      have kp : u2.heap[N]? = w2.heap[N]? := (hg.block _ (by show _ < (World.alloc _ _).heap.size; rw [World.size_alloc]; exact Nat.lt_succ_of_lt LP.out) (fun e => by obtain ⟨cur, h3⟩ := hown _ e.symm; have h4 := RP2.out; unfold BL at h4; rw [h3] at h4; have := (Obj.cells.inj (Option.some.inj h4)).2.1; revert this; decide)).trans (Below.heap_alloc w2.drew _ _ LP.out)
      have kc : u2.heap[(N + 1)]? = w2.heap[(N + 1)]? := (hg.block _ (by show _ < (World.alloc _ _).heap.size; rw [World.size_alloc]; exact Nat.lt_succ_of_lt LC.out) (fun e => by obtain ⟨cur, h3⟩ := hown _ e.symm; have h4 := RC2.out; unfold BL at h4; rw [h3] at h4; have := (Obj.cells.inj (Option.some.inj h4)).2.1; revert this; decide)).trans (Below.heap_alloc w2.drew _ _ LC.out)
      have ks : u2.heap[S]? = w2.heap[S]? := (hg.block _ (by show _ < (World.alloc _ _).heap.size; rw [World.size_alloc]; exact Nat.lt_succ_of_lt (G.out.lt S G.out.inS)) (fun e => by obtain ⟨cur, h3⟩ := hown _ e.symm; exact row_ne G.out.blk h3 rfl)).trans (Below.heap_alloc w2.drew _ _ (G.out.lt S G.out.inS))
      have f2 : u2.frozen? ⟨S, 2, none⟩ = false := bl_free (bl_keep G.out.blk ks) 2
      have c2' : u2.cell? ⟨S, 2, none⟩ = some (.slice A L.length k) := (World.cell?_of_block (w := w2) (a := ⟨S, 2, none⟩) ks).trans G.out.c2
      have KP := Lib.hid kp
      have KC := Lib.hid kc
      clear hr hg ho hown kp kc ks
      refine hK.out _ _ ⟨KP.out, KC.out⟩ (fun hHeld => ?_)
      clear hK K
      refine wpAnyH_take (i := 10) (v := ?_) rfl (by kernel_rfl) (by kernel_rfl) (by kernel_rfl) (fun _ _ _ h => h) (Or.inl ⟨by rfl, ?_⟩) (by assumption) ?_
      rotate_left
      · (intro w hSw; (try dsimp only at hSw); go_simp; try with_reducible rfl)
      simp only [Act.put, List.getElem_toArray, List.getElem_cons_succ, List.getElem_cons_zero, List.setIfInBounds_toArray, List.set_cons_zero, List.set_cons_succ]
      refine wpAnyH_take (i := 11) (v := ?_) rfl (by kernel_rfl) (by kernel_rfl) (by kernel_rfl) (fun _ _ _ h => h) (Or.inl ⟨by rfl, ?_⟩) (by assumption) ?_
      rotate_left
      · (intro w hSw; (try dsimp only at hSw); go_simp; try with_reducible rfl)
      simp only [Act.put, List.getElem_toArray, List.getElem_cons_succ, List.getElem_cons_zero, List.setIfInBounds_toArray, List.set_cons_zero, List.set_cons_succ]
      refine wpAnyH_ready (rs := [12]) (by kernel_rfl) (by simp) ?_
      refine AllReadyH.cons rfl (fun K hK => ?_) AllReadyH.nil
      go_simp
      refine hK.out _ _ ⟨(heap_set1 _ _ _ NP.out).trans KP.out, (heap_set1 _ _ _ NC.out).trans KC.out⟩ (fun hHeld => ?_)
      clear hK K hHeld c2 c2' f2
      refine wpAnyH_done (by kernel_rfl) ?_ _
      go_wp2
      go_ret
      exact ⟨rfl, FIN.out _ D.out⟩
  · rw [if_neg hm]
    rw [decide_eq_false hm] at CM ⊢
    clear hm
    have FIN : Hid (∀ w1, Below v.heap.size v w1 → ∃ P', SetIs w1 S L P' ∧ (∀ q, P' q → P q ∨ w.heap.size ≤ q) ∧ Fr w w1 P) := fun w1 hb =>
      ⟨P, SetIs.grow GV.out hb, fun q hq => .inl hq, Fr.of_below (by rw [HN.out]; exact BV.out.trans (hb.mono (by rw [VS.out]; omega)))⟩
    go_enter Try.func11, Try.ntmps11
    go_wp2_with (first
      | (refine wpList_load_midG (by rfl) 38 (.tmp 4) rfl N 0 rfl (ptV p) _ (range_of RP.out) Try.underlying38 rfl (szP HP.out) ?_)
      | (refine wpList_load_midG (by rfl) 47 (.tmp 5) rfl (N + 1) 0 rfl (cnV c) _ (range_of RC.out) Try.underlying47 rfl (szC HC.out.len) ?_)
      | (go_at_call 27; refine CM.out.mono ?_; rintro e w1 ⟨rfl, hb1⟩; have B1 := Lib.hid hb1; clear hb1)
      | fail)
    go_ret
    exact ⟨rfl, FIN.out _ B1.out⟩
end Go.Proofs.Ytdggnmlhgglccaa
