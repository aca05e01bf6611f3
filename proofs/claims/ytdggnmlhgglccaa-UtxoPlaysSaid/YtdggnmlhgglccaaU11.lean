/-
  Spend.
-/
import Derived.Test.YtdggnmlhgglccaaU10
namespace Go.Proofs.Ytdggnmlhgglccaa
open Go.RowKit
set_option maxRecDepth 100000
theorem run_b75t {o : Oper} {ev : Operand → Value} {w : World} {p : List Int} {c : Cn} {t1 t2 : Tmp} (hp : okP p) (hc : c.ok) (ho : o.op = .build 75 #[(0, .tmp t1), (1, .tmp t2), (2, .const (.bool true))]) (h0 : ev (.tmp t1) = .agg (ptV p).toArray) (h1 : ev (.tmp t2) = .agg (cnV c).toArray) (h2 : ev (.const (.bool true)) = .bool true) : (execOp ev o).run Try.prog w = .ok (.value (.agg (stV ⟨p, c, true⟩).toArray)) w := by
  unfold execOp
  simp only [ho, List.map_toArray, List.map_cons, List.map_nil, h0, h1, h2, Sem.run_bind, b75t hp hc, Result.andThen_ok, Sem.run_pure]
theorem goes_spend {L : List Stp} {p : List Int} {c : Cn} (hL : okS L) (hp : okP p) (h : setF L p = some c) : Goes L (⟨p, c, true⟩ :: L) p c :=
  have hc := ((inv_of hL).ok p c h).2.1
  have ho : okS (⟨p, c, true⟩ :: L) := ⟨hL, hp, hc, h⟩
  ⟨hp, hc, h, setF_del rfl, rfl, setN_del ho rfl, ho⟩
theorem Fr.of_below2 (u : World) (q0 : Nat) (cs : Array Value) : Fr u (u.setRow q0 cs) (fun q => q = q0) := ⟨rfl, rfl, rfl, by simp [World.setRow], fun q _ hq => setRow_other _ _ _ _ hq⟩
def spendL (L : List Stp) (p : List Int) : List Stp := match setF L p with
  | some c => ⟨p, c, true⟩ :: L
  | none => L
theorem b47 (w : World) : (Instr.build 47 #[]).run Try.prog w = .ok (.agg (cnV cn0).toArray) w := by kernel_rfl
attribute [local irreducible] ptV cnV zeros MapC stV
set_option maxHeartbeats 4000000 in
theorem uSpend (S : Nat) (L : List Stp) (P : Nat → Prop) (p : List Int) (w : World) (h : SetIs w S L P) (hp : okP p) (hl : L.length < 1000) :
    Calls Try.prog 14 #[.pointer (some ⟨S, 0, none⟩), .agg (ptV p).toArray] w fun e w' => e = .returned (.tuple #[.agg (cnV ((setF L p).getD cn0)).toArray, .bool (setF L p).isSome]) ∧ ∃ P', SetIs w' S (spendL L p) P' ∧ (∀ q, P' q → P q ∨ w.heap.size ≤ q) ∧ Fr w w' P := by
  obtain ⟨N, hN⟩ : ∃ N, w.heap.size = N := ⟨_, rfl⟩
  have HN := Lib.hid hN
  have HP := Lib.hid hp
  have HL := Lib.hid hl
  have hz : ∀ w, (zeroValue 47).run Try.prog w = .ok (.agg (cnV cn0).toArray) w := z47
  obtain ⟨v, hv⟩ : ∃ v, ((w.alloc (Obj.cells (ptV p).toArray 38)).alloc (Obj.cells (cnV cn0).toArray 47)) = v := ⟨_, rfl⟩
  have RP : Hid (BL v N (ptV p) 38) := by
    subst hv hN
    exact bl_keep (heap_alloc_last w _) (Below.heap_alloc _ _ _ (by simp))
  have RC : Hid (BL v (N + 1) (cnV cn0) 47) := by
    subst hv hN
    have := heap_alloc_last (w.alloc (Obj.cells (ptV p).toArray 38)) (Obj.cells (cnV cn0).toArray 47)
    rw [World.size_alloc] at this
    exact this
  have BV : Hid (Below N w v) := by subst hv hN; exact ((Below.refl _ w).alloc (Nat.le_refl _) _).alloc (by simp) _
  have VS : Hid (v.heap.size = N + 2) := by subst hv hN; show _ = _; rw [World.size_alloc, World.size_alloc]
  have GV : Hid (SetIs v S L P) := Lib.hid (SetIs.grow h (by rw [HN.out]; exact BV.out))
  have CG := Lib.hid (uGet S L P p v GV.out hp)
  have PL : Hid (∀ q, P q → q < N) := by obtain ⟨m, A, k, h⟩ := h; exact fun q hq => by rw [← hN]; exact h.lt q hq
  have OK := Lib.hid (Set2.ok h)
  unfold spendL
  clear h hp hl
  cases hF : setF L p with
  | some c =>
    have HC : Hid c.ok := ((inv_of OK.out).ok p c hF).2.1
    have CO := Lib.hid (goes_spend OK.out HP.out hF)
    have CP : Hid (∀ w1, Below v.heap.size v w1 → Calls Try.prog 29 #[.pointer (some ⟨S, 0, none⟩), .agg (ptV p).toArray, .agg (cnV c).toArray] w1 fun e w' => e = .returned (.tuple #[]) ∧ ∃ P', Set2 w' S (⟨p, c, true⟩ :: L) L P' ∧ (∀ q, P' q → P q ∨ w1.heap.size ≤ q) ∧ Fr w1 w' P) := fun w1 hb => uDel S L _ L P p c w1 (SetIs.grow GV.out hb) CO.out OK.out
    rw [hF] at CG
    have CG : Hid (Calls Try.prog 21 #[.pointer (some ⟨S, 0, none⟩), .agg (ptV p).toArray] v fun e w' => e = .returned (.tuple #[.agg (cnV c).toArray, .bool true]) ∧ Below v.heap.size v w') := CG
    show Calls _ _ _ _ fun e w' => e = .returned (.tuple #[.agg (cnV c).toArray, .bool true]) ∧ ∃ P', SetIs w' S (⟨p, c, true⟩ :: L) P' ∧ (∀ q, P' q → P q ∨ w.heap.size ≤ q) ∧ Fr w w' P
    clear hF
    go_enter Try.func14, Try.ntmps14
    go_upto_region 2 with (first
      | (refine wpList_load_midG (by rfl) 38 (.tmp 3) rfl N 0 rfl (ptV p) _ (range_of RP.out) Try.underlying38 rfl (szP HP.out) ?_)
      | (go_at_call 21; refine CG.out.mono ?_; rintro e w0 ⟨rfl, hb1⟩; have B0 := Lib.hid hb1; clear hb1)
      | (refine wpList_store_rowTo rfl 47 (.tmp 6) (.tmp 12) rfl rfl _ (cnV c).toArray rfl rfl 47 _ (heap_alloc_last w0 _) (szCA HC.out.len) (szCC cn0_len HC.out.len) (all_oneCell_toArray (cn_one c)) ?_)
      | fail)
    obtain ⟨Z, hZ⟩ : ∃ Z, w0.heap.size = Z := ⟨_, rfl⟩
    have NZ : Hid (N + 2 ≤ Z) := by show _ ≤ _; rw [← hZ, ← VS.out]; exact B0.out.size
    have B1 : Hid (Below v.heap.size v ((w0.alloc (Obj.cells (cnV cn0).toArray 47)).setRow w0.heap.size (cnV c).toArray)) := Lib.hid (below_setRow (B0.out.alloc B0.out.size _) B0.out.size _)
    have RZ : Hid (BL ((w0.alloc (Obj.cells (cnV cn0).toArray 47)).setRow w0.heap.size (cnV c).toArray) Z (cnV c) 47) := by rw [← hZ]; exact setRow_heap _ _ _ _ _ _ (heap_alloc_last w0 _)
    rw [hZ] at *
    generalize (w0.alloc (Obj.cells (cnV cn0).toArray 47)).setRow Z (cnV c).toArray = w1 at *
    have W1 : Hid (N + 2 ≤ w1.heap.size) := by show _ ≤ _; rw [← VS.out]; exact B1.out.size
    have ZW : Hid (Z < w1.heap.size) := bl_lt RZ.out
    have RP1 : Hid (BL w1 N (ptV p) 38) := bl_keep RP.out (B1.out.block N (by rw [VS.out]; omega))
    have Q1 : Hid (BL w1 (N + 1) (cnV cn0) 47) := bl_keep RC.out (B1.out.block (N + 1) (by rw [VS.out]; omega))
    clear hZ
    go_upto_region 5 with (first
      | (refine wpList_load_midG (by rfl) 38 (.tmp 3) rfl N 0 rfl (ptV p) _ (range_of RP1.out) Try.underlying38 rfl (szP HP.out) ?_)
      | (refine wpList_load_midG (by rfl) 47 (.tmp 6) rfl Z 0 rfl (cnV c) _ (range_of RZ.out) Try.underlying47 rfl (szC HC.out.len) ?_)
      | (go_at_call 29; refine (CP.out w1 B1.out).mono ?_; rintro e w2 ⟨rfl, P1, g1, g2, g3⟩; have G2 := Lib.hid g2; have G3 := Lib.hid g3; obtain ⟨m, A, k, g1⟩ := g1; have G := Lib.hid g1; clear g1 g2 g3)
      | fail)
    have NP0 : ∀ q, N ≤ q → ¬ P q := fun q hq e => by have := PL.out q e; omega
    have RP2 : Hid (BL w2 N (ptV p) 38) := bl_keep RP1.out (G3.out.block N (by have := W1.out; omega) (NP0 N (Nat.le_refl _)))
    have Q2 : Hid (BL w2 (N + 1) (cnV cn0) 47) := bl_keep Q1.out (G3.out.block (N + 1) (by have := W1.out; omega) (NP0 (N + 1) (by omega)))
    have RC2 : Hid (BL w2 Z (cnV c) 47) := bl_keep RZ.out (G3.out.block Z ZW.out (NP0 Z (by have := NZ.out; omega)))
    have LP : Hid (N < w2.heap.size) := bl_lt RP2.out
    have LC : Hid (Z < w2.heap.size) := bl_lt RC2.out
    have SN : S < N := PL.out S (by obtain ⟨m', A', k', h'⟩ := GV.out; exact h'.inS)
    have NP : Hid (N ≠ S) := by show _ ≠ _; omega
    have NC : Hid (Z ≠ S) := by show _ ≠ _; have := NZ.out; omega
    have RL : Hid (L.length ≤ 100000) := by show _ ≤ _; have := HL.out; omega
    have c2 : w2.cell? ⟨S, 2, none⟩ = some (.slice A L.length k) := G.out.c2
    have FIN : Hid (∀ (u3 : World) (P' : Nat → Prop), Set2 u3 S (⟨p, c, true⟩ :: L) (⟨p, c, true⟩ :: L) P' → (∀ q, P' q → P1 q ∨ w2.heap.size ≤ q) → Fr w2 u3 P1 → ∃ P', SetIs (u3.setRow (N + 1) (cnV c).toArray) S (⟨p, c, true⟩ :: L) P' ∧ (∀ q, P' q → P q ∨ w.heap.size ≤ q) ∧ Fr w (u3.setRow (N + 1) (cnV c).toArray) P) := fun u3 P' d1 d2 d3 => by
      have s1 : w.heap.size ≤ w1.heap.size := by have := W1.out; have := HN.out; omega
      have f1 : Fr w w1 P := Fr.of_below (by rw [HN.out]; exact BV.out.trans (B1.out.mono (by rw [VS.out]; omega)))
      have f2 : Fr w w2 P := f1.trans G3.out fun q hq => .inl hq
      have f3 : Fr w u3 P := f2.trans d3 fun q hq => (G2.out q hq).imp id fun e => Nat.le_trans s1 e
      have hne : ∀ q, P' q → q ≠ N + 1 := fun q hq e => by
        subst e
        rcases d2 _ hq with e | e
        · rcases G2.out _ e with e | e
          · exact NP0 _ (by omega) e
          · have := W1.out; omega
        · have := bl_lt Q2.out; omega
      refine ⟨P', SetIs.keep d1 (fun q hq => setRow_other _ _ _ _ (hne q hq)) (by simp [World.setRow]), fun q hq => ?_, ?_⟩
      · rcases d2 q hq with e | e
        · exact (G2.out q e).imp id fun e => Nat.le_trans s1 e
        · exact .inr (Nat.le_trans f2.size e)
      · exact f3.trans (Fr.of_below2 u3 (N + 1) (cnV c).toArray) (fun q hq => .inr (by rw [hq, HN.out]; omega))
    clear SN NP0
    refine wp_region_held_drew (S := (fun w' : World => w'.heap[N]? = w2.heap[N]? ∧ w'.heap[Z]? = w2.heap[Z]?)) (by kernel_rfl) (by exact ⟨rfl, rfl⟩) (fun hHeld => ?_)
    refine wpAnyH_take (i := 0) (v := ?_) rfl (by kernel_rfl) (by kernel_rfl) (by kernel_rfl) (fun _ _ _ h => h) (Or.inl ⟨by rfl, ?_⟩) (by assumption) ?_
    rotate_left
    · (intro w hSw; (try dsimp only at hSw); go_simp; try with_reducible rfl)
    simp only [Act.put, List.getElem_toArray, List.getElem_cons_zero, List.setIfInBounds_toArray, List.set_cons_zero, List.set_cons_succ]
    refine wpAnyH_take (i := 1) (v := ?_) rfl (by kernel_rfl) (by kernel_rfl) (by kernel_rfl) (fun _ _ _ h => h) (Or.inl ⟨by rfl, ?_⟩) (by assumption) ?_
    rotate_left
    · (intro w hSw; (try dsimp only at hSw); go_simp; try with_reducible rfl)
    simp only [Act.put, List.getElem_toArray, List.getElem_cons_succ, List.getElem_cons_zero, List.setIfInBounds_toArray, List.set_cons_zero, List.set_cons_succ]
    refine wpAnyH_take (i := 2) (v := ?_) rfl (by kernel_rfl) (by kernel_rfl) (by kernel_rfl) (fun _ _ _ h => h) (Or.inl ⟨by rfl, ?_⟩) (by assumption) ?_
    rotate_left
    · (intro w hSw; (try dsimp only at hSw); go_simp; try with_reducible rfl)
    simp only [Act.put, List.getElem_toArray, List.getElem_cons_succ, List.getElem_cons_zero, List.setIfInBounds_toArray, List.set_cons_zero, List.set_cons_succ]
    refine wpAnyH_take (i := 3) (v := ?_) rfl (by kernel_rfl) (by kernel_rfl) (by kernel_rfl) (fun _ _ _ h => h) (Or.inl ⟨by rfl, ?_⟩) (by assumption) ?_
    rotate_left
    · (intro w hSw; (try dsimp only at hSw); go_simp; try with_reducible rfl)
    simp only [Act.put, List.getElem_toArray, List.getElem_cons_succ, List.getElem_cons_zero, List.setIfInBounds_toArray, List.set_cons_zero, List.set_cons_succ]
    refine wpAnyH_take (i := 5) rfl (by kernel_rfl) (by kernel_rfl) (by kernel_rfl) (fun _ _ _ h => h) (yieldsIf_load_mid (by rfl) 38 (.tmp 3) rfl N 0 rfl (ptV p) _ (fun w h => range_keep1 (range_of RP2.out) h.1) Try.underlying38 rfl (szP HP.out)) (by assumption) ?_
    simp only [Act.put, List.getElem_toArray, List.getElem_cons_succ, List.getElem_cons_zero, List.setIfInBounds_toArray, List.set_cons_zero, List.set_cons_succ]
    refine wpAnyH_take (i := 6) rfl (by kernel_rfl) (by kernel_rfl) (by kernel_rfl) (fun _ _ _ h => h) (yieldsIf_load_mid (by rfl) 47 (.tmp 6) rfl Z 0 rfl (cnV c) _ (fun w h => range_keep1 (range_of RC2.out) h.2) Try.underlying47 rfl (szC HC.out.len)) (by assumption) ?_
    simp only [Act.put, List.getElem_toArray, List.getElem_cons_succ, List.getElem_cons_zero, List.setIfInBounds_toArray, List.set_cons_zero, List.set_cons_succ]
    refine wpAnyH_take (i := 7) (v := .agg (stV ⟨p, c, true⟩).toArray) rfl (by kernel_rfl) (by kernel_rfl) (by kernel_rfl) (fun _ _ _ h => h) (Or.inl ⟨by rfl, fun w _ => run_b75t HP.out HC.out (by rfl) rfl rfl rfl⟩) (by assumption) ?_
    simp only [Act.put, List.getElem_toArray, List.getElem_cons_succ, List.getElem_cons_zero, List.setIfInBounds_toArray, List.set_cons_zero, List.set_cons_succ]
    refine wpAnyH_ready (rs := [4, 8]) (by kernel_rfl) (by simp) ?_
    refine AllReadyH.cons rfl (fun K hK => ?_) (AllReadyH.cons rfl (fun K hK => ?_) AllReadyH.nil)
    · go_simp
      refine hK.out _ _ ⟨rfl, rfl⟩ (fun hHeld => ?_)
      clear hK K
      refine wpAnyH_ready (rs := [8]) (by kernel_rfl) (by simp) ?_
      refine AllReadyH.cons rfl (fun K hK => ?_) AllReadyH.nil
      refine step_bs1 (by rfl) (.tmp 28) (stV ⟨p, c, true⟩) rfl rfl Try.underlying68 infoS (stV_len HP.out HC.out) (by decide) (by decide) ?_
      refine hK.out _ _ ⟨Below.heap_alloc _ _ _ LP.out, Below.heap_alloc _ _ _ LC.out⟩ (fun hHeld => ?_)
      clear hK K
      refine wpAnyH_ready (rs := [9]) (by kernel_rfl) (by simp) ?_
      refine AllReadyH.cons rfl (fun K hK => ?_) AllReadyH.nil
      refine step_apS rfl (.tmp 25) (.tmp 29) rfl A k L ⟨p, c, true⟩ rfl (G.out.keep (w' := w2.drew.alloc (.cells (stV ⟨p, c, true⟩).toArray 75)) (fun q hq => Below.heap_alloc w2.drew _ q (G.out.lt q hq)) (by rw [World.size_alloc]; exact Nat.le_succ _)).row w2.drew.heap.size rfl HP.out HC.out (range_new _ _ _) RL.out ?_
      intro A2 k2 u2 hr hg ho
      have D := Lib.hid (add_done (x := ⟨p, c, true⟩) G.out ((Below.refl _ w2).drew.alloc (Nat.le_refl _) _) hr hg ho)
      have hown := fun q hq => row_own G.out.row (q := q) hq
      have kp : u2.heap[N]? = w2.heap[N]? := (hg.block _ (by show _ < (World.alloc _ _).heap.size; rw [World.size_alloc]; exact Nat.lt_succ_of_lt LP.out) (fun e => by obtain ⟨cur, h3⟩ := hown _ e.symm; have h4 := RP2.out; unfold BL at h4; rw [h3] at h4; have := (Obj.cells.inj (Option.some.inj h4)).2.1; revert this; decide)).trans (Below.heap_alloc w2.drew _ _ LP.out)
      have kc : u2.heap[Z]? = w2.heap[Z]? := (hg.block _ (by show _ < (World.alloc _ _).heap.size; rw [World.size_alloc]; exact Nat.lt_succ_of_lt LC.out) (fun e => by obtain ⟨cur, h3⟩ := hown _ e.symm; have h4 := RC2.out; unfold BL at h4; rw [h3] at h4; have := (Obj.cells.inj (Option.some.inj h4)).2.1; revert this; decide)).trans (Below.heap_alloc w2.drew _ _ LC.out)
      have ks : u2.heap[S]? = w2.heap[S]? := (hg.block _ (by show _ < (World.alloc _ _).heap.size; rw [World.size_alloc]; exact Nat.lt_succ_of_lt (G.out.lt S G.out.inS)) (fun e => by obtain ⟨cur, h3⟩ := hown _ e.symm; exact row_ne G.out.blk h3 rfl)).trans (Below.heap_alloc w2.drew _ _ (G.out.lt S G.out.inS))
      have f2 : u2.frozen? ⟨S, 2, none⟩ = false := bl_free (bl_keep G.out.blk ks) 2
      have c2' : u2.cell? ⟨S, 2, none⟩ = some (.slice A L.length k) := (World.cell?_of_block (w := w2) (a := ⟨S, 2, none⟩) ks).trans G.out.c2
      have KP := Lib.hid kp
      have KC := Lib.hid kc
      clear hr hg ho hown kp kc ks
      refine hK.out _ _ ⟨KP.out, KC.out⟩ (fun hHeld => ?_)
      clear hK K
      refine wpAnyH_take (i := 10) (v := ?_) rfl (by kernel_rfl) (by kernel_rfl) (by kernel_rfl) (fun _ _ _ h => h) (Or.inl ⟨by rfl, ?_⟩) (by assumption) ?_
      rotate_left
      · (intro w hSw; (try dsimp only at hSw); go_simp; try with_reducible rfl)
      simp only [Act.put, List.getElem_toArray, List.getElem_cons_succ, List.getElem_cons_zero, List.setIfInBounds_toArray, List.set_cons_zero, List.set_cons_succ]
      refine wpAnyH_take (i := 11) (v := ?_) rfl (by kernel_rfl) (by kernel_rfl) (by kernel_rfl) (fun _ _ _ h => h) (Or.inl ⟨by rfl, ?_⟩) (by assumption) ?_
      rotate_left
      · (intro w hSw; (try dsimp only at hSw); go_simp; try with_reducible rfl)
      simp only [Act.put, List.getElem_toArray, List.getElem_cons_succ, List.getElem_cons_zero, List.setIfInBounds_toArray, List.set_cons_zero, List.set_cons_succ]
      refine wpAnyH_ready (rs := [12]) (by kernel_rfl) (by simp) ?_
      refine AllReadyH.cons rfl (fun K hK => ?_) AllReadyH.nil
      go_simp
      refine hK.out _ _ ⟨(heap_set1 _ _ _ NP.out).trans KP.out, (heap_set1 _ _ _ NC.out).trans KC.out⟩ (fun hHeld => ?_)
      clear hK K hHeld c2 c2' f2
      refine wpAnyH_done (by kernel_rfl) ?_ _
      obtain ⟨P2, d1, d2, d3⟩ := D.out
      have D2 := Lib.hid d2
      have NN : Hid (¬ P1 (N + 1)) := fun e => (G2.out _ e).elim (fun e => by have := PL.out _ e; omega) (fun e => by have := W1.out; omega)
      have Z3 : Hid (BL (u2.setCell ⟨S, 2, none⟩ (.slice A2 (L.length + 1) k2)) Z (cnV c) 47) := bl_keep RC2.out ((heap_set1 _ _ _ NC.out).trans KC.out)
      have Q3 : Hid (BL (u2.setCell ⟨S, 2, none⟩ (.slice A2 (L.length + 1) k2)) (N + 1) (cnV cn0) 47) := bl_keep Q2.out (d3.block (N + 1) (bl_lt Q2.out) NN.out)
      have E1 := Lib.hid d1
      have E3 := Lib.hid d3
      clear d1 d2 d3 D KP KC
      generalize u2.setCell ⟨S, 2, none⟩ (.slice A2 (L.length + 1) k2) = u3 at *
      go_wp2_with (first
        | (refine wpList_load_midG (by rfl) 47 (.tmp 6) rfl Z 0 rfl (cnV c) _ (range_of Z3.out) Try.underlying47 rfl (szC HC.out.len) ?_)
        | (refine wpList_store_rowTo rfl 47 (.tmp 4) (.tmp 33) rfl rfl (N + 1) (cnV c).toArray rfl rfl 47 _ Q3.out (szCA HC.out.len) (szCC cn0_len HC.out.len) (all_oneCell_toArray (cn_one c)) ?_)
        | fail)
      exact bodyPost_ret (v := .tuple #[.agg (cnV c).toArray, .bool true]) (results_co rfl _ _ (N + 1) _ _ rfl (range_of (setRow_heap _ _ _ _ _ _ Q3.out)) (szC HC.out.len) rfl) rfl ⟨rfl, FIN.out u3 P2 E1.out D2.out E3.out⟩
    · refine step_bs1 (by rfl) (.tmp 28) (stV ⟨p, c, true⟩) rfl rfl Try.underlying68 infoS (stV_len HP.out HC.out) (by decide) (by decide) ?_
      refine hK.out _ _ ⟨Below.heap_alloc _ _ _ LP.out, Below.heap_alloc _ _ _ LC.out⟩ (fun hHeld => ?_)
      clear hK K
      have c4 : (w2.alloc (Obj.cells (stV ⟨p, c, true⟩).toArray 75)).cell? ⟨S, 2, none⟩ = some (.slice A L.length k) := (World.cell?_of_block (w := w2) (a := ⟨S, 2, none⟩) (Below.heap_alloc w2 _ S (G.out.lt S G.out.inS))).trans G.out.c2
      refine wpAnyH_ready (rs := [4]) (by kernel_rfl) (by simp) ?_
      refine AllReadyH.cons rfl (fun K hK => ?_) AllReadyH.nil
      go_simp
      refine hK.out _ _ ⟨Below.heap_alloc _ _ _ LP.out, Below.heap_alloc _ _ _ LC.out⟩ (fun hHeld => ?_)
      clear hK K
      clear c4
      refine wpAnyH_ready (rs := [9]) (by kernel_rfl) (by simp) ?_
      refine AllReadyH.cons rfl (fun K hK => ?_) AllReadyH.nil
      refine step_apS rfl (.tmp 25) (.tmp 29) rfl A k L ⟨p, c, true⟩ rfl (G.out.keep (w' := w2.drew.alloc (.cells (stV ⟨p, c, true⟩).toArray 75)) (fun q hq => Below.heap_alloc w2.drew _ q (G.out.lt q hq)) (by rw [World.size_alloc]; exact Nat.le_succ _)).row w2.drew.heap.size rfl HP.out HC.out (range_new _ _ _) RL.out ?_
      intro A2 k2 u2 hr hg ho
      have D := Lib.hid (add_done (x := ⟨p, c, true⟩) G.out ((Below.refl _ w2).drew.alloc (Nat.le_refl _) _) hr hg ho)
      have hown := fun q hq => row_own G.out.row (q := q) hq
      have kp : u2.heap[N]? = w2.heap[N]? := (hg.block _ (by show _ < (World.alloc _ _).heap.size; rw [World.size_alloc]; exact Nat.lt_succ_of_lt LP.out) (fun e => by obtain ⟨cur, h3⟩ := hown _ e.symm; have h4 := RP2.out; unfold BL at h4; rw [h3] at h4; have := (Obj.cells.inj (Option.some.inj h4)).2.1; revert this; decide)).trans (Below.heap_alloc w2.drew _ _ LP.out)
      have kc : u2.heap[Z]? = w2.heap[Z]? := (hg.block _ (by show _ < (World.alloc _ _).heap.size; rw [World.size_alloc]; exact Nat.lt_succ_of_lt LC.out) (fun e => by obtain ⟨cur, h3⟩ := hown _ e.symm; have h4 := RC2.out; unfold BL at h4; rw [h3] at h4; have := (Obj.cells.inj (Option.some.inj h4)).2.1; revert this; decide)).trans (Below.heap_alloc w2.drew _ _ LC.out)
      have ks : u2.heap[S]? = w2.heap[S]? := (hg.block _ (by show _ < (World.alloc _ _).heap.size; rw [World.size_alloc]; exact Nat.lt_succ_of_lt (G.out.lt S G.out.inS)) (fun e => by obtain ⟨cur, h3⟩ := hown _ e.symm; exact row_ne G.out.blk h3 rfl)).trans (Below.heap_alloc w2.drew _ _ (G.out.lt S G.out.inS))
      have f2 : u2.frozen? ⟨S, 2, none⟩ = false := bl_free (bl_keep G.out.blk ks) 2
      have c2' : u2.cell? ⟨S, 2, none⟩ = some (.slice A L.length k) := (World.cell?_of_block (w := w2) (a := ⟨S, 2, none⟩) ks).trans G.out.c2
      have KP := Lib.hid kp
      have KC := Lib.hid kc
      clear hr hg ho hown kp kc ks
      refine hK.out _ _ ⟨KP.out, KC.out⟩ (fun hHeld => ?_)
      clear hK K
      refine wpAnyH_take (i := 10) (v := ?_) rfl (by kernel_rfl) (by kernel_rfl) (by kernel_rfl) (fun _ _ _ h => h) (Or.inl ⟨by rfl, ?_⟩) (by assumption) ?_
      rotate_left
      · (intro w hSw; (try dsimp only at hSw); go_simp; try with_reducible rfl)
      simp only [Act.put, List.getElem_toArray, List.getElem_cons_succ, List.getElem_cons_zero, List.setIfInBounds_toArray, List.set_cons_zero, List.set_cons_succ]
      refine wpAnyH_take (i := 11) (v := ?_) rfl (by kernel_rfl) (by kernel_rfl) (by kernel_rfl) (fun _ _ _ h => h) (Or.inl ⟨by rfl, ?_⟩) (by assumption) ?_
      rotate_left
      · (intro w hSw; (try dsimp only at hSw); go_simp; try with_reducible rfl)
      simp only [Act.put, List.getElem_toArray, List.getElem_cons_succ, List.getElem_cons_zero, List.setIfInBounds_toArray, List.set_cons_zero, List.set_cons_succ]
      refine wpAnyH_ready (rs := [12]) (by kernel_rfl) (by simp) ?_
      refine AllReadyH.cons rfl (fun K hK => ?_) AllReadyH.nil
      go_simp
      refine hK.out _ _ ⟨(heap_set1 _ _ _ NP.out).trans KP.out, (heap_set1 _ _ _ NC.out).trans KC.out⟩ (fun hHeld => ?_)
      clear hK K hHeld c2 c2' f2
      refine wpAnyH_done (by kernel_rfl) ?_ _
      obtain ⟨P2, d1, d2, d3⟩ := D.out
      have D2 := Lib.hid d2
      have NN : Hid (¬ P1 (N + 1)) := fun e => (G2.out _ e).elim (fun e => by have := PL.out _ e; omega) (fun e => by have := W1.out; omega)
      have Z3 : Hid (BL (u2.setCell ⟨S, 2, none⟩ (.slice A2 (L.length + 1) k2)) Z (cnV c) 47) := bl_keep RC2.out ((heap_set1 _ _ _ NC.out).trans KC.out)
      have Q3 : Hid (BL (u2.setCell ⟨S, 2, none⟩ (.slice A2 (L.length + 1) k2)) (N + 1) (cnV cn0) 47) := bl_keep Q2.out (d3.block (N + 1) (bl_lt Q2.out) NN.out)
      have E1 := Lib.hid d1
      have E3 := Lib.hid d3
      clear d1 d2 d3 D KP KC
      generalize u2.setCell ⟨S, 2, none⟩ (.slice A2 (L.length + 1) k2) = u3 at *
      go_wp2_with (first
        | (refine wpList_load_midG (by rfl) 47 (.tmp 6) rfl Z 0 rfl (cnV c) _ (range_of Z3.out) Try.underlying47 rfl (szC HC.out.len) ?_)
        | (refine wpList_store_rowTo rfl 47 (.tmp 4) (.tmp 33) rfl rfl (N + 1) (cnV c).toArray rfl rfl 47 _ Q3.out (szCA HC.out.len) (szCC cn0_len HC.out.len) (all_oneCell_toArray (cn_one c)) ?_)
        | fail)
      exact bodyPost_ret (v := .tuple #[.agg (cnV c).toArray, .bool true]) (results_co rfl _ _ (N + 1) _ _ rfl (range_of (setRow_heap _ _ _ _ _ _ Q3.out)) (szC HC.out.len) rfl) rfl ⟨rfl, FIN.out u3 P2 E1.out D2.out E3.out⟩
  | none =>
    rw [hF] at CG
    have CG : Hid (Calls Try.prog 21 #[.pointer (some ⟨S, 0, none⟩), .agg (ptV p).toArray] v fun e w' => e = .returned (.tuple #[.agg (cnV cn0).toArray, .bool false]) ∧ Below v.heap.size v w') := CG
    show Calls _ _ _ _ fun e w' => e = .returned (.tuple #[.agg (cnV cn0).toArray, .bool false]) ∧ ∃ P', SetIs w' S L P' ∧ (∀ q, P' q → P q ∨ w.heap.size ≤ q) ∧ Fr w w' P
    clear hF
    go_enter Try.func14, Try.ntmps14
    go_upto_region 2 with (first
      | (refine wpList_load_midG (by rfl) 38 (.tmp 3) rfl N 0 rfl (ptV p) _ (range_of RP.out) Try.underlying38 rfl (szP HP.out) ?_)
      | (go_at_call 21; refine CG.out.mono ?_; rintro e w0 ⟨rfl, hb1⟩; have B0 := Lib.hid hb1; clear hb1)
      | (refine wpList_store_rowTo rfl 47 (.tmp 6) (.tmp 12) rfl rfl _ (cnV cn0).toArray rfl rfl 47 _ (heap_alloc_last w0 _) (szCA cn0_len) (szCC cn0_len cn0_len) (all_oneCell_toArray (cn_one cn0)) ?_)
      | fail)
    have B1 : Hid (Below v.heap.size v ((w0.alloc (Obj.cells (cnV cn0).toArray 47)).setRow w0.heap.size (cnV cn0).toArray)) := Lib.hid (below_setRow (B0.out.alloc B0.out.size _) B0.out.size _)
    generalize (w0.alloc (Obj.cells (cnV cn0).toArray 47)).setRow w0.heap.size (cnV cn0).toArray = w1 at *
    have Q1 : Hid (BL w1 (N + 1) (cnV cn0) 47) := bl_keep RC.out (B1.out.block (N + 1) (by rw [VS.out]; omega))
    have FIN : Hid (Fr w (w1.setRow (N + 1) (cnV cn0).toArray) P ∧ SetIs (w1.setRow (N + 1) (cnV cn0).toArray) S L P) := by
      have b2 : Below N w (w1.setRow (N + 1) (cnV cn0).toArray) := below_setRow (BV.out.trans (B1.out.mono (by rw [VS.out]; omega))) (by omega) _
      refine ⟨Fr.of_below (by rw [HN.out]; exact b2), SetIs.keep GV.out (fun q hq => ?_) ?_⟩
      · have := PL.out q hq
        exact (b2.block q this).trans (BV.out.block q this).symm
      · have := B1.out.size
        simpa [World.setRow] using this
    go_wp2_with (first
      | (refine wpList_bld (by rfl) 47 _ rfl b47 ?_)
      | (refine wpList_store_rowTo rfl 47 (.tmp 4) (.tmp 16) rfl rfl (N + 1) (cnV cn0).toArray rfl rfl 47 _ Q1.out (szCA cn0_len) (szCC cn0_len cn0_len) (all_oneCell_toArray (cn_one cn0)) ?_)
      | fail)
    exact bodyPost_ret (v := .tuple #[.agg (cnV cn0).toArray, .bool false]) (results_co rfl _ _ (N + 1) _ _ rfl (range_of (setRow_heap _ _ _ _ _ _ Q1.out)) (szC cn0_len) rfl) rfl ⟨rfl, P, FIN.out.2, fun q hq => .inl hq, FIN.out.1⟩
end Go.Proofs.Ytdggnmlhgglccaa
