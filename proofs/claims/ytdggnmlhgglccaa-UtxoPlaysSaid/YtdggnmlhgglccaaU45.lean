/-
  The document's Coins: Add, where it answers true.
-/
import Derived.Test.YtdggnmlhgglccaaU45a
import Derived.Deep.DeepCutAuto
namespace Go.Proofs.Ytdggnmlhgglccaa
open Go.RowKit
set_option maxRecDepth 100000
def insP (ps : List (List Int)) (p : List Int) : List (List Int) := ps.take (idxP ps p) ++ p :: ps.drop (idxP ps p)
def insC (ps : List (List Int)) (cs : List Cn) (p : List Int) (x : Cn) : List Cn := cs.take (idxP ps p) ++ x :: cs.drop (idxP ps p)
theorem insP_len (ps : List (List Int)) (p : List Int) : (insP ps p).length = idxP ps p + 1 + (ps.length - idxP ps p) := by
  have := idxP_le ps p
  unfold insP
  rw [List.length_append, List.length_take, List.length_cons, List.length_drop]; omega
theorem insC_len (ps : List (List Int)) (cs : List Cn) (p : List Int) (x : Cn) (h : cs.length = ps.length) : (insC ps cs p x).length = idxP ps p + 1 + (cs.length - idxP ps p) := by
  have := idxP_le ps p
  unfold insC
  rw [List.length_append, List.length_take, List.length_cons, List.length_drop]; omega
theorem insP_v (ps : List (List Int)) (p : List Int) : ptsV (ps.take (idxP ps p)) ++ ptV p ++ ptsV (ps.drop (idxP ps p)) = ptsV (insP ps p) := by
  simp [insP, ptsV]
theorem insC_v (ps : List (List Int)) (cs : List Cn) (p : List Int) (x : Cn) : csV (cs.take (idxP ps p)) ++ cnV x ++ csV (cs.drop (idxP ps p)) = csV (insC ps cs p x) := by
  simp [insC, csV]
attribute [local irreducible] ptV cnV ptsV csV zeros
set_option maxHeartbeats 4000000 in
theorem cAddYes {B : Nat} {ps : List (List Int)} {cs : List Cn} {Q : Nat → Prop} {p : List Int} {x : Cn} {w : World} (h : CoIs w B ps cs Q) (hp : okP p) (hx : x.ok) (hf : Fine cs) (hl : ps.length ≤ 1000) (hmay : cMay ps cs p x) :
    Calls Try.prog 10 #[.pointer (some ⟨B, 0, none⟩), .agg (ptV p).toArray, .agg (cnV x).toArray] w fun e w' => e = .returned (.bool true) ∧ ∃ Q', CoIs w' B (insP ps p) (insC ps cs p x) Q' ∧ (∀ q, Q' q → Q q ∨ w.heap.size ≤ q) ∧ Fr w w' Q := by
  obtain ⟨g1, g2, g3, g4, g6⟩ := hmay
  obtain ⟨N, hN⟩ : ∃ N, w.heap.size = N := ⟨_, rfl⟩
  have HN := Lib.hid hN
  have HP := Lib.hid hp
  have HX := Lib.hid hx
  have HL := Lib.hid hl
  have HF := Lib.hid hf
  obtain ⟨v, hv⟩ : ∃ v, ((w.alloc (Obj.cells (ptV p).toArray 38)).alloc (Obj.cells (cnV x).toArray 42)) = v := ⟨_, rfl⟩
  have RP : Hid (BL v N (ptV p) 38) := by
    subst hv hN
    exact bl_keep (heap_alloc_last w _) (Below.heap_alloc _ _ _ (by simp))
  have RC : Hid (BL v (N + 1) (cnV x) 42) := by
    subst hv hN
    have := heap_alloc_last (w.alloc (Obj.cells (ptV p).toArray 38)) (Obj.cells (cnV x).toArray 42)
    rw [World.size_alloc] at this
    exact this
  have BV : Hid (Below N w v) := by subst hv hN; exact ((Below.refl _ w).alloc (Nat.le_refl _) _).alloc (by simp) _
  have VS : Hid (v.heap.size = N + 2) := by subst hv hN; show _ = _; rw [World.size_alloc, World.size_alloc]
  have HCO : Hid (∀ W, Below v.heap.size v W → CoIs W B ps cs Q) := Lib.hid fun W hb => by
    obtain ⟨A, A2, c, c2, h⟩ := h
    exact ⟨A, A2, c, c2, (h.grow (by rw [hN]; exact BV.out)).grow hb⟩
  have CA := Lib.hid (cAt B ps cs Q p v (HCO.out v (Below.refl _ v)) hp hl)
  have HLC : Hid (cs.length ≤ 1000) := Lib.hid (by obtain ⟨A, A2, c, c2, h⟩ := h; have := h.len; omega)
  obtain ⟨k, hk⟩ : ∃ k, idxP ps p = k := ⟨_, rfl⟩
  obtain ⟨a, ha⟩ : ∃ a, cel p 8 = a := ⟨_, rfl⟩
  obtain ⟨m, hm⟩ : ∃ m, amt x = m := ⟨_, rfl⟩
  obtain ⟨t, ht⟩ : ∃ t, totC cs = t := ⟨_, rfl⟩
  have HK := Lib.hid hk
  have HA := Lib.hid ha
  have HM := Lib.hid hm
  have HT := Lib.hid ht
  rw [hk] at CA
  rw [g1] at CA
  rw [ha] at g2 g3
  rw [hm] at g4 g6
  rw [ht] at g6
  have gT := totC_nn hf.1
  rw [ht] at gT
  unfold maxM at g6
  have g5 : m ≤ 1125899906842624 := by omega
  have WM : IntKind.i64.wrap (1125899906842624 - m) = 1125899906842624 - m := by rw [IntKind.wrap_i64]; omega
  have g7 : t ≤ 1125899906842624 - m := by omega
  have HKL : Hid (k ≤ ps.length) := Lib.hid (hk ▸ idxP_le ps p)
  obtain ⟨ps2, hps2⟩ : ∃ l, insP ps p = l := ⟨_, rfl⟩
  obtain ⟨cs2, hcs2⟩ : ∃ l, insC ps cs p x = l := ⟨_, rfl⟩
  have HLEN : Hid (cs.length = ps.length) := Lib.hid (by obtain ⟨A, A2, c, c2, h⟩ := h; exact h.len)
  have P2 : Hid (ps2.length = k + 1 + (ps.length - k) ∧ ptsV (ps.take k) ++ ptV p ++ ptsV (ps.drop k) = ptsV ps2) := Lib.hid (by subst hps2; subst hk; exact ⟨insP_len ps p, insP_v ps p⟩)
  have C2 : Hid (cs2.length = k + 1 + (cs.length - k) ∧ csV (cs.take k) ++ cnV x ++ csV (cs.drop k) = csV cs2) := Lib.hid (by subst hcs2; subst hk; exact ⟨insC_len ps cs p x HLEN.out, insC_v ps cs p x⟩)
  have OKS : Hid ((∀ q ∈ ps2, okP q) ∧ ∀ y ∈ cs2, y.ok) := Lib.hid (by
    obtain ⟨A, A2, c, c2, h⟩ := h
    subst hps2 hcs2
    refine ⟨fun q hq => ?_, fun y hy => ?_⟩
    · rcases List.mem_append.1 hq with hq | hq
      · exact h.okp q (List.mem_of_mem_take hq)
      · rcases List.mem_cons.1 hq with rfl | hq
        · exact hp
        · exact h.okp q (List.mem_of_mem_drop hq)
    · rcases List.mem_append.1 hy with hy | hy
      · exact h.okc y (List.mem_of_mem_take hy)
      · rcases List.mem_cons.1 hy with rfl | hy
        · exact hx
        · exact h.okc y (List.mem_of_mem_drop hy))
  have BN : Hid (B < N) := Lib.hid (by obtain ⟨A, A2, c, c2, h⟩ := h; rw [← hN]; exact h.lt B h.inB)
  rw [hps2, hcs2]
  clear h hp hx hf hl hk ha hm ht g1 hps2 hcs2 gT g6
  go_enter Try.func10, Try.ntmps10
  go_wp2_with (first
    | (refine wpList_load_midG (by rfl) 38 (.tmp 4) rfl N 0 rfl (ptV p) _ (range_of RP.out) Try.underlying38 rfl (szP HP.out) ?_)
    | (go_at_call 25; refine CA.out.mono ?_; rintro e w1 ⟨rfl, hb1⟩; have B1 := Lib.hid hb1; clear hb1)
    | fail)
  have c8 : w1.cell? ⟨N, 8, none⟩ = some (.int .i64 a) := by
    have := (pt_rng HP.out (range_keep1 (range_of RP.out) (B1.out.block N (by rw [VS.out]; omega)))).2
    rw [HA.out, Nat.zero_add] at this
    exact this
  have a8 : w1.cell? ⟨N + 1, 8, none⟩ = some (.int .i64 m) := by
    have := (range_keep1 (range_of RC.out) (B1.out.block (N + 1) (by rw [VS.out]; omega))) 8 _ (cn_amt HX.out.len)
    rw [HM.out, Nat.zero_add] at this
    exact this
  have CT : Hid (∀ n, Calls Try.prog 26 #[.pointer (some ⟨B, 0, none⟩)] (w1.drewN n) fun e w' => e = .returned (.int .i64 t) ∧ w' = w1.drewN n) := Lib.hid fun n => (cTotal B ps cs Q (w1.drewN n) (HCO.out _ (below_drewN B1.out n)) HF.out HLC.out).mono fun e w' h => ⟨by rw [h.1, HT.out], h.2.symm⟩
  clear hv
  go_quiet ((go_at_call 26; exact Calls.quiet_of_same (CT.out _)))
  obtain ⟨wa, hwa⟩ : ∃ W, w1.drewN nq = W := ⟨_, rfl⟩
  have BA : Hid (Below v.heap.size v wa) := Lib.hid (by rw [← hwa]; exact below_drewN B1.out nq)
  rw [hwa]
  clear c8 a8 hwa CT CA B1
  obtain ⟨A, A2, c, c2, ho⟩ := HCO.out wa BA.out
  have HO := Lib.hid ho
  clear ho
  go_wp2
  clear g2 g3 g4 g5 g7 WM
  (try change Code.wp _ _ _ _ wa)
  go_cut [] (fun wc => ∃ A3 c3 u, wc = u.setCell ⟨B, 0, none⟩ (.slice A3 ps2.length c3) ∧ Below wa.heap.size wa u ∧ u.ownsRow wa.heap.size 38 9 (.slice A3 ps2.length c3) ps2.length (ptsV ps2))
  case first =>
    have C0 : ∀ W, Below wa.heap.size wa W → W.cell? ⟨B, 0, none⟩ = some (.slice A ps.length c) := fun W hb => (HO.out.grow hb).c0
    have NL : Hid (N < wa.heap.size) := Lib.hid (by have := BA.out.size; have := VS.out; omega)
    have RBX : Hid (wa.rangeAt N 0 (ptV p)) := Lib.hid (range_keep1 (range_of RP.out) (BA.out.block N (by rw [VS.out]; omega)))
    obtain ⟨Bp, bcp, s1, s2, src1, src2⟩ := own_parts el27 Try.underlying27 sz27 HO.out.rp (pts_one ps) HKL.out
    rw [(ptsV_cut HO.out.okp k).1] at src1
    rw [(ptsV_cut HO.out.okp k).2] at src2
    have SRC1 := Lib.hid src1
    have SRC2 := Lib.hid src2
    clear src1 src2
    refine wp_region_end 20 (S := fun w' => Below wa.heap.size wa w') (by kernel_rfl) (by kernel_rfl) (Below.refl _ wa).drew (fun hHeld => ?_)
    refine wpAnyH_take (i := 0) (v := ?_) rfl (by kernel_rfl) (by kernel_rfl) (by kernel_rfl) (fun _ _ _ h => h) (Or.inl ⟨by rfl, ?_⟩) (by assumption) ?_
    rotate_left
    · (intro w hSw; (try dsimp only at hSw); go_simp; try with_reducible rfl)
    simp only [Act.put, List.getElem_toArray, List.getElem_cons_zero, List.setIfInBounds_toArray, List.set_cons_zero, List.set_cons_succ]
    refine wpAnyH_take (i := 1) (v := ?_) rfl (by kernel_rfl) (by kernel_rfl) (by kernel_rfl) (fun _ _ _ h => h) (Or.inl ⟨by rfl, ?_⟩) (by assumption) ?_
    rotate_left
    · (intro w hSw; (try dsimp only at hSw); go_simp; try with_reducible rfl)
    simp only [Act.put, List.getElem_toArray, List.getElem_cons_succ, List.getElem_cons_zero, List.setIfInBounds_toArray, List.set_cons_zero, List.set_cons_succ]
    refine wpAnyH_take (i := 2) (v := ?_) rfl (by kernel_rfl) (by kernel_rfl) (by kernel_rfl) (fun _ _ _ h => h) (Or.inl ⟨by rfl, ?_⟩) (by assumption) ?_
    rotate_left
    · (intro w hSw; (try dsimp only at hSw); go_simp; try with_reducible rfl)
    simp only [Act.put, List.getElem_toArray, List.getElem_cons_succ, List.getElem_cons_zero, List.setIfInBounds_toArray, List.set_cons_zero, List.set_cons_succ]
    refine wpAnyH_take (i := 3) (v := ?_) rfl (by kernel_rfl) (by kernel_rfl) (by kernel_rfl) (fun _ _ _ h => h) (Or.inl ⟨by rfl, ?_⟩) (by assumption) ?_
    rotate_left
    · (intro w hSw; (try dsimp only at hSw); go_simp; try with_reducible rfl)
    simp only [Act.put, List.getElem_toArray, List.getElem_cons_succ, List.getElem_cons_zero, List.setIfInBounds_toArray, List.set_cons_zero, List.set_cons_succ]
    refine wpAnyH_take (i := 4) (v := ?_) rfl (by kernel_rfl) (by kernel_rfl) (by kernel_rfl) (fun _ _ _ h => h) (Or.inl ⟨by rfl, ?_⟩) (by assumption) ?_
    rotate_left
    · (intro w hSw; have z := C0 w hSw; go_simp; try with_reducible rfl)
    simp only [Act.put, List.getElem_toArray, List.getElem_cons_succ, List.getElem_cons_zero, List.setIfInBounds_toArray, List.set_cons_zero, List.set_cons_succ]
    refine wpAnyH_take (i := 5) (v := ?_) rfl (by kernel_rfl) (by kernel_rfl) (by kernel_rfl) (fun _ _ _ h => h) (Or.inl ⟨by rfl, ?_⟩) (by assumption) ?_
    rotate_left
    · (intro w hSw; (try dsimp only at hSw); go_simp; try with_reducible rfl)
    simp only [Act.put, List.getElem_toArray, List.getElem_cons_succ, List.getElem_cons_zero, List.setIfInBounds_toArray, List.set_cons_zero, List.set_cons_succ]
    refine wpAnyH_take (i := 6) (v := ?_) rfl (by kernel_rfl) (by kernel_rfl) (by kernel_rfl) (fun _ _ _ h => h) (Or.inl ⟨by rfl, ?_⟩) (by assumption) ?_
    rotate_left
    · (intro w hSw; (try dsimp only at hSw); go_simp; try with_reducible rfl)
    simp only [Act.put, List.getElem_toArray, List.getElem_cons_succ, List.getElem_cons_zero, List.setIfInBounds_toArray, List.set_cons_zero, List.set_cons_succ]
    refine wpAnyH_take (i := 8) rfl (by kernel_rfl) (by kernel_rfl) (by kernel_rfl) (fun _ _ _ h => h) (yieldsIf_load_mid (by rfl) 38 (.tmp 4) rfl N 0 rfl (ptV p) _ (fun w h => range_keep1 RBX.out (h.block _ NL.out)) Try.underlying38 rfl (szP HP.out)) (by assumption) ?_
    simp only [Act.put, List.getElem_toArray, List.getElem_cons_succ, List.getElem_cons_zero, List.setIfInBounds_toArray, List.set_cons_zero, List.set_cons_succ]
    refine wpAnyH_take (i := 11) (v := ?_) rfl (by kernel_rfl) (by kernel_rfl) (by kernel_rfl) (fun _ _ _ h => h) (Or.inl ⟨by rfl, ?_⟩) (by assumption) ?_
    rotate_left
    · (intro w hSw; (try dsimp only at hSw); go_simp; try with_reducible rfl)
    simp only [Act.put, List.getElem_toArray, List.getElem_cons_succ, List.getElem_cons_zero, List.setIfInBounds_toArray, List.set_cons_zero, List.set_cons_succ]
    refine wpAnyH_take (i := 12) (v := ?_) rfl (by kernel_rfl) (by kernel_rfl) (by kernel_rfl) (fun _ _ _ h => h) (Or.inl ⟨by rfl, ?_⟩) (by assumption) ?_
    rotate_left
    · (intro w hSw; (try dsimp only at hSw); go_simp; try with_reducible rfl)
    simp only [Act.put, List.getElem_toArray, List.getElem_cons_succ, List.getElem_cons_zero, List.setIfInBounds_toArray, List.set_cons_zero, List.set_cons_succ]
    refine wpAnyH_take (i := 13) (v := ?_) rfl (by kernel_rfl) (by kernel_rfl) (by kernel_rfl) (fun _ _ _ h => h) (Or.inl ⟨by rfl, ?_⟩) (by assumption) ?_
    rotate_left
    · (intro w hSw; (try dsimp only at hSw); go_simp; try with_reducible rfl)
    simp only [Act.put, List.getElem_toArray, List.getElem_cons_succ, List.getElem_cons_zero, List.setIfInBounds_toArray, List.set_cons_zero, List.set_cons_succ]
    refine wpAnyH_take (i := 14) (v := ?_) rfl (by kernel_rfl) (by kernel_rfl) (by kernel_rfl) (fun _ _ _ h => h) (Or.inl ⟨by rfl, ?_⟩) (by assumption) ?_
    rotate_left
    · (intro w hSw; have z := C0 w hSw; go_simp; try with_reducible rfl)
    simp only [Act.put, List.getElem_toArray, List.getElem_cons_succ, List.getElem_cons_zero, List.setIfInBounds_toArray, List.set_cons_zero, List.set_cons_succ]
    refine wpAnyH_take (i := 15) (v := ?_) rfl (by kernel_rfl) (by kernel_rfl) (by kernel_rfl) (fun _ _ _ h => h) (Or.inl ⟨by rfl, ?_⟩) (by assumption) ?_
    rotate_left
    · (intro w hSw; (try dsimp only at hSw); go_simp; try with_reducible rfl)
    simp only [Act.put, List.getElem_toArray, List.getElem_cons_succ, List.getElem_cons_zero, List.setIfInBounds_toArray, List.set_cons_zero, List.set_cons_succ]
    refine wpAnyH_take (i := 16) (v := ?_) rfl (by kernel_rfl) (by kernel_rfl) (by kernel_rfl) (fun _ _ _ h => h) (Or.inl ⟨by rfl, ?_⟩) (by assumption) ?_
    rotate_left
    · (intro w hSw; (try dsimp only at hSw); go_simp; try with_reducible rfl)
    simp only [Act.put, List.getElem_toArray, List.getElem_cons_succ, List.getElem_cons_zero, List.setIfInBounds_toArray, List.set_cons_zero, List.set_cons_succ]
    refine wpAnyH_ready (rs := [7, 9]) (by kernel_rfl) (by simp) ?_
    refine AllReadyH.cons rfl (fun K hK => ?_) (AllReadyH.cons rfl (fun K hK => ?_) AllReadyH.nil)
    · refine step_app0 Try.underlying27 infoPt zPt (by decide) (by decide) rfl (.const (.slice none 0 0)) (.tmp 53) rfl wa.drew.heap.size k c (ptsV (ps.take k)) A rfl rfl (SRC1.out.keep ((Below.refl _ wa).drew)) (by have := HKL.out; have := HL.out; omega) (Nat.le_refl _) ?_
      intro A7 c7 u7 o7 b7
      have B7 := Lib.hid ((Below.refl _ wa).drew.trans (b7.mono (Nat.le_refl _)))
      have O7 := Lib.hid (own_le o7 (show wa.heap.size ≤ wa.drew.heap.size from Nat.le_refl _))
      clear o7 b7
      refine hK.out _ _ B7.out (fun hHeld => ?_)
      clear hK K
      refine wpAnyH_ready (rs := [9]) (by kernel_rfl) (by simp) ?_
      refine AllReadyH.cons rfl (fun K hK => ?_) AllReadyH.nil
      refine step_bs1 (by rfl) (.tmp 55) (ptV p) rfl rfl Try.underlying27 infoPt (ptV_len HP.out) (by decide) (by decide) ?_
      have b9 := (B7.out).alloc (B7.out).size (.cells (ptV p).toArray 38)
      have n9 := heap_alloc_last u7 (.cells (ptV p).toArray 38)
      have k9 := fun q (hq : q < u7.heap.size) => Below.heap_alloc u7 (.cells (ptV p).toArray 38) q hq
      obtain ⟨u9, e9⟩ : ∃ u, u7.alloc (.cells (ptV p).toArray 38) = u := ⟨_, rfl⟩
      obtain ⟨g9, eg9⟩ : ∃ g, u7.heap.size = g := ⟨_, rfl⟩
      rw [e9, eg9] at n9 ⊢
      rw [e9] at b9 k9
      have SRC9 : Hid (SrcG u9 9 (some ⟨g9, 0, none⟩) 1 (ptV p)) := Lib.hid ⟨by rw [(ptV_len HP.out)], (pt_one p), .inr ⟨g9, 0, rfl, lt_of_block n9, range_of n9⟩⟩
      have O7b : Hid (u9.ownsRow wa.heap.size 38 9 (.slice A7 k c7) k (ptsV (ps.take k))) := Lib.hid (row_keepO O7.out fun g hg => k9 g (own_blk O7.out hg).2)
      have B9 := Lib.hid b9
      clear b9 n9 k9 e9
      refine hK.out _ _ B9.out (fun hHeld => ?_)
      clear hK K
      refine wpAnyH_ready (rs := [10]) (by kernel_rfl) (by simp) ?_
      refine AllReadyH.cons rfl (fun K hK => ?_) AllReadyH.nil
      refine step_appG Try.underlying27 infoPt zPt (by decide) (by decide) rfl (.tmp 54) (.tmp 56) rfl wa.heap.size k 1 1 (.slice A7 k c7) (ptsV (ps.take k)) (ptV p) (some ⟨g9, 0, none⟩) rfl rfl O7b.out SRC9.out (by have := HKL.out; have := HL.out; omega) (by decide) (B9.out).size ?_
      intro A10 c10 u10 o10 b10
      have B10 := Lib.hid (B9.out.trans b10)
      have O10 := Lib.hid o10
      clear o10 b10
      refine hK.out _ _ B10.out (fun hHeld => ?_)
      clear hK K
      refine wpAnyH_ready (rs := [17]) (by kernel_rfl) (by simp) ?_
      refine AllReadyH.cons rfl (fun K hK => ?_) AllReadyH.nil
      refine step_appG Try.underlying27 infoPt zPt (by decide) (by decide) rfl (.tmp 57) (.tmp 63) rfl wa.heap.size (k + 1) (ps.length - k) bcp (.slice A10 (k + 1) c10) (ptsV (ps.take k) ++ ptV p) (ptsV (ps.drop k)) Bp rfl rfl O10.out (SRC2.out.keep B10.out) (by have := HKL.out; have := HL.out; omega) (by have := HLC.out; have := HL.out; omega) B10.out.size ?_
      intro A17 c17 u17 o17 b17
      have B17 := Lib.hid (B10.out.trans b17)
      have O17 := Lib.hid o17
      clear o17 b17
      refine hK.out _ _ B17.out (fun hHeld => ?_)
      clear hK K
      refine wpAnyH_take (i := 18) (v := ?_) rfl (by kernel_rfl) (by kernel_rfl) (by kernel_rfl) (fun _ _ _ h => h) (Or.inl ⟨by rfl, ?_⟩) (by assumption) ?_
      rotate_left
      · (intro w hSw; (try dsimp only at hSw); go_simp; try with_reducible rfl)
      simp only [Act.put, List.getElem_toArray, List.getElem_cons_succ, List.getElem_cons_zero, List.setIfInBounds_toArray, List.set_cons_zero, List.set_cons_succ]
      refine wpAnyH_take (i := 19) (v := ?_) rfl (by kernel_rfl) (by kernel_rfl) (by kernel_rfl) (fun _ _ _ h => h) (Or.inl ⟨by rfl, ?_⟩) (by assumption) ?_
      rotate_left
      · (intro w hSw; (try dsimp only at hSw); go_simp; try with_reducible rfl)
      simp only [Act.put, List.getElem_toArray, List.getElem_cons_succ, List.getElem_cons_zero, List.setIfInBounds_toArray, List.set_cons_zero, List.set_cons_succ]
      clear hHeld
      refine wpAnyH_done (by kernel_rfl) ?_ _
      refine qn_last rfl (by rfl) ?_
      have cB : u17.cell? ⟨B, 0, none⟩ = some (.slice A ps.length c) := C0 u17 B17.out
      have fB : u17.frozen? ⟨B, 0, none⟩ = false := bl_free (bl_keep HO.out.blk (B17.out.block B (HO.out.lt B HO.out.inB))) 0
      go_simp
      clear cB fB
      go_wp2
      go_meet
      case rel => exact ⟨A17, c17, u17, by rw [P2.out.1], B17.out, by rw [P2.out.1, ← P2.out.2]; exact O17.out⟩
    · refine step_bs1 (by rfl) (.tmp 55) (ptV p) rfl rfl Try.underlying27 infoPt (ptV_len HP.out) (by decide) (by decide) ?_
      have b9 := ((Below.refl wa.heap.size wa).drew).alloc ((Below.refl wa.heap.size wa).drew).size (.cells (ptV p).toArray 38)
      have n9 := heap_alloc_last wa.drew (.cells (ptV p).toArray 38)
      have k9 := fun q (hq : q < wa.drew.heap.size) => Below.heap_alloc wa.drew (.cells (ptV p).toArray 38) q hq
      obtain ⟨u9, e9⟩ : ∃ u, wa.drew.alloc (.cells (ptV p).toArray 38) = u := ⟨_, rfl⟩
      obtain ⟨g9, eg9⟩ : ∃ g, wa.drew.heap.size = g := ⟨_, rfl⟩
      rw [e9, eg9] at n9 ⊢
      rw [e9] at b9 k9
      have SRC9 : Hid (SrcG u9 9 (some ⟨g9, 0, none⟩) 1 (ptV p)) := Lib.hid ⟨by rw [(ptV_len HP.out)], (pt_one p), .inr ⟨g9, 0, rfl, lt_of_block n9, range_of n9⟩⟩
      have B9 := Lib.hid b9
      clear b9 n9 k9 e9 eg9
      refine hK.out _ _ B9.out (fun hHeld => ?_)
      clear hK K
      refine wpAnyH_ready (rs := [7]) (by kernel_rfl) (by simp) ?_
      refine AllReadyH.cons rfl (fun K hK => ?_) AllReadyH.nil
      refine step_app0 Try.underlying27 infoPt zPt (by decide) (by decide) rfl (.const (.slice none 0 0)) (.tmp 53) rfl u9.heap.size k c (ptsV (ps.take k)) A rfl rfl (SRC1.out.keep (B9.out)) (by have := HKL.out; have := HL.out; omega) (Nat.le_refl _) ?_
      intro A7 c7 u7 o7 b7
      have B7 := Lib.hid (B9.out.trans (b7.mono B9.out.size))
      have O7 := Lib.hid (own_le o7 B9.out.size)
      have SRC9 : Hid (SrcG u7 9 (some ⟨g9, 0, none⟩) 1 (ptV p)) := Lib.hid (SRC9.out.keep b7)
      clear o7 b7
      refine hK.out _ _ B7.out (fun hHeld => ?_)
      clear hK K
      refine wpAnyH_ready (rs := [10]) (by kernel_rfl) (by simp) ?_
      refine AllReadyH.cons rfl (fun K hK => ?_) AllReadyH.nil
      refine step_appG Try.underlying27 infoPt zPt (by decide) (by decide) rfl (.tmp 54) (.tmp 56) rfl wa.heap.size k 1 1 (.slice A7 k c7) (ptsV (ps.take k)) (ptV p) (some ⟨g9, 0, none⟩) rfl rfl O7.out SRC9.out (by have := HKL.out; have := HL.out; omega) (by decide) (B7.out).size ?_
      intro A10 c10 u10 o10 b10
      have B10 := Lib.hid (B7.out.trans b10)
      have O10 := Lib.hid o10
      clear o10 b10
      refine hK.out _ _ B10.out (fun hHeld => ?_)
      clear hK K
      refine wpAnyH_ready (rs := [17]) (by kernel_rfl) (by simp) ?_
      refine AllReadyH.cons rfl (fun K hK => ?_) AllReadyH.nil
      refine step_appG Try.underlying27 infoPt zPt (by decide) (by decide) rfl (.tmp 57) (.tmp 63) rfl wa.heap.size (k + 1) (ps.length - k) bcp (.slice A10 (k + 1) c10) (ptsV (ps.take k) ++ ptV p) (ptsV (ps.drop k)) Bp rfl rfl O10.out (SRC2.out.keep B10.out) (by have := HKL.out; have := HL.out; omega) (by have := HLC.out; have := HL.out; omega) B10.out.size ?_
      intro A17 c17 u17 o17 b17
      have B17 := Lib.hid (B10.out.trans b17)
      have O17 := Lib.hid o17
      clear o17 b17
      refine hK.out _ _ B17.out (fun hHeld => ?_)
      clear hK K
      refine wpAnyH_take (i := 18) (v := ?_) rfl (by kernel_rfl) (by kernel_rfl) (by kernel_rfl) (fun _ _ _ h => h) (Or.inl ⟨by rfl, ?_⟩) (by assumption) ?_
      rotate_left
      · (intro w hSw; (try dsimp only at hSw); go_simp; try with_reducible rfl)
      simp only [Act.put, List.getElem_toArray, List.getElem_cons_succ, List.getElem_cons_zero, List.setIfInBounds_toArray, List.set_cons_zero, List.set_cons_succ]
      refine wpAnyH_take (i := 19) (v := ?_) rfl (by kernel_rfl) (by kernel_rfl) (by kernel_rfl) (fun _ _ _ h => h) (Or.inl ⟨by rfl, ?_⟩) (by assumption) ?_
      rotate_left
      · (intro w hSw; (try dsimp only at hSw); go_simp; try with_reducible rfl)
      simp only [Act.put, List.getElem_toArray, List.getElem_cons_succ, List.getElem_cons_zero, List.setIfInBounds_toArray, List.set_cons_zero, List.set_cons_succ]
      clear hHeld
      refine wpAnyH_done (by kernel_rfl) ?_ _
      refine qn_last rfl (by rfl) ?_
      have cB : u17.cell? ⟨B, 0, none⟩ = some (.slice A ps.length c) := C0 u17 B17.out
      have fB : u17.frozen? ⟨B, 0, none⟩ = false := bl_free (bl_keep HO.out.blk (B17.out.block B (HO.out.lt B HO.out.inB))) 0
      go_simp
      clear cB fB
      go_wp2
      go_meet
      case rel => exact ⟨A17, c17, u17, by rw [P2.out.1], B17.out, by rw [P2.out.1, ← P2.out.2]; exact O17.out⟩
  case rest =>
    obtain ⟨A3, c3, u3, e3, hb3, ho3⟩ := hcut
    obtain ⟨k1, k2, k3⟩ := co_storeP HO.out hb3 ho3
    rw [← e3] at k1 k2 k3
    have BLK := Lib.hid k1
    have RC5 := Lib.hid k2
    have HB3 := Lib.hid hb3
    have HO3 := Lib.hid ho3
    have E3 := Lib.hid e3
    have SZ : Hid (N + 2 ≤ wc.heap.size) := Lib.hid (by
      have h1 := hb3.size
      have h2 := BA.out.size
      have h3 := VS.out
      have h4 : wc.heap.size = u3.heap.size := by rw [e3]; exact World.size_setCell _ _ _
      omega)
    have RBX : Hid (wc.rangeAt (N + 1) 0 (cnV x)) := Lib.hid (by
      have h1 := hb3.size
      have h2 := BA.out.size
      have h3 := VS.out
      refine range_keep1 (range_of RC.out) ?_
      rw [e3]
      exact (heap_set1 _ _ _ (by have := BN.out; omega)).trans ((hb3.block _ (by omega)).trans (BA.out.block _ (by omega))))
    clear hb3 ho3 k1 k2 k3 e3
    go_wp2
    (try change Code.wp _ _ _ _ wc)
    go_cut [] (fun wx => ∃ Q', CoIs wx B ps2 cs2 Q' ∧ (∀ q, Q' q → Q q ∨ w.heap.size ≤ q) ∧ Fr w wx Q)
    case first =>
      have C0 : ∀ W, Below wc.heap.size wc W → W.cell? ⟨B, 1, none⟩ = some (.slice A2 cs.length c2) := fun W hb => by
        rw [cell_of_row W B 1 _ _ _ (bl_keep BLK.out (hb.block B (bl_lt BLK.out)))]; rfl
      have NL : Hid (N + 1 < wc.heap.size) := Lib.hid (by have := SZ.out; omega)
      obtain ⟨Bp, bcp, s1, s2, src1, src2⟩ := own_parts el28 Try.underlying28 sz28 RC5.out (cs_one cs) (show k ≤ cs.length by rw [HLEN.out]; exact HKL.out)
      rw [(csV_cut HO.out.okc k).1] at src1
      rw [(csV_cut HO.out.okc k).2] at src2
      have SRC1 := Lib.hid src1
      have SRC2 := Lib.hid src2
      clear src1 src2
      refine wp_region_end 20 (S := fun w' => Below wc.heap.size wc w') (by kernel_rfl) (by kernel_rfl) (Below.refl _ wc).drew (fun hHeld => ?_)
      refine wpAnyH_take (i := 0) (v := ?_) rfl (by kernel_rfl) (by kernel_rfl) (by kernel_rfl) (fun _ _ _ h => h) (Or.inl ⟨by rfl, ?_⟩) (by assumption) ?_
      rotate_left
      · (intro w hSw; (try dsimp only at hSw); go_simp; try with_reducible rfl)
      simp only [Act.put, List.getElem_toArray, List.getElem_cons_zero, List.setIfInBounds_toArray, List.set_cons_zero, List.set_cons_succ]
      refine wpAnyH_take (i := 1) (v := ?_) rfl (by kernel_rfl) (by kernel_rfl) (by kernel_rfl) (fun _ _ _ h => h) (Or.inl ⟨by rfl, ?_⟩) (by assumption) ?_
      rotate_left
      · (intro w hSw; (try dsimp only at hSw); go_simp; try with_reducible rfl)
      simp only [Act.put, List.getElem_toArray, List.getElem_cons_succ, List.getElem_cons_zero, List.setIfInBounds_toArray, List.set_cons_zero, List.set_cons_succ]
      refine wpAnyH_take (i := 2) (v := ?_) rfl (by kernel_rfl) (by kernel_rfl) (by kernel_rfl) (fun _ _ _ h => h) (Or.inl ⟨by rfl, ?_⟩) (by assumption) ?_
      rotate_left
      · (intro w hSw; (try dsimp only at hSw); go_simp; try with_reducible rfl)
      simp only [Act.put, List.getElem_toArray, List.getElem_cons_succ, List.getElem_cons_zero, List.setIfInBounds_toArray, List.set_cons_zero, List.set_cons_succ]
      refine wpAnyH_take (i := 3) (v := ?_) rfl (by kernel_rfl) (by kernel_rfl) (by kernel_rfl) (fun _ _ _ h => h) (Or.inl ⟨by rfl, ?_⟩) (by assumption) ?_
      rotate_left
      · (intro w hSw; (try dsimp only at hSw); go_simp; try with_reducible rfl)
      simp only [Act.put, List.getElem_toArray, List.getElem_cons_succ, List.getElem_cons_zero, List.setIfInBounds_toArray, List.set_cons_zero, List.set_cons_succ]
      refine wpAnyH_take (i := 4) (v := ?_) rfl (by kernel_rfl) (by kernel_rfl) (by kernel_rfl) (fun _ _ _ h => h) (Or.inl ⟨by rfl, ?_⟩) (by assumption) ?_
      rotate_left
      · (intro w hSw; have z := C0 w hSw; go_simp; try with_reducible rfl)
      simp only [Act.put, List.getElem_toArray, List.getElem_cons_succ, List.getElem_cons_zero, List.setIfInBounds_toArray, List.set_cons_zero, List.set_cons_succ]
      refine wpAnyH_take (i := 5) (v := ?_) rfl (by kernel_rfl) (by kernel_rfl) (by kernel_rfl) (fun _ _ _ h => h) (Or.inl ⟨by rfl, ?_⟩) (by assumption) ?_
      rotate_left
      · (intro w hSw; (try dsimp only at hSw); go_simp; try with_reducible rfl)
      simp only [Act.put, List.getElem_toArray, List.getElem_cons_succ, List.getElem_cons_zero, List.setIfInBounds_toArray, List.set_cons_zero, List.set_cons_succ]
      refine wpAnyH_take (i := 6) (v := ?_) rfl (by kernel_rfl) (by kernel_rfl) (by kernel_rfl) (fun _ _ _ h => h) (Or.inl ⟨by rfl, ?_⟩) (by assumption) ?_
      rotate_left
      · (intro w hSw; (try dsimp only at hSw); go_simp; try with_reducible rfl)
      simp only [Act.put, List.getElem_toArray, List.getElem_cons_succ, List.getElem_cons_zero, List.setIfInBounds_toArray, List.set_cons_zero, List.set_cons_succ]
      refine wpAnyH_take (i := 8) rfl (by kernel_rfl) (by kernel_rfl) (by kernel_rfl) (fun _ _ _ h => h) (yieldsIf_load_mid (by rfl) 42 (.tmp 5) rfl (N + 1) 0 rfl (cnV x) _ (fun w h => range_keep1 RBX.out (h.block _ NL.out)) Try.underlying42 rfl (szL i42c (cnV_len HX.out.len))) (by assumption) ?_
      simp only [Act.put, List.getElem_toArray, List.getElem_cons_succ, List.getElem_cons_zero, List.setIfInBounds_toArray, List.set_cons_zero, List.set_cons_succ]
      refine wpAnyH_take (i := 11) (v := ?_) rfl (by kernel_rfl) (by kernel_rfl) (by kernel_rfl) (fun _ _ _ h => h) (Or.inl ⟨by rfl, ?_⟩) (by assumption) ?_
      rotate_left
      · (intro w hSw; (try dsimp only at hSw); go_simp; try with_reducible rfl)
      simp only [Act.put, List.getElem_toArray, List.getElem_cons_succ, List.getElem_cons_zero, List.setIfInBounds_toArray, List.set_cons_zero, List.set_cons_succ]
      refine wpAnyH_take (i := 12) (v := ?_) rfl (by kernel_rfl) (by kernel_rfl) (by kernel_rfl) (fun _ _ _ h => h) (Or.inl ⟨by rfl, ?_⟩) (by assumption) ?_
      rotate_left
      · (intro w hSw; (try dsimp only at hSw); go_simp; try with_reducible rfl)
      simp only [Act.put, List.getElem_toArray, List.getElem_cons_succ, List.getElem_cons_zero, List.setIfInBounds_toArray, List.set_cons_zero, List.set_cons_succ]
      refine wpAnyH_take (i := 13) (v := ?_) rfl (by kernel_rfl) (by kernel_rfl) (by kernel_rfl) (fun _ _ _ h => h) (Or.inl ⟨by rfl, ?_⟩) (by assumption) ?_
      rotate_left
      · (intro w hSw; (try dsimp only at hSw); go_simp; try with_reducible rfl)
      simp only [Act.put, List.getElem_toArray, List.getElem_cons_succ, List.getElem_cons_zero, List.setIfInBounds_toArray, List.set_cons_zero, List.set_cons_succ]
      refine wpAnyH_take (i := 14) (v := ?_) rfl (by kernel_rfl) (by kernel_rfl) (by kernel_rfl) (fun _ _ _ h => h) (Or.inl ⟨by rfl, ?_⟩) (by assumption) ?_
      rotate_left
      · (intro w hSw; have z := C0 w hSw; go_simp; try with_reducible rfl)
      simp only [Act.put, List.getElem_toArray, List.getElem_cons_succ, List.getElem_cons_zero, List.setIfInBounds_toArray, List.set_cons_zero, List.set_cons_succ]
      refine wpAnyH_take (i := 15) (v := ?_) rfl (by kernel_rfl) (by kernel_rfl) (by kernel_rfl) (fun _ _ _ h => h) (Or.inl ⟨by rfl, ?_⟩) (by assumption) ?_
      rotate_left
      · (intro w hSw; (try dsimp only at hSw); go_simp; try with_reducible rfl)
      simp only [Act.put, List.getElem_toArray, List.getElem_cons_succ, List.getElem_cons_zero, List.setIfInBounds_toArray, List.set_cons_zero, List.set_cons_succ]
      refine wpAnyH_take (i := 16) (v := ?_) rfl (by kernel_rfl) (by kernel_rfl) (by kernel_rfl) (fun _ _ _ h => h) (Or.inl ⟨by rfl, ?_⟩) (by assumption) ?_
      rotate_left
      · (intro w hSw; (try dsimp only at hSw); go_simp; try with_reducible rfl)
      simp only [Act.put, List.getElem_toArray, List.getElem_cons_succ, List.getElem_cons_zero, List.setIfInBounds_toArray, List.set_cons_zero, List.set_cons_succ]
      refine wpAnyH_ready (rs := [7, 9]) (by kernel_rfl) (by simp) ?_
      refine AllReadyH.cons rfl (fun K hK => ?_) (AllReadyH.cons rfl (fun K hK => ?_) AllReadyH.nil)
      · refine step_app0 Try.underlying28 infoCn zCn (by decide) (by decide) rfl (.const (.slice none 0 0)) (.tmp 73) rfl wc.drew.heap.size k c2 (csV (cs.take k)) A2 rfl rfl (SRC1.out.keep ((Below.refl _ wc).drew)) (by have := HKL.out; have := HL.out; omega) (Nat.le_refl _) ?_
        intro A7 c7 u7 o7 b7
        have B7 := Lib.hid ((Below.refl _ wc).drew.trans (b7.mono (Nat.le_refl _)))
        have O7 := Lib.hid (own_le o7 (show wc.heap.size ≤ wc.drew.heap.size from Nat.le_refl _))
        clear o7 b7
        refine hK.out _ _ B7.out (fun hHeld => ?_)
        clear hK K
        refine wpAnyH_ready (rs := [9]) (by kernel_rfl) (by simp) ?_
        refine AllReadyH.cons rfl (fun K hK => ?_) AllReadyH.nil
        refine step_bs1 (by rfl) (.tmp 75) (cnV x) rfl rfl Try.underlying28 infoCn (cnV_len HX.out.len) (by decide) (by decide) ?_
        have b9 := (B7.out).alloc (B7.out).size (.cells (cnV x).toArray 42)
        have n9 := heap_alloc_last u7 (.cells (cnV x).toArray 42)
        have k9 := fun q (hq : q < u7.heap.size) => Below.heap_alloc u7 (.cells (cnV x).toArray 42) q hq
        obtain ⟨u9, e9⟩ : ∃ u, u7.alloc (.cells (cnV x).toArray 42) = u := ⟨_, rfl⟩
        obtain ⟨g9, eg9⟩ : ∃ g, u7.heap.size = g := ⟨_, rfl⟩
        rw [e9, eg9] at n9 ⊢
        rw [e9] at b9 k9
        have SRC9 : Hid (SrcG u9 11 (some ⟨g9, 0, none⟩) 1 (cnV x)) := Lib.hid ⟨by rw [(cnV_len HX.out.len)], (cn_one x), .inr ⟨g9, 0, rfl, lt_of_block n9, range_of n9⟩⟩
        have O7b : Hid (u9.ownsRow wc.heap.size 42 11 (.slice A7 k c7) k (csV (cs.take k))) := Lib.hid (row_keepO O7.out fun g hg => k9 g (own_blk O7.out hg).2)
        have B9 := Lib.hid b9
        clear b9 n9 k9 e9
        refine hK.out _ _ B9.out (fun hHeld => ?_)
        clear hK K
        refine wpAnyH_ready (rs := [10]) (by kernel_rfl) (by simp) ?_
        refine AllReadyH.cons rfl (fun K hK => ?_) AllReadyH.nil
        refine step_appG Try.underlying28 infoCn zCn (by decide) (by decide) rfl (.tmp 74) (.tmp 76) rfl wc.heap.size k 1 1 (.slice A7 k c7) (csV (cs.take k)) (cnV x) (some ⟨g9, 0, none⟩) rfl rfl O7b.out SRC9.out (by have := HKL.out; have := HL.out; omega) (by decide) (B9.out).size ?_
        intro A10 c10 u10 o10 b10
        have B10 := Lib.hid (B9.out.trans b10)
        have O10 := Lib.hid o10
        clear o10 b10
        refine hK.out _ _ B10.out (fun hHeld => ?_)
        clear hK K
        refine wpAnyH_ready (rs := [17]) (by kernel_rfl) (by simp) ?_
        refine AllReadyH.cons rfl (fun K hK => ?_) AllReadyH.nil
        refine step_appG Try.underlying28 infoCn zCn (by decide) (by decide) rfl (.tmp 77) (.tmp 83) rfl wc.heap.size (k + 1) (cs.length - k) bcp (.slice A10 (k + 1) c10) (csV (cs.take k) ++ cnV x) (csV (cs.drop k)) Bp rfl rfl O10.out (SRC2.out.keep B10.out) (by have := HKL.out; have := HL.out; omega) (by have := HLC.out; have := HL.out; omega) B10.out.size ?_
        intro A17 c17 u17 o17 b17
        have B17 := Lib.hid (B10.out.trans b17)
        have O17 := Lib.hid o17
        clear o17 b17
        refine hK.out _ _ B17.out (fun hHeld => ?_)
        clear hK K
        refine wpAnyH_take (i := 18) (v := ?_) rfl (by kernel_rfl) (by kernel_rfl) (by kernel_rfl) (fun _ _ _ h => h) (Or.inl ⟨by rfl, ?_⟩) (by assumption) ?_
        rotate_left
        · (intro w hSw; (try dsimp only at hSw); go_simp; try with_reducible rfl)
        simp only [Act.put, List.getElem_toArray, List.getElem_cons_succ, List.getElem_cons_zero, List.setIfInBounds_toArray, List.set_cons_zero, List.set_cons_succ]
        refine wpAnyH_take (i := 19) (v := ?_) rfl (by kernel_rfl) (by kernel_rfl) (by kernel_rfl) (fun _ _ _ h => h) (Or.inl ⟨by rfl, ?_⟩) (by assumption) ?_
        rotate_left
        · (intro w hSw; (try dsimp only at hSw); go_simp; try with_reducible rfl)
        simp only [Act.put, List.getElem_toArray, List.getElem_cons_succ, List.getElem_cons_zero, List.setIfInBounds_toArray, List.set_cons_zero, List.set_cons_succ]
        clear hHeld
        refine wpAnyH_done (by kernel_rfl) ?_ _
        refine qn_last rfl (by rfl) ?_
        have cB : u17.cell? ⟨B, 1, none⟩ = some (.slice A2 cs.length c2) := C0 u17 B17.out
        have fB : u17.frozen? ⟨B, 1, none⟩ = false := bl_free (bl_keep BLK.out (B17.out.block B (bl_lt BLK.out))) 1
        go_simp
        clear cB fB
        go_wp2
        go_meet
        case rel =>
          have D := co_done (x := u17) (A4 := A17) (c4 := c17) (cs' := cs2) HO.out HB3.out HO3.out (by rw [← E3.out]; exact B17.out) (by rw [← E3.out, C2.out.1, ← C2.out.2]; exact O17.out) (by rw [P2.out.1, C2.out.1, HLEN.out]) OKS.out.1 OKS.out.2
          obtain ⟨Q', d1, d2, d3⟩ := D
          rw [C2.out.1] at d1 d3
          have f0 : Fr w wa Q := Fr.of_below (by rw [HN.out]; exact BV.out.trans (BA.out.mono (by rw [VS.out]; omega)))
          exact ⟨Q', d1, fun q hq => (d2 q hq).imp id fun e => Nat.le_trans f0.size e, f0.trans d3 fun q hq => .inl hq⟩
      · refine step_bs1 (by rfl) (.tmp 75) (cnV x) rfl rfl Try.underlying28 infoCn (cnV_len HX.out.len) (by decide) (by decide) ?_
        have b9 := ((Below.refl wc.heap.size wc).drew).alloc ((Below.refl wc.heap.size wc).drew).size (.cells (cnV x).toArray 42)
        have n9 := heap_alloc_last wc.drew (.cells (cnV x).toArray 42)
        have k9 := fun q (hq : q < wc.drew.heap.size) => Below.heap_alloc wc.drew (.cells (cnV x).toArray 42) q hq
        obtain ⟨u9, e9⟩ : ∃ u, wc.drew.alloc (.cells (cnV x).toArray 42) = u := ⟨_, rfl⟩
        obtain ⟨g9, eg9⟩ : ∃ g, wc.drew.heap.size = g := ⟨_, rfl⟩
        rw [e9, eg9] at n9 ⊢
        rw [e9] at b9 k9
        have SRC9 : Hid (SrcG u9 11 (some ⟨g9, 0, none⟩) 1 (cnV x)) := Lib.hid ⟨by rw [(cnV_len HX.out.len)], (cn_one x), .inr ⟨g9, 0, rfl, lt_of_block n9, range_of n9⟩⟩
        have B9 := Lib.hid b9
        clear b9 n9 k9 e9 eg9
        refine hK.out _ _ B9.out (fun hHeld => ?_)
        clear hK K
        refine wpAnyH_ready (rs := [7]) (by kernel_rfl) (by simp) ?_
        refine AllReadyH.cons rfl (fun K hK => ?_) AllReadyH.nil
        refine step_app0 Try.underlying28 infoCn zCn (by decide) (by decide) rfl (.const (.slice none 0 0)) (.tmp 73) rfl u9.heap.size k c2 (csV (cs.take k)) A2 rfl rfl (SRC1.out.keep (B9.out)) (by have := HKL.out; have := HL.out; omega) (Nat.le_refl _) ?_
        intro A7 c7 u7 o7 b7
        have B7 := Lib.hid (B9.out.trans (b7.mono B9.out.size))
        have O7 := Lib.hid (own_le o7 B9.out.size)
        have SRC9 : Hid (SrcG u7 11 (some ⟨g9, 0, none⟩) 1 (cnV x)) := Lib.hid (SRC9.out.keep b7)
        clear o7 b7
        refine hK.out _ _ B7.out (fun hHeld => ?_)
        clear hK K
        refine wpAnyH_ready (rs := [10]) (by kernel_rfl) (by simp) ?_
        refine AllReadyH.cons rfl (fun K hK => ?_) AllReadyH.nil
        refine step_appG Try.underlying28 infoCn zCn (by decide) (by decide) rfl (.tmp 74) (.tmp 76) rfl wc.heap.size k 1 1 (.slice A7 k c7) (csV (cs.take k)) (cnV x) (some ⟨g9, 0, none⟩) rfl rfl O7.out SRC9.out (by have := HKL.out; have := HL.out; omega) (by decide) (B7.out).size ?_
        intro A10 c10 u10 o10 b10
        have B10 := Lib.hid (B7.out.trans b10)
        have O10 := Lib.hid o10
        clear o10 b10
        refine hK.out _ _ B10.out (fun hHeld => ?_)
        clear hK K
        refine wpAnyH_ready (rs := [17]) (by kernel_rfl) (by simp) ?_
        refine AllReadyH.cons rfl (fun K hK => ?_) AllReadyH.nil
        refine step_appG Try.underlying28 infoCn zCn (by decide) (by decide) rfl (.tmp 77) (.tmp 83) rfl wc.heap.size (k + 1) (cs.length - k) bcp (.slice A10 (k + 1) c10) (csV (cs.take k) ++ cnV x) (csV (cs.drop k)) Bp rfl rfl O10.out (SRC2.out.keep B10.out) (by have := HKL.out; have := HL.out; omega) (by have := HLC.out; have := HL.out; omega) B10.out.size ?_
        intro A17 c17 u17 o17 b17
        have B17 := Lib.hid (B10.out.trans b17)
        have O17 := Lib.hid o17
        clear o17 b17
        refine hK.out _ _ B17.out (fun hHeld => ?_)
        clear hK K
        refine wpAnyH_take (i := 18) (v := ?_) rfl (by kernel_rfl) (by kernel_rfl) (by kernel_rfl) (fun _ _ _ h => h) (Or.inl ⟨by rfl, ?_⟩) (by assumption) ?_
        rotate_left
        · (intro w hSw; (try dsimp only at hSw); go_simp; try with_reducible rfl)
        simp only [Act.put, List.getElem_toArray, List.getElem_cons_succ, List.getElem_cons_zero, List.setIfInBounds_toArray, List.set_cons_zero, List.set_cons_succ]
        refine wpAnyH_take (i := 19) (v := ?_) rfl (by kernel_rfl) (by kernel_rfl) (by kernel_rfl) (fun _ _ _ h => h) (Or.inl ⟨by rfl, ?_⟩) (by assumption) ?_
        rotate_left
        · (intro w hSw; (try dsimp only at hSw); go_simp; try with_reducible rfl)
        simp only [Act.put, List.getElem_toArray, List.getElem_cons_succ, List.getElem_cons_zero, List.setIfInBounds_toArray, List.set_cons_zero, List.set_cons_succ]
        clear hHeld
        refine wpAnyH_done (by kernel_rfl) ?_ _
        refine qn_last rfl (by rfl) ?_
        have cB : u17.cell? ⟨B, 1, none⟩ = some (.slice A2 cs.length c2) := C0 u17 B17.out
        have fB : u17.frozen? ⟨B, 1, none⟩ = false := bl_free (bl_keep BLK.out (B17.out.block B (bl_lt BLK.out))) 1
        go_simp
        clear cB fB
        go_wp2
        go_meet
        case rel =>
          have D := co_done (x := u17) (A4 := A17) (c4 := c17) (cs' := cs2) HO.out HB3.out HO3.out (by rw [← E3.out]; exact B17.out) (by rw [← E3.out, C2.out.1, ← C2.out.2]; exact O17.out) (by rw [P2.out.1, C2.out.1, HLEN.out]) OKS.out.1 OKS.out.2
          obtain ⟨Q', d1, d2, d3⟩ := D
          rw [C2.out.1] at d1 d3
          have f0 : Fr w wa Q := Fr.of_below (by rw [HN.out]; exact BV.out.trans (BA.out.mono (by rw [VS.out]; omega)))
          exact ⟨Q', d1, fun q hq => (d2 q hq).imp id fun e => Nat.le_trans f0.size e, f0.trans d3 fun q hq => .inl hq⟩
    case rest =>
      have R := Lib.hid hcut
      clear hcut
      go_wp2
      go_ret
      exact ⟨rfl, R.out⟩
end Go.Proofs.Ytdggnmlhgglccaa
