/-
  The walk of LamportReads.
-/
import Derived.Test.YtimfinachecadaaDoorL15
import Derived.Test.YtimfinachecadaaDoorL17
namespace Go.Proofs.YtimfinachecadaaDoor
open Go.RowKit
attribute [local irreducible] ua da ba kk sw S8.run rt hs comp splice outB sha msg bvals cat at8 at16 secM zeros sec keyF marksF mk pubk bt openF shutF readF splR sd1 ms1
set_option maxRecDepth 100000 in
set_option maxHeartbeats 8000000 in
theorem q4 (msg8 op sh : List Int) (w : World) (hk : Keys w) (hm : msg8.length = 8) (hbt : Byt msg8) (hop : op.length = 128) (hsh : sh.length = 128) :
    Calls Tryd.prog 4 #[.agg (ba msg8), .agg (ba op), .agg (ba sh)] w fun e w' => e = .returned (.bool true) ∧ Below w.heap.size w w' := by
  have HK := Lib.hid hk
  have HP : Hid (0 < w.heap.size) := keys_pos hk
  obtain ⟨S, hS⟩ : ∃ S, w.heap.size = S := ⟨_, rfl⟩
  have HS := Lib.hid hS
  have KW : Hid (∀ w', Below S w w' → Keys w') := fun w' hb => keys_below HK.out hb (by rw [← HS.out]; exact HP.out)
  have M0 := Lib.hid (ba_old (ba_old (ba_new hS msg8 23) (Obj.cells (ba op) 27)) (Obj.cells (ba sh) 27))
  have O0 := Lib.hid (ba_old (ba_new (size_al hS (Obj.cells (ba msg8) 23)) op 27) (Obj.cells (ba sh) 27))
  have H0 := Lib.hid (ba_new (size_al (size_al hS (Obj.cells (ba msg8) 23)) (Obj.cells (ba op) 27)) sh 27)
  have B0 : Hid (Below S w (((w.alloc (Obj.cells (ba msg8) 23)).alloc (Obj.cells (ba op) 27)).alloc (Obj.cells (ba sh) 27))) := by subst hS; exact (((Below.refl _ w).alloc (Nat.le_refl _) _).alloc (by simp) _).alloc (by simp; omega) _
  have C8 := Lib.hid (p8 (((w.alloc (Obj.cells (ba msg8) 23)).alloc (Obj.cells (ba op) 27)).alloc (Obj.cells (ba sh) 27)) (KW.out _ B0.out))
  obtain ⟨P, hP⟩ : ∃ P, pubk (cat (readF msg8 op sh) 32) = P := ⟨_, rfl⟩
  have LP : Hid (P.length = 8) := by rw [← hP]; exact pubk_len _
  have C14 : Hid (∀ w', Below S w w' → Calls Tryd.prog 14 #[.agg (bvals msg8).toArray, .agg (bvals op).toArray, .agg (bvals sh).toArray] w' fun e w'' => e = .returned (.agg (ba P)) ∧ Below w'.heap.size w' w'') := fun w' hb => by
    have := p14 msg8 op sh w' (KW.out w' hb) hm hbt hop hsh
    rw [hP, ba_bvals msg8, ba_bvals op, ba_bvals sh] at this
    exact this
  have C13 : Hid (∀ w', Calls Tryd.prog 13 #[.agg (bvals msg8).toArray, .agg (bvals op).toArray, .agg (bvals sh).toArray] w' fun e w'' => e = .returned (.agg (ba P)) ∧ Below w'.heap.size w' w'') := fun w' => by
    have := r13 msg8 op sh w' hm hbt hop hsh
    rw [hP, ba_bvals msg8, ba_bvals op, ba_bvals sh] at this
    exact this
  have f1 := fun w => eqh P P w LP.out LP.out
  rw [decide_eq_true rfl] at f1
  have him : (Tryd.prog.info? 23).map (·.size) = some (bvals msg8).length := by rw [s27]; simp [bvals, hm]
  have hio : (Tryd.prog.info? 27).map (·.size) = some (bvals op).length := by rw [q27]; simp [bvals, hop]
  have his : (Tryd.prog.info? 27).map (·.size) = some (bvals sh).length := by rw [q27]; simp [bvals, hsh]
  clear hk hm hbt hop hsh hP
  go_enter Tryd.func4, Tryd.ntmps4
  go_wp2_with (first
    | (go_at_call 8
       refine C8.out.mono ?_
       rintro e w1 ⟨rfl, hb⟩
       have B1 := Lib.hid hb
       clear hb)
    | fail)
  have L0 : Hid (S + 2 < (((w.alloc (Obj.cells (ba msg8) 23)).alloc (Obj.cells (ba op) 27)).alloc (Obj.cells (ba sh) 27)).heap.size) := lt_of_block H0.out
  have M1 : Hid (BA w1 S 23 msg8) := (B1.out.block _ (by have := L0.out; omega)).trans M0.out
  have O1 : Hid (BA w1 (S + 1) 27 op) := (B1.out.block _ (by have := L0.out; omega)).trans O0.out
  have H1 : Hid (BA w1 (S + 2) 27 sh) := (B1.out.block _ L0.out).trans H0.out
  have BW : Hid (Below S w w1) := B0.out.trans (B1.out.mono (by have := L0.out; omega))
  clear hS M0 O0 H0 B0 B1 L0
  obtain ⟨N, hN⟩ : ∃ N, w1.heap.size = N := ⟨_, rfl⟩
  have WN : Hid (w1.heap.size = N) := hN
  have LN : Hid (S + 2 < N) := by show _ < _; rw [← hN]; exact lt_of_block H1.out
  have BX : Hid (∀ w', Below N w1 w' → Below S w w') := fun w' hb => BW.out.trans (hb.mono (by have := LN.out; omega))
  have KN : Hid (∀ w', Below N w1 w' → Below S w w') := BX.out
  clear hN
  have XX : Hid (Below N w1 w1.drew) := (Below.refl _ _).drew
  refine wp_region_held_drew (S := (fun w' : World => ∀ q, q < N → w'.heap[q]? = w1.heap[q]?)) (by kernel_rfl) (by exact fun _ _ => rfl) (fun hHeld => ?_)
  refine wpAnyH_take (i := 0) rfl (by kernel_rfl) (by kernel_rfl) (by kernel_rfl) (fun _ _ _ h => h) (yieldsIf_load_mid (by rfl) 23 (.tmp 3) rfl (S) (0) rfl (bvals msg8) _ (fun w h => ba_range (t := 23) ((h _ (by have := LN.out; omega)).trans M1.out)) Tryd.underlying23 rfl him) (by assumption) ?_
  simp only [Act.put, List.getElem_toArray, List.getElem_cons_zero, List.setIfInBounds_toArray, List.set_cons_zero, List.set_cons_succ]
  refine wpAnyH_take (i := 1) rfl (by kernel_rfl) (by kernel_rfl) (by kernel_rfl) (fun _ _ _ h => h) (yieldsIf_load_mid (by rfl) 27 (.tmp 4) rfl (S + 1) (0) rfl (bvals op) _ (fun w h => ba_range (t := 27) ((h _ (by have := LN.out; omega)).trans O1.out)) Tryd.underlying27 rfl hio) (by assumption) ?_
  simp only [Act.put, List.getElem_toArray, List.getElem_cons_succ, List.getElem_cons_zero, List.setIfInBounds_toArray, List.set_cons_zero, List.set_cons_succ]
  refine wpAnyH_take (i := 2) rfl (by kernel_rfl) (by kernel_rfl) (by kernel_rfl) (fun _ _ _ h => h) (yieldsIf_load_mid (by rfl) 27 (.tmp 5) rfl (S + 2) (0) rfl (bvals sh) _ (fun w h => ba_range (t := 27) ((h _ (by have := LN.out; omega)).trans H1.out)) Tryd.underlying27 rfl his) (by assumption) ?_
  simp only [Act.put, List.getElem_toArray, List.getElem_cons_succ, List.getElem_cons_zero, List.setIfInBounds_toArray, List.set_cons_zero, List.set_cons_succ]
  refine wpAnyH_take (i := 4) rfl (by kernel_rfl) (by kernel_rfl) (by kernel_rfl) (fun _ _ _ h => h) (yieldsIf_load_mid (by rfl) 23 (.tmp 3) rfl (S) (0) rfl (bvals msg8) _ (fun w h => ba_range (t := 23) ((h _ (by have := LN.out; omega)).trans M1.out)) Tryd.underlying23 rfl him) (by assumption) ?_
  simp only [Act.put, List.getElem_toArray, List.getElem_cons_succ, List.getElem_cons_zero, List.setIfInBounds_toArray, List.set_cons_zero, List.set_cons_succ]
  refine wpAnyH_take (i := 5) rfl (by kernel_rfl) (by kernel_rfl) (by kernel_rfl) (fun _ _ _ h => h) (yieldsIf_load_mid (by rfl) 27 (.tmp 4) rfl (S + 1) (0) rfl (bvals op) _ (fun w h => ba_range (t := 27) ((h _ (by have := LN.out; omega)).trans O1.out)) Tryd.underlying27 rfl hio) (by assumption) ?_
  simp only [Act.put, List.getElem_toArray, List.getElem_cons_succ, List.getElem_cons_zero, List.setIfInBounds_toArray, List.set_cons_zero, List.set_cons_succ]
  refine wpAnyH_take (i := 6) rfl (by kernel_rfl) (by kernel_rfl) (by kernel_rfl) (fun _ _ _ h => h) (yieldsIf_load_mid (by rfl) 27 (.tmp 5) rfl (S + 2) (0) rfl (bvals sh) _ (fun w h => ba_range (t := 27) ((h _ (by have := LN.out; omega)).trans H1.out)) Tryd.underlying27 rfl his) (by assumption) ?_
  simp only [Act.put, List.getElem_toArray, List.getElem_cons_succ, List.getElem_cons_zero, List.setIfInBounds_toArray, List.set_cons_zero, List.set_cons_succ]
  refine wpAnyH_ready (rs := [3]) (by kernel_rfl) (by simp) ?_
  refine AllReadyH.cons rfl (fun K hK => ?_) AllReadyH.nil
  go_simp
  go_at_call 14
  refine (C14.out _ (KN.out _ XX.out)).mono ?_
  rintro e wc1 ⟨rfl, hba⟩
  have XN : Hid (Below N w1 wc1) := XX.out.trans (hba.mono (by have := XX.out.size; have := WN.out; omega))
  clear XX hba hHeld
  have XX := XN
  clear XN
  (try go_wp2_with fail)
  refine hK.out _ _ (by exact fun q hq => XX.out.block q hq) (fun hHeld => ?_)
  clear hK K
  refine wpAnyH_ready (rs := [7]) (by kernel_rfl) (by simp) ?_
  refine AllReadyH.cons rfl (fun K hK => ?_) AllReadyH.nil
  go_simp
  go_at_call 13
  refine (C13.out _).mono ?_
  rintro e wc2 ⟨rfl, hba⟩
  have XN : Hid (Below N w1 wc2) := XX.out.trans (hba.mono (by have := XX.out.size; have := WN.out; omega))
  clear XX hba hHeld
  have XX := XN
  clear XN
  (try go_wp2_with fail)
  refine hK.out _ _ (by exact fun q hq => XX.out.block q hq) (fun hHeld => ?_)
  clear hK K
  refine wpAnyH_take (i := 8) (v := ?_) rfl (by kernel_rfl) (by kernel_rfl) (by kernel_rfl) (fun _ _ _ h => h) (Or.inl ⟨by rfl, ?_⟩) (by assumption) ?_
  rotate_left
  · (intro w hSw; (try dsimp only at hSw); go_simp; try with_reducible rfl)
  simp only [Act.put, List.getElem_toArray, List.getElem_cons_succ, List.getElem_cons_zero, List.setIfInBounds_toArray, List.set_cons_zero, List.set_cons_succ]
  refine wpAnyH_take (i := 9) (v := ?_) rfl (by kernel_rfl) (by kernel_rfl) (by kernel_rfl) (fun _ _ _ h => h) (Or.inl ⟨by rfl, ?_⟩) (by assumption) ?_
  rotate_left
  · (intro w hSw; (try dsimp only at hSw); go_simp; try with_reducible rfl)
  simp only [Act.put, List.getElem_toArray, List.getElem_cons_succ, List.getElem_cons_zero, List.setIfInBounds_toArray, List.set_cons_zero, List.set_cons_succ]
  refine wpAnyH_done (by kernel_rfl) ?_ _
  go_wp2
  go_ret
  exact ⟨rfl, by rw [HS.out]; exact BX.out _ XX.out⟩
end Go.Proofs.YtimfinachecadaaDoor
