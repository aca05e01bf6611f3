/-
  The walk of KeytreeSigns.
-/
import Derived.Test.YtkmfmkonejdjiaaDoorK9
import Derived.Test.YtkmfmkonejdjiaaDoorK10
namespace Go.Proofs.YtkmfmkonejdjiaaDoor
open Go.RowKit
attribute [local irreducible] ua da ba kk sw S8.run rt hs comp splice outB sha msg bvals cat at8 at16 secM zeros sec keyF marksF mk pubk bt openF shutF readF splR oF sF rootF leafH twoH stepsF cutN leadF provL rootV pubF pubs keyL opn sht way gives ckB chkB rootL sg opL shL sigL wayP wayL
set_option maxRecDepth 100000 in
set_option maxHeartbeats 16000000 in
theorem q3T (seed msg8 : List Int) (index j : Int) (L : List Int) (w : World) (hk : Keys w) (hs : seed.length = 8) (hm : msg8.length = 8) (hbt : Byt msg8) (hL : L.length = 280)
    (h9 : ∀ (T gk ck gp cp : Nat) (ks : Nat → Nat) (w' : World), Keys w' → TA w' T seed gk ck gp cp ks → Calls Tryd.prog 9 #[.pointer (some ⟨T, 0, none⟩), .int .i64 index, .agg (ba msg8)] w' fun e w'' => e = .returned (.tuple #[.agg (sg j L).toArray, .bool true]) ∧ Below w'.heap.size w' w'')
    (h10 : ∀ (w' : World), Keys w' → Calls Tryd.prog 10 #[.agg (ba seed), .int .i64 index, .agg (ba msg8)] w' fun e w'' => e = .returned (.tuple #[.agg (sg j L).toArray, .bool true]) ∧ Below w'.heap.size w' w'')
    (hck : ckB (rootL seed) msg8 j L = true) :
    Calls Tryd.prog 3 #[.agg (ba seed), .int .i64 index, .agg (ba msg8)] w fun e w' => e = .returned (.bool true) ∧ Below w.heap.size w w' := by
  have h4 := z30
  have HK := Lib.hid hk
  have HP : Hid (0 < w.heap.size) := keys_pos hk
  have HSL := Lib.hid hs
  have HML := Lib.hid hm
  have LS := Lib.hid hL
  obtain ⟨S, hS⟩ : ∃ S, w.heap.size = S := ⟨_, rfl⟩
  have HS := Lib.hid hS
  have KW : Hid (∀ w', Below S w w' → Keys w') := fun w' hb => keys_below HK.out hb (by rw [← HS.out]; exact HP.out)
  have E0 := Lib.hid (ba_old (ba_new hS seed 23) (Obj.cells (ba msg8) 23))
  have M0 := Lib.hid (ba_new (size_al hS (Obj.cells (ba seed) 23)) msg8 23)
  have B0 : Hid (Below S w ((w.alloc (Obj.cells (ba seed) 23)).alloc (Obj.cells (ba msg8) 23))) := by subst hS; exact ((Below.refl _ w).alloc (Nat.le_refl _) _).alloc (by simp) _
  have C7 := Lib.hid (kAwake ((w.alloc (Obj.cells (ba seed) 23)).alloc (Obj.cells (ba msg8) 23)) (KW.out _ B0.out))
  obtain ⟨Q, hQ⟩ : ∃ Q, rootL seed = Q := ⟨_, rfl⟩
  have LQ : Hid (Q.length = 8) := by rw [← hQ]; exact rootL_len _
  have C8 : Hid (∀ w', Below S w w' → Calls Tryd.prog 8 #[.agg (ba seed)] w' fun e w'' => ∃ T gk ck gp cp ks, e = .returned (.pointer (some ⟨T, 0, none⟩)) ∧ w'.heap.size ≤ T ∧ TA w'' T seed gk ck gp cp ks ∧ Below w'.heap.size w' w'') := fun w' hb => kNew seed w' (KW.out w' hb) hs
  have C9A : Hid (∀ (T gk ck gp cp : Nat) (ks : Nat → Nat) (w' : World), Below S w w' → TA w' T seed gk ck gp cp ks → Calls Tryd.prog 9 #[.pointer (some ⟨T, 0, none⟩), .int .i64 index, .agg (ba msg8)] w' fun e w'' => e = .returned (.tuple #[.agg (sg j L).toArray, .bool true]) ∧ Below w'.heap.size w' w'') := fun T gk ck gp cp ks w' hb hT => h9 T gk ck gp cp ks w' (KW.out w' hb) hT
  have C10 : Hid (∀ w', Below S w w' → Calls Tryd.prog 10 #[.agg (ba seed), .int .i64 index, .agg (ba msg8)] w' fun e w'' => e = .returned (.tuple #[.agg (sg j L).toArray, .bool true]) ∧ Below w'.heap.size w' w'') := fun w' hb => h10 w' (KW.out w' hb)
  have C11A : Hid (∀ (T gk ck gp cp : Nat) (ks : Nat → Nat) (w' : World), Below S w w' → TA w' T seed gk ck gp cp ks → Calls Tryd.prog 11 #[.pointer (some ⟨T, 0, none⟩)] w' fun e w'' => e = .returned (.agg (ba Q)) ∧ Below w'.heap.size w' w'') := fun T gk ck gp cp ks w' hb hT => by
    have := kRoot seed T gk ck gp cp ks w' (KW.out w' hb) hT
    rw [hQ] at this
    exact this
  have C12 : Hid (∀ w', Below S w w' → Calls Tryd.prog 12 #[.agg (bvals seed).toArray] w' fun e w'' => e = .returned (.agg (ba Q)) ∧ Below w'.heap.size w' w'') := fun w' hb => by
    have := dTree seed w' (KW.out w' hb) hs
    rw [hQ, ba_bvals seed] at this
    exact this
  have C13 : Hid (∀ w', Below S w w' → Calls Tryd.prog 13 #[.agg (ba Q), .agg (bvals msg8).toArray, .agg (sg j L).toArray] w' fun e w'' => e = .returned (.bool true) ∧ Below w'.heap.size w' w'') := fun w' hb => by
    have := kCheck Q msg8 j L w' (KW.out w' hb) LQ.out hm hbt hL
    rw [← hQ, hck, hQ, ba_bvals msg8] at this
    exact this
  have f1 := fun w => eqhL Q Q w LQ.out LQ.out
  rw [decide_eq_true rfl] at f1
  have f2 := fun w => eq_sig j L hL w
  have hie := inf23 seed hs
  have him := inf23 msg8 hm
  clear hk hs hm hL h9 h10 hQ hbt hck
  go_enter Tryd.func3, Tryd.ntmps3
  go_wp2_with (first
    | (go_at_call 7
       refine C7.out.mono ?_
       rintro e w1 ⟨rfl, hb⟩
       have E1 : Hid (BA w1 S 23 seed) := (hb.block _ (lt_of_block E0.out)).trans E0.out
       have M1 : Hid (BA w1 (S + 1) 23 msg8) := (hb.block _ (lt_of_block M0.out)).trans M0.out
       have B1 : Hid (Below S w w1) := B0.out.trans (hb.mono (by have := lt_of_block M0.out; omega))
       clear hb E0 M0 B0 C7 hS)
    | (refine wpList_load_row rfl 23 (.tmp 3) rfl S rfl 23 (ba seed) (0, 0) _ E1.out Tryd.underlying23 rfl (sz s27 (by rw [ba_size, HSL.out])) ?_)
    | (go_at_call 8
       refine (C8.out w1 B1.out).mono ?_
       rintro e v1 ⟨T, gk, ck, gp, cp, ks, rfl, hTS, hT, hb⟩
       have TT := Lib.hid hT
       have E2 : Hid (BA v1 S 23 seed) := (hb.block _ (lt_of_block E1.out)).trans E1.out
       have M2 : Hid (BA v1 (S + 1) 23 msg8) := (hb.block _ (lt_of_block M1.out)).trans M1.out
       have B2 : Hid (Below S w v1) := B1.out.trans (hb.mono (by have := lt_of_block M1.out; omega))
       have SVv1 : Hid (S ≤ v1.heap.size) := by show _ ≤ _; have := lt_of_block M2.out; omega
       have C9 := Lib.hid (C9A.out T gk ck gp cp ks)
       have C11 := Lib.hid (C11A.out T gk ck gp cp ks)
       clear hT hb hTS C8 C9A C11A E1 M1 B1)
    | (refine wpList_load_row rfl 23 (.tmp 5) rfl (S + 1) rfl 23 (ba msg8) (0, 0) _ M2.out Tryd.underlying23 rfl (sz s27 (by rw [ba_size, HML.out])) ?_)
    | (go_at_call 9
       refine (C9.out v1 B2.out TT.out).mono ?_
       rintro e u1 ⟨rfl, hb⟩
       have E2_i : Hid (BA u1 S 23 seed) := (hb.block _ (lt_of_block E2.out)).trans E2.out
       have M2_i : Hid (BA u1 (S + 1) 23 msg8) := (hb.block _ (lt_of_block M2.out)).trans M2.out
       have TT_i : Hid (TA u1 T seed gk ck gp cp ks) := TT.out.keep hb
       have B2_i : Hid (Below S w u1) := B2.out.trans (hb.mono SVv1.out)
       have SVba : Hid (S ≤ u1.heap.size) := Nat.le_trans SVv1.out hb.size
       clear hb
       obtain ⟨A, hA⟩ : ∃ q, u1.heap.size = q := ⟨_, rfl⟩
       have Y0a := Lib.hid (sb_new hA 0 (zeros 280))
       have AS : Hid (S ≤ A) := by show _ ≤ _; rw [← hA]; exact SVba.out)
    | (refine wpList_store_rowTo rfl 30 (.tmp 8) (.tmp 23) rfl rfl A (sg (j) L).toArray rfl rfl 30 (sg 0 (zeros 280)).toArray Y0a.out (sg_infoA _ _ LS.out) ((sg_size _ _ (zeros_len 280)).trans (sg_size _ _ LS.out).symm) (sg_ones _ _) ?_
       have Ya : Hid (SB ((u1.alloc (Obj.cells (sg 0 (zeros 280)).toArray 30)).setRow A (sg (j) L).toArray) A (j) L) := setRow_heap _ _ _ _ _ _ Y0a.out
       have BWa : Hid (Below A u1 ((u1.alloc (Obj.cells (sg 0 (zeros 280)).toArray 30)).setRow A (sg (j) L).toArray)) := below_setRow ((Below.refl _ _).alloc (Nat.le_of_eq hA.symm) _) (Nat.le_refl _) _
       have E2a : Hid (BA ((u1.alloc (Obj.cells (sg 0 (zeros 280)).toArray 30)).setRow A (sg (j) L).toArray) S 23 seed) := (BWa.out.block _ (by rw [← hA]; exact lt_of_block E2_i.out)).trans E2_i.out
       have M2a : Hid (BA ((u1.alloc (Obj.cells (sg 0 (zeros 280)).toArray 30)).setRow A (sg (j) L).toArray) (S + 1) 23 msg8) := (BWa.out.block _ (by rw [← hA]; exact lt_of_block M2_i.out)).trans M2_i.out
       have TTa : Hid (TA ((u1.alloc (Obj.cells (sg 0 (zeros 280)).toArray 30)).setRow A (sg (j) L).toArray) T seed gk ck gp cp ks) := TT_i.out.keep (by rw [hA]; exact BWa.out)
       have B2a : Hid (Below S w ((u1.alloc (Obj.cells (sg 0 (zeros 280)).toArray 30)).setRow A (sg (j) L).toArray)) := B2_i.out.trans (BWa.out.mono AS.out)
       have LAa : Hid (A < ((u1.alloc (Obj.cells (sg 0 (zeros 280)).toArray 30)).setRow A (sg (j) L).toArray).heap.size) := sb_lt Ya.out
       have SVv2 : Hid (S ≤ ((u1.alloc (Obj.cells (sg 0 (zeros 280)).toArray 30)).setRow A (sg (j) L).toArray).heap.size) := Nat.le_trans AS.out (Nat.le_of_lt LAa.out)
       clear Y0a BWa hA E2 E2_i M2 M2_i TT TT_i B2 B2_i SVba
       generalize ((u1.alloc (Obj.cells (sg 0 (zeros 280)).toArray 30)).setRow A (sg (j) L).toArray) = v2 at *)
    | (refine wpList_load_row rfl 23 (.tmp 3) rfl S rfl 23 (ba seed) (0, 0) _ E2a.out Tryd.underlying23 rfl (sz s27 (by rw [ba_size, HSL.out])) ?_)
    | (refine wpList_load_row rfl 23 (.tmp 5) rfl (S + 1) rfl 23 (ba msg8) (0, 0) _ M2a.out Tryd.underlying23 rfl (sz s27 (by rw [ba_size, HML.out])) ?_)
    | (go_at_call 10
       refine (C10.out v2 B2a.out).mono ?_
       rintro e u2 ⟨rfl, hb⟩
       have E2a_i : Hid (BA u2 S 23 seed) := (hb.block _ (lt_of_block E2a.out)).trans E2a.out
       have M2a_i : Hid (BA u2 (S + 1) 23 msg8) := (hb.block _ (lt_of_block M2a.out)).trans M2a.out
       have TTa_i : Hid (TA u2 T seed gk ck gp cp ks) := TTa.out.keep hb
       have Ya_i : Hid (SB u2 A (j) L) := (hb.block _ (lt_of_block Ya.out)).trans Ya.out
       have B2a_i : Hid (Below S w u2) := B2a.out.trans (hb.mono SVv2.out)
       have SVbb : Hid (S ≤ u2.heap.size) := Nat.le_trans SVv2.out hb.size
       clear hb
       obtain ⟨D, hD⟩ : ∃ q, u2.heap.size = q := ⟨_, rfl⟩
       have Y0b := Lib.hid (sb_new hD 0 (zeros 280))
       have DS : Hid (S ≤ D) := by show _ ≤ _; rw [← hD]; exact SVbb.out)
    | (refine wpList_store_rowTo rfl 30 (.tmp 10) (.tmp 30) rfl rfl D (sg (j) L).toArray rfl rfl 30 (sg 0 (zeros 280)).toArray Y0b.out (sg_infoA _ _ LS.out) ((sg_size _ _ (zeros_len 280)).trans (sg_size _ _ LS.out).symm) (sg_ones _ _) ?_
       have Yb : Hid (SB ((u2.alloc (Obj.cells (sg 0 (zeros 280)).toArray 30)).setRow D (sg (j) L).toArray) D (j) L) := setRow_heap _ _ _ _ _ _ Y0b.out
       have BWb : Hid (Below D u2 ((u2.alloc (Obj.cells (sg 0 (zeros 280)).toArray 30)).setRow D (sg (j) L).toArray)) := below_setRow ((Below.refl _ _).alloc (Nat.le_of_eq hD.symm) _) (Nat.le_refl _) _
       have E2ab : Hid (BA ((u2.alloc (Obj.cells (sg 0 (zeros 280)).toArray 30)).setRow D (sg (j) L).toArray) S 23 seed) := (BWb.out.block _ (by rw [← hD]; exact lt_of_block E2a_i.out)).trans E2a_i.out
       have M2ab : Hid (BA ((u2.alloc (Obj.cells (sg 0 (zeros 280)).toArray 30)).setRow D (sg (j) L).toArray) (S + 1) 23 msg8) := (BWb.out.block _ (by rw [← hD]; exact lt_of_block M2a_i.out)).trans M2a_i.out
       have TTab : Hid (TA ((u2.alloc (Obj.cells (sg 0 (zeros 280)).toArray 30)).setRow D (sg (j) L).toArray) T seed gk ck gp cp ks) := TTa_i.out.keep (by rw [hD]; exact BWb.out)
       have Yab : Hid (SB ((u2.alloc (Obj.cells (sg 0 (zeros 280)).toArray 30)).setRow D (sg (j) L).toArray) A (j) L) := (BWb.out.block _ (by rw [← hD]; exact lt_of_block Ya_i.out)).trans Ya_i.out
       have B2ab : Hid (Below S w ((u2.alloc (Obj.cells (sg 0 (zeros 280)).toArray 30)).setRow D (sg (j) L).toArray)) := B2a_i.out.trans (BWb.out.mono DS.out)
       have LAb : Hid (D < ((u2.alloc (Obj.cells (sg 0 (zeros 280)).toArray 30)).setRow D (sg (j) L).toArray).heap.size) := sb_lt Yb.out
       have SVv3 : Hid (S ≤ ((u2.alloc (Obj.cells (sg 0 (zeros 280)).toArray 30)).setRow D (sg (j) L).toArray).heap.size) := Nat.le_trans DS.out (Nat.le_of_lt LAb.out)
       clear Y0b BWb hD E2a E2a_i M2a M2a_i TTa TTa_i Ya Ya_i B2a B2a_i SVbb
       generalize ((u2.alloc (Obj.cells (sg 0 (zeros 280)).toArray 30)).setRow D (sg (j) L).toArray) = v3 at *)
    | fail)
  have EB : Hid (BA v3 S 23 seed) := E2ab.out
  have MB : Hid (BA v3 (S + 1) 23 msg8) := M2ab.out
  have YA : Hid (SB v3 A j L) := Yab.out
  have YD : Hid (SB v3 D j L) := Yb.out
  have TB : Hid (TA v3 T seed gk ck gp cp ks) := TTab.out
  have BB : Hid (Below S w v3) := B2ab.out
  clear E2ab M2ab Yab Yb TTab B2ab
  obtain ⟨N, hN⟩ : ∃ N, v3.heap.size = N := ⟨_, rfl⟩
  have WN : Hid (v3.heap.size = N) := hN
  have LN : Hid (S + 1 < N ∧ A < N ∧ D < N) := by show _ ∧ _; rw [← hN]; exact ⟨lt_of_block MB.out, sb_lt YA.out, sb_lt YD.out⟩
  have KN : Hid (∀ w', Below N v3 w' → Below S w w') := fun w' hb => BB.out.trans (hb.mono (by have := LN.out; omega))
  have TN : Hid (∀ w', Below N v3 w' → TA w' T seed gk ck gp cp ks) := fun w' hb => TB.out.keep (by rw [WN.out]; exact hb)
  generalize v3 = wB at *
  clear hN
  have XX : Hid (Below N wB wB.drew) := (Below.refl _ _).drew
  refine wp_region_held_drew (S := (fun w' : World => ∀ q, q < N → w'.heap[q]? = wB.heap[q]?)) (by kernel_rfl) (by exact fun _ _ => rfl) (fun hHeld => ?_)
  refine wpAnyH_take (i := 0) (v := ?_) rfl (by kernel_rfl) (by kernel_rfl) (by kernel_rfl) (fun _ _ _ h => h) (Or.inl ⟨by rfl, ?_⟩) (by assumption) ?_
  rotate_left
  · (intro w hSw; (try dsimp only at hSw); go_simp; try with_reducible rfl)
  simp only [Act.put, List.getElem_toArray, List.getElem_cons_zero, List.setIfInBounds_toArray, List.set_cons_zero, List.set_cons_succ]
  refine wpAnyH_take (i := 1) (v := ?_) rfl (by kernel_rfl) (by kernel_rfl) (by kernel_rfl) (fun _ _ _ h => h) (Or.inl ⟨by rfl, ?_⟩) (by assumption) ?_
  rotate_left
  · (intro w hSw; (try dsimp only at hSw); go_simp; try with_reducible rfl)
  simp only [Act.put, List.getElem_toArray, List.getElem_cons_succ, List.getElem_cons_zero, List.setIfInBounds_toArray, List.set_cons_zero, List.set_cons_succ]
  refine wpAnyH_take (i := 2) (v := ?_) rfl (by kernel_rfl) (by kernel_rfl) (by kernel_rfl) (fun _ _ _ h => h) (Or.inl ⟨by rfl, ?_⟩) (by assumption) ?_
  rotate_left
  · (intro w hSw; (try dsimp only at hSw); go_simp; try with_reducible rfl)
  simp only [Act.put, List.getElem_toArray, List.getElem_cons_succ, List.getElem_cons_zero, List.setIfInBounds_toArray, List.set_cons_zero, List.set_cons_succ]
  refine wpAnyH_take (i := 3) (v := ?_) rfl (by kernel_rfl) (by kernel_rfl) (by kernel_rfl) (fun _ _ _ h => h) (Or.inl ⟨by rfl, ?_⟩) (by assumption) ?_
  rotate_left
  · (intro w hSw; (try dsimp only at hSw); go_simp; try with_reducible rfl)
  simp only [Act.put, List.getElem_toArray, List.getElem_cons_succ, List.getElem_cons_zero, List.setIfInBounds_toArray, List.set_cons_zero, List.set_cons_succ]
  refine wpAnyH_take (i := 4) rfl (by kernel_rfl) (by kernel_rfl) (by kernel_rfl) (fun _ _ _ h => h) (yieldsIf_load_mid (by rfl) 30 (.tmp 8) rfl (A) (0) rfl (sg (j) L) _ (fun w h => sb_all (L := L) ((h _ (by have := LN.out; omega)).trans YA.out)) Tryd.underlying30 rfl (sg_info _ _ LS.out)) (by assumption) ?_
  simp only [Act.put, List.getElem_toArray, List.getElem_cons_succ, List.getElem_cons_zero, List.setIfInBounds_toArray, List.set_cons_zero, List.set_cons_succ]
  refine wpAnyH_take (i := 5) rfl (by kernel_rfl) (by kernel_rfl) (by kernel_rfl) (fun _ _ _ h => h) (yieldsIf_load_mid (by rfl) 30 (.tmp 10) rfl (D) (0) rfl (sg (j) L) _ (fun w h => sb_all (L := L) ((h _ (by have := LN.out; omega)).trans YD.out)) Tryd.underlying30 rfl (sg_info _ _ LS.out)) (by assumption) ?_
  simp only [Act.put, List.getElem_toArray, List.getElem_cons_succ, List.getElem_cons_zero, List.setIfInBounds_toArray, List.set_cons_zero, List.set_cons_succ]
  refine wpAnyH_take (i := 6) (v := ?_) rfl (by kernel_rfl) (by kernel_rfl) (by kernel_rfl) (fun _ _ _ h => h) (Or.inl ⟨by rfl, ?_⟩) (by assumption) ?_
  rotate_left
  · (intro w hSw; (try dsimp only at hSw); go_simp; try with_reducible rfl)
  simp only [Act.put, List.getElem_toArray, List.getElem_cons_succ, List.getElem_cons_zero, List.setIfInBounds_toArray, List.set_cons_zero, List.set_cons_succ]
  refine wpAnyH_take (i := 7) (v := ?_) rfl (by kernel_rfl) (by kernel_rfl) (by kernel_rfl) (fun _ _ _ h => h) (Or.inl ⟨by rfl, ?_⟩) (by assumption) ?_
  rotate_left
  · (intro w hSw; (try dsimp only at hSw); go_simp; try with_reducible rfl)
  simp only [Act.put, List.getElem_toArray, List.getElem_cons_succ, List.getElem_cons_zero, List.setIfInBounds_toArray, List.set_cons_zero, List.set_cons_succ]
  refine wpAnyH_take (i := 8) (v := ?_) rfl (by kernel_rfl) (by kernel_rfl) (by kernel_rfl) (fun _ _ _ h => h) (Or.inl ⟨by rfl, ?_⟩) (by assumption) ?_
  rotate_left
  · (intro w hSw; (try dsimp only at hSw); go_simp; try with_reducible rfl)
  simp only [Act.put, List.getElem_toArray, List.getElem_cons_succ, List.getElem_cons_zero, List.setIfInBounds_toArray, List.set_cons_zero, List.set_cons_succ]
  refine wpAnyH_take (i := 9) (v := ?_) rfl (by kernel_rfl) (by kernel_rfl) (by kernel_rfl) (fun _ _ _ h => h) (Or.inl ⟨by rfl, ?_⟩) (by assumption) ?_
  rotate_left
  · (intro w hSw; (try dsimp only at hSw); go_simp; try with_reducible rfl)
  simp only [Act.put, List.getElem_toArray, List.getElem_cons_succ, List.getElem_cons_zero, List.setIfInBounds_toArray, List.set_cons_zero, List.set_cons_succ]
  refine wpAnyH_take (i := 11) rfl (by kernel_rfl) (by kernel_rfl) (by kernel_rfl) (fun _ _ _ h => h) (yieldsIf_load_mid (by rfl) 23 (.tmp 3) rfl (S) (0) rfl (bvals seed) _ (fun w h => ba_range (t := 23) ((h _ (by have := LN.out; omega)).trans EB.out)) Tryd.underlying23 rfl hie) (by assumption) ?_
  simp only [Act.put, List.getElem_toArray, List.getElem_cons_succ, List.getElem_cons_zero, List.setIfInBounds_toArray, List.set_cons_zero, List.set_cons_succ]
  refine wpAnyH_ready (rs := [10]) (by kernel_rfl) (by simp) ?_
  refine AllReadyH.cons rfl (fun K hK => ?_) AllReadyH.nil
  go_simp
  go_at_call 11
  refine (C11.out _ (KN.out _ XX.out) (TN.out _ XX.out)).mono ?_
  rintro e wc1 ⟨rfl, hba⟩
  have XN : Hid (Below N wB wc1) := XX.out.trans (hba.mono (by have := XX.out.size; have := WN.out; omega))
  clear XX hba hHeld
  have XX := XN
  clear XN
  (try go_wp2_with fail)
  refine hK.out _ _ (by exact fun q hq => XX.out.block q hq) (fun hHeld => ?_)
  clear hK K
  refine wpAnyH_ready (rs := [12]) (by kernel_rfl) (by simp) ?_
  refine AllReadyH.cons rfl (fun K hK => ?_) AllReadyH.nil
  go_simp
  go_at_call 12
  refine (C12.out _ (KN.out _ XX.out)).mono ?_
  rintro e wc2 ⟨rfl, hba⟩
  have XN : Hid (Below N wB wc2) := XX.out.trans (hba.mono (by have := XX.out.size; have := WN.out; omega))
  clear XX hba hHeld
  have XX := XN
  clear XN
  (try go_wp2_with fail)
  refine hK.out _ _ (by exact fun q hq => XX.out.block q hq) (fun hHeld => ?_)
  clear hK K
  refine wpAnyH_take (i := 13) (v := ?_) rfl (by kernel_rfl) (by kernel_rfl) (by kernel_rfl) (fun _ _ _ h => h) (Or.inl ⟨by rfl, ?_⟩) (by assumption) ?_
  rotate_left
  · (intro w hSw; (try dsimp only at hSw); go_simp; try with_reducible rfl)
  simp only [Act.put, List.getElem_toArray, List.getElem_cons_succ, List.getElem_cons_zero, List.setIfInBounds_toArray, List.set_cons_zero, List.set_cons_succ]
  refine wpAnyH_take (i := 14) (v := ?_) rfl (by kernel_rfl) (by kernel_rfl) (by kernel_rfl) (fun _ _ _ h => h) (Or.inl ⟨by rfl, ?_⟩) (by assumption) ?_
  rotate_left
  · (intro w hSw; (try dsimp only at hSw); go_simp; try with_reducible rfl)
  simp only [Act.put, List.getElem_toArray, List.getElem_cons_succ, List.getElem_cons_zero, List.setIfInBounds_toArray, List.set_cons_zero, List.set_cons_succ]
  refine wpAnyH_take (i := 15) (v := ?_) rfl (by kernel_rfl) (by kernel_rfl) (by kernel_rfl) (fun _ _ _ h => h) (Or.inl ⟨by rfl, ?_⟩) (by assumption) ?_
  rotate_left
  · (intro w hSw; (try dsimp only at hSw); go_simp; try with_reducible rfl)
  simp only [Act.put, List.getElem_toArray, List.getElem_cons_succ, List.getElem_cons_zero, List.setIfInBounds_toArray, List.set_cons_zero, List.set_cons_succ]
  refine wpAnyH_take (i := 16) (v := ?_) rfl (by kernel_rfl) (by kernel_rfl) (by kernel_rfl) (fun _ _ _ h => h) (Or.inl ⟨by rfl, ?_⟩) (by assumption) ?_
  rotate_left
  · (intro w hSw; (try dsimp only at hSw); go_simp; try with_reducible rfl)
  simp only [Act.put, List.getElem_toArray, List.getElem_cons_succ, List.getElem_cons_zero, List.setIfInBounds_toArray, List.set_cons_zero, List.set_cons_succ]
  refine wpAnyH_take (i := 17) (v := ?_) rfl (by kernel_rfl) (by kernel_rfl) (by kernel_rfl) (fun _ _ _ h => h) (Or.inl ⟨by rfl, ?_⟩) (by assumption) ?_
  rotate_left
  · (intro w hSw; (try dsimp only at hSw); go_simp; try with_reducible rfl)
  simp only [Act.put, List.getElem_toArray, List.getElem_cons_succ, List.getElem_cons_zero, List.setIfInBounds_toArray, List.set_cons_zero, List.set_cons_succ]
  refine wpAnyH_take (i := 18) (v := ?_) rfl (by kernel_rfl) (by kernel_rfl) (by kernel_rfl) (fun _ _ _ h => h) (Or.inl ⟨by rfl, ?_⟩) (by assumption) ?_
  rotate_left
  · (intro w hSw; (try dsimp only at hSw); go_simp; try with_reducible rfl)
  simp only [Act.put, List.getElem_toArray, List.getElem_cons_succ, List.getElem_cons_zero, List.setIfInBounds_toArray, List.set_cons_zero, List.set_cons_succ]
  refine wpAnyH_take (i := 19) (v := ?_) rfl (by kernel_rfl) (by kernel_rfl) (by kernel_rfl) (fun _ _ _ h => h) (Or.inl ⟨by rfl, ?_⟩) (by assumption) ?_
  rotate_left
  · (intro w hSw; (try dsimp only at hSw); go_simp; try with_reducible rfl)
  simp only [Act.put, List.getElem_toArray, List.getElem_cons_succ, List.getElem_cons_zero, List.setIfInBounds_toArray, List.set_cons_zero, List.set_cons_succ]
  refine wpAnyH_take (i := 21) rfl (by kernel_rfl) (by kernel_rfl) (by kernel_rfl) (fun _ _ _ h => h) (yieldsIf_load_mid (by rfl) 23 (.tmp 5) rfl (S + 1) (0) rfl (bvals msg8) _ (fun w h => ba_range (t := 23) ((h _ (by have := LN.out; omega)).trans MB.out)) Tryd.underlying23 rfl him) (by assumption) ?_
  simp only [Act.put, List.getElem_toArray, List.getElem_cons_succ, List.getElem_cons_zero, List.setIfInBounds_toArray, List.set_cons_zero, List.set_cons_succ]
  refine wpAnyH_take (i := 22) rfl (by kernel_rfl) (by kernel_rfl) (by kernel_rfl) (fun _ _ _ h => h) (yieldsIf_load_mid (by rfl) 30 (.tmp 8) rfl (A) (0) rfl (sg (j) L) _ (fun w h => sb_all (L := L) ((h _ (by have := LN.out; omega)).trans YA.out)) Tryd.underlying30 rfl (sg_info _ _ LS.out)) (by assumption) ?_
  simp only [Act.put, List.getElem_toArray, List.getElem_cons_succ, List.getElem_cons_zero, List.setIfInBounds_toArray, List.set_cons_zero, List.set_cons_succ]
  refine wpAnyH_ready (rs := [20]) (by kernel_rfl) (by simp) ?_
  refine AllReadyH.cons rfl (fun K hK => ?_) AllReadyH.nil
  go_simp
  go_at_call 11
  refine (C11.out _ (KN.out _ XX.out) (TN.out _ XX.out)).mono ?_
  rintro e wc3 ⟨rfl, hba⟩
  have XN : Hid (Below N wB wc3) := XX.out.trans (hba.mono (by have := XX.out.size; have := WN.out; omega))
  clear XX hba hHeld
  have XX := XN
  clear XN
  (try go_wp2_with fail)
  refine hK.out _ _ (by exact fun q hq => XX.out.block q hq) (fun hHeld => ?_)
  clear hK K
  refine wpAnyH_ready (rs := [23]) (by kernel_rfl) (by simp) ?_
  refine AllReadyH.cons rfl (fun K hK => ?_) AllReadyH.nil
  go_simp
  go_at_call 13
  refine (C13.out _ (KN.out _ XX.out)).mono ?_
  rintro e wc4 ⟨rfl, hba⟩
  have XN : Hid (Below N wB wc4) := XX.out.trans (hba.mono (by have := XX.out.size; have := WN.out; omega))
  clear XX hba hHeld
  have XX := XN
  clear XN
  (try go_wp2_with fail)
  refine hK.out _ _ (by exact fun q hq => XX.out.block q hq) (fun hHeld => ?_)
  clear hK K
  refine wpAnyH_take (i := 24) (v := ?_) rfl (by kernel_rfl) (by kernel_rfl) (by kernel_rfl) (fun _ _ _ h => h) (Or.inl ⟨by rfl, ?_⟩) (by assumption) ?_
  rotate_left
  · (intro w hSw; (try dsimp only at hSw); go_simp; try with_reducible rfl)
  simp only [Act.put, List.getElem_toArray, List.getElem_cons_succ, List.getElem_cons_zero, List.setIfInBounds_toArray, List.set_cons_zero, List.set_cons_succ]
  refine wpAnyH_take (i := 25) (v := ?_) rfl (by kernel_rfl) (by kernel_rfl) (by kernel_rfl) (fun _ _ _ h => h) (Or.inl ⟨by rfl, ?_⟩) (by assumption) ?_
  rotate_left
  · (intro w hSw; (try dsimp only at hSw); go_simp; try with_reducible rfl)
  simp only [Act.put, List.getElem_toArray, List.getElem_cons_succ, List.getElem_cons_zero, List.setIfInBounds_toArray, List.set_cons_zero, List.set_cons_succ]
  refine wpAnyH_take (i := 26) (v := ?_) rfl (by kernel_rfl) (by kernel_rfl) (by kernel_rfl) (fun _ _ _ h => h) (Or.inl ⟨by rfl, ?_⟩) (by assumption) ?_
  rotate_left
  · (intro w hSw; (try dsimp only at hSw); go_simp; try with_reducible rfl)
  simp only [Act.put, List.getElem_toArray, List.getElem_cons_succ, List.getElem_cons_zero, List.setIfInBounds_toArray, List.set_cons_zero, List.set_cons_succ]
  refine wpAnyH_done (by kernel_rfl) ?_ _
  go_wp2
  go_ret
  exact ⟨rfl, by rw [HS.out]; exact KN.out _ XX.out⟩
set_option maxRecDepth 100000 in
set_option maxHeartbeats 16000000 in
theorem q3F (seed msg8 : List Int) (index j : Int) (L : List Int) (w : World) (hk : Keys w) (hs : seed.length = 8) (hm : msg8.length = 8) (hL : L.length = 280)
    (h9 : ∀ (T gk ck gp cp : Nat) (ks : Nat → Nat) (w' : World), Keys w' → TA w' T seed gk ck gp cp ks → Calls Tryd.prog 9 #[.pointer (some ⟨T, 0, none⟩), .int .i64 index, .agg (ba msg8)] w' fun e w'' => e = .returned (.tuple #[.agg (sg j L).toArray, .bool false]) ∧ Below w'.heap.size w' w'')
    (h10 : ∀ (w' : World), Keys w' → Calls Tryd.prog 10 #[.agg (ba seed), .int .i64 index, .agg (ba msg8)] w' fun e w'' => e = .returned (.tuple #[.agg (sg j L).toArray, .bool false]) ∧ Below w'.heap.size w' w'') :
    Calls Tryd.prog 3 #[.agg (ba seed), .int .i64 index, .agg (ba msg8)] w fun e w' => e = .returned (.bool true) ∧ Below w.heap.size w w' := by
  have h4 := z30
  have HK := Lib.hid hk
  have HP : Hid (0 < w.heap.size) := keys_pos hk
  have HSL := Lib.hid hs
  have HML := Lib.hid hm
  have LS := Lib.hid hL
  obtain ⟨S, hS⟩ : ∃ S, w.heap.size = S := ⟨_, rfl⟩
  have HS := Lib.hid hS
  have KW : Hid (∀ w', Below S w w' → Keys w') := fun w' hb => keys_below HK.out hb (by rw [← HS.out]; exact HP.out)
  have E0 := Lib.hid (ba_old (ba_new hS seed 23) (Obj.cells (ba msg8) 23))
  have M0 := Lib.hid (ba_new (size_al hS (Obj.cells (ba seed) 23)) msg8 23)
  have B0 : Hid (Below S w ((w.alloc (Obj.cells (ba seed) 23)).alloc (Obj.cells (ba msg8) 23))) := by subst hS; exact ((Below.refl _ w).alloc (Nat.le_refl _) _).alloc (by simp) _
  have C7 := Lib.hid (kAwake ((w.alloc (Obj.cells (ba seed) 23)).alloc (Obj.cells (ba msg8) 23)) (KW.out _ B0.out))
  obtain ⟨Q, hQ⟩ : ∃ Q, rootL seed = Q := ⟨_, rfl⟩
  have LQ : Hid (Q.length = 8) := by rw [← hQ]; exact rootL_len _
  have C8 : Hid (∀ w', Below S w w' → Calls Tryd.prog 8 #[.agg (ba seed)] w' fun e w'' => ∃ T gk ck gp cp ks, e = .returned (.pointer (some ⟨T, 0, none⟩)) ∧ w'.heap.size ≤ T ∧ TA w'' T seed gk ck gp cp ks ∧ Below w'.heap.size w' w'') := fun w' hb => kNew seed w' (KW.out w' hb) hs
  have C9A : Hid (∀ (T gk ck gp cp : Nat) (ks : Nat → Nat) (w' : World), Below S w w' → TA w' T seed gk ck gp cp ks → Calls Tryd.prog 9 #[.pointer (some ⟨T, 0, none⟩), .int .i64 index, .agg (ba msg8)] w' fun e w'' => e = .returned (.tuple #[.agg (sg j L).toArray, .bool false]) ∧ Below w'.heap.size w' w'') := fun T gk ck gp cp ks w' hb hT => h9 T gk ck gp cp ks w' (KW.out w' hb) hT
  have C10 : Hid (∀ w', Below S w w' → Calls Tryd.prog 10 #[.agg (ba seed), .int .i64 index, .agg (ba msg8)] w' fun e w'' => e = .returned (.tuple #[.agg (sg j L).toArray, .bool false]) ∧ Below w'.heap.size w' w'') := fun w' hb => h10 w' (KW.out w' hb)
  have C11A : Hid (∀ (T gk ck gp cp : Nat) (ks : Nat → Nat) (w' : World), Below S w w' → TA w' T seed gk ck gp cp ks → Calls Tryd.prog 11 #[.pointer (some ⟨T, 0, none⟩)] w' fun e w'' => e = .returned (.agg (ba Q)) ∧ Below w'.heap.size w' w'') := fun T gk ck gp cp ks w' hb hT => by
    have := kRoot seed T gk ck gp cp ks w' (KW.out w' hb) hT
    rw [hQ] at this
    exact this
  have C12 : Hid (∀ w', Below S w w' → Calls Tryd.prog 12 #[.agg (bvals seed).toArray] w' fun e w'' => e = .returned (.agg (ba Q)) ∧ Below w'.heap.size w' w'') := fun w' hb => by
    have := dTree seed w' (KW.out w' hb) hs
    rw [hQ, ba_bvals seed] at this
    exact this
  have f1 := fun w => eqhL Q Q w LQ.out LQ.out
  rw [decide_eq_true rfl] at f1
  have f2 := fun w => eq_sig j L hL w
  have hie := inf23 seed hs
  clear hk hs hm hL h9 h10 hQ
  go_enter Tryd.func3, Tryd.ntmps3
  go_wp2_with (first
    | (go_at_call 7
       refine C7.out.mono ?_
       rintro e w1 ⟨rfl, hb⟩
       have E1 : Hid (BA w1 S 23 seed) := (hb.block _ (lt_of_block E0.out)).trans E0.out
       have M1 : Hid (BA w1 (S + 1) 23 msg8) := (hb.block _ (lt_of_block M0.out)).trans M0.out
       have B1 : Hid (Below S w w1) := B0.out.trans (hb.mono (by have := lt_of_block M0.out; omega))
       clear hb E0 M0 B0 C7 hS)
    | (refine wpList_load_row rfl 23 (.tmp 3) rfl S rfl 23 (ba seed) (0, 0) _ E1.out Tryd.underlying23 rfl (sz s27 (by rw [ba_size, HSL.out])) ?_)
    | (go_at_call 8
       refine (C8.out w1 B1.out).mono ?_
       rintro e v1 ⟨T, gk, ck, gp, cp, ks, rfl, hTS, hT, hb⟩
       have TT := Lib.hid hT
       have E2 : Hid (BA v1 S 23 seed) := (hb.block _ (lt_of_block E1.out)).trans E1.out
       have M2 : Hid (BA v1 (S + 1) 23 msg8) := (hb.block _ (lt_of_block M1.out)).trans M1.out
       have B2 : Hid (Below S w v1) := B1.out.trans (hb.mono (by have := lt_of_block M1.out; omega))
       have SVv1 : Hid (S ≤ v1.heap.size) := by show _ ≤ _; have := lt_of_block M2.out; omega
       have C9 := Lib.hid (C9A.out T gk ck gp cp ks)
       have C11 := Lib.hid (C11A.out T gk ck gp cp ks)
       clear hT hb hTS C8 C9A C11A E1 M1 B1)
    | (refine wpList_load_row rfl 23 (.tmp 5) rfl (S + 1) rfl 23 (ba msg8) (0, 0) _ M2.out Tryd.underlying23 rfl (sz s27 (by rw [ba_size, HML.out])) ?_)
    | (go_at_call 9
       refine (C9.out v1 B2.out TT.out).mono ?_
       rintro e u1 ⟨rfl, hb⟩
       have E2_i : Hid (BA u1 S 23 seed) := (hb.block _ (lt_of_block E2.out)).trans E2.out
       have M2_i : Hid (BA u1 (S + 1) 23 msg8) := (hb.block _ (lt_of_block M2.out)).trans M2.out
       have TT_i : Hid (TA u1 T seed gk ck gp cp ks) := TT.out.keep hb
       have B2_i : Hid (Below S w u1) := B2.out.trans (hb.mono SVv1.out)
       have SVba : Hid (S ≤ u1.heap.size) := Nat.le_trans SVv1.out hb.size
       clear hb
       obtain ⟨A, hA⟩ : ∃ q, u1.heap.size = q := ⟨_, rfl⟩
       have Y0a := Lib.hid (sb_new hA 0 (zeros 280))
       have AS : Hid (S ≤ A) := by show _ ≤ _; rw [← hA]; exact SVba.out)
    | (refine wpList_store_rowTo rfl 30 (.tmp 8) (.tmp 23) rfl rfl A (sg (j) L).toArray rfl rfl 30 (sg 0 (zeros 280)).toArray Y0a.out (sg_infoA _ _ LS.out) ((sg_size _ _ (zeros_len 280)).trans (sg_size _ _ LS.out).symm) (sg_ones _ _) ?_
       have Ya : Hid (SB ((u1.alloc (Obj.cells (sg 0 (zeros 280)).toArray 30)).setRow A (sg (j) L).toArray) A (j) L) := setRow_heap _ _ _ _ _ _ Y0a.out
       have BWa : Hid (Below A u1 ((u1.alloc (Obj.cells (sg 0 (zeros 280)).toArray 30)).setRow A (sg (j) L).toArray)) := below_setRow ((Below.refl _ _).alloc (Nat.le_of_eq hA.symm) _) (Nat.le_refl _) _
       have E2a : Hid (BA ((u1.alloc (Obj.cells (sg 0 (zeros 280)).toArray 30)).setRow A (sg (j) L).toArray) S 23 seed) := (BWa.out.block _ (by rw [← hA]; exact lt_of_block E2_i.out)).trans E2_i.out
       have M2a : Hid (BA ((u1.alloc (Obj.cells (sg 0 (zeros 280)).toArray 30)).setRow A (sg (j) L).toArray) (S + 1) 23 msg8) := (BWa.out.block _ (by rw [← hA]; exact lt_of_block M2_i.out)).trans M2_i.out
       have TTa : Hid (TA ((u1.alloc (Obj.cells (sg 0 (zeros 280)).toArray 30)).setRow A (sg (j) L).toArray) T seed gk ck gp cp ks) := TT_i.out.keep (by rw [hA]; exact BWa.out)
       have B2a : Hid (Below S w ((u1.alloc (Obj.cells (sg 0 (zeros 280)).toArray 30)).setRow A (sg (j) L).toArray)) := B2_i.out.trans (BWa.out.mono AS.out)
       have LAa : Hid (A < ((u1.alloc (Obj.cells (sg 0 (zeros 280)).toArray 30)).setRow A (sg (j) L).toArray).heap.size) := sb_lt Ya.out
       have SVv2 : Hid (S ≤ ((u1.alloc (Obj.cells (sg 0 (zeros 280)).toArray 30)).setRow A (sg (j) L).toArray).heap.size) := Nat.le_trans AS.out (Nat.le_of_lt LAa.out)
       clear Y0a BWa hA E2 E2_i M2 M2_i TT TT_i B2 B2_i SVba
       generalize ((u1.alloc (Obj.cells (sg 0 (zeros 280)).toArray 30)).setRow A (sg (j) L).toArray) = v2 at *)
    | (refine wpList_load_row rfl 23 (.tmp 3) rfl S rfl 23 (ba seed) (0, 0) _ E2a.out Tryd.underlying23 rfl (sz s27 (by rw [ba_size, HSL.out])) ?_)
    | (refine wpList_load_row rfl 23 (.tmp 5) rfl (S + 1) rfl 23 (ba msg8) (0, 0) _ M2a.out Tryd.underlying23 rfl (sz s27 (by rw [ba_size, HML.out])) ?_)
    | (go_at_call 10
       refine (C10.out v2 B2a.out).mono ?_
       rintro e u2 ⟨rfl, hb⟩
       have E2a_i : Hid (BA u2 S 23 seed) := (hb.block _ (lt_of_block E2a.out)).trans E2a.out
       have M2a_i : Hid (BA u2 (S + 1) 23 msg8) := (hb.block _ (lt_of_block M2a.out)).trans M2a.out
       have TTa_i : Hid (TA u2 T seed gk ck gp cp ks) := TTa.out.keep hb
       have Ya_i : Hid (SB u2 A (j) L) := (hb.block _ (lt_of_block Ya.out)).trans Ya.out
       have B2a_i : Hid (Below S w u2) := B2a.out.trans (hb.mono SVv2.out)
       have SVbb : Hid (S ≤ u2.heap.size) := Nat.le_trans SVv2.out hb.size
       clear hb
       obtain ⟨D, hD⟩ : ∃ q, u2.heap.size = q := ⟨_, rfl⟩
       have Y0b := Lib.hid (sb_new hD 0 (zeros 280))
       have DS : Hid (S ≤ D) := by show _ ≤ _; rw [← hD]; exact SVbb.out)
    | (refine wpList_store_rowTo rfl 30 (.tmp 10) (.tmp 30) rfl rfl D (sg (j) L).toArray rfl rfl 30 (sg 0 (zeros 280)).toArray Y0b.out (sg_infoA _ _ LS.out) ((sg_size _ _ (zeros_len 280)).trans (sg_size _ _ LS.out).symm) (sg_ones _ _) ?_
       have Yb : Hid (SB ((u2.alloc (Obj.cells (sg 0 (zeros 280)).toArray 30)).setRow D (sg (j) L).toArray) D (j) L) := setRow_heap _ _ _ _ _ _ Y0b.out
       have BWb : Hid (Below D u2 ((u2.alloc (Obj.cells (sg 0 (zeros 280)).toArray 30)).setRow D (sg (j) L).toArray)) := below_setRow ((Below.refl _ _).alloc (Nat.le_of_eq hD.symm) _) (Nat.le_refl _) _
       have E2ab : Hid (BA ((u2.alloc (Obj.cells (sg 0 (zeros 280)).toArray 30)).setRow D (sg (j) L).toArray) S 23 seed) := (BWb.out.block _ (by rw [← hD]; exact lt_of_block E2a_i.out)).trans E2a_i.out
       have M2ab : Hid (BA ((u2.alloc (Obj.cells (sg 0 (zeros 280)).toArray 30)).setRow D (sg (j) L).toArray) (S + 1) 23 msg8) := (BWb.out.block _ (by rw [← hD]; exact lt_of_block M2a_i.out)).trans M2a_i.out
       have TTab : Hid (TA ((u2.alloc (Obj.cells (sg 0 (zeros 280)).toArray 30)).setRow D (sg (j) L).toArray) T seed gk ck gp cp ks) := TTa_i.out.keep (by rw [hD]; exact BWb.out)
       have Yab : Hid (SB ((u2.alloc (Obj.cells (sg 0 (zeros 280)).toArray 30)).setRow D (sg (j) L).toArray) A (j) L) := (BWb.out.block _ (by rw [← hD]; exact lt_of_block Ya_i.out)).trans Ya_i.out
       have B2ab : Hid (Below S w ((u2.alloc (Obj.cells (sg 0 (zeros 280)).toArray 30)).setRow D (sg (j) L).toArray)) := B2a_i.out.trans (BWb.out.mono DS.out)
       have LAb : Hid (D < ((u2.alloc (Obj.cells (sg 0 (zeros 280)).toArray 30)).setRow D (sg (j) L).toArray).heap.size) := sb_lt Yb.out
       have SVv3 : Hid (S ≤ ((u2.alloc (Obj.cells (sg 0 (zeros 280)).toArray 30)).setRow D (sg (j) L).toArray).heap.size) := Nat.le_trans DS.out (Nat.le_of_lt LAb.out)
       clear Y0b BWb hD E2a E2a_i M2a M2a_i TTa TTa_i Ya Ya_i B2a B2a_i SVbb
       generalize ((u2.alloc (Obj.cells (sg 0 (zeros 280)).toArray 30)).setRow D (sg (j) L).toArray) = v3 at *)
    | fail)
  have EB : Hid (BA v3 S 23 seed) := E2ab.out
  have MB : Hid (BA v3 (S + 1) 23 msg8) := M2ab.out
  have YA : Hid (SB v3 A j L) := Yab.out
  have YD : Hid (SB v3 D j L) := Yb.out
  have TB : Hid (TA v3 T seed gk ck gp cp ks) := TTab.out
  have BB : Hid (Below S w v3) := B2ab.out
  clear E2ab M2ab Yab Yb TTab B2ab
  obtain ⟨N, hN⟩ : ∃ N, v3.heap.size = N := ⟨_, rfl⟩
  have WN : Hid (v3.heap.size = N) := hN
  have LN : Hid (S + 1 < N ∧ A < N ∧ D < N) := by show _ ∧ _; rw [← hN]; exact ⟨lt_of_block MB.out, sb_lt YA.out, sb_lt YD.out⟩
  have KN : Hid (∀ w', Below N v3 w' → Below S w w') := fun w' hb => BB.out.trans (hb.mono (by have := LN.out; omega))
  have TN : Hid (∀ w', Below N v3 w' → TA w' T seed gk ck gp cp ks) := fun w' hb => TB.out.keep (by rw [WN.out]; exact hb)
  generalize v3 = wB at *
  clear hN
  have XX : Hid (Below N wB wB.drew) := (Below.refl _ _).drew
  refine wp_region_held_drew (S := (fun w' : World => ∀ q, q < N → w'.heap[q]? = wB.heap[q]?)) (by kernel_rfl) (by exact fun _ _ => rfl) (fun hHeld => ?_)
  refine wpAnyH_take (i := 0) (v := ?_) rfl (by kernel_rfl) (by kernel_rfl) (by kernel_rfl) (fun _ _ _ h => h) (Or.inl ⟨by rfl, ?_⟩) (by assumption) ?_
  rotate_left
  · (intro w hSw; (try dsimp only at hSw); go_simp; try with_reducible rfl)
  simp only [Act.put, List.getElem_toArray, List.getElem_cons_zero, List.setIfInBounds_toArray, List.set_cons_zero, List.set_cons_succ]
  refine wpAnyH_take (i := 1) (v := ?_) rfl (by kernel_rfl) (by kernel_rfl) (by kernel_rfl) (fun _ _ _ h => h) (Or.inl ⟨by rfl, ?_⟩) (by assumption) ?_
  rotate_left
  · (intro w hSw; (try dsimp only at hSw); go_simp; try with_reducible rfl)
  simp only [Act.put, List.getElem_toArray, List.getElem_cons_succ, List.getElem_cons_zero, List.setIfInBounds_toArray, List.set_cons_zero, List.set_cons_succ]
  refine wpAnyH_take (i := 2) (v := ?_) rfl (by kernel_rfl) (by kernel_rfl) (by kernel_rfl) (fun _ _ _ h => h) (Or.inl ⟨by rfl, ?_⟩) (by assumption) ?_
  rotate_left
  · (intro w hSw; (try dsimp only at hSw); go_simp; try with_reducible rfl)
  simp only [Act.put, List.getElem_toArray, List.getElem_cons_succ, List.getElem_cons_zero, List.setIfInBounds_toArray, List.set_cons_zero, List.set_cons_succ]
  refine wpAnyH_take (i := 3) (v := ?_) rfl (by kernel_rfl) (by kernel_rfl) (by kernel_rfl) (fun _ _ _ h => h) (Or.inl ⟨by rfl, ?_⟩) (by assumption) ?_
  rotate_left
  · (intro w hSw; (try dsimp only at hSw); go_simp; try with_reducible rfl)
  simp only [Act.put, List.getElem_toArray, List.getElem_cons_succ, List.getElem_cons_zero, List.setIfInBounds_toArray, List.set_cons_zero, List.set_cons_succ]
  refine wpAnyH_take (i := 4) rfl (by kernel_rfl) (by kernel_rfl) (by kernel_rfl) (fun _ _ _ h => h) (yieldsIf_load_mid (by rfl) 30 (.tmp 8) rfl (A) (0) rfl (sg (j) L) _ (fun w h => sb_all (L := L) ((h _ (by have := LN.out; omega)).trans YA.out)) Tryd.underlying30 rfl (sg_info _ _ LS.out)) (by assumption) ?_
  simp only [Act.put, List.getElem_toArray, List.getElem_cons_succ, List.getElem_cons_zero, List.setIfInBounds_toArray, List.set_cons_zero, List.set_cons_succ]
  refine wpAnyH_take (i := 5) rfl (by kernel_rfl) (by kernel_rfl) (by kernel_rfl) (fun _ _ _ h => h) (yieldsIf_load_mid (by rfl) 30 (.tmp 10) rfl (D) (0) rfl (sg (j) L) _ (fun w h => sb_all (L := L) ((h _ (by have := LN.out; omega)).trans YD.out)) Tryd.underlying30 rfl (sg_info _ _ LS.out)) (by assumption) ?_
  simp only [Act.put, List.getElem_toArray, List.getElem_cons_succ, List.getElem_cons_zero, List.setIfInBounds_toArray, List.set_cons_zero, List.set_cons_succ]
  refine wpAnyH_take (i := 6) (v := ?_) rfl (by kernel_rfl) (by kernel_rfl) (by kernel_rfl) (fun _ _ _ h => h) (Or.inl ⟨by rfl, ?_⟩) (by assumption) ?_
  rotate_left
  · (intro w hSw; (try dsimp only at hSw); go_simp; try with_reducible rfl)
  simp only [Act.put, List.getElem_toArray, List.getElem_cons_succ, List.getElem_cons_zero, List.setIfInBounds_toArray, List.set_cons_zero, List.set_cons_succ]
  refine wpAnyH_take (i := 7) (v := ?_) rfl (by kernel_rfl) (by kernel_rfl) (by kernel_rfl) (fun _ _ _ h => h) (Or.inl ⟨by rfl, ?_⟩) (by assumption) ?_
  rotate_left
  · (intro w hSw; (try dsimp only at hSw); go_simp; try with_reducible rfl)
  simp only [Act.put, List.getElem_toArray, List.getElem_cons_succ, List.getElem_cons_zero, List.setIfInBounds_toArray, List.set_cons_zero, List.set_cons_succ]
  refine wpAnyH_take (i := 8) (v := ?_) rfl (by kernel_rfl) (by kernel_rfl) (by kernel_rfl) (fun _ _ _ h => h) (Or.inl ⟨by rfl, ?_⟩) (by assumption) ?_
  rotate_left
  · (intro w hSw; (try dsimp only at hSw); go_simp; try with_reducible rfl)
  simp only [Act.put, List.getElem_toArray, List.getElem_cons_succ, List.getElem_cons_zero, List.setIfInBounds_toArray, List.set_cons_zero, List.set_cons_succ]
  refine wpAnyH_take (i := 9) (v := ?_) rfl (by kernel_rfl) (by kernel_rfl) (by kernel_rfl) (fun _ _ _ h => h) (Or.inl ⟨by rfl, ?_⟩) (by assumption) ?_
  rotate_left
  · (intro w hSw; (try dsimp only at hSw); go_simp; try with_reducible rfl)
  simp only [Act.put, List.getElem_toArray, List.getElem_cons_succ, List.getElem_cons_zero, List.setIfInBounds_toArray, List.set_cons_zero, List.set_cons_succ]
  refine wpAnyH_take (i := 11) rfl (by kernel_rfl) (by kernel_rfl) (by kernel_rfl) (fun _ _ _ h => h) (yieldsIf_load_mid (by rfl) 23 (.tmp 3) rfl (S) (0) rfl (bvals seed) _ (fun w h => ba_range (t := 23) ((h _ (by have := LN.out; omega)).trans EB.out)) Tryd.underlying23 rfl hie) (by assumption) ?_
  simp only [Act.put, List.getElem_toArray, List.getElem_cons_succ, List.getElem_cons_zero, List.setIfInBounds_toArray, List.set_cons_zero, List.set_cons_succ]
  refine wpAnyH_ready (rs := [10]) (by kernel_rfl) (by simp) ?_
  refine AllReadyH.cons rfl (fun K hK => ?_) AllReadyH.nil
  go_simp
  go_at_call 11
  refine (C11.out _ (KN.out _ XX.out) (TN.out _ XX.out)).mono ?_
  rintro e wc1 ⟨rfl, hba⟩
  have XN : Hid (Below N wB wc1) := XX.out.trans (hba.mono (by have := XX.out.size; have := WN.out; omega))
  clear XX hba hHeld
  have XX := XN
  clear XN
  (try go_wp2_with fail)
  refine hK.out _ _ (by exact fun q hq => XX.out.block q hq) (fun hHeld => ?_)
  clear hK K
  refine wpAnyH_ready (rs := [12]) (by kernel_rfl) (by simp) ?_
  refine AllReadyH.cons rfl (fun K hK => ?_) AllReadyH.nil
  go_simp
  go_at_call 12
  refine (C12.out _ (KN.out _ XX.out)).mono ?_
  rintro e wc2 ⟨rfl, hba⟩
  have XN : Hid (Below N wB wc2) := XX.out.trans (hba.mono (by have := XX.out.size; have := WN.out; omega))
  clear XX hba hHeld
  have XX := XN
  clear XN
  (try go_wp2_with fail)
  refine hK.out _ _ (by exact fun q hq => XX.out.block q hq) (fun hHeld => ?_)
  clear hK K
  refine wpAnyH_take (i := 13) (v := ?_) rfl (by kernel_rfl) (by kernel_rfl) (by kernel_rfl) (fun _ _ _ h => h) (Or.inl ⟨by rfl, ?_⟩) (by assumption) ?_
  rotate_left
  · (intro w hSw; (try dsimp only at hSw); go_simp; try with_reducible rfl)
  simp only [Act.put, List.getElem_toArray, List.getElem_cons_succ, List.getElem_cons_zero, List.setIfInBounds_toArray, List.set_cons_zero, List.set_cons_succ]
  refine wpAnyH_take (i := 14) (v := ?_) rfl (by kernel_rfl) (by kernel_rfl) (by kernel_rfl) (fun _ _ _ h => h) (Or.inl ⟨by rfl, ?_⟩) (by assumption) ?_
  rotate_left
  · (intro w hSw; (try dsimp only at hSw); go_simp; try with_reducible rfl)
  simp only [Act.put, List.getElem_toArray, List.getElem_cons_succ, List.getElem_cons_zero, List.setIfInBounds_toArray, List.set_cons_zero, List.set_cons_succ]
  refine wpAnyH_take (i := 15) (v := ?_) rfl (by kernel_rfl) (by kernel_rfl) (by kernel_rfl) (fun _ _ _ h => h) (Or.inl ⟨by rfl, ?_⟩) (by assumption) ?_
  rotate_left
  · (intro w hSw; (try dsimp only at hSw); go_simp; try with_reducible rfl)
  simp only [Act.put, List.getElem_toArray, List.getElem_cons_succ, List.getElem_cons_zero, List.setIfInBounds_toArray, List.set_cons_zero, List.set_cons_succ]
  refine wpAnyH_take (i := 16) (v := ?_) rfl (by kernel_rfl) (by kernel_rfl) (by kernel_rfl) (fun _ _ _ h => h) (Or.inl ⟨by rfl, ?_⟩) (by assumption) ?_
  rotate_left
  · (intro w hSw; (try dsimp only at hSw); go_simp; try with_reducible rfl)
  simp only [Act.put, List.getElem_toArray, List.getElem_cons_succ, List.getElem_cons_zero, List.setIfInBounds_toArray, List.set_cons_zero, List.set_cons_succ]
  refine wpAnyH_take (i := 17) (v := ?_) rfl (by kernel_rfl) (by kernel_rfl) (by kernel_rfl) (fun _ _ _ h => h) (Or.inl ⟨by rfl, ?_⟩) (by assumption) ?_
  rotate_left
  · (intro w hSw; (try dsimp only at hSw); go_simp; try with_reducible rfl)
  simp only [Act.put, List.getElem_toArray, List.getElem_cons_succ, List.getElem_cons_zero, List.setIfInBounds_toArray, List.set_cons_zero, List.set_cons_succ]
  refine wpAnyH_take (i := 18) (v := ?_) rfl (by kernel_rfl) (by kernel_rfl) (by kernel_rfl) (fun _ _ _ h => h) (Or.inl ⟨by rfl, ?_⟩) (by assumption) ?_
  rotate_left
  · (intro w hSw; (try dsimp only at hSw); go_simp; try with_reducible rfl)
  simp only [Act.put, List.getElem_toArray, List.getElem_cons_succ, List.getElem_cons_zero, List.setIfInBounds_toArray, List.set_cons_zero, List.set_cons_succ]
  refine wpAnyH_take (i := 19) rfl (by kernel_rfl) (by kernel_rfl) (by kernel_rfl) (fun _ _ _ h => h) (Or.inr ⟨by rfl, rfl⟩) (by assumption) ?_
  simp only [Act.put, List.getElem_toArray, List.getElem_cons_succ, List.getElem_cons_zero, List.setIfInBounds_toArray, List.set_cons_zero, List.set_cons_succ]
  refine wpAnyH_take (i := 20) rfl (by kernel_rfl) (by kernel_rfl) (by kernel_rfl) (fun _ _ _ h => h) (Or.inr ⟨by rfl, rfl⟩) (by assumption) ?_
  simp only [Act.put, List.getElem_toArray, List.getElem_cons_succ, List.getElem_cons_zero, List.setIfInBounds_toArray, List.set_cons_zero, List.set_cons_succ]
  refine wpAnyH_take (i := 21) rfl (by kernel_rfl) (by kernel_rfl) (by kernel_rfl) (fun _ _ _ h => h) (Or.inr ⟨by rfl, rfl⟩) (by assumption) ?_
  simp only [Act.put, List.getElem_toArray, List.getElem_cons_succ, List.getElem_cons_zero, List.setIfInBounds_toArray, List.set_cons_zero, List.set_cons_succ]
  refine wpAnyH_take (i := 22) rfl (by kernel_rfl) (by kernel_rfl) (by kernel_rfl) (fun _ _ _ h => h) (Or.inr ⟨by rfl, rfl⟩) (by assumption) ?_
  simp only [Act.put, List.getElem_toArray, List.getElem_cons_succ, List.getElem_cons_zero, List.setIfInBounds_toArray, List.set_cons_zero, List.set_cons_succ]
  refine wpAnyH_take (i := 23) rfl (by kernel_rfl) (by kernel_rfl) (by kernel_rfl) (fun _ _ _ h => h) (Or.inr ⟨by rfl, rfl⟩) (by assumption) ?_
  simp only [Act.put, List.getElem_toArray, List.getElem_cons_succ, List.getElem_cons_zero, List.setIfInBounds_toArray, List.set_cons_zero, List.set_cons_succ]
  refine wpAnyH_take (i := 24) (v := ?_) rfl (by kernel_rfl) (by kernel_rfl) (by kernel_rfl) (fun _ _ _ h => h) (Or.inl ⟨by rfl, ?_⟩) (by assumption) ?_
  rotate_left
  · (intro w hSw; (try dsimp only at hSw); go_simp; try with_reducible rfl)
  simp only [Act.put, List.getElem_toArray, List.getElem_cons_succ, List.getElem_cons_zero, List.setIfInBounds_toArray, List.set_cons_zero, List.set_cons_succ]
  refine wpAnyH_take (i := 25) (v := ?_) rfl (by kernel_rfl) (by kernel_rfl) (by kernel_rfl) (fun _ _ _ h => h) (Or.inl ⟨by rfl, ?_⟩) (by assumption) ?_
  rotate_left
  · (intro w hSw; (try dsimp only at hSw); go_simp; try with_reducible rfl)
  simp only [Act.put, List.getElem_toArray, List.getElem_cons_succ, List.getElem_cons_zero, List.setIfInBounds_toArray, List.set_cons_zero, List.set_cons_succ]
  refine wpAnyH_take (i := 26) (v := ?_) rfl (by kernel_rfl) (by kernel_rfl) (by kernel_rfl) (fun _ _ _ h => h) (Or.inl ⟨by rfl, ?_⟩) (by assumption) ?_
  rotate_left
  · (intro w hSw; (try dsimp only at hSw); go_simp; try with_reducible rfl)
  simp only [Act.put, List.getElem_toArray, List.getElem_cons_succ, List.getElem_cons_zero, List.setIfInBounds_toArray, List.set_cons_zero, List.set_cons_succ]
  refine wpAnyH_done (by kernel_rfl) ?_ _
  go_wp2
  go_ret
  exact ⟨rfl, by rw [HS.out]; exact KN.out _ XX.out⟩
theorem q3 (seed : List Int) (index : Int) (msg8 : List Int) (w : World) (hk : Keys w) (hs : seed.length = 8) (hm : msg8.length = 8) (hbt : Byt msg8) :
    Calls Tryd.prog 3 #[.agg (ba seed), .int .i64 index, .agg (ba msg8)] w fun e w' => e = .returned (.bool true) ∧ Below w.heap.size w w' := by
  by_cases hi : 0 ≤ index ∧ index < 8
  · obtain ⟨n, rfl⟩ : ∃ n : Nat, index = n := ⟨index.toNat, by omega⟩
    have hn : n < 8 := by omega
    exact q3T seed msg8 n n (sigL seed n msg8) w hk hs hm hbt (sigL_len seed n msg8)
      (fun T gk ck gp cp ks w' hk' hT => kSign seed msg8 n T gk ck gp cp ks w' hk' hT hm hbt hn)
      (fun w' hk' => dSignT seed msg8 n w' hk' hs hm hbt hn) (ck_sig seed msg8 n hn)
  · exact q3F seed msg8 index 0 (zeros 280) w hk hs hm (zeros_len 280)
      (fun T gk ck gp cp ks w' _ hT => kSignNo seed msg8 index T gk ck gp cp ks w' hT hi)
      (fun w' _ => dSignNo seed msg8 index w' hi)
end Go.Proofs.YtkmfmkonejdjiaaDoor
