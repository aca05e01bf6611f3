/-
  The first thing that each law asks.
-/
import Derived.Test.YtkmfmkonejdjiaaDoorK5
import Derived.Test.YtkmfmkonejdjiaaDoorK6
import Derived.Test.YtkmfmkonejdjiaaDoorK11
namespace Go.Proofs.YtkmfmkonejdjiaaDoor
open Go.RowKit
def k1 : List Int := [1, 0, 0, 0, 0, 0, 0, 0]
def k7 : List Int := [7, 0, 0, 0, 0, 0, 0, 0]
theorem ba_k1 : ba k1 = #[.int .u8 1, .int .u8 0, .int .u8 0, .int .u8 0, .int .u8 0, .int .u8 0, .int .u8 0, .int .u8 0] := rfl
theorem ba_k7 : ba k7 = #[.int .u8 7, .int .u8 0, .int .u8 0, .int .u8 0, .int .u8 0, .int .u8 0, .int .u8 0, .int .u8 0] := rfl
theorem byt_k7 : Byt k7 := by intro x hx; simp [k7] at hx; rcases hx with rfl | rfl <;> omega
attribute [local irreducible] ua da ba kk sw S8.run rt hs comp splice outB sha msg bvals cat at8 at16 secM zeros sec keyF marksF mk pubk bt openF shutF readF splR oF sF rootF leafH twoH stepsF cutN leadF provL rootV pubF pubs keyL opn sht way gives ckB chkB rootL sg opL shL sigL wayP wayL
set_option maxRecDepth 100000 in
set_option maxHeartbeats 8000000 in
theorem kAwake (w : World) (hk : Keys w) : Calls Tryd.prog 7 #[] w fun e w' => e = .returned (.bool true) ∧ Below w.heap.size w w' := by
  have h4 := z30
  have HK := Lib.hid hk
  have HP : Hid (0 < w.heap.size) := keys_pos hk
  obtain ⟨S, hS⟩ : ∃ S, w.heap.size = S := ⟨_, rfl⟩
  have HS := Lib.hid hS
  have KW : Hid (∀ w', Below S w w' → Keys w') := fun w' hb => keys_below HK.out hb (by rw [← HS.out]; exact HP.out)
  have C8 : Hid (Calls Tryd.prog 8 #[.agg #[.int .u8 1, .int .u8 0, .int .u8 0, .int .u8 0, .int .u8 0, .int .u8 0, .int .u8 0, .int .u8 0]] w fun e w' => ∃ T gk ck gp cp ks, e = .returned (.pointer (some ⟨T, 0, none⟩)) ∧ w.heap.size ≤ T ∧ TA w' T k1 gk ck gp cp ks ∧ Below w.heap.size w w') := by
    have := kNew k1 w hk rfl
    rw [ba_k1] at this
    exact this
  obtain ⟨L, hL⟩ : ∃ L, sigL k1 2 k7 = L := ⟨_, rfl⟩
  obtain ⟨Q, hQ⟩ : ∃ Q, rootL k1 = Q := ⟨_, rfl⟩
  have LS : Hid (L.length = 280) := by rw [← hL]; exact sigL_len _ _ _
  have LQ : Hid (Q.length = 8) := by rw [← hQ]; exact rootL_len _
  have LZ : Hid ((zeros 280).length = 280) := zeros_len 280
  have HQQ : Hid (rootL k1 = Q) := hQ
  have CK : Hid (ckB Q k7 2 L = true) := by show _ = _; rw [← hL, ← hQ]; exact ck_sig k1 k7 2 (by omega)
  have C13 : Hid (∀ w', Below S w w' → Calls Tryd.prog 13 #[.agg (ba Q), .agg #[.int .u8 7, .int .u8 0, .int .u8 0, .int .u8 0, .int .u8 0, .int .u8 0, .int .u8 0, .int .u8 0], .agg (sg 2 L).toArray] w' fun e w'' => e = .returned (.bool true) ∧ Below w'.heap.size w' w'') := fun w' hb => by
    have := kCheck Q k7 2 L w' (KW.out w' hb) LQ.out rfl byt_k7 LS.out
    rw [CK.out, ba_k7] at this
    exact this
  have C15 : Hid (∀ w', Calls Tryd.prog 15 #[] w' fun e w'' => e = .returned (.int .i64 8) ∧ Below w'.heap.size w' w'') := fun w' => (kTimes w').mono fun e w'' h => ⟨h.1, by rw [h.2]; exact Below.refl _ _⟩
  have C9A : Hid (∀ (T gk ck gp cp : Nat) (ks : Nat → Nat) (w' : World), Below S w w' → TA w' T k1 gk ck gp cp ks → Calls Tryd.prog 9 #[.pointer (some ⟨T, 0, none⟩), .int .i64 2, .agg #[.int .u8 7, .int .u8 0, .int .u8 0, .int .u8 0, .int .u8 0, .int .u8 0, .int .u8 0, .int .u8 0]] w' fun e w'' => e = .returned (.tuple #[.agg (sg 2 L).toArray, .bool true]) ∧ Below w'.heap.size w' w'') := fun T gk ck gp cp ks w' hb hT => by
    have := kSign k1 k7 2 T gk ck gp cp ks w' (KW.out w' hb) hT rfl byt_k7 (by omega)
    rw [hL, ba_k7] at this
    exact this
  have C9B : Hid (∀ (T gk ck gp cp : Nat) (ks : Nat → Nat) (w' : World), TA w' T k1 gk ck gp cp ks → Calls Tryd.prog 9 #[.pointer (some ⟨T, 0, none⟩), .int .i64 8, .agg #[.int .u8 7, .int .u8 0, .int .u8 0, .int .u8 0, .int .u8 0, .int .u8 0, .int .u8 0, .int .u8 0]] w' fun e w'' => e = .returned (.tuple #[.agg (sg 0 (zeros 280)).toArray, .bool false]) ∧ Below w'.heap.size w' w'') := fun T gk ck gp cp ks w' hT => by
    have := kSignNo k1 k7 8 T gk ck gp cp ks w' hT (by omega)
    rw [ba_k7] at this
    exact this
  have C11A : Hid (∀ (T gk ck gp cp : Nat) (ks : Nat → Nat) (w' : World), Below S w w' → TA w' T k1 gk ck gp cp ks → Calls Tryd.prog 11 #[.pointer (some ⟨T, 0, none⟩)] w' fun e w'' => e = .returned (.agg (ba Q)) ∧ Below w'.heap.size w' w'') := fun T gk ck gp cp ks w' hb hT => by
    have := kRoot k1 T gk ck gp cp ks w' (KW.out w' hb) hT
    rw [hQ] at this
    exact this
  have B0 : Hid (Below S w w) := Below.refl _ _
  clear hk hL hQ
  generalize k1 = kq at *
  go_enter Tryd.func7, Tryd.ntmps7
  go_wp2_with (first
    | (go_at_call 8
       refine C8.out.mono ?_
       rintro e v1 ⟨T, gk, ck, gp, cp, ks, rfl, hTS, hT, hb⟩
       have TT := Lib.hid hT
       have B1 : Hid (Below S w v1) := by show Below _ _ _; rw [← HS.out]; exact hb
       have SVv1 : Hid (S ≤ v1.heap.size) := by show _ ≤ _; rw [← HS.out]; exact hb.size
       have C9a := Lib.hid (C9A.out T gk ck gp cp ks)
       have C9b := Lib.hid (C9B.out T gk ck gp cp ks)
       have C11 := Lib.hid (C11A.out T gk ck gp cp ks)
       clear hT hb hTS C8 C9A C9B C11A)
    | (go_at_call 9
       refine (C9a.out v1 B1.out TT.out).mono ?_
       rintro e u1 ⟨rfl, hb⟩
       have TT_i : Hid (TA u1 T kq gk ck gp cp ks) := TT.out.keep hb
       have B1_i : Hid (Below S w u1) := B1.out.trans (hb.mono SVv1.out)
       have SVba : Hid (S ≤ u1.heap.size) := Nat.le_trans SVv1.out hb.size
       clear hb
       obtain ⟨A, hA⟩ : ∃ q, u1.heap.size = q := ⟨_, rfl⟩
       have Y0a := Lib.hid (sb_new hA 0 (zeros 280))
       have AS : Hid (S ≤ A) := by show _ ≤ _; rw [← hA]; exact SVba.out)
    | (refine wpList_store_rowTo rfl 30 (.tmp 2) (.tmp 14) rfl rfl A (sg (2) L).toArray rfl rfl 30 (sg 0 (zeros 280)).toArray Y0a.out (sg_infoA _ _ LS.out) ((sg_size _ _ (zeros_len 280)).trans (sg_size _ _ LS.out).symm) (sg_ones _ _) ?_
       have Ya : Hid (SB ((u1.alloc (Obj.cells (sg 0 (zeros 280)).toArray 30)).setRow A (sg (2) L).toArray) A (2) L) := setRow_heap _ _ _ _ _ _ Y0a.out
       have BWa : Hid (Below A u1 ((u1.alloc (Obj.cells (sg 0 (zeros 280)).toArray 30)).setRow A (sg (2) L).toArray)) := below_setRow ((Below.refl _ _).alloc (Nat.le_of_eq hA.symm) _) (Nat.le_refl _) _
       have TTa : Hid (TA ((u1.alloc (Obj.cells (sg 0 (zeros 280)).toArray 30)).setRow A (sg (2) L).toArray) T kq gk ck gp cp ks) := TT_i.out.keep (by rw [hA]; exact BWa.out)
       have B1a : Hid (Below S w ((u1.alloc (Obj.cells (sg 0 (zeros 280)).toArray 30)).setRow A (sg (2) L).toArray)) := B1_i.out.trans (BWa.out.mono AS.out)
       have LAa : Hid (A < ((u1.alloc (Obj.cells (sg 0 (zeros 280)).toArray 30)).setRow A (sg (2) L).toArray).heap.size) := sb_lt Ya.out
       have SVv2 : Hid (S ≤ ((u1.alloc (Obj.cells (sg 0 (zeros 280)).toArray 30)).setRow A (sg (2) L).toArray).heap.size) := Nat.le_trans AS.out (Nat.le_of_lt LAa.out)
       clear Y0a BWa hA TT TT_i B1 B1_i SVba
       generalize ((u1.alloc (Obj.cells (sg 0 (zeros 280)).toArray 30)).setRow A (sg (2) L).toArray) = v2 at *)
    | (go_at_call 9
       refine (C9b.out v2 TTa.out).mono ?_
       rintro e u2 ⟨rfl, hb⟩
       have TTa_i : Hid (TA u2 T kq gk ck gp cp ks) := TTa.out.keep hb
       have Ya_i : Hid (SB u2 A 2 L) := (hb.block _ (lt_of_block Ya.out)).trans Ya.out
       have B1a_i : Hid (Below S w u2) := B1a.out.trans (hb.mono SVv2.out)
       have SVbb : Hid (S ≤ u2.heap.size) := Nat.le_trans SVv2.out hb.size
       clear hb
       obtain ⟨D, hD⟩ : ∃ q, u2.heap.size = q := ⟨_, rfl⟩
       have Y0b := Lib.hid (sb_new hD 0 (zeros 280))
       have DS : Hid (S ≤ D) := by show _ ≤ _; rw [← hD]; exact SVbb.out)
    | (refine wpList_store_rowTo rfl 30 (.tmp 4) (.tmp 20) rfl rfl D (sg (0) (zeros 280)).toArray rfl rfl 30 (sg 0 (zeros 280)).toArray Y0b.out (sg_infoA _ _ LZ.out) ((sg_size _ _ (zeros_len 280)).trans (sg_size _ _ LZ.out).symm) (sg_ones _ _) ?_
       have Yb : Hid (SB ((u2.alloc (Obj.cells (sg 0 (zeros 280)).toArray 30)).setRow D (sg (0) (zeros 280)).toArray) D (0) (zeros 280)) := setRow_heap _ _ _ _ _ _ Y0b.out
       have BWb : Hid (Below D u2 ((u2.alloc (Obj.cells (sg 0 (zeros 280)).toArray 30)).setRow D (sg (0) (zeros 280)).toArray)) := below_setRow ((Below.refl _ _).alloc (Nat.le_of_eq hD.symm) _) (Nat.le_refl _) _
       have TTab : Hid (TA ((u2.alloc (Obj.cells (sg 0 (zeros 280)).toArray 30)).setRow D (sg (0) (zeros 280)).toArray) T kq gk ck gp cp ks) := TTa_i.out.keep (by rw [hD]; exact BWb.out)
       have Yab : Hid (SB ((u2.alloc (Obj.cells (sg 0 (zeros 280)).toArray 30)).setRow D (sg (0) (zeros 280)).toArray) A 2 L) := (BWb.out.block _ (by rw [← hD]; exact lt_of_block Ya_i.out)).trans Ya_i.out
       have B1ab : Hid (Below S w ((u2.alloc (Obj.cells (sg 0 (zeros 280)).toArray 30)).setRow D (sg (0) (zeros 280)).toArray)) := B1a_i.out.trans (BWb.out.mono DS.out)
       have LAb : Hid (D < ((u2.alloc (Obj.cells (sg 0 (zeros 280)).toArray 30)).setRow D (sg (0) (zeros 280)).toArray).heap.size) := sb_lt Yb.out
       have SVv3 : Hid (S ≤ ((u2.alloc (Obj.cells (sg 0 (zeros 280)).toArray 30)).setRow D (sg (0) (zeros 280)).toArray).heap.size) := Nat.le_trans DS.out (Nat.le_of_lt LAb.out)
       clear Y0b BWb hD TTa TTa_i Ya Ya_i B1a B1a_i SVbb
       generalize ((u2.alloc (Obj.cells (sg 0 (zeros 280)).toArray 30)).setRow D (sg (0) (zeros 280)).toArray) = v3 at *)
    | fail)
  have YB : Hid (SB v3 A 2 L) := Yab.out
  have TB : Hid (TA v3 T kq gk ck gp cp ks) := TTab.out
  have BB : Hid (Below S w v3) := B1ab.out
  clear Yab TTab B1ab
  obtain ⟨N, hN⟩ : ∃ N, v3.heap.size = N := ⟨_, rfl⟩
  have WN : Hid (v3.heap.size = N) := hN
  have LN : Hid (A < N ∧ S ≤ N) := by show _ ∧ _; rw [← hN]; exact ⟨sb_lt YB.out, SVv3.out⟩
  have KN : Hid (∀ w', Below N v3 w' → Below S w w') := fun w' hb => BB.out.trans (hb.mono LN.out.2)
  have TN : Hid (∀ w', Below N v3 w' → TA w' T kq gk ck gp cp ks) := fun w' hb => TB.out.keep (by rw [WN.out]; exact hb)
  generalize v3 = wB at *
  clear hN hS
  have XX : Hid (Below N wB wB.drew) := (Below.refl _ _).drew
  refine wp_region_held_drew (S := (fun w' : World => ∀ q, q < N → w'.heap[q]? = wB.heap[q]?)) (by kernel_rfl) (by exact fun _ _ => rfl) (fun hHeld => ?_)
  refine wpAnyH_take (i := 0) (v := ?_) rfl (by kernel_rfl) (by kernel_rfl) (by kernel_rfl) (fun _ _ _ h => h) (Or.inl ⟨by rfl, ?_⟩) (by assumption) ?_
  rotate_left
  · (intro w hSw; (try dsimp only at hSw); go_simp; try with_reducible rfl)
  simp only [Act.put, List.getElem_toArray, List.getElem_cons_zero, List.setIfInBounds_toArray, List.set_cons_zero, List.set_cons_succ]
  refine wpAnyH_take (i := 1) (v := ?_) rfl (by kernel_rfl) (by kernel_rfl) (by kernel_rfl) (fun _ _ _ h => h) (Or.inl ⟨by rfl, ?_⟩) (by assumption) ?_
  rotate_left
  · (intro w hSw; (try dsimp only at hSw); go_simp; try with_reducible rfl)
  simp only [Act.put, List.getElem_toArray, List.getElem_cons_succ, List.getElem_cons_zero, List.setIfInBounds_toArray, List.set_cons_zero, List.set_cons_succ]
  refine wpAnyH_take (i := 2) (v := ?_) rfl (by kernel_rfl) (by kernel_rfl) (by kernel_rfl) (fun _ _ _ h => h) (Or.inl ⟨by rfl, ?_⟩) (by assumption) ?_
  rotate_left
  · (intro w hSw; (try dsimp only at hSw); go_simp; try with_reducible rfl)
  simp only [Act.put, List.getElem_toArray, List.getElem_cons_succ, List.getElem_cons_zero, List.setIfInBounds_toArray, List.set_cons_zero, List.set_cons_succ]
  refine wpAnyH_take (i := 3) (v := ?_) rfl (by kernel_rfl) (by kernel_rfl) (by kernel_rfl) (fun _ _ _ h => h) (Or.inl ⟨by rfl, ?_⟩) (by assumption) ?_
  rotate_left
  · (intro w hSw; (try dsimp only at hSw); go_simp; try with_reducible rfl)
  simp only [Act.put, List.getElem_toArray, List.getElem_cons_succ, List.getElem_cons_zero, List.setIfInBounds_toArray, List.set_cons_zero, List.set_cons_succ]
  refine wpAnyH_take (i := 4) (v := ?_) rfl (by kernel_rfl) (by kernel_rfl) (by kernel_rfl) (fun _ _ _ h => h) (Or.inl ⟨by rfl, ?_⟩) (by assumption) ?_
  rotate_left
  · (intro w hSw; (try dsimp only at hSw); go_simp; try with_reducible rfl)
  simp only [Act.put, List.getElem_toArray, List.getElem_cons_succ, List.getElem_cons_zero, List.setIfInBounds_toArray, List.set_cons_zero, List.set_cons_succ]
  refine wpAnyH_take (i := 5) (v := ?_) rfl (by kernel_rfl) (by kernel_rfl) (by kernel_rfl) (fun _ _ _ h => h) (Or.inl ⟨by rfl, ?_⟩) (by assumption) ?_
  rotate_left
  · (intro w hSw; (try dsimp only at hSw); go_simp; try with_reducible rfl)
  simp only [Act.put, List.getElem_toArray, List.getElem_cons_succ, List.getElem_cons_zero, List.setIfInBounds_toArray, List.set_cons_zero, List.set_cons_succ]
  refine wpAnyH_take (i := 6) (v := ?_) rfl (by kernel_rfl) (by kernel_rfl) (by kernel_rfl) (fun _ _ _ h => h) (Or.inl ⟨by rfl, ?_⟩) (by assumption) ?_
  rotate_left
  · (intro w hSw; (try dsimp only at hSw); go_simp; try with_reducible rfl)
  simp only [Act.put, List.getElem_toArray, List.getElem_cons_succ, List.getElem_cons_zero, List.setIfInBounds_toArray, List.set_cons_zero, List.set_cons_succ]
  refine wpAnyH_take (i := 8) (v := ?_) rfl (by kernel_rfl) (by kernel_rfl) (by kernel_rfl) (fun _ _ _ h => h) (Or.inl ⟨by rfl, ?_⟩) (by assumption) ?_
  rotate_left
  · (intro w hSw; (try dsimp only at hSw); go_simp; try with_reducible rfl)
  simp only [Act.put, List.getElem_toArray, List.getElem_cons_succ, List.getElem_cons_zero, List.setIfInBounds_toArray, List.set_cons_zero, List.set_cons_succ]
  refine wpAnyH_take (i := 9) rfl (by kernel_rfl) (by kernel_rfl) (by kernel_rfl) (fun _ _ _ h => h) (yieldsIf_load_mid (by rfl) 30 (.tmp 2) rfl (A) (0) rfl (sg (2) L) _ (fun w h => sb_all (L := L) ((h _ (by have := LN.out; omega)).trans YB.out)) Tryd.underlying30 rfl (sg_info _ _ LS.out)) (by assumption) ?_
  simp only [Act.put, List.getElem_toArray, List.getElem_cons_succ, List.getElem_cons_zero, List.setIfInBounds_toArray, List.set_cons_zero, List.set_cons_succ]
  refine wpAnyH_ready (rs := [7]) (by kernel_rfl) (by simp) ?_
  refine AllReadyH.cons rfl (fun K hK => ?_) AllReadyH.nil
  go_simp
  go_at_call 11
  refine (C11.out _ (KN.out _ XX.out) (TN.out _ XX.out)).mono ?_
  rintro e wc1 ⟨rfl, hba⟩
  have XN : Hid (Below N wB wc1) := XX.out.trans (hba.mono (by have := XX.out.size; have := WN.out; omega))
  clear XX hba hHeld
  have XX := XN
  clear XN
  (try go_wp2_with fail)
  refine hK.out _ _ (by exact fun q hq => XX.out.block q hq) (fun hHeld => ?_)
  clear hK K
  refine wpAnyH_ready (rs := [10]) (by kernel_rfl) (by simp) ?_
  refine AllReadyH.cons rfl (fun K hK => ?_) AllReadyH.nil
  go_simp
  go_at_call 13
  refine (C13.out _ (KN.out _ XX.out)).mono ?_
  rintro e wc2 ⟨rfl, hba⟩
  have XN : Hid (Below N wB wc2) := XX.out.trans (hba.mono (by have := XX.out.size; have := WN.out; omega))
  clear XX hba hHeld
  have XX := XN
  clear XN
  (try go_wp2_with fail)
  refine hK.out _ _ (by exact fun q hq => XX.out.block q hq) (fun hHeld => ?_)
  clear hK K
  refine wpAnyH_take (i := 11) (v := ?_) rfl (by kernel_rfl) (by kernel_rfl) (by kernel_rfl) (fun _ _ _ h => h) (Or.inl ⟨by rfl, ?_⟩) (by assumption) ?_
  rotate_left
  · (intro w hSw; (try dsimp only at hSw); go_simp; try with_reducible rfl)
  simp only [Act.put, List.getElem_toArray, List.getElem_cons_succ, List.getElem_cons_zero, List.setIfInBounds_toArray, List.set_cons_zero, List.set_cons_succ]
  refine wpAnyH_take (i := 12) (v := ?_) rfl (by kernel_rfl) (by kernel_rfl) (by kernel_rfl) (fun _ _ _ h => h) (Or.inl ⟨by rfl, ?_⟩) (by assumption) ?_
  rotate_left
  · (intro w hSw; (try dsimp only at hSw); go_simp; try with_reducible rfl)
  simp only [Act.put, List.getElem_toArray, List.getElem_cons_succ, List.getElem_cons_zero, List.setIfInBounds_toArray, List.set_cons_zero, List.set_cons_succ]
  refine wpAnyH_ready (rs := [13]) (by kernel_rfl) (by simp) ?_
  refine AllReadyH.cons rfl (fun K hK => ?_) AllReadyH.nil
  go_simp
  go_at_call 15
  refine (C15.out _).mono ?_
  rintro e wc3 ⟨rfl, hba⟩
  have XN : Hid (Below N wB wc3) := XX.out.trans (hba.mono (by have := XX.out.size; have := WN.out; omega))
  clear XX hba hHeld
  have XX := XN
  clear XN
  (try go_wp2_with fail)
  refine hK.out _ _ (by exact fun q hq => XX.out.block q hq) (fun hHeld => ?_)
  clear hK K
  refine wpAnyH_take (i := 14) (v := ?_) rfl (by kernel_rfl) (by kernel_rfl) (by kernel_rfl) (fun _ _ _ h => h) (Or.inl ⟨by rfl, ?_⟩) (by assumption) ?_
  rotate_left
  · (intro w hSw; (try dsimp only at hSw); go_simp; try with_reducible rfl)
  simp only [Act.put, List.getElem_toArray, List.getElem_cons_succ, List.getElem_cons_zero, List.setIfInBounds_toArray, List.set_cons_zero, List.set_cons_succ]
  refine wpAnyH_take (i := 15) (v := ?_) rfl (by kernel_rfl) (by kernel_rfl) (by kernel_rfl) (fun _ _ _ h => h) (Or.inl ⟨by rfl, ?_⟩) (by assumption) ?_
  rotate_left
  · (intro w hSw; (try dsimp only at hSw); go_simp; try with_reducible rfl)
  simp only [Act.put, List.getElem_toArray, List.getElem_cons_succ, List.getElem_cons_zero, List.setIfInBounds_toArray, List.set_cons_zero, List.set_cons_succ]
  refine wpAnyH_take (i := 16) (v := ?_) rfl (by kernel_rfl) (by kernel_rfl) (by kernel_rfl) (fun _ _ _ h => h) (Or.inl ⟨by rfl, ?_⟩) (by assumption) ?_
  rotate_left
  · (intro w hSw; (try dsimp only at hSw); go_simp; try with_reducible rfl)
  simp only [Act.put, List.getElem_toArray, List.getElem_cons_succ, List.getElem_cons_zero, List.setIfInBounds_toArray, List.set_cons_zero]
  refine wpAnyH_done (by kernel_rfl) ?_ _
  go_wp2
  go_ret
  exact ⟨rfl, by rw [HS.out]; exact KN.out _ XX.out⟩
end Go.Proofs.YtkmfmkonejdjiaaDoor
