/-
  The walk of KeytreeAll.
-/
import Derived.Test.YtkmfmkonejdjiaaDoorK9
import Derived.Test.YtkmfmkonejdjiaaDoorK10
namespace Go.Proofs.YtkmfmkonejdjiaaDoor
open Go.RowKit
theorem step_alloc30 {w : World} {ops : Array Oper} {o : Oper} {a : Act} {K : Act → World → Prop} {Q : Exit → Act → World → Prop} {E : Prop} (hgd : o.guard = none) (ho : o.op = .alloc 30)
    (h : K (a.put o.dst (.pointer (some ⟨w.heap.size, 0, none⟩))) (w.alloc (Obj.cells (sg 0 (zeros 280)).toArray 30))) : if Region.wanted o (yielded ops a.tmps) = true then Oper.wp Tryd.prog o a w K Q else E := by
  have hw : Region.wanted o (yielded ops a.tmps) = true := by simp [Region.wanted, hgd]
  have hz := z30
  rw [if_pos hw]
  unfold Oper.wp execOp
  simp [ho, go_sem, hz]
  exact h
theorem gives_eq2 (m L : List Int) : pubk (cat (readF m (opn L) (sht L)) 32) = gives m L := rfl
theorem pubs_eq2 (seed : List Int) : cat (pubF seed) 8 = pubs seed := rfl
attribute [local irreducible] ua da ba kk sw S8.run rt hs comp splice outB sha msg bvals cat at8 at16 secM zeros sec keyF marksF mk pubk bt openF shutF readF splR oF sF rootF leafH twoH stepsF cutN leadF provL rootV pubF pubs keyL opn sht way gives ckB chkB rootL sg opL shL sigL wayP wayL
set_option maxRecDepth 100000 in
set_option maxHeartbeats 16000000 in
theorem q5 (seed msg8 : List Int) (w : World) (hk : Keys w) (hs : seed.length = 8) (hm : msg8.length = 8) (hbt : Byt msg8) :
    Calls Tryd.prog 5 #[.agg (ba seed), .agg (ba msg8)] w fun e w' => e = .returned (.bool true) ∧ Below w.heap.size w w' := by
  have h4 := z30
  have HK := Lib.hid hk
  have HP : Hid (0 < w.heap.size) := keys_pos hk
  have HSL := Lib.hid hs
  have HML := Lib.hid hm
  have LZ : Hid ((zeros 280).length = 280) := zeros_len 280
  obtain ⟨S, hS⟩ : ∃ S, w.heap.size = S := ⟨_, rfl⟩
  have HS := Lib.hid hS
  have KW : Hid (∀ w', Below S w w' → Keys w') := fun w' hb => keys_below HK.out hb (by rw [← HS.out]; exact HP.out)
  have E0 := Lib.hid (ba_old (ba_new hS seed 23) (Obj.cells (ba msg8) 23))
  have M0 := Lib.hid (ba_new (size_al hS (Obj.cells (ba seed) 23)) msg8 23)
  have B0 : Hid (Below S w ((w.alloc (Obj.cells (ba seed) 23)).alloc (Obj.cells (ba msg8) 23))) := by subst hS; exact ((Below.refl _ w).alloc (Nat.le_refl _) _).alloc (by simp) _
  have C7 := Lib.hid (kAwake ((w.alloc (Obj.cells (ba seed) 23)).alloc (Obj.cells (ba msg8) 23)) (KW.out _ B0.out))
  obtain ⟨Q, hQ⟩ : ∃ Q, rootL seed = Q := ⟨_, rfl⟩
  have LQ : Hid (Q.length = 8) := by rw [← hQ]; exact rootL_len _
  have HQ : Hid (rootL seed = Q) := hQ
  have C8 : Hid (∀ w', Below S w w' → Calls Tryd.prog 8 #[.agg (ba seed)] w' fun e w'' => ∃ T gk ck gp cp ks, e = .returned (.pointer (some ⟨T, 0, none⟩)) ∧ w'.heap.size ≤ T ∧ TA w'' T seed gk ck gp cp ks ∧ Below w'.heap.size w' w'') := fun w' hb => kNew seed w' (KW.out w' hb) hs
  have C9A : Hid (∀ (T gk ck gp cp : Nat) (ks : Nat → Nat) (n : Nat) (w' : World), n < 8 → Below S w w' → TA w' T seed gk ck gp cp ks → Calls Tryd.prog 9 #[.pointer (some ⟨T, 0, none⟩), .int .i64 n, .agg (ba msg8)] w' fun e w'' => e = .returned (.tuple #[.agg (sg n (sigL seed n msg8)).toArray, .bool true]) ∧ Below w'.heap.size w' w'') := fun T gk ck gp cp ks n w' hn hb hT => kSign seed msg8 n T gk ck gp cp ks w' (KW.out w' hb) hT hm hbt hn
  have C9N : Hid (∀ (T gk ck gp cp : Nat) (ks : Nat → Nat) (w' : World), TA w' T seed gk ck gp cp ks → Calls Tryd.prog 9 #[.pointer (some ⟨T, 0, none⟩), .int .i64 (-1), .agg (ba msg8)] w' fun e w'' => e = .returned (.tuple #[.agg (sg 0 (zeros 280)).toArray, .bool false]) ∧ Below w'.heap.size w' w'') := fun T gk ck gp cp ks w' hT => kSignNo seed msg8 (-1) T gk ck gp cp ks w' hT (by omega)
  have C9Y : Hid (∀ (T gk ck gp cp : Nat) (ks : Nat → Nat) (w' : World), TA w' T seed gk ck gp cp ks → Calls Tryd.prog 9 #[.pointer (some ⟨T, 0, none⟩), .int .i64 8, .agg (bvals msg8).toArray] w' fun e w'' => e = .returned (.tuple #[.agg (sg 0 (zeros 280)).toArray, .bool false]) ∧ Below w'.heap.size w' w'') := fun T gk ck gp cp ks w' hT => by
    have := kSignNo seed msg8 8 T gk ck gp cp ks w' hT (by omega)
    rw [ba_bvals msg8] at this
    exact this
  have C11A : Hid (∀ (T gk ck gp cp : Nat) (ks : Nat → Nat) (w' : World), Below S w w' → TA w' T seed gk ck gp cp ks → Calls Tryd.prog 11 #[.pointer (some ⟨T, 0, none⟩)] w' fun e w'' => e = .returned (.agg (ba Q)) ∧ Below w'.heap.size w' w'') := fun T gk ck gp cp ks w' hb hT => by
    have := kRoot seed T gk ck gp cp ks w' (KW.out w' hb) hT
    rw [hQ] at this
    exact this
  have C13 : Hid (∀ (n : Nat) (w' : World), n < 8 → Below S w w' → Calls Tryd.prog 13 #[.agg (ba Q), .agg (bvals msg8).toArray, .agg (sg n (sigL seed n msg8)).toArray] w' fun e w'' => e = .returned (.bool true) ∧ Below w'.heap.size w' w'') := fun n w' hn hb => by
    have := kCheck Q msg8 n (sigL seed n msg8) w' (KW.out w' hb) LQ.out hm hbt (sigL_len _ _ _)
    have h2 := ck_sig seed msg8 n hn
    rw [hQ] at h2
    rw [h2, ba_bvals msg8] at this
    exact this
  have C15 : Hid (∀ w', Calls Tryd.prog 15 #[] w' fun e w'' => e = .returned (.int .i64 8) ∧ Below w'.heap.size w' w'') := fun w' => (kTimes w').mono fun e w'' h => ⟨h.1, by rw [h.2]; exact Below.refl _ _⟩
  have C16 : Hid (∀ (n : Nat) (y z : List Int) (w' : World), opn (sigL seed n msg8) = y → sht (sigL seed n msg8) = z → Calls Tryd.prog 16 #[.agg (ba msg8), .agg (ba y), .agg (ba z)] w' fun e w'' => e = .returned (.agg (ba (pubF seed n))) ∧ Below w'.heap.size w' w'') := fun n y z w' hy hz => by
    have := dRead msg8 (opn (sigL seed n msg8)) (sht (sigL seed n msg8)) w' hm hbt (opn_len (sigL_len _ _ _)) (sht_len (sigL_len _ _ _))
    rw [gives_eq2, gives_sig, hy, hz] at this
    exact this
  have f1 := fun w => eqhL Q Q w LQ.out LQ.out
  rw [decide_eq_true rfl] at f1
  have him := inf23 msg8 hm
  have PE : Hid (cat (pubF seed) 8 = pubs seed) := pubs_eq2 seed
  clear hk hs hm hbt hQ
  go_enter Tryd.func5, Tryd.ntmps5
  go_upto_region 7 with (first
    | (go_at_call 7
       refine C7.out.mono ?_
       rintro e w1 ⟨rfl, hb⟩
       have E1 : Hid (BA w1 S 23 seed) := (hb.block _ (lt_of_block E0.out)).trans E0.out
       have M1 : Hid (BA w1 (S + 1) 23 msg8) := (hb.block _ (lt_of_block M0.out)).trans M0.out
       have B1 : Hid (Below S w w1) := B0.out.trans (hb.mono (by have := lt_of_block M0.out; omega))
       clear hb E0 M0 B0 C7 hS)
    | (refine wpList_load_row rfl 23 (.tmp 2) rfl S rfl 23 (ba seed) (0, 0) _ E1.out Tryd.underlying23 rfl (sz s27 (by rw [ba_size, HSL.out])) ?_)
    | (go_at_call 8
       refine (C8.out w1 B1.out).mono ?_
       rintro e v1 ⟨T, gk, ck, gp, cp, ks, rfl, hTS, hT, hb⟩
       have TT := Lib.hid hT
       have M2 : Hid (BA v1 (S + 1) 23 msg8) := (hb.block _ (lt_of_block M1.out)).trans M1.out
       have B2 : Hid (Below S w v1) := B1.out.trans (hb.mono (by have := lt_of_block M1.out; omega))
       obtain ⟨N1, hN1⟩ : ∃ N, v1.heap.size = N := ⟨_, rfl⟩
       have WN1 : Hid (v1.heap.size = N1) := hN1
       have LN1 : Hid (S + 1 < N1) := by show _ < _; rw [← hN1]; exact lt_of_block M2.out
       have KN1 : Hid (∀ w', Below N1 v1 w' → Below S w w') := fun w' hb => B2.out.trans (hb.mono (by have := LN1.out; omega))
       have TN1 : Hid (∀ w', Below N1 v1 w' → TA w' T seed gk ck gp cp ks) := fun w' hb => TT.out.keep (by rw [WN1.out]; exact hb)
       have MN1 : Hid (∀ w', Below N1 v1 w' → BA w' (S + 1) 23 msg8) := fun w' hb => (hb.block _ LN1.out).trans M2.out
       have C9a := Lib.hid (C9A.out T gk ck gp cp ks)
       have C9n := Lib.hid (C9N.out T gk ck gp cp ks)
       have C9y := Lib.hid (C9Y.out T gk ck gp cp ks)
       have C11 := Lib.hid (C11A.out T gk ck gp cp ks)
       clear hT hb hTS C8 C9A C9N C9Y C11A E1 M1 B1 hN1)
    | fail)
  go_wp2_with fail
  go_loopw [6, 7] (fun v c wr => ∃ (s : Nat) (A0 : Option Addr) (c0 : Nat), s ≤ 8 ∧ c = .int .i64 s ∧ v = .slice A0 s c0 ∧ wr.ownsRow N1 23 8 (.slice A0 s c0) s (bvals (cat (pubF seed) s)) ∧ Below N1 v1 wr) (fun _ c _ => 8 - (intOf c).toNat)
  case atStart => exact ⟨0, none, 0, by omega, rfl, rfl, by rw [cat_zero]; exact own8_nil _ _, Below.refl _ _⟩
  case round =>
    obtain ⟨s, A0, c0, hs, rfl, rfl, hO, hb⟩ := hrel
    have OW := Lib.hid hO
    have BR := Lib.hid hb
    have TR := Lib.hid (TN1.out _ hb)
    have MR := Lib.hid (MN1.out _ hb)
    have BRS := Lib.hid (KN1.out _ hb)
    clear hO hb
    by_cases hlt : s < 8
    · have s0 : (0 : Int) ≤ (s : Int) := by omega
      have s1 : (s : Int) < 8 := by omega
      have HS8 : Hid (s < 8) := hlt
      obtain ⟨pz, hpz⟩ : ∃ p, pubF seed s = p := ⟨_, rfl⟩
      have LPZ : Hid (pz.length = 8) := by rw [← hpz]; exact pubF_len seed s
      have HC : Hid (cat (pubF seed) (s + 1) = cat (pubF seed) s ++ pz) := by show _ = _; rw [cat_succ, hpz]
      obtain ⟨Ls, hLs⟩ : ∃ l, sigL seed s msg8 = l := ⟨_, rfl⟩
      have LLs : Hid (Ls.length = 280) := by rw [← hLs]; exact sigL_len _ _ _
      obtain ⟨y, hy⟩ : ∃ l, opn Ls = l := ⟨_, rfl⟩
      obtain ⟨z, hz⟩ : ∃ l, sht Ls = l := ⟨_, rfl⟩
      have LY : Hid (y.length = 128) := by rw [← hy]; exact opn_len LLs.out
      have LW : Hid (z.length = 128) := by rw [← hz]; exact sht_len LLs.out
      have HY : Hid (opn Ls = y) := hy
      have HW : Hid (sht Ls = z) := hz
      have C9s := Lib.hid (fun w' => C9a.out s w' hlt)
      rw [hLs] at C9s
      have C13s := Lib.hid (fun w' => C13.out s w' hlt)
      rw [hLs] at C13s
      have D16 : Hid (∀ (w' : World), Calls Tryd.prog 16 #[.agg (ba msg8), .agg (ba y), .agg (ba z)] w' fun e w'' => e = .returned (.agg (ba pz)) ∧ Below w'.heap.size w' w'') := fun w' => by
        have := C16.out s y z w' (by rw [hLs]; exact hy) (by rw [hLs]; exact hz)
        rw [hpz] at this
        exact this
      have hiy := inf27 y LY.out
      have hiz := inf27 z LW.out
      obtain ⟨M, hM⟩ : ∃ M, wr.heap.size = M := ⟨_, rfl⟩
      have WM : Hid (wr.heap.size = M) := hM
      have BM : Hid (Below M wr wr) := Below.refl _ _
      have SVwr : Hid (M ≤ wr.heap.size) := Nat.le_of_eq hM.symm
      have LM : Hid (N1 ≤ M) := by show _ ≤ _; rw [← hM, ← WN1.out]; exact BR.out.size
      clear hs hlt hpz hLs hy hz hM C9a C13 C16 C9n C9y
      go_upto_region 11 with (first
        | (go_at_call 15
           refine (kTimes _).mono ?_
           rintro e w' ⟨rfl, rfl⟩)
        | (refine wpList_load_row rfl 23 (.tmp 3) rfl (S + 1) rfl 23 (ba msg8) (0, 0) _ MR.out Tryd.underlying23 rfl (sz s27 (by rw [ba_size, HML.out])) ?_)
        | (go_at_call 9
           refine (C9s.out wr BRS.out TR.out).mono ?_
           rintro e u2 ⟨rfl, hb⟩
           have BM_i : Hid (Below M wr u2) := BM.out.trans (hb.mono SVwr.out)
           have SVu2 : Hid (M ≤ u2.heap.size) := Nat.le_trans SVwr.out hb.size
           clear hb  BM
           have BM := BM_i
           clear  BM_i
           clear C9s
           obtain ⟨A, hA⟩ : ∃ q, u2.heap.size = q := ⟨_, rfl⟩
           have Y0b := Lib.hid (sb_new hA 0 (zeros 280))
           have AS : Hid (M ≤ A) := by show _ ≤ _; rw [← hA]; exact SVu2.out)
        | (refine wpList_store_rowTo rfl 30 (.tmp 8) (.tmp 30) rfl rfl A (sg (s) Ls).toArray rfl rfl 30 (sg 0 (zeros 280)).toArray Y0b.out (sg_infoA _ _ LLs.out) ((sg_size _ _ (zeros_len 280)).trans (sg_size _ _ LLs.out).symm) (sg_ones _ _) ?_
           have Yb : Hid (SB ((u2.alloc (Obj.cells (sg 0 (zeros 280)).toArray 30)).setRow A (sg (s) Ls).toArray) A (s) Ls) := setRow_heap _ _ _ _ _ _ Y0b.out
           have BWb : Hid (Below A u2 ((u2.alloc (Obj.cells (sg 0 (zeros 280)).toArray 30)).setRow A (sg (s) Ls).toArray)) := below_setRow ((Below.refl _ _).alloc (Nat.le_of_eq hA.symm) _) (Nat.le_refl _) _
           have BMb : Hid (Below M wr ((u2.alloc (Obj.cells (sg 0 (zeros 280)).toArray 30)).setRow A (sg (s) Ls).toArray)) := BM.out.trans (BWb.out.mono AS.out)
           have LAb : Hid (A < ((u2.alloc (Obj.cells (sg 0 (zeros 280)).toArray 30)).setRow A (sg (s) Ls).toArray).heap.size) := sb_lt Yb.out
           have SVv3 : Hid (M ≤ ((u2.alloc (Obj.cells (sg 0 (zeros 280)).toArray 30)).setRow A (sg (s) Ls).toArray).heap.size) := Nat.le_trans AS.out (Nat.le_of_lt LAb.out)
           clear Y0b BWb hA  BM
           generalize ((u2.alloc (Obj.cells (sg 0 (zeros 280)).toArray 30)).setRow A (sg (s) Ls).toArray) = v3 at *)
        | fail)
      have YA : Hid (SB v3 A s Ls) := Yb.out
      have BB : Hid (Below M wr v3) := BMb.out
      have BV : Hid (Below N1 v1 v3) := BR.out.trans (BB.out.mono LM.out)
      have MB : Hid (BA v3 (S + 1) 23 msg8) := MN1.out _ BV.out
      clear Yb BMb MR
      obtain ⟨N, hN⟩ : ∃ N, v3.heap.size = N := ⟨_, rfl⟩
      have WN : Hid (v3.heap.size = N) := hN
      have LN : Hid (A < N ∧ M ≤ N ∧ N1 ≤ N ∧ S + 1 < N) := by show _ ∧ _; have h1 := SVv3.out; have h2 := sb_lt YA.out; have h3 := LM.out; have h4 := LN1.out; omega
      have VN : Hid (∀ w', Below N v3 w' → Below N1 v1 w') := fun w' hb => BV.out.trans (hb.mono LN.out.2.2.1)
      have KN : Hid (∀ w', Below N v3 w' → Below S w w') := fun w' hb => KN1.out _ (VN.out _ hb)
      have TN : Hid (∀ w', Below N v3 w' → TA w' T seed gk ck gp cp ks) := fun w' hb => TN1.out _ (VN.out _ hb)
      have IX : Hid (∀ w' : World, w'.heap[A]? = v3.heap[A]? → w'.cell? ⟨A, 0, none⟩ = some (.int .i64 s)) := fun w' h => sb_cell0 (L := Ls) (h.trans YA.out)
      have e1 : ((s : Int) != (s : Int)) = false := by simp
      generalize v3 = wB at *
      clear hN
      have XX : Hid (Below N wB wB.drew) := (Below.refl _ _).drew
      refine wp_region_held_drew (S := (fun w' : World => ∀ q, q < N → w'.heap[q]? = wB.heap[q]?)) (by kernel_rfl) (by exact fun _ _ => rfl) (fun hHeld => ?_)
      refine wpAnyH_take (i := 0) (v := ?_) rfl (by kernel_rfl) (by kernel_rfl) (by kernel_rfl) (fun _ _ _ h => h) (Or.inl ⟨by rfl, ?_⟩) (by assumption) ?_
      rotate_left
      · (intro w hSw; (try dsimp only at hSw); go_simp; try with_reducible rfl)
      simp only [Act.put, List.getElem_toArray, List.getElem_cons_zero, List.setIfInBounds_toArray, List.set_cons_zero, List.set_cons_succ]
      refine wpAnyH_take (i := 1) (v := ?_) rfl (by kernel_rfl) (by kernel_rfl) (by kernel_rfl) (fun _ _ _ h => h) (Or.inl ⟨by rfl, ?_⟩) (by assumption) ?_
      rotate_left
      · (intro w hSw; (try dsimp only at hSw); go_simp; try with_reducible rfl)
      simp only [Act.put, List.getElem_toArray, List.getElem_cons_succ, List.getElem_cons_zero, List.setIfInBounds_toArray, List.set_cons_zero, List.set_cons_succ]
      refine wpAnyH_take (i := 2) (v := ?_) rfl (by kernel_rfl) (by kernel_rfl) (by kernel_rfl) (fun _ _ _ h => h) (Or.inl ⟨by rfl, ?_⟩) (by assumption) ?_
      rotate_left
      · (intro w hSw; (try dsimp only at hSw); go_simp; try with_reducible rfl)
      simp only [Act.put, List.getElem_toArray, List.getElem_cons_succ, List.getElem_cons_zero, List.setIfInBounds_toArray, List.set_cons_zero, List.set_cons_succ]
      refine wpAnyH_take (i := 3) (v := ?_) rfl (by kernel_rfl) (by kernel_rfl) (by kernel_rfl) (fun _ _ _ h => h) (Or.inl ⟨by rfl, ?_⟩) (by assumption) ?_
      rotate_left
      · (intro w hSw; (try dsimp only at hSw); go_simp; try with_reducible rfl)
      simp only [Act.put, List.getElem_toArray, List.getElem_cons_succ, List.getElem_cons_zero, List.setIfInBounds_toArray, List.set_cons_zero, List.set_cons_succ]
      refine wpAnyH_take (i := 4) (v := ?_) rfl (by kernel_rfl) (by kernel_rfl) (by kernel_rfl) (fun _ _ _ h => h) (Or.inl ⟨by rfl, ?_⟩) (by assumption) ?_
      rotate_left
      · (intro w hSw; (try dsimp only at hSw); have c0 := IX.out w (hSw _ (by have := LN.out; omega)); go_simp; try with_reducible rfl)
      simp only [Act.put, List.getElem_toArray, List.getElem_cons_succ, List.getElem_cons_zero, List.setIfInBounds_toArray, List.set_cons_zero, List.set_cons_succ]
      refine wpAnyH_take (i := 5) (v := ?_) rfl (by kernel_rfl) (by kernel_rfl) (by kernel_rfl) (fun _ _ _ h => h) (Or.inl ⟨by rfl, ?_⟩) (by assumption) ?_
      rotate_left
      · (intro w hSw; (try dsimp only at hSw); go_simp; try with_reducible rfl)
      simp only [Act.put, List.getElem_toArray, List.getElem_cons_succ, List.getElem_cons_zero, List.setIfInBounds_toArray, List.set_cons_zero, List.set_cons_succ]
      refine wpAnyH_take (i := 6) (v := ?_) rfl (by kernel_rfl) (by kernel_rfl) (by kernel_rfl) (fun _ _ _ h => h) (Or.inl ⟨by rfl, ?_⟩) (by assumption) ?_
      rotate_left
      · (intro w hSw; (try dsimp only at hSw); go_simp; try with_reducible rfl)
      simp only [Act.put, List.getElem_toArray, List.getElem_cons_succ, List.getElem_cons_zero, List.setIfInBounds_toArray, List.set_cons_zero, List.set_cons_succ]
      refine wpAnyH_take (i := 7) (v := ?_) rfl (by kernel_rfl) (by kernel_rfl) (by kernel_rfl) (fun _ _ _ h => h) (Or.inl ⟨by rfl, ?_⟩) (by assumption) ?_
      rotate_left
      · (intro w hSw; (try dsimp only at hSw); go_simp; try with_reducible rfl)
      simp only [Act.put, List.getElem_toArray, List.getElem_cons_succ, List.getElem_cons_zero, List.setIfInBounds_toArray, List.set_cons_zero, List.set_cons_succ]
      refine wpAnyH_take (i := 8) (v := ?_) rfl (by kernel_rfl) (by kernel_rfl) (by kernel_rfl) (fun _ _ _ h => h) (Or.inl ⟨by rfl, ?_⟩) (by assumption) ?_
      rotate_left
      · (intro w hSw; (try dsimp only at hSw); go_simp; try with_reducible rfl)
      simp only [Act.put, List.getElem_toArray, List.getElem_cons_succ, List.getElem_cons_zero, List.setIfInBounds_toArray, List.set_cons_zero, List.set_cons_succ]
      refine wpAnyH_take (i := 9) (v := ?_) rfl (by kernel_rfl) (by kernel_rfl) (by kernel_rfl) (fun _ _ _ h => h) (Or.inl ⟨by rfl, ?_⟩) (by assumption) ?_
      rotate_left
      · (intro w hSw; (try dsimp only at hSw); go_simp; try with_reducible rfl)
      simp only [Act.put, List.getElem_toArray, List.getElem_cons_succ, List.getElem_cons_zero, List.setIfInBounds_toArray, List.set_cons_zero, List.set_cons_succ]
      refine wpAnyH_take (i := 11) rfl (by kernel_rfl) (by kernel_rfl) (by kernel_rfl) (fun _ _ _ h => h) (yieldsIf_load_mid (by rfl) 23 (.tmp 3) rfl (S + 1) (0) rfl (bvals msg8) _ (fun w h => ba_range (t := 23) ((h _ (by have := LN.out; omega)).trans MB.out)) Tryd.underlying23 rfl him) (by assumption) ?_
      simp only [Act.put, List.getElem_toArray, List.getElem_cons_succ, List.getElem_cons_zero, List.setIfInBounds_toArray, List.set_cons_zero, List.set_cons_succ]
      refine wpAnyH_take (i := 12) rfl (by kernel_rfl) (by kernel_rfl) (by kernel_rfl) (fun _ _ _ h => h) (yieldsIf_load_mid (by rfl) 30 (.tmp 8) rfl (A) (0) rfl (sg (s) Ls) _ (fun w h => sb_all (L := Ls) ((h _ (by have := LN.out; omega)).trans YA.out)) Tryd.underlying30 rfl (sg_info _ _ LLs.out)) (by assumption) ?_
      simp only [Act.put, List.getElem_toArray, List.getElem_cons_succ, List.getElem_cons_zero, List.setIfInBounds_toArray, List.set_cons_zero, List.set_cons_succ]
      refine wpAnyH_ready (rs := [10]) (by kernel_rfl) (by simp) ?_
      refine AllReadyH.cons rfl (fun K hK => ?_) AllReadyH.nil
      go_simp
      go_at_call 11
      refine (C11.out _ (KN.out _ XX.out) (TN.out _ XX.out)).mono ?_
      rintro e wc1 ⟨rfl, hba⟩
      have XN : Hid (Below N wB wc1) := XX.out.trans (hba.mono (by have := XX.out.size; have := WN.out; omega))
      clear XX hba hHeld
      have XX := XN
      clear XN
      (try go_wp2_with fail)
      refine hK.out _ _ (by exact fun q hq => XX.out.block q hq) (fun hHeld => ?_)
      clear hK K
      refine wpAnyH_ready (rs := [13]) (by kernel_rfl) (by simp) ?_
      refine AllReadyH.cons rfl (fun K hK => ?_) AllReadyH.nil
      go_simp
      go_at_call 13
      refine (C13s.out _ (KN.out _ XX.out)).mono ?_
      rintro e wc2 ⟨rfl, hba⟩
      have XN : Hid (Below N wB wc2) := XX.out.trans (hba.mono (by have := XX.out.size; have := WN.out; omega))
      clear XX hba hHeld
      have XX := XN
      clear XN
      (try go_wp2_with fail)
      refine hK.out _ _ (by exact fun q hq => XX.out.block q hq) (fun hHeld => ?_)
      clear hK K
      refine wpAnyH_take (i := 14) (v := ?_) rfl (by kernel_rfl) (by kernel_rfl) (by kernel_rfl) (fun _ _ _ h => h) (Or.inl ⟨by rfl, ?_⟩) (by assumption) ?_
      rotate_left
      · (intro w hSw; (try dsimp only at hSw); go_simp; try with_reducible rfl)
      simp only [Act.put, List.getElem_toArray, List.getElem_cons_succ, List.getElem_cons_zero, List.setIfInBounds_toArray, List.set_cons_zero, List.set_cons_succ]
      refine wpAnyH_take (i := 15) (v := ?_) rfl (by kernel_rfl) (by kernel_rfl) (by kernel_rfl) (fun _ _ _ h => h) (Or.inl ⟨by rfl, ?_⟩) (by assumption) ?_
      rotate_left
      · (intro w hSw; (try dsimp only at hSw); go_simp; try with_reducible rfl)
      simp only [Act.put, List.getElem_toArray, List.getElem_cons_succ, List.getElem_cons_zero, List.setIfInBounds_toArray, List.set_cons_zero, List.set_cons_succ]
      refine wpAnyH_done (by kernel_rfl) ?_ _
      have YC : Hid (SB wc2 A s Ls) := (XX.out.block _ LN.out.1).trans YA.out
      have MC : Hid (BA wc2 (S + 1) 23 msg8) := (XX.out.block _ LN.out.2.2.2).trans MB.out
      have BC : Hid (Below M wr wc2) := BB.out.trans (XX.out.mono LN.out.2.1)
      clear XX YA MB BB hHeld
      go_wp2_with (first
        | (refine wpList_load_row rfl 23 (.tmp 3) rfl (S + 1) rfl 23 (ba msg8) (0, 0) _ MC.out Tryd.underlying23 rfl (sz s27 (by rw [ba_size, HML.out])) ?_)
        | (refine wpList_load_mid rfl 27 (.tmp 50) rfl A 1 rfl (bvals y) _ (by rw [← HY.out]; exact sb_opn YC.out LLs.out) Tryd.underlying27 rfl hiy ?_; rw [← ba_bvals y])
        | (refine wpList_load_mid rfl 27 (.tmp 52) rfl A 129 rfl (bvals z) _ (by rw [← HW.out]; exact sb_sht YC.out LLs.out) Tryd.underlying27 rfl hiz ?_; rw [← ba_bvals z])
        | (go_at_call 16
           refine (D16.out wc2).mono ?_
           rintro e w4 ⟨rfl, hb⟩
           have B4 : Hid (Below M wr w4) := BC.out.trans (hb.mono (by have := BC.out.size; have := WM.out; omega))
           clear hb)
        | (refine wpList_bs8 rfl (.tmp 54) rfl pz LPZ.out rfl ?_
           obtain ⟨G, hG⟩ : ∃ G, w4.heap.size = G := ⟨_, rfl⟩
           rw [hG]
           have MG : Hid (M ≤ G) := by show _ ≤ _; rw [← hG, ← WM.out]; exact B4.out.size
           have P5 := Lib.hid (ba_new hG pz 23)
           have B5 : Hid (Below M wr (w4.alloc (Obj.cells (ba pz) 23))) := B4.out.alloc (by rw [hG]; exact MG.out) _
           have O5 : Hid ((w4.alloc (Obj.cells (ba pz) 23)).ownsRow N1 23 8 (.slice A0 s c0) s (bvals (cat (pubF seed) s))) := own8_keepB OW.out (by rw [WM.out]; exact B5.out))
        | (at_builtin
           refine wpList_app8 rfl (.tmp 48) (.tmp 55) rfl N1 s (.slice A0 s c0) (cat (pubF seed) s) rfl O5.out G 1 pz rfl P5.out LPZ.out (by have := HS8.out; omega) (by have := B5.out.size; have := WM.out; have := LM.out; omega) ?_
           intro A9 c9 w9 hown hg
           rw [← HC.out] at hown
           have O9 := Lib.hid hown
           have B9 : Hid (Below N1 wr w9) := (B5.out.mono LM.out).grown hg (by have := B5.out.size; have := WM.out; have := LM.out; omega) (fun q hq => own8_base O5.out q hq)
           clear hown hg)
        | fail)
      go_roundw
      case rel => exact ⟨s + 1, A9, c9, by have := HS8.out; omega, by go_num, rfl, O9.out, BR.out.trans B9.out⟩
      case measure => have := HS8.out; simp [intOf]; omega
    · obtain rfl : s = 8 := by omega
      rw [PE.out] at OW
      have O8 := OW
      have SVwr : Hid (N1 ≤ wr.heap.size) := by show _ ≤ _; rw [← WN1.out]; exact BR.out.size
      clear OW hlt hs C9a C13 C16
      go_upto_region 15 with (first
        | (go_at_call 15
           refine (kTimes _).mono ?_
           rintro e w' ⟨rfl, rfl⟩)
        | (refine wpList_load_row rfl 23 (.tmp 3) rfl (S + 1) rfl 23 (ba msg8) (0, 0) _ MR.out Tryd.underlying23 rfl (sz s27 (by rw [ba_size, HML.out])) ?_)
        | (go_at_call 9
           refine (C9n.out wr TR.out).mono ?_
           rintro e u5 ⟨rfl, hb⟩
           have BR_i : Hid (Below N1 v1 u5) := BR.out.trans (hb.mono SVwr.out)
           have SVu5 : Hid (N1 ≤ u5.heap.size) := Nat.le_trans SVwr.out hb.size
           have hbO := hb
           clear hb BR
           have BR := BR_i
           clear  BR_i
           have OU : Hid (u5.ownsRow N1 23 8 (.slice A0 8 c0) 8 (bvals (pubs seed))) := own8_keepB O8.out hbO
           clear O8 hbO
           obtain ⟨D, hD⟩ : ∃ q, u5.heap.size = q := ⟨_, rfl⟩
           have Y0c := Lib.hid (sb_new hD 0 (zeros 280))
           have DS : Hid (N1 ≤ D) := by show _ ≤ _; rw [← hD]; exact SVu5.out)
        | (refine wpList_store_rowTo rfl 30 (.tmp 10) (.tmp 61) rfl rfl D (sg (0) (zeros 280)).toArray rfl rfl 30 (sg 0 (zeros 280)).toArray Y0c.out (sg_infoA _ _ LZ.out) ((sg_size _ _ (zeros_len 280)).trans (sg_size _ _ LZ.out).symm) (sg_ones _ _) ?_
           have Yc : Hid (SB ((u5.alloc (Obj.cells (sg 0 (zeros 280)).toArray 30)).setRow D (sg (0) (zeros 280)).toArray) D (0) (zeros 280)) := setRow_heap _ _ _ _ _ _ Y0c.out
           have BWc : Hid (Below D u5 ((u5.alloc (Obj.cells (sg 0 (zeros 280)).toArray 30)).setRow D (sg (0) (zeros 280)).toArray)) := below_setRow ((Below.refl _ _).alloc (Nat.le_of_eq hD.symm) _) (Nat.le_refl _) _
           have BRc : Hid (Below N1 v1 ((u5.alloc (Obj.cells (sg 0 (zeros 280)).toArray 30)).setRow D (sg (0) (zeros 280)).toArray)) := BR.out.trans (BWc.out.mono DS.out)
           have LAc : Hid (D < ((u5.alloc (Obj.cells (sg 0 (zeros 280)).toArray 30)).setRow D (sg (0) (zeros 280)).toArray).heap.size) := sb_lt Yc.out
           have SVv6 : Hid (N1 ≤ ((u5.alloc (Obj.cells (sg 0 (zeros 280)).toArray 30)).setRow D (sg (0) (zeros 280)).toArray).heap.size) := Nat.le_trans DS.out (Nat.le_of_lt LAc.out)
           have BWO := BWc
           have WU : Hid (u5.heap.size = D) := hD
           clear Y0c BWc hD  BR
           have OB : Hid (((u5.alloc (Obj.cells (sg 0 (zeros 280)).toArray 30)).setRow D (sg (0) (zeros 280)).toArray).ownsRow N1 23 8 (.slice A0 8 c0) 8 (bvals (pubs seed))) := own8_keepB OU.out (by rw [WU.out]; exact BWO.out)
           clear OU BWO WU
           generalize ((u5.alloc (Obj.cells (sg 0 (zeros 280)).toArray 30)).setRow D (sg (0) (zeros 280)).toArray) = v6 at *)
        | fail)
      have BB : Hid (Below N1 v1 v6) := BRc.out
      have MB : Hid (BA v6 (S + 1) 23 msg8) := MN1.out _ BB.out
      clear MR BRc C9n
      obtain ⟨N, hN⟩ : ∃ N, v6.heap.size = N := ⟨_, rfl⟩
      have WN : Hid (v6.heap.size = N) := hN
      have LN : Hid (N1 ≤ N ∧ S + 1 < N) := by show _ ∧ _; rw [← hN]; exact ⟨SVv6.out, Nat.lt_of_lt_of_le LN1.out SVv6.out⟩
      have TN : Hid (∀ w', Below N v6 w' → TA w' T seed gk ck gp cp ks) := fun w' hb => TN1.out _ (BB.out.trans (hb.mono LN.out.1))
      generalize v6 = wB at *
      clear hN
      have XX : Hid (Below N wB wB.drew) := (Below.refl _ _).drew
      refine wp_region_held_drew (S := (fun w' : World => ∀ q, q < N → w'.heap[q]? = wB.heap[q]?)) (by kernel_rfl) (by exact fun _ _ => rfl) (fun hHeld => ?_)
      refine wpAnyH_take (i := 0) (v := ?_) rfl (by kernel_rfl) (by kernel_rfl) (by kernel_rfl) (fun _ _ _ h => h) (Or.inl ⟨by rfl, ?_⟩) (by assumption) ?_
      rotate_left
      · (intro w hSw; (try dsimp only at hSw); go_simp; try with_reducible rfl)
      simp only [Act.put, List.getElem_toArray, List.getElem_cons_zero, List.setIfInBounds_toArray, List.set_cons_zero, List.set_cons_succ]
      refine wpAnyH_take (i := 2) rfl (by kernel_rfl) (by kernel_rfl) (by kernel_rfl) (fun _ _ _ h => h) (yieldsIf_load_mid (by rfl) 23 (.tmp 3) rfl (S + 1) (0) rfl (bvals msg8) _ (fun w h => ba_range (t := 23) ((h _ (by have := LN.out; omega)).trans MB.out)) Tryd.underlying23 rfl him) (by assumption) ?_
      simp only [Act.put, List.getElem_toArray, List.getElem_cons_succ, List.getElem_cons_zero, List.setIfInBounds_toArray, List.set_cons_zero, List.set_cons_succ]
      clear hHeld
      generalize wB.drew = wc at *
      refine wpAnyH_ready (rs := [1, 7]) (by kernel_rfl) (by simp) ?_
      refine AllReadyH.cons rfl (fun Kq hKq => ?_) (AllReadyH.cons rfl (fun Kq hKq => ?_) AllReadyH.nil)
      · go_simp
        go_at_call 15
        refine (C15.out _).mono ?_
        rintro e wd ⟨rfl, hba⟩
        have XN : Hid (Below N wB wd) := XX.out.trans (hba.mono (by have := XX.out.size; have := WN.out; omega))
        clear XX hba
        have XX := XN
        clear XN
        (try go_wp2_with fail)
        refine hKq.out _ _ (by exact fun q hq => XX.out.block q hq) (fun _ => ?_)
        clear hKq Kq
        (try simp only [Act.put, List.getElem_toArray, List.getElem_cons_succ, List.getElem_cons_zero, List.setIfInBounds_toArray, List.set_cons_zero, List.set_cons_succ])
        refine wpAnyH_ready (rs := [3, 7]) (by kernel_rfl) (by simp) ?_
        refine AllReadyH.cons rfl (fun Kq hKq => ?_) (AllReadyH.cons rfl (fun Kq hKq => ?_) AllReadyH.nil)
        · go_simp
          go_at_call 9
          refine (C9y.out _ (TN.out _ XX.out)).mono ?_
          rintro e wd ⟨rfl, hba⟩
          have XN : Hid (Below N wB wd) := XX.out.trans (hba.mono (by have := XX.out.size; have := WN.out; omega))
          clear XX hba
          have XX := XN
          clear XN
          (try go_wp2_with fail)
          refine hKq.out _ _ (by exact fun q hq => XX.out.block q hq) (fun _ => ?_)
          clear hKq Kq
          (try simp only [Act.put, List.getElem_toArray, List.getElem_cons_succ, List.getElem_cons_zero, List.setIfInBounds_toArray, List.set_cons_zero, List.set_cons_succ])
          refine wpAnyH_take (i := 4) (v := ?_) rfl (by kernel_rfl) (by kernel_rfl) (by kernel_rfl) (fun _ _ _ h => h) (Or.inl ⟨by rfl, ?_⟩) (by assumption) ?_
          rotate_left
          · (intro w hSw; (try dsimp only at hSw); go_simp; try with_reducible rfl)
          simp only [Act.put, List.getElem_toArray, List.getElem_cons_succ, List.getElem_cons_zero, List.setIfInBounds_toArray, List.set_cons_zero, List.set_cons_succ]
          refine wpAnyH_take (i := 5) (v := ?_) rfl (by kernel_rfl) (by kernel_rfl) (by kernel_rfl) (fun _ _ _ h => h) (Or.inl ⟨by rfl, ?_⟩) (by assumption) ?_
          rotate_left
          · (intro w hSw; (try dsimp only at hSw); go_simp; try with_reducible rfl)
          simp only [Act.put, List.getElem_toArray, List.getElem_cons_succ, List.getElem_cons_zero, List.setIfInBounds_toArray, List.set_cons_zero, List.set_cons_succ]
          refine wpAnyH_take (i := 6) (v := ?_) rfl (by kernel_rfl) (by kernel_rfl) (by kernel_rfl) (fun _ _ _ h => h) (Or.inl ⟨by rfl, ?_⟩) (by assumption) ?_
          rotate_left
          · (intro w hSw; (try dsimp only at hSw); go_simp; try with_reducible rfl)
          simp only [Act.put, List.getElem_toArray, List.getElem_cons_succ, List.getElem_cons_zero, List.setIfInBounds_toArray, List.set_cons_zero, List.set_cons_succ]
          refine wpAnyH_ready (rs := [7]) (by kernel_rfl) (by simp) ?_
          refine AllReadyH.cons rfl (fun Kq hKq => ?_) AllReadyH.nil
          refine step_alloc30 rfl rfl ?_
          obtain ⟨G, hG⟩ : ∃ G, wd.heap.size = G := ⟨_, rfl⟩
          rw [hG]
          have YG := Lib.hid (sb_new hG 0 (zeros 280))
          have NG : Hid (N ≤ G) := by show _ ≤ _; rw [← hG, ← WN.out]; exact XX.out.size
          have XN : Hid (Below N wB (wd.alloc (Obj.cells (sg 0 (zeros 280)).toArray 30))) := XX.out.alloc (by rw [hG]; exact NG.out) _
          clear XX hG
          have XX := XN
          clear XN
          generalize wd.alloc (Obj.cells (sg 0 (zeros 280)).toArray 30) = we at *
          refine hKq.out _ _ (by exact fun q hq => XX.out.block q hq) (fun _ => ?_)
          clear hKq Kq
          (try simp only [Act.put, List.getElem_toArray, List.getElem_cons_succ, List.getElem_cons_zero, List.setIfInBounds_toArray, List.set_cons_zero, List.set_cons_succ])
          refine wpAnyH_ready (rs := [8]) (by kernel_rfl) (by simp) ?_
          refine AllReadyH.cons rfl (fun Kq hKq => ?_) AllReadyH.nil
          refine step_sig rfl (.tmp 12) (.tmp 68) rfl G 0 0 (zeros 280) (zeros 280) rfl rfl YG.out LZ.out LZ.out ?_
          have XN : Hid (Below N wB (we.setCells G 0 (sg 0 (zeros 280)))) := below_setCells NG.out _ _ XX.out
          clear XX YG
          have XX := XN
          clear XN
          generalize we.setCells G 0 (sg 0 (zeros 280)) = wf at *
          refine hKq.out _ _ (by exact fun q hq => XX.out.block q hq) (fun _ => ?_)
          clear hKq Kq
          (try simp only [Act.put, List.getElem_toArray, List.getElem_cons_succ, List.getElem_cons_zero])
          refine wpAnyH_take (i := 9) (v := ?_) rfl (by kernel_rfl) (by kernel_rfl) (by kernel_rfl) (fun _ _ _ h => h) (Or.inl ⟨by rfl, ?_⟩) (by assumption) ?_
          rotate_left
          · (intro w hSw; (try dsimp only at hSw); go_simp; try with_reducible rfl)
          simp only [Act.put, List.getElem_toArray, List.getElem_cons_succ, List.getElem_cons_zero, List.setIfInBounds_toArray, List.set_cons_zero, List.set_cons_succ]
          refine wpAnyH_done (by kernel_rfl) ?_ _
          have BF : Hid (Below N1 v1 wf) := BB.out.trans (XX.out.mono LN.out.1)
          have OF : Hid (wf.ownsRow N1 23 8 (.slice A0 8 c0) 8 (bvals (pubs seed))) := own8_keepB OB.out (by rw [WN.out]; exact XX.out)
          clear XX NG
          go_wp2_with (first
            | (go_at_call 11
               refine (C11.out wf (KN1.out _ BF.out) (TN1.out _ BF.out)).mono ?_
               rintro e w7 ⟨rfl, hb⟩
               have B7 : Hid (Below N1 v1 w7) := BF.out.trans (hb.mono (by have := BF.out.size; have := WN1.out; omega))
               have O7 := Lib.hid (own8_src (own8_keepB OF.out hb))
               clear hb OF)
            | (go_at_call 17
               have C := r11 A0 8 c0 (pubs seed) w7 (KW.out w7 (KN1.out _ B7.out)) O7.out.1 O7.out.2.1 O7.out.2.2
               rw [rootL_eq7, HQ.out] at C
               refine C.mono ?_
               rintro e w8 ⟨rfl, hb⟩
               have B8 : Hid (Below N1 v1 w8) := B7.out.trans (hb.mono (by have := B7.out.size; have := WN1.out; omega))
               clear hb C O7)
            | fail)
          go_ret
          exact ⟨rfl, by rw [HS.out]; exact KN1.out _ B8.out⟩
        · refine step_alloc30 rfl rfl ?_
          obtain ⟨G, hG⟩ : ∃ G, wd.heap.size = G := ⟨_, rfl⟩
          rw [hG]
          have YG := Lib.hid (sb_new hG 0 (zeros 280))
          have NG : Hid (N ≤ G) := by show _ ≤ _; rw [← hG, ← WN.out]; exact XX.out.size
          have XN : Hid (Below N wB (wd.alloc (Obj.cells (sg 0 (zeros 280)).toArray 30))) := XX.out.alloc (by rw [hG]; exact NG.out) _
          clear XX hG
          have XX := XN
          clear XN
          generalize wd.alloc (Obj.cells (sg 0 (zeros 280)).toArray 30) = we at *
          refine hKq.out _ _ (by exact fun q hq => XX.out.block q hq) (fun _ => ?_)
          clear hKq Kq
          (try simp only [Act.put, List.getElem_toArray, List.getElem_cons_succ, List.getElem_cons_zero, List.setIfInBounds_toArray, List.set_cons_zero, List.set_cons_succ])
          refine wpAnyH_ready (rs := [3]) (by kernel_rfl) (by simp) ?_
          refine AllReadyH.cons rfl (fun Kq hKq => ?_) AllReadyH.nil
          go_simp
          go_at_call 9
          refine (C9y.out _ (TN.out _ XX.out)).mono ?_
          rintro e wd ⟨rfl, hba⟩
          have XN : Hid (Below N wB wd) := XX.out.trans (hba.mono (by have := XX.out.size; have := WN.out; omega))
          have YN : Hid (SB wd G 0 (zeros 280)) := (hba.block _ (sb_lt YG.out)).trans YG.out
          clear YG
          have YG := YN
          clear YN
          clear XX hba
          have XX := XN
          clear XN
          (try go_wp2_with fail)
          refine hKq.out _ _ (by exact fun q hq => XX.out.block q hq) (fun _ => ?_)
          clear hKq Kq
          (try simp only [Act.put, List.getElem_toArray, List.getElem_cons_succ, List.getElem_cons_zero, List.setIfInBounds_toArray, List.set_cons_zero, List.set_cons_succ])
          refine wpAnyH_take (i := 4) (v := ?_) rfl (by kernel_rfl) (by kernel_rfl) (by kernel_rfl) (fun _ _ _ h => h) (Or.inl ⟨by rfl, ?_⟩) (by assumption) ?_
          rotate_left
          · (intro w hSw; (try dsimp only at hSw); go_simp; try with_reducible rfl)
          simp only [Act.put, List.getElem_toArray, List.getElem_cons_succ, List.getElem_cons_zero, List.setIfInBounds_toArray, List.set_cons_zero, List.set_cons_succ]
          refine wpAnyH_take (i := 5) (v := ?_) rfl (by kernel_rfl) (by kernel_rfl) (by kernel_rfl) (fun _ _ _ h => h) (Or.inl ⟨by rfl, ?_⟩) (by assumption) ?_
          rotate_left
          · (intro w hSw; (try dsimp only at hSw); go_simp; try with_reducible rfl)
          simp only [Act.put, List.getElem_toArray, List.getElem_cons_succ, List.getElem_cons_zero, List.setIfInBounds_toArray, List.set_cons_zero, List.set_cons_succ]
          refine wpAnyH_take (i := 6) (v := ?_) rfl (by kernel_rfl) (by kernel_rfl) (by kernel_rfl) (fun _ _ _ h => h) (Or.inl ⟨by rfl, ?_⟩) (by assumption) ?_
          rotate_left
          · (intro w hSw; (try dsimp only at hSw); go_simp; try with_reducible rfl)
          simp only [Act.put, List.getElem_toArray, List.getElem_cons_succ, List.getElem_cons_zero, List.setIfInBounds_toArray, List.set_cons_zero, List.set_cons_succ]
          refine wpAnyH_ready (rs := [8]) (by kernel_rfl) (by simp) ?_
          refine AllReadyH.cons rfl (fun Kq hKq => ?_) AllReadyH.nil
          refine step_sig rfl (.tmp 12) (.tmp 68) rfl G 0 0 (zeros 280) (zeros 280) rfl rfl YG.out LZ.out LZ.out ?_
          have XN : Hid (Below N wB (wd.setCells G 0 (sg 0 (zeros 280)))) := below_setCells NG.out _ _ XX.out
          clear XX YG
          have XX := XN
          clear XN
          generalize wd.setCells G 0 (sg 0 (zeros 280)) = wf at *
          refine hKq.out _ _ (by exact fun q hq => XX.out.block q hq) (fun _ => ?_)
          clear hKq Kq
          (try simp only [Act.put, List.getElem_toArray, List.getElem_cons_succ, List.getElem_cons_zero])
          refine wpAnyH_take (i := 9) (v := ?_) rfl (by kernel_rfl) (by kernel_rfl) (by kernel_rfl) (fun _ _ _ h => h) (Or.inl ⟨by rfl, ?_⟩) (by assumption) ?_
          rotate_left
          · (intro w hSw; (try dsimp only at hSw); go_simp; try with_reducible rfl)
          simp only [Act.put, List.getElem_toArray, List.getElem_cons_succ, List.getElem_cons_zero, List.setIfInBounds_toArray, List.set_cons_zero, List.set_cons_succ]
          refine wpAnyH_done (by kernel_rfl) ?_ _
          have BF : Hid (Below N1 v1 wf) := BB.out.trans (XX.out.mono LN.out.1)
          have OF : Hid (wf.ownsRow N1 23 8 (.slice A0 8 c0) 8 (bvals (pubs seed))) := own8_keepB OB.out (by rw [WN.out]; exact XX.out)
          clear XX NG
          go_wp2_with (first
            | (go_at_call 11
               refine (C11.out wf (KN1.out _ BF.out) (TN1.out _ BF.out)).mono ?_
               rintro e w7 ⟨rfl, hb⟩
               have B7 : Hid (Below N1 v1 w7) := BF.out.trans (hb.mono (by have := BF.out.size; have := WN1.out; omega))
               have O7 := Lib.hid (own8_src (own8_keepB OF.out hb))
               clear hb OF)
            | (go_at_call 17
               have C := r11 A0 8 c0 (pubs seed) w7 (KW.out w7 (KN1.out _ B7.out)) O7.out.1 O7.out.2.1 O7.out.2.2
               rw [rootL_eq7, HQ.out] at C
               refine C.mono ?_
               rintro e w8 ⟨rfl, hb⟩
               have B8 : Hid (Below N1 v1 w8) := B7.out.trans (hb.mono (by have := B7.out.size; have := WN1.out; omega))
               clear hb C O7)
            | fail)
          go_ret
          exact ⟨rfl, by rw [HS.out]; exact KN1.out _ B8.out⟩
      · refine step_alloc30 rfl rfl ?_
        obtain ⟨G, hG⟩ : ∃ G, wc.heap.size = G := ⟨_, rfl⟩
        rw [hG]
        have YG := Lib.hid (sb_new hG 0 (zeros 280))
        have NG : Hid (N ≤ G) := by show _ ≤ _; rw [← hG, ← WN.out]; exact XX.out.size
        have XN : Hid (Below N wB (wc.alloc (Obj.cells (sg 0 (zeros 280)).toArray 30))) := XX.out.alloc (by rw [hG]; exact NG.out) _
        clear XX hG
        have XX := XN
        clear XN
        generalize wc.alloc (Obj.cells (sg 0 (zeros 280)).toArray 30) = we at *
        refine hKq.out _ _ (by exact fun q hq => XX.out.block q hq) (fun _ => ?_)
        clear hKq Kq
        (try simp only [Act.put, List.getElem_toArray, List.getElem_cons_succ, List.getElem_cons_zero, List.setIfInBounds_toArray, List.set_cons_zero, List.set_cons_succ])
        refine wpAnyH_ready (rs := [1]) (by kernel_rfl) (by simp) ?_
        refine AllReadyH.cons rfl (fun Kq hKq => ?_) AllReadyH.nil
        go_simp
        go_at_call 15
        refine (C15.out _).mono ?_
        rintro e wd ⟨rfl, hba⟩
        have XN : Hid (Below N wB wd) := XX.out.trans (hba.mono (by have := XX.out.size; have := WN.out; omega))
        have YN : Hid (SB wd G 0 (zeros 280)) := (hba.block _ (sb_lt YG.out)).trans YG.out
        clear YG
        have YG := YN
        clear YN
        clear XX hba
        have XX := XN
        clear XN
        (try go_wp2_with fail)
        refine hKq.out _ _ (by exact fun q hq => XX.out.block q hq) (fun _ => ?_)
        clear hKq Kq
        (try simp only [Act.put, List.getElem_toArray, List.getElem_cons_succ, List.getElem_cons_zero, List.setIfInBounds_toArray, List.set_cons_zero, List.set_cons_succ])
        refine wpAnyH_ready (rs := [3]) (by kernel_rfl) (by simp) ?_
        refine AllReadyH.cons rfl (fun Kq hKq => ?_) AllReadyH.nil
        go_simp
        go_at_call 9
        refine (C9y.out _ (TN.out _ XX.out)).mono ?_
        rintro e wd ⟨rfl, hba⟩
        have XN : Hid (Below N wB wd) := XX.out.trans (hba.mono (by have := XX.out.size; have := WN.out; omega))
        have YN : Hid (SB wd G 0 (zeros 280)) := (hba.block _ (sb_lt YG.out)).trans YG.out
        clear YG
        have YG := YN
        clear YN
        clear XX hba
        have XX := XN
        clear XN
        (try go_wp2_with fail)
        refine hKq.out _ _ (by exact fun q hq => XX.out.block q hq) (fun _ => ?_)
        clear hKq Kq
        (try simp only [Act.put, List.getElem_toArray, List.getElem_cons_succ, List.getElem_cons_zero, List.setIfInBounds_toArray, List.set_cons_zero, List.set_cons_succ])
        refine wpAnyH_take (i := 4) (v := ?_) rfl (by kernel_rfl) (by kernel_rfl) (by kernel_rfl) (fun _ _ _ h => h) (Or.inl ⟨by rfl, ?_⟩) (by assumption) ?_
        rotate_left
        · (intro w hSw; (try dsimp only at hSw); go_simp; try with_reducible rfl)
        simp only [Act.put, List.getElem_toArray, List.getElem_cons_succ, List.getElem_cons_zero, List.setIfInBounds_toArray, List.set_cons_zero, List.set_cons_succ]
        refine wpAnyH_take (i := 5) (v := ?_) rfl (by kernel_rfl) (by kernel_rfl) (by kernel_rfl) (fun _ _ _ h => h) (Or.inl ⟨by rfl, ?_⟩) (by assumption) ?_
        rotate_left
        · (intro w hSw; (try dsimp only at hSw); go_simp; try with_reducible rfl)
        simp only [Act.put, List.getElem_toArray, List.getElem_cons_succ, List.getElem_cons_zero, List.setIfInBounds_toArray, List.set_cons_zero, List.set_cons_succ]
        refine wpAnyH_take (i := 6) (v := ?_) rfl (by kernel_rfl) (by kernel_rfl) (by kernel_rfl) (fun _ _ _ h => h) (Or.inl ⟨by rfl, ?_⟩) (by assumption) ?_
        rotate_left
        · (intro w hSw; (try dsimp only at hSw); go_simp; try with_reducible rfl)
        simp only [Act.put, List.getElem_toArray, List.getElem_cons_succ, List.getElem_cons_zero, List.setIfInBounds_toArray, List.set_cons_zero, List.set_cons_succ]
        refine wpAnyH_ready (rs := [8]) (by kernel_rfl) (by simp) ?_
        refine AllReadyH.cons rfl (fun Kq hKq => ?_) AllReadyH.nil
        refine step_sig rfl (.tmp 12) (.tmp 68) rfl G 0 0 (zeros 280) (zeros 280) rfl rfl YG.out LZ.out LZ.out ?_
        have XN : Hid (Below N wB (wd.setCells G 0 (sg 0 (zeros 280)))) := below_setCells NG.out _ _ XX.out
        clear XX YG
        have XX := XN
        clear XN
        generalize wd.setCells G 0 (sg 0 (zeros 280)) = wf at *
        refine hKq.out _ _ (by exact fun q hq => XX.out.block q hq) (fun _ => ?_)
        clear hKq Kq
        (try simp only [Act.put, List.getElem_toArray, List.getElem_cons_succ, List.getElem_cons_zero])
        refine wpAnyH_take (i := 9) (v := ?_) rfl (by kernel_rfl) (by kernel_rfl) (by kernel_rfl) (fun _ _ _ h => h) (Or.inl ⟨by rfl, ?_⟩) (by assumption) ?_
        rotate_left
        · (intro w hSw; (try dsimp only at hSw); go_simp; try with_reducible rfl)
        simp only [Act.put, List.getElem_toArray, List.getElem_cons_succ, List.getElem_cons_zero, List.setIfInBounds_toArray, List.set_cons_zero, List.set_cons_succ]
        refine wpAnyH_done (by kernel_rfl) ?_ _
        have BF : Hid (Below N1 v1 wf) := BB.out.trans (XX.out.mono LN.out.1)
        have OF : Hid (wf.ownsRow N1 23 8 (.slice A0 8 c0) 8 (bvals (pubs seed))) := own8_keepB OB.out (by rw [WN.out]; exact XX.out)
        clear XX NG
        go_wp2_with (first
          | (go_at_call 11
             refine (C11.out wf (KN1.out _ BF.out) (TN1.out _ BF.out)).mono ?_
             rintro e w7 ⟨rfl, hb⟩
             have B7 : Hid (Below N1 v1 w7) := BF.out.trans (hb.mono (by have := BF.out.size; have := WN1.out; omega))
             have O7 := Lib.hid (own8_src (own8_keepB OF.out hb))
             clear hb OF)
          | (go_at_call 17
             have C := r11 A0 8 c0 (pubs seed) w7 (KW.out w7 (KN1.out _ B7.out)) O7.out.1 O7.out.2.1 O7.out.2.2
             rw [rootL_eq7, HQ.out] at C
             refine C.mono ?_
             rintro e w8 ⟨rfl, hb⟩
             have B8 : Hid (Below N1 v1 w8) := B7.out.trans (hb.mono (by have := B7.out.size; have := WN1.out; omega))
             clear hb C O7)
          | fail)
        go_ret
        exact ⟨rfl, by rw [HS.out]; exact KN1.out _ B8.out⟩
end Go.Proofs.YtkmfmkonejdjiaaDoor
