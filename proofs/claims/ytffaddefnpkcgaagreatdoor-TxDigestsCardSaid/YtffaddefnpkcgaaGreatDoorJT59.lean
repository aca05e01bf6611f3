/-
  TxDigests: what a transaction's id and an input's message are.
-/
import Derived.Test.YtffaddefnpkcgaaGreatDoorJZ
import Derived.Test.YtffaddefnpkcgaaGreatDoorJC
namespace Go.Proofs.YtffaddefnpkcgaaGreatDoor
open Go.RowKit
set_option maxRecDepth 100000
theorem V9.new {S : Nat} {w0 : World} {t : TxP} {h : TxH} {w : World} (v : V9 S w0 t h w) {N : Nat} (hN : w.heap.size = N) : V9 S w0 t h ((w.alloc (Obj.cells (txC tx0 hd0).toArray 39)).setRow N (txC t h).toArray) ∧ BL ((w.alloc (Obj.cells (txC tx0 hd0).toArray 39)).setRow N (txC t h).toArray) N (txC t h) 39 ∧ S + 1 ≤ N := by
  subst hN
  exact ⟨v.step (below_setRow ((Below.refl _ w).alloc (Nat.le_refl _) _) (Nat.le_refl _) _), setRow_heap _ _ _ _ _ _ (heap_alloc_last w _), v.sz⟩
theorem V9.set {S : Nat} {w0 : World} {t : TxP} {h : TxH} {w : World} (v : V9 S w0 t h w) {N : Nat} (hN : S + 1 ≤ N) (i : Nat) (u : Value) : V9 S w0 t h (w.setCell ⟨N, i, none⟩ u) :=
  ⟨v.bel.setCell (show S ≤ N by omega) u, bl_keep v.x (heap_setCell_other _ _ _ _ (show S ≠ N by omega)), by simpa [World.setCell] using v.sz⟩
theorem V9.from {S : Nat} {w0 : World} {t : TxP} {h : TxH} {w w' : World} (v : V9 S w0 t h w) {g : Nat} (hg : S + 1 ≤ g) (hb : Below g w w') : V9 S w0 t h w' :=
  ⟨v.bel.trans (hb.mono (by omega)), bl_keep v.x (hb.block S (by omega)), Nat.le_trans v.sz hb.size⟩
attribute [local irreducible] ua da ba kk sw S8.run rt hs comp splice outB sha msg zeros bvals vals parC cerC claC txC cel seg hash1 hash2 zsig flat encT mayT blankT win fewB
set_option maxHeartbeats 16000000 in
theorem n8_3 (t : TxP) (h : TxH) (ub : Nat) (w : World) (ht : WfT t) (hm : Mem w t h) (hk : Keys w) (e1 : fewB t = true) (e2 : mayT t = true) (e3 : t.kind = 2) (hub : ub < 256) :
    Calls Tryz.prog 8 #[.agg (txC t h).toArray, .int .u8 (ub : Int)] w fun e w' => e = .returned (.bool true) ∧ Below w.heap.size w w' := by
  obtain ⟨nI, hnI⟩ : ∃ n, t.ins.length = n := ⟨_, rfl⟩
  have HNI := Lib.hid hnI
  have hb18 := may_ins e2 e3
  rw [hnI] at hb18
  obtain ⟨b, o, hA, hrow⟩ := lrow_at hm.i (by omega)
  obtain ⟨ci, hci⟩ : ∃ c, h.i.c = c := ⟨_, rfl⟩
  obtain ⟨i, hi⟩ : ∃ i, ub % nI = i := ⟨_, rfl⟩
  have hin : i < nI := by rw [← hi]; exact Nat.mod_lt _ (by omega)
  have G1 : Hid ((ub : Int).tmod (nI : Int) = (i : Int)) := by show _ = _; rw [← hi]; rfl
  have G2 : Hid (IntKind.i64.wrap (ub : Int) = (ub : Int)) := by show _ = _; rw [IntKind.wrap_i64]; omega
  have G3 : Hid (IntKind.i64.wrap (i : Int) = (i : Int)) := by show _ = _; rw [IntKind.wrap_i64]; omega
  have G4 : Hid (IntKind.u8.wrap (i : Int) = (i : Int)) := by show _ = _; rw [IntKind.wrap_u8]; omega
  have G5 : Hid (((nI : Int) == 0) = false) := Lib.hid (beq_false_of_ne (by omega))
  have G6 : Hid (¬ (nI : Int) = 0) := Lib.hid (by omega)
  have G7 : Hid (1 ≤ nI ∧ nI ≤ 8) := Lib.hid hb18
  have GI : Hid (i < nI) := Lib.hid hin
  obtain ⟨S, hS⟩ : ∃ S, w.heap.size = S := ⟨_, rfl⟩
  have HS := Lib.hid hS
  have CC0 := c9_of w t h ht hm hk
  have V0 := v9_0 w t h
  rw [hS] at CC0 V0
  rw [e1, e2] at CC0
  have CC := Lib.hid CC0
  have V := Lib.hid V0
  have HI : Hid ((Tryz.prog.info? 39).map (·.size) = some (txC t h).length) := szL i39 (txC_len h ht)
  have DD0 := d9_of w t h ht hm hk e2
  rw [hS] at DD0
  have DD := Lib.hid DD0
  have LE := Lib.hid (enc_le ht e2)
  have HE3 := Lib.hid e3
  have HT := Lib.hid ht
  have HM := Lib.hid hm
  have HMAY := Lib.hid e2
  have HROW : Hid (∀ w', Below S w w' → ∀ j, j < t.ins.length → w'.rangeAt b (o + j * inS.length) (vals inS (rcd t.ins j))) := Lib.hid fun w' hb j hj => range_keep (hrow j hj) fun q hq => hb.block q (by rw [← hS]; exact hq)
  have KI : Hid (∀ w', V9 S w t h w' → w'.cell? ⟨S, 2, none⟩ = some (.slice (some ⟨b, o, none⟩) nI ci)) := Lib.hid fun w' v => by
    have := txk2 v.x
    rw [hA, hnI, hci] at this
    exact this
  have KK : Hid (∀ w', V9 S w t h w' → w'.cell? ⟨S, 0, none⟩ = some (.int .i64 2)) := Lib.hid fun w' v => by
    have := txk0 v.x
    rw [e3] at this
    exact this
  clear ht hm hk CC0 V0 DD0 e1 e2 e3 hrow hA hci hi hin hb18 hnI
  go_enter Tryz.func8, Tryz.ntmps8
  go_upto_region 1 with (fail)
  generalize (w.alloc (Obj.cells (txC t h).toArray 39)) = v at *
  clear hS
  go_upto_region 5 with (first
      | (refine wpList_load_midG (by rfl) 39 (.tmp 2) rfl S 0 rfl (txC t h) _ (range_of V.out.x) Tryz.underlying39 rfl HI.out ?_)
      | (go_at_call 9; refine (CC.out.aw _ V.out).mono ?_; rintro e w' ⟨rfl, hb⟩; have V := Lib.hid (V.out.step hb); clear hb)
      | (go_at_call 10; refine (CC.out.fx _ V.out).mono ?_; rintro e w' ⟨rfl, hb⟩; have V := Lib.hid (V.out.step hb); clear hb)
      | (go_at_call 16; refine (CC.out.mx rfl _ V.out).mono ?_; rintro e w' ⟨rfl, hb⟩; have V := Lib.hid (V.out.step hb); clear hb)
      | fail)
  go_upto_region 6 with (first
    | (refine wpList_load_midG (by rfl) 39 (.tmp 2) rfl S 0 rfl (txC t h) _ (range_of V.out.x) Tryz.underlying39 rfl HI.out ?_)
    | (go_at_call 11; refine (DD.out.en _ V.out).mono ?_; rintro e w1 ⟨⟨A, c, rfl, hr, hl, hn, hx⟩, hb⟩; have V := Lib.hid (V.out.step hb); have R1 := Lib.hid hr; have L1 := Lib.hid hl; have N1 := Lib.hid hn; have M1 := Lib.hid hx; clear hb hr hl hn hx)
    | fail)
  have hz := z29b
  go_upto_region 7 with (first
    | (refine wpList_load_midG (by rfl) 39 (.tmp 2) rfl S 0 rfl (txC t h) _ (range_of V.out.x) Tryz.underlying39 rfl HI.out ?_)
    | (go_at_call 13; refine (DD.out.id _ V.out).mono ?_; rintro e w2 ⟨rfl, hb⟩; have V := Lib.hid (V.out.step hb); have R2 := Lib.hid (row_keep R1.out hb.block); have XE : Hid (BL (w2.alloc (Obj.cells (bvals (zeros 8)).toArray 29)) w2.heap.size (bvals (zeros 8)) 29) := Lib.hid (heap_alloc_last w2 _); clear hb)
    | (refine wpList_store_rowTo rfl 29 (.tmp 7) (.tmp 36) rfl rfl w2.heap.size (bvals (hash1 120 (encT t))).toArray rfl rfl 29 (bvals (zeros 8)).toArray XE.out (szA i29 (bv8s (hash1_len _ _))) (by rw [List.size_toArray, List.size_toArray, bv8s (hash1_len _ _), bv8s (zeros_len 8)]) (all_oneCell_toArray (bv_one _)) ?_)
    | fail)
  have hb2 : Below w2.heap.size w2 ((w2.alloc (Obj.cells (bvals (zeros 8)).toArray 29)).setRow w2.heap.size (bvals (hash1 120 (encT t))).toArray) := below_setRow ((Below.refl _ w2).alloc (Nat.le_refl _) (Obj.cells (bvals (zeros 8)).toArray 29)) (Nat.le_refl _) (bvals (hash1 120 (encT t))).toArray
  have V := Lib.hid (V.out.step hb2)
  have R3 := Lib.hid (row_keep R2.out hb2.block)
  have XD : Hid (BL ((w2.alloc (Obj.cells (bvals (zeros 8)).toArray 29)).setRow w2.heap.size (bvals (hash1 120 (encT t))).toArray) w2.heap.size (bvals (hash1 120 (encT t))) 29) := Lib.hid (setRow_heap _ _ _ _ _ _ XE.out)
  clear hz hb2 XE R1 R2
  generalize w2.heap.size = D at *
  generalize ((w2.alloc (Obj.cells (bvals (zeros 8)).toArray 29)).setRow D (bvals (hash1 120 (encT t))).toArray) = w3 at *
  have HD : Hid ((hash1 120 (encT t)).length = 8) := hash1_len _ _
  obtain ⟨n, hn⟩ : ∃ n, (encT t).length = n := ⟨_, rfl⟩
  have HN := Lib.hid hn
  rw [hn]
  obtain ⟨N, hN⟩ : ∃ N, w3.heap.size = N := ⟨_, rfl⟩
  have WN := Lib.hid hN
  have DN : Hid (D < N) := by show _ < _; rw [← hN]; exact bl_lt XD.out
  have SZ : Hid (S + 1 ≤ N) := by show _ ≤ _; rw [← hN]; exact V.out.sz
  have hneq := fun w => neqS (hash1 120 (encT t)) HD.out w
  have DG : Hid (∀ w' : World, w'.heap = (w3.alloc (Obj.cells #[.slice A n c] 42)).heap → Calls Tryz.prog 28 #[.int .u8 120, .slice (some ⟨N, 0, none⟩) 1 1] w' fun e w'' => e = .returned (.agg (bvals (hash1 120 (encT t))).toArray) ∧ Below w'.heap.size w' w'') := Lib.hid fun w' hh => by
    have c0 : w'.cell? ⟨N, 0, none⟩ = some (.slice A n c) := by
      simp only [World.cell?, hh]
      rw [← hN]
      have := cell_of_one (heap_alloc_last w3 (Obj.cells #[.slice A n c] 42))
      simpa only [World.cell?] using this
    exact dOne 120 A n c 1 N (encT t) w' c0 ((src_row hn R3.out).keep fun q hq => by rw [hh]; exact Below.heap_alloc w3 _ q hq) (by rw [← hn]; exact L1.out) M1.out (by have := LE.out; omega) N1.out
  clear hn
  rename_i K7 hK7
  have XX : Hid (Below N w3 w3.drew) := (Below.refl _ _).drew
  refine wp_region_held_drew (S := (fun w' : World => ∀ q, q < N → w'.heap[q]? = w3.heap[q]?)) (by kernel_rfl) (by exact fun _ _ => rfl) (fun hHeld => ?_)
  refine wpAnyH_take (i := 0) (v := ?_) rfl (by kernel_rfl) (by kernel_rfl) (by kernel_rfl) (fun _ _ _ h => h) (Or.inl ⟨by rfl, ?_⟩) (by assumption) ?_
  rotate_left
  · (intro w hSw; (try dsimp only at hSw); go_simp; try with_reducible rfl)
  simp only [Act.put, List.getElem_toArray, List.getElem_cons_zero, List.setIfInBounds_toArray, List.set_cons_zero, List.set_cons_succ]
  refine wpAnyH_take (i := 1) (v := ?_) rfl (by kernel_rfl) (by kernel_rfl) (by kernel_rfl) (fun _ _ _ h => h) (Or.inl ⟨by rfl, ?_⟩) (by assumption) ?_
  rotate_left
  · (intro w hSw; (try dsimp only at hSw); go_simp; try with_reducible rfl)
  simp only [Act.put, List.getElem_toArray, List.getElem_cons_succ, List.getElem_cons_zero, List.setIfInBounds_toArray, List.set_cons_zero, List.set_cons_succ]
  refine wpAnyH_take (i := 2) (v := ?_) rfl (by kernel_rfl) (by kernel_rfl) (by kernel_rfl) (fun _ _ _ h => h) (Or.inl ⟨by rfl, ?_⟩) (by assumption) ?_
  rotate_left
  · (intro w hSw; (try dsimp only at hSw); go_simp; try with_reducible rfl)
  simp only [Act.put, List.getElem_toArray, List.getElem_cons_succ, List.getElem_cons_zero, List.setIfInBounds_toArray, List.set_cons_zero, List.set_cons_succ]
  refine wpAnyH_take (i := 3) (v := ?_) rfl (by kernel_rfl) (by kernel_rfl) (by kernel_rfl) (fun _ _ _ h => h) (Or.inl ⟨by rfl, ?_⟩) (by assumption) ?_
  rotate_left
  · (intro w hSw; (try dsimp only at hSw); go_simp; try with_reducible rfl)
  simp only [Act.put, List.getElem_toArray, List.getElem_cons_succ, List.getElem_cons_zero, List.setIfInBounds_toArray, List.set_cons_zero, List.set_cons_succ]
  refine wpAnyH_take (i := 4) (v := ?_) rfl (by kernel_rfl) (by kernel_rfl) (by kernel_rfl) (fun _ _ _ h => h) (Or.inl ⟨by rfl, ?_⟩) (by assumption) ?_
  rotate_left
  · (intro w hSw; (try dsimp only at hSw); go_simp; try with_reducible rfl)
  simp only [Act.put, List.getElem_toArray, List.getElem_cons_succ, List.getElem_cons_zero, List.setIfInBounds_toArray, List.set_cons_zero, List.set_cons_succ]
  refine wpAnyH_take (i := 5) (v := ?_) rfl (by kernel_rfl) (by kernel_rfl) (by kernel_rfl) (fun _ _ _ h => h) (Or.inl ⟨by rfl, ?_⟩) (by assumption) ?_
  rotate_left
  · (intro w hSw; (try dsimp only at hSw); go_simp; try with_reducible rfl)
  simp only [Act.put, List.getElem_toArray, List.getElem_cons_succ, List.getElem_cons_zero, List.setIfInBounds_toArray, List.set_cons_zero, List.set_cons_succ]
  refine wpAnyH_take (i := 6) (v := ?_) rfl (by kernel_rfl) (by kernel_rfl) (by kernel_rfl) (fun _ _ _ h => h) (Or.inl ⟨by rfl, ?_⟩) (by assumption) ?_
  rotate_left
  · (intro w hSw; (try dsimp only at hSw); go_simp; try with_reducible rfl)
  simp only [Act.put, List.getElem_toArray, List.getElem_cons_succ, List.getElem_cons_zero, List.setIfInBounds_toArray, List.set_cons_zero, List.set_cons_succ]
  refine wpAnyH_take (i := 7) rfl (by kernel_rfl) (by kernel_rfl) (by kernel_rfl) (fun _ _ _ h => h) (yieldsIf_load_mid (by rfl) 29 (.tmp 7) rfl (D) (0) rfl (bvals (hash1 120 (encT t))) _ (fun w h => range_keep1 (range_of XD.out) (h D DN.out)) Tryz.underlying29 rfl (szL i29 (bv8s HD.out))) (by assumption) ?_
  simp only [Act.put, List.getElem_toArray, List.getElem_cons_succ, List.getElem_cons_zero, List.setIfInBounds_toArray, List.set_cons_zero, List.set_cons_succ]
  refine wpAnyH_take (i := 8) (v := ?_) rfl (by kernel_rfl) (by kernel_rfl) (by kernel_rfl) (fun _ _ _ h => h) (Or.inl ⟨by rfl, ?_⟩) (by assumption) ?_
  rotate_left
  · (intro w hSw; (try dsimp only at hSw); go_simp; try with_reducible rfl)
  simp only [Act.put, List.getElem_toArray, List.getElem_cons_succ, List.getElem_cons_zero, List.setIfInBounds_toArray, List.set_cons_zero, List.set_cons_succ]
  refine wpAnyH_ready (rs := [9]) (by kernel_rfl) (by simp) ?_
  refine AllReadyH.cons rfl (fun K hK => ?_) AllReadyH.nil
  go_simp
  have XY : Hid (Below N w3 (w3.alloc (Obj.cells #[.slice A n c] 42)).drew) := ((Below.refl N w3).alloc (Nat.le_of_eq hN.symm) _).drew
  clear XX hHeld
  refine hK.out _ _ (by exact fun q hq => XY.out.block q hq) (fun hHeld => ?_)
  clear hK K
  have XX := XY
  clear XY
  refine wpAnyH_ready (rs := [10]) (by kernel_rfl) (by simp) ?_
  refine AllReadyH.cons rfl (fun K hK => ?_) AllReadyH.nil
  go_simp
  go_at_call 28
  refine (DG.out _ (by rfl)).mono ?_
  rintro e w4 ⟨rfl, hba⟩
  have XN : Hid (Below N w3 w4) := XX.out.trans (hba.mono (by have := XX.out.size; have := WN.out; omega))
  clear XX hba hHeld
  have XX := XN
  clear XN
  (try go_wp2_with fail)
  refine hK.out _ _ (by exact fun q hq => XX.out.block q hq) (fun hHeld => ?_)
  clear hK K
  refine wpAnyH_take (i := 11) (v := ?_) rfl (by kernel_rfl) (by kernel_rfl) (by kernel_rfl) (fun _ _ _ h => h) (Or.inl ⟨by rfl, ?_⟩) (by assumption) ?_
  rotate_left
  · (intro w hSw; (try dsimp only at hSw); go_simp; try with_reducible rfl)
  simp only [Act.put, List.getElem_toArray, List.getElem_cons_succ, List.getElem_cons_zero, List.setIfInBounds_toArray, List.set_cons_zero, List.set_cons_succ]
  refine wpAnyH_take (i := 12) (v := ?_) rfl (by kernel_rfl) (by kernel_rfl) (by kernel_rfl) (fun _ _ _ h => h) (Or.inl ⟨by rfl, ?_⟩) (by assumption) ?_
  rotate_left
  · (intro w hSw; (try dsimp only at hSw); go_simp; try with_reducible rfl)
  simp only [Act.put, List.getElem_toArray, List.getElem_cons_succ, List.getElem_cons_zero, List.setIfInBounds_toArray, List.set_cons_zero, List.set_cons_succ]
  refine wpAnyH_done (by kernel_rfl) ?_ _
  show K7 _ _
  refine hK7 _ _ ?_
  clear hK7 K7 hHeld hneq DG
  have V := Lib.hid (V.out.step (by rw [hN]; exact XX.out))
  clear XX XD R3 WN hN
  have k0 := KK.out _ V.out
  have k2 := KI.out _ V.out
  have m1 := G1.out
  have m2 := G2.out
  have m3 := G3.out
  have m5 := G5.out
  have m6 := G6.out
  go_upto_region 13 with fail
  clear k0 k2 m1 m2 m3 m5 m6 HD SZ DN
  obtain ⟨M, hM⟩ : ∃ M, w4.heap.size = M := ⟨_, rfl⟩
  have VN := V.out.new hM
  have XA : Hid (BL (w4.alloc (Obj.cells (txC tx0 hd0).toArray 39)) M (txC tx0 hd0) 39) := by rw [← hM]; exact heap_alloc_last w4 _
  have V5 := Lib.hid VN.1
  have XB := Lib.hid VN.2.1
  have SN := Lib.hid VN.2.2
  have HXL : Hid ((txC t h).length = 170) := txC_len h HT.out
  have H0L : Hid ((txC tx0 hd0).length = 170) := txC_len _ wf_tx0
  have X1 : Hid (∀ v ∈ txC t h, v.oneCell' = true) := txC_one t h
  clear VN
  have hz := z39
  go_upto_region 14 with (first
    | (refine wpList_load_midG (by rfl) 39 (.tmp 2) rfl S 0 rfl (txC t h) _ (range_of V.out.x) Tryz.underlying39 rfl HI.out ?_)
    | (refine wpList_store_rowTo rfl 39 (.tmp 12) (.tmp 67) rfl rfl M (txC t h).toArray rfl rfl 39 (txC tx0 hd0).toArray XA.out (szA i39 HXL.out) (by rw [List.size_toArray, List.size_toArray, HXL.out, H0L.out]) (all_oneCell_toArray X1.out) ?_)
    | fail)
  have V := V5
  generalize ((w4.alloc (Obj.cells (txC tx0 hd0).toArray 39)).setRow M (txC t h).toArray) = w5 at *
  clear hz hM XA V5 HXL H0L X1
  have k2 := KI.out _ (V.out.step ((Below.refl _ w5).alloc (Nat.le_refl _) (.cells #[] 63)))
  have R0 : Hid (w5.rangeAt b o (flat inS t.ins)) := Lib.hid (flat_rng HT.out.ins (HROW.out w5 V.out.bel))
  have L0 : Hid ((flat inS t.ins).length = nI * 298) := by show _ = _; rw [flat_len HT.out.ins, HNI.out, in298]
  have RA : Hid ((w5.alloc (.cells #[] 63)).rangeAt b o (flat inS t.ins)) := range_keep R0.out (Below.heap_alloc w5 _)
  have OW1 : Hid ((w5.alloc (.cells #[] 63)).ownsRow w5.heap.size 63 298 (.slice (some ⟨w5.heap.size, 0, none⟩) 0 0) 0 []) := ⟨rfl, .inr ⟨w5.heap.size, 0, #[], rfl, Nat.le_refl _, heap_alloc_last w5 _, Nat.le_refl _, by unfold maxLen; omega, rfl, rfl⟩⟩
  have O1 : Hid (∀ v ∈ flat inS t.ins, v.oneCell' = true) := flat_one _ _
  have MZ : Hid (M < w5.heap.size) := bl_lt XB.out
  go_upto_region 15 with (first
    | (refine wpList_bsI (by rfl) rfl ?_)
    | (refine wpList_apI rfl (.tmp 68) (.tmp 70) rfl w5.heap.size 0 (.slice (some ⟨w5.heap.size, 0, none⟩) 0 0) [] rfl OW1.out b o nI ci (flat inS t.ins) rfl L0.out RA.out O1.out (by have := G7.out; omega) (by simp) ?_; intro A3 c4 w6 hown hg; have OW := Lib.hid hown; have BG : Hid (Below w5.heap.size w5 w6) := Lib.hid ⟨hg.os, hg.tape, hg.output, (by have := hg.size; simp at this; omega), fun q hq => (hg.block q (by simp; omega) (by intro h; injection h with h; dsimp only at h; omega)).trans (Below.heap_alloc w5 _ q hq)⟩; have X6 : Hid (BL w6 M (txC t h) 39) := Lib.hid (bl_keep XB.out (BG.out.block M MZ.out)); have k6 := txk2 X6.out; have f6 : w6.frozen? ⟨M, 2, none⟩ = false := bl_free X6.out 2; clear hown hg)
    | fail)
  have h2 := OW.out
  rw [Nat.zero_add, List.nil_append] at h2
  obtain ⟨gb, pad, rfl, h3⟩ := ownI_of h2 (by have := G7.out; omega) HNI.out
  have OI := Lib.hid h3
  have GM : Hid (M + 1 ≤ gb) := by have := OI.out.ge; have := MZ.out; show _ ≤ _; omega
  clear h2 h3 k2 k6 f6 OW OW1 RA R0 L0 O1
  have V := Lib.hid ((V.out.step BG.out).set SN.out 2 (.slice (some ⟨gb, 0, none⟩) nI c4))
  have Y0 : Hid (BL (w6.setCell ⟨M, 2, none⟩ (.slice (some ⟨gb, 0, none⟩) nI c4)) M (txC t (inAt h gb c4)) 39) := Lib.hid (inAt_bl X6.out HNI.out)
  have Y2 : Hid (BL (w6.setCell ⟨M, 2, none⟩ (.slice (some ⟨gb, 0, none⟩) nI c4)) gb (flat inS t.ins ++ pad) 63) := Lib.hid (bl_keep OI.out.bl (heap_setCell_other _ _ _ _ (show gb ≠ M by have := GM.out; omega)))
  have LC : Hid (nI ≤ c4 ∧ c4 ≤ maxLen) := Lib.hid ⟨OI.out.le, OI.out.mx⟩
  clear OI X6 XB BG
  generalize (w6.setCell ⟨M, 2, none⟩ (.slice (some ⟨gb, 0, none⟩) nI c4)) = w7 at *
  have k5 : w7.cell? ⟨M, 2, none⟩ = some (.slice (some ⟨gb, 0, none⟩) nI c4) := by
    have := txk2 Y0.out
    rw [HNI.out] at this
    exact this
  go_wp2
  go_loopw [13] (fun iv wr => ∃ k : Nat, k ≤ nI ∧ iv = .int .i64 k ∧ LB w7 t gb pad k wr) (fun iv _ => nI - (intOf iv).toNat)
  case atStart => exact ⟨0, Nat.zero_le _, rfl, Below.refl _ _, by rw [blk_none]; exact Y2.out⟩
  case round =>
    obtain ⟨k, hk, rfl, hL⟩ := hrel
    have HL := Lib.hid hL
    clear hL
    have k6 : wr.cell? ⟨M, 2, none⟩ = some (.slice (some ⟨gb, 0, none⟩) nI c4) := by rw [← k5]; simp only [World.cell?, HL.out.bel.block M (by have := GM.out; omega)]
    clear k5
    by_cases hlt : k < nI
    · have s0 : (0 : Int) ≤ (k : Int) := by omega
      have s1 : (k : Int) < (nI : Int) := by omega
      have hlt2 : Hid (k < t.ins.length) := by show _ < _; rw [HNI.out]; exact hlt
      have TH : Hid (wr.there gb (k * 298 + 17) zsig.toArray.size) := Lib.hid (bl_there HL.out.r (by rw [List.size_toArray]; exact lb_room HT.out.ins hlt2.out))
      go_wp2_with (first
        | (refine wpList_bld (by rfl) 58 _ rfl b58 ?_)
        | (refine wpList_store_mid rfl 58 (.tmp 85) (.tmp 83) rfl gb (k * 298 + 17) zsig.toArray rfl rfl TH.out (by rw [List.size_toArray, zsgl281]; exact i58) (all_oneCell_toArray zsig_one) ?_)
        | fail)
      have M1 := Lib.hid (HL.out.next HT.out.ins hlt2.out)
      have hw : wrap64 ((k : Int) + 1) = (k : Int) + 1 := by have := G7.out; unfold wrap64; omega
      go_roundw
      case rel => exact ⟨k + 1, by omega, by simp [hw], M1.out⟩
      case measure => rw [hw]; simp [intOf]; omega
    · have hkn : k = nI := by omega
      have s1 : ¬ (k : Int) < (nI : Int) := by omega
      have R9 : Hid (BL wr gb (flat inS (t.ins.map blank) ++ pad) 63) := Lib.hid (by have := HL.out.r; rw [hkn, ← HNI.out, blk_all] at this; exact this)
      have X9 : Hid (BL wr M (txC (blankT t) (inAt h gb c4)) 39) := Lib.hid (by rw [inAt_bk]; exact bl_keep Y0.out (HL.out.bel.block M (by have := GM.out; omega)))
      have V := Lib.hid (V.out.from (by have := GM.out; have := SN.out; omega) HL.out.bel)
      have M9 : Hid (Mem wr (blankT t) (inAt h gb c4)) := Lib.hid (inAt_mem HM.out HT.out (fun q hq => V.out.bel.block q (by rw [← HS.out]; exact hq)) R9.out (by rw [HNI.out]; exact LC.out.1) LC.out.2)
      have W9 : Hid (WfT (blankT t)) := Lib.hid (blank_wf HT.out)
      have H9 : Hid (mayT (blankT t) = true) := Lib.hid (blank_may HT.out HMAY.out HE3.out)
      have I9 := Lib.hid (szL i39 (txC_len (inAt h gb c4) W9.out))
      have CEB := Lib.hid (tEncY (blankT t) (inAt h gb c4) wr W9.out M9.out H9.out)
      have LE := Lib.hid (enc_le W9.out H9.out)
      clear HL Y0 Y2 R9 M9 hk hkn hlt
      go_upto_region 20 with (first
        | (refine wpList_load_midG (by rfl) 39 (.tmp 12) rfl M 0 rfl (txC (blankT t) (inAt h gb c4)) _ (range_of X9.out) Tryz.underlying39 rfl I9.out ?_)
        | (go_at_call 11; refine CEB.out.mono ?_; rintro e w8 ⟨⟨A2, c3, rfl, hr, hl, hn, hx⟩, hb⟩; have V := Lib.hid (V.out.step hb); have R1 := Lib.hid hr; have L1 := Lib.hid hl; have N1 := Lib.hid hn; have M1 := Lib.hid hx; clear hb hr hl hn hx)
        | fail)
      clear k6 s1
      have hz := z29b
      go_upto_region 21 with (first
        | (refine wpList_load_midG (by rfl) 39 (.tmp 2) rfl S 0 rfl (txC t h) _ (range_of V.out.x) Tryz.underlying39 rfl HI.out ?_)
        | (go_at_call 22; refine (DD.out.my HE3.out i (by rw [HNI.out]; exact GI.out) _ V.out).mono ?_; rintro e w9 ⟨rfl, hb⟩; have V := Lib.hid (V.out.step hb); have R2 := Lib.hid (row_keep R1.out hb.block); have XE : Hid (BL (w9.alloc (Obj.cells (bvals (zeros 8)).toArray 29)) w9.heap.size (bvals (zeros 8)) 29) := Lib.hid (heap_alloc_last w9 _); clear hb)
        | (refine wpList_store_rowTo rfl 29 (.tmp 16) (.tmp 95) rfl rfl w9.heap.size (bvals (hash2 105 (encT (blankT t)) [(i : Int)])).toArray rfl rfl 29 (bvals (zeros 8)).toArray XE.out (szA i29 (bv8s (hash2_len _ _ _))) (by rw [List.size_toArray, List.size_toArray, bv8s (hash2_len _ _ _), bv8s (zeros_len 8)]) (all_oneCell_toArray (bv_one _)) ?_)
        | fail)
      have hb2 : Below w9.heap.size w9 ((w9.alloc (Obj.cells (bvals (zeros 8)).toArray 29)).setRow w9.heap.size (bvals (hash2 105 (encT (blankT t)) [(i : Int)])).toArray) := below_setRow ((Below.refl _ w9).alloc (Nat.le_refl _) (Obj.cells (bvals (zeros 8)).toArray 29)) (Nat.le_refl _) (bvals (hash2 105 (encT (blankT t)) [(i : Int)])).toArray
      have V := Lib.hid (V.out.step hb2)
      have R3 := Lib.hid (row_keep R2.out hb2.block)
      have XD : Hid (BL ((w9.alloc (Obj.cells (bvals (zeros 8)).toArray 29)).setRow w9.heap.size (bvals (hash2 105 (encT (blankT t)) [(i : Int)])).toArray) w9.heap.size (bvals (hash2 105 (encT (blankT t)) [(i : Int)])) 29) := Lib.hid (setRow_heap _ _ _ _ _ _ XE.out)
      clear hz hb2 XE R1 R2 X9 CEB
      generalize w9.heap.size = D2 at *
      generalize ((w9.alloc (Obj.cells (bvals (zeros 8)).toArray 29)).setRow D2 (bvals (hash2 105 (encT (blankT t)) [(i : Int)])).toArray) = w10 at *
      have HD : Hid ((hash2 105 (encT (blankT t)) [(i : Int)]).length = 8) := hash2_len _ _ _
      obtain ⟨n2, hn⟩ : ∃ n, (encT (blankT t)).length = n := ⟨_, rfl⟩
      rw [hn]
      obtain ⟨N, hN⟩ : ∃ N, w10.heap.size = N := ⟨_, rfl⟩
      have WN := Lib.hid hN
      have DN : Hid (D2 < N) := by show _ < _; rw [← hN]; exact bl_lt XD.out
      have SZ : Hid (S + 1 ≤ N) := by show _ ≤ _; rw [← hN]; exact V.out.sz
      have heql := fun w => eqlS (hash2 105 (encT (blankT t)) [(i : Int)]) HD.out w
      have m4 := G4.out
      have DG : Hid (∀ w' : World, w'.heap = ((w10.alloc (Obj.cells #[.int .u8 (i : Int)] 5)).alloc (Obj.cells #[.slice A2 n2 c3, .slice (some ⟨N, 0, none⟩) 1 1] 42)).heap → Calls Tryz.prog 28 #[.int .u8 105, .slice (some ⟨N + 1, 0, none⟩) 2 2] w' fun e w'' => e = .returned (.agg (bvals (hash2 105 (encT (blankT t)) [(i : Int)])).toArray) ∧ Below w'.heap.size w' w'') := Lib.hid fun w' hh => by
        have hz1 : (w10.alloc (Obj.cells #[.int .u8 (i : Int)] 5)).heap.size = N + 1 := by rw [World.size_alloc, hN]
        have hl := heap_alloc_last (w10.alloc (Obj.cells #[.int .u8 (i : Int)] 5)) (Obj.cells #[.slice A2 n2 c3, .slice (some ⟨N, 0, none⟩) 1 1] 42)
        rw [hz1, ← hh] at hl
        have hl1 := heap_alloc_last w10 (Obj.cells #[.int .u8 (i : Int)] 5)
        have hl2 : w'.heap[N]? = some (Obj.cells #[.int .u8 (i : Int)] 5 (0, 0)) := by rw [hh, Below.heap_alloc _ _ N (by rw [hz1]; omega), ← hN]; exact hl1
        have kb : ∀ q, q < w10.heap.size → w'.heap[q]? = w10.heap[q]? := fun q hq => by rw [hh, Below.heap_alloc _ _ q (by rw [hz1]; omega), Below.heap_alloc _ _ q hq]
        have c0 := cell_of_row w' (N + 1) 0 _ 42 (0, 0) hl
        have c1 := cell_of_row w' (N + 1) 1 _ 42 (0, 0) hl
        have c2 := cell_of_row w' N 0 _ 5 (0, 0) hl2
        exact dTwo 105 A2 (some ⟨N, 0, none⟩) n2 c3 1 1 2 (N + 1) (encT (blankT t)) [(i : Int)] w' (c0.trans rfl) ((src_row hn R3.out).keep kb) (by rw [← hn]; exact L1.out) M1.out (by have := LE.out; omega) N1.out (c1.trans rfl) ⟨rfl, .inr ⟨N, 0, rfl, fun j hj => by
          obtain rfl : j = 0 := by omega
          exact c2.trans rfl⟩⟩ (Nat.le_refl _) (by decide) (by decide) (fun h => by cases h)
      clear hn
      rename_i K7 hK7
      have XX : Hid (Below N w10 w10.drew) := (Below.refl _ _).drew
      refine wp_region_held_drew (S := (fun w' : World => ∀ q, q < N → w'.heap[q]? = w10.heap[q]?)) (by kernel_rfl) (by exact fun _ _ => rfl) (fun hHeld => ?_)
      refine wpAnyH_take (i := 0) (v := ?_) rfl (by kernel_rfl) (by kernel_rfl) (by kernel_rfl) (fun _ _ _ h => h) (Or.inl ⟨by rfl, ?_⟩) (by assumption) ?_
      rotate_left
      · (intro w hSw; (try dsimp only at hSw); go_simp; try with_reducible rfl)
      simp only [Act.put, List.getElem_toArray, List.getElem_cons_zero, List.setIfInBounds_toArray, List.set_cons_zero, List.set_cons_succ]
      refine wpAnyH_take (i := 1) (v := ?_) rfl (by kernel_rfl) (by kernel_rfl) (by kernel_rfl) (fun _ _ _ h => h) (Or.inl ⟨by rfl, ?_⟩) (by assumption) ?_
      rotate_left
      · (intro w hSw; (try dsimp only at hSw); go_simp; try with_reducible rfl)
      simp only [Act.put, List.getElem_toArray, List.getElem_cons_succ, List.getElem_cons_zero, List.setIfInBounds_toArray, List.set_cons_zero, List.set_cons_succ]
      refine wpAnyH_take (i := 2) (v := ?_) rfl (by kernel_rfl) (by kernel_rfl) (by kernel_rfl) (fun _ _ _ h => h) (Or.inl ⟨by rfl, ?_⟩) (by assumption) ?_
      rotate_left
      · (intro w hSw; (try dsimp only at hSw); go_simp; try with_reducible rfl)
      simp only [Act.put, List.getElem_toArray, List.getElem_cons_succ, List.getElem_cons_zero, List.setIfInBounds_toArray, List.set_cons_zero, List.set_cons_succ]
      refine wpAnyH_take (i := 3) (v := ?_) rfl (by kernel_rfl) (by kernel_rfl) (by kernel_rfl) (fun _ _ _ h => h) (Or.inl ⟨by rfl, ?_⟩) (by assumption) ?_
      rotate_left
      · (intro w hSw; (try dsimp only at hSw); go_simp; try with_reducible rfl)
      simp only [Act.put, List.getElem_toArray, List.getElem_cons_succ, List.getElem_cons_zero, List.setIfInBounds_toArray, List.set_cons_zero, List.set_cons_succ]
      refine wpAnyH_take (i := 4) (v := ?_) rfl (by kernel_rfl) (by kernel_rfl) (by kernel_rfl) (fun _ _ _ h => h) (Or.inl ⟨by rfl, ?_⟩) (by assumption) ?_
      rotate_left
      · (intro w hSw; (try dsimp only at hSw); go_simp; try with_reducible rfl)
      simp only [Act.put, List.getElem_toArray, List.getElem_cons_succ, List.getElem_cons_zero, List.setIfInBounds_toArray, List.set_cons_zero, List.set_cons_succ]
      refine wpAnyH_take (i := 5) (v := ?_) rfl (by kernel_rfl) (by kernel_rfl) (by kernel_rfl) (fun _ _ _ h => h) (Or.inl ⟨by rfl, ?_⟩) (by assumption) ?_
      rotate_left
      · (intro w hSw; (try dsimp only at hSw); go_simp; try with_reducible rfl)
      simp only [Act.put, List.getElem_toArray, List.getElem_cons_succ, List.getElem_cons_zero, List.setIfInBounds_toArray, List.set_cons_zero, List.set_cons_succ]
      refine wpAnyH_take (i := 6) rfl (by kernel_rfl) (by kernel_rfl) (by kernel_rfl) (fun _ _ _ h => h) (yieldsIf_load_mid (by rfl) 29 (.tmp 16) rfl (D2) (0) rfl (bvals (hash2 105 (encT (blankT t)) [(i : Int)])) _ (fun w h => range_keep1 (range_of XD.out) (h D2 DN.out)) Tryz.underlying29 rfl (szL i29 (bv8s HD.out))) (by assumption) ?_
      simp only [Act.put, List.getElem_toArray, List.getElem_cons_succ, List.getElem_cons_zero, List.setIfInBounds_toArray, List.set_cons_zero, List.set_cons_succ]
      refine wpAnyH_take (i := 7) (v := ?_) rfl (by kernel_rfl) (by kernel_rfl) (by kernel_rfl) (fun _ _ _ h => h) (Or.inl ⟨by rfl, ?_⟩) (by assumption) ?_
      rotate_left
      · (intro w hSw; (try dsimp only at hSw); go_simp; try with_reducible rfl)
      simp only [Act.put, List.getElem_toArray, List.getElem_cons_succ, List.getElem_cons_zero, List.setIfInBounds_toArray, List.set_cons_zero, List.set_cons_succ]
      refine wpAnyH_take (i := 8) (v := ?_) rfl (by kernel_rfl) (by kernel_rfl) (by kernel_rfl) (fun _ _ _ h => h) (Or.inl ⟨by rfl, ?_⟩) (by assumption) ?_
      rotate_left
      · (intro w hSw; (try dsimp only at hSw); go_simp; try with_reducible rfl)
      simp only [Act.put, List.getElem_toArray, List.getElem_cons_succ, List.getElem_cons_zero, List.setIfInBounds_toArray, List.set_cons_zero, List.set_cons_succ]
      refine wpAnyH_take (i := 9) (v := ?_) rfl (by kernel_rfl) (by kernel_rfl) (by kernel_rfl) (fun _ _ _ h => h) (Or.inl ⟨by rfl, ?_⟩) (by assumption) ?_
      rotate_left
      · (intro w hSw; (try dsimp only at hSw); go_simp; try with_reducible rfl)
      simp only [Act.put, List.getElem_toArray, List.getElem_cons_succ, List.getElem_cons_zero, List.setIfInBounds_toArray, List.set_cons_zero, List.set_cons_succ]
      refine wpAnyH_ready (rs := [10]) (by kernel_rfl) (by simp) ?_
      refine AllReadyH.cons rfl (fun K hK => ?_) AllReadyH.nil
      go_simp
      have XY : Hid (Below N w10 (w10.alloc (Obj.cells #[.int .u8 (i : Int)] 5)).drew) := ((Below.refl N w10).alloc (Nat.le_of_eq hN.symm) _).drew
      clear XX hHeld
      refine hK.out _ _ (by exact fun q hq => XY.out.block q hq) (fun hHeld => ?_)
      clear hK K
      refine wpAnyH_ready (rs := [11]) (by kernel_rfl) (by simp) ?_
      refine AllReadyH.cons rfl (fun K hK => ?_) AllReadyH.nil
      go_simp
      have XX : Hid (Below N w10 ((w10.alloc (Obj.cells #[.int .u8 (i : Int)] 5)).alloc (Obj.cells #[.slice A2 n2 c3, .slice (some ⟨N, 0, none⟩) 1 1] 42)).drew) := (((Below.refl N w10).alloc (Nat.le_of_eq hN.symm) _).alloc (by rw [World.size_alloc, hN]; omega) _).drew
      clear XY hHeld
      refine hK.out _ _ (by exact fun q hq => XX.out.block q hq) (fun hHeld => ?_)
      clear hK K
      refine wpAnyH_ready (rs := [12]) (by kernel_rfl) (by simp) ?_
      refine AllReadyH.cons rfl (fun K hK => ?_) AllReadyH.nil
      go_simp
      go_at_call 28
      refine (DG.out _ (by rfl)).mono ?_
      rintro e w11 ⟨rfl, hba⟩
      have XN : Hid (Below N w10 w11) := XX.out.trans (hba.mono (by have := XX.out.size; have := WN.out; omega))
      clear XX hba hHeld
      have XX := XN
      clear XN
      (try go_wp2_with fail)
      refine hK.out _ _ (by exact fun q hq => XX.out.block q hq) (fun hHeld => ?_)
      clear hK K
      refine wpAnyH_take (i := 13) (v := ?_) rfl (by kernel_rfl) (by kernel_rfl) (by kernel_rfl) (fun _ _ _ h => h) (Or.inl ⟨by rfl, ?_⟩) (by assumption) ?_
      rotate_left
      · (intro w hSw; (try dsimp only at hSw); go_simp; try with_reducible rfl)
      simp only [Act.put, List.getElem_toArray, List.getElem_cons_succ, List.getElem_cons_zero, List.setIfInBounds_toArray, List.set_cons_zero, List.set_cons_succ]
      refine wpAnyH_take (i := 14) (v := ?_) rfl (by kernel_rfl) (by kernel_rfl) (by kernel_rfl) (fun _ _ _ h => h) (Or.inl ⟨by rfl, ?_⟩) (by assumption) ?_
      rotate_left
      · (intro w hSw; (try dsimp only at hSw); go_simp; try with_reducible rfl)
      simp only [Act.put, List.getElem_toArray, List.getElem_cons_succ, List.getElem_cons_zero, List.setIfInBounds_toArray, List.set_cons_zero, List.set_cons_succ]
      refine wpAnyH_take (i := 15) (v := ?_) rfl (by kernel_rfl) (by kernel_rfl) (by kernel_rfl) (fun _ _ _ h => h) (Or.inl ⟨by rfl, ?_⟩) (by assumption) ?_
      rotate_left
      · (intro w hSw; (try dsimp only at hSw); go_simp; try with_reducible rfl)
      simp only [Act.put, List.getElem_toArray, List.getElem_cons_succ, List.getElem_cons_zero, List.setIfInBounds_toArray, List.set_cons_zero, List.set_cons_succ]
      refine wpAnyH_done (by kernel_rfl) ?_ _
      show K7 _ _
      refine hK7 _ _ ?_
      clear hK7 K7 hHeld heql DG
      have V := Lib.hid (V.out.step (by rw [hN]; exact XX.out))
      clear XX XD R3 WN hN
      go_wp2
      go_ret
      exact ⟨rfl, by rw [HS.out]; exact V.out.bel⟩
end Go.Proofs.YtffaddefnpkcgaaGreatDoor

namespace Go.Proofs.YtffaddefnpkcgaaGreatDoor
open Go.RowKit
theorem q8 (t : TxP) (h : TxH) (u : Int) (w : World) (ht : WfT t) (hm : Mem w t h) (hk : Keys w) (hu : 0 ≤ u ∧ u ≤ 255) :
    Calls Tryz.prog 8 #[.agg (txC t h).toArray, .int .u8 u] w fun e w' => e = .returned (.bool true) ∧ Below w.heap.size w w' := by
  cases e1 : fewB t
  · exact n8_0 t h u w ht hm hk e1
  cases e2 : mayT t
  · exact n8_1 t h u w ht hm hk e1 e2
  by_cases e3 : t.kind = 2
  · obtain ⟨ub, rfl⟩ := Int.eq_ofNat_of_zero_le hu.1
    exact n8_3 t h ub w ht hm hk e1 e2 e3 (by omega)
  · exact n8_2 t h u w ht hm hk e1 e2 e3
end Go.Proofs.YtffaddefnpkcgaaGreatDoor
