/-
  The walk of SparsePuts.
-/
import Derived.Test.YtgagcblddcibkaaDoorS33
namespace Go.Proofs.YtgagcblddcibkaaDoor
open Go.RowKit
open Go.Maps
/-- both proofs, at any place -/
theorem prfs (B T N : Nat) (ms : Nat → Option Nat) (M : Nat) (A1 A2 : Option Addr) (n c1 c2 : Nat) (L : List (Int × List Int)) (i : Int) (w0 : World) (hG : Good L) (hn : n ≤ 1000) (hT : ∀ w, Below w0.heap.size w0 w → Tr w B T ms (nd (lk L)) N) (hK : ∀ w, Below w0.heap.size w0 w → Keys w) (hL : ∀ w, Below w0.heap.size w0 w → LR w M A1 A2 n c1 c2 L) :
    ∃ (y : List Int) (v : Bool), y.length = 128 ∧ (∀ w, Below w0.heap.size w0 w → Calls Tryd.prog 10 #[.pointer (some ⟨T, 0, none⟩), .int .i64 i] w fun e w' => e = .returned (.tuple #[.agg (ba y), .bool v]) ∧ Below w.heap.size w w') ∧ (∀ w, Below w0.heap.size w0 w → Calls Tryd.prog 11 #[.pointer (some ⟨M, 0, none⟩), .int .i64 i] w fun e w' => e = .returned (.tuple #[.agg (ba y), .bool v]) ∧ Below w.heap.size w w') := by
  by_cases h : 0 ≤ i ∧ i < 65536
  · obtain ⟨q, rfl⟩ := Int.eq_ofNat_of_zero_le h.1
    have hq : q < 65536 := by omega
    have h8 : ∀ p ∈ L, p.2.length = 8 := fun p hp => (hG.all p hp).1
    exact ⟨prfL (lk L) q 16, true, prfL_len (lk L) q (fun s _ => nd_lk_len h8 _ _) 16 (Nat.le_refl _), fun w hb => (p10 B T N q ms (lk L) w (hT w hb) hq).mono fun _ _ h => ⟨h.1, h.2.2⟩, fun w hb => (r11 M A1 A2 n c1 c2 L q w hG hn (hK w hb) (hL w hb) hq).mono fun _ _ h => ⟨h.1, h.2.2⟩⟩
  · exact ⟨zeros 128, false, rfl, fun w _ => p10no T i w h, fun w _ => r11no M i w h⟩
attribute [local irreducible] ua da ba kk sw S8.run rt hs comp splice outB sha msg twoM twoN ab MapIs mrow nd upF at8 prfL zip8 bvals ivals putA fillL inr sib inR
set_option maxRecDepth 100000 in
set_option maxHeartbeats 1600000 in
theorem q3 (A : Option Addr) (n cap : Nat) (P : Nat → Int × List Int) (at' : Int) (w : World) (hk : Keys w) (hP : Dds w A n P) (hcap : n ≤ cap) (hw : wf64 at') :
    Calls Tryd.prog 3 #[.slice A n cap, .int .i64 at'] w fun e w' => e = .returned (.bool true) ∧ Below w.heap.size w w' := by
  have zz4 := z30
  have zz5 := z27
  have HK := Lib.hid hk
  have HPOS : Hid (0 < w.heap.size) := keys_pos hk
  have HD := Lib.hid hP
  have HWF : Hid ((Lit.int .i64 at').wf = true) := hw
  have C8 := Lib.hid (p8 w hk)
  by_cases hbig : 60 < n
  · have q1 : (60 : Int) < (n : Int) := by omega
    clear hbig hk hP hcap hw
    go_enter Tryd.func3, Tryd.ntmps3
    go_wp2_with (go_at_call 8; refine C8.out.mono ?_; rintro e w1 ⟨rfl, hb1⟩; have B1 := Lib.hid hb1; clear hb1)
    go_ret
    exact ⟨rfl, B1.out⟩
  · have q1 : ¬ (60 : Int) < (n : Int) := by omega
    have HN : Hid (n ≤ 60) := by show _ ≤ _; omega
    have HCAP := Lib.hid hcap
    clear hbig hk hP hcap hw
    go_enter Tryd.func3, Tryd.ntmps3
    go_wp2_with (go_at_call 8; refine C8.out.mono ?_; rintro e w1 ⟨rfl, hb1⟩; have B1 := Lib.hid hb1; clear hb1)
    have K1 : Hid (Keys w1) := keys_below HK.out B1.out HPOS.out
    have P1 : Hid (0 < w1.heap.size) := Nat.lt_of_lt_of_le HPOS.out B1.out.size
    have C9 := Lib.hid (p9 A n cap P w1 K1.out (HD.out.keep B1.out.block) HN.out HCAP.out)
    refine C9.out.mono ?_
    rintro e w2 ⟨T, M, ms, a, b, rfl, hbo⟩
    have HG : Hid (Good (fillL P n)) := fillL_good HD.out.len n (Nat.le_refl n)
    have HLL : Hid ((fillL P n).length ≤ 60) := Nat.le_trans (fillL_length P n) HN.out
    obtain ⟨L, hL⟩ : ∃ L, fillL P n = L := ⟨_, rfl⟩
    rw [hL] at hbo HG HLL
    obtain ⟨A1, A2, d1, d2, rfl, rfl, hlr⟩ := hbo.lv.read
    have T2 := Lib.hid hbo.tr
    have R2 := Lib.hid hlr
    have B2 : Hid (Below w.heap.size w w2) := B1.out.trans (hbo.bel.mono B1.out.size)
    have KW : Hid (∀ w', Below w2.heap.size w2 w' → Keys w') := fun w' hb => keys_below HK.out (B2.out.trans (hb.mono B2.out.size)) HPOS.out
    have TF : Hid (∀ w', Below w2.heap.size w2 w' → Tr w' w1.heap.size T ms (nd (lk L)) (17 * n)) := fun w' hb => T2.out.grow hb
    have RF : Hid (∀ w', Below w2.heap.size w2 w' → LR w' M A1 A2 L.length d1 d2 L) := fun w' hb => R2.out.grow hb
    obtain ⟨N, hN⟩ : ∃ N, L.length = N := ⟨_, rfl⟩
    have HNL := Lib.hid hN
    rw [hN] at RF HLL
    have HN1 : Hid (N ≤ 1000) := Nat.le_trans HLL.out (by omega)
    have H8 : Hid (∀ p ∈ L, p.2.length = 8) := fun p hp => (HG.out.all p hp).1
    obtain ⟨y, v, hy, h10, h11⟩ := prfs w1.heap.size T (17 * n) ms M A1 A2 N d1 d2 L at' w2 HG.out HN1.out TF.out KW.out RF.out
    have LY := Lib.hid hy
    have E10 := Lib.hid h10
    have E11 := Lib.hid h11
    have E12 : Hid (∀ w', Below w2.heap.size w2 w' → Calls Tryd.prog 12 #[.pointer (some ⟨T, 0, none⟩)] w' fun e w'' => e = .returned (.agg (ba (nd (lk L) 16 0))) ∧ Below w'.heap.size w' w'') := fun w' hb => p12 w1.heap.size T (17 * n) ms (lk L) w' (TF.out w' hb)
    have E13 : Hid (∀ w', Below w2.heap.size w2 w' → Calls Tryd.prog 13 #[.pointer (some ⟨M, 0, none⟩)] w' fun e w'' => e = .returned (.agg (ba (nd (lk L) 16 0))) ∧ Below w'.heap.size w' w'') := fun w' hb => r13 M A1 A2 N d1 d2 L w' HG.out HN1.out (KW.out w' hb) (RF.out w' hb)
    have E14 : Hid (∀ w', Below w2.heap.size w2 w' → Calls Tryd.prog 14 #[.pointer (some ⟨T, 0, none⟩), .int .i64 at'] w' fun e w'' => e = .returned (.agg (ba (lk L at'))) ∧ Below w'.heap.size w' w'') := fun w' hb => p14 w1.heap.size T (17 * n) at' ms (lk L) w' (TF.out w' hb) HWF.out
    have E15 : Hid (∀ w', Below w2.heap.size w2 w' → Calls Tryd.prog 15 #[.pointer (some ⟨M, 0, none⟩), .int .i64 at'] w' fun e w'' => e = .returned (.agg (ba (lk L at'))) ∧ Below w'.heap.size w' w'') := fun w' hb => r15 M A1 A2 N d1 d2 L at' w' (RF.out w' hb) H8.out HN1.out
    have E16 : Hid (∀ w', Below w2.heap.size w2 w' → Calls Tryd.prog 16 #[.pointer (some ⟨T, 0, none⟩)] w' fun e w'' => e = .returned (.int .i64 N) ∧ Below w'.heap.size w' w'') := fun w' hb => by
      have := p16 w1.heap.size T (17 * n) ms (lk L) (L.map Prod.fst) w' (TF.out w' hb) HG.out.nodup HG.out.ks
      rw [List.length_map, HNL.out] at this
      exact this.mono fun e w'' h => ⟨h.1, by rw [h.2]; exact Below.refl _ _⟩
    have e1 := fun w => eq29 (nd (lk L) 16 0) w (nd_lk_len H8.out _ _)
    have e2 := fun w => eq29 (lk L at') w (lk_len H8.out _)
    have e3 := fun w => eq30 y w hy
    have BF : Hid (∀ w', Below w2.heap.size w2 w' → Below w.heap.size w w') := fun w' hb => B2.out.trans (hb.mono B2.out.size)
    generalize nd (lk L) 16 0 = rt at *
    generalize lk L at' = gt at *
    clear hbo hlr hL hN C9 C8 K1 HD hy h10 h11 T2 R2 B2
    have X2 : Hid (Below w2.heap.size w2 w2) := Below.refl _ _
    go_wp2_with fail
    refine (E10.out w2 X2.out).mono ?_
    rintro e w3 ⟨rfl, hb3⟩
    obtain ⟨V, hV⟩ : ∃ V, w3.heap.size = V := ⟨_, rfl⟩
    have V0 : Hid (BA (w3.alloc (Obj.cells (ba (zeros 128)) 30)) V 30 (zeros 128)) := by show _ = _; rw [← hV]; exact heap_alloc_last w3 _
    have WV : Hid (w2.heap.size ≤ V) := by show _ ≤ _; rw [← hV]; exact hb3.size
    have XA : Hid (Below w2.heap.size w2 (w3.alloc (Obj.cells (ba (zeros 128)) 30))) := hb3.alloc hb3.size _
    clear hb3
    go_wp2_with (refine wpList_store_rowTo rfl 30 (.tmp 8) (.tmp 29) rfl rfl V (ba y) rfl rfl 30 (ba (zeros 128)) V0.out (sz s30 (by rw [ba_size, LY.out])) (by rw [ba_size, ba_size, LY.out, zeros_len]) (ba_one _) ?_)
    have V1 : Hid (BA ((w3.alloc (Obj.cells (ba (zeros 128)) 30)).setRow V (ba y)) V 30 y) := setRow_heap _ _ _ _ _ _ V0.out
    have XB : Hid (Below w2.heap.size w2 ((w3.alloc (Obj.cells (ba (zeros 128)) 30)).setRow V (ba y))) := below_setRow XA.out WV.out _
    clear V0 hV XA
    generalize (w3.alloc (Obj.cells (ba (zeros 128)) 30)).setRow V (ba y) = w4 at *
    go_wp2_with fail
    refine (E11.out w4 XB.out).mono ?_
    rintro e w5 ⟨rfl, hb5⟩
    obtain ⟨Z, hZ⟩ : ∃ Z, w5.heap.size = Z := ⟨_, rfl⟩
    have XC : Hid (Below w2.heap.size w2 w5) := XB.out.trans (hb5.mono XB.out.size)
    have V2 : Hid (BA w5 V 30 y) := (hb5.block V (lt_of_block V1.out)).trans V1.out
    have VZ : Hid (V < Z) := by show _ < _; rw [← hZ]; exact lt_of_block V2.out
    have Z0 : Hid (BA (w5.alloc (Obj.cells (ba (zeros 128)) 30)) Z 30 (zeros 128)) := by show _ = _; rw [← hZ]; exact heap_alloc_last w5 _
    have WZ : Hid (w2.heap.size ≤ Z) := by show _ ≤ _; rw [← hZ]; exact XC.out.size
    have V3 : Hid (BA (w5.alloc (Obj.cells (ba (zeros 128)) 30)) V 30 y) := (Below.heap_alloc _ _ _ (lt_of_block V2.out)).trans V2.out
    have XD : Hid (Below w2.heap.size w2 (w5.alloc (Obj.cells (ba (zeros 128)) 30))) := XC.out.alloc XC.out.size _
    clear hb5 XB V1 XC V2
    go_wp2_with (refine wpList_store_rowTo rfl 30 (.tmp 10) (.tmp 35) rfl rfl Z (ba y) rfl rfl 30 (ba (zeros 128)) Z0.out (sz s30 (by rw [ba_size, LY.out])) (by rw [ba_size, ba_size, LY.out, zeros_len]) (ba_one _) ?_)
    have Z1 : Hid (BA ((w5.alloc (Obj.cells (ba (zeros 128)) 30)).setRow Z (ba y)) Z 30 y) := setRow_heap _ _ _ _ _ _ Z0.out
    have V4 : Hid (BA ((w5.alloc (Obj.cells (ba (zeros 128)) 30)).setRow Z (ba y)) V 30 y) := (setRow_other _ _ _ _ (by have := VZ.out; omega)).trans V3.out
    have XE : Hid (Below w2.heap.size w2 ((w5.alloc (Obj.cells (ba (zeros 128)) 30)).setRow Z (ba y))) := below_setRow XD.out WZ.out _
    clear Z0 hZ XD V3
    generalize (w5.alloc (Obj.cells (ba (zeros 128)) 30)).setRow Z (ba y) = w6 at *
    have ZL : Hid (Z < w6.heap.size) := lt_of_block Z1.out
    have VL : Hid (V < w6.heap.size) := lt_of_block V4.out
    have WL : Hid (w2.heap.size ≤ w6.heap.size) := XE.out.size
    have XF : Hid (∀ w', Below w6.heap.size w6 w' → Below w2.heap.size w2 w') := fun w' hb => XE.out.trans (hb.mono WL.out)
    have KF : Hid (∀ w', Below w6.heap.size w6 w' → w'.rangeAt V 0 (bvals y) ∧ w'.rangeAt Z 0 (bvals y) ∧ w'.cell? ⟨M, 0, none⟩ = some (.slice A1 N d1)) := fun w' hb => ⟨ba_range (t := 30) ((hb.block V VL.out).trans V4.out), ba_range (t := 30) ((hb.block Z ZL.out).trans Z1.out), (RF.out w' (XF.out w' hb)).cells.1⟩
    have XX : Hid (Below w6.heap.size w6 w6) := Below.refl _ _
    have KK : Hid True := trivial
    obtain ⟨pV, pZ, m0⟩ := KF.out w6 XX.out
    have hu30 := Tryd.underlying30
    have hi30 : (Tryd.prog.info? 30).map (·.size) = some (bvals y).length := by rw [s30]; simp [bvals, LY.out]
    rw [ba_bvals y] at e3
    have G12 : Hid (∀ w', Below w6.heap.size w6 w' → _) := fun w' hb => E12.out w' (XF.out w' hb)
    have G13 : Hid (∀ w', Below w6.heap.size w6 w' → _) := fun w' hb => E13.out w' (XF.out w' hb)
    have G14 : Hid (∀ w', Below w6.heap.size w6 w' → _) := fun w' hb => E14.out w' (XF.out w' hb)
    have G15 : Hid (∀ w', Below w6.heap.size w6 w' → _) := fun w' hb => E15.out w' (XF.out w' hb)
    have G16 : Hid (∀ w', Below w6.heap.size w6 w' → _) := fun w' hb => E16.out w' (XF.out w' hb)
    clear E10 E11 E12 E13 E14 E15 E16
    go_wp2_with fail
    refine wp_region_held_drew (S := (fun w' : World => w'.rangeAt V 0 (bvals y) ∧ w'.rangeAt Z 0 (bvals y) ∧ w'.cell? ⟨M, 0, none⟩ = some (.slice A1 N d1))) (by kernel_rfl) (by exact KF.out _ XX.out.drew) (fun hHeld => ?_)
    refine wpAnyH_take (i := 0) (v := ?_) rfl (by kernel_rfl) (by kernel_rfl) (by kernel_rfl) (fun _ _ _ h => h) (Or.inl ⟨by rfl, ?_⟩) (by assumption) ?_
    rotate_left
    · (intro w hSw; (try dsimp only at hSw); go_simp; try with_reducible rfl)
    simp only [Act.put, List.getElem_toArray, List.getElem_cons_zero, List.setIfInBounds_toArray, List.set_cons_zero, List.set_cons_succ]
    refine wpAnyH_take (i := 1) (v := ?_) rfl (by kernel_rfl) (by kernel_rfl) (by kernel_rfl) (fun _ _ _ h => h) (Or.inl ⟨by rfl, ?_⟩) (by assumption) ?_
    rotate_left
    · (intro w hSw; (try dsimp only at hSw); go_simp; try with_reducible rfl)
    simp only [Act.put, List.getElem_toArray, List.getElem_cons_succ, List.getElem_cons_zero, List.setIfInBounds_toArray, List.set_cons_zero, List.set_cons_succ]
    refine wpAnyH_take (i := 2) (v := ?_) rfl (by kernel_rfl) (by kernel_rfl) (by kernel_rfl) (fun _ _ _ h => h) (Or.inl ⟨by rfl, ?_⟩) (by assumption) ?_
    rotate_left
    · (intro w hSw; (try dsimp only at hSw); go_simp; try with_reducible rfl)
    simp only [Act.put, List.getElem_toArray, List.getElem_cons_succ, List.getElem_cons_zero, List.setIfInBounds_toArray, List.set_cons_zero, List.set_cons_succ]
    refine wpAnyH_take (i := 3) (v := ?_) rfl (by kernel_rfl) (by kernel_rfl) (by kernel_rfl) (fun _ _ _ h => h) (Or.inl ⟨by rfl, ?_⟩) (by assumption) ?_
    rotate_left
    · (intro w hSw; (try dsimp only at hSw); go_simp; try with_reducible rfl)
    simp only [Act.put, List.getElem_toArray, List.getElem_cons_succ, List.getElem_cons_zero, List.setIfInBounds_toArray, List.set_cons_zero, List.set_cons_succ]
    refine wpAnyH_take (i := 4) rfl (by kernel_rfl) (by kernel_rfl) (by kernel_rfl) (fun _ _ _ h => h) (yieldsIf_load_mid (by rfl) 30 (.tmp 8) rfl V 0 rfl (bvals y) _ (fun w h => h.1) hu30 rfl hi30) (by assumption) ?_
    simp only [Act.put, List.getElem_toArray, List.getElem_cons_succ, List.getElem_cons_zero, List.setIfInBounds_toArray, List.set_cons_zero, List.set_cons_succ]
    refine wpAnyH_take (i := 5) rfl (by kernel_rfl) (by kernel_rfl) (by kernel_rfl) (fun _ _ _ h => h) (yieldsIf_load_mid (by rfl) 30 (.tmp 10) rfl Z 0 rfl (bvals y) _ (fun w h => h.2.1) hu30 rfl hi30) (by assumption) ?_
    simp only [Act.put, List.getElem_toArray, List.getElem_cons_succ, List.getElem_cons_zero, List.setIfInBounds_toArray, List.set_cons_zero, List.set_cons_succ]
    refine wpAnyH_take (i := 6) (v := ?_) rfl (by kernel_rfl) (by kernel_rfl) (by kernel_rfl) (fun _ _ _ h => h) (Or.inl ⟨by rfl, ?_⟩) (by assumption) ?_
    rotate_left
    · (intro w hSw; (try dsimp only at hSw); go_simp; try with_reducible rfl)
    simp only [Act.put, List.getElem_toArray, List.getElem_cons_succ, List.getElem_cons_zero, List.setIfInBounds_toArray, List.set_cons_zero, List.set_cons_succ]
    refine wpAnyH_take (i := 7) (v := ?_) rfl (by kernel_rfl) (by kernel_rfl) (by kernel_rfl) (fun _ _ _ h => h) (Or.inl ⟨by rfl, ?_⟩) (by assumption) ?_
    rotate_left
    · (intro w hSw; (try dsimp only at hSw); go_simp; try with_reducible rfl)
    simp only [Act.put, List.getElem_toArray, List.getElem_cons_succ, List.getElem_cons_zero, List.setIfInBounds_toArray, List.set_cons_zero, List.set_cons_succ]
    refine wpAnyH_take (i := 8) (v := ?_) rfl (by kernel_rfl) (by kernel_rfl) (by kernel_rfl) (fun _ _ _ h => h) (Or.inl ⟨by rfl, ?_⟩) (by assumption) ?_
    rotate_left
    · (intro w hSw; (try dsimp only at hSw); go_simp; try with_reducible rfl)
    simp only [Act.put, List.getElem_toArray, List.getElem_cons_succ, List.getElem_cons_zero, List.setIfInBounds_toArray, List.set_cons_zero, List.set_cons_succ]
    refine wpAnyH_take (i := 9) (v := ?_) rfl (by kernel_rfl) (by kernel_rfl) (by kernel_rfl) (fun _ _ _ h => h) (Or.inl ⟨by rfl, ?_⟩) (by assumption) ?_
    rotate_left
    · (intro w hSw; (try dsimp only at hSw); go_simp; try with_reducible rfl)
    simp only [Act.put, List.getElem_toArray, List.getElem_cons_succ, List.getElem_cons_zero, List.setIfInBounds_toArray, List.set_cons_zero, List.set_cons_succ]
    refine wpAnyH_take (i := 11) (v := ?_) rfl (by kernel_rfl) (by kernel_rfl) (by kernel_rfl) (fun _ _ _ h => h) (Or.inl ⟨by rfl, ?_⟩) (by assumption) ?_
    rotate_left
    · (intro w hSw; (try dsimp only at hSw); go_simp; try with_reducible rfl)
    simp only [Act.put, List.getElem_toArray, List.getElem_cons_succ, List.getElem_cons_zero, List.setIfInBounds_toArray, List.set_cons_zero, List.set_cons_succ]
    refine wpAnyH_ready (rs := [10]) (by kernel_rfl) (by simp) ?_
    refine AllReadyH.cons rfl (fun K hK => ?_) AllReadyH.nil
    go_simp
    go_at_call 12
    refine (G12.out _ (by first | exact XX.out | exact XX.out.drew)).mono ?_
    rintro e wa ⟨rfl, hba⟩
    have XN : Hid (Below w6.heap.size w6 wa) := (by first | exact XX.out.trans (hba.mono XX.out.size) | exact XX.out.drew.trans (hba.mono XX.out.drew.size))
    have KK := Lib.hid (KF.out wa XN.out)
    clear XX hba hHeld
    have XX := XN
    clear XN
    (try go_wp2_with fail)
    refine hK.out _ _ (by exact KK.out) (fun hHeld => ?_)
    clear hK K
    (try simp only [Act.put, List.getElem_toArray, List.getElem_cons_succ, List.getElem_cons_zero, List.setIfInBounds_toArray, List.set_cons_zero, List.set_cons_succ])
    refine wpAnyH_ready (rs := [12]) (by kernel_rfl) (by simp) ?_
    refine AllReadyH.cons rfl (fun K hK => ?_) AllReadyH.nil
    go_simp
    go_at_call 13
    refine (G13.out _ (by first | exact XX.out | exact XX.out.drew)).mono ?_
    rintro e wa ⟨rfl, hba⟩
    have XN : Hid (Below w6.heap.size w6 wa) := (by first | exact XX.out.trans (hba.mono XX.out.size) | exact XX.out.drew.trans (hba.mono XX.out.drew.size))
    have KK := Lib.hid (KF.out wa XN.out)
    clear XX hba hHeld
    have XX := XN
    clear XN
    (try go_wp2_with fail)
    refine hK.out _ _ (by exact KK.out) (fun hHeld => ?_)
    clear hK K
    (try simp only [Act.put, List.getElem_toArray, List.getElem_cons_succ, List.getElem_cons_zero, List.setIfInBounds_toArray, List.set_cons_zero, List.set_cons_succ])
    refine wpAnyH_take (i := 13) (v := ?_) rfl (by kernel_rfl) (by kernel_rfl) (by kernel_rfl) (fun _ _ _ h => h) (Or.inl ⟨by rfl, ?_⟩) (by assumption) ?_
    rotate_left
    · (intro w hSw; (try dsimp only at hSw); go_simp; try with_reducible rfl)
    simp only [Act.put, List.getElem_toArray, List.getElem_cons_succ, List.getElem_cons_zero, List.setIfInBounds_toArray, List.set_cons_zero, List.set_cons_succ]
    refine wpAnyH_take (i := 14) (v := ?_) rfl (by kernel_rfl) (by kernel_rfl) (by kernel_rfl) (fun _ _ _ h => h) (Or.inl ⟨by rfl, ?_⟩) (by assumption) ?_
    rotate_left
    · (intro w hSw; (try dsimp only at hSw); go_simp; try with_reducible rfl)
    simp only [Act.put, List.getElem_toArray, List.getElem_cons_succ, List.getElem_cons_zero, List.setIfInBounds_toArray, List.set_cons_zero, List.set_cons_succ]
    refine wpAnyH_take (i := 15) (v := ?_) rfl (by kernel_rfl) (by kernel_rfl) (by kernel_rfl) (fun _ _ _ h => h) (Or.inl ⟨by rfl, ?_⟩) (by assumption) ?_
    rotate_left
    · (intro w hSw; (try dsimp only at hSw); go_simp; try with_reducible rfl)
    simp only [Act.put, List.getElem_toArray, List.getElem_cons_succ, List.getElem_cons_zero, List.setIfInBounds_toArray, List.set_cons_zero, List.set_cons_succ]
    refine wpAnyH_take (i := 16) (v := ?_) rfl (by kernel_rfl) (by kernel_rfl) (by kernel_rfl) (fun _ _ _ h => h) (Or.inl ⟨by rfl, ?_⟩) (by assumption) ?_
    rotate_left
    · (intro w hSw; (try dsimp only at hSw); go_simp; try with_reducible rfl)
    simp only [Act.put, List.getElem_toArray, List.getElem_cons_succ, List.getElem_cons_zero, List.setIfInBounds_toArray, List.set_cons_zero, List.set_cons_succ]
    refine wpAnyH_take (i := 17) (v := ?_) rfl (by kernel_rfl) (by kernel_rfl) (by kernel_rfl) (fun _ _ _ h => h) (Or.inl ⟨by rfl, ?_⟩) (by assumption) ?_
    rotate_left
    · (intro w hSw; (try dsimp only at hSw); go_simp; try with_reducible rfl)
    simp only [Act.put, List.getElem_toArray, List.getElem_cons_succ, List.getElem_cons_zero, List.setIfInBounds_toArray, List.set_cons_zero, List.set_cons_succ]
    refine wpAnyH_take (i := 19) (v := ?_) rfl (by kernel_rfl) (by kernel_rfl) (by kernel_rfl) (fun _ _ _ h => h) (Or.inl ⟨by rfl, ?_⟩) (by assumption) ?_
    rotate_left
    · (intro w hSw; (try dsimp only at hSw); go_simp; try with_reducible rfl)
    simp only [Act.put, List.getElem_toArray, List.getElem_cons_succ, List.getElem_cons_zero, List.setIfInBounds_toArray, List.set_cons_zero, List.set_cons_succ]
    refine wpAnyH_take (i := 20) (v := ?_) rfl (by kernel_rfl) (by kernel_rfl) (by kernel_rfl) (fun _ _ _ h => h) (Or.inl ⟨by rfl, ?_⟩) (by assumption) ?_
    rotate_left
    · (intro w hSw; (try dsimp only at hSw); go_simp; try with_reducible rfl)
    simp only [Act.put, List.getElem_toArray, List.getElem_cons_succ, List.getElem_cons_zero, List.setIfInBounds_toArray, List.set_cons_zero, List.set_cons_succ]
    refine wpAnyH_ready (rs := [18]) (by kernel_rfl) (by simp) ?_
    refine AllReadyH.cons rfl (fun K hK => ?_) AllReadyH.nil
    go_simp
    go_at_call 14
    refine (G14.out _ (by first | exact XX.out | exact XX.out.drew)).mono ?_
    rintro e wa ⟨rfl, hba⟩
    have XN : Hid (Below w6.heap.size w6 wa) := (by first | exact XX.out.trans (hba.mono XX.out.size) | exact XX.out.drew.trans (hba.mono XX.out.drew.size))
    have KK := Lib.hid (KF.out wa XN.out)
    clear XX hba hHeld
    have XX := XN
    clear XN
    (try go_wp2_with fail)
    refine hK.out _ _ (by exact KK.out) (fun hHeld => ?_)
    clear hK K
    (try simp only [Act.put, List.getElem_toArray, List.getElem_cons_succ, List.getElem_cons_zero, List.setIfInBounds_toArray, List.set_cons_zero, List.set_cons_succ])
    refine wpAnyH_ready (rs := [21]) (by kernel_rfl) (by simp) ?_
    refine AllReadyH.cons rfl (fun K hK => ?_) AllReadyH.nil
    go_simp
    go_at_call 15
    refine (G15.out _ (by first | exact XX.out | exact XX.out.drew)).mono ?_
    rintro e wa ⟨rfl, hba⟩
    have XN : Hid (Below w6.heap.size w6 wa) := (by first | exact XX.out.trans (hba.mono XX.out.size) | exact XX.out.drew.trans (hba.mono XX.out.drew.size))
    have KK := Lib.hid (KF.out wa XN.out)
    clear XX hba hHeld
    have XX := XN
    clear XN
    (try go_wp2_with fail)
    refine hK.out _ _ (by exact KK.out) (fun hHeld => ?_)
    clear hK K
    (try simp only [Act.put, List.getElem_toArray, List.getElem_cons_succ, List.getElem_cons_zero, List.setIfInBounds_toArray, List.set_cons_zero, List.set_cons_succ])
    refine wpAnyH_take (i := 22) (v := ?_) rfl (by kernel_rfl) (by kernel_rfl) (by kernel_rfl) (fun _ _ _ h => h) (Or.inl ⟨by rfl, ?_⟩) (by assumption) ?_
    rotate_left
    · (intro w hSw; (try dsimp only at hSw); go_simp; try with_reducible rfl)
    simp only [Act.put, List.getElem_toArray, List.getElem_cons_succ, List.getElem_cons_zero, List.setIfInBounds_toArray, List.set_cons_zero, List.set_cons_succ]
    refine wpAnyH_take (i := 23) (v := ?_) rfl (by kernel_rfl) (by kernel_rfl) (by kernel_rfl) (fun _ _ _ h => h) (Or.inl ⟨by rfl, ?_⟩) (by assumption) ?_
    rotate_left
    · (intro w hSw; (try dsimp only at hSw); go_simp; try with_reducible rfl)
    simp only [Act.put, List.getElem_toArray, List.getElem_cons_succ, List.getElem_cons_zero, List.setIfInBounds_toArray, List.set_cons_zero, List.set_cons_succ]
    refine wpAnyH_take (i := 24) (v := ?_) rfl (by kernel_rfl) (by kernel_rfl) (by kernel_rfl) (fun _ _ _ h => h) (Or.inl ⟨by rfl, ?_⟩) (by assumption) ?_
    rotate_left
    · (intro w hSw; (try dsimp only at hSw); go_simp; try with_reducible rfl)
    simp only [Act.put, List.getElem_toArray, List.getElem_cons_succ, List.getElem_cons_zero, List.setIfInBounds_toArray, List.set_cons_zero, List.set_cons_succ]
    refine wpAnyH_take (i := 25) (v := ?_) rfl (by kernel_rfl) (by kernel_rfl) (by kernel_rfl) (fun _ _ _ h => h) (Or.inl ⟨by rfl, ?_⟩) (by assumption) ?_
    rotate_left
    · (intro w hSw; (try dsimp only at hSw); go_simp; try with_reducible rfl)
    simp only [Act.put, List.getElem_toArray, List.getElem_cons_succ, List.getElem_cons_zero, List.setIfInBounds_toArray, List.set_cons_zero, List.set_cons_succ]
    refine wpAnyH_take (i := 27) (v := ?_) rfl (by kernel_rfl) (by kernel_rfl) (by kernel_rfl) (fun _ _ _ h => h) (Or.inl ⟨by rfl, ?_⟩) (by assumption) ?_
    rotate_left
    · (intro w hSw; (try dsimp only at hSw); go_simp; try with_reducible rfl)
    simp only [Act.put, List.getElem_toArray, List.getElem_cons_succ, List.getElem_cons_zero, List.setIfInBounds_toArray, List.set_cons_zero, List.set_cons_succ]
    refine wpAnyH_take (i := 28) (v := ?_) rfl (by kernel_rfl) (by kernel_rfl) (by kernel_rfl) (fun _ _ _ h => h) (Or.inl ⟨by rfl, ?_⟩) (by assumption) ?_
    rotate_left
    · (intro w hSw; (try dsimp only at hSw); go_simp; try with_reducible rfl)
    simp only [Act.put, List.getElem_toArray, List.getElem_cons_succ, List.getElem_cons_zero, List.setIfInBounds_toArray, List.set_cons_zero, List.set_cons_succ]
    refine wpAnyH_take (i := 29) (v := ?_) rfl (by kernel_rfl) (by kernel_rfl) (by kernel_rfl) (fun _ _ _ h => h) (Or.inl ⟨by rfl, ?_⟩) (by assumption) ?_
    rotate_left
    · (intro w hSw; (try dsimp only at hSw); go_simp; try with_reducible rfl)
    simp only [Act.put, List.getElem_toArray, List.getElem_cons_succ, List.getElem_cons_zero, List.setIfInBounds_toArray, List.set_cons_zero, List.set_cons_succ]
    refine wpAnyH_take (i := 30) (v := ?_) rfl (by kernel_rfl) (by kernel_rfl) (by kernel_rfl) (fun _ _ _ h => h) (Or.inl ⟨by rfl, ?_⟩) (by assumption) ?_
    rotate_left
    · (intro w hSw; (try dsimp only at hSw); go_simp; try with_reducible rfl)
    simp only [Act.put, List.getElem_toArray, List.getElem_cons_succ, List.getElem_cons_zero, List.setIfInBounds_toArray, List.set_cons_zero, List.set_cons_succ]
    refine wpAnyH_take (i := 31) (v := ?_) rfl (by kernel_rfl) (by kernel_rfl) (by kernel_rfl) (fun _ _ _ h => h) (Or.inl ⟨by rfl, ?_⟩) (by assumption) ?_
    rotate_left
    · (intro w hSw; (try dsimp only at hSw); go_simp; try with_reducible rfl)
    simp only [Act.put, List.getElem_toArray, List.getElem_cons_succ, List.getElem_cons_zero, List.setIfInBounds_toArray, List.set_cons_zero, List.set_cons_succ]
    refine wpAnyH_ready (rs := [26]) (by kernel_rfl) (by simp) ?_
    refine AllReadyH.cons rfl (fun K hK => ?_) AllReadyH.nil
    go_simp
    go_at_call 16
    refine (G16.out _ (by first | exact XX.out | exact XX.out.drew)).mono ?_
    rintro e wa ⟨rfl, hba⟩
    have XN : Hid (Below w6.heap.size w6 wa) := (by first | exact XX.out.trans (hba.mono XX.out.size) | exact XX.out.drew.trans (hba.mono XX.out.drew.size))
    have KK := Lib.hid (KF.out wa XN.out)
    clear XX hba hHeld
    have XX := XN
    clear XN
    (try go_wp2_with fail)
    refine hK.out _ _ (by exact KK.out) (fun hHeld => ?_)
    clear hK K
    (try simp only [Act.put, List.getElem_toArray, List.getElem_cons_succ, List.getElem_cons_zero, List.setIfInBounds_toArray, List.set_cons_zero, List.set_cons_succ])
    refine wpAnyH_take (i := 32) (v := ?_) rfl (by kernel_rfl) (by kernel_rfl) (by kernel_rfl) (fun _ _ _ h => h) (Or.inl ⟨by rfl, ?_⟩) (by assumption) ?_
    rotate_left
    · (intro w hSw; (try dsimp only at hSw); go_simp; try with_reducible rfl)
    simp only [Act.put, List.getElem_toArray, List.getElem_cons_succ, List.getElem_cons_zero, List.setIfInBounds_toArray, List.set_cons_zero, List.set_cons_succ]
    refine wpAnyH_take (i := 33) (v := ?_) rfl (by kernel_rfl) (by kernel_rfl) (by kernel_rfl) (fun _ _ _ h => h) (Or.inl ⟨by rfl, ?_⟩) (by assumption) ?_
    rotate_left
    · (intro w hSw; (try dsimp only at hSw); go_simp; try with_reducible rfl)
    simp only [Act.put, List.getElem_toArray, List.getElem_cons_succ, List.getElem_cons_zero, List.setIfInBounds_toArray, List.set_cons_zero, List.set_cons_succ]
    refine wpAnyH_take (i := 34) (v := ?_) rfl (by kernel_rfl) (by kernel_rfl) (by kernel_rfl) (fun _ _ _ h => h) (Or.inl ⟨by rfl, ?_⟩) (by assumption) ?_
    rotate_left
    · (intro w hSw; (try dsimp only at hSw); go_simp; try with_reducible rfl)
    simp only [Act.put, List.getElem_toArray, List.getElem_cons_succ, List.getElem_cons_zero, List.setIfInBounds_toArray, List.set_cons_zero, List.set_cons_succ]
    refine wpAnyH_done (by kernel_rfl) ?_ _
    go_wp2
    go_ret
    exact ⟨rfl, BF.out _ (XF.out _ XX.out)⟩
end Go.Proofs.YtgagcblddcibkaaDoor
