/-
  The walk of SparseProves.
-/
import Derived.Test.YtgagcblddcibkaaDoorS35
import Derived.Deep.RegionHeld3
namespace Go.Proofs.YtgagcblddcibkaaDoor
open Go.RowKit
open Go.Maps
theorem chk6_off (rt x p : List Int) (i : Int) (h : ¬ (0 ≤ i ∧ i < 65536)) : chk6 rt i x p = false := by unfold chk6; rw [decide_eq_false h]; rfl
theorem wf_u16 {i : Int} (h : (Lit.int .u16 i).wf = true) : 0 ≤ i ∧ i < 65536 := by
  have e1 : IntKind.u16.min = 0 := rfl
  have e2 : IntKind.u16.max = 65535 := rfl
  simp only [Lit.wf, e1, e2, Bool.and_eq_true, decide_eq_true_eq] at h
  omega
attribute [local irreducible] ua da ba kk sw S8.run rt hs comp splice outB sha msg twoM twoN ab MapIs mrow nd upF at8 prfL zip8 bvals ivals putA fillL inr sib inR chk6
set_option maxRecDepth 100000 in
set_option maxHeartbeats 1600000 in
theorem q4 (A : Option Addr) (n cap : Nat) (P : Nat → Int × List Int) (at' : Int) (ot : List Int) (wB : World) (hkB : Keys wB) (hPB : Dds wB A n P) (hcap : n ≤ cap) (hw : (Lit.int .u16 at').wf = true) (hot : ot.length = 8) :
    Calls Tryd.prog 4 #[.slice A n cap, .int .u16 at', .agg (ba ot)] wB fun e w' => e = .returned (.bool true) ∧ Below wB.heap.size wB w' := by
  have zz4 := z30
  have zz5 := z27
  have hb2 := wf_u16 hw
  have i0 : 0 ≤ at' := hb2.1
  have i1 : at' < 65536 := hb2.2
  obtain ⟨S, hS⟩ : ∃ S, wB.heap.size = S := ⟨_, rfl⟩
  have HS := Lib.hid hS
  have BB : Hid (Below S wB (wB.alloc (Obj.cells (ba ot) 29))) := by subst hS; exact (Below.refl _ wB).alloc (Nat.le_refl _) _
  have O0 : Hid (BA (wB.alloc (Obj.cells (ba ot) 29)) S 29 ot) := by subst hS; exact heap_alloc_last wB _
  have HK : Hid (Keys (wB.alloc (Obj.cells (ba ot) 29))) := keys_below hkB BB.out (by rw [← hS]; exact keys_pos hkB)
  have HD : Hid (Dds (wB.alloc (Obj.cells (ba ot) 29)) A n P) := hPB.keep fun k hk => BB.out.block k (by rw [← hS]; exact hk)
  have LOT := Lib.hid hot
  obtain ⟨q, hq⟩ := Int.eq_ofNat_of_zero_le hb2.1
  have HQ : Hid (at' = (q : Int)) := hq
  have HQ6 : Hid (q < 65536) := by show _ < _; omega
  have HCAP := Lib.hid hcap
  have hN : n ≤ 40 ∨ (40 : Int) < (n : Int) := by omega
  clear hkB hPB hot hw hb2 hq hcap
  go_enter Tryd.func4, Tryd.ntmps4
  go_upto_region 1 with (fail)
  clear hS
  generalize wB.alloc (Obj.cells (ba ot) 29) = w at *
  have HPOS : Hid (0 < w.heap.size) := keys_pos HK.out
  have C8 := Lib.hid (p8 w HK.out)
  have SW : Hid (S < w.heap.size) := lt_of_block O0.out
  have BE : Hid (∀ w', Below w.heap.size w w' → Below S wB w') := fun w' hb => BB.out.trans (hb.mono (Nat.le_of_lt SW.out))
  rcases hN with hN | hN
  rotate_left
  · go_wp2_with (go_at_call 8; refine C8.out.mono ?_; rintro e w1 ⟨rfl, hb1⟩; have B1 := Lib.hid hb1; clear hb1)
    go_ret
    exact ⟨rfl, by rw [HS.out]; exact BE.out _ B1.out⟩
  · have q1 : ¬ (40 : Int) < (n : Int) := by omega
    have HN : Hid (n ≤ 40) := hN
    clear hN
    go_wp2_with (go_at_call 8; refine C8.out.mono ?_; rintro e w1 ⟨rfl, hb1⟩; have B1 := Lib.hid hb1; clear hb1)
    have K1 : Hid (Keys w1) := keys_below HK.out B1.out HPOS.out
    have P1 : Hid (0 < w1.heap.size) := Nat.lt_of_lt_of_le HPOS.out B1.out.size
    have C9 := Lib.hid (p9 A n cap P w1 K1.out (HD.out.keep B1.out.block) (by have := HN.out; omega) HCAP.out)
    refine C9.out.mono ?_
    rintro e w2 ⟨T, M, ms, a, b, rfl, hbo⟩
    have HG : Hid (Good (fillL P n)) := fillL_good HD.out.len n (Nat.le_refl n)
    have HLL : Hid ((fillL P n).length ≤ 40) := Nat.le_trans (fillL_length P n) HN.out
    obtain ⟨L, hL⟩ : ∃ L, fillL P n = L := ⟨_, rfl⟩
    rw [hL] at hbo HG HLL
    obtain ⟨A1, A2, d1, d2, rfl, rfl, hlr⟩ := hbo.lv.read
    have T2 := Lib.hid hbo.tr
    have R2 := Lib.hid hlr
    have B2 : Hid (Below w.heap.size w w2) := B1.out.trans (hbo.bel.mono B1.out.size)
    have KW : Hid (∀ w', Below w2.heap.size w2 w' → Keys w') := fun w' hb => keys_below HK.out (B2.out.trans (hb.mono B2.out.size)) HPOS.out
    have TF : Hid (∀ w', Below w2.heap.size w2 w' → Tr w' w1.heap.size T ms (nd (lk L)) (17 * n)) := fun w' hb => T2.out.grow hb
    have RF : Hid (∀ w', Below w2.heap.size w2 w' → LR w' M A1 A2 L.length d1 d2 L) := fun w' hb => R2.out.grow hb
    obtain ⟨N, hN⟩ : ∃ N, L.length = N := ⟨_, rfl⟩
    rw [hN] at RF HLL
    have HN1 : Hid (N ≤ 1000) := Nat.le_trans HLL.out (by omega)
    have H8 : Hid (∀ p ∈ L, p.2.length = 8) := fun p hp => (HG.out.all p hp).1
    have LN := T2.out.lens q HQ6.out
    obtain ⟨p, hp⟩ : ∃ p, prfL (lk L) q 16 = p := ⟨_, rfl⟩
    have LP : Hid (p.length = 128) := by rw [← hp]; exact prfL_len (lk L) q LN 16 (Nat.le_refl _)
    have LR8 : Hid ((nd (lk L) 16 0).length = 8) := nd_lk_len H8.out _ _
    have LG8 : Hid ((lk L at').length = 8) := lk_len H8.out _
    have HC1 : Hid (chk6 (nd (lk L) 16 0) at' (lk L at') p = true) := by
      have := chk_prf (lk L) q HQ6.out LN
      rw [hp, ← HQ.out] at this
      exact this
    have E10 : Hid (Calls Tryd.prog 10 #[.pointer (some ⟨T, 0, none⟩), .int .i64 at'] w2 fun e w'' => e = .returned (.tuple #[.agg (ba p), .bool true]) ∧ Below w2.heap.size w2 w'') := by
      have := p10 w1.heap.size T (17 * n) q ms (lk L) w2 T2.out HQ6.out
      rw [hp, ← HQ.out] at this
      exact this.mono fun _ _ h => ⟨h.1, h.2.2⟩
    have E12 : Hid (∀ w', Below w2.heap.size w2 w' → Calls Tryd.prog 12 #[.pointer (some ⟨T, 0, none⟩)] w' fun e w'' => e = .returned (.agg (ba (nd (lk L) 16 0))) ∧ Below w'.heap.size w' w'') := fun w' hb => p12 w1.heap.size T (17 * n) ms (lk L) w' (TF.out w' hb)
    have E13 : Hid (∀ w', Below w2.heap.size w2 w' → Calls Tryd.prog 13 #[.pointer (some ⟨M, 0, none⟩)] w' fun e w'' => e = .returned (.agg (ba (nd (lk L) 16 0))) ∧ Below w'.heap.size w' w'') := fun w' hb => r13 M A1 A2 N d1 d2 L w' HG.out HN1.out (KW.out w' hb) (RF.out w' hb)
    have E14 : Hid (∀ w', Below w2.heap.size w2 w' → Calls Tryd.prog 14 #[.pointer (some ⟨T, 0, none⟩), .int .i64 at'] w' fun e w'' => e = .returned (.agg (ba (lk L at'))) ∧ Below w'.heap.size w' w'') := fun w' hb => p14 w1.heap.size T (17 * n) at' ms (lk L) w' (TF.out w' hb) (wf_small i0 (by omega))
    have BF : Hid (∀ w', Below w2.heap.size w2 w' → Below S wB w') := fun w' hb => BE.out w' (B2.out.trans (hb.mono B2.out.size))
    have O2 : Hid (BA w2 S 29 ot) := (B2.out.block S SW.out).trans O0.out
    have SW2 : Hid (S < w2.heap.size) := lt_of_block O2.out
    generalize nd (lk L) 16 0 = rt at *
    generalize lk L at' = gt at *
    have E17 : Hid (∀ w', Below w2.heap.size w2 w' → Calls Tryd.prog 17 #[.agg (ba rt), .int .i64 at', .agg (ba gt), .agg (bvals p).toArray] w' fun e w'' => e = .returned (.bool true) ∧ Below w'.heap.size w' w'') := fun w' hb => by
      have := p17any rt gt p at' w' (KW.out w' hb) LR8.out LG8.out LP.out
      rw [HC1.out, ba_bvals p] at this
      exact this
    obtain ⟨o0, o1, o2, o3, o4, o5, o6, o7, ho8⟩ := c8cells ot LOT.out
    have HO8 := Lib.hid ho8
    have EC : Hid (∀ (i : Int) (w' : World), Below w2.heap.size w2 w' → Calls Tryd.prog 17 #[.agg (ba rt), .int .i64 i, .agg #[.int .u8 o0, .int .u8 o1, .int .u8 o2, .int .u8 o3, .int .u8 o4, .int .u8 o5, .int .u8 o6, .int .u8 o7], .agg (bvals p).toArray] w' fun e w'' => e = .returned (.bool (chk6 rt i ot p)) ∧ Below w'.heap.size w' w'') := fun i w' hb => by
      have := p17any rt ot p i w' (KW.out w' hb) LR8.out LOT.out LP.out
      generalize chk6 rt i ot p = bb at *
      rw [HO8.out, ba_bvals p, ba_lit] at this
      exact this
    obtain ⟨bb, hbb⟩ : ∃ bb, chk6 rt at' ot p = bb := ⟨_, rfl⟩
    have E17a : Hid (∀ w', Below w2.heap.size w2 w' → Calls Tryd.prog 17 #[.agg (ba rt), .int .i64 at', .agg #[.int .u8 o0, .int .u8 o1, .int .u8 o2, .int .u8 o3, .int .u8 o4, .int .u8 o5, .int .u8 o6, .int .u8 o7], .agg (bvals p).toArray] w' fun e w'' => e = .returned (.bool bb) ∧ Below w'.heap.size w' w'') := fun w' hb => by rw [← hbb]; exact EC.out at' w' hb
    have E17m : Hid (∀ w', Below w2.heap.size w2 w' → Calls Tryd.prog 17 #[.agg (ba rt), .int .i64 (-1), .agg #[.int .u8 o0, .int .u8 o1, .int .u8 o2, .int .u8 o3, .int .u8 o4, .int .u8 o5, .int .u8 o6, .int .u8 o7], .agg (bvals p).toArray] w' fun e w'' => e = .returned (.bool false) ∧ Below w'.heap.size w' w'') := fun w' hb => by rw [← chk6_off rt ot p (-1) (by omega)]; exact EC.out (-1) w' hb
    have E17h : Hid (∀ w', Below w2.heap.size w2 w' → Calls Tryd.prog 17 #[.agg (ba rt), .int .i64 65536, .agg #[.int .u8 o0, .int .u8 o1, .int .u8 o2, .int .u8 o3, .int .u8 o4, .int .u8 o5, .int .u8 o6, .int .u8 o7], .agg (bvals p).toArray] w' fun e w'' => e = .returned (.bool false) ∧ Below w'.heap.size w' w'') := fun w' hb => by rw [← chk6_off rt ot p 65536 (by omega)]; exact EC.out 65536 w' hb
    have E18 : Hid (∀ w', Below w2.heap.size w2 w' → Calls Tryd.prog 18 #[.agg (ba rt), .int .i64 at', .agg #[.int .u8 o0, .int .u8 o1, .int .u8 o2, .int .u8 o3, .int .u8 o4, .int .u8 o5, .int .u8 o6, .int .u8 o7], .agg (bvals p).toArray] w' fun e w'' => e = .returned (.bool bb) ∧ Below w'.heap.size w' w'') := fun w' hb => by
      have := r18any rt ot p at' w' (KW.out w' hb) LR8.out LOT.out LP.out
      rw [hbb, HO8.out, ba_bvals p, ba_lit] at this
      exact this
    have e1 := fun w => eq29 rt w LR8.out
    clear hbo hlr hL hN C9 C8 K1 HD T2 R2 hp hbb EC ho8 LN HQ
    have X2 : Hid (Below w2.heap.size w2 w2) := Below.refl _ _
    go_wp2_with fail
    refine E10.out.mono ?_
    rintro e w3 ⟨rfl, hb3⟩
    obtain ⟨V, hV⟩ : ∃ V, w3.heap.size = V := ⟨_, rfl⟩
    have V0 : Hid (BA (w3.alloc (Obj.cells (ba (zeros 128)) 30)) V 30 (zeros 128)) := by show _ = _; rw [← hV]; exact heap_alloc_last w3 _
    have WV : Hid (w2.heap.size ≤ V) := by show _ ≤ _; rw [← hV]; exact hb3.size
    have XA : Hid (Below w2.heap.size w2 (w3.alloc (Obj.cells (ba (zeros 128)) 30))) := hb3.alloc hb3.size _
    clear hb3
    go_wp2_with (refine wpList_store_rowTo rfl 30 (.tmp 10) (.tmp 30) rfl rfl V (ba p) rfl rfl 30 (ba (zeros 128)) V0.out (sz s30 (by rw [ba_size, LP.out])) (by rw [ba_size, ba_size, LP.out, zeros_len]) (ba_one _) ?_)
    have V4 : Hid (BA ((w3.alloc (Obj.cells (ba (zeros 128)) 30)).setRow V (ba p)) V 30 p) := setRow_heap _ _ _ _ _ _ V0.out
    have XE : Hid (Below w2.heap.size w2 ((w3.alloc (Obj.cells (ba (zeros 128)) 30)).setRow V (ba p))) := below_setRow XA.out WV.out _
    clear V0 hV XA E10
    generalize (w3.alloc (Obj.cells (ba (zeros 128)) 30)).setRow V (ba p) = w6 at *
    have VL : Hid (V < w6.heap.size) := lt_of_block V4.out
    have WL : Hid (w2.heap.size ≤ w6.heap.size) := XE.out.size
    have XF : Hid (∀ w', Below w6.heap.size w6 w' → Below w2.heap.size w2 w') := fun w' hb => XE.out.trans (hb.mono WL.out)
    have KF : Hid (∀ w', Below w6.heap.size w6 w' → w'.rangeAt V 0 (bvals p) ∧ (w'.cell? ⟨S, 0, none⟩ = some (.int .u8 o0) ∧ w'.cell? ⟨S, 1, none⟩ = some (.int .u8 o1) ∧ w'.cell? ⟨S, 2, none⟩ = some (.int .u8 o2) ∧ w'.cell? ⟨S, 3, none⟩ = some (.int .u8 o3) ∧ w'.cell? ⟨S, 4, none⟩ = some (.int .u8 o4) ∧ w'.cell? ⟨S, 5, none⟩ = some (.int .u8 o5) ∧ w'.cell? ⟨S, 6, none⟩ = some (.int .u8 o6) ∧ w'.cell? ⟨S, 7, none⟩ = some (.int .u8 o7))) := fun w' hb => ⟨ba_range (t := 30) ((hb.block V VL.out).trans V4.out), cells8 (t := 29) o0 o1 o2 o3 o4 o5 o6 o7 (by rw [← HO8.out]; exact ((XF.out w' hb).block S SW2.out).trans O2.out)⟩
    have XX : Hid (Below w6.heap.size w6 w6) := Below.refl _ _
    obtain ⟨pV, ⟨u0, u1, u2, u3, u4, u5, u6, u7⟩⟩ := KF.out w6 XX.out
    have hwr : IntKind.i64.wrap at' = at' := by rw [IntKind.wrap_i64]; omega
    have hu30 := Tryd.underlying30
    have hi30 : (Tryd.prog.info? 30).map (·.size) = some (bvals p).length := by rw [s30]; simp [bvals, LP.out]
    have G12 : Hid (∀ w', Below w6.heap.size w6 w' → _) := fun w' hb => E12.out w' (XF.out w' hb)
    have G13 : Hid (∀ w', Below w6.heap.size w6 w' → _) := fun w' hb => E13.out w' (XF.out w' hb)
    have G14 : Hid (∀ w', Below w6.heap.size w6 w' → _) := fun w' hb => E14.out w' (XF.out w' hb)
    have G17 : Hid (∀ w', Below w6.heap.size w6 w' → _) := fun w' hb => E17.out w' (XF.out w' hb)
    have G17a : Hid (∀ w', Below w6.heap.size w6 w' → _) := fun w' hb => E17a.out w' (XF.out w' hb)
    have G17m : Hid (∀ w', Below w6.heap.size w6 w' → _) := fun w' hb => E17m.out w' (XF.out w' hb)
    have G17h : Hid (∀ w', Below w6.heap.size w6 w' → _) := fun w' hb => E17h.out w' (XF.out w' hb)
    have G18 : Hid (∀ w', Below w6.heap.size w6 w' → _) := fun w' hb => E18.out w' (XF.out w' hb)
    clear E12 E13 E14 E17 E17a E17m E17h E18
    go_wp2_with fail
    refine wp_region_held_drew (S := (fun w' : World => w'.rangeAt V 0 (bvals p) ∧ (w'.cell? ⟨S, 0, none⟩ = some (.int .u8 o0) ∧ w'.cell? ⟨S, 1, none⟩ = some (.int .u8 o1) ∧ w'.cell? ⟨S, 2, none⟩ = some (.int .u8 o2) ∧ w'.cell? ⟨S, 3, none⟩ = some (.int .u8 o3) ∧ w'.cell? ⟨S, 4, none⟩ = some (.int .u8 o4) ∧ w'.cell? ⟨S, 5, none⟩ = some (.int .u8 o5) ∧ w'.cell? ⟨S, 6, none⟩ = some (.int .u8 o6) ∧ w'.cell? ⟨S, 7, none⟩ = some (.int .u8 o7)))) (by kernel_rfl) (by exact KF.out _ XX.out.drew) (fun hHeld => ?_)
    refine wpAnyH_take (i := 0) (v := ?_) rfl (by kernel_rfl) (by kernel_rfl) (by kernel_rfl) (fun _ _ _ h => h) (Or.inl ⟨by rfl, ?_⟩) (by assumption) ?_
    rotate_left
    · (intro w hSw; (try dsimp only at hSw); go_simp; try with_reducible rfl)
    simp only [Act.put, List.getElem_toArray, List.getElem_cons_zero, List.setIfInBounds_toArray, List.set_cons_zero, List.set_cons_succ]
    refine wpAnyH_take (i := 1) (v := ?_) rfl (by kernel_rfl) (by kernel_rfl) (by kernel_rfl) (fun _ _ _ h => h) (Or.inl ⟨by rfl, ?_⟩) (by assumption) ?_
    rotate_left
    · (intro w hSw; (try dsimp only at hSw); go_simp; try with_reducible rfl)
    simp only [Act.put, List.getElem_toArray, List.getElem_cons_succ, List.getElem_cons_zero, List.setIfInBounds_toArray, List.set_cons_zero, List.set_cons_succ]
    refine wpAnyH_take (i := 2) (v := ?_) rfl (by kernel_rfl) (by kernel_rfl) (by kernel_rfl) (fun _ _ _ h => h) (Or.inl ⟨by rfl, ?_⟩) (by assumption) ?_
    rotate_left
    · (intro w hSw; (try dsimp only at hSw); go_simp; try with_reducible rfl)
    simp only [Act.put, List.getElem_toArray, List.getElem_cons_succ, List.getElem_cons_zero, List.setIfInBounds_toArray, List.set_cons_zero, List.set_cons_succ]
    refine wpAnyH_take (i := 3) (v := ?_) rfl (by kernel_rfl) (by kernel_rfl) (by kernel_rfl) (fun _ _ _ h => h) (Or.inl ⟨by rfl, ?_⟩) (by assumption) ?_
    rotate_left
    · (intro w hSw; (try dsimp only at hSw); go_simp; try with_reducible rfl)
    simp only [Act.put, List.getElem_toArray, List.getElem_cons_succ, List.getElem_cons_zero, List.setIfInBounds_toArray, List.set_cons_zero, List.set_cons_succ]
    refine wpAnyH_take (i := 5) (v := ?_) rfl (by kernel_rfl) (by kernel_rfl) (by kernel_rfl) (fun _ _ _ h => h) (Or.inl ⟨by rfl, ?_⟩) (by assumption) ?_
    rotate_left
    · (intro w hSw; (try dsimp only at hSw); go_simp; try with_reducible rfl)
    simp only [Act.put, List.getElem_toArray, List.getElem_cons_succ, List.getElem_cons_zero, List.setIfInBounds_toArray, List.set_cons_zero, List.set_cons_succ]
    refine wpAnyH_take (i := 6) (v := ?_) rfl (by kernel_rfl) (by kernel_rfl) (by kernel_rfl) (fun _ _ _ h => h) (Or.inl ⟨by rfl, ?_⟩) (by assumption) ?_
    rotate_left
    · (intro w hSw; (try dsimp only at hSw); go_simp; try with_reducible rfl)
    simp only [Act.put, List.getElem_toArray, List.getElem_cons_succ, List.getElem_cons_zero, List.setIfInBounds_toArray, List.set_cons_zero, List.set_cons_succ]
    refine wpAnyH_take (i := 7) (v := ?_) rfl (by kernel_rfl) (by kernel_rfl) (by kernel_rfl) (fun _ _ _ h => h) (Or.inl ⟨by rfl, ?_⟩) (by assumption) ?_
    rotate_left
    · (intro w hSw; (try dsimp only at hSw); go_simp; try with_reducible rfl)
    simp only [Act.put, List.getElem_toArray, List.getElem_cons_succ, List.getElem_cons_zero, List.setIfInBounds_toArray, List.set_cons_zero, List.set_cons_succ]
    refine wpAnyH_take (i := 8) (v := ?_) rfl (by kernel_rfl) (by kernel_rfl) (by kernel_rfl) (fun _ _ _ h => h) (Or.inl ⟨by rfl, ?_⟩) (by assumption) ?_
    rotate_left
    · (intro w hSw; (try dsimp only at hSw); go_simp; try with_reducible rfl)
    simp only [Act.put, List.getElem_toArray, List.getElem_cons_succ, List.getElem_cons_zero, List.setIfInBounds_toArray, List.set_cons_zero, List.set_cons_succ]
    refine wpAnyH_take (i := 9) (v := ?_) rfl (by kernel_rfl) (by kernel_rfl) (by kernel_rfl) (fun _ _ _ h => h) (Or.inl ⟨by rfl, ?_⟩) (by assumption) ?_
    rotate_left
    · (intro w hSw; (try dsimp only at hSw); go_simp; try with_reducible rfl)
    simp only [Act.put, List.getElem_toArray, List.getElem_cons_succ, List.getElem_cons_zero, List.setIfInBounds_toArray, List.set_cons_zero, List.set_cons_succ]
    refine wpAnyH_take (i := 11) rfl (by kernel_rfl) (by kernel_rfl) (by kernel_rfl) (fun _ _ _ h => h) (yieldsIf_load_mid (by rfl) 30 (.tmp 10) rfl V 0 rfl (bvals p) _ (fun w h => h.1) hu30 rfl hi30) (by assumption) ?_
    simp only [Act.put, List.getElem_toArray, List.getElem_cons_succ, List.getElem_cons_zero, List.setIfInBounds_toArray, List.set_cons_zero, List.set_cons_succ]
    refine wpAnyH_ready (rs := [4]) (by kernel_rfl) (by simp) ?_
    refine AllReadyH.cons rfl (fun K hK => ?_) AllReadyH.nil
    go_simp
    go_at_call 12
    refine (G12.out _ (by first | exact XX.out | exact XX.out.drew)).mono ?_
    rintro e wa ⟨rfl, hba⟩
    have XN : Hid (Below w6.heap.size w6 wa) := (by first | exact XX.out.trans (hba.mono XX.out.size) | exact XX.out.drew.trans (hba.mono XX.out.drew.size))
    have KK := Lib.hid (KF.out wa XN.out)
    clear XX hba hHeld
    have XX := XN
    clear XN
    (try go_wp2_with fail)
    refine hK.out _ _ (by exact KK.out) (fun hHeld => ?_)
    clear hK K
    (try simp only [Act.put, List.getElem_toArray, List.getElem_cons_succ, List.getElem_cons_zero, List.setIfInBounds_toArray, List.set_cons_zero, List.set_cons_succ])
    refine wpAnyH_ready (rs := [10]) (by kernel_rfl) (by simp) ?_
    refine AllReadyH.cons rfl (fun K hK => ?_) AllReadyH.nil
    go_simp
    go_at_call 14
    refine (G14.out _ (by first | exact XX.out | exact XX.out.drew)).mono ?_
    rintro e wa ⟨rfl, hba⟩
    have XN : Hid (Below w6.heap.size w6 wa) := (by first | exact XX.out.trans (hba.mono XX.out.size) | exact XX.out.drew.trans (hba.mono XX.out.drew.size))
    have KK := Lib.hid (KF.out wa XN.out)
    clear XX hba hHeld
    have XX := XN
    clear XN
    (try go_wp2_with fail)
    refine hK.out _ _ (by exact KK.out) (fun hHeld => ?_)
    clear hK K
    (try simp only [Act.put, List.getElem_toArray, List.getElem_cons_succ, List.getElem_cons_zero, List.setIfInBounds_toArray, List.set_cons_zero, List.set_cons_succ])
    refine wpAnyH_ready (rs := [12]) (by kernel_rfl) (by simp) ?_
    refine AllReadyH.cons rfl (fun K hK => ?_) AllReadyH.nil
    go_simp
    go_at_call 17
    refine (G17.out _ (by first | exact XX.out | exact XX.out.drew)).mono ?_
    rintro e wa ⟨rfl, hba⟩
    have XN : Hid (Below w6.heap.size w6 wa) := (by first | exact XX.out.trans (hba.mono XX.out.size) | exact XX.out.drew.trans (hba.mono XX.out.drew.size))
    have KK := Lib.hid (KF.out wa XN.out)
    clear XX hba hHeld
    have XX := XN
    clear XN
    (try go_wp2_with fail)
    refine hK.out _ _ (by exact KK.out) (fun hHeld => ?_)
    clear hK K
    (try simp only [Act.put, List.getElem_toArray, List.getElem_cons_succ, List.getElem_cons_zero, List.setIfInBounds_toArray, List.set_cons_zero, List.set_cons_succ])
    refine wpAnyH_take (i := 13) (v := ?_) rfl (by kernel_rfl) (by kernel_rfl) (by kernel_rfl) (fun _ _ _ h => h) (Or.inl ⟨by rfl, ?_⟩) (by assumption) ?_
    rotate_left
    · (intro w hSw; (try dsimp only at hSw); go_simp; try with_reducible rfl)
    simp only [Act.put, List.getElem_toArray, List.getElem_cons_succ, List.getElem_cons_zero, List.setIfInBounds_toArray, List.set_cons_zero, List.set_cons_succ]
    refine wpAnyH_take (i := 14) (v := ?_) rfl (by kernel_rfl) (by kernel_rfl) (by kernel_rfl) (fun _ _ _ h => h) (Or.inl ⟨by rfl, ?_⟩) (by assumption) ?_
    rotate_left
    · (intro w hSw; (try dsimp only at hSw); go_simp; try with_reducible rfl)
    simp only [Act.put, List.getElem_toArray, List.getElem_cons_succ, List.getElem_cons_zero, List.setIfInBounds_toArray, List.set_cons_zero, List.set_cons_succ]
    refine wpAnyH_done (by kernel_rfl) ?_ _
    clear hHeld pV u0 u1 u2 u3 u4 u5 u6 u7
    obtain ⟨pV, ⟨u0, u1, u2, u3, u4, u5, u6, u7⟩⟩ := KF.out _ XX.out
    go_wp2_with fail
    refine wp_region_held_drew (S := (fun w' : World => w'.rangeAt V 0 (bvals p) ∧ (w'.cell? ⟨S, 0, none⟩ = some (.int .u8 o0) ∧ w'.cell? ⟨S, 1, none⟩ = some (.int .u8 o1) ∧ w'.cell? ⟨S, 2, none⟩ = some (.int .u8 o2) ∧ w'.cell? ⟨S, 3, none⟩ = some (.int .u8 o3) ∧ w'.cell? ⟨S, 4, none⟩ = some (.int .u8 o4) ∧ w'.cell? ⟨S, 5, none⟩ = some (.int .u8 o5) ∧ w'.cell? ⟨S, 6, none⟩ = some (.int .u8 o6) ∧ w'.cell? ⟨S, 7, none⟩ = some (.int .u8 o7)))) (by kernel_rfl) (by exact KF.out _ XX.out.drew) (fun hHeld => ?_)
    refine wpAnyH_take (i := 0) (v := ?_) rfl (by kernel_rfl) (by kernel_rfl) (by kernel_rfl) (fun _ _ _ h => h) (Or.inl ⟨by rfl, ?_⟩) (by assumption) ?_
    rotate_left
    · (intro w hSw; (try dsimp only at hSw); go_simp; try with_reducible rfl)
    simp only [Act.put, List.getElem_toArray, List.getElem_cons_zero, List.setIfInBounds_toArray, List.set_cons_zero, List.set_cons_succ]
    refine wpAnyH_take (i := 2) (v := ?_) rfl (by kernel_rfl) (by kernel_rfl) (by kernel_rfl) (fun _ _ _ h => h) (Or.inl ⟨by rfl, ?_⟩) (by assumption) ?_
    rotate_left
    · (intro w hSw; (try dsimp only at hSw); go_simp; try with_reducible rfl)
    simp only [Act.put, List.getElem_toArray, List.getElem_cons_succ, List.getElem_cons_zero, List.setIfInBounds_toArray, List.set_cons_zero, List.set_cons_succ]
    refine wpAnyH_take (i := 3) (v := ?_) rfl (by kernel_rfl) (by kernel_rfl) (by kernel_rfl) (fun _ _ _ h => h) (Or.inl ⟨by rfl, ?_⟩) (by assumption) ?_
    rotate_left
    · (intro w hSw; (try dsimp only at hSw); go_simp; try with_reducible rfl)
    simp only [Act.put, List.getElem_toArray, List.getElem_cons_succ, List.getElem_cons_zero, List.setIfInBounds_toArray, List.set_cons_zero, List.set_cons_succ]
    refine wpAnyH_take (i := 4) (v := ?_) rfl (by kernel_rfl) (by kernel_rfl) (by kernel_rfl) (fun _ _ _ h => h) (Or.inl ⟨by rfl, ?_⟩) (by assumption) ?_
    rotate_left
    · (intro w hSw; (try dsimp only at hSw); go_simp; try with_reducible rfl)
    simp only [Act.put, List.getElem_toArray, List.getElem_cons_succ, List.getElem_cons_zero, List.setIfInBounds_toArray, List.set_cons_zero, List.set_cons_succ]
    refine wpAnyH_take (i := 5) rfl (by kernel_rfl) (by kernel_rfl) (by kernel_rfl) (fun _ _ _ h => h) (yieldsIf_load_mid (by rfl) 30 (.tmp 10) rfl V 0 rfl (bvals p) _ (fun w h => h.1) hu30 rfl hi30) (by assumption) ?_
    simp only [Act.put, List.getElem_toArray, List.getElem_cons_succ, List.getElem_cons_zero, List.setIfInBounds_toArray, List.set_cons_zero, List.set_cons_succ]
    refine wpAnyH_take (i := 7) (v := ?_) rfl (by kernel_rfl) (by kernel_rfl) (by kernel_rfl) (fun _ _ _ h => h) (Or.inl ⟨by rfl, ?_⟩) (by assumption) ?_
    rotate_left
    · (intro w hSw; (try dsimp only at hSw); go_simp; try with_reducible rfl)
    simp only [Act.put, List.getElem_toArray, List.getElem_cons_succ, List.getElem_cons_zero, List.setIfInBounds_toArray, List.set_cons_zero, List.set_cons_succ]
    refine wpAnyH_take (i := 9) (v := ?_) rfl (by kernel_rfl) (by kernel_rfl) (by kernel_rfl) (fun _ _ _ h => h) (Or.inl ⟨by rfl, ?_⟩) (by assumption) ?_
    rotate_left
    · (intro w hSw; (try dsimp only at hSw); go_simp; try with_reducible rfl)
    simp only [Act.put, List.getElem_toArray, List.getElem_cons_succ, List.getElem_cons_zero, List.setIfInBounds_toArray, List.set_cons_zero, List.set_cons_succ]
    refine wpAnyH_take (i := 10) (v := ?_) rfl (by kernel_rfl) (by kernel_rfl) (by kernel_rfl) (fun _ _ _ h => h) (Or.inl ⟨by rfl, ?_⟩) (by assumption) ?_
    rotate_left
    · (intro w hSw; (try dsimp only at hSw); go_simp; try with_reducible rfl)
    simp only [Act.put, List.getElem_toArray, List.getElem_cons_succ, List.getElem_cons_zero, List.setIfInBounds_toArray, List.set_cons_zero, List.set_cons_succ]
    refine wpAnyH_take (i := 11) (v := ?_) rfl (by kernel_rfl) (by kernel_rfl) (by kernel_rfl) (fun _ _ _ h => h) (Or.inl ⟨by rfl, ?_⟩) (by assumption) ?_
    rotate_left
    · (intro w hSw; (try dsimp only at hSw); go_simp; try with_reducible rfl)
    simp only [Act.put, List.getElem_toArray, List.getElem_cons_succ, List.getElem_cons_zero, List.setIfInBounds_toArray, List.set_cons_zero, List.set_cons_succ]
    refine wpAnyH_take (i := 12) rfl (by kernel_rfl) (by kernel_rfl) (by kernel_rfl) (fun _ _ _ h => h) (yieldsIf_load_mid (by rfl) 30 (.tmp 10) rfl V 0 rfl (bvals p) _ (fun w h => h.1) hu30 rfl hi30) (by assumption) ?_
    simp only [Act.put, List.getElem_toArray, List.getElem_cons_succ, List.getElem_cons_zero, List.setIfInBounds_toArray, List.set_cons_zero, List.set_cons_succ]
    refine wpAnyH_ready (rs := [1]) (by kernel_rfl) (by simp) ?_
    refine AllReadyH.cons rfl (fun K hK => ?_) AllReadyH.nil
    go_simp
    go_at_call 12
    refine (G12.out _ (by first | exact XX.out | exact XX.out.drew)).mono ?_
    rintro e wa ⟨rfl, hba⟩
    have XN : Hid (Below w6.heap.size w6 wa) := (by first | exact XX.out.trans (hba.mono XX.out.size) | exact XX.out.drew.trans (hba.mono XX.out.drew.size))
    have KK := Lib.hid (KF.out wa XN.out)
    clear XX hba hHeld
    have XX := XN
    clear XN
    (try go_wp2_with fail)
    refine hK.out _ _ (by exact KK.out) (fun hHeld => ?_)
    clear hK K
    (try simp only [Act.put, List.getElem_toArray, List.getElem_cons_succ, List.getElem_cons_zero, List.setIfInBounds_toArray, List.set_cons_zero, List.set_cons_succ])
    refine wpAnyH_ready (rs := [6]) (by kernel_rfl) (by simp) ?_
    refine AllReadyH.cons rfl (fun K hK => ?_) AllReadyH.nil
    go_simp
    go_at_call 17
    refine (G17a.out _ (by first | exact XX.out | exact XX.out.drew)).mono ?_
    rintro e wa ⟨rfl, hba⟩
    have XN : Hid (Below w6.heap.size w6 wa) := (by first | exact XX.out.trans (hba.mono XX.out.size) | exact XX.out.drew.trans (hba.mono XX.out.drew.size))
    have KK := Lib.hid (KF.out wa XN.out)
    clear XX hba hHeld
    have XX := XN
    clear XN
    (try go_wp2_with fail)
    refine hK.out _ _ (by exact KK.out) (fun hHeld => ?_)
    clear hK K
    (try simp only [Act.put, List.getElem_toArray, List.getElem_cons_succ, List.getElem_cons_zero, List.setIfInBounds_toArray, List.set_cons_zero, List.set_cons_succ])
    refine wpAnyH_ready (rs := [8]) (by kernel_rfl) (by simp) ?_
    refine AllReadyH.cons rfl (fun K hK => ?_) AllReadyH.nil
    go_simp
    go_at_call 13
    refine (G13.out _ (by first | exact XX.out | exact XX.out.drew)).mono ?_
    rintro e wa ⟨rfl, hba⟩
    have XN : Hid (Below w6.heap.size w6 wa) := (by first | exact XX.out.trans (hba.mono XX.out.size) | exact XX.out.drew.trans (hba.mono XX.out.drew.size))
    have KK := Lib.hid (KF.out wa XN.out)
    clear XX hba hHeld
    have XX := XN
    clear XN
    (try go_wp2_with fail)
    refine hK.out _ _ (by exact KK.out) (fun hHeld => ?_)
    clear hK K
    (try simp only [Act.put, List.getElem_toArray, List.getElem_cons_succ, List.getElem_cons_zero, List.setIfInBounds_toArray, List.set_cons_zero, List.set_cons_succ])
    refine wpAnyH_ready (rs := [13]) (by kernel_rfl) (by simp) ?_
    refine AllReadyH.cons rfl (fun K hK => ?_) AllReadyH.nil
    go_simp
    go_at_call 18
    refine (G18.out _ (by first | exact XX.out | exact XX.out.drew)).mono ?_
    rintro e wa ⟨rfl, hba⟩
    have XN : Hid (Below w6.heap.size w6 wa) := (by first | exact XX.out.trans (hba.mono XX.out.size) | exact XX.out.drew.trans (hba.mono XX.out.drew.size))
    have KK := Lib.hid (KF.out wa XN.out)
    clear XX hba hHeld
    have XX := XN
    clear XN
    (try go_wp2_with fail)
    refine hK.out _ _ (by exact KK.out) (fun hHeld => ?_)
    clear hK K
    (try simp only [Act.put, List.getElem_toArray, List.getElem_cons_succ, List.getElem_cons_zero, List.setIfInBounds_toArray, List.set_cons_zero, List.set_cons_succ])
    refine wpAnyH_take (i := 14) (v := ?_) rfl (by kernel_rfl) (by kernel_rfl) (by kernel_rfl) (fun _ _ _ h => h) (Or.inl ⟨by rfl, ?_⟩) (by assumption) ?_
    rotate_left
    · (intro w hSw; (try dsimp only at hSw); go_simp; try with_reducible rfl)
    simp only [Act.put, List.getElem_toArray, List.getElem_cons_succ, List.getElem_cons_zero, List.setIfInBounds_toArray, List.set_cons_zero, List.set_cons_succ]
    refine wpAnyH_take (i := 15) (v := ?_) rfl (by kernel_rfl) (by kernel_rfl) (by kernel_rfl) (fun _ _ _ h => h) (Or.inl ⟨by rfl, ?_⟩) (by assumption) ?_
    rotate_left
    · (intro w hSw; (try dsimp only at hSw); go_simp; try with_reducible rfl)
    simp only [Act.put, List.getElem_toArray, List.getElem_cons_succ, List.getElem_cons_zero, List.setIfInBounds_toArray, List.set_cons_zero, List.set_cons_succ]
    refine wpAnyH_take (i := 16) (v := ?_) rfl (by kernel_rfl) (by kernel_rfl) (by kernel_rfl) (fun _ _ _ h => h) (Or.inl ⟨by rfl, ?_⟩) (by assumption) ?_
    rotate_left
    · (intro w hSw; (try dsimp only at hSw); go_simp; try with_reducible rfl)
    simp only [Act.put, List.getElem_toArray, List.getElem_cons_succ, List.getElem_cons_zero, List.setIfInBounds_toArray, List.set_cons_zero, List.set_cons_succ]
    refine wpAnyH_take (i := 18) (v := ?_) rfl (by kernel_rfl) (by kernel_rfl) (by kernel_rfl) (fun _ _ _ h => h) (Or.inl ⟨by rfl, ?_⟩) (by assumption) ?_
    rotate_left
    · (intro w hSw; (try dsimp only at hSw); go_simp; try with_reducible rfl)
    simp only [Act.put, List.getElem_toArray, List.getElem_cons_succ, List.getElem_cons_zero, List.setIfInBounds_toArray, List.set_cons_zero, List.set_cons_succ]
    refine wpAnyH_take (i := 19) rfl (by kernel_rfl) (by kernel_rfl) (by kernel_rfl) (fun _ _ _ h => h) (yieldsIf_load_mid (by rfl) 30 (.tmp 10) rfl V 0 rfl (bvals p) _ (fun w h => h.1) hu30 rfl hi30) (by assumption) ?_
    simp only [Act.put, List.getElem_toArray, List.getElem_cons_succ, List.getElem_cons_zero, List.setIfInBounds_toArray, List.set_cons_zero, List.set_cons_succ]
    refine wpAnyH_ready (rs := [17]) (by kernel_rfl) (by simp) ?_
    refine AllReadyH.cons rfl (fun K hK => ?_) AllReadyH.nil
    go_simp
    go_at_call 12
    refine (G12.out _ (by first | exact XX.out | exact XX.out.drew)).mono ?_
    rintro e wa ⟨rfl, hba⟩
    have XN : Hid (Below w6.heap.size w6 wa) := (by first | exact XX.out.trans (hba.mono XX.out.size) | exact XX.out.drew.trans (hba.mono XX.out.drew.size))
    have KK := Lib.hid (KF.out wa XN.out)
    clear XX hba hHeld
    have XX := XN
    clear XN
    (try go_wp2_with fail)
    refine hK.out _ _ (by exact KK.out) (fun hHeld => ?_)
    clear hK K
    (try simp only [Act.put, List.getElem_toArray, List.getElem_cons_succ, List.getElem_cons_zero, List.setIfInBounds_toArray, List.set_cons_zero, List.set_cons_succ])
    refine wpAnyH_ready (rs := [20]) (by kernel_rfl) (by simp) ?_
    refine AllReadyH.cons rfl (fun K hK => ?_) AllReadyH.nil
    go_simp
    go_at_call 17
    refine (G17m.out _ (by first | exact XX.out | exact XX.out.drew)).mono ?_
    rintro e wa ⟨rfl, hba⟩
    have XN : Hid (Below w6.heap.size w6 wa) := (by first | exact XX.out.trans (hba.mono XX.out.size) | exact XX.out.drew.trans (hba.mono XX.out.drew.size))
    have KK := Lib.hid (KF.out wa XN.out)
    clear XX hba hHeld
    have XX := XN
    clear XN
    (try go_wp2_with fail)
    refine hK.out _ _ (by exact KK.out) (fun hHeld => ?_)
    clear hK K
    (try simp only [Act.put, List.getElem_toArray, List.getElem_cons_succ, List.getElem_cons_zero, List.setIfInBounds_toArray, List.set_cons_zero, List.set_cons_succ])
    refine wpAnyH_take (i := 21) (v := ?_) rfl (by kernel_rfl) (by kernel_rfl) (by kernel_rfl) (fun _ _ _ h => h) (Or.inl ⟨by rfl, ?_⟩) (by assumption) ?_
    rotate_left
    · (intro w hSw; (try dsimp only at hSw); go_simp; try with_reducible rfl)
    simp only [Act.put, List.getElem_toArray, List.getElem_cons_succ, List.getElem_cons_zero, List.setIfInBounds_toArray, List.set_cons_zero, List.set_cons_succ]
    refine wpAnyH_take (i := 22) (v := ?_) rfl (by kernel_rfl) (by kernel_rfl) (by kernel_rfl) (fun _ _ _ h => h) (Or.inl ⟨by rfl, ?_⟩) (by assumption) ?_
    rotate_left
    · (intro w hSw; (try dsimp only at hSw); go_simp; try with_reducible rfl)
    simp only [Act.put, List.getElem_toArray, List.getElem_cons_succ, List.getElem_cons_zero, List.setIfInBounds_toArray, List.set_cons_zero, List.set_cons_succ]
    refine wpAnyH_take (i := 23) (v := ?_) rfl (by kernel_rfl) (by kernel_rfl) (by kernel_rfl) (fun _ _ _ h => h) (Or.inl ⟨by rfl, ?_⟩) (by assumption) ?_
    rotate_left
    · (intro w hSw; (try dsimp only at hSw); go_simp; try with_reducible rfl)
    simp only [Act.put, List.getElem_toArray, List.getElem_cons_succ, List.getElem_cons_zero, List.setIfInBounds_toArray, List.set_cons_zero, List.set_cons_succ]
    refine wpAnyH_take (i := 24) (v := ?_) rfl (by kernel_rfl) (by kernel_rfl) (by kernel_rfl) (fun _ _ _ h => h) (Or.inl ⟨by rfl, ?_⟩) (by assumption) ?_
    rotate_left
    · (intro w hSw; (try dsimp only at hSw); go_simp; try with_reducible rfl)
    simp only [Act.put, List.getElem_toArray, List.getElem_cons_succ, List.getElem_cons_zero, List.setIfInBounds_toArray, List.set_cons_zero, List.set_cons_succ]
    refine wpAnyH_take (i := 26) (v := ?_) rfl (by kernel_rfl) (by kernel_rfl) (by kernel_rfl) (fun _ _ _ h => h) (Or.inl ⟨by rfl, ?_⟩) (by assumption) ?_
    rotate_left
    · (intro w hSw; (try dsimp only at hSw); go_simp; try with_reducible rfl)
    simp only [Act.put, List.getElem_toArray, List.getElem_cons_succ, List.getElem_cons_zero, List.setIfInBounds_toArray, List.set_cons_zero, List.set_cons_succ]
    refine wpAnyH_take (i := 27) rfl (by kernel_rfl) (by kernel_rfl) (by kernel_rfl) (fun _ _ _ h => h) (yieldsIf_load_mid (by rfl) 30 (.tmp 10) rfl V 0 rfl (bvals p) _ (fun w h => h.1) hu30 rfl hi30) (by assumption) ?_
    simp only [Act.put, List.getElem_toArray, List.getElem_cons_succ, List.getElem_cons_zero, List.setIfInBounds_toArray, List.set_cons_zero, List.set_cons_succ]
    refine wpAnyH_ready (rs := [25]) (by kernel_rfl) (by simp) ?_
    refine AllReadyH.cons rfl (fun K hK => ?_) AllReadyH.nil
    go_simp
    go_at_call 12
    refine (G12.out _ (by first | exact XX.out | exact XX.out.drew)).mono ?_
    rintro e wa ⟨rfl, hba⟩
    have XN : Hid (Below w6.heap.size w6 wa) := (by first | exact XX.out.trans (hba.mono XX.out.size) | exact XX.out.drew.trans (hba.mono XX.out.drew.size))
    have KK := Lib.hid (KF.out wa XN.out)
    clear XX hba hHeld
    have XX := XN
    clear XN
    (try go_wp2_with fail)
    refine hK.out _ _ (by exact KK.out) (fun hHeld => ?_)
    clear hK K
    (try simp only [Act.put, List.getElem_toArray, List.getElem_cons_succ, List.getElem_cons_zero, List.setIfInBounds_toArray, List.set_cons_zero, List.set_cons_succ])
    refine wpAnyH_ready (rs := [28]) (by kernel_rfl) (by simp) ?_
    refine AllReadyH.cons rfl (fun K hK => ?_) AllReadyH.nil
    go_simp
    go_at_call 17
    refine (G17h.out _ (by first | exact XX.out | exact XX.out.drew)).mono ?_
    rintro e wa ⟨rfl, hba⟩
    have XN : Hid (Below w6.heap.size w6 wa) := (by first | exact XX.out.trans (hba.mono XX.out.size) | exact XX.out.drew.trans (hba.mono XX.out.drew.size))
    have KK := Lib.hid (KF.out wa XN.out)
    clear XX hba hHeld
    have XX := XN
    clear XN
    (try go_wp2_with fail)
    refine hK.out _ _ (by exact KK.out) (fun hHeld => ?_)
    clear hK K
    (try simp only [Act.put, List.getElem_toArray, List.getElem_cons_succ, List.getElem_cons_zero, List.setIfInBounds_toArray, List.set_cons_zero, List.set_cons_succ])
    refine wpAnyH_take (i := 29) (v := ?_) rfl (by kernel_rfl) (by kernel_rfl) (by kernel_rfl) (fun _ _ _ h => h) (Or.inl ⟨by rfl, ?_⟩) (by assumption) ?_
    rotate_left
    · (intro w hSw; (try dsimp only at hSw); go_simp; try with_reducible rfl)
    simp only [Act.put, List.getElem_toArray, List.getElem_cons_succ, List.getElem_cons_zero, List.setIfInBounds_toArray, List.set_cons_zero, List.set_cons_succ]
    refine wpAnyH_take (i := 30) (v := ?_) rfl (by kernel_rfl) (by kernel_rfl) (by kernel_rfl) (fun _ _ _ h => h) (Or.inl ⟨by rfl, ?_⟩) (by assumption) ?_
    rotate_left
    · (intro w hSw; (try dsimp only at hSw); go_simp; try with_reducible rfl)
    simp only [Act.put, List.getElem_toArray, List.getElem_cons_succ, List.getElem_cons_zero, List.setIfInBounds_toArray, List.set_cons_zero, List.set_cons_succ]
    refine wpAnyH_take (i := 31) (v := ?_) rfl (by kernel_rfl) (by kernel_rfl) (by kernel_rfl) (fun _ _ _ h => h) (Or.inl ⟨by rfl, ?_⟩) (by assumption) ?_
    rotate_left
    · (intro w hSw; (try dsimp only at hSw); go_simp; try with_reducible rfl)
    simp only [Act.put, List.getElem_toArray, List.getElem_cons_succ, List.getElem_cons_zero, List.setIfInBounds_toArray, List.set_cons_zero, List.set_cons_succ]
    refine wpAnyH_done (by kernel_rfl) ?_ _
    go_wp2
    go_ret
    exact ⟨rfl, by rw [HS.out]; exact BF.out _ (XF.out _ XX.out)⟩
end Go.Proofs.YtgagcblddcibkaaDoor
