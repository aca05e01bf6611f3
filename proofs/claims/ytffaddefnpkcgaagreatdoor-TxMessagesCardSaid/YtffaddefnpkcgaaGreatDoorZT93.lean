/-
  TxMessages, where there is something to sign.
-/
import Derived.Test.YtffaddefnpkcgaaGreatDoorZT92
import Derived.Test.YtffaddefnpkcgaaGreatDoorZW
namespace Go.Proofs.YtffaddefnpkcgaaGreatDoor
open Go.RowKit
set_option maxRecDepth 100000
theorem inAt_k2 {w : World} {U g c n : Nat} {t : TxP} {h : TxH} (hb : BL w U (txC t (inAt h g c)) 39) (hn : t.ins.length = n) : w.cell? ⟨U, 2, none⟩ = some (.slice (some ⟨g, 0, none⟩) n c) := by
  have := txk2 hb
  rwa [hn] at this
attribute [local irreducible] ua da ba kk sw S8.run rt hs comp splice outB sha msg zeros win bvals vals parC cerC claC txC cel seg hash1 hash2 hash3 encT mayT fewB DigP flat certT sgnT sgnH inAt msgB msgP digs rcd
set_option maxHeartbeats 16000000 in
theorem p9_1 (x : TxP) (h : TxH) (i : Int) (sg : List Int) (w : World) (hx : WfT x) (mx : Mem w x h) (hk : Keys w) (hs : okT okA sigS sg) (e1 : fewB x = true) (hlo : ¬ cel sg 0 < 0) (hhi : ¬ 255 < cel sg 0) (e2 : msgB x i = true) :
    Calls Tryz.prog 6 #[.agg (txC x h).toArray, .int .i64 i, .agg (vals sigS sg).toArray] w fun e w' => e = .returned (.bool true) ∧ Below w.heap.size w w' := by
  obtain ⟨S, hS⟩ : ∃ S, w.heap.size = S := ⟨_, rfl⟩
  have HS := Lib.hid hS
  have CC0 := c2_of w x h sg i hx mx hk hs
  have V0 := v2_0 w x h sg
  rw [hS] at CC0 V0
  have AW := Lib.hid CC0.aw
  have FX := Lib.hid CC0.fx
  rw [e1] at FX
  have V := Lib.hid V0
  have HI : Hid ((Tryz.prog.info? 39).map (·.size) = some (txC x h).length) := szL i39 (txC_len h hx)
  have KS : Hid (∀ w', V2 S w x h sg w' → w'.cell? ⟨S + 1, 0, none⟩ = some (.int .i64 (cel sg 0))) := Lib.hid fun w' v => sig_0 v.s hs
  have MT := Lib.hid (CC0.mt e1)
  have MD := Lib.hid (CC0.md e1)
  rw [e2] at MT MD
  have CT := Lib.hid CC0.ct
  have CD := Lib.hid (CC0.cd e1)
  have CS := Lib.hid CC0.cs
  have PT := Lib.hid CC0.pt
  have HP : Hid ((msgP x i).length = 8) := Lib.hid (msgP_len x i)
  have HD : Hid ((DigP (certT x) (hash1 99)).length = 8) := digP_len (hash1_len _ _)
  have HT := Lib.hid hx
  have HSG := Lib.hid hs
  have HVS : Hid ((vals sigS sg).length = 281) := Lib.hid ((vals_len (okT_len hs)).trans sgl281)
  have ISG : Hid ((Tryz.prog.info? 58).map (·.size) = some (vals sigS sg).length) := szL i58 HVS.out
  have L21 : Hid ((cerC x h).length = 21) := cerC_len h hx
  have L20 : Hid ((cerC tx0 hd0).length = 21) := cerC_len _ wf_tx0
  have L22 : Hid (∀ g, (cerC (sgnT x sg) (sgnH h g)).length = 21) := Lib.hid fun g => cerC_len _ (sgnT_wf hx hs)
  have OC1 : Hid (∀ v ∈ cerC x h, v.oneCell' = true) := cerC_one x h
  have LSN : Hid ((vals sgnS (1 :: sg)).length = 282) := Lib.hid (vals_len (okT_len (sgn_ok hs)))
  have HS1 : Hid (sg.length = 281) := Lib.hid ((okT_len hs).trans sgl281)
  have HEN : Hid ((seg x.cer 3 8).length = 8) := Lib.hid (sgT_len hx)
  have MS0 := CC0.ms e1
  obtain ⟨k, hki, hkn, hn8, hkk2⟩ : ∃ k : Nat, i = k ∧ k < x.ins.length ∧ x.ins.length ≤ 8 ∧ x.kind = 2 := by
    have hb := e2
    unfold msgB at hb
    rw [Bool.and_eq_true, Bool.and_eq_true, decide_eq_true_iff] at hb
    have h1 := win_iff.1 hb.2.2
    have h2 := may_ins hb.2.1 hb.1
    exact ⟨i.toNat, by omega, by omega, h2.2, hb.1⟩
  have MS := Lib.hid (MS0 k hki e2 ⟨by omega, by omega⟩)
  subst hki
  obtain ⟨n, hn⟩ : ∃ n, x.ins.length = n := ⟨_, rfl⟩
  have HN := Lib.hid hn
  rw [hn] at hkn hn8
  obtain ⟨b, o, hA, hrow⟩ := lrow_at mx.i (by omega)
  obtain ⟨c, hc⟩ : ∃ c, h.i.c = c := ⟨_, rfl⟩
  have hbS : b < S := by
    rw [← hS]
    have h0 := hrow 0 (by omega)
    have hl := (lrow_len hx.ins (show 0 < x.ins.length by omega)).trans in298
    exact World.block_lt_of_cell? w _ (in_at h0 hl).2.1
  have KI : Hid (∀ w' hh, BL w' S (txC x hh) 39 → hh = h → w'.cell? ⟨S, 2, none⟩ = some (.slice (some ⟨b, o, none⟩) n c)) := Lib.hid fun w' hh hb e => by
    subst e
    have := txk2 hb
    rwa [hA, hn, hc] at this
  have FR : Hid (∀ w', Below S w w' → w'.rangeAt b o (flat inS x.ins)) := Lib.hid fun w' hb => flat_rng hx.ins fun j hj => range_keep1 (hrow j hj) (hb.block b hbS)
  have FL : Hid ((flat inS x.ins).length = n * 298) := Lib.hid (by rw [flat_len hx.ins, hn, in298])
  have F1 : Hid (∀ v ∈ flat inS x.ins, v.oneCell' = true) := flat_one _ _
  have XL : Hid (∀ hh, (txC x hh).length = 170) := Lib.hid fun hh => txC_len hh hx
  have X0L : Hid ((txC tx0 hd0).length = 170) := txC_len _ wf_tx0
  have TX1 : Hid (∀ hh, ∀ v ∈ txC x hh, v.oneCell' = true) := Lib.hid fun hh => txC_one x hh
  have SG1 : Hid (∀ v ∈ vals sigS sg, v.oneCell' = true) := vals_one _ _
  have hkn2 : (k : Int) < (n : Int) := by omega
  have hk0 : (0 : Int) ≤ (k : Int) := by omega
  clear hn hrow hA hc hbS MS0 hkk2
  clear hx mx hk CC0 V0 e1 e2 hs
  generalize msgP x k = p at *
  generalize DigP (certT x) (hash1 99) = d at *
  generalize mayT (certT x) = cm at *
  go_enter Tryz.func6, Tryz.ntmps6
  go_upto_region 1 with (fail)
  generalize ((w.alloc (Obj.cells (txC x h).toArray 39)).alloc (Obj.cells (vals sigS sg).toArray 58)) = v at *
  clear hS
  go_upto_region 5 with (first
      | (go_at_call 9; refine (AW.out _ V.out).mono ?_; rintro e w' ⟨rfl, hb⟩; have V := Lib.hid (V.out.step hb); clear hb)
      | (refine wpList_load_midG (by rfl) 39 (.tmp 3) rfl S 0 rfl (txC x h) _ (range_of V.out.x) Tryz.underlying39 rfl HI.out ?_)
      | (go_at_call 10; refine (FX.out _ V.out).mono ?_; rintro e w' ⟨rfl, hb⟩; have V := Lib.hid (V.out.step hb); have ks := KS.out _ V.out; clear hb)
      | fail)
  have hz := z29b
  go_upto_region 6 with (first
      | (refine wpList_load_midG (by rfl) 39 (.tmp 3) rfl S 0 rfl (txC x h) _ (range_of V.out.x) Tryz.underlying39 rfl HI.out ?_)
      | (go_at_call 22; refine (MT.out _ V.out).mono ?_; rintro e w0 ⟨rfl, hb⟩; have V := Lib.hid (V.out.step hb); have XE : Hid (BL (w0.alloc (Obj.cells (bvals (zeros 8)).toArray 29)) w0.heap.size (bvals (zeros 8)) 29) := Lib.hid (heap_alloc_last w0 _); clear hb)
      | (refine wpList_store_rowTo rfl 29 (.tmp 7) (.tmp 40) rfl rfl w0.heap.size (bvals p).toArray rfl rfl 29 (bvals (zeros 8)).toArray XE.out (szA i29 (bv8s HP.out)) (by rw [List.size_toArray, List.size_toArray, bv8s HP.out, bv8s (zeros_len 8)]) (all_oneCell_toArray (bv_one _)) ?_)
      | fail)
  have hb2 : Below w0.heap.size w0 ((w0.alloc (Obj.cells (bvals (zeros 8)).toArray 29)).setRow w0.heap.size (bvals p).toArray) := below_setRow ((Below.refl _ w0).alloc (Nat.le_refl _) (Obj.cells (bvals (zeros 8)).toArray 29)) (Nat.le_refl _) (bvals p).toArray
  have V := Lib.hid (V.out.step hb2)
  have XA : Hid (BL ((w0.alloc (Obj.cells (bvals (zeros 8)).toArray 29)).setRow w0.heap.size (bvals p).toArray) w0.heap.size (bvals p) 29) := Lib.hid (setRow_heap _ _ _ _ _ _ XE.out)
  clear hz hb2 XE
  generalize w0.heap.size = DA at *
  generalize ((w0.alloc (Obj.cells (bvals (zeros 8)).toArray 29)).setRow DA (bvals p).toArray) = w1 at *
  have hz := z29b
  go_upto_region 7 with (first
      | (refine wpList_load_midG (by rfl) 39 (.tmp 3) rfl S 0 rfl (txC x h) _ (range_of V.out.x) Tryz.underlying39 rfl HI.out ?_)
      | (go_at_call 23; refine (MD.out _ V.out).mono ?_; rintro e w2 ⟨rfl, hb⟩; have V := Lib.hid (V.out.step hb); replace XA := Lib.hid (bl_keep XA.out (hb.block DA (bl_lt XA.out))); have XE : Hid (BL (w2.alloc (Obj.cells (bvals (zeros 8)).toArray 29)) w2.heap.size (bvals (zeros 8)) 29) := Lib.hid (heap_alloc_last w2 _); clear hb)
      | (refine wpList_store_rowTo rfl 29 (.tmp 9) (.tmp 46) rfl rfl w2.heap.size (bvals p).toArray rfl rfl 29 (bvals (zeros 8)).toArray XE.out (szA i29 (bv8s HP.out)) (by rw [List.size_toArray, List.size_toArray, bv8s HP.out, bv8s (zeros_len 8)]) (all_oneCell_toArray (bv_one _)) ?_)
      | fail)
  have hb2 : Below w2.heap.size w2 ((w2.alloc (Obj.cells (bvals (zeros 8)).toArray 29)).setRow w2.heap.size (bvals p).toArray) := below_setRow ((Below.refl _ w2).alloc (Nat.le_refl _) (Obj.cells (bvals (zeros 8)).toArray 29)) (Nat.le_refl _) (bvals p).toArray
  have V := Lib.hid (V.out.step hb2)
  replace XA := Lib.hid (bl_keep XA.out (hb2.block DA (bl_lt XA.out)))
  have XB : Hid (BL ((w2.alloc (Obj.cells (bvals (zeros 8)).toArray 29)).setRow w2.heap.size (bvals p).toArray) w2.heap.size (bvals p) 29) := Lib.hid (setRow_heap _ _ _ _ _ _ XE.out)
  clear hz hb2 XE
  generalize w2.heap.size = DB at *
  generalize ((w2.alloc (Obj.cells (bvals (zeros 8)).toArray 29)).setRow DB (bvals p).toArray) = w3 at *
  rename_i K7 hK7
  refine wp_region_lit ?_
  refine wpList_load_midG (by rfl) 29 (.tmp 7) rfl DA 0 rfl (bvals p) _ (range_of XA.out) Tryz.underlying29 rfl (szL i29 (bv8s HP.out)) ?_
  simp only [Act.put, ly4, ly5, ly6]
  refine wpList_load_midG (by rfl) 29 (.tmp 9) rfl DB 0 rfl (bvals p) _ (range_of XB.out) Tryz.underlying29 rfl (szL i29 (bv8s HP.out)) ?_
  simp only [Act.put, ly4, ly5, ly6]
  refine wpList_t (by rfl) (run_neqH HP.out rfl rfl rfl) ?_
  simp only [Act.put, ly4, ly5, ly6]
  go_upto_region 10 with fail
  have DA0 : Hid (DA < w3.heap.size) := Lib.hid (bl_lt XA.out)
  have DB0 : Hid (DB < w3.heap.size) := Lib.hid (bl_lt XB.out)
  have hz := z39
  have XN : Hid (BL (w3.alloc (Obj.cells (txC tx0 hd0).toArray 39)) w3.heap.size (txC tx0 hd0) 39) := Lib.hid (heap_alloc_last w3 _)
  go_upto_region 11 with (first
      | (refine wpList_load_midG (by rfl) 39 (.tmp 3) rfl S 0 rfl (txC x h) _ (range_of V.out.x) Tryz.underlying39 rfl HI.out ?_)
      | (refine wpList_store_rowTo rfl 39 (.tmp 11) (.tmp 57) rfl rfl w3.heap.size (txC x h).toArray rfl rfl 39 (txC tx0 hd0).toArray XN.out (szA i39 (XL.out h)) (by rw [List.size_toArray, List.size_toArray, XL.out h, X0L.out]) (all_oneCell_toArray (TX1.out h)) ?_)
      | fail)
  have hb2 := below_setRow ((Below.refl _ w3).alloc (Nat.le_refl _) (Obj.cells (txC tx0 hd0).toArray 39)) (Nat.le_refl _) (txC x h).toArray
  have SU : Hid (S + 2 ≤ w3.heap.size) := Lib.hid V.out.sz
  have V := Lib.hid (V.out.step hb2)
  replace XA := Lib.hid (bl_keep XA.out (hb2.block DA (bl_lt XA.out)))
  replace XB := Lib.hid (bl_keep XB.out (hb2.block DB (bl_lt XB.out)))
  have XU : Hid (BL ((w3.alloc (Obj.cells (txC tx0 hd0).toArray 39)).setRow w3.heap.size (txC x h).toArray) w3.heap.size (txC x h) 39) := Lib.hid (setRow_heap _ _ _ _ _ _ XN.out)
  clear hz hb2 XN
  generalize w3.heap.size = U at *
  generalize ((w3.alloc (Obj.cells (txC tx0 hd0).toArray 39)).setRow U (txC x h).toArray) = wa at *
  have UN : Hid (U < wa.heap.size) := Lib.hid (bl_lt XU.out)
  have DAU : Hid (DA < U) := Lib.hid DA0.out
  have DBU : Hid (DB < U) := Lib.hid DB0.out
  have kk := KI.out _ _ V.out.x rfl
  have OW1 : Hid ((wa.alloc (.cells #[] 63)).ownsRow wa.heap.size 63 298 (.slice (some ⟨wa.heap.size, 0, none⟩) 0 0) 0 []) := Lib.hid ⟨rfl, .inr ⟨wa.heap.size, 0, #[], rfl, Nat.le_refl _, heap_alloc_last wa _, Nat.le_refl _, by unfold maxLen; omega, rfl, rfl⟩⟩
  have R1 : Hid ((wa.alloc (.cells #[] 63)).rangeAt b o (flat inS x.ins)) := Lib.hid (range_keep (FR.out _ V.out.bel) (Below.heap_alloc wa _))
  have kk2 : (wa.alloc (.cells #[] 63)).cell? ⟨S, 2, none⟩ = some (.slice (some ⟨b, o, none⟩) n c) := KI.out _ _ (bl_keep V.out.x (Below.heap_alloc wa _ _ (bl_lt V.out.x))) rfl
  go_upto_region 12 with (first
      | (refine wpList_bsI (by rfl) rfl ?_)
      | (at_builtin; refine wpList_apI rfl (.tmp 58) (.tmp 60) rfl wa.heap.size 0 (.slice (some ⟨wa.heap.size, 0, none⟩) 0 0) [] rfl OW1.out b o n c (flat inS x.ins) rfl FL.out R1.out F1.out (by omega) (by simp) ?_; intro A2 c2 wb hown hg; have OW := Lib.hid hown; have BG : Hid (Below wa.heap.size wa wb) := Lib.hid (((Below.refl _ wa).alloc (Nat.le_refl _) _).grown hg (by simp) (fun q hq => by simp [Value.ownBlock] at hq; omega)); have f2 : wb.frozen? ⟨U, 2, none⟩ = false := bl_free (bl_keep XU.out (BG.out.block U (bl_lt XU.out))) 2; have k2u : ∃ u, wb.cell? ⟨U, 2, none⟩ = some u := ⟨_, range_cell (range_of (bl_keep XU.out (BG.out.block U (bl_lt XU.out)))) (i := 2) (List.getElem?_eq_getElem (by rw [XL.out h]; omega))⟩; obtain ⟨u2, k2u⟩ := k2u; clear hown hg)
      | fail)
  clear kk kk2 k2u f2 OW1 R1
  have h2 := OW.out
  rw [Nat.zero_add, List.nil_append] at h2
  obtain ⟨g, pad, rfl, h3⟩ := ownI_of h2 (by omega) HN.out
  have OI := Lib.hid h3
  clear h2 h3 OW
  have V := Lib.hid (V.out.step BG.out)
  replace XA := Lib.hid (bl_keep XA.out (BG.out.block DA (bl_lt XA.out)))
  replace XB := Lib.hid (bl_keep XB.out (BG.out.block DB (bl_lt XB.out)))
  replace XU := Lib.hid (bl_keep XU.out (BG.out.block U (bl_lt XU.out)))
  have GS : Hid (U < g ∧ S + 2 ≤ g) := Lib.hid (by have h1 := OI.out.ge; have h2 := V.out.sz; have h4 := bl_lt XU.out; have h5 := UN.out; have h6 := SU.out; omega)
  have X2 : Hid (BL (wb.setCell ⟨U, 2, none⟩ (.slice (some ⟨g, 0, none⟩) n c2)) U (txC x (inAt h g c2)) 39) := Lib.hid (inAt_bl XU.out HN.out)
  have G2 : Hid (BL (wb.setCell ⟨U, 2, none⟩ (.slice (some ⟨g, 0, none⟩) n c2)) g (flat inS x.ins ++ pad) 63) := Lib.hid (bl_keep OI.out.bl (heap_setCell_other _ _ _ _ (show g ≠ U by have := GS.out; omega)))
  have V := Lib.hid (V.out.set SU.out 2 (.slice (some ⟨g, 0, none⟩) n c2))
  replace XA := Lib.hid (bl_keep XA.out (heap_setCell_other _ (⟨U, 2, none⟩ : Addr) DA (.slice (some ⟨g, 0, none⟩) n c2) (show DA ≠ U by have := DAU.out; omega)))
  replace XB := Lib.hid (bl_keep XB.out (heap_setCell_other _ (⟨U, 2, none⟩ : Addr) DB (.slice (some ⟨g, 0, none⟩) n c2) (show DB ≠ U by have := DBU.out; omega)))
  have LE2 : Hid (n ≤ c2 ∧ c2 ≤ maxLen) := Lib.hid ⟨OI.out.le, OI.out.mx⟩
  have hnc2 : n ≤ c2 := LE2.out.1
  have k2 : (wb.setCell ⟨U, 2, none⟩ (.slice (some ⟨g, 0, none⟩) n c2)).cell? ⟨U, 2, none⟩ = some (.slice (some ⟨g, 0, none⟩) n c2) := by
    exact inAt_k2 X2.out HN.out
  clear XU BG OI
  generalize (wb.setCell ⟨U, 2, none⟩ (.slice (some ⟨g, 0, none⟩) n c2)) = wd at *
  have hkl : Hid (k < x.ins.length) := Lib.hid (by rw [HN.out]; exact hkn)
  have TH : Hid (wd.there g (k * 298 + 17) (vals sigS sg).toArray.size) := Lib.hid (bl_there G2.out (by rw [List.size_toArray]; exact sig_room HT.out.ins HSG.out hkl.out))
  go_upto_region 13 with (first
      | (refine wpList_load_midG (by rfl) 58 (.tmp 5) rfl (S + 1) 0 rfl (vals sigS sg) _ (range_of V.out.s) Tryz.underlying58 rfl ISG.out ?_)
      | (refine wpList_store_mid rfl 58 (.tmp 68) (.tmp 66) rfl g (k * 298 + 17) (vals sigS sg).toArray rfl rfl TH.out (szA i58 HVS.out) (all_oneCell_toArray SG1.out) ?_)
      | fail)
  clear k2
  have BS : Hid (Below g wd (wd.setCells g (k * 298 + 17) (vals sigS sg))) := Lib.hid (below_sets (vals sigS sg) (k * 298 + 17) (Below.refl g wd) (Nat.le_refl _))
  have G3 := Lib.hid (flat_set G2.out HT.out.ins HSG.out hkl.out)
  have V := Lib.hid (V.out.from GS.out.2 BS.out)
  replace X2 := Lib.hid (bl_keep X2.out (BS.out.block U GS.out.1))
  replace XA := Lib.hid (bl_keep XA.out (BS.out.block DA (by have := DAU.out; have := GS.out; omega)))
  replace XB := Lib.hid (bl_keep XB.out (BS.out.block DB (by have := DBU.out; have := GS.out; omega)))
  clear G2 TH BS
  generalize (wd.setCells g (k * 298 + 17) (vals sigS sg)) = we at *
  have hz := z29b
  go_upto_region 14 with (first
      | (refine wpList_load_midG (by rfl) 39 (.tmp 11) rfl U 0 rfl (txC x (inAt h g c2)) _ (range_of X2.out) Tryz.underlying39 rfl (szL i39 (XL.out (inAt h g c2))) ?_)
      | (go_at_call 22; refine (MS.out _ g c2 pad V.out G3.out (by rw [HN.out]; exact LE2.out.1) LE2.out.2).mono ?_; rintro e w4 ⟨rfl, hb⟩; have V := Lib.hid (V.out.step hb); replace XA := Lib.hid (bl_keep XA.out (hb.block DA (bl_lt XA.out))); replace XB := Lib.hid (bl_keep XB.out (hb.block DB (bl_lt XB.out))); replace X2 := Lib.hid (bl_keep X2.out (hb.block U (bl_lt X2.out))); have XE : Hid (BL (w4.alloc (Obj.cells (bvals (zeros 8)).toArray 29)) w4.heap.size (bvals (zeros 8)) 29) := Lib.hid (heap_alloc_last w4 _); clear hb)
      | (refine wpList_store_rowTo rfl 29 (.tmp 12) (.tmp 73) rfl rfl w4.heap.size (bvals p).toArray rfl rfl 29 (bvals (zeros 8)).toArray XE.out (szA i29 (bv8s HP.out)) (by rw [List.size_toArray, List.size_toArray, bv8s HP.out, bv8s (zeros_len 8)]) (all_oneCell_toArray (bv_one _)) ?_)
      | fail)
  have hb2 : Below w4.heap.size w4 ((w4.alloc (Obj.cells (bvals (zeros 8)).toArray 29)).setRow w4.heap.size (bvals p).toArray) := below_setRow ((Below.refl _ w4).alloc (Nat.le_refl _) (Obj.cells (bvals (zeros 8)).toArray 29)) (Nat.le_refl _) (bvals p).toArray
  have V := Lib.hid (V.out.step hb2)
  replace XA := Lib.hid (bl_keep XA.out (hb2.block DA (bl_lt XA.out)))
  replace XB := Lib.hid (bl_keep XB.out (hb2.block DB (bl_lt XB.out)))
  replace X2 := Lib.hid (bl_keep X2.out (hb2.block U (bl_lt X2.out)))
  have XG : Hid (BL ((w4.alloc (Obj.cells (bvals (zeros 8)).toArray 29)).setRow w4.heap.size (bvals p).toArray) w4.heap.size (bvals p) 29) := Lib.hid (setRow_heap _ _ _ _ _ _ XE.out)
  clear hz hb2 XE
  generalize w4.heap.size = DG at *
  generalize ((w4.alloc (Obj.cells (bvals (zeros 8)).toArray 29)).setRow DG (bvals p).toArray) = w5 at *
  clear G3
  rename_i K8 hK8
  refine wp_region_lit ?_
  refine wpList_t (v := .bool true) (by rfl) (by first | rfl | (unfold execOp; go_simp)) ?_
  simp only [Act.put, ly4, ly5, ly6]
  refine wpList_t (v := .bool false) (by rfl) (by first | rfl | (unfold execOp; go_simp)) ?_
  simp only [Act.put, ly4, ly5, ly6]
  refine wpList_t (v := .bool false) (by rfl) (by first | rfl | (unfold execOp; go_simp)) ?_
  simp only [Act.put, ly4, ly5, ly6]
  refine wpList_load_midG (by rfl) 29 (.tmp 12) rfl DG 0 rfl (bvals p) _ (range_of XG.out) Tryz.underlying29 rfl (szL i29 (bv8s HP.out)) ?_
  simp only [Act.put, ly4, ly5, ly6]
  refine wpList_load_midG (by rfl) 29 (.tmp 7) rfl DA 0 rfl (bvals p) _ (range_of XA.out) Tryz.underlying29 rfl (szL i29 (bv8s HP.out)) ?_
  simp only [Act.put, ly4, ly5, ly6]
  refine wpList_t (by rfl) (run_neqH HP.out rfl rfl rfl) ?_
  simp only [Act.put, ly4, ly5, ly6]
  go_upto_region 16 with fail
  have hz := z32b
  have RC := Lib.hid (cer_rng HT.out V.out.x)
  have XN : Hid (BL (w5.alloc (Obj.cells (cerC tx0 hd0).toArray 32)) w5.heap.size (cerC tx0 hd0) 32) := Lib.hid (heap_alloc_last w5 _)
  go_upto_region 17 with (first
      | (refine wpList_load_midG (by rfl) 32 (.tmp 82) rfl S 9 rfl (cerC x h) _ RC.out Tryz.underlying32 rfl (szL i32 L21.out) ?_)
      | (refine wpList_store_rowTo rfl 32 (.tmp 14) (.tmp 83) rfl rfl w5.heap.size (cerC x h).toArray rfl rfl 32 (cerC tx0 hd0).toArray XN.out (szA i32 L21.out) (by rw [List.size_toArray, List.size_toArray, L21.out, L20.out]) (all_oneCell_toArray OC1.out) ?_)
      | fail)
  have hb2 := below_setRow ((Below.refl _ w5).alloc (Nat.le_refl _) (Obj.cells (cerC tx0 hd0).toArray 32)) (Nat.le_refl _) (cerC x h).toArray
  have SC : Hid (S + 2 ≤ w5.heap.size) := Lib.hid V.out.sz
  have V := Lib.hid (V.out.step hb2)
  have XC : Hid (BL ((w5.alloc (Obj.cells (cerC tx0 hd0).toArray 32)).setRow w5.heap.size (cerC x h).toArray) w5.heap.size (cerC x h) 32) := Lib.hid (setRow_heap _ _ _ _ _ _ XN.out)
  clear hz hb2 XN RC XA XB X2 XG
  generalize w5.heap.size = C at *
  generalize ((w5.alloc (Obj.cells (cerC tx0 hd0).toArray 32)).setRow C (cerC x h).toArray) = wf at *
  have hz := z29b
  go_upto_region 18 with (first
      | (refine wpList_load_midG (by rfl) 32 (.tmp 14) rfl C 0 rfl (cerC x h) _ (range_of XC.out) Tryz.underlying32 rfl (szL i32 L21.out) ?_)
      | (go_at_call 24; refine (CT.out _ V.out).mono ?_; rintro e w6 ⟨rfl, hb⟩; have V := Lib.hid (V.out.step hb); replace XC := Lib.hid (bl_keep XC.out (hb.block C (bl_lt XC.out))); have CX : Hid (C < w6.heap.size) := Lib.hid (bl_lt XC.out); have XE : Hid (BL (w6.alloc (Obj.cells (bvals (zeros 8)).toArray 29)) w6.heap.size (bvals (zeros 8)) 29) := Lib.hid (heap_alloc_last w6 _); clear hb)
      | (refine wpList_store_rowTo rfl 29 (.tmp 15) (.tmp 87) rfl rfl w6.heap.size (bvals d).toArray rfl rfl 29 (bvals (zeros 8)).toArray XE.out (szA i29 (bv8s HD.out)) (by rw [List.size_toArray, List.size_toArray, bv8s HD.out, bv8s (zeros_len 8)]) (all_oneCell_toArray (bv_one _)) ?_)
      | fail)
  have hb2 : Below w6.heap.size w6 ((w6.alloc (Obj.cells (bvals (zeros 8)).toArray 29)).setRow w6.heap.size (bvals d).toArray) := below_setRow ((Below.refl _ w6).alloc (Nat.le_refl _) (Obj.cells (bvals (zeros 8)).toArray 29)) (Nat.le_refl _) (bvals d).toArray
  have V := Lib.hid (V.out.step hb2)
  replace XC := Lib.hid (bl_keep XC.out (hb2.block C (bl_lt XC.out)))
  have XP : Hid (BL ((w6.alloc (Obj.cells (bvals (zeros 8)).toArray 29)).setRow w6.heap.size (bvals d).toArray) w6.heap.size (bvals d) 29) := Lib.hid (setRow_heap _ _ _ _ _ _ XE.out)
  clear hz hb2 XE
  have CP0 : Hid (C < w6.heap.size) := Lib.hid (by have := CX.out; exact this)
  clear CX
  generalize w6.heap.size = DP at *
  generalize ((w6.alloc (Obj.cells (bvals (zeros 8)).toArray 29)).setRow DP (bvals d).toArray) = w7 at *
  have hz := z29b
  go_upto_region 19 with (first
      | (refine wpList_load_midG (by rfl) 32 (.tmp 14) rfl C 0 rfl (cerC x h) _ (range_of XC.out) Tryz.underlying32 rfl (szL i32 L21.out) ?_)
      | (go_at_call 25; refine (CD.out _ V.out).mono ?_; rintro e w8 ⟨rfl, hb⟩; have V := Lib.hid (V.out.step hb); replace XC := Lib.hid (bl_keep XC.out (hb.block C (bl_lt XC.out))); replace XP := Lib.hid (bl_keep XP.out (hb.block DP (bl_lt XP.out))); have CX : Hid (C < w8.heap.size) := Lib.hid (bl_lt XC.out); have XE : Hid (BL (w8.alloc (Obj.cells (bvals (zeros 8)).toArray 29)) w8.heap.size (bvals (zeros 8)) 29) := Lib.hid (heap_alloc_last w8 _); clear hb)
      | (refine wpList_store_rowTo rfl 29 (.tmp 17) (.tmp 92) rfl rfl w8.heap.size (bvals d).toArray rfl rfl 29 (bvals (zeros 8)).toArray XE.out (szA i29 (bv8s HD.out)) (by rw [List.size_toArray, List.size_toArray, bv8s HD.out, bv8s (zeros_len 8)]) (all_oneCell_toArray (bv_one _)) ?_)
      | fail)
  have hb2 : Below w8.heap.size w8 ((w8.alloc (Obj.cells (bvals (zeros 8)).toArray 29)).setRow w8.heap.size (bvals d).toArray) := below_setRow ((Below.refl _ w8).alloc (Nat.le_refl _) (Obj.cells (bvals (zeros 8)).toArray 29)) (Nat.le_refl _) (bvals d).toArray
  have V := Lib.hid (V.out.step hb2)
  replace XC := Lib.hid (bl_keep XC.out (hb2.block C (bl_lt XC.out)))
  replace XP := Lib.hid (bl_keep XP.out (hb2.block DP (bl_lt XP.out)))
  have XQ : Hid (BL ((w8.alloc (Obj.cells (bvals (zeros 8)).toArray 29)).setRow w8.heap.size (bvals d).toArray) w8.heap.size (bvals d) 29) := Lib.hid (setRow_heap _ _ _ _ _ _ XE.out)
  clear hz hb2 XE
  have CQ0 : Hid (C < w8.heap.size) := Lib.hid (by have := CX.out; exact this)
  clear CX
  generalize w8.heap.size = DQ at *
  generalize ((w8.alloc (Obj.cells (bvals (zeros 8)).toArray 29)).setRow DQ (bvals d).toArray) = w9 at *
  have CP : Hid (C < DP) := Lib.hid CP0.out
  have CQ : Hid (C < DQ) := Lib.hid CQ0.out
  have XC2 : Hid (BL (w9.alloc (Obj.cells (vals sgnS (1 :: sg)).toArray 66)) C (cerC x h) 32) := Lib.hid (bl_keep XC.out (Below.heap_alloc _ _ _ (bl_lt XC.out)))
  have k2 : ∃ u, (w9.alloc (Obj.cells (vals sgnS (1 :: sg)).toArray 66)).cell? ⟨C, 20, none⟩ = some u := ⟨_, range_cell (range_of XC2.out) (i := 20) (List.getElem?_eq_getElem (by rw [L21.out]; omega))⟩
  have f2 : (w9.alloc (Obj.cells (vals sgnS (1 :: sg)).toArray 66)).frozen? ⟨C, 20, none⟩ = false := bl_free XC2.out 20
  obtain ⟨u3, k2⟩ := k2
  rename_i K6 hK6
  refine wp_region_lit ?_
  refine wpList_load_midG (by rfl) 58 (.tmp 5) rfl (S + 1) 0 rfl (vals sigS sg) _ (range_of V.out.s) Tryz.underlying58 rfl ISG.out ?_
  simp only [Act.put, ly4, ly5, ly6]
  refine wpList_t (by rfl) (run_bld66 HS1.out rfl rfl rfl) ?_
  simp only [Act.put, ly4, ly5, ly6]
  refine wpList_bs1 (by rfl) (t := 30) (.tmp 95) (vals sgnS (1 :: sg)) rfl rfl Tryz.underlying30 infoG LSN.out (by decide) (by decide) ?_
  simp only [Act.put, ly4, ly5, ly6]
  go_upto_region 20 with fail
  clear k2 f2
  have BG := Lib.hid ((Below.refl _ w9).alloc (Nat.le_refl _) (Obj.cells (vals sgnS (1 :: sg)).toArray 66))
  have RG0 : Hid ((w9.alloc (Obj.cells (vals sgnS (1 :: sg)).toArray 66)).rangeAt w9.heap.size 0 (vals sgnS (1 :: sg))) := Lib.hid (range_new _ _ _)
  have CG : Hid (C < w9.heap.size) := Lib.hid (bl_lt XC.out)
  have PG : Hid (C < DP ∧ C < DQ) := Lib.hid ⟨CP.out, CQ.out⟩
  have V := Lib.hid (V.out.step BG.out)
  replace XP := Lib.hid (bl_keep XP.out (BG.out.block DP (bl_lt XP.out)))
  replace XQ := Lib.hid (bl_keep XQ.out (BG.out.block DQ (bl_lt XQ.out)))
  clear BG XC
  generalize w9.heap.size = G at *
  generalize (w9.alloc (Obj.cells (vals sgnS (1 :: sg)).toArray 66)) = wg at *
  have V := Lib.hid (V.out.set SC.out 20 (.slice (some ⟨G, 0, none⟩) 1 1))
  replace XP := Lib.hid (bl_keep XP.out (heap_setCell_other _ (⟨C, 20, none⟩ : Addr) DP (.slice (some ⟨G, 0, none⟩) 1 1) (show DP ≠ C by have := PG.out; omega)))
  replace XQ := Lib.hid (bl_keep XQ.out (heap_setCell_other _ (⟨C, 20, none⟩ : Addr) DQ (.slice (some ⟨G, 0, none⟩) 1 1) (show DQ ≠ C by have := PG.out; omega)))
  have RG : Hid ((wg.setCell ⟨C, 20, none⟩ (.slice (some ⟨G, 0, none⟩) 1 1)).rangeAt G 0 (vals sgnS (1 :: sg))) := Lib.hid (range_keep1 RG0.out (heap_setCell_other _ _ _ _ (show G ≠ C by have := CG.out; omega)))
  have XC : Hid (BL (wg.setCell ⟨C, 20, none⟩ (.slice (some ⟨G, 0, none⟩) 1 1)) C (cerC (sgnT x sg) (sgnH h G)) 32) := Lib.hid (by have := bl_set XC2.out 20 (.slice (some ⟨G, 0, none⟩) 1 1); rwa [sgnT_set HT.out] at this)
  clear XC2 RG0
  generalize (wg.setCell ⟨C, 20, none⟩ (.slice (some ⟨G, 0, none⟩) 1 1)) = wh at *
  have hz := z29b
  go_upto_region 21 with (first
      | (refine wpList_load_midG (by rfl) 32 (.tmp 14) rfl C 0 rfl (cerC (sgnT x sg) (sgnH h G)) _ (range_of XC.out) Tryz.underlying32 rfl (szL i32 (L22.out G)) ?_)
      | (go_at_call 24; refine (CS.out _ G V.out RG.out).mono ?_; rintro e w10 ⟨rfl, hb⟩; have V := Lib.hid (V.out.step hb); replace XC := Lib.hid (bl_keep XC.out (hb.block C (bl_lt XC.out))); replace XP := Lib.hid (bl_keep XP.out (hb.block DP (bl_lt XP.out))); replace XQ := Lib.hid (bl_keep XQ.out (hb.block DQ (bl_lt XQ.out))); have XE : Hid (BL (w10.alloc (Obj.cells (bvals (zeros 8)).toArray 29)) w10.heap.size (bvals (zeros 8)) 29) := Lib.hid (heap_alloc_last w10 _); clear hb)
      | (refine wpList_store_rowTo rfl 29 (.tmp 19) (.tmp 101) rfl rfl w10.heap.size (bvals d).toArray rfl rfl 29 (bvals (zeros 8)).toArray XE.out (szA i29 (bv8s HD.out)) (by rw [List.size_toArray, List.size_toArray, bv8s HD.out, bv8s (zeros_len 8)]) (all_oneCell_toArray (bv_one _)) ?_)
      | fail)
  have hb2 : Below w10.heap.size w10 ((w10.alloc (Obj.cells (bvals (zeros 8)).toArray 29)).setRow w10.heap.size (bvals d).toArray) := below_setRow ((Below.refl _ w10).alloc (Nat.le_refl _) (Obj.cells (bvals (zeros 8)).toArray 29)) (Nat.le_refl _) (bvals d).toArray
  have V := Lib.hid (V.out.step hb2)
  replace XC := Lib.hid (bl_keep XC.out (hb2.block C (bl_lt XC.out)))
  replace XP := Lib.hid (bl_keep XP.out (hb2.block DP (bl_lt XP.out)))
  replace XQ := Lib.hid (bl_keep XQ.out (hb2.block DQ (bl_lt XQ.out)))
  have XR : Hid (BL ((w10.alloc (Obj.cells (bvals (zeros 8)).toArray 29)).setRow w10.heap.size (bvals d).toArray) w10.heap.size (bvals d) 29) := Lib.hid (setRow_heap _ _ _ _ _ _ XE.out)
  clear hz hb2 XE
  generalize w10.heap.size = DR at *
  generalize ((w10.alloc (Obj.cells (bvals (zeros 8)).toArray 29)).setRow DR (bvals d).toArray) = w11 at *
  clear RG
  obtain ⟨N, hN⟩ : ∃ N, w11.heap.size = N := ⟨_, rfl⟩
  have WN := Lib.hid hN
  have DPN : Hid (DP < N) := by show _ < _; rw [← hN]; exact bl_lt XP.out
  have DQN : Hid (DQ < N) := by show _ < _; rw [← hN]; exact bl_lt XQ.out
  have DRN : Hid (DR < N) := by show _ < _; rw [← hN]; exact bl_lt XR.out
  have SN : Hid (S + 2 ≤ N) := by show _ ≤ _; rw [← hN]; exact V.out.sz
  have EP : Hid (∀ w' : World, (∀ q, q < N → w'.heap[q]? = w11.heap[q]?) → w'.cell? ⟨S, 10, none⟩ = some (.int .i64 (cel x.cer 1)) ∧ w'.rangeAt S 12 (bvals (seg x.cer 3 8))) := Lib.hid fun w' hh => cer_ep HT.out (bl_keep V.out.x (hh S (by have := SN.out; omega)))
  obtain ⟨ep, hep⟩ : ∃ ep, cel x.cer 1 = ep := ⟨_, rfl⟩
  obtain ⟨en, hen⟩ : ∃ en, seg x.cer 3 8 = en := ⟨_, rfl⟩
  rw [hep, hen] at EP
  rw [hen] at HEN
  have heql := fun w => eqlS d HD.out w
  have heq3 := fun a b w => eqlS (hash3 119 (digs a 1) (digs b 4) en) (hash3_len _ _ _ _) w
  clear hN hep hen
  rename_i K9 hK9
  have XX : Hid (Below N w11 w11.drew) := (Below.refl _ _).drew
  refine wp_region_held_drew (S := (fun w' : World => ∀ q, q < N → w'.heap[q]? = w11.heap[q]?)) (by kernel_rfl) (by exact fun _ _ => rfl) (fun hHeld => ?_)
  refine tk (i := 0) rfl (yieldsIf_load_mid (by rfl) 29 (.tmp 15) rfl (DP) (0) rfl (bvals d) _ (fun w h => range_keep1 (range_of XP.out) (h DP DPN.out)) Tryz.underlying29 rfl (szL i29 (bv8s HD.out))) (by assumption) ?_
  simp only [Act.put, ly1, ly3, ly4, ly5, ly6]
  refine tk (i := 1) rfl (yieldsIf_load_mid (by rfl) 29 (.tmp 17) rfl (DQ) (0) rfl (bvals d) _ (fun w h => range_keep1 (range_of XQ.out) (h DQ DQN.out)) Tryz.underlying29 rfl (szL i29 (bv8s HD.out))) (by assumption) ?_
  simp only [Act.put, ly1, ly2, ly3, ly4, ly5, ly6]
  refine tk (i := 2) (v := ?_) rfl (Or.inl ⟨by rfl, ?_⟩) (by assumption) ?_
  rotate_left
  · (intro w hSw; (try dsimp only at hSw); go_simp; try with_reducible rfl)
  simp only [Act.put, ly1, ly2, ly3, ly4, ly5, ly6]
  refine tk (i := 3) (v := ?_) rfl (Or.inl ⟨by rfl, ?_⟩) (by assumption) ?_
  rotate_left
  · (intro w hSw; (try dsimp only at hSw); go_simp; try with_reducible rfl)
  simp only [Act.put, ly1, ly2, ly3, ly4, ly5, ly6]
  refine tk (i := 4) (v := ?_) rfl (Or.inl ⟨by rfl, ?_⟩) (by assumption) ?_
  rotate_left
  · (intro w hSw; (try dsimp only at hSw); go_simp; try with_reducible rfl)
  simp only [Act.put, ly1, ly2, ly3, ly4, ly5, ly6]
  refine tk (i := 5) (v := ?_) rfl (Or.inl ⟨by rfl, ?_⟩) (by assumption) ?_
  rotate_left
  · (intro w hSw; (try dsimp only at hSw); go_simp; try with_reducible rfl)
  simp only [Act.put, ly1, ly2, ly3, ly4, ly5, ly6]
  refine tk (i := 6) (v := ?_) rfl (Or.inl ⟨by rfl, ?_⟩) (by assumption) ?_
  rotate_left
  · (intro w hSw; (try dsimp only at hSw); go_simp; try with_reducible rfl)
  simp only [Act.put, ly1, ly2, ly3, ly4, ly5, ly6]
  refine tk (i := 7) (v := ?_) rfl (Or.inl ⟨by rfl, ?_⟩) (by assumption) ?_
  rotate_left
  · (intro w hSw; (try dsimp only at hSw); go_simp; try with_reducible rfl)
  simp only [Act.put, ly1, ly2, ly3, ly4, ly5, ly6]
  refine tk (i := 8) (v := ?_) rfl (Or.inl ⟨by rfl, ?_⟩) (by assumption) ?_
  rotate_left
  · (intro w hSw; (try dsimp only at hSw); go_simp; try with_reducible rfl)
  simp only [Act.put, ly1, ly2, ly3, ly4, ly5, ly6]
  refine tk (i := 9) rfl (yieldsIf_load_mid (by rfl) 29 (.tmp 19) rfl (DR) (0) rfl (bvals d) _ (fun w h => range_keep1 (range_of XR.out) (h DR DRN.out)) Tryz.underlying29 rfl (szL i29 (bv8s HD.out))) (by assumption) ?_
  simp only [Act.put, ly1, ly2, ly3, ly4, ly5, ly6]
  refine tk (i := 10) rfl (yieldsIf_load_mid (by rfl) 29 (.tmp 15) rfl (DP) (0) rfl (bvals d) _ (fun w h => range_keep1 (range_of XP.out) (h DP DPN.out)) Tryz.underlying29 rfl (szL i29 (bv8s HD.out))) (by assumption) ?_
  simp only [Act.put, ly1, ly2, ly3, ly4, ly5, ly6]
  refine tk (i := 11) (v := ?_) rfl (Or.inl ⟨by rfl, ?_⟩) (by assumption) ?_
  rotate_left
  · (intro w hSw; (try dsimp only at hSw); go_simp; try with_reducible rfl)
  simp only [Act.put, ly1, ly2, ly3, ly4, ly5, ly6]
  refine tk (i := 12) (v := ?_) rfl (Or.inl ⟨by rfl, ?_⟩) (by assumption) ?_
  rotate_left
  · (intro w hSw; (try dsimp only at hSw); go_simp; try with_reducible rfl)
  simp only [Act.put, ly1, ly2, ly3, ly4, ly5, ly6]
  refine tk (i := 13) (v := ?_) rfl (Or.inl ⟨by rfl, ?_⟩) (by assumption) ?_
  rotate_left
  · (intro w hSw; (try dsimp only at hSw); go_simp; try with_reducible rfl)
  simp only [Act.put, ly1, ly2, ly3, ly4, ly5, ly6]
  refine tk (i := 14) (v := ?_) rfl (Or.inl ⟨by rfl, ?_⟩) (by assumption) ?_
  rotate_left
  · (intro w hSw; (try dsimp only at hSw); go_simp; try with_reducible rfl)
  simp only [Act.put, ly1, ly2, ly3, ly4, ly5, ly6]
  refine tk (i := 15) (v := ?_) rfl (Or.inl ⟨by rfl, ?_⟩) (by assumption) ?_
  rotate_left
  · (intro w hSw; (try dsimp only at hSw); go_simp; try with_reducible rfl)
  simp only [Act.put, ly1, ly2, ly3, ly4, ly5, ly6]
  refine tk (i := 16) (v := ?_) rfl (Or.inl ⟨by rfl, ?_⟩) (by assumption) ?_
  rotate_left
  · (intro w hSw; (try dsimp only at hSw); go_simp; try with_reducible rfl)
  simp only [Act.put, ly1, ly2, ly3, ly4, ly5, ly6]
  refine tk (i := 17) (v := ?_) rfl (Or.inl ⟨by rfl, ?_⟩) (by assumption) ?_
  rotate_left
  · (intro w hSw; (try dsimp only at hSw); go_simp; try with_reducible rfl)
  simp only [Act.put, ly1, ly2, ly3, ly4, ly5, ly6]
  refine tk (i := 18) (v := ?_) rfl (Or.inl ⟨by rfl, ?_⟩) (by assumption) ?_
  rotate_left
  · (intro w hSw; (try dsimp only at hSw); go_simp; try with_reducible rfl)
  simp only [Act.put, ly1, ly2, ly3, ly4, ly5, ly6]
  refine tk (i := 19) (v := ?_) rfl (Or.inl ⟨by rfl, ?_⟩) (by assumption) ?_
  rotate_left
  · (intro w hSw; (try dsimp only at hSw); go_simp; try with_reducible rfl)
  simp only [Act.put, ly1, ly2, ly3, ly4, ly5, ly6]
  refine tk (i := 20) (v := ?_) rfl (Or.inl ⟨by rfl, ?_⟩) (by assumption) ?_
  rotate_left
  · (intro w hSw; (try dsimp only at hSw); go_simp; try with_reducible rfl)
  simp only [Act.put, ly1, ly2, ly3, ly4, ly5, ly6]
  refine tk (i := 21) (v := ?_) rfl (Or.inl ⟨by rfl, ?_⟩) (by assumption) ?_
  rotate_left
  · (intro w hSw; (try dsimp only at hSw); go_simp; try with_reducible rfl)
  simp only [Act.put, ly1, ly2, ly3, ly4, ly5, ly6]
  refine tk (i := 22) (v := ?_) rfl (Or.inl ⟨by rfl, ?_⟩) (by assumption) ?_
  rotate_left
  · (intro w hSw; (try dsimp only at hSw); go_simp; try with_reducible rfl)
  simp only [Act.put, ly1, ly2, ly3, ly4, ly5, ly6]
  refine tk (i := 23) (v := ?_) rfl (Or.inl ⟨by rfl, ?_⟩) (by assumption) ?_
  rotate_left
  · (intro w hSw; (try dsimp only at hSw); have c1 := (EP.out w hSw).1; go_simp; try with_reducible rfl)
  simp only [Act.put, ly1, ly2, ly3, ly4, ly5, ly6]
  refine tk (i := 24) (v := ?_) rfl (Or.inl ⟨by rfl, ?_⟩) (by assumption) ?_
  rotate_left
  · (intro w hSw; (try dsimp only at hSw); go_simp; try with_reducible rfl)
  simp only [Act.put, ly1, ly2, ly3, ly4, ly5, ly6]
  refine tk (i := 25) (v := ?_) rfl (Or.inl ⟨by rfl, ?_⟩) (by assumption) ?_
  rotate_left
  · (intro w hSw; (try dsimp only at hSw); go_simp; try with_reducible rfl)
  simp only [Act.put, ly1, ly2, ly3, ly4, ly5, ly6]
  refine tk (i := 26) (v := ?_) rfl (Or.inl ⟨by rfl, ?_⟩) (by assumption) ?_
  rotate_left
  · (intro w hSw; (try dsimp only at hSw); go_simp; try with_reducible rfl)
  simp only [Act.put, ly1, ly2, ly3, ly4, ly5, ly6]
  refine tk (i := 27) rfl (yieldsIf_load_mid (by rfl) 29 (.tmp 129) rfl (S) (12) rfl (bvals en) _ (fun w h => (EP.out w h).2) Tryz.underlying29 rfl (szL i29 (bv8s HEN.out))) (by assumption) ?_
  simp only [Act.put, ly1, ly2, ly3, ly4, ly5, ly6]
  refine tk (i := 29) (v := ?_) rfl (Or.inl ⟨by rfl, ?_⟩) (by assumption) ?_
  rotate_left
  · (intro w hSw; (try dsimp only at hSw); go_simp; try with_reducible rfl)
  simp only [Act.put, ly1, ly2, ly3, ly4, ly5, ly6]
  refine tk (i := 30) (v := ?_) rfl (Or.inl ⟨by rfl, ?_⟩) (by assumption) ?_
  rotate_left
  · (intro w hSw; (try dsimp only at hSw); go_simp; try with_reducible rfl)
  simp only [Act.put, ly1, ly2, ly3, ly4, ly5, ly6]
  refine tk (i := 31) (v := ?_) rfl (Or.inl ⟨by rfl, ?_⟩) (by assumption) ?_
  rotate_left
  · (intro w hSw; (try dsimp only at hSw); go_simp; try with_reducible rfl)
  simp only [Act.put, ly1, ly2, ly3, ly4, ly5, ly6]
  refine tk (i := 32) (v := ?_) rfl (Or.inl ⟨by rfl, ?_⟩) (by assumption) ?_
  rotate_left
  · (intro w hSw; (try dsimp only at hSw); go_simp; try with_reducible rfl)
  simp only [Act.put, ly1, ly2, ly3, ly4, ly5, ly6]
  refine tk (i := 33) (v := ?_) rfl (Or.inl ⟨by rfl, ?_⟩) (by assumption) ?_
  rotate_left
  · (intro w hSw; (try dsimp only at hSw); have c1 := (EP.out w hSw).1; go_simp; try with_reducible rfl)
  simp only [Act.put, ly1, ly2, ly3, ly4, ly5, ly6]
  refine tk (i := 34) (v := ?_) rfl (Or.inl ⟨by rfl, ?_⟩) (by assumption) ?_
  rotate_left
  · (intro w hSw; (try dsimp only at hSw); go_simp; try with_reducible rfl)
  simp only [Act.put, ly1, ly2, ly3, ly4, ly5, ly6]
  refine tk (i := 35) (v := ?_) rfl (Or.inl ⟨by rfl, ?_⟩) (by assumption) ?_
  rotate_left
  · (intro w hSw; (try dsimp only at hSw); go_simp; try with_reducible rfl)
  simp only [Act.put, ly1, ly2, ly3, ly4, ly5, ly6]
  refine tk (i := 36) (v := ?_) rfl (Or.inl ⟨by rfl, ?_⟩) (by assumption) ?_
  rotate_left
  · (intro w hSw; (try dsimp only at hSw); go_simp; try with_reducible rfl)
  simp only [Act.put, ly1, ly2, ly3, ly4, ly5, ly6]
  refine tk (i := 37) rfl (yieldsIf_load_mid (by rfl) 29 (.tmp 139) rfl (S) (12) rfl (bvals en) _ (fun w h => (EP.out w h).2) Tryz.underlying29 rfl (szL i29 (bv8s HEN.out))) (by assumption) ?_
  simp only [Act.put, ly1, ly2, ly3, ly4, ly5, ly6]
  refine wpAnyH_ready (rs := [28]) (by kernel_rfl) (by simp) ?_
  refine AllReadyH.cons rfl (fun K hK => ?_) AllReadyH.nil
  go_simp
  go_at_call 26
  refine (PT.out _ _ en _ HEN.out (V.out.step (by rw [WN.out]; exact XX.out))).mono ?_
  rintro e wy ⟨rfl, hba⟩
  have XN : Hid (Below N w11 wy) := XX.out.trans (hba.mono (by have := XX.out.size; have := WN.out; omega))
  clear XX hba hHeld
  have XX := XN
  clear XN
  (try go_wp2_with fail)
  refine hK.out _ _ (by exact fun q hq => XX.out.block q hq) (fun hHeld => ?_)
  clear hK K
  refine wpAnyH_ready (rs := [38]) (by kernel_rfl) (by simp) ?_
  refine AllReadyH.cons rfl (fun K hK => ?_) AllReadyH.nil
  go_simp
  go_at_call 27
  refine (dPaid _ _ en _ HEN.out).mono ?_
  rintro e wz ⟨rfl, hba⟩
  have XN : Hid (Below N w11 wz) := XX.out.trans (hba.mono (by have := XX.out.size; have := WN.out; omega))
  clear XX hba hHeld
  have XX := XN
  clear XN
  (try go_wp2_with fail)
  refine hK.out _ _ (by exact fun q hq => XX.out.block q hq) (fun hHeld => ?_)
  clear hK K
  refine tk (i := 39) (v := ?_) rfl (Or.inl ⟨by rfl, ?_⟩) (by assumption) ?_
  rotate_left
  · (intro w hSw; (try dsimp only at hSw); go_simp; try with_reducible rfl)
  simp only [Act.put, ly1, ly2, ly3, ly4, ly5, ly6]
  refine tk (i := 40) (v := ?_) rfl (Or.inl ⟨by rfl, ?_⟩) (by assumption) ?_
  rotate_left
  · (intro w hSw; (try dsimp only at hSw); go_simp; try with_reducible rfl)
  simp only [Act.put, ly1, ly2, ly3, ly4, ly5, ly6]
  refine tk (i := 41) (v := ?_) rfl (Or.inl ⟨by rfl, ?_⟩) (by assumption) ?_
  rotate_left
  · (intro w hSw; (try dsimp only at hSw); go_simp; try with_reducible rfl)
  simp only [Act.put, ly1, ly2, ly3, ly4, ly5, ly6]
  refine wpAnyH_done (by kernel_rfl) ?_ _
  show K9 _ _
  refine hK9 _ _ ?_
  clear hK9 K9 hHeld
  go_wp2
  go_ret
  exact ⟨rfl, by rw [HS.out]; exact (V.out.step (by rw [WN.out]; exact XX.out)).bel⟩
theorem q6 (x : TxP) (h : TxH) (i : Int) (sg : List Int) (w : World) (hx : WfT x) (mx : Mem w x h) (hk : Keys w) (hs : okT okA sigS sg) :
    Calls Tryz.prog 6 #[.agg (txC x h).toArray, .int .i64 i, .agg (vals sigS sg).toArray] w fun e w' => e = .returned (.bool true) ∧ Below w.heap.size w w' := by
  cases e1 : fewB x
  · exact n9_0 x h i sg w hx mx hk hs e1
  by_cases hlo : cel sg 0 < 0
  · exact n9_1 x h i sg w hx mx hk hs e1 hlo
  by_cases hhi : 255 < cel sg 0
  · exact n9_2 x h i sg w hx mx hk hs e1 hlo hhi
  cases e2 : msgB x i
  · exact p9_0 x h i sg w hx mx hk hs e1 hlo hhi e2
  · exact p9_1 x h i sg w hx mx hk hs e1 hlo hhi e2
end Go.Proofs.YtffaddefnpkcgaaGreatDoor

