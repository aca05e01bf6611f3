/-
  TxKinds: a field of another kind.
-/
import Derived.Test.YtffaddefnpkcgaaGreatDoorJS
import Derived.Test.YtffaddefnpkcgaaGreatDoorJC
import Derived.Test.YtffaddefnpkcgaaGreatDoorJU
namespace Go.Proofs.YtffaddefnpkcgaaGreatDoor
open Go.RowKit
set_option maxRecDepth 100000
attribute [local irreducible] txC parC cerC claC mixT mixH DigP hash1 mayT fewB bvals zeros
set_option maxHeartbeats 8000000 in
theorem p7_4 (x : TxP) (h : TxH) (y : TxP) (k : TxH) (w : World) (hx : WfT x) (hy : WfT y) (mx : Mem w x h) (my : Mem w y k) (hk : Keys w) (e1 : fewB x = true) (e2 : fewB y = true) (e3 : mayT x = true) (e4 : mayT y = true) (e5 : y.kind = 4) (e6 : x.kind ≠ y.kind) :
    Calls Tryz.prog 7 #[.agg (txC x h).toArray, .agg (txC y k).toArray] w fun e w' => e = .returned (.bool true) ∧ Below w.heap.size w w' := by
  obtain ⟨S, hS⟩ : ∃ S, w.heap.size = S := ⟨_, rfl⟩
  have HS := Lib.hid hS
  have CC0 := c7_of w x h y k hx hy mx my hk
  have V0 := v7_0 w x h y k
  rw [hS] at CC0 V0
  have DD0 := fun N => d8_of w x h y k N hx hy mx my hk e3 e4 e6
  rw [hS] at DD0
  rw [e1, e2, e3, e4] at CC0
  have CC := Lib.hid CC0
  have V := Lib.hid V0
  have HI : Hid ((Tryz.prog.info? 39).map (·.size) = some (txC x h).length) := szL i39 (txC_len h hx)
  have HJ : Hid ((Tryz.prog.info? 39).map (·.size) = some (txC y k).length) := szL i39 (txC_len k hy)
  have E5 := Lib.hid e5
  have DD := Lib.hid DD0
  have q1 : ¬ x.kind = 4 := by rw [← e5]; exact e6
  have HX := Lib.hid hx
  have HY := Lib.hid hy
  have HP : Hid ((Tryz.prog.info? 27).map (·.size) = some (parC y k).length) := szL i27 (parC_len k hy)
  have HC : Hid ((Tryz.prog.info? 32).map (·.size) = some (cerC y k).length) := szL i32 (cerC_len k hy)
  have HL : Hid ((Tryz.prog.info? 37).map (·.size) = some (claC y).length) := szL i37 (claC_len hy)
  have HXL : Hid ((txC x h).length = 170) := txC_len h hx
  have H0L : Hid ((txC tx0 hd0).length = 170) := txC_len _ wf_tx0
  have X1 : Hid (∀ v ∈ txC x h, v.oneCell' = true) := txC_one x h
  have YT : Hid (∀ w', V7 S w x h y k w' → TRng w' (S + 1) y k) := fun w' v => trng HY.out (range_of v.y)
  have XT : Hid (∀ w' N, BL w' N (txC x h) 39 → TRng w' N x h) := fun w' N v => trng HX.out (range_of v)
  have KV : Hid (∀ w', V7 S w x h y k w' → w'.cell? ⟨S, 0, none⟩ = some (.int .i64 x.kind) ∧ w'.cell? ⟨S + 1, 0, none⟩ = some (.int .i64 4)) := fun w' v => ⟨v.kx, by rw [v.ky, E5.out]⟩
  clear hx hy mx my hk CC0 V0 DD0 e1 e2 e3 e4 e5 e6
  have T1 := Lib.hid trivial
  have T2 := Lib.hid trivial
  have T3 := Lib.hid trivial
  have T4 := Lib.hid trivial
  go_enter Tryz.func7, Tryz.ntmps7
  go_upto_region 1 with (fail)
  generalize ((w.alloc (Obj.cells (txC x h).toArray 39)).alloc (Obj.cells (txC y k).toArray 39)) = v at *
  clear hS
  go_upto_region 5 with (first
      | (refine wpList_load_midG (by rfl) 39 (.tmp 2) rfl S 0 rfl (txC x h) _ (range_of V.out.x) Tryz.underlying39 rfl HI.out ?_)
      | (refine wpList_load_midG (by rfl) 39 (.tmp 3) rfl (S + 1) 0 rfl (txC y k) _ (range_of V.out.y) Tryz.underlying39 rfl HJ.out ?_)
      | (go_at_call 9; refine (CC.out.aw _ V.out).mono ?_; rintro e w' ⟨rfl, hb⟩; have V := Lib.hid (V.out.step hb); clear hb)
      | (clear T1; go_at_call 10; refine (CC.out.fx _ V.out).mono ?_; rintro e w' ⟨rfl, hb⟩; have V := Lib.hid (V.out.step hb); clear hb)
      | (clear T2; go_at_call 10; refine (CC.out.fy _ V.out).mono ?_; rintro e w' ⟨rfl, hb⟩; have V := Lib.hid (V.out.step hb); clear hb)
      | (clear T3; go_at_call 16; refine (CC.out.mx rfl _ V.out).mono ?_; rintro e w' ⟨rfl, hb⟩; have V := Lib.hid (V.out.step hb); clear hb)
      | (clear T4; go_at_call 16; refine (CC.out.my rfl _ V.out).mono ?_; rintro e w6 ⟨rfl, hb⟩; have V := Lib.hid (V.out.step hb); have k1 := (KV.out _ V.out).1; have k2 := (KV.out _ V.out).2; clear hb)
      | fail)
  clear k1 k2
  obtain ⟨N, hN⟩ : ∃ N, w6.heap.size = N := ⟨_, rfl⟩
  have VN := V.out.new hN
  have XA : Hid (BL (w6.alloc (Obj.cells (txC tx0 hd0).toArray 39)) N (txC tx0 hd0) 39) := by rw [← hN]; exact heap_alloc_last w6 _
  have V7' := Lib.hid VN.1
  have XB := Lib.hid VN.2.1
  have SN := Lib.hid VN.2.2
  clear VN
  have hz := z39
  go_upto_region 6 with (first
    | (refine wpList_load_midG (by rfl) 39 (.tmp 2) rfl S 0 rfl (txC x h) _ (range_of V.out.x) Tryz.underlying39 rfl HI.out ?_)
    | (refine wpList_store_rowTo rfl 39 (.tmp 5) (.tmp 37) rfl rfl N (txC x h).toArray rfl rfl 39 (txC tx0 hd0).toArray XA.out (szA i39 HXL.out) (by rw [List.size_toArray, List.size_toArray, HXL.out, H0L.out]) (all_oneCell_toArray X1.out) ?_)
    | fail)
  generalize ((w6.alloc (Obj.cells (txC tx0 hd0).toArray 39)).setRow N (txC x h).toArray) = w7 at *
  clear hz hN
  have k2 := (KV.out _ V7'.out).2
  have V8' : Hid (V8 S w x h y k N (mixT x y) (mixH y h k) (w7.setCells N 9 (cerC y k))) := Lib.hid ⟨V7'.out.sets SN.out _ _, z4 HX.out HY.out XB.out E5.out, bl_lt (z4 HX.out HY.out XB.out E5.out)⟩
  go_upto_region 16 with (first
    | (refine wpList_load_midG (by rfl) 32 (.tmp 60) rfl (S + 1) 9 rfl (cerC y k) _ (YT.out _ V7'.out).cer Tryz.underlying32 rfl HC.out ?_)
    | (refine wpList_store_mid rfl 32 (.tmp 62) (.tmp 61) rfl N 9 (cerC y k).toArray rfl rfl (bl_there XB.out (by rw [List.size_toArray, cerC_len k HY.out, HXL.out] <;> omega)) (by rw [List.size_toArray]; exact HC.out) (all_oneCell_toArray (cerC_one _ _)) ?_)
    | fail)
  generalize (w7.setCells N 9 (cerC y k)) = w8 at *
  
  have DN := Lib.hid (DD.out N)
  have HJL : Hid ((Tryz.prog.info? 39).map (·.size) = some (txC (mixT x y) (mixH y h k)).length) := szL i39 (txC_len _ (mix_wf HX.out HY.out))
  have HD : Hid ((DigP (mixT x y) (hash1 120)).length = 8) := digP_len (hash1_len _ _)
  generalize mixT x y = z at *
  generalize mixH y h k = l at *
  generalize DigP z (hash1 120) = d at *
  clear V V7' XA XB CC DD KV YT XT k2
  have V := V8'
  have T1 := Lib.hid trivial
  have T2 := Lib.hid trivial
  have T3 := Lib.hid trivial
  go_upto_region 17 with (first
    | (refine wpList_load_midG (by rfl) 39 (.tmp 5) rfl N 0 rfl (txC z l) _ (range_of V.out.z) Tryz.underlying39 rfl HJL.out ?_)
    | (go_at_call 11; refine (DN.out.en _ V.out).mono ?_; rintro e w9 ⟨rfl, hb⟩; have V := Lib.hid (V.out.step hb); clear hb)
    | fail)
  have hz := z29b
  go_upto_region 18 with (first
    | (refine wpList_load_midG (by rfl) 39 (.tmp 5) rfl N 0 rfl (txC z l) _ (range_of V.out.z) Tryz.underlying39 rfl HJL.out ?_)
    | (go_at_call 13; refine (DN.out.id _ V.out).mono ?_; rintro e w10 ⟨rfl, hb⟩; have V := Lib.hid (V.out.step hb); have XE : Hid (BL (w10.alloc (Obj.cells (bvals (zeros 8)).toArray 29)) w10.heap.size (bvals (zeros 8)) 29) := Lib.hid (heap_alloc_last w10 _); clear hb)
    | (refine wpList_store_rowTo rfl 29 (.tmp 8) (.tmp 71) rfl rfl w10.heap.size (bvals d).toArray rfl rfl 29 (bvals (zeros 8)).toArray XE.out (szA i29 (bv8s HD.out)) (by rw [List.size_toArray, List.size_toArray, bv8s HD.out, bv8s (zeros_len 8)]) (all_oneCell_toArray (bv_one _)) ?_)
    | fail)
  have V := Lib.hid (V.out.step (below_setRow ((Below.refl _ w10).alloc (Nat.le_refl _) (Obj.cells (bvals (zeros 8)).toArray 29)) (Nat.le_refl _) (bvals d).toArray))
  clear hz XE
  generalize ((w10.alloc (Obj.cells (bvals (zeros 8)).toArray 29)).setRow w10.heap.size (bvals d).toArray) = w11 at *
  go_wp2_with (first
    | (refine wpList_load_midG (by rfl) 39 (.tmp 2) rfl S 0 rfl (txC x h) _ (range_of V.out.v.x) Tryz.underlying39 rfl HI.out ?_)
    | (refine wpList_load_midG (by rfl) 39 (.tmp 3) rfl (S + 1) 0 rfl (txC y k) _ (range_of V.out.v.y) Tryz.underlying39 rfl HJ.out ?_)
    | (refine wpList_load_midG (by rfl) 39 (.tmp 5) rfl N 0 rfl (txC z l) _ (range_of V.out.z) Tryz.underlying39 rfl HJL.out ?_)
    | (clear T1; go_at_call 15; refine (DN.out.mx _ V.out).mono ?_; rintro e w' ⟨rfl, hb⟩; have V := Lib.hid (V.out.step hb); clear hb)
    | (clear T2; go_at_call 15; refine (DN.out.my _ V.out).mono ?_; rintro e w' ⟨rfl, hb⟩; have V := Lib.hid (V.out.step hb); clear hb)
    | (clear T3; go_at_call 15; refine (DN.out.mz _ V.out).mono ?_; rintro e w' ⟨rfl, hb⟩; have V := Lib.hid (V.out.step hb); clear hb)
    | (go_at_call 21; refine (DN.out.sm _ V.out).mono ?_; rintro e w' ⟨rfl, hb⟩; have V := Lib.hid (V.out.step hb); clear hb)
    | fail)
  go_ret
  exact ⟨rfl, by rw [HS.out]; exact V.out.v.bel⟩
end Go.Proofs.YtffaddefnpkcgaaGreatDoor

namespace Go.Proofs.YtffaddefnpkcgaaGreatDoor
open Go.RowKit
set_option maxRecDepth 100000
attribute [local irreducible] txC parC cerC claC mixT mixH DigP hash1 mayT fewB bvals zeros
set_option maxHeartbeats 8000000 in
theorem p7_5 (x : TxP) (h : TxH) (y : TxP) (k : TxH) (w : World) (hx : WfT x) (hy : WfT y) (mx : Mem w x h) (my : Mem w y k) (hk : Keys w) (e1 : fewB x = true) (e2 : fewB y = true) (e3 : mayT x = true) (e4 : mayT y = true) (e5 : y.kind = 5) (e6 : x.kind ≠ y.kind) :
    Calls Tryz.prog 7 #[.agg (txC x h).toArray, .agg (txC y k).toArray] w fun e w' => e = .returned (.bool true) ∧ Below w.heap.size w w' := by
  obtain ⟨S, hS⟩ : ∃ S, w.heap.size = S := ⟨_, rfl⟩
  have HS := Lib.hid hS
  have CC0 := c7_of w x h y k hx hy mx my hk
  have V0 := v7_0 w x h y k
  rw [hS] at CC0 V0
  have DD0 := fun N => d8_of w x h y k N hx hy mx my hk e3 e4 e6
  rw [hS] at DD0
  rw [e1, e2, e3, e4] at CC0
  have CC := Lib.hid CC0
  have V := Lib.hid V0
  have HI : Hid ((Tryz.prog.info? 39).map (·.size) = some (txC x h).length) := szL i39 (txC_len h hx)
  have HJ : Hid ((Tryz.prog.info? 39).map (·.size) = some (txC y k).length) := szL i39 (txC_len k hy)
  have E5 := Lib.hid e5
  have DD := Lib.hid DD0
  have q1 : ¬ x.kind = 5 := by rw [← e5]; exact e6
  have HX := Lib.hid hx
  have HY := Lib.hid hy
  have HP : Hid ((Tryz.prog.info? 27).map (·.size) = some (parC y k).length) := szL i27 (parC_len k hy)
  have HC : Hid ((Tryz.prog.info? 32).map (·.size) = some (cerC y k).length) := szL i32 (cerC_len k hy)
  have HL : Hid ((Tryz.prog.info? 37).map (·.size) = some (claC y).length) := szL i37 (claC_len hy)
  have HXL : Hid ((txC x h).length = 170) := txC_len h hx
  have H0L : Hid ((txC tx0 hd0).length = 170) := txC_len _ wf_tx0
  have X1 : Hid (∀ v ∈ txC x h, v.oneCell' = true) := txC_one x h
  have YT : Hid (∀ w', V7 S w x h y k w' → TRng w' (S + 1) y k) := fun w' v => trng HY.out (range_of v.y)
  have XT : Hid (∀ w' N, BL w' N (txC x h) 39 → TRng w' N x h) := fun w' N v => trng HX.out (range_of v)
  have KV : Hid (∀ w', V7 S w x h y k w' → w'.cell? ⟨S, 0, none⟩ = some (.int .i64 x.kind) ∧ w'.cell? ⟨S + 1, 0, none⟩ = some (.int .i64 5)) := fun w' v => ⟨v.kx, by rw [v.ky, E5.out]⟩
  clear hx hy mx my hk CC0 V0 DD0 e1 e2 e3 e4 e5 e6
  have T1 := Lib.hid trivial
  have T2 := Lib.hid trivial
  have T3 := Lib.hid trivial
  have T4 := Lib.hid trivial
  go_enter Tryz.func7, Tryz.ntmps7
  go_upto_region 1 with (fail)
  generalize ((w.alloc (Obj.cells (txC x h).toArray 39)).alloc (Obj.cells (txC y k).toArray 39)) = v at *
  clear hS
  go_upto_region 5 with (first
      | (refine wpList_load_midG (by rfl) 39 (.tmp 2) rfl S 0 rfl (txC x h) _ (range_of V.out.x) Tryz.underlying39 rfl HI.out ?_)
      | (refine wpList_load_midG (by rfl) 39 (.tmp 3) rfl (S + 1) 0 rfl (txC y k) _ (range_of V.out.y) Tryz.underlying39 rfl HJ.out ?_)
      | (go_at_call 9; refine (CC.out.aw _ V.out).mono ?_; rintro e w' ⟨rfl, hb⟩; have V := Lib.hid (V.out.step hb); clear hb)
      | (clear T1; go_at_call 10; refine (CC.out.fx _ V.out).mono ?_; rintro e w' ⟨rfl, hb⟩; have V := Lib.hid (V.out.step hb); clear hb)
      | (clear T2; go_at_call 10; refine (CC.out.fy _ V.out).mono ?_; rintro e w' ⟨rfl, hb⟩; have V := Lib.hid (V.out.step hb); clear hb)
      | (clear T3; go_at_call 16; refine (CC.out.mx rfl _ V.out).mono ?_; rintro e w' ⟨rfl, hb⟩; have V := Lib.hid (V.out.step hb); clear hb)
      | (clear T4; go_at_call 16; refine (CC.out.my rfl _ V.out).mono ?_; rintro e w6 ⟨rfl, hb⟩; have V := Lib.hid (V.out.step hb); have k1 := (KV.out _ V.out).1; have k2 := (KV.out _ V.out).2; clear hb)
      | fail)
  clear k1 k2
  obtain ⟨N, hN⟩ : ∃ N, w6.heap.size = N := ⟨_, rfl⟩
  have VN := V.out.new hN
  have XA : Hid (BL (w6.alloc (Obj.cells (txC tx0 hd0).toArray 39)) N (txC tx0 hd0) 39) := by rw [← hN]; exact heap_alloc_last w6 _
  have V7' := Lib.hid VN.1
  have XB := Lib.hid VN.2.1
  have SN := Lib.hid VN.2.2
  clear VN
  have hz := z39
  go_upto_region 6 with (first
    | (refine wpList_load_midG (by rfl) 39 (.tmp 2) rfl S 0 rfl (txC x h) _ (range_of V.out.x) Tryz.underlying39 rfl HI.out ?_)
    | (refine wpList_store_rowTo rfl 39 (.tmp 5) (.tmp 37) rfl rfl N (txC x h).toArray rfl rfl 39 (txC tx0 hd0).toArray XA.out (szA i39 HXL.out) (by rw [List.size_toArray, List.size_toArray, HXL.out, H0L.out]) (all_oneCell_toArray X1.out) ?_)
    | fail)
  generalize ((w6.alloc (Obj.cells (txC tx0 hd0).toArray 39)).setRow N (txC x h).toArray) = w7 at *
  clear hz hN
  have k2 := (KV.out _ V7'.out).2
  have V8' : Hid (V8 S w x h y k N (mixT x y) (mixH y h k) (w7.setCells N 30 (claC y))) := Lib.hid ⟨V7'.out.sets SN.out _ _, z5 HX.out HY.out XB.out E5.out, bl_lt (z5 (k := k) HX.out HY.out XB.out E5.out)⟩
  go_upto_region 16 with (first
    | (refine wpList_load_midG (by rfl) 37 (.tmp 40) rfl (S + 1) 30 rfl (claC y) _ (YT.out _ V7'.out).cla Tryz.underlying37 rfl HL.out ?_)
    | (refine wpList_store_mid rfl 37 (.tmp 42) (.tmp 41) rfl N 30 (claC y).toArray rfl rfl (bl_there XB.out (by rw [List.size_toArray, claC_len HY.out, HXL.out] <;> omega)) (by rw [List.size_toArray]; exact HL.out) (all_oneCell_toArray (claC_one _)) ?_)
    | fail)
  generalize (w7.setCells N 30 (claC y)) = w8 at *
  
  have DN := Lib.hid (DD.out N)
  have HJL : Hid ((Tryz.prog.info? 39).map (·.size) = some (txC (mixT x y) (mixH y h k)).length) := szL i39 (txC_len _ (mix_wf HX.out HY.out))
  have HD : Hid ((DigP (mixT x y) (hash1 120)).length = 8) := digP_len (hash1_len _ _)
  generalize mixT x y = z at *
  generalize mixH y h k = l at *
  generalize DigP z (hash1 120) = d at *
  clear V V7' XA XB CC DD KV YT XT k2
  have V := V8'
  have T1 := Lib.hid trivial
  have T2 := Lib.hid trivial
  have T3 := Lib.hid trivial
  go_upto_region 17 with (first
    | (refine wpList_load_midG (by rfl) 39 (.tmp 5) rfl N 0 rfl (txC z l) _ (range_of V.out.z) Tryz.underlying39 rfl HJL.out ?_)
    | (go_at_call 11; refine (DN.out.en _ V.out).mono ?_; rintro e w9 ⟨rfl, hb⟩; have V := Lib.hid (V.out.step hb); clear hb)
    | fail)
  have hz := z29b
  go_upto_region 18 with (first
    | (refine wpList_load_midG (by rfl) 39 (.tmp 5) rfl N 0 rfl (txC z l) _ (range_of V.out.z) Tryz.underlying39 rfl HJL.out ?_)
    | (go_at_call 13; refine (DN.out.id _ V.out).mono ?_; rintro e w10 ⟨rfl, hb⟩; have V := Lib.hid (V.out.step hb); have XE : Hid (BL (w10.alloc (Obj.cells (bvals (zeros 8)).toArray 29)) w10.heap.size (bvals (zeros 8)) 29) := Lib.hid (heap_alloc_last w10 _); clear hb)
    | (refine wpList_store_rowTo rfl 29 (.tmp 8) (.tmp 71) rfl rfl w10.heap.size (bvals d).toArray rfl rfl 29 (bvals (zeros 8)).toArray XE.out (szA i29 (bv8s HD.out)) (by rw [List.size_toArray, List.size_toArray, bv8s HD.out, bv8s (zeros_len 8)]) (all_oneCell_toArray (bv_one _)) ?_)
    | fail)
  have V := Lib.hid (V.out.step (below_setRow ((Below.refl _ w10).alloc (Nat.le_refl _) (Obj.cells (bvals (zeros 8)).toArray 29)) (Nat.le_refl _) (bvals d).toArray))
  clear hz XE
  generalize ((w10.alloc (Obj.cells (bvals (zeros 8)).toArray 29)).setRow w10.heap.size (bvals d).toArray) = w11 at *
  go_wp2_with (first
    | (refine wpList_load_midG (by rfl) 39 (.tmp 2) rfl S 0 rfl (txC x h) _ (range_of V.out.v.x) Tryz.underlying39 rfl HI.out ?_)
    | (refine wpList_load_midG (by rfl) 39 (.tmp 3) rfl (S + 1) 0 rfl (txC y k) _ (range_of V.out.v.y) Tryz.underlying39 rfl HJ.out ?_)
    | (refine wpList_load_midG (by rfl) 39 (.tmp 5) rfl N 0 rfl (txC z l) _ (range_of V.out.z) Tryz.underlying39 rfl HJL.out ?_)
    | (clear T1; go_at_call 15; refine (DN.out.mx _ V.out).mono ?_; rintro e w' ⟨rfl, hb⟩; have V := Lib.hid (V.out.step hb); clear hb)
    | (clear T2; go_at_call 15; refine (DN.out.my _ V.out).mono ?_; rintro e w' ⟨rfl, hb⟩; have V := Lib.hid (V.out.step hb); clear hb)
    | (clear T3; go_at_call 15; refine (DN.out.mz _ V.out).mono ?_; rintro e w' ⟨rfl, hb⟩; have V := Lib.hid (V.out.step hb); clear hb)
    | (go_at_call 21; refine (DN.out.sm _ V.out).mono ?_; rintro e w' ⟨rfl, hb⟩; have V := Lib.hid (V.out.step hb); clear hb)
    | fail)
  go_ret
  exact ⟨rfl, by rw [HS.out]; exact V.out.v.bel⟩
end Go.Proofs.YtffaddefnpkcgaaGreatDoor

namespace Go.Proofs.YtffaddefnpkcgaaGreatDoor
open Go.RowKit
theorem q7 (x : TxP) (h : TxH) (y : TxP) (k : TxH) (w : World) (hx : WfT x) (hy : WfT y) (mx : Mem w x h) (my : Mem w y k) (hk : Keys w) :
    Calls Tryz.prog 7 #[.agg (txC x h).toArray, .agg (txC y k).toArray] w fun e w' => e = .returned (.bool true) ∧ Below w.heap.size w w' := by
  cases e1 : fewB x
  · exact n7_0 x h y k w hx hy mx my hk e1
  cases e2 : fewB y
  · exact n7_1 x h y k w hx hy mx my hk e1 e2
  cases e3 : mayT x
  · exact n7_2 x h y k w hx hy mx my hk e1 e2 e3
  cases e4 : mayT y
  · exact n7_3 x h y k w hx hy mx my hk e1 e2 e3 e4
  by_cases e6 : x.kind = y.kind
  · exact n7_4 x h y k w hx hy mx my hk e1 e2 e3 e4 e6
  have hf : mFld y = true := by
    have g := e4
    rw [may_zer, Bool.and_eq_true] at g
    exact g.2
  rcases fld_kind hf with e5 | e5 | e5 | e5 | e5
  · exact p7_1 x h y k w hx hy mx my hk e1 e2 e3 e4 e5 e6
  · exact p7_2 x h y k w hx hy mx my hk e1 e2 e3 e4 e5 e6
  · exact p7_3 x h y k w hx hy mx my hk e1 e2 e3 e4 e5 e6
  · exact p7_4 x h y k w hx hy mx my hk e1 e2 e3 e4 e5 e6
  · exact p7_5 x h y k w hx hy mx my hk e1 e2 e3 e4 e5 e6
end Go.Proofs.YtffaddefnpkcgaaGreatDoor
