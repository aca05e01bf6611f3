/-
  TxKinds: a field of another kind.
-/
import Derived.Test.YtffaddefnpkcgaaGreatDoorJS
namespace Go.Proofs.YtffaddefnpkcgaaGreatDoor
open Go.RowKit
set_option maxRecDepth 100000
attribute [local irreducible] txC parC cerC claC mixT mixH DigP hash1 mayT fewB bvals zeros
set_option maxHeartbeats 8000000 in
theorem p7_1 (x : TxP) (h : TxH) (y : TxP) (k : TxH) (w : World) (hx : WfT x) (hy : WfT y) (mx : Mem w x h) (my : Mem w y k) (hk : Keys w) (e1 : fewB x = true) (e2 : fewB y = true) (e3 : mayT x = true) (e4 : mayT y = true) (e5 : y.kind = 1) (e6 : x.kind ≠ y.kind) :
    Calls Tryz.prog 7 #[.agg (txC x h).toArray, .agg (txC y k).toArray] w fun e w' => e = .returned (.bool true) ∧ Below w.heap.size w w' := by
  obtain ⟨S, hS⟩ : ∃ S, w.heap.size = S := ⟨_, rfl⟩
  have HS := Lib.hid hS
  have CC0 := c7_of w x h y k hx hy mx my hk
  have V0 := v7_0 w x h y k
  rw [hS] at CC0 V0
  have DD0 := fun N => d8_of w x h y k N hx hy mx my hk e3 e4 e6
  rw [hS] at DD0
  rw [e1, e2, e3, e4] at CC0
  have CC := Lib.hid CC0
  have V := Lib.hid V0
  have HI : Hid ((Tryz.prog.info? 39).map (·.size) = some (txC x h).length) := szL i39 (txC_len h hx)
  have HJ : Hid ((Tryz.prog.info? 39).map (·.size) = some (txC y k).length) := szL i39 (txC_len k hy)
  have E5 := Lib.hid e5
  have DD := Lib.hid DD0
  have q1 : ¬ x.kind = 1 := by rw [← e5]; exact e6
  have HX := Lib.hid hx
  have HY := Lib.hid hy
  have HP : Hid ((Tryz.prog.info? 27).map (·.size) = some (parC y k).length) := szL i27 (parC_len k hy)
  have HC : Hid ((Tryz.prog.info? 32).map (·.size) = some (cerC y k).length) := szL i32 (cerC_len k hy)
  have HL : Hid ((Tryz.prog.info? 37).map (·.size) = some (claC y).length) := szL i37 (claC_len hy)
  have HXL : Hid ((txC x h).length = 170) := txC_len h hx
  have H0L : Hid ((txC tx0 hd0).length = 170) := txC_len _ wf_tx0
  have X1 : Hid (∀ v ∈ txC x h, v.oneCell' = true) := txC_one x h
  have YT : Hid (∀ w', V7 S w x h y k w' → TRng w' (S + 1) y k) := fun w' v => trng HY.out (range_of v.y)
  have XT : Hid (∀ w' N, BL w' N (txC x h) 39 → TRng w' N x h) := fun w' N v => trng HX.out (range_of v)
  have KV : Hid (∀ w', V7 S w x h y k w' → w'.cell? ⟨S, 0, none⟩ = some (.int .i64 x.kind) ∧ w'.cell? ⟨S + 1, 0, none⟩ = some (.int .i64 1)) := fun w' v => ⟨v.kx, by rw [v.ky, E5.out]⟩
  clear hx hy mx my hk CC0 V0 DD0 e1 e2 e3 e4 e5 e6
  have T1 := Lib.hid trivial
  have T2 := Lib.hid trivial
  have T3 := Lib.hid trivial
  have T4 := Lib.hid trivial
  go_enter Tryz.func7, Tryz.ntmps7
  go_upto_region 1 with (fail)
  generalize ((w.alloc (Obj.cells (txC x h).toArray 39)).alloc (Obj.cells (txC y k).toArray 39)) = v at *
  clear hS
  go_upto_region 5 with (first
      | (refine wpList_load_midG (by rfl) 39 (.tmp 2) rfl S 0 rfl (txC x h) _ (range_of V.out.x) Tryz.underlying39 rfl HI.out ?_)
      | (refine wpList_load_midG (by rfl) 39 (.tmp 3) rfl (S + 1) 0 rfl (txC y k) _ (range_of V.out.y) Tryz.underlying39 rfl HJ.out ?_)
      | (go_at_call 9; refine (CC.out.aw _ V.out).mono ?_; rintro e w' ⟨rfl, hb⟩; have V := Lib.hid (V.out.step hb); clear hb)
      | (clear T1; go_at_call 10; refine (CC.out.fx _ V.out).mono ?_; rintro e w' ⟨rfl, hb⟩; have V := Lib.hid (V.out.step hb); clear hb)
      | (clear T2; go_at_call 10; refine (CC.out.fy _ V.out).mono ?_; rintro e w' ⟨rfl, hb⟩; have V := Lib.hid (V.out.step hb); clear hb)
      | (clear T3; go_at_call 16; refine (CC.out.mx rfl _ V.out).mono ?_; rintro e w' ⟨rfl, hb⟩; have V := Lib.hid (V.out.step hb); clear hb)
      | (clear T4; go_at_call 16; refine (CC.out.my rfl _ V.out).mono ?_; rintro e w6 ⟨rfl, hb⟩; have V := Lib.hid (V.out.step hb); have k1 := (KV.out _ V.out).1; have k2 := (KV.out _ V.out).2; clear hb)
      | fail)
  clear k1 k2
  obtain ⟨N, hN⟩ : ∃ N, w6.heap.size = N := ⟨_, rfl⟩
  have VN := V.out.new hN
  have XA : Hid (BL (w6.alloc (Obj.cells (txC tx0 hd0).toArray 39)) N (txC tx0 hd0) 39) := by rw [← hN]; exact heap_alloc_last w6 _
  have V7' := Lib.hid VN.1
  have XB := Lib.hid VN.2.1
  have SN := Lib.hid VN.2.2
  clear VN
  have hz := z39
  go_upto_region 6 with (first
    | (refine wpList_load_midG (by rfl) 39 (.tmp 2) rfl S 0 rfl (txC x h) _ (range_of V.out.x) Tryz.underlying39 rfl HI.out ?_)
    | (refine wpList_store_rowTo rfl 39 (.tmp 5) (.tmp 37) rfl rfl N (txC x h).toArray rfl rfl 39 (txC tx0 hd0).toArray XA.out (szA i39 HXL.out) (by rw [List.size_toArray, List.size_toArray, HXL.out, H0L.out]) (all_oneCell_toArray X1.out) ?_)
    | fail)
  generalize ((w6.alloc (Obj.cells (txC tx0 hd0).toArray 39)).setRow N (txC x h).toArray) = w7 at *
  clear hz hN
  have k2 := (KV.out _ V7'.out).2
  have k3 := (YT.out _ V7'.out).height
  have k4 := (XT.out _ N XB.out).height
  have k5 : w7.frozen? ⟨N, 1, none⟩ = false := bl_free XB.out 1
  have V8' : Hid (V8 S w x h y k N (mixT x y) (mixH y h k) (w7.setCell ⟨N, 1, none⟩ (.int .i64 y.height))) := Lib.hid ⟨V7'.out.set SN.out _ _, z1 XB.out E5.out, by have := bl_lt XB.out; simpa [World.setCell] using this⟩
  go_upto_region 16 with (first
    | fail)
  generalize (w7.setCell ⟨N, 1, none⟩ (.int .i64 y.height)) = w8 at *
  clear k3 k4 k5
  have DN := Lib.hid (DD.out N)
  have HJL : Hid ((Tryz.prog.info? 39).map (·.size) = some (txC (mixT x y) (mixH y h k)).length) := szL i39 (txC_len _ (mix_wf HX.out HY.out))
  have HD : Hid ((DigP (mixT x y) (hash1 120)).length = 8) := digP_len (hash1_len _ _)
  generalize mixT x y = z at *
  generalize mixH y h k = l at *
  generalize DigP z (hash1 120) = d at *
  clear V V7' XA XB CC DD KV YT XT k2
  have V := V8'
  have T1 := Lib.hid trivial
  have T2 := Lib.hid trivial
  have T3 := Lib.hid trivial
  go_upto_region 17 with (first
    | (refine wpList_load_midG (by rfl) 39 (.tmp 5) rfl N 0 rfl (txC z l) _ (range_of V.out.z) Tryz.underlying39 rfl HJL.out ?_)
    | (go_at_call 11; refine (DN.out.en _ V.out).mono ?_; rintro e w9 ⟨rfl, hb⟩; have V := Lib.hid (V.out.step hb); clear hb)
    | fail)
  have hz := z29b
  go_upto_region 18 with (first
    | (refine wpList_load_midG (by rfl) 39 (.tmp 5) rfl N 0 rfl (txC z l) _ (range_of V.out.z) Tryz.underlying39 rfl HJL.out ?_)
    | (go_at_call 13; refine (DN.out.id _ V.out).mono ?_; rintro e w10 ⟨rfl, hb⟩; have V := Lib.hid (V.out.step hb); have XE : Hid (BL (w10.alloc (Obj.cells (bvals (zeros 8)).toArray 29)) w10.heap.size (bvals (zeros 8)) 29) := Lib.hid (heap_alloc_last w10 _); clear hb)
    | (refine wpList_store_rowTo rfl 29 (.tmp 8) (.tmp 71) rfl rfl w10.heap.size (bvals d).toArray rfl rfl 29 (bvals (zeros 8)).toArray XE.out (szA i29 (bv8s HD.out)) (by rw [List.size_toArray, List.size_toArray, bv8s HD.out, bv8s (zeros_len 8)]) (all_oneCell_toArray (bv_one _)) ?_)
    | fail)
  have V := Lib.hid (V.out.step (below_setRow ((Below.refl _ w10).alloc (Nat.le_refl _) (Obj.cells (bvals (zeros 8)).toArray 29)) (Nat.le_refl _) (bvals d).toArray))
  clear hz XE
  generalize ((w10.alloc (Obj.cells (bvals (zeros 8)).toArray 29)).setRow w10.heap.size (bvals d).toArray) = w11 at *
  go_wp2_with (first
    | (refine wpList_load_midG (by rfl) 39 (.tmp 2) rfl S 0 rfl (txC x h) _ (range_of V.out.v.x) Tryz.underlying39 rfl HI.out ?_)
    | (refine wpList_load_midG (by rfl) 39 (.tmp 3) rfl (S + 1) 0 rfl (txC y k) _ (range_of V.out.v.y) Tryz.underlying39 rfl HJ.out ?_)
    | (refine wpList_load_midG (by rfl) 39 (.tmp 5) rfl N 0 rfl (txC z l) _ (range_of V.out.z) Tryz.underlying39 rfl HJL.out ?_)
    | (clear T1; go_at_call 15; refine (DN.out.mx _ V.out).mono ?_; rintro e w' ⟨rfl, hb⟩; have V := Lib.hid (V.out.step hb); clear hb)
    | (clear T2; go_at_call 15; refine (DN.out.my _ V.out).mono ?_; rintro e w' ⟨rfl, hb⟩; have V := Lib.hid (V.out.step hb); clear hb)
    | (clear T3; go_at_call 15; refine (DN.out.mz _ V.out).mono ?_; rintro e w' ⟨rfl, hb⟩; have V := Lib.hid (V.out.step hb); clear hb)
    | (go_at_call 21; refine (DN.out.sm _ V.out).mono ?_; rintro e w' ⟨rfl, hb⟩; have V := Lib.hid (V.out.step hb); clear hb)
    | fail)
  go_ret
  exact ⟨rfl, by rw [HS.out]; exact V.out.v.bel⟩
end Go.Proofs.YtffaddefnpkcgaaGreatDoor

namespace Go.Proofs.YtffaddefnpkcgaaGreatDoor
open Go.RowKit
set_option maxRecDepth 100000
attribute [local irreducible] txC parC cerC claC mixT mixH DigP hash1 mayT fewB bvals zeros
set_option maxHeartbeats 8000000 in
theorem p7_2 (x : TxP) (h : TxH) (y : TxP) (k : TxH) (w : World) (hx : WfT x) (hy : WfT y) (mx : Mem w x h) (my : Mem w y k) (hk : Keys w) (e1 : fewB x = true) (e2 : fewB y = true) (e3 : mayT x = true) (e4 : mayT y = true) (e5 : y.kind = 2) (e6 : x.kind ≠ y.kind) :
    Calls Tryz.prog 7 #[.agg (txC x h).toArray, .agg (txC y k).toArray] w fun e w' => e = .returned (.bool true) ∧ Below w.heap.size w w' := by
  obtain ⟨S, hS⟩ : ∃ S, w.heap.size = S := ⟨_, rfl⟩
  have HS := Lib.hid hS
  have CC0 := c7_of w x h y k hx hy mx my hk
  have V0 := v7_0 w x h y k
  rw [hS] at CC0 V0
  have DD0 := fun N => d8_of w x h y k N hx hy mx my hk e3 e4 e6
  rw [hS] at DD0
  rw [e1, e2, e3, e4] at CC0
  have CC := Lib.hid CC0
  have V := Lib.hid V0
  have HI : Hid ((Tryz.prog.info? 39).map (·.size) = some (txC x h).length) := szL i39 (txC_len h hx)
  have HJ : Hid ((Tryz.prog.info? 39).map (·.size) = some (txC y k).length) := szL i39 (txC_len k hy)
  have E5 := Lib.hid e5
  have DD := Lib.hid DD0
  have q1 : ¬ x.kind = 2 := by rw [← e5]; exact e6
  have HX := Lib.hid hx
  have HY := Lib.hid hy
  have HP : Hid ((Tryz.prog.info? 27).map (·.size) = some (parC y k).length) := szL i27 (parC_len k hy)
  have HC : Hid ((Tryz.prog.info? 32).map (·.size) = some (cerC y k).length) := szL i32 (cerC_len k hy)
  have HL : Hid ((Tryz.prog.info? 37).map (·.size) = some (claC y).length) := szL i37 (claC_len hy)
  have HXL : Hid ((txC x h).length = 170) := txC_len h hx
  have H0L : Hid ((txC tx0 hd0).length = 170) := txC_len _ wf_tx0
  have X1 : Hid (∀ v ∈ txC x h, v.oneCell' = true) := txC_one x h
  have YT : Hid (∀ w', V7 S w x h y k w' → TRng w' (S + 1) y k) := fun w' v => trng HY.out (range_of v.y)
  have XT : Hid (∀ w' N, BL w' N (txC x h) 39 → TRng w' N x h) := fun w' N v => trng HX.out (range_of v)
  have KV : Hid (∀ w', V7 S w x h y k w' → w'.cell? ⟨S, 0, none⟩ = some (.int .i64 x.kind) ∧ w'.cell? ⟨S + 1, 0, none⟩ = some (.int .i64 2)) := fun w' v => ⟨v.kx, by rw [v.ky, E5.out]⟩
  clear hx hy mx my hk CC0 V0 DD0 e1 e2 e3 e4 e5 e6
  have T1 := Lib.hid trivial
  have T2 := Lib.hid trivial
  have T3 := Lib.hid trivial
  have T4 := Lib.hid trivial
  go_enter Tryz.func7, Tryz.ntmps7
  go_upto_region 1 with (fail)
  generalize ((w.alloc (Obj.cells (txC x h).toArray 39)).alloc (Obj.cells (txC y k).toArray 39)) = v at *
  clear hS
  go_upto_region 5 with (first
      | (refine wpList_load_midG (by rfl) 39 (.tmp 2) rfl S 0 rfl (txC x h) _ (range_of V.out.x) Tryz.underlying39 rfl HI.out ?_)
      | (refine wpList_load_midG (by rfl) 39 (.tmp 3) rfl (S + 1) 0 rfl (txC y k) _ (range_of V.out.y) Tryz.underlying39 rfl HJ.out ?_)
      | (go_at_call 9; refine (CC.out.aw _ V.out).mono ?_; rintro e w' ⟨rfl, hb⟩; have V := Lib.hid (V.out.step hb); clear hb)
      | (clear T1; go_at_call 10; refine (CC.out.fx _ V.out).mono ?_; rintro e w' ⟨rfl, hb⟩; have V := Lib.hid (V.out.step hb); clear hb)
      | (clear T2; go_at_call 10; refine (CC.out.fy _ V.out).mono ?_; rintro e w' ⟨rfl, hb⟩; have V := Lib.hid (V.out.step hb); clear hb)
      | (clear T3; go_at_call 16; refine (CC.out.mx rfl _ V.out).mono ?_; rintro e w' ⟨rfl, hb⟩; have V := Lib.hid (V.out.step hb); clear hb)
      | (clear T4; go_at_call 16; refine (CC.out.my rfl _ V.out).mono ?_; rintro e w6 ⟨rfl, hb⟩; have V := Lib.hid (V.out.step hb); have k1 := (KV.out _ V.out).1; have k2 := (KV.out _ V.out).2; clear hb)
      | fail)
  clear k1 k2
  obtain ⟨N, hN⟩ : ∃ N, w6.heap.size = N := ⟨_, rfl⟩
  have VN := V.out.new hN
  have XA : Hid (BL (w6.alloc (Obj.cells (txC tx0 hd0).toArray 39)) N (txC tx0 hd0) 39) := by rw [← hN]; exact heap_alloc_last w6 _
  have V7' := Lib.hid VN.1
  have XB := Lib.hid VN.2.1
  have SN := Lib.hid VN.2.2
  clear VN
  have hz := z39
  go_upto_region 6 with (first
    | (refine wpList_load_midG (by rfl) 39 (.tmp 2) rfl S 0 rfl (txC x h) _ (range_of V.out.x) Tryz.underlying39 rfl HI.out ?_)
    | (refine wpList_store_rowTo rfl 39 (.tmp 5) (.tmp 37) rfl rfl N (txC x h).toArray rfl rfl 39 (txC tx0 hd0).toArray XA.out (szA i39 HXL.out) (by rw [List.size_toArray, List.size_toArray, HXL.out, H0L.out]) (all_oneCell_toArray X1.out) ?_)
    | fail)
  generalize ((w6.alloc (Obj.cells (txC tx0 hd0).toArray 39)).setRow N (txC x h).toArray) = w7 at *
  clear hz hN
  have k2 := (KV.out _ V7'.out).2
  have k3 := (YT.out _ V7'.out).i
  have k4 := (XT.out _ N XB.out).i
  have k5 : w7.frozen? ⟨N, 2, none⟩ = false := bl_free XB.out 2
  have V8' : Hid (V8 S w x h y k N (mixT x y) (mixH y h k) (w7.setCell ⟨N, 2, none⟩ (.slice k.i.A y.ins.length k.i.c))) := Lib.hid ⟨V7'.out.set SN.out _ _, z2 XB.out E5.out, by have := bl_lt XB.out; simpa [World.setCell] using this⟩
  go_upto_region 16 with (first
    | fail)
  generalize (w7.setCell ⟨N, 2, none⟩ (.slice k.i.A y.ins.length k.i.c)) = w8 at *
  clear k3 k4 k5
  have DN := Lib.hid (DD.out N)
  have HJL : Hid ((Tryz.prog.info? 39).map (·.size) = some (txC (mixT x y) (mixH y h k)).length) := szL i39 (txC_len _ (mix_wf HX.out HY.out))
  have HD : Hid ((DigP (mixT x y) (hash1 120)).length = 8) := digP_len (hash1_len _ _)
  generalize mixT x y = z at *
  generalize mixH y h k = l at *
  generalize DigP z (hash1 120) = d at *
  clear V V7' XA XB CC DD KV YT XT k2
  have V := V8'
  have T1 := Lib.hid trivial
  have T2 := Lib.hid trivial
  have T3 := Lib.hid trivial
  go_upto_region 17 with (first
    | (refine wpList_load_midG (by rfl) 39 (.tmp 5) rfl N 0 rfl (txC z l) _ (range_of V.out.z) Tryz.underlying39 rfl HJL.out ?_)
    | (go_at_call 11; refine (DN.out.en _ V.out).mono ?_; rintro e w9 ⟨rfl, hb⟩; have V := Lib.hid (V.out.step hb); clear hb)
    | fail)
  have hz := z29b
  go_upto_region 18 with (first
    | (refine wpList_load_midG (by rfl) 39 (.tmp 5) rfl N 0 rfl (txC z l) _ (range_of V.out.z) Tryz.underlying39 rfl HJL.out ?_)
    | (go_at_call 13; refine (DN.out.id _ V.out).mono ?_; rintro e w10 ⟨rfl, hb⟩; have V := Lib.hid (V.out.step hb); have XE : Hid (BL (w10.alloc (Obj.cells (bvals (zeros 8)).toArray 29)) w10.heap.size (bvals (zeros 8)) 29) := Lib.hid (heap_alloc_last w10 _); clear hb)
    | (refine wpList_store_rowTo rfl 29 (.tmp 8) (.tmp 71) rfl rfl w10.heap.size (bvals d).toArray rfl rfl 29 (bvals (zeros 8)).toArray XE.out (szA i29 (bv8s HD.out)) (by rw [List.size_toArray, List.size_toArray, bv8s HD.out, bv8s (zeros_len 8)]) (all_oneCell_toArray (bv_one _)) ?_)
    | fail)
  have V := Lib.hid (V.out.step (below_setRow ((Below.refl _ w10).alloc (Nat.le_refl _) (Obj.cells (bvals (zeros 8)).toArray 29)) (Nat.le_refl _) (bvals d).toArray))
  clear hz XE
  generalize ((w10.alloc (Obj.cells (bvals (zeros 8)).toArray 29)).setRow w10.heap.size (bvals d).toArray) = w11 at *
  go_wp2_with (first
    | (refine wpList_load_midG (by rfl) 39 (.tmp 2) rfl S 0 rfl (txC x h) _ (range_of V.out.v.x) Tryz.underlying39 rfl HI.out ?_)
    | (refine wpList_load_midG (by rfl) 39 (.tmp 3) rfl (S + 1) 0 rfl (txC y k) _ (range_of V.out.v.y) Tryz.underlying39 rfl HJ.out ?_)
    | (refine wpList_load_midG (by rfl) 39 (.tmp 5) rfl N 0 rfl (txC z l) _ (range_of V.out.z) Tryz.underlying39 rfl HJL.out ?_)
    | (clear T1; go_at_call 15; refine (DN.out.mx _ V.out).mono ?_; rintro e w' ⟨rfl, hb⟩; have V := Lib.hid (V.out.step hb); clear hb)
    | (clear T2; go_at_call 15; refine (DN.out.my _ V.out).mono ?_; rintro e w' ⟨rfl, hb⟩; have V := Lib.hid (V.out.step hb); clear hb)
    | (clear T3; go_at_call 15; refine (DN.out.mz _ V.out).mono ?_; rintro e w' ⟨rfl, hb⟩; have V := Lib.hid (V.out.step hb); clear hb)
    | (go_at_call 21; refine (DN.out.sm _ V.out).mono ?_; rintro e w' ⟨rfl, hb⟩; have V := Lib.hid (V.out.step hb); clear hb)
    | fail)
  go_ret
  exact ⟨rfl, by rw [HS.out]; exact V.out.v.bel⟩
end Go.Proofs.YtffaddefnpkcgaaGreatDoor

namespace Go.Proofs.YtffaddefnpkcgaaGreatDoor
open Go.RowKit
set_option maxRecDepth 100000
attribute [local irreducible] txC parC cerC claC mixT mixH DigP hash1 mayT fewB bvals zeros
set_option maxHeartbeats 8000000 in
theorem p7_3 (x : TxP) (h : TxH) (y : TxP) (k : TxH) (w : World) (hx : WfT x) (hy : WfT y) (mx : Mem w x h) (my : Mem w y k) (hk : Keys w) (e1 : fewB x = true) (e2 : fewB y = true) (e3 : mayT x = true) (e4 : mayT y = true) (e5 : y.kind = 3) (e6 : x.kind ≠ y.kind) :
    Calls Tryz.prog 7 #[.agg (txC x h).toArray, .agg (txC y k).toArray] w fun e w' => e = .returned (.bool true) ∧ Below w.heap.size w w' := by
  obtain ⟨S, hS⟩ : ∃ S, w.heap.size = S := ⟨_, rfl⟩
  have HS := Lib.hid hS
  have CC0 := c7_of w x h y k hx hy mx my hk
  have V0 := v7_0 w x h y k
  rw [hS] at CC0 V0
  have DD0 := fun N => d8_of w x h y k N hx hy mx my hk e3 e4 e6
  rw [hS] at DD0
  rw [e1, e2, e3, e4] at CC0
  have CC := Lib.hid CC0
  have V := Lib.hid V0
  have HI : Hid ((Tryz.prog.info? 39).map (·.size) = some (txC x h).length) := szL i39 (txC_len h hx)
  have HJ : Hid ((Tryz.prog.info? 39).map (·.size) = some (txC y k).length) := szL i39 (txC_len k hy)
  have E5 := Lib.hid e5
  have DD := Lib.hid DD0
  have q1 : ¬ x.kind = 3 := by rw [← e5]; exact e6
  have HX := Lib.hid hx
  have HY := Lib.hid hy
  have HP : Hid ((Tryz.prog.info? 27).map (·.size) = some (parC y k).length) := szL i27 (parC_len k hy)
  have HC : Hid ((Tryz.prog.info? 32).map (·.size) = some (cerC y k).length) := szL i32 (cerC_len k hy)
  have HL : Hid ((Tryz.prog.info? 37).map (·.size) = some (claC y).length) := szL i37 (claC_len hy)
  have HXL : Hid ((txC x h).length = 170) := txC_len h hx
  have H0L : Hid ((txC tx0 hd0).length = 170) := txC_len _ wf_tx0
  have X1 : Hid (∀ v ∈ txC x h, v.oneCell' = true) := txC_one x h
  have YT : Hid (∀ w', V7 S w x h y k w' → TRng w' (S + 1) y k) := fun w' v => trng HY.out (range_of v.y)
  have XT : Hid (∀ w' N, BL w' N (txC x h) 39 → TRng w' N x h) := fun w' N v => trng HX.out (range_of v)
  have KV : Hid (∀ w', V7 S w x h y k w' → w'.cell? ⟨S, 0, none⟩ = some (.int .i64 x.kind) ∧ w'.cell? ⟨S + 1, 0, none⟩ = some (.int .i64 3)) := fun w' v => ⟨v.kx, by rw [v.ky, E5.out]⟩
  clear hx hy mx my hk CC0 V0 DD0 e1 e2 e3 e4 e5 e6
  have T1 := Lib.hid trivial
  have T2 := Lib.hid trivial
  have T3 := Lib.hid trivial
  have T4 := Lib.hid trivial
  go_enter Tryz.func7, Tryz.ntmps7
  go_upto_region 1 with (fail)
  generalize ((w.alloc (Obj.cells (txC x h).toArray 39)).alloc (Obj.cells (txC y k).toArray 39)) = v at *
  clear hS
  go_upto_region 5 with (first
      | (refine wpList_load_midG (by rfl) 39 (.tmp 2) rfl S 0 rfl (txC x h) _ (range_of V.out.x) Tryz.underlying39 rfl HI.out ?_)
      | (refine wpList_load_midG (by rfl) 39 (.tmp 3) rfl (S + 1) 0 rfl (txC y k) _ (range_of V.out.y) Tryz.underlying39 rfl HJ.out ?_)
      | (go_at_call 9; refine (CC.out.aw _ V.out).mono ?_; rintro e w' ⟨rfl, hb⟩; have V := Lib.hid (V.out.step hb); clear hb)
      | (clear T1; go_at_call 10; refine (CC.out.fx _ V.out).mono ?_; rintro e w' ⟨rfl, hb⟩; have V := Lib.hid (V.out.step hb); clear hb)
      | (clear T2; go_at_call 10; refine (CC.out.fy _ V.out).mono ?_; rintro e w' ⟨rfl, hb⟩; have V := Lib.hid (V.out.step hb); clear hb)
      | (clear T3; go_at_call 16; refine (CC.out.mx rfl _ V.out).mono ?_; rintro e w' ⟨rfl, hb⟩; have V := Lib.hid (V.out.step hb); clear hb)
      | (clear T4; go_at_call 16; refine (CC.out.my rfl _ V.out).mono ?_; rintro e w6 ⟨rfl, hb⟩; have V := Lib.hid (V.out.step hb); have k1 := (KV.out _ V.out).1; have k2 := (KV.out _ V.out).2; clear hb)
      | fail)
  clear k1 k2
  obtain ⟨N, hN⟩ : ∃ N, w6.heap.size = N := ⟨_, rfl⟩
  have VN := V.out.new hN
  have XA : Hid (BL (w6.alloc (Obj.cells (txC tx0 hd0).toArray 39)) N (txC tx0 hd0) 39) := by rw [← hN]; exact heap_alloc_last w6 _
  have V7' := Lib.hid VN.1
  have XB := Lib.hid VN.2.1
  have SN := Lib.hid VN.2.2
  clear VN
  have hz := z39
  go_upto_region 6 with (first
    | (refine wpList_load_midG (by rfl) 39 (.tmp 2) rfl S 0 rfl (txC x h) _ (range_of V.out.x) Tryz.underlying39 rfl HI.out ?_)
    | (refine wpList_store_rowTo rfl 39 (.tmp 5) (.tmp 37) rfl rfl N (txC x h).toArray rfl rfl 39 (txC tx0 hd0).toArray XA.out (szA i39 HXL.out) (by rw [List.size_toArray, List.size_toArray, HXL.out, H0L.out]) (all_oneCell_toArray X1.out) ?_)
    | fail)
  generalize ((w6.alloc (Obj.cells (txC tx0 hd0).toArray 39)).setRow N (txC x h).toArray) = w7 at *
  clear hz hN
  have k2 := (KV.out _ V7'.out).2
  have V8' : Hid (V8 S w x h y k N (mixT x y) (mixH y h k) (w7.setCells N 5 (parC y k))) := Lib.hid ⟨V7'.out.sets SN.out _ _, z3 HX.out HY.out XB.out E5.out, bl_lt (z3 HX.out HY.out XB.out E5.out)⟩
  go_upto_region 16 with (first
    | (refine wpList_load_midG (by rfl) 27 (.tmp 55) rfl (S + 1) 5 rfl (parC y k) _ (YT.out _ V7'.out).par Tryz.underlying27 rfl HP.out ?_)
    | (refine wpList_store_mid rfl 27 (.tmp 57) (.tmp 56) rfl N 5 (parC y k).toArray rfl rfl (bl_there XB.out (by rw [List.size_toArray, parC_len k HY.out, HXL.out] <;> omega)) (by rw [List.size_toArray]; exact HP.out) (all_oneCell_toArray (parC_one _ _)) ?_)
    | fail)
  generalize (w7.setCells N 5 (parC y k)) = w8 at *
  
  have DN := Lib.hid (DD.out N)
  have HJL : Hid ((Tryz.prog.info? 39).map (·.size) = some (txC (mixT x y) (mixH y h k)).length) := szL i39 (txC_len _ (mix_wf HX.out HY.out))
  have HD : Hid ((DigP (mixT x y) (hash1 120)).length = 8) := digP_len (hash1_len _ _)
  generalize mixT x y = z at *
  generalize mixH y h k = l at *
  generalize DigP z (hash1 120) = d at *
  clear V V7' XA XB CC DD KV YT XT k2
  have V := V8'
  have T1 := Lib.hid trivial
  have T2 := Lib.hid trivial
  have T3 := Lib.hid trivial
  go_upto_region 17 with (first
    | (refine wpList_load_midG (by rfl) 39 (.tmp 5) rfl N 0 rfl (txC z l) _ (range_of V.out.z) Tryz.underlying39 rfl HJL.out ?_)
    | (go_at_call 11; refine (DN.out.en _ V.out).mono ?_; rintro e w9 ⟨rfl, hb⟩; have V := Lib.hid (V.out.step hb); clear hb)
    | fail)
  have hz := z29b
  go_upto_region 18 with (first
    | (refine wpList_load_midG (by rfl) 39 (.tmp 5) rfl N 0 rfl (txC z l) _ (range_of V.out.z) Tryz.underlying39 rfl HJL.out ?_)
    | (go_at_call 13; refine (DN.out.id _ V.out).mono ?_; rintro e w10 ⟨rfl, hb⟩; have V := Lib.hid (V.out.step hb); have XE : Hid (BL (w10.alloc (Obj.cells (bvals (zeros 8)).toArray 29)) w10.heap.size (bvals (zeros 8)) 29) := Lib.hid (heap_alloc_last w10 _); clear hb)
    | (refine wpList_store_rowTo rfl 29 (.tmp 8) (.tmp 71) rfl rfl w10.heap.size (bvals d).toArray rfl rfl 29 (bvals (zeros 8)).toArray XE.out (szA i29 (bv8s HD.out)) (by rw [List.size_toArray, List.size_toArray, bv8s HD.out, bv8s (zeros_len 8)]) (all_oneCell_toArray (bv_one _)) ?_)
    | fail)
  have V := Lib.hid (V.out.step (below_setRow ((Below.refl _ w10).alloc (Nat.le_refl _) (Obj.cells (bvals (zeros 8)).toArray 29)) (Nat.le_refl _) (bvals d).toArray))
  clear hz XE
  generalize ((w10.alloc (Obj.cells (bvals (zeros 8)).toArray 29)).setRow w10.heap.size (bvals d).toArray) = w11 at *
  go_wp2_with (first
    | (refine wpList_load_midG (by rfl) 39 (.tmp 2) rfl S 0 rfl (txC x h) _ (range_of V.out.v.x) Tryz.underlying39 rfl HI.out ?_)
    | (refine wpList_load_midG (by rfl) 39 (.tmp 3) rfl (S + 1) 0 rfl (txC y k) _ (range_of V.out.v.y) Tryz.underlying39 rfl HJ.out ?_)
    | (refine wpList_load_midG (by rfl) 39 (.tmp 5) rfl N 0 rfl (txC z l) _ (range_of V.out.z) Tryz.underlying39 rfl HJL.out ?_)
    | (clear T1; go_at_call 15; refine (DN.out.mx _ V.out).mono ?_; rintro e w' ⟨rfl, hb⟩; have V := Lib.hid (V.out.step hb); clear hb)
    | (clear T2; go_at_call 15; refine (DN.out.my _ V.out).mono ?_; rintro e w' ⟨rfl, hb⟩; have V := Lib.hid (V.out.step hb); clear hb)
    | (clear T3; go_at_call 15; refine (DN.out.mz _ V.out).mono ?_; rintro e w' ⟨rfl, hb⟩; have V := Lib.hid (V.out.step hb); clear hb)
    | (go_at_call 21; refine (DN.out.sm _ V.out).mono ?_; rintro e w' ⟨rfl, hb⟩; have V := Lib.hid (V.out.step hb); clear hb)
    | fail)
  go_ret
  exact ⟨rfl, by rw [HS.out]; exact V.out.v.bel⟩
end Go.Proofs.YtffaddefnpkcgaaGreatDoor
