/-
  The message that an input signs: the walk.
-/
import Derived.Test.YtffaddefnpkcgaaGreatDoorZX
namespace Go.Proofs.YtffaddefnpkcgaaGreatDoor
open Go.RowKit
set_option maxRecDepth 100000
theorem hash_pre (t : TxP) (h : TxH) (w : World) {S : Nat} (hS : w.heap.size = S) : BL ((w.alloc (Obj.cells (txC t h).toArray 39)).alloc (Obj.cells (bvals (zeros 8)).toArray 29)) S (txC t h) 39 ∧ BL ((w.alloc (Obj.cells (txC t h).toArray 39)).alloc (Obj.cells (bvals (zeros 8)).toArray 29)) (S + 1) (bvals (zeros 8)) 29 ∧ Below S w ((w.alloc (Obj.cells (txC t h).toArray 39)).alloc (Obj.cells (bvals (zeros 8)).toArray 29)) ∧ ((w.alloc (Obj.cells (txC t h).toArray 39)).alloc (Obj.cells (bvals (zeros 8)).toArray 29)).heap.size = S + 2 := by
  subst hS
  refine ⟨bl_keep (heap_alloc_last w _) (Below.heap_alloc _ _ _ (by simp)), ?_, ((Below.refl _ w).alloc (Nat.le_refl _) _).alloc (by simp) _, by simp⟩
  have := heap_alloc_last (w.alloc (Obj.cells (txC t h).toArray 39)) (Obj.cells (bvals (zeros 8)).toArray 29)
  rwa [World.size_alloc] at this
attribute [local irreducible] zeros bvals vals parC cerC claC txC cel seg hash1 hash2 zsig flat
set_option maxHeartbeats 4000000 in
theorem tMsgN (t : TxP) (h : TxH) (i : Int) (w : World) (hk2 : ¬ t.kind = 2) :
    Calls Tryz.prog 22 #[.agg (txC t h).toArray, .int .i64 i] w fun e w' => e = .returned (.tuple #[.agg (bvals (zeros 8)).toArray, .bool false]) ∧ Below w.heap.size w w' := by
  obtain ⟨S, hS⟩ : ∃ S, w.heap.size = S := ⟨_, rfl⟩
  have HS := Lib.hid hS
  have P := hash_pre t h w hS
  have X0 := Lib.hid P.1
  have X1 := Lib.hid P.2.1
  have B0 := Lib.hid P.2.2.1
  have k0 : ((w.alloc (Obj.cells (txC t h).toArray 39)).alloc (Obj.cells (bvals (zeros 8)).toArray 29)).cell? ⟨S, 0, none⟩ = some (.int .i64 t.kind) := range_cell (range_of P.1) (i := 0) (by unfold txC; rfl)
  have hz := z29b
  clear P
  go_enter Tryz.func22, Tryz.ntmps22
  go_upto_region 1 with (fail)
  generalize ((w.alloc (Obj.cells (txC t h).toArray 39)).alloc (Obj.cells (bvals (zeros 8)).toArray 29)) = v at *
  clear hz hS
  go_wp2_with (first
    | (refine wpList_bld (by rfl) 29 _ rfl b29b ?_)
    | (refine wpList_store_rowTo rfl 29 (.tmp 4) (.tmp 24) rfl rfl (S + 1) (bvals (zeros 8)).toArray rfl rfl 29 (bvals (zeros 8)).toArray X1.out (szA i29 (bv8s (zeros_len 8))) rfl (all_oneCell_toArray (bv_one _)) ?_)
    | fail)
  exact bodyPost_ret (v := .tuple #[.agg (bvals (zeros 8)).toArray, .bool false]) (results_ch rfl _ _ (S + 1) _ _ rfl (range_of (setRow_heap _ _ _ _ _ _ X1.out)) (szL i29 (bv8s (zeros_len 8))) rfl) rfl ⟨rfl, by rw [HS.out]; exact below_setRow B0.out (by omega) _⟩
end Go.Proofs.YtffaddefnpkcgaaGreatDoor
namespace Go.Proofs.YtffaddefnpkcgaaGreatDoor
open Go.RowKit
set_option maxRecDepth 100000
theorem tWithinY (n lo hi : Int) (w : World) (h : win lo hi n = true) : Calls Tryz.prog 54 #[.int .i64 n, .int .i64 lo, .int .i64 hi] w fun e w' => e = .returned (.bool true) ∧ w = w' := by
  have := tWithin n lo hi w
  rwa [h] at this
theorem txk2 {w : World} {S : Nat} {t : TxP} {h : TxH} (b : BL w S (txC t h) 39) : w.cell? ⟨S, 2, none⟩ = some (.slice h.i.A t.ins.length h.i.c) := range_cell (range_of b) (i := 2) rfl
theorem txk0 {w : World} {S : Nat} {t : TxP} {h : TxH} (b : BL w S (txC t h) 39) : w.cell? ⟨S, 0, none⟩ = some (.int .i64 t.kind) := range_cell (range_of b) (i := 0) rfl
theorem may_ins {t : TxP} (h : mayT t = true) (k : t.kind = 2) : 1 ≤ t.ins.length ∧ t.ins.length ≤ 8 := by
  rw [may_zer, Bool.and_eq_true] at h
  have := h.2
  unfold mFld mPay mIns mLis at this
  rw [if_neg (by omega), if_pos k] at this
  simp only [Bool.and_eq_true, win_iff] at this
  omega
attribute [local irreducible] zeros bvals vals parC cerC claC txC cel seg hash1 hash2 zsig flat encT mayT blankT win
set_option maxHeartbeats 8000000 in
theorem tMsgY (t : TxP) (h : TxH) (i : Nat) (w : World) (ht : WfT t) (hm : Mem w t h) (hk : Keys w) (hk2 : t.kind = 2) (hmay : mayT t = true) (hi : i < t.ins.length) :
    Calls Tryz.prog 22 #[.agg (txC t h).toArray, .int .i64 (i : Int)] w fun e w' => e = .returned (.tuple #[.agg (bvals (hash2 105 (encT (blankT t)) [(i : Int)])).toArray, .bool true]) ∧ Below w.heap.size w w' := by
  obtain ⟨S, hS⟩ : ∃ S, w.heap.size = S := ⟨_, rfl⟩
  have HS := Lib.hid hS
  obtain ⟨n, hn⟩ : ∃ n, t.ins.length = n := ⟨_, rfl⟩
  have HN := Lib.hid hn
  have hn8 : n ≤ 8 := by rw [← hn]; exact (may_ins hmay hk2).2
  obtain ⟨b, o, hA, hrow⟩ := lrow_at hm.i (by omega)
  obtain ⟨c, hc⟩ : ∃ c, h.i.c = c := ⟨_, rfl⟩
  have P := hash_pre t h w hS
  have X0 := Lib.hid P.1
  have X1 := Lib.hid P.2.1
  have B0 := Lib.hid P.2.2.1
  have Z0 := Lib.hid P.2.2.2
  have k0 := txk0 P.1
  have k2 := txk2 P.1
  rw [hk2] at k0
  rw [hA, hn, hc] at k2
  have HT := Lib.hid ht
  have HM := Lib.hid hm
  have HKY : Hid (∀ w', Below S w w' → Keys w') := Lib.hid fun w' hb => keys_below hk hb (by have := keys_pos hk; omega)
  have HMAY := Lib.hid hmay
  have HK2 := Lib.hid hk2
  have HROW : Hid (∀ w', Below S w w' → ∀ j, j < t.ins.length → w'.rangeAt b (o + j * inS.length) (vals inS (rcd t.ins j))) := Lib.hid fun w' hb j hj => range_keep (hrow j hj) fun q hq => hb.block q (by rw [← hS]; exact hq)
  have HI := Lib.hid (szL i39 (txC_len h ht))
  have hws1 : wrap64 ((n : Int) - 1) = (n : Int) - 1 := by unfold wrap64; omega
  have hws2 : IntKind.i64.wrap ((n : Int) - 1) = (n : Int) - 1 := by rw [IntKind.wrap_i64]; omega
  have hin : i < n := by omega
  have HW : Hid (win 0 ((n : Int) - 1) (i : Int) = true) := Lib.hid (win_iff.2 ⟨by omega, by omega⟩)
  have hz := z29b
  have CMAY : Hid (∀ w', Below S w w' → Calls Tryz.prog 15 #[.agg (txC t h).toArray] w' fun e w'' => e = .returned (.bool true) ∧ Below w'.heap.size w' w'') := Lib.hid fun w' hb => by
    have := tMay t h w' HT.out (HM.out.keep fun q hq => hb.block q (by rw [← HS.out]; exact hq))
    rwa [HMAY.out] at this
  clear P ht hm hk hk2 hmay hi hrow hA hc hn
  go_enter Tryz.func22, Tryz.ntmps22
  go_upto_region 1 with (fail)
  generalize ((w.alloc (Obj.cells (txC t h).toArray 39)).alloc (Obj.cells (bvals (zeros 8)).toArray 29)) = v at *
  clear hz hS
  go_upto_region 3 with (first
    | (refine wpList_load_midG (by rfl) 39 (.tmp 2) rfl S 0 rfl (txC t h) _ (range_of X0.out) Tryz.underlying39 rfl HI.out ?_)
    | (go_at_call 54; refine (tWithinY _ _ _ _ HW.out).mono ?_; rintro e w' ⟨rfl, rfl⟩)
    | (go_at_call 15; refine (CMAY.out _ B0.out).mono ?_; rintro e w2 ⟨rfl, hb⟩; have HB2 := Lib.hid hb; clear hb)
    | fail)
  clear k0 hws1 hws2
  have X2 : Hid (BL w2 S (txC t h) 39) := Lib.hid (bl_keep X0.out (HB2.out.block S (by rw [Z0.out]; omega)))
  have X3 : Hid (BL w2 (S + 1) (bvals (zeros 8)) 29) := Lib.hid (bl_keep X1.out (HB2.out.block (S + 1) (by rw [Z0.out]; omega)))
  have B2 : Hid (Below S w w2) := Lib.hid (B0.out.trans (HB2.out.mono (by rw [Z0.out]; omega)))
  have Z2 : Hid (S + 2 ≤ w2.heap.size) := by show _ ≤ _; rw [← Z0.out]; exact HB2.out.size
  have k3 : w2.cell? ⟨S, 2, none⟩ = some (.slice (some ⟨b, o, none⟩) n c) := by rw [← k2]; simp only [World.cell?, HB2.out.block S (by rw [Z0.out]; omega)]
  have CL := Lib.hid (tClone b o n c t.ins w2 HT.out.ins (HROW.out w2 B2.out) HN.out (by omega) (by omega))
  clear k2
  go_upto_region 4 with (first
    | (go_at_call 55; refine CL.out.mono ?_; rintro e w3 ⟨g, c', pad, rfl, ho, hb⟩; have OI := Lib.hid ho; have HB3 := Lib.hid hb; have X4 : Hid (BL w3 S (txC t h) 39) := Lib.hid (bl_keep X2.out (hb.block S (by have := Z2.out; omega))); have f4 : w3.frozen? ⟨S, 2, none⟩ = false := bl_free X4.out 2; have k4 : w3.cell? ⟨S, 2, none⟩ = some (.slice (some ⟨b, o, none⟩) n c) := (by rw [← k3]; simp only [World.cell?, hb.block S (by have := Z2.out; omega)]); clear ho hb)
    | fail)
  clear k3 k4 f4
  have GS : Hid (S + 2 ≤ g) := Nat.le_trans Z2.out OI.out.ge
  have Y0 : Hid (BL (w3.setCell ⟨S, 2, none⟩ (.slice (some ⟨g, 0, none⟩) n c')) S (txC t (inAt h g c')) 39) := Lib.hid (inAt_bl X4.out HN.out)
  have Y1 : Hid (BL (w3.setCell ⟨S, 2, none⟩ (.slice (some ⟨g, 0, none⟩) n c')) (S + 1) (bvals (zeros 8)) 29) := Lib.hid (bl_keep (bl_keep X3.out (HB3.out.block (S + 1) (by have := Z2.out; omega))) (heap_setCell_other _ _ _ _ (show S + 1 ≠ S by omega)))
  have Y2 : Hid (BL (w3.setCell ⟨S, 2, none⟩ (.slice (some ⟨g, 0, none⟩) n c')) g (flat inS t.ins ++ pad) 63) := Lib.hid (bl_keep OI.out.bl (heap_setCell_other _ _ _ _ (show g ≠ S by have := GS.out; omega)))
  have B4 : Hid (Below S w (w3.setCell ⟨S, 2, none⟩ (.slice (some ⟨g, 0, none⟩) n c'))) := Lib.hid ((B2.out.trans (HB3.out.mono (by have := Z2.out; omega))).setCell (Nat.le_refl _) _)
  have LE : Hid (n ≤ c' ∧ c' ≤ maxLen) := Lib.hid ⟨OI.out.le, OI.out.mx⟩
  clear X0 X1 B0 Z0 X2 X3 B2 Z2 HB2 HB3 OI X4 CL
  generalize (w3.setCell ⟨S, 2, none⟩ (.slice (some ⟨g, 0, none⟩) n c')) = w4 at *
  have k5 : w4.cell? ⟨S, 2, none⟩ = some (.slice (some ⟨g, 0, none⟩) n c') := by
    have := txk2 Y0.out
    rw [HN.out] at this
    exact this
  go_wp2
  go_loopw [32] (fun i wr => ∃ k : Nat, k ≤ n ∧ i = .int .i64 k ∧ LB w4 t g pad k wr) (fun i _ => n - (intOf i).toNat)
  case atStart => exact ⟨0, Nat.zero_le _, rfl, Below.refl _ _, by rw [blk_none]; exact Y2.out⟩
  case round =>
    obtain ⟨k, hk, rfl, hL⟩ := hrel
    have HL := Lib.hid hL
    clear hL
    have k6 : wr.cell? ⟨S, 2, none⟩ = some (.slice (some ⟨g, 0, none⟩) n c') := by rw [← k5]; simp only [World.cell?, HL.out.bel.block S (by have := GS.out; omega)]
    clear k5
    by_cases hlt : k < n
    · have s0 : (0 : Int) ≤ (k : Int) := by omega
      have s1 : (k : Int) < (n : Int) := by omega
      have hlt2 : Hid (k < t.ins.length) := by show _ < _; rw [HN.out]; exact hlt
      have TH : Hid (wr.there g (k * 298 + 17) zsig.toArray.size) := Lib.hid (bl_there HL.out.r (by rw [List.size_toArray]; exact lb_room HT.out.ins hlt2.out))
      go_wp2_with (first
        | (refine wpList_bld (by rfl) 58 _ rfl b58 ?_)
        | (refine wpList_store_mid rfl 58 (.tmp 40) (.tmp 38) rfl g (k * 298 + 17) zsig.toArray rfl rfl TH.out (by rw [List.size_toArray, zsgl281]; exact i58) (all_oneCell_toArray zsig_one) ?_)
        | fail)
      have M1 := Lib.hid (HL.out.next HT.out.ins hlt2.out)
      go_roundw
      case rel => exact ⟨k + 1, by omega, by simp, M1.out⟩
      case measure => simp [intOf]; omega
    · have hkn : k = n := by omega
      subst hkn
      have s1 : ¬ (k : Int) < (k : Int) := by omega
      have R9 : Hid (BL wr g (flat inS (t.ins.map blank) ++ pad) 63) := Lib.hid (by have := HL.out.r; rw [← HN.out, blk_all] at this; exact this)
      have X9 : Hid (BL wr S (txC (blankT t) (inAt h g c')) 39) := Lib.hid (by rw [inAt_bk]; exact bl_keep Y0.out (HL.out.bel.block S (by have := GS.out; omega)))
      have Z9 : Hid (BL wr (S + 1) (bvals (zeros 8)) 29) := Lib.hid (bl_keep Y1.out (HL.out.bel.block (S + 1) (by have := GS.out; omega)))
      have B9 : Hid (Below S w wr) := Lib.hid (B4.out.trans (HL.out.bel.mono (by have := GS.out; omega)))
      have M9 : Hid (Mem wr (blankT t) (inAt h g c')) := Lib.hid (inAt_mem HM.out HT.out (fun q hq => B9.out.block q (by rw [← HS.out]; exact hq)) R9.out (by rw [HN.out]; exact LE.out.1) LE.out.2)
      have W9 : Hid (WfT (blankT t)) := Lib.hid (blank_wf HT.out)
      have H9 : Hid (mayT (blankT t) = true) := Lib.hid (blank_may HT.out HMAY.out HK2.out)
      have I9 := Lib.hid (szL i39 (txC_len (inAt h g c') W9.out))
      have S9 : Hid (S + 2 ≤ wr.heap.size) := Lib.hid (by have := bl_lt R9.out; have := GS.out; omega)
      have hu8 : IntKind.u8.wrap (i : Int) = (i : Int) := by rw [IntKind.wrap_u8]; omega
      clear k6
      go_wp2_with (first
        | (refine wpList_load_midG (by rfl) 39 (.tmp 2) rfl S 0 rfl (txC (blankT t) (inAt h g c')) _ (range_of X9.out) Tryz.underlying39 rfl I9.out ?_)
        | fail)
      obtain ⟨N, hN⟩ : ∃ N, wr.heap.size = N := ⟨_, rfl⟩
      have BA : Hid (Below N wr ((wr.alloc (Obj.cells #[.int .u8 (i : Int)] 5)).alloc (Obj.cells #[.slice (some ⟨N, 0, none⟩) 1 1] 42))) := by rw [← hN]; exact ((Below.refl _ wr).alloc (Nat.le_refl _) _).alloc (by simp) _
      have C1 : ((wr.alloc (Obj.cells #[.int .u8 (i : Int)] 5)).alloc (Obj.cells #[.slice (some ⟨N, 0, none⟩) 1 1] 42)).cell? ⟨N + 1, 0, none⟩ = some (.slice (some ⟨N, 0, none⟩) 1 1) := by
        have := cell_of_one (heap_alloc_last (wr.alloc (Obj.cells #[.int .u8 (i : Int)] 5)) (Obj.cells #[.slice (some ⟨N, 0, none⟩) 1 1] 42))
        rwa [World.size_alloc, hN] at this
      have C2 : Src ((wr.alloc (Obj.cells #[.int .u8 (i : Int)] 5)).alloc (Obj.cells #[.slice (some ⟨N, 0, none⟩) 1 1] 42)) (some ⟨N, 0, none⟩) 1 [(i : Int)] := by
        refine ⟨rfl, .inr ⟨N, 0, rfl, fun j hj => ?_⟩⟩
        obtain rfl : j = 0 := by omega
        have e1 : (wr.alloc (Obj.cells #[.int .u8 (i : Int)] 5)).cell? ⟨N, 0, none⟩ = some (.int .u8 (i : Int)) := by rw [← hN]; exact cell_of_one (heap_alloc_last wr _)
        refine Eq.trans ?_ e1
        simp only [World.cell?]
        rw [Below.heap_alloc _ _ N (by rw [World.size_alloc]; omega)]
      have DG := tDig1 105 (blankT t) (inAt h g c') _ W9.out (M9.out.keep fun q hq => BA.out.block q (by rw [← hN]; exact hq)) (HKY.out _ (B9.out.trans (BA.out.mono (by have := S9.out; omega)))) (by simp) (N + 1) (some ⟨N, 0, none⟩) 1 1 [(i : Int)] C1 C2 (Nat.le_refl _) (by decide) (by decide)
      unfold DigP at DG
      rw [if_pos H9.out, H9.out] at DG
      rw [hN]
      refine DG.mono ?_
      rintro e w11 ⟨rfl, hb11⟩
      have S11 : Hid (N ≤ ((wr.alloc (Obj.cells #[.int .u8 (i : Int)] 5)).alloc (Obj.cells #[.slice (some ⟨N, 0, none⟩) 1 1] 42)).heap.size) := Lib.hid (Nat.le_trans (Nat.le_of_eq hN.symm) BA.out.size)
      have X11 : Hid (BL w11 (S + 1) (bvals (zeros 8)) 29) := Lib.hid (bl_keep (bl_keep Z9.out (BA.out.block (S + 1) (by have := S9.out; omega))) (hb11.block (S + 1) (by have := S11.out; have := S9.out; omega)))
      have B11 : Hid (Below S w w11) := Lib.hid ((B9.out.trans (BA.out.mono (by have := S9.out; omega))).trans (hb11.mono (by have := S11.out; have := S9.out; omega)))
      have H8 := Lib.hid (hash2_len 105 (encT (blankT t)) [(i : Int)])
      clear hb11 DG C1 C2
      go_wp2_with (first
        | (refine wpList_store_rowTo rfl 29 (.tmp 4) (.tmp 48) rfl rfl (S + 1) (bvals (hash2 105 (encT (blankT t)) [(i : Int)])).toArray rfl rfl 29 (bvals (zeros 8)).toArray X11.out (szA i29 (bv8s H8.out)) (by rw [List.size_toArray, List.size_toArray, bv8s H8.out, bv8s (zeros_len 8)]) (all_oneCell_toArray (bv_one _)) ?_)
        | fail)
      exact bodyPost_ret (v := .tuple #[.agg (bvals (hash2 105 (encT (blankT t)) [(i : Int)])).toArray, .bool true]) (results_ch rfl _ _ (S + 1) _ _ rfl (range_of (setRow_heap _ _ _ _ _ _ X11.out)) (szL i29 (bv8s H8.out)) rfl) rfl ⟨rfl, by rw [HS.out]; exact below_setRow B11.out (by omega) _⟩
end Go.Proofs.YtffaddefnpkcgaaGreatDoor

