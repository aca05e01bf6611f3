/-
  Which fields may be: the program's small tests.
-/
import Derived.Test.YtffaddefnpkcgaaGreatDoorZB
import Derived.Test.YtffaddefnpkcgaaGreatDoorZHD
import Derived.Maps.OwnSet
import Derived.Maps.Views
import Derived.DeepKeys4
import Derived.Maps.OwnOps
namespace Go.Proofs.YtffaddefnpkcgaaGreatDoor
open Go.RowKit
set_option maxRecDepth 100000
attribute [local irreducible] ua da ba kk sw S8.run rt hs comp splice outB sha msg zeros win bvals vals mHave mPlc mLis mPts cel seg
theorem tWithin (n lo hi : Int) (w : World) : Calls Tryz.prog 54 #[.int .i64 n, .int .i64 lo, .int .i64 hi] w fun e w' => e = .returned (.bool (win lo hi n)) ∧ w = w' := by
  obtain ⟨c1, h1⟩ : ∃ c, decide (lo ≤ n) = c := ⟨_, rfl⟩
  obtain ⟨c2, h2⟩ : ∃ c, decide (n ≤ hi) = c := ⟨_, rfl⟩
  have hw : win lo hi n = (c1 && c2) := by unfold win; rw [h1, h2]
  rw [hw]
  clear hw
  cases c1 <;> cases c2 <;>
  · go_enter Tryz.func54, Tryz.ntmps54
    go_wp2
    go_ret
    exact ⟨rfl, rfl⟩
theorem tZero (x : List Int) (w : World) (hx : x.length = 8) : Calls Tryz.prog 77 #[.agg (bvals x).toArray] w fun e w' => e = .returned (.bool (decide (x = zeros 8))) ∧ Below w.heap.size w w' := by
  have := c16 x w hx
  unfold ba at this
  exact this
theorem bv8 {x : List Int} (h : x.length = 8) : (Tryz.prog.info? 29).map (·.size) = some (bvals x).length := szL i29 (by unfold bvals; simp [h])
theorem tHave (o : List Int) (a : Int) (w : World) (ho : o.length = 8) : Calls Tryz.prog 111 #[.agg (bvals o).toArray, .int .i64 a] w fun e w' => e = .returned (.bool (mHave o a)) ∧ Below w.heap.size w w' := by
  have CZ := Lib.hid (fun w' => tZero o w' ho)
  obtain ⟨c1, h1⟩ : ∃ c, decide (o = zeros 8) = c := ⟨_, rfl⟩
  obtain ⟨c2, h2⟩ : ∃ c, win 1 1125899906842624 a = c := ⟨_, rfl⟩
  have hm : mHave o a = (!c1 && c2) := by unfold mHave; rw [h1, h2]
  rw [hm]
  rw [h1] at CZ
  obtain ⟨S, hS⟩ : ∃ S, w.heap.size = S := ⟨_, rfl⟩
  have R0 : Hid ((w.alloc (Obj.cells (bvals o).toArray 29)).rangeAt S 0 (bvals o)) := by rw [← hS]; exact range_new w _ _
  have B0 : Hid (Below S w (w.alloc (Obj.cells (bvals o).toArray 29))) := by rw [← hS]; exact (Below.refl _ w).alloc (Nat.le_refl _) _
  have N0 : Hid (S ≤ (w.alloc (Obj.cells (bvals o).toArray 29)).heap.size) := by show S ≤ _; simp; omega
  have HI := Lib.hid (bv8 ho)
  have HS := Lib.hid hS
  clear hm h1 ho
  cases c1 <;> cases c2 <;>
  · go_enter Tryz.func111, Tryz.ntmps111
    go_wp2_with (first
      | (refine wpList_load_mid rfl 29 (.tmp 2) rfl S 0 rfl (bvals o) _ R0.out Tryz.underlying29 rfl HI.out ?_)
      | (go_at_call 77; refine (CZ.out _).mono ?_; rintro e w1 ⟨rfl, hb⟩; have B1 : Hid (Below S w w1) := B0.out.trans (hb.mono N0.out); clear hb)
      | (go_at_call 54; refine (tWithin _ _ _ _).mono ?_; rintro e w' ⟨rfl, rfl⟩)
      | fail)
    go_ret
    exact ⟨rfl, by rw [HS.out]; exact B1.out⟩
set_option maxHeartbeats 2000000 in
theorem tSide (s : Int) (w : World)  : Calls Tryz.prog 107 #[.int .i64 s] w fun e w' => e = .returned (.bool (win 0 7 s)) ∧ w = w' := by
  obtain ⟨c1, hc1⟩ : ∃ c, win 0 7 s = c := ⟨_, rfl⟩
  have hm : win 0 7 s = (c1) := by rw [hc1]
  rw [hm]
  clear hm
  cases c1 <;>
  · go_enter Tryz.func107, Tryz.ntmps107
    go_wp2_with (first
      | (go_at_call 54; refine (tWithin _ _ _ _).mono ?_; rintro e w' ⟨rfl, rfl⟩)
      | fail)
    go_ret
    exact ⟨rfl, rfl⟩
set_option maxHeartbeats 2000000 in
theorem tPlace (s a : Int) (w : World)  : Calls Tryz.prog 110 #[.int .i64 s, .int .i64 a] w fun e w' => e = .returned (.bool (mPlc s a)) ∧ w = w' := by
  obtain ⟨c1, hc1⟩ : ∃ c, win 0 7 s = c := ⟨_, rfl⟩
  obtain ⟨c2, hc2⟩ : ∃ c, win 0 65535 a = c := ⟨_, rfl⟩
  have hm : mPlc s a = (c1 && c2) := by unfold mPlc; rw [hc1, hc2]
  rw [hm]
  clear hm
  cases c1 <;> cases c2 <;>
  · go_enter Tryz.func110, Tryz.ntmps110
    go_wp2_with (first
      | (go_at_call 107; refine (tSide _ _).mono ?_; rintro e w' ⟨rfl, rfl⟩)
      | (go_at_call 54; refine (tWithin _ _ _ _).mono ?_; rintro e w' ⟨rfl, rfl⟩)
      | fail)
    go_ret
    exact ⟨rfl, rfl⟩
set_option maxHeartbeats 2000000 in
theorem tSig (r : List Int) (w : World) (hl : r.length = 281) : Calls Tryz.prog 122 #[.agg (vals sigS r).toArray] w fun e w' => e = .returned (.bool (win 0 255 (cel r 0))) ∧ Below w.heap.size w w' := by
  obtain ⟨c1, hc1⟩ : ∃ c, win 0 255 (cel r 0) = c := ⟨_, rfl⟩
  have hm : win 0 255 (cel r 0) = (c1) := by rw [hc1]
  rw [hm]
  have HL := Lib.hid hl
  clear hl
  obtain ⟨S, hS⟩ : ∃ S, w.heap.size = S := ⟨_, rfl⟩
  have R0 : Hid ((w.alloc (Obj.cells (vals sigS r).toArray 58)).rangeAt S 0 (vals sigS r)) := by rw [← hS]; exact range_new w _ _
  have B0 : Hid (Below S w (w.alloc (Obj.cells (vals sigS r).toArray 58))) := by rw [← hS]; exact (Below.refl _ w).alloc (Nat.le_refl _) _
  have N0 : Hid (S ≤ (w.alloc (Obj.cells (vals sigS r).toArray 58)).heap.size) := by show S ≤ _; simp; omega
  have HS := Lib.hid hS
  have NL : Hid (S < (w.alloc (Obj.cells (vals sigS r).toArray 58)).heap.size) := by show S < _; simp; omega
  clear hm
  cases c1 <;>
  · go_enter Tryz.func122, Tryz.ntmps122
    obtain ⟨k0, _⟩ := sig_at R0.out HL.out
    go_wp2_with (first
      | (go_at_call 54; refine (tWithin _ _ _ _).mono ?_; rintro e w' ⟨rfl, rfl⟩)
      | fail)
    go_ret
    exact ⟨rfl, by rw [HS.out]; exact B0.out⟩
set_option maxHeartbeats 2000000 in
theorem tOut (r : List Int) (w : World) (hl : r.length = 9) : Calls Tryz.prog 100 #[.agg (vals outS r).toArray] w fun e w' => e = .returned (.bool (mOut r)) ∧ Below w.heap.size w w' := by
  obtain ⟨c1, hc1⟩ : ∃ c, mHave (seg r 0 8) (cel r 8) = c := ⟨_, rfl⟩
  have hm : mOut r = (c1) := by unfold mOut; rw [hc1]
  rw [hm]
  have HL := Lib.hid hl
  have HI := Lib.hid (bv8 (seg_len (by omega : 0 + 8 ≤ r.length)))
  have C1 := Lib.hid (fun w' => tHave (seg r 0 8) (cel r 8) w' (seg_len (by omega)))
  rw [hc1] at C1
  clear hl hc1
  obtain ⟨S, hS⟩ : ∃ S, w.heap.size = S := ⟨_, rfl⟩
  have R0 : Hid ((w.alloc (Obj.cells (vals outS r).toArray 115)).rangeAt S 0 (vals outS r)) := by rw [← hS]; exact range_new w _ _
  have B0 : Hid (Below S w (w.alloc (Obj.cells (vals outS r).toArray 115))) := by rw [← hS]; exact (Below.refl _ w).alloc (Nat.le_refl _) _
  have N0 : Hid (S ≤ (w.alloc (Obj.cells (vals outS r).toArray 115)).heap.size) := by show S ≤ _; simp; omega
  have HS := Lib.hid hS
  have NL : Hid (S < (w.alloc (Obj.cells (vals outS r).toArray 115)).heap.size) := by show S < _; simp; omega
  clear hm
  cases c1 <;>
  · go_enter Tryz.func100, Tryz.ntmps100
    obtain ⟨k1, k2⟩ := out_at R0.out HL.out
    have K1 := Lib.hid k1
    simp only [Nat.zero_add] at k2
    clear k1
    go_wp2_with (first
      | (refine wpList_load_midG (by rfl) 29 (.tmp 3) rfl S 0 rfl (bvals (seg r 0 8)) _ K1.out Tryz.underlying29 rfl HI.out ?_)
      | (go_at_call 111; refine (C1.out _).mono ?_; rintro e w1 ⟨rfl, hb⟩; have B1 : Hid (Below S w w1) := B0.out.trans (hb.mono N0.out); clear hb )
      | fail)
    go_ret
    exact ⟨rfl, by rw [HS.out]; exact B1.out⟩
set_option maxHeartbeats 2000000 in
theorem tIn (r : List Int) (w : World) (hl : r.length = 298) : Calls Tryz.prog 102 #[.agg (vals inS r).toArray] w fun e w' => e = .returned (.bool (mIn r)) ∧ Below w.heap.size w w' := by
  obtain ⟨c1, hc1⟩ : ∃ c, win 0 255 (cel r 8) = c := ⟨_, rfl⟩
  obtain ⟨c2, hc2⟩ : ∃ c, win 0 255 (cel r 17) = c := ⟨_, rfl⟩
  have hm : mIn r = (c1 && c2) := by unfold mIn; rw [hc1, hc2]
  rw [hm]
  have HL := Lib.hid hl
  have HG := Lib.hid (szL i58 (vals_len (S := sigS) (show (seg r 17 281).length = sigS.length from seg_len (by omega))))
  have C1 := Lib.hid (fun w' => tSig (seg r 17 281) w' (seg_len (by omega)))
  rw [cel_seg (by decide), hc2] at C1
  clear hl hc2
  obtain ⟨S, hS⟩ : ∃ S, w.heap.size = S := ⟨_, rfl⟩
  have R0 : Hid ((w.alloc (Obj.cells (vals inS r).toArray 63)).rangeAt S 0 (vals inS r)) := by rw [← hS]; exact range_new w _ _
  have B0 : Hid (Below S w (w.alloc (Obj.cells (vals inS r).toArray 63))) := by rw [← hS]; exact (Below.refl _ w).alloc (Nat.le_refl _) _
  have N0 : Hid (S ≤ (w.alloc (Obj.cells (vals inS r).toArray 63)).heap.size) := by show S ≤ _; simp; omega
  have HS := Lib.hid hS
  have NL : Hid (S < (w.alloc (Obj.cells (vals inS r).toArray 63)).heap.size) := by show S < _; simp; omega
  clear hm
  cases c1 <;> cases c2 <;>
  · go_enter Tryz.func102, Tryz.ntmps102
    obtain ⟨_, k2, _, k4⟩ := in_at R0.out HL.out
    have K4 := Lib.hid k4
    simp only [Nat.zero_add] at k2 K4
    clear k4
    go_wp2_with (first
      | (go_at_call 54; refine (tWithin _ _ _ _).mono ?_; rintro e w' ⟨rfl, rfl⟩)
      | (refine wpList_load_midG (by rfl) 58 (.tmp 8) rfl S 17 rfl (vals sigS (seg r 17 281)) _ K4.out Tryz.underlying58 rfl HG.out ?_)
      | (go_at_call 122; refine (C1.out _).mono ?_; rintro e w1 ⟨rfl, hb⟩; have B1 : Hid (Below S w w1) := B0.out.trans (hb.mono N0.out); clear hb )
      | fail)
    go_ret
    first | exact ⟨rfl, by rw [HS.out]; exact B1.out⟩ | exact ⟨rfl, by rw [HS.out]; exact B0.out⟩
set_option maxHeartbeats 2000000 in
theorem tSgn (r : List Int) (w : World) (hl : r.length = 282) : Calls Tryz.prog 109 #[.agg (vals sgnS r).toArray] w fun e w' => e = .returned (.bool (mSgn r)) ∧ Below w.heap.size w w' := by
  obtain ⟨c1, hc1⟩ : ∃ c, win 0 4 (cel r 0) = c := ⟨_, rfl⟩
  obtain ⟨c2, hc2⟩ : ∃ c, win 0 255 (cel r 1) = c := ⟨_, rfl⟩
  have hm : mSgn r = (c1 && c2) := by unfold mSgn; rw [hc1, hc2]
  rw [hm]
  have HL := Lib.hid hl
  have HG := Lib.hid (szL i58 (vals_len (S := sigS) (show (seg r 1 281).length = sigS.length from seg_len (by omega))))
  have C1 := Lib.hid (fun w' => tSig (seg r 1 281) w' (seg_len (by omega)))
  rw [cel_seg (by decide), hc2] at C1
  clear hl hc2
  obtain ⟨S, hS⟩ : ∃ S, w.heap.size = S := ⟨_, rfl⟩
  have R0 : Hid ((w.alloc (Obj.cells (vals sgnS r).toArray 66)).rangeAt S 0 (vals sgnS r)) := by rw [← hS]; exact range_new w _ _
  have B0 : Hid (Below S w (w.alloc (Obj.cells (vals sgnS r).toArray 66))) := by rw [← hS]; exact (Below.refl _ w).alloc (Nat.le_refl _) _
  have N0 : Hid (S ≤ (w.alloc (Obj.cells (vals sgnS r).toArray 66)).heap.size) := by show S ≤ _; simp; omega
  have HS := Lib.hid hS
  have NL : Hid (S < (w.alloc (Obj.cells (vals sgnS r).toArray 66)).heap.size) := by show S < _; simp; omega
  clear hm
  cases c1 <;> cases c2 <;>
  · go_enter Tryz.func109, Tryz.ntmps109
    obtain ⟨k2, k4⟩ := sgn_at R0.out HL.out
    have K4 := Lib.hid k4
    simp only [Nat.zero_add] at K4
    clear k4
    go_wp2_with (first
      | (go_at_call 54; refine (tWithin _ _ _ _).mono ?_; rintro e w' ⟨rfl, rfl⟩)
      | (refine wpList_load_midG (by rfl) 58 (.tmp 7) rfl S 1 rfl (vals sigS (seg r 1 281)) _ K4.out Tryz.underlying58 rfl HG.out ?_)
      | (go_at_call 122; refine (C1.out _).mono ?_; rintro e w1 ⟨rfl, hb⟩; have B1 : Hid (Below S w w1) := B0.out.trans (hb.mono N0.out); clear hb )
      | fail)
    go_ret
    first | exact ⟨rfl, by rw [HS.out]; exact B1.out⟩ | exact ⟨rfl, by rw [HS.out]; exact B0.out⟩
set_option maxHeartbeats 2000000 in
theorem tFwd (r : List Int) (w : World) (hl : r.length = 11) : Calls Tryz.prog 104 #[.agg (vals fwdS r).toArray] w fun e w' => e = .returned (.bool (mFwd r)) ∧ Below w.heap.size w w' := by
  obtain ⟨c1, hc1⟩ : ∃ c, mPlc (cel r 0) (cel r 1) = c := ⟨_, rfl⟩
  obtain ⟨c2, hc2⟩ : ∃ c, mHave (seg r 2 8) (cel r 10) = c := ⟨_, rfl⟩
  have hm : mFwd r = (c1 && c2) := by unfold mFwd; rw [hc1, hc2]
  rw [hm]
  have HL := Lib.hid hl
  have HI := Lib.hid (bv8 (seg_len (by omega : 2 + 8 ≤ r.length)))
  have C1 := Lib.hid (fun w' => tHave (seg r 2 8) (cel r 10) w' (seg_len (by omega : 2 + 8 ≤ r.length)))
  rw [hc2] at C1
  clear hl hc2
  obtain ⟨S, hS⟩ : ∃ S, w.heap.size = S := ⟨_, rfl⟩
  have R0 : Hid ((w.alloc (Obj.cells (vals fwdS r).toArray 123)).rangeAt S 0 (vals fwdS r)) := by rw [← hS]; exact range_new w _ _
  have B0 : Hid (Below S w (w.alloc (Obj.cells (vals fwdS r).toArray 123))) := by rw [← hS]; exact (Below.refl _ w).alloc (Nat.le_refl _) _
  have N0 : Hid (S ≤ (w.alloc (Obj.cells (vals fwdS r).toArray 123)).heap.size) := by show S ≤ _; simp; omega
  have HS := Lib.hid hS
  have NL : Hid (S < (w.alloc (Obj.cells (vals fwdS r).toArray 123)).heap.size) := by show S < _; simp; omega
  clear hm
  cases c1 <;> cases c2 <;>
  · go_enter Tryz.func104, Tryz.ntmps104
    obtain ⟨k0, k1, k3, k4⟩ := fwd_at R0.out HL.out
    have K3 := Lib.hid k3
    simp only [Nat.zero_add] at k1 K3 k4
    clear k3
    go_wp2_with (first
      | (go_at_call 110; refine (tPlace _ _ _).mono ?_; rintro e w' ⟨rfl, rfl⟩)
      | (refine wpList_load_midG (by rfl) 29 (.tmp 9) rfl S 2 rfl (bvals (seg r 2 8)) _ K3.out Tryz.underlying29 rfl HI.out ?_)
      | (go_at_call 111; refine (C1.out _).mono ?_; rintro e w1 ⟨rfl, hb⟩; have B1 : Hid (Below S w w1) := B0.out.trans (hb.mono N0.out); clear hb )
      | fail)
    go_ret
    first | exact ⟨rfl, by rw [HS.out]; exact B1.out⟩ | exact ⟨rfl, by rw [HS.out]; exact B0.out⟩
set_option maxHeartbeats 2000000 in
theorem tCla (r : List Int) (w : World) (hl : r.length = 140) : Calls Tryz.prog 76 #[.agg (vals claS r).toArray] w fun e w' => e = .returned (.bool (mCla r)) ∧ Below w.heap.size w w' := by
  obtain ⟨c1, hc1⟩ : ∃ c, mPlc (cel r 0) (cel r 1) = c := ⟨_, rfl⟩
  obtain ⟨c2, hc2⟩ : ∃ c, mHave (seg r 2 8) (cel r 10) = c := ⟨_, rfl⟩
  obtain ⟨c3, hc3⟩ : ∃ c, win 0 255 (cel r 11) = c := ⟨_, rfl⟩
  have hm : mCla r = (c1 && (c2 && c3)) := by unfold mCla; rw [hc1, hc2, hc3]
  rw [hm]
  have HL := Lib.hid hl
  have HI := Lib.hid (bv8 (seg_len (by omega : 2 + 8 ≤ r.length)))
  have C1 := Lib.hid (fun w' => tHave (seg r 2 8) (cel r 10) w' (seg_len (by omega : 2 + 8 ≤ r.length)))
  rw [hc2] at C1
  clear hl hc2
  obtain ⟨S, hS⟩ : ∃ S, w.heap.size = S := ⟨_, rfl⟩
  have R0 : Hid ((w.alloc (Obj.cells (vals claS r).toArray 37)).rangeAt S 0 (vals claS r)) := by rw [← hS]; exact range_new w _ _
  have B0 : Hid (Below S w (w.alloc (Obj.cells (vals claS r).toArray 37))) := by rw [← hS]; exact (Below.refl _ w).alloc (Nat.le_refl _) _
  have N0 : Hid (S ≤ (w.alloc (Obj.cells (vals claS r).toArray 37)).heap.size) := by show S ≤ _; simp; omega
  have HS := Lib.hid hS
  have NL : Hid (S < (w.alloc (Obj.cells (vals claS r).toArray 37)).heap.size) := by show S < _; simp; omega
  clear hm
  cases c1 <;> cases c2 <;> cases c3 <;>
  · go_enter Tryz.func76, Tryz.ntmps76
    obtain ⟨k0, k1, k3, k4, _, _⟩ := cla_at R0.out HL.out
    have K3 := Lib.hid k3
    simp only [Nat.zero_add] at k1 K3 k4
    clear k3
    go_wp2_with (first
      | (go_at_call 110; refine (tPlace _ _ _).mono ?_; rintro e w' ⟨rfl, rfl⟩)
      | (refine wpList_load_midG (by rfl) 29 (.tmp 10) rfl S 2 rfl (bvals (seg r 2 8)) _ K3.out Tryz.underlying29 rfl HI.out ?_)
      | (go_at_call 111; refine (C1.out _).mono ?_; rintro e w1 ⟨rfl, hb⟩; have B1 : Hid (Below S w w1) := B0.out.trans (hb.mono N0.out); obtain ⟨_, _, _, _, k5, _⟩ := cla_at (range_keep1 R0.out (hb.block S NL.out)) HL.out; simp only [Nat.zero_add] at k5; clear hb k4)
      | (go_at_call 54; refine (tWithin _ _ _ _).mono ?_; rintro e w' ⟨rfl, rfl⟩)
      | fail)
    go_ret
    first | exact ⟨rfl, by rw [HS.out]; exact B1.out⟩ | exact ⟨rfl, by rw [HS.out]; exact B0.out⟩
end Go.Proofs.YtffaddefnpkcgaaGreatDoor
namespace Go.Proofs.YtffaddefnpkcgaaGreatDoor
open Go.RowKit
set_option maxRecDepth 100000
attribute [local irreducible] ua da ba kk sw S8.run rt hs comp splice outB sha msg zeros win bvals vals mHave mPlc mLis mPts cel seg
set_option maxHeartbeats 2000000 in
theorem clOut (B : Nat) (r : List Int) (w : World) (hl : r.length = 9) (hB : w.cell? ⟨B, 0, none⟩ = some (.func (.func 100) #[] #[])) :
    Calls Tryz.prog 119 #[.agg (vals outS r).toArray, .pointer (some ⟨B, 0, none⟩)] w fun e w' => e = .returned (.bool (!mOut r)) ∧ Below w.heap.size w w' := by
  have C1 := Lib.hid (fun w' => tOut r w' hl)
  obtain ⟨c1, hc1⟩ : ∃ c, mOut r = c := ⟨_, rfl⟩
  rw [hc1] at C1 ⊢
  have HL := Lib.hid (szL i115 (vals_len (S := outS) hl))
  have hcf : ∀ (x : Array Value) (w : World), (callFunc 100 #[.agg x]).run Tryz.prog w = .ok (.enter 100 #[.agg x]) w := fun _ _ => by kernel_rfl
  obtain ⟨S, hS⟩ : ∃ S, w.heap.size = S := ⟨_, rfl⟩
  have R0 : Hid ((w.alloc (Obj.cells (vals outS r).toArray 115)).rangeAt S 0 (vals outS r)) := by rw [← hS]; exact range_new w _ _
  have B0 : Hid (Below S w (w.alloc (Obj.cells (vals outS r).toArray 115))) := by rw [← hS]; exact (Below.refl _ w).alloc (Nat.le_refl _) _
  have N0 : Hid (S ≤ (w.alloc (Obj.cells (vals outS r).toArray 115)).heap.size) := by show S ≤ _; simp; omega
  have hB1 : (w.alloc (Obj.cells (vals outS r).toArray 115)).cell? ⟨B, 0, none⟩ = some (.func (.func 100) #[] #[]) := World.new_ne w _ hB |> fun _ => by
    have hlt := World.block_lt_of_cell? w ⟨B, 0, none⟩ hB
    rw [World.cell?_of_block (w := w) (a := ⟨B, 0, none⟩) (Below.heap_alloc w _ B hlt)]
    exact hB
  have HS := Lib.hid hS
  clear hl hc1 hB
  go_enter Tryz.func119, Tryz.ntmps119
  go_wp2_with (first
    | (refine wpList_load_mid rfl 115 (.tmp 2) rfl S 0 rfl (vals outS r) _ R0.out Tryz.underlying115 rfl HL.out ?_)
    | (go_at_call 100; refine (C1.out _).mono ?_; rintro e w1 ⟨rfl, hb⟩; have B1 : Hid (Below S w w1) := B0.out.trans (hb.mono N0.out); clear hb)
    | fail)
  go_ret
  exact ⟨rfl, by rw [HS.out]; exact B1.out⟩
set_option maxHeartbeats 4000000 in
theorem ixOut (B : Nat) (A : Option Addr) (n cap : Nat) (rs : List (List Int)) (w : World) (hr : LRow outS w A rs) (hl : ∀ j, j < rs.length → (rcd rs j).length = 9) (hn : rs.length = n) (hc : n ≤ cap) (hm : cap ≤ maxLen) (hB : w.cell? ⟨B, 0, none⟩ = some (.func (.func 100) #[] #[])) :
    Calls Tryz.prog 130 #[.slice A n cap, .func (.func 119) #[] #[.pointer (some ⟨B, 0, none⟩)]] w fun e w' => (∃ i, e = .returned (.int .i64 i) ∧ decide (0 ≤ i) = !(rs.all mOut)) ∧ Below w.heap.size w w' := by
  have hcf : ∀ (x : Array Value) (w : World), (callFunc 119 #[.agg x, .pointer (some ⟨B, 0, none⟩)]).run Tryz.prog w = .ok (.enter 119 #[.agg x, .pointer (some ⟨B, 0, none⟩)]) w := fun _ _ => by kernel_rfl
  obtain ⟨N, hN⟩ : ∃ N, w.heap.size = N := ⟨_, rfl⟩
  have HR := Lib.hid hr
  have HL := Lib.hid hl
  have HNN := Lib.hid hn
  have HN := Lib.hid hN
  have HB := Lib.hid hB
  unfold maxLen at hm
  have BL := World.block_lt_of_cell? w ⟨B, 0, none⟩ hB
  have HBL := Lib.hid BL
  have hn63 : n ≤ 9223372036854775807 := by omega
  clear hr hl hn hN hB hm hc BL
  go_enter Tryz.func130, Tryz.ntmps130
  go_wp2
  go_loopw [8, 5] (fun i _ wr => ∃ k : Nat, k ≤ n ∧ i = .int .i64 k ∧ (∀ j, j < k → mOut (rcd rs j) = true) ∧ Below N w wr) (fun i _ _ => n - (intOf i).toNat)
  case atStart => exact ⟨0, Nat.zero_le _, rfl, fun j hj => by omega, Below.refl _ _⟩
  case round =>
    obtain ⟨k, hk, rfl, hj, hb⟩ := hrel
    have HJ := Lib.hid hj
    have BR := Lib.hid hb
    clear hj hb
    by_cases hlt : k < n
    · obtain ⟨b, o, rfl, hat⟩ := lrow_at HR.out (by have := HNN.out; omega)
      have s0 : (0 : Int) ≤ (k : Int) := by omega
      have s1 : (k : Int) < (n : Int) := by omega
      have hR := hat k (by have := HNN.out; omega)
      have hX := HL.out k (by have := HNN.out; omega)
      obtain ⟨c1, hc1⟩ : ∃ c, mOut (rcd rs k) = c := ⟨_, rfl⟩
      have HC := Lib.hid hc1
      obtain ⟨x, hx⟩ : ∃ x, rcd rs k = x := ⟨_, rfl⟩
      rw [hx] at hR hX hc1
      have R1 : Hid (wr.rangeAt b (o + k * 9) (vals outS x)) := range_keep hR fun q hq => BR.out.block q (by rw [← HN.out]; exact hq)
      have B1 : Hid (wr.cell? ⟨B, 0, none⟩ = some (.func (.func 100) #[] #[])) := by
        have := BR.out.block B (by rw [← HN.out]; exact HBL.out)
        show wr.cell? _ = _
        rw [World.cell?_of_block (w := w) (a := ⟨B, 0, none⟩) this]
        exact HB.out
      have C1 := Lib.hid (clOut B x wr hX B1.out)
      rw [hc1] at C1
      have HI := Lib.hid (szL i115 (vals_len (S := outS) hX))
      have HK := Lib.hid hlt
      have NR : Hid (N ≤ wr.heap.size) := by have := BR.out.size; rw [HN.out] at this; exact this
      clear hat hR hX hc1 hx
      cases c1
      · go_wp2_with (first
          | (refine wpList_load_mid rfl 115 (.tmp 14) rfl b (o + k * 9) rfl (vals outS x) _ R1.out Tryz.underlying115 rfl HI.out ?_)
          | (go_at_call 119; refine C1.out.mono ?_; rintro e w1 ⟨rfl, hb⟩; have B2 : Hid (Below N w w1) := BR.out.trans (hb.mono NR.out); clear hb)
          | fail)
        go_ret
        refine ⟨⟨k, rfl, ?_⟩, by rw [HN.out]; exact B2.out⟩
        rw [decide_eq_true (by omega)]
        symm
        rw [Bool.not_eq_true', ← Bool.not_eq_true, List.all_eq_true]
        intro h
        have hmem : rcd rs k ∈ rs := by
          have hk' : k < rs.length := by rw [HNN.out]; exact HK.out
          rw [rcd, List.getD_eq_getElem?_getD, List.getElem?_eq_getElem hk']
          exact List.getElem_mem hk'
        rw [h _ hmem] at HC
        exact absurd HC.out (by decide)
      · go_wp2_with (first
          | (refine wpList_load_mid rfl 115 (.tmp 14) rfl b (o + k * 9) rfl (vals outS x) _ R1.out Tryz.underlying115 rfl HI.out ?_)
          | (go_at_call 119; refine C1.out.mono ?_; rintro e w1 ⟨rfl, hb⟩; have B2 : Hid (Below N w w1) := BR.out.trans (hb.mono NR.out); clear hb)
          | fail)
        go_roundw
        case rel => exact ⟨k + 1, HK.out, by go_num, fun j hj => by
          rcases Nat.lt_or_ge j k with h | h
          · exact HJ.out j h
          · obtain rfl : j = k := by omega
            exact HC.out, B2.out⟩
        case measure => have := HK.out; simp [intOf]; omega
    · obtain rfl : k = n := by omega
      go_wp2
      go_ret
      refine ⟨⟨-1, rfl, ?_⟩, by rw [HN.out]; exact BR.out⟩
      symm
      rw [decide_eq_false (by decide), Bool.not_eq_false', List.all_eq_true]
      intro r hr
      obtain ⟨j, hj, rfl⟩ := List.getElem_of_mem hr
      have := HJ.out j (by rw [← HNN.out]; exact hj)
      rw [rcd, List.getD_eq_getElem?_getD, List.getElem?_eq_getElem hj] at this
      exact this
set_option maxHeartbeats 2000000 in
theorem cnOut (B : Nat) (A : Option Addr) (n cap : Nat) (rs : List (List Int)) (w : World) (hr : LRow outS w A rs) (hl : ∀ j, j < rs.length → (rcd rs j).length = 9) (hn : rs.length = n) (hc : n ≤ cap) (hm : cap ≤ maxLen) (hB : w.cell? ⟨B, 0, none⟩ = some (.func (.func 100) #[] #[])) :
    Calls Tryz.prog 118 #[.slice A n cap, .func (.func 119) #[] #[.pointer (some ⟨B, 0, none⟩)]] w fun e w' => e = .returned (.bool (!(rs.all mOut))) ∧ Below w.heap.size w w' := by
  have C1 := Lib.hid (ixOut B A n cap rs w hr hl hn hc hm hB)
  obtain ⟨c, hcc⟩ : ∃ c, (!(rs.all mOut)) = c := ⟨_, rfl⟩
  rw [hcc] at C1 ⊢
  clear hr hl hn hc hm hB hcc
  go_enter Tryz.func118, Tryz.ntmps118
  go_wp2_with fail
  refine C1.out.mono ?_
  rintro e w1 ⟨⟨i, rfl, hi⟩, hb⟩
  have HB := Lib.hid hb
  have HI := Lib.hid hi
  clear hb hi C1
  go_wp2
  go_ret
  exact ⟨by rw [← HI.out] <;> rfl, HB.out⟩
set_option maxHeartbeats 4000000 in
theorem lsOut (A : Option Addr) (n cap : Nat) (lo hi : Int) (rs : List (List Int)) (w : World) (hr : LRow outS w A rs) (hl : ∀ j, j < rs.length → (rcd rs j).length = 9) (hn : rs.length = n) (hc : n ≤ cap) (hm : cap ≤ maxLen) :
    Calls Tryz.prog 99 #[.slice A n cap, .int .i64 lo, .int .i64 hi, .func (.func 100) #[] #[]] w fun e w' => e = .returned (.bool (mLis lo hi mOut rs)) ∧ Below w.heap.size w w' := by
  obtain ⟨S, hS⟩ : ∃ S, w.heap.size = S := ⟨_, rfl⟩
  have hm' := hm
  unfold maxLen at hm'
  have hn63 : n ≤ 9223372036854775807 := by omega
  have B0 : Hid (Below S w (w.alloc (Obj.cells #[.func (.func 100) #[] #[]] 177))) := by rw [← hS]; exact (Below.refl _ w).alloc (Nat.le_refl _) _
  have N0 : Hid (S ≤ (w.alloc (Obj.cells #[.func (.func 100) #[] #[]] 177)).heap.size) := by show S ≤ _; simp; omega
  have hcell : (w.alloc (Obj.cells #[.func (.func 100) #[] #[]] 177)).cell? ⟨S, 0, none⟩ = some (.func (.func 100) #[] #[]) := by
    rw [cell_of_row _ S 0 _ 177 (0, 0) (by rw [← hS]; exact heap_alloc_last w _)]; rfl
  have C1 := Lib.hid (cnOut S A n cap rs _ (hr.keep (fun k hk => Below.heap_alloc w (Obj.cells #[.func (.func 100) #[] #[]] 177) k hk)) hl hn hc hm hcell)
  have hmf : ∀ (fn : Fn) (first cap : Array Value) (w : World), (Instr.makeFunc fn first cap).run Tryz.prog w = .ok (.func fn first cap) w := fun _ _ _ _ => rfl
  have HS := Lib.hid hS
  obtain ⟨c2, hc2⟩ : ∃ c, (rs.all mOut) = c := ⟨_, rfl⟩
  obtain ⟨c1, hc1⟩ : ∃ c, win lo hi (n : Int) = c := ⟨_, rfl⟩
  have hmm : mLis lo hi mOut rs = (c1 && c2) := by unfold mLis; rw [hn, hc1, hc2]
  rw [hmm]
  rw [hc2] at C1
  clear hmm hr hl hn hc hm hm' hcell hc2
  cases c1 <;> cases c2 <;>
  · go_enter Tryz.func99, Tryz.ntmps99
    go_wp2_with (first
      | (go_at_call 54; refine (tWithin _ _ _ _).mono ?_; rintro e w' ⟨rfl, rfl⟩)
      | (go_at_call 118; refine C1.out.mono ?_; rintro e w1 ⟨rfl, hb⟩; have B1 : Hid (Below S w w1) := B0.out.trans (hb.mono N0.out); clear hb)
      | fail)
    go_ret
    first | exact ⟨rfl, by rw [HS.out]; exact B1.out⟩ | exact ⟨rfl, by rw [HS.out]; exact B0.out⟩
set_option maxHeartbeats 2000000 in
theorem clIn (B : Nat) (r : List Int) (w : World) (hl : r.length = 298) (hB : w.cell? ⟨B, 0, none⟩ = some (.func (.func 102) #[] #[])) :
    Calls Tryz.prog 121 #[.agg (vals inS r).toArray, .pointer (some ⟨B, 0, none⟩)] w fun e w' => e = .returned (.bool (!mIn r)) ∧ Below w.heap.size w w' := by
  have C1 := Lib.hid (fun w' => tIn r w' hl)
  obtain ⟨c1, hc1⟩ : ∃ c, mIn r = c := ⟨_, rfl⟩
  rw [hc1] at C1 ⊢
  have HL := Lib.hid (szL i63 (vals_len (S := inS) hl))
  have hcf : ∀ (x : Array Value) (w : World), (callFunc 102 #[.agg x]).run Tryz.prog w = .ok (.enter 102 #[.agg x]) w := fun _ _ => by kernel_rfl
  obtain ⟨S, hS⟩ : ∃ S, w.heap.size = S := ⟨_, rfl⟩
  have R0 : Hid ((w.alloc (Obj.cells (vals inS r).toArray 63)).rangeAt S 0 (vals inS r)) := by rw [← hS]; exact range_new w _ _
  have B0 : Hid (Below S w (w.alloc (Obj.cells (vals inS r).toArray 63))) := by rw [← hS]; exact (Below.refl _ w).alloc (Nat.le_refl _) _
  have N0 : Hid (S ≤ (w.alloc (Obj.cells (vals inS r).toArray 63)).heap.size) := by show S ≤ _; simp; omega
  have hB1 : (w.alloc (Obj.cells (vals inS r).toArray 63)).cell? ⟨B, 0, none⟩ = some (.func (.func 102) #[] #[]) := World.new_ne w _ hB |> fun _ => by
    have hlt := World.block_lt_of_cell? w ⟨B, 0, none⟩ hB
    rw [World.cell?_of_block (w := w) (a := ⟨B, 0, none⟩) (Below.heap_alloc w _ B hlt)]
    exact hB
  have HS := Lib.hid hS
  clear hl hc1 hB
  go_enter Tryz.func121, Tryz.ntmps121
  go_wp2_with (first
    | (refine wpList_load_mid rfl 63 (.tmp 2) rfl S 0 rfl (vals inS r) _ R0.out Tryz.underlying63 rfl HL.out ?_)
    | (go_at_call 102; refine (C1.out _).mono ?_; rintro e w1 ⟨rfl, hb⟩; have B1 : Hid (Below S w w1) := B0.out.trans (hb.mono N0.out); clear hb)
    | fail)
  go_ret
  exact ⟨rfl, by rw [HS.out]; exact B1.out⟩
set_option maxHeartbeats 4000000 in
theorem ixIn (B : Nat) (A : Option Addr) (n cap : Nat) (rs : List (List Int)) (w : World) (hr : LRow inS w A rs) (hl : ∀ j, j < rs.length → (rcd rs j).length = 298) (hn : rs.length = n) (hc : n ≤ cap) (hm : cap ≤ maxLen) (hB : w.cell? ⟨B, 0, none⟩ = some (.func (.func 102) #[] #[])) :
    Calls Tryz.prog 131 #[.slice A n cap, .func (.func 121) #[] #[.pointer (some ⟨B, 0, none⟩)]] w fun e w' => (∃ i, e = .returned (.int .i64 i) ∧ decide (0 ≤ i) = !(rs.all mIn)) ∧ Below w.heap.size w w' := by
  have hcf : ∀ (x : Array Value) (w : World), (callFunc 121 #[.agg x, .pointer (some ⟨B, 0, none⟩)]).run Tryz.prog w = .ok (.enter 121 #[.agg x, .pointer (some ⟨B, 0, none⟩)]) w := fun _ _ => by kernel_rfl
  obtain ⟨N, hN⟩ : ∃ N, w.heap.size = N := ⟨_, rfl⟩
  have HR := Lib.hid hr
  have HL := Lib.hid hl
  have HNN := Lib.hid hn
  have HN := Lib.hid hN
  have HB := Lib.hid hB
  unfold maxLen at hm
  have BL := World.block_lt_of_cell? w ⟨B, 0, none⟩ hB
  have HBL := Lib.hid BL
  have hn63 : n ≤ 9223372036854775807 := by omega
  clear hr hl hn hN hB hm hc BL
  go_enter Tryz.func131, Tryz.ntmps131
  go_wp2
  go_loopw [8, 5] (fun i _ wr => ∃ k : Nat, k ≤ n ∧ i = .int .i64 k ∧ (∀ j, j < k → mIn (rcd rs j) = true) ∧ Below N w wr) (fun i _ _ => n - (intOf i).toNat)
  case atStart => exact ⟨0, Nat.zero_le _, rfl, fun j hj => by omega, Below.refl _ _⟩
  case round =>
    obtain ⟨k, hk, rfl, hj, hb⟩ := hrel
    have HJ := Lib.hid hj
    have BR := Lib.hid hb
    clear hj hb
    by_cases hlt : k < n
    · obtain ⟨b, o, rfl, hat⟩ := lrow_at HR.out (by have := HNN.out; omega)
      have s0 : (0 : Int) ≤ (k : Int) := by omega
      have s1 : (k : Int) < (n : Int) := by omega
      have hR := hat k (by have := HNN.out; omega)
      have hX := HL.out k (by have := HNN.out; omega)
      obtain ⟨c1, hc1⟩ : ∃ c, mIn (rcd rs k) = c := ⟨_, rfl⟩
      have HC := Lib.hid hc1
      obtain ⟨x, hx⟩ : ∃ x, rcd rs k = x := ⟨_, rfl⟩
      rw [hx] at hR hX hc1
      have R1 : Hid (wr.rangeAt b (o + k * 298) (vals inS x)) := range_keep hR fun q hq => BR.out.block q (by rw [← HN.out]; exact hq)
      have B1 : Hid (wr.cell? ⟨B, 0, none⟩ = some (.func (.func 102) #[] #[])) := by
        have := BR.out.block B (by rw [← HN.out]; exact HBL.out)
        show wr.cell? _ = _
        rw [World.cell?_of_block (w := w) (a := ⟨B, 0, none⟩) this]
        exact HB.out
      have C1 := Lib.hid (clIn B x wr hX B1.out)
      rw [hc1] at C1
      have HI := Lib.hid (szL i63 (vals_len (S := inS) hX))
      have HK := Lib.hid hlt
      have NR : Hid (N ≤ wr.heap.size) := by have := BR.out.size; rw [HN.out] at this; exact this
      clear hat hR hX hc1 hx
      cases c1
      · go_wp2_with (first
          | (refine wpList_load_mid rfl 63 (.tmp 14) rfl b (o + k * 298) rfl (vals inS x) _ R1.out Tryz.underlying63 rfl HI.out ?_)
          | (go_at_call 121; refine C1.out.mono ?_; rintro e w1 ⟨rfl, hb⟩; have B2 : Hid (Below N w w1) := BR.out.trans (hb.mono NR.out); clear hb)
          | fail)
        go_ret
        refine ⟨⟨k, rfl, ?_⟩, by rw [HN.out]; exact B2.out⟩
        rw [decide_eq_true (by omega)]
        symm
        rw [Bool.not_eq_true', ← Bool.not_eq_true, List.all_eq_true]
        intro h
        have hmem : rcd rs k ∈ rs := by
          have hk' : k < rs.length := by rw [HNN.out]; exact HK.out
          rw [rcd, List.getD_eq_getElem?_getD, List.getElem?_eq_getElem hk']
          exact List.getElem_mem hk'
        rw [h _ hmem] at HC
        exact absurd HC.out (by decide)
      · go_wp2_with (first
          | (refine wpList_load_mid rfl 63 (.tmp 14) rfl b (o + k * 298) rfl (vals inS x) _ R1.out Tryz.underlying63 rfl HI.out ?_)
          | (go_at_call 121; refine C1.out.mono ?_; rintro e w1 ⟨rfl, hb⟩; have B2 : Hid (Below N w w1) := BR.out.trans (hb.mono NR.out); clear hb)
          | fail)
        go_roundw
        case rel => exact ⟨k + 1, HK.out, by go_num, fun j hj => by
          rcases Nat.lt_or_ge j k with h | h
          · exact HJ.out j h
          · obtain rfl : j = k := by omega
            exact HC.out, B2.out⟩
        case measure => have := HK.out; simp [intOf]; omega
    · obtain rfl : k = n := by omega
      go_wp2
      go_ret
      refine ⟨⟨-1, rfl, ?_⟩, by rw [HN.out]; exact BR.out⟩
      symm
      rw [decide_eq_false (by decide), Bool.not_eq_false', List.all_eq_true]
      intro r hr
      obtain ⟨j, hj, rfl⟩ := List.getElem_of_mem hr
      have := HJ.out j (by rw [← HNN.out]; exact hj)
      rw [rcd, List.getD_eq_getElem?_getD, List.getElem?_eq_getElem hj] at this
      exact this
set_option maxHeartbeats 2000000 in
theorem cnIn (B : Nat) (A : Option Addr) (n cap : Nat) (rs : List (List Int)) (w : World) (hr : LRow inS w A rs) (hl : ∀ j, j < rs.length → (rcd rs j).length = 298) (hn : rs.length = n) (hc : n ≤ cap) (hm : cap ≤ maxLen) (hB : w.cell? ⟨B, 0, none⟩ = some (.func (.func 102) #[] #[])) :
    Calls Tryz.prog 120 #[.slice A n cap, .func (.func 121) #[] #[.pointer (some ⟨B, 0, none⟩)]] w fun e w' => e = .returned (.bool (!(rs.all mIn))) ∧ Below w.heap.size w w' := by
  have C1 := Lib.hid (ixIn B A n cap rs w hr hl hn hc hm hB)
  obtain ⟨c, hcc⟩ : ∃ c, (!(rs.all mIn)) = c := ⟨_, rfl⟩
  rw [hcc] at C1 ⊢
  clear hr hl hn hc hm hB hcc
  go_enter Tryz.func120, Tryz.ntmps120
  go_wp2_with fail
  refine C1.out.mono ?_
  rintro e w1 ⟨⟨i, rfl, hi⟩, hb⟩
  have HB := Lib.hid hb
  have HI := Lib.hid hi
  clear hb hi C1
  go_wp2
  go_ret
  exact ⟨by rw [← HI.out] <;> rfl, HB.out⟩
set_option maxHeartbeats 4000000 in
theorem lsIn (A : Option Addr) (n cap : Nat) (lo hi : Int) (rs : List (List Int)) (w : World) (hr : LRow inS w A rs) (hl : ∀ j, j < rs.length → (rcd rs j).length = 298) (hn : rs.length = n) (hc : n ≤ cap) (hm : cap ≤ maxLen) :
    Calls Tryz.prog 101 #[.slice A n cap, .int .i64 lo, .int .i64 hi, .func (.func 102) #[] #[]] w fun e w' => e = .returned (.bool (mLis lo hi mIn rs)) ∧ Below w.heap.size w w' := by
  obtain ⟨S, hS⟩ : ∃ S, w.heap.size = S := ⟨_, rfl⟩
  have hm' := hm
  unfold maxLen at hm'
  have hn63 : n ≤ 9223372036854775807 := by omega
  have B0 : Hid (Below S w (w.alloc (Obj.cells #[.func (.func 102) #[] #[]] 179))) := by rw [← hS]; exact (Below.refl _ w).alloc (Nat.le_refl _) _
  have N0 : Hid (S ≤ (w.alloc (Obj.cells #[.func (.func 102) #[] #[]] 179)).heap.size) := by show S ≤ _; simp; omega
  have hcell : (w.alloc (Obj.cells #[.func (.func 102) #[] #[]] 179)).cell? ⟨S, 0, none⟩ = some (.func (.func 102) #[] #[]) := by
    rw [cell_of_row _ S 0 _ 179 (0, 0) (by rw [← hS]; exact heap_alloc_last w _)]; rfl
  have C1 := Lib.hid (cnIn S A n cap rs _ (hr.keep (fun k hk => Below.heap_alloc w (Obj.cells #[.func (.func 102) #[] #[]] 179) k hk)) hl hn hc hm hcell)
  have hmf : ∀ (fn : Fn) (first cap : Array Value) (w : World), (Instr.makeFunc fn first cap).run Tryz.prog w = .ok (.func fn first cap) w := fun _ _ _ _ => rfl
  have HS := Lib.hid hS
  obtain ⟨c2, hc2⟩ : ∃ c, (rs.all mIn) = c := ⟨_, rfl⟩
  obtain ⟨c1, hc1⟩ : ∃ c, win lo hi (n : Int) = c := ⟨_, rfl⟩
  have hmm : mLis lo hi mIn rs = (c1 && c2) := by unfold mLis; rw [hn, hc1, hc2]
  rw [hmm]
  rw [hc2] at C1
  clear hmm hr hl hn hc hm hm' hcell hc2
  cases c1 <;> cases c2 <;>
  · go_enter Tryz.func101, Tryz.ntmps101
    go_wp2_with (first
      | (go_at_call 54; refine (tWithin _ _ _ _).mono ?_; rintro e w' ⟨rfl, rfl⟩)
      | (go_at_call 120; refine C1.out.mono ?_; rintro e w1 ⟨rfl, hb⟩; have B1 : Hid (Below S w w1) := B0.out.trans (hb.mono N0.out); clear hb)
      | fail)
    go_ret
    first | exact ⟨rfl, by rw [HS.out]; exact B1.out⟩ | exact ⟨rfl, by rw [HS.out]; exact B0.out⟩
set_option maxHeartbeats 2000000 in
theorem clForward (B : Nat) (r : List Int) (w : World) (hl : r.length = 11) (hB : w.cell? ⟨B, 0, none⟩ = some (.func (.func 104) #[] #[])) :
    Calls Tryz.prog 124 #[.agg (vals fwdS r).toArray, .pointer (some ⟨B, 0, none⟩)] w fun e w' => e = .returned (.bool (!mFwd r)) ∧ Below w.heap.size w w' := by
  have C1 := Lib.hid (fun w' => tFwd r w' hl)
  obtain ⟨c1, hc1⟩ : ∃ c, mFwd r = c := ⟨_, rfl⟩
  rw [hc1] at C1 ⊢
  have HL := Lib.hid (szL i123 (vals_len (S := fwdS) hl))
  have hcf : ∀ (x : Array Value) (w : World), (callFunc 104 #[.agg x]).run Tryz.prog w = .ok (.enter 104 #[.agg x]) w := fun _ _ => by kernel_rfl
  obtain ⟨S, hS⟩ : ∃ S, w.heap.size = S := ⟨_, rfl⟩
  have R0 : Hid ((w.alloc (Obj.cells (vals fwdS r).toArray 123)).rangeAt S 0 (vals fwdS r)) := by rw [← hS]; exact range_new w _ _
  have B0 : Hid (Below S w (w.alloc (Obj.cells (vals fwdS r).toArray 123))) := by rw [← hS]; exact (Below.refl _ w).alloc (Nat.le_refl _) _
  have N0 : Hid (S ≤ (w.alloc (Obj.cells (vals fwdS r).toArray 123)).heap.size) := by show S ≤ _; simp; omega
  have hB1 : (w.alloc (Obj.cells (vals fwdS r).toArray 123)).cell? ⟨B, 0, none⟩ = some (.func (.func 104) #[] #[]) := World.new_ne w _ hB |> fun _ => by
    have hlt := World.block_lt_of_cell? w ⟨B, 0, none⟩ hB
    rw [World.cell?_of_block (w := w) (a := ⟨B, 0, none⟩) (Below.heap_alloc w _ B hlt)]
    exact hB
  have HS := Lib.hid hS
  clear hl hc1 hB
  go_enter Tryz.func124, Tryz.ntmps124
  go_wp2_with (first
    | (refine wpList_load_mid rfl 123 (.tmp 2) rfl S 0 rfl (vals fwdS r) _ R0.out Tryz.underlying123 rfl HL.out ?_)
    | (go_at_call 104; refine (C1.out _).mono ?_; rintro e w1 ⟨rfl, hb⟩; have B1 : Hid (Below S w w1) := B0.out.trans (hb.mono N0.out); clear hb)
    | fail)
  go_ret
  exact ⟨rfl, by rw [HS.out]; exact B1.out⟩
set_option maxHeartbeats 4000000 in
theorem ixForward (B : Nat) (A : Option Addr) (n cap : Nat) (rs : List (List Int)) (w : World) (hr : LRow fwdS w A rs) (hl : ∀ j, j < rs.length → (rcd rs j).length = 11) (hn : rs.length = n) (hc : n ≤ cap) (hm : cap ≤ maxLen) (hB : w.cell? ⟨B, 0, none⟩ = some (.func (.func 104) #[] #[])) :
    Calls Tryz.prog 132 #[.slice A n cap, .func (.func 124) #[] #[.pointer (some ⟨B, 0, none⟩)]] w fun e w' => (∃ i, e = .returned (.int .i64 i) ∧ decide (0 ≤ i) = !(rs.all mFwd)) ∧ Below w.heap.size w w' := by
  have hcf : ∀ (x : Array Value) (w : World), (callFunc 124 #[.agg x, .pointer (some ⟨B, 0, none⟩)]).run Tryz.prog w = .ok (.enter 124 #[.agg x, .pointer (some ⟨B, 0, none⟩)]) w := fun _ _ => by kernel_rfl
  obtain ⟨N, hN⟩ : ∃ N, w.heap.size = N := ⟨_, rfl⟩
  have HR := Lib.hid hr
  have HL := Lib.hid hl
  have HNN := Lib.hid hn
  have HN := Lib.hid hN
  have HB := Lib.hid hB
  unfold maxLen at hm
  have BL := World.block_lt_of_cell? w ⟨B, 0, none⟩ hB
  have HBL := Lib.hid BL
  have hn63 : n ≤ 9223372036854775807 := by omega
  clear hr hl hn hN hB hm hc BL
  go_enter Tryz.func132, Tryz.ntmps132
  go_wp2
  go_loopw [8, 5] (fun i _ wr => ∃ k : Nat, k ≤ n ∧ i = .int .i64 k ∧ (∀ j, j < k → mFwd (rcd rs j) = true) ∧ Below N w wr) (fun i _ _ => n - (intOf i).toNat)
  case atStart => exact ⟨0, Nat.zero_le _, rfl, fun j hj => by omega, Below.refl _ _⟩
  case round =>
    obtain ⟨k, hk, rfl, hj, hb⟩ := hrel
    have HJ := Lib.hid hj
    have BR := Lib.hid hb
    clear hj hb
    by_cases hlt : k < n
    · obtain ⟨b, o, rfl, hat⟩ := lrow_at HR.out (by have := HNN.out; omega)
      have s0 : (0 : Int) ≤ (k : Int) := by omega
      have s1 : (k : Int) < (n : Int) := by omega
      have hR := hat k (by have := HNN.out; omega)
      have hX := HL.out k (by have := HNN.out; omega)
      obtain ⟨c1, hc1⟩ : ∃ c, mFwd (rcd rs k) = c := ⟨_, rfl⟩
      have HC := Lib.hid hc1
      obtain ⟨x, hx⟩ : ∃ x, rcd rs k = x := ⟨_, rfl⟩
      rw [hx] at hR hX hc1
      have R1 : Hid (wr.rangeAt b (o + k * 11) (vals fwdS x)) := range_keep hR fun q hq => BR.out.block q (by rw [← HN.out]; exact hq)
      have B1 : Hid (wr.cell? ⟨B, 0, none⟩ = some (.func (.func 104) #[] #[])) := by
        have := BR.out.block B (by rw [← HN.out]; exact HBL.out)
        show wr.cell? _ = _
        rw [World.cell?_of_block (w := w) (a := ⟨B, 0, none⟩) this]
        exact HB.out
      have C1 := Lib.hid (clForward B x wr hX B1.out)
      rw [hc1] at C1
      have HI := Lib.hid (szL i123 (vals_len (S := fwdS) hX))
      have HK := Lib.hid hlt
      have NR : Hid (N ≤ wr.heap.size) := by have := BR.out.size; rw [HN.out] at this; exact this
      clear hat hR hX hc1 hx
      cases c1
      · go_wp2_with (first
          | (refine wpList_load_mid rfl 123 (.tmp 14) rfl b (o + k * 11) rfl (vals fwdS x) _ R1.out Tryz.underlying123 rfl HI.out ?_)
          | (go_at_call 124; refine C1.out.mono ?_; rintro e w1 ⟨rfl, hb⟩; have B2 : Hid (Below N w w1) := BR.out.trans (hb.mono NR.out); clear hb)
          | fail)
        go_ret
        refine ⟨⟨k, rfl, ?_⟩, by rw [HN.out]; exact B2.out⟩
        rw [decide_eq_true (by omega)]
        symm
        rw [Bool.not_eq_true', ← Bool.not_eq_true, List.all_eq_true]
        intro h
        have hmem : rcd rs k ∈ rs := by
          have hk' : k < rs.length := by rw [HNN.out]; exact HK.out
          rw [rcd, List.getD_eq_getElem?_getD, List.getElem?_eq_getElem hk']
          exact List.getElem_mem hk'
        rw [h _ hmem] at HC
        exact absurd HC.out (by decide)
      · go_wp2_with (first
          | (refine wpList_load_mid rfl 123 (.tmp 14) rfl b (o + k * 11) rfl (vals fwdS x) _ R1.out Tryz.underlying123 rfl HI.out ?_)
          | (go_at_call 124; refine C1.out.mono ?_; rintro e w1 ⟨rfl, hb⟩; have B2 : Hid (Below N w w1) := BR.out.trans (hb.mono NR.out); clear hb)
          | fail)
        go_roundw
        case rel => exact ⟨k + 1, HK.out, by go_num, fun j hj => by
          rcases Nat.lt_or_ge j k with h | h
          · exact HJ.out j h
          · obtain rfl : j = k := by omega
            exact HC.out, B2.out⟩
        case measure => have := HK.out; simp [intOf]; omega
    · obtain rfl : k = n := by omega
      go_wp2
      go_ret
      refine ⟨⟨-1, rfl, ?_⟩, by rw [HN.out]; exact BR.out⟩
      symm
      rw [decide_eq_false (by decide), Bool.not_eq_false', List.all_eq_true]
      intro r hr
      obtain ⟨j, hj, rfl⟩ := List.getElem_of_mem hr
      have := HJ.out j (by rw [← HNN.out]; exact hj)
      rw [rcd, List.getD_eq_getElem?_getD, List.getElem?_eq_getElem hj] at this
      exact this
set_option maxHeartbeats 2000000 in
theorem cnForward (B : Nat) (A : Option Addr) (n cap : Nat) (rs : List (List Int)) (w : World) (hr : LRow fwdS w A rs) (hl : ∀ j, j < rs.length → (rcd rs j).length = 11) (hn : rs.length = n) (hc : n ≤ cap) (hm : cap ≤ maxLen) (hB : w.cell? ⟨B, 0, none⟩ = some (.func (.func 104) #[] #[])) :
    Calls Tryz.prog 123 #[.slice A n cap, .func (.func 124) #[] #[.pointer (some ⟨B, 0, none⟩)]] w fun e w' => e = .returned (.bool (!(rs.all mFwd))) ∧ Below w.heap.size w w' := by
  have C1 := Lib.hid (ixForward B A n cap rs w hr hl hn hc hm hB)
  obtain ⟨c, hcc⟩ : ∃ c, (!(rs.all mFwd)) = c := ⟨_, rfl⟩
  rw [hcc] at C1 ⊢
  clear hr hl hn hc hm hB hcc
  go_enter Tryz.func123, Tryz.ntmps123
  go_wp2_with fail
  refine C1.out.mono ?_
  rintro e w1 ⟨⟨i, rfl, hi⟩, hb⟩
  have HB := Lib.hid hb
  have HI := Lib.hid hi
  clear hb hi C1
  go_wp2
  go_ret
  exact ⟨by rw [← HI.out] <;> rfl, HB.out⟩
set_option maxHeartbeats 4000000 in
theorem lsForward (A : Option Addr) (n cap : Nat) (lo hi : Int) (rs : List (List Int)) (w : World) (hr : LRow fwdS w A rs) (hl : ∀ j, j < rs.length → (rcd rs j).length = 11) (hn : rs.length = n) (hc : n ≤ cap) (hm : cap ≤ maxLen) :
    Calls Tryz.prog 103 #[.slice A n cap, .int .i64 lo, .int .i64 hi, .func (.func 104) #[] #[]] w fun e w' => e = .returned (.bool (mLis lo hi mFwd rs)) ∧ Below w.heap.size w w' := by
  obtain ⟨S, hS⟩ : ∃ S, w.heap.size = S := ⟨_, rfl⟩
  have hm' := hm
  unfold maxLen at hm'
  have hn63 : n ≤ 9223372036854775807 := by omega
  have B0 : Hid (Below S w (w.alloc (Obj.cells #[.func (.func 104) #[] #[]] 139))) := by rw [← hS]; exact (Below.refl _ w).alloc (Nat.le_refl _) _
  have N0 : Hid (S ≤ (w.alloc (Obj.cells #[.func (.func 104) #[] #[]] 139)).heap.size) := by show S ≤ _; simp; omega
  have hcell : (w.alloc (Obj.cells #[.func (.func 104) #[] #[]] 139)).cell? ⟨S, 0, none⟩ = some (.func (.func 104) #[] #[]) := by
    rw [cell_of_row _ S 0 _ 139 (0, 0) (by rw [← hS]; exact heap_alloc_last w _)]; rfl
  have C1 := Lib.hid (cnForward S A n cap rs _ (hr.keep (fun k hk => Below.heap_alloc w (Obj.cells #[.func (.func 104) #[] #[]] 139) k hk)) hl hn hc hm hcell)
  have hmf : ∀ (fn : Fn) (first cap : Array Value) (w : World), (Instr.makeFunc fn first cap).run Tryz.prog w = .ok (.func fn first cap) w := fun _ _ _ _ => rfl
  have HS := Lib.hid hS
  obtain ⟨c2, hc2⟩ : ∃ c, (rs.all mFwd) = c := ⟨_, rfl⟩
  obtain ⟨c1, hc1⟩ : ∃ c, win lo hi (n : Int) = c := ⟨_, rfl⟩
  have hmm : mLis lo hi mFwd rs = (c1 && c2) := by unfold mLis; rw [hn, hc1, hc2]
  rw [hmm]
  rw [hc2] at C1
  clear hmm hr hl hn hc hm hm' hcell hc2
  cases c1 <;> cases c2 <;>
  · go_enter Tryz.func103, Tryz.ntmps103
    go_wp2_with (first
      | (go_at_call 54; refine (tWithin _ _ _ _).mono ?_; rintro e w' ⟨rfl, rfl⟩)
      | (go_at_call 123; refine C1.out.mono ?_; rintro e w1 ⟨rfl, hb⟩; have B1 : Hid (Below S w w1) := B0.out.trans (hb.mono N0.out); clear hb)
      | fail)
    go_ret
    first | exact ⟨rfl, by rw [HS.out]; exact B1.out⟩ | exact ⟨rfl, by rw [HS.out]; exact B0.out⟩
set_option maxHeartbeats 2000000 in
theorem clSigned (B : Nat) (r : List Int) (w : World) (hl : r.length = 282) (hB : w.cell? ⟨B, 0, none⟩ = some (.func (.func 109) #[] #[])) :
    Calls Tryz.prog 127 #[.agg (vals sgnS r).toArray, .pointer (some ⟨B, 0, none⟩)] w fun e w' => e = .returned (.bool (!mSgn r)) ∧ Below w.heap.size w w' := by
  have C1 := Lib.hid (fun w' => tSgn r w' hl)
  obtain ⟨c1, hc1⟩ : ∃ c, mSgn r = c := ⟨_, rfl⟩
  rw [hc1] at C1 ⊢
  have HL := Lib.hid (szL i66 (vals_len (S := sgnS) hl))
  have hcf : ∀ (x : Array Value) (w : World), (callFunc 109 #[.agg x]).run Tryz.prog w = .ok (.enter 109 #[.agg x]) w := fun _ _ => by kernel_rfl
  obtain ⟨S, hS⟩ : ∃ S, w.heap.size = S := ⟨_, rfl⟩
  have R0 : Hid ((w.alloc (Obj.cells (vals sgnS r).toArray 66)).rangeAt S 0 (vals sgnS r)) := by rw [← hS]; exact range_new w _ _
  have B0 : Hid (Below S w (w.alloc (Obj.cells (vals sgnS r).toArray 66))) := by rw [← hS]; exact (Below.refl _ w).alloc (Nat.le_refl _) _
  have N0 : Hid (S ≤ (w.alloc (Obj.cells (vals sgnS r).toArray 66)).heap.size) := by show S ≤ _; simp; omega
  have hB1 : (w.alloc (Obj.cells (vals sgnS r).toArray 66)).cell? ⟨B, 0, none⟩ = some (.func (.func 109) #[] #[]) := World.new_ne w _ hB |> fun _ => by
    have hlt := World.block_lt_of_cell? w ⟨B, 0, none⟩ hB
    rw [World.cell?_of_block (w := w) (a := ⟨B, 0, none⟩) (Below.heap_alloc w _ B hlt)]
    exact hB
  have HS := Lib.hid hS
  clear hl hc1 hB
  go_enter Tryz.func127, Tryz.ntmps127
  go_wp2_with (first
    | (refine wpList_load_mid rfl 66 (.tmp 2) rfl S 0 rfl (vals sgnS r) _ R0.out Tryz.underlying66 rfl HL.out ?_)
    | (go_at_call 109; refine (C1.out _).mono ?_; rintro e w1 ⟨rfl, hb⟩; have B1 : Hid (Below S w w1) := B0.out.trans (hb.mono N0.out); clear hb)
    | fail)
  go_ret
  exact ⟨rfl, by rw [HS.out]; exact B1.out⟩
set_option maxHeartbeats 4000000 in
theorem ixSigned (B : Nat) (A : Option Addr) (n cap : Nat) (rs : List (List Int)) (w : World) (hr : LRow sgnS w A rs) (hl : ∀ j, j < rs.length → (rcd rs j).length = 282) (hn : rs.length = n) (hc : n ≤ cap) (hm : cap ≤ maxLen) (hB : w.cell? ⟨B, 0, none⟩ = some (.func (.func 109) #[] #[])) :
    Calls Tryz.prog 134 #[.slice A n cap, .func (.func 127) #[] #[.pointer (some ⟨B, 0, none⟩)]] w fun e w' => (∃ i, e = .returned (.int .i64 i) ∧ decide (0 ≤ i) = !(rs.all mSgn)) ∧ Below w.heap.size w w' := by
  have hcf : ∀ (x : Array Value) (w : World), (callFunc 127 #[.agg x, .pointer (some ⟨B, 0, none⟩)]).run Tryz.prog w = .ok (.enter 127 #[.agg x, .pointer (some ⟨B, 0, none⟩)]) w := fun _ _ => by kernel_rfl
  obtain ⟨N, hN⟩ : ∃ N, w.heap.size = N := ⟨_, rfl⟩
  have HR := Lib.hid hr
  have HL := Lib.hid hl
  have HNN := Lib.hid hn
  have HN := Lib.hid hN
  have HB := Lib.hid hB
  unfold maxLen at hm
  have BL := World.block_lt_of_cell? w ⟨B, 0, none⟩ hB
  have HBL := Lib.hid BL
  have hn63 : n ≤ 9223372036854775807 := by omega
  clear hr hl hn hN hB hm hc BL
  go_enter Tryz.func134, Tryz.ntmps134
  go_wp2
  go_loopw [8, 5] (fun i _ wr => ∃ k : Nat, k ≤ n ∧ i = .int .i64 k ∧ (∀ j, j < k → mSgn (rcd rs j) = true) ∧ Below N w wr) (fun i _ _ => n - (intOf i).toNat)
  case atStart => exact ⟨0, Nat.zero_le _, rfl, fun j hj => by omega, Below.refl _ _⟩
  case round =>
    obtain ⟨k, hk, rfl, hj, hb⟩ := hrel
    have HJ := Lib.hid hj
    have BR := Lib.hid hb
    clear hj hb
    by_cases hlt : k < n
    · obtain ⟨b, o, rfl, hat⟩ := lrow_at HR.out (by have := HNN.out; omega)
      have s0 : (0 : Int) ≤ (k : Int) := by omega
      have s1 : (k : Int) < (n : Int) := by omega
      have hR := hat k (by have := HNN.out; omega)
      have hX := HL.out k (by have := HNN.out; omega)
      obtain ⟨c1, hc1⟩ : ∃ c, mSgn (rcd rs k) = c := ⟨_, rfl⟩
      have HC := Lib.hid hc1
      obtain ⟨x, hx⟩ : ∃ x, rcd rs k = x := ⟨_, rfl⟩
      rw [hx] at hR hX hc1
      have R1 : Hid (wr.rangeAt b (o + k * 282) (vals sgnS x)) := range_keep hR fun q hq => BR.out.block q (by rw [← HN.out]; exact hq)
      have B1 : Hid (wr.cell? ⟨B, 0, none⟩ = some (.func (.func 109) #[] #[])) := by
        have := BR.out.block B (by rw [← HN.out]; exact HBL.out)
        show wr.cell? _ = _
        rw [World.cell?_of_block (w := w) (a := ⟨B, 0, none⟩) this]
        exact HB.out
      have C1 := Lib.hid (clSigned B x wr hX B1.out)
      rw [hc1] at C1
      have HI := Lib.hid (szL i66 (vals_len (S := sgnS) hX))
      have HK := Lib.hid hlt
      have NR : Hid (N ≤ wr.heap.size) := by have := BR.out.size; rw [HN.out] at this; exact this
      clear hat hR hX hc1 hx
      cases c1
      · go_wp2_with (first
          | (refine wpList_load_mid rfl 66 (.tmp 14) rfl b (o + k * 282) rfl (vals sgnS x) _ R1.out Tryz.underlying66 rfl HI.out ?_)
          | (go_at_call 127; refine C1.out.mono ?_; rintro e w1 ⟨rfl, hb⟩; have B2 : Hid (Below N w w1) := BR.out.trans (hb.mono NR.out); clear hb)
          | fail)
        go_ret
        refine ⟨⟨k, rfl, ?_⟩, by rw [HN.out]; exact B2.out⟩
        rw [decide_eq_true (by omega)]
        symm
        rw [Bool.not_eq_true', ← Bool.not_eq_true, List.all_eq_true]
        intro h
        have hmem : rcd rs k ∈ rs := by
          have hk' : k < rs.length := by rw [HNN.out]; exact HK.out
          rw [rcd, List.getD_eq_getElem?_getD, List.getElem?_eq_getElem hk']
          exact List.getElem_mem hk'
        rw [h _ hmem] at HC
        exact absurd HC.out (by decide)
      · go_wp2_with (first
          | (refine wpList_load_mid rfl 66 (.tmp 14) rfl b (o + k * 282) rfl (vals sgnS x) _ R1.out Tryz.underlying66 rfl HI.out ?_)
          | (go_at_call 127; refine C1.out.mono ?_; rintro e w1 ⟨rfl, hb⟩; have B2 : Hid (Below N w w1) := BR.out.trans (hb.mono NR.out); clear hb)
          | fail)
        go_roundw
        case rel => exact ⟨k + 1, HK.out, by go_num, fun j hj => by
          rcases Nat.lt_or_ge j k with h | h
          · exact HJ.out j h
          · obtain rfl : j = k := by omega
            exact HC.out, B2.out⟩
        case measure => have := HK.out; simp [intOf]; omega
    · obtain rfl : k = n := by omega
      go_wp2
      go_ret
      refine ⟨⟨-1, rfl, ?_⟩, by rw [HN.out]; exact BR.out⟩
      symm
      rw [decide_eq_false (by decide), Bool.not_eq_false', List.all_eq_true]
      intro r hr
      obtain ⟨j, hj, rfl⟩ := List.getElem_of_mem hr
      have := HJ.out j (by rw [← HNN.out]; exact hj)
      rw [rcd, List.getD_eq_getElem?_getD, List.getElem?_eq_getElem hj] at this
      exact this
set_option maxHeartbeats 2000000 in
theorem cnSigned (B : Nat) (A : Option Addr) (n cap : Nat) (rs : List (List Int)) (w : World) (hr : LRow sgnS w A rs) (hl : ∀ j, j < rs.length → (rcd rs j).length = 282) (hn : rs.length = n) (hc : n ≤ cap) (hm : cap ≤ maxLen) (hB : w.cell? ⟨B, 0, none⟩ = some (.func (.func 109) #[] #[])) :
    Calls Tryz.prog 126 #[.slice A n cap, .func (.func 127) #[] #[.pointer (some ⟨B, 0, none⟩)]] w fun e w' => e = .returned (.bool (!(rs.all mSgn))) ∧ Below w.heap.size w w' := by
  have C1 := Lib.hid (ixSigned B A n cap rs w hr hl hn hc hm hB)
  obtain ⟨c, hcc⟩ : ∃ c, (!(rs.all mSgn)) = c := ⟨_, rfl⟩
  rw [hcc] at C1 ⊢
  clear hr hl hn hc hm hB hcc
  go_enter Tryz.func126, Tryz.ntmps126
  go_wp2_with fail
  refine C1.out.mono ?_
  rintro e w1 ⟨⟨i, rfl, hi⟩, hb⟩
  have HB := Lib.hid hb
  have HI := Lib.hid hi
  clear hb hi C1
  go_wp2
  go_ret
  exact ⟨by rw [← HI.out] <;> rfl, HB.out⟩
set_option maxHeartbeats 4000000 in
theorem lsSigned (A : Option Addr) (n cap : Nat) (lo hi : Int) (rs : List (List Int)) (w : World) (hr : LRow sgnS w A rs) (hl : ∀ j, j < rs.length → (rcd rs j).length = 282) (hn : rs.length = n) (hc : n ≤ cap) (hm : cap ≤ maxLen) :
    Calls Tryz.prog 108 #[.slice A n cap, .int .i64 lo, .int .i64 hi, .func (.func 109) #[] #[]] w fun e w' => e = .returned (.bool (mLis lo hi mSgn rs)) ∧ Below w.heap.size w w' := by
  obtain ⟨S, hS⟩ : ∃ S, w.heap.size = S := ⟨_, rfl⟩
  have hm' := hm
  unfold maxLen at hm'
  have hn63 : n ≤ 9223372036854775807 := by omega
  have B0 : Hid (Below S w (w.alloc (Obj.cells #[.func (.func 109) #[] #[]] 186))) := by rw [← hS]; exact (Below.refl _ w).alloc (Nat.le_refl _) _
  have N0 : Hid (S ≤ (w.alloc (Obj.cells #[.func (.func 109) #[] #[]] 186)).heap.size) := by show S ≤ _; simp; omega
  have hcell : (w.alloc (Obj.cells #[.func (.func 109) #[] #[]] 186)).cell? ⟨S, 0, none⟩ = some (.func (.func 109) #[] #[]) := by
    rw [cell_of_row _ S 0 _ 186 (0, 0) (by rw [← hS]; exact heap_alloc_last w _)]; rfl
  have C1 := Lib.hid (cnSigned S A n cap rs _ (hr.keep (fun k hk => Below.heap_alloc w (Obj.cells #[.func (.func 109) #[] #[]] 186) k hk)) hl hn hc hm hcell)
  have hmf : ∀ (fn : Fn) (first cap : Array Value) (w : World), (Instr.makeFunc fn first cap).run Tryz.prog w = .ok (.func fn first cap) w := fun _ _ _ _ => rfl
  have HS := Lib.hid hS
  obtain ⟨c2, hc2⟩ : ∃ c, (rs.all mSgn) = c := ⟨_, rfl⟩
  obtain ⟨c1, hc1⟩ : ∃ c, win lo hi (n : Int) = c := ⟨_, rfl⟩
  have hmm : mLis lo hi mSgn rs = (c1 && c2) := by unfold mLis; rw [hn, hc1, hc2]
  rw [hmm]
  rw [hc2] at C1
  clear hmm hr hl hn hc hm hm' hcell hc2
  cases c1 <;> cases c2 <;>
  · go_enter Tryz.func108, Tryz.ntmps108
    go_wp2_with (first
      | (go_at_call 54; refine (tWithin _ _ _ _).mono ?_; rintro e w' ⟨rfl, rfl⟩)
      | (go_at_call 126; refine C1.out.mono ?_; rintro e w1 ⟨rfl, hb⟩; have B1 : Hid (Below S w w1) := B0.out.trans (hb.mono N0.out); clear hb)
      | fail)
    go_ret
    first | exact ⟨rfl, by rw [HS.out]; exact B1.out⟩ | exact ⟨rfl, by rw [HS.out]; exact B0.out⟩
end Go.Proofs.YtffaddefnpkcgaaGreatDoor
namespace Go.Proofs.YtffaddefnpkcgaaGreatDoor
open Go.RowKit Go.Maps Go.WideMaps
set_option maxRecDepth 100000
def ptS : Sch := hS ++ [some 1]
theorem in_pt {w : World} {b o : Nat} {r : List Int} (h : w.rangeAt b o (vals inS r)) (hl : r.length = 298) : w.rangeAt b o (vals ptS (seg r 0 9)) := by
  have e : inS = ptS ++ (hS ++ sigS) := by unfold inS ptS; simp
  rw [e] at h
  have := (rg_app (S := ptS) (n := 9) h rfl (by omega)).1
  rw [seg_0]
  exact this
theorem ok_pt {r : List Int} (h : okT okA inS r) : okT okA ptS (seg r 0 9) := by
  have e : inS = ptS ++ (hS ++ sigS) := by unfold inS ptS; simp
  rw [e, okT_app] at h
  rw [seg_0]
  exact h.1
theorem vals_inj : ∀ {S : Sch} {a b : List Int}, a.length = S.length → b.length = S.length → vals S a = vals S b → a = b
  | [], [], [], _, _, _ => rfl
  | none :: S, x :: a, y :: b, ha, hb, h => by
    simp only [vals, List.zipWith_cons_cons, List.cons.injEq, cellV, Value.int.injEq, true_and] at h
    rw [h.1, vals_inj (by simpa using ha) (by simpa using hb) h.2]
  | some _ :: S, x :: a, y :: b, ha, hb, h => by
    simp only [vals, List.zipWith_cons_cons, List.cons.injEq, cellV, Value.int.injEq, true_and] at h
    rw [h.1, vals_inj (by simpa using ha) (by simpa using hb) h.2]
theorem laidOutK : laidOutB Tryz.prog = true := by kernel_rfl
theorem row61 : (61 : TypeId) < Tryz.prog.types.size := of_decide_eq_true (by kernel_rfl)
theorem wide61 : (match Tryz.prog.underlying 61 with | some (.array _ _) | some (.struct _) => true | _ => false) = true := by kernel_rfl
theorem law61 : KeyLaw Tryz.prog 61 := deep_law_laid laidOutK (m := 3) (by omega) row61 (by kernel_rfl) wide61
theorem keyed61 : Keyed Tryz.prog 61 := Keyed.of_law law61
theorem kt61 : Tryz.prog.keyType 61 = true := by kernel_rfl
theorem co61 : Tryz.prog.cellsOf 61 = 9 := by kernel_rfl
theorem co29 : Tryz.prog.cellsOf 29 = 8 := by kernel_rfl
theorem co5 : Tryz.prog.cellsOf 5 = 1 := by kernel_rfl
theorem co3 : Tryz.prog.cellsOf 3 = 1 := by kernel_rfl
theorem kl5 (d : Nat) (x : Int) (h : 0 ≤ x ∧ x < 256) : Tryz.prog.keyLits (d + 1) 5 [.int .u8 x] = some [.int .u8 x] := by
  have hu : Tryz.prog.underlying 5 = some (.int .u8) := by kernel_rfl
  have hw : (Lit.int .u8 x).wf = true := by
    show (decide (IntKind.u8.min ≤ x) && decide (x ≤ IntKind.u8.max)) = true
    rw [show IntKind.u8.min = 0 by decide, show IntKind.u8.max = 255 by decide]
    simp; omega
  rw [Program.keyLits]
  rotate_left 2
  · exact hu
  rw [if_pos ⟨rfl, hw⟩]
theorem kl3 (d : Nat) (x : Int) (h : -9223372036854775808 ≤ x ∧ x < 9223372036854775808) : Tryz.prog.keyLits (d + 1) 3 [.int .i64 x] = some [.int .i64 x] := by
  have hu : Tryz.prog.underlying 3 = some (.int .i64) := by kernel_rfl
  have hw : (Lit.int .i64 x).wf = true := by
    show (decide (IntKind.i64.min ≤ x) && decide (x ≤ IntKind.i64.max)) = true
    rw [show IntKind.i64.min = -9223372036854775808 by decide, show IntKind.i64.max = 9223372036854775807 by decide]
    simp; omega
  rw [Program.keyLits]
  rotate_left 2
  · exact hu
  rw [if_pos ⟨rfl, hw⟩]
theorem bv_len (x : List Int) : (bvals x).length = x.length := by simp [bvals]
theorem bv_at (x : List Int) (i : Nat) (h : i < x.length) : ((bvals x).drop (i * 1)).take 1 = [.int .u8 (x.getD i 0)] := by
  rw [Nat.mul_one, List.drop_eq_getElem_cons (by rw [bv_len]; exact h)]
  simp [bvals, List.getD, h]
theorem mapM_some {α β : Type} (f : α → Option β) (g : α → β) : ∀ (l : List α), (∀ x ∈ l, f x = some (g x)) → l.mapM f = some (l.map g)
  | [], _ => rfl
  | x :: l, h => by
    rw [List.mapM_cons, h x (by simp), mapM_some f g l fun y hy => h y (List.mem_cons_of_mem _ hy)]
    rfl
theorem kl29 (d : Nat) (x : List Int) (hl : x.length = 8) (hb : Byt x) : ∃ ls, Tryz.prog.keyLits (d + 2) 29 (bvals x) = some ls := by
  have hu : Tryz.prog.underlying 29 = some (.array 8 5) := Tryz.underlying29
  rw [Program.keyLits]
  case heq => exact hu
  rw [if_pos (by rw [bv_len, hl, co29]), mapM_some _ (fun i => [Lit.int .u8 (x.getD i 0)]) _ (fun i hi => by
    rw [List.mem_range] at hi
    rw [co5, bv_at x i (by omega)]
    exact kl5 d _ (byt_getD hb i (by omega)))]
  exact ⟨_, rfl⟩
theorem klpt (d : Nat) (p : List Int) (h : okT okA ptS p) : ∃ ls, Tryz.prog.keyLits (d + 3) 61 (vals ptS p) = some ls := by
  have hu := Tryz.underlying61
  have hl : p.length = 9 := okT_len h
  unfold ptS at h
  rw [okT_app] at h
  obtain ⟨h1, h2⟩ := h
  have hb : (p.take 8).length = 8 ∧ Byt (p.take 8) := (okT_byt 8 _).1 h1
  have e : vals ptS p = bvals (p.take 8) ++ [.int .i64 (cel p 8)] := by
    have hd : p.drop 8 = [cel p 8] := by
      rw [List.drop_eq_getElem_cons (by omega), List.drop_of_length_le (by omega)]
      simp [cel, List.getD, hl]
    unfold ptS
    rw [vals_app (by simp [hS, hl])]
    simp only [hS, List.length_replicate]
    rw [vals_byt 8 _ hb.1, hd]
    rfl
  have hc : okA (some 1) (cel p 8) := by
    have h3 := h2
    simp only [hS, List.length_replicate] at h3
    rw [show p.drop 8 = [cel p 8] by
      rw [List.drop_eq_getElem_cons (by omega), List.drop_of_length_le (by omega)]
      simp [cel, List.getD, hl]] at h3
    exact h3.1
  obtain ⟨l1, hl1⟩ := kl29 d (p.take 8) hb.1 hb.2
  have hl3 := kl3 (d + 1) (cel p 8) hc
  rw [e, Program.keyLits.eq_def]
  simp only [hu]
  have h8 : (bvals (p.take 8)).length = 8 := by rw [bv_len]; exact hb.1
  rw [if_pos ⟨by rw [List.length_append, h8, co61]; rfl, by kernel_rfl⟩]
  have t1 : ((bvals (p.take 8) ++ [Value.int .i64 (cel p 8)]).drop 0).take 8 = bvals (p.take 8) := by rw [List.drop_zero, List.take_left' h8]
  have t2 : ((bvals (p.take 8) ++ [Value.int .i64 (cel p 8)]).drop 8).take 1 = [.int .i64 (cel p 8)] := by rw [List.drop_left' h8]; rfl
  simp only [List.mapM_cons, List.mapM_nil, co29, co3, t1, t2, hl1, hl3]
  exact ⟨_, rfl⟩
theorem key_pt {p : List Int} (h : okT okA ptS p) : ∃ l, keyOf Tryz.prog 61 (.agg (vals ptS p).toArray) = some l := by
  obtain ⟨d, hd⟩ : ∃ d, Tryz.prog.types.size + 1 = d + 3 := ⟨Tryz.prog.types.size - 2, by have : 2 ≤ Tryz.prog.types.size := of_decide_eq_true (by kernel_rfl); omega⟩
  obtain ⟨ls, hls⟩ := klpt d p h
  have hu := Tryz.underlying61
  unfold keyOf
  rw [hu]
  simp only []
  have hf : (Value.agg (vals ptS p).toArray).formed Tryz.prog 61 = true := by
    have hl : (vals ptS p).toArray.size = 9 := by rw [List.size_toArray, vals_len (okT_len h)]; rfl
    simp only [Value.formed, hu, co61, hl]
    rfl
  rw [kt61, hf, hd]
  simp only [Bool.and_self, if_true]
  show ∃ l, (Tryz.prog.keyLits (d + 3) 61 (vals ptS p).toArray.toList).map (fun ls => Lit.string (keyBytes ls)) = some l
  rw [List.toList_toArray, hls]
  exact ⟨_, rfl⟩
end Go.Proofs.YtffaddefnpkcgaaGreatDoor
namespace Go.Proofs.YtffaddefnpkcgaaGreatDoor
open Go.RowKit Go.Maps Go.WideMaps
set_option maxRecDepth 100000
def PtK (K : List Int → Lit) : Prop := ∀ p, okT okA ptS p → keyOf Tryz.prog 61 (.agg (vals ptS p).toArray) = some (K p)
theorem ptK_ex : ∃ K, PtK K := ⟨fun p => (keyOf Tryz.prog 61 (.agg (vals ptS p).toArray)).getD (.bool false), fun p h => by
  obtain ⟨l, hl⟩ := key_pt h
  show _ = some ((keyOf Tryz.prog 61 (.agg (vals ptS p).toArray)).getD (.bool false))
  rw [hl]; rfl⟩
theorem ptK_inj {K : List Int → Lit} (hK : PtK K) {p q : List Int} (hp : okT okA ptS p) (hq : okT okA ptS q) (h : K p = K q) : p = q := by
  have h1 := hK p hp
  have h2 := hK q hq
  rw [← h] at h2
  have e := keyed61.inj h1 h2
  injection e with e
  exact vals_inj (okT_len hp) (okT_len hq) (by have := congrArg Array.toList e; simpa using this)
theorem ptK_lit {K : List Int → Lit} (hK : PtK K) {p : List Int} (h : okT okA ptS p) : WideAt.IsKeyLit (K p) := keyed61.key (hK p h)
theorem add_in {acc : List Lit} {x : Lit} (hx : WideAt.IsKeyLit x) : (acc.any fun y => y.sameKey x) = true ↔ x ∈ acc := by
  rw [List.any_eq_true]
  constructor
  · rintro ⟨y, hy, h⟩
    rw [WideAt.sameKey_eq h] at hy
    exact hy
  · intro h
    exact ⟨x, h, WideAt.sameKey_self hx⟩
theorem add_le : ∀ (ks L : List Lit), (ks.foldl addKey L).length ≤ L.length + ks.length
  | [], L => by simp
  | x :: r, L => by
    rw [List.foldl_cons, List.length_cons]
    have := add_le r (addKey L x)
    have h2 : (addKey L x).length ≤ L.length + 1 := by unfold addKey; split <;> simp
    omega
theorem add_all : ∀ (ks L : List Lit), (∀ x ∈ ks, WideAt.IsKeyLit x) → ((ks.foldl addKey L).length = L.length + ks.length ↔ (∀ x ∈ ks, x ∉ L) ∧ ks.Nodup)
  | [], L, _ => by simp
  | x :: r, L, h => by
    have hx := h x (by simp)
    rw [List.foldl_cons, List.length_cons, List.nodup_cons]
    by_cases e : x ∈ L
    · have : addKey L x = L := by
        unfold addKey
        rw [if_pos ((add_in hx).2 e)]
      rw [this]
      have hle := add_le r L
      constructor
      · intro h; omega
      · rintro ⟨h1, _⟩; exact absurd e (h1 x (by simp))
    · have : addKey L x = L ++ [x] := by
        unfold addKey
        rw [if_neg fun h => e ((add_in hx).1 h)]
      rw [this]
      have ih := add_all r (L ++ [x]) fun y hy => h y (List.mem_cons_of_mem _ hy)
      rw [List.length_append, List.length_singleton] at ih
      rw [show L.length + (r.length + 1) = L.length + 1 + r.length by omega, ih]
      constructor
      · rintro ⟨h1, h2⟩
        refine ⟨fun y hy => ?_, ⟨fun hr => ?_, h2⟩⟩
        · rcases List.mem_cons.1 hy with rfl | hy
          · exact e
          · exact fun hL => h1 y hy (List.mem_append_left _ hL)
        · exact h1 x hr (by simp)
      · rintro ⟨h1, h2, h3⟩
        refine ⟨fun y hy hL => ?_, h3⟩
        rcases List.mem_append.1 hL with hL | hL
        · exact h1 y (List.mem_cons_of_mem _ hy) hL
        · rw [List.mem_singleton.1 hL] at hy
          exact h2 hy
def ptKs (K : List Int → Lit) (rs : List (List Int)) (k : Nat) : List Lit := (rs.take k).map fun r => K (seg r 0 9)
def ptM (H : Type) (K : List Int → Lit) (rs : List (List Int)) (k : Nat) : DataW H := setOf (.agg []) (ptKs K rs k)
theorem ptM_zero (H : Type) (K : List Int → Lit) (rs : List (List Int)) : ptM H K rs 0 = .map [] := by simp [ptM, ptKs, setOf]
theorem ptM_succ (H : Type) (K : List Int → Lit) (rs : List (List Int)) (k : Nat) (h : k < rs.length) : ptM H K rs (k + 1) = (ptM H K rs k).put (K (seg (rcd rs k) 0 9)) (.agg []) := by
  unfold ptM
  rw [← setOf_snoc]
  congr 1
  unfold ptKs
  rw [List.take_succ_eq_append_getElem h, List.map_append]
  simp [rcd, List.getD, h]
theorem nodup_map {α β : Type} {f : α → β} : ∀ {l : List α}, (∀ x ∈ l, ∀ y ∈ l, f x = f y → x = y) → ((l.map f).Nodup ↔ l.Nodup)
  | [], _ => by simp
  | x :: l, h => by
    rw [List.map_cons, List.nodup_cons, List.nodup_cons, nodup_map fun a ha b hb => h a (List.mem_cons_of_mem _ ha) b (List.mem_cons_of_mem _ hb)]
    have : f x ∈ l.map f ↔ x ∈ l := by
      rw [List.mem_map]
      constructor
      · rintro ⟨y, hy, e⟩
        rw [← h y (List.mem_cons_of_mem _ hy) x (by simp) e]
        exact hy
      · intro hx; exact ⟨x, hx, rfl⟩
    rw [this]
theorem pts_size (H : Type) {K : List Int → Lit} (hK : PtK K) {rs : List (List Int)} (h : AllR inS rs) : decide (((Maps.size (ptM H K rs rs.length) : Nat) : Int) = (rs.length : Int)) = mPts rs := by
  have hk : ∀ x ∈ ptKs K rs rs.length, WideAt.IsKeyLit x := by
    intro x hx
    unfold ptKs at hx
    rw [List.take_length, List.mem_map] at hx
    obtain ⟨r, hr, rfl⟩ := hx
    exact ptK_lit hK (ok_pt (h r hr))
  have hs := size_setOf (H := H) (.agg []) _ hk
  have ha := add_all (ptKs K rs rs.length) [] hk
  have hl : (ptKs K rs rs.length).length = rs.length := by simp [ptKs]
  rw [hl] at ha
  simp only [List.length_nil, Nat.zero_add, List.not_mem_nil, not_false_eq_true, implies_true, true_and] at ha
  unfold mPts
  rw [decide_eq_decide]
  unfold ptM
  rw [hs]
  have e1 : ((((ptKs K rs rs.length).foldl addKey []).length : Nat) : Int) = (rs.length : Int) ↔ ((ptKs K rs rs.length).foldl addKey []).length = rs.length := by omega
  rw [e1, ha]
  unfold ptKs
  rw [List.take_length]
  have e2 : (rs.map fun r => K (seg r 0 9)) = (rs.map fun r => seg r 0 9).map K := by rw [List.map_map]; rfl
  rw [e2]
  refine nodup_map fun a ha b hb e => ?_
  rw [List.mem_map] at ha hb
  obtain ⟨r, hr, rfl⟩ := ha
  obtain ⟨s, hs, rfl⟩ := hb
  exact ptK_inj hK (ok_pt (h r hr)) (ok_pt (h s hs)) e
theorem z63 (w : World) : (zeroValue 63).run Tryz.prog w = .ok (.agg (vals inS (zeros 298)).toArray) w := by kernel_rfl
theorem b181 (w : World) : (Instr.build 181 #[]).run Tryz.prog w = .ok (.agg #[]) w := by kernel_rfl
theorem at_mem {S : Sch} {rs : List (List Int)} (h : AllR S rs) {k : Nat} (hk : k < rs.length) : okT okA S (rcd rs k) := by
  refine h _ ?_
  rw [rcd, List.getD_eq_getElem?_getD, List.getElem?_eq_getElem hk]
  exact List.getElem_mem hk
attribute [local irreducible] ua da ba kk sw S8.run rt hs comp splice outB sha msg zeros win bvals vals mHave mPlc mLis mPts cel seg ptM
set_option maxHeartbeats 8000000 in
theorem tIns (A : Option Addr) (n cap : Nat) (rs : List (List Int)) (w : World) (hr : LRow inS w A rs) (hl : AllR inS rs) (hn : rs.length = n) (hc : n ≤ cap) (hm : cap ≤ maxLen) :
    Calls Tryz.prog 72 #[.slice A n cap] w fun e w' => e = .returned (.bool (mIns rs)) ∧ Below w.heap.size w w' := by
  have hmm := @run_makeMap Tryz.prog
  obtain ⟨K, hK⟩ := ptK_ex
  have HKK := Lib.hid hK
  have C1 := Lib.hid (lsIn A n cap 1 8 rs w hr (fun j hj => lrow_len hl hj) hn hc hm)
  have PS := Lib.hid (pts_size Unit hK hl)
  clear hK
  obtain ⟨c1, hc1⟩ : ∃ c, mLis 1 8 mIn rs = c := ⟨_, rfl⟩
  obtain ⟨c2, hc2⟩ : ∃ c, mPts rs = c := ⟨_, rfl⟩
  have hmi : mIns rs = (c1 && c2) := by unfold mIns; rw [hc1, hc2]
  have H8 : Hid (c1 = true → n ≤ 8) := fun h => by
    have := (lis_all (hc1.trans h)).2.1
    rw [hn] at this
    omega
  rw [hmi]
  rw [hc1] at C1
  rw [hc2, hn] at PS
  obtain ⟨N, hN⟩ : ∃ N, w.heap.size = N := ⟨_, rfl⟩
  have HR := Lib.hid hr
  have HL := Lib.hid hl
  have HNN := Lib.hid hn
  have HN := Lib.hid hN
  unfold maxLen at hm
  clear hmi hc1 hc2 hr hl hn hm hc
  cases c1
  · go_enter Tryz.func72, Tryz.ntmps72
    go_wp2_with (go_at_call 101; refine C1.out.mono ?_; rintro e w1 ⟨rfl, hb⟩; have B1 : Hid (Below N w w1) := by rw [← HN.out]; exact hb
                 clear hb)
    go_ret
    exact ⟨rfl, by rw [HN.out]; exact B1.out⟩
  · have hn8 : n ≤ 8 := H8.out rfl
    go_enter Tryz.func72, Tryz.ntmps72
    go_wp2_with fail
    refine C1.out.mono ?_
    rintro e w1 ⟨rfl, hb⟩
    have B1 : Hid (Below N w w1) := by rw [← HN.out]; exact hb
    have NM : Hid (N ≤ w1.heap.size) := by have := hb.size; show N ≤ _; rw [← HN.out]; exact this
    clear hb C1 hN
    obtain ⟨M, hM⟩ : ∃ M, w1.heap.size = M := ⟨_, rfl⟩
    have MM : Hid (N ≤ M) := by show N ≤ M; rw [← hM]; exact NM.out
    have O0 : Hid ((w1.alloc (.map #[] 0)).ownsMap Tryz.prog 61 (unitElem (H := Unit)) M 0 (ptM Unit K rs 0)) := by
      rw [ptM_zero, ← hM]; exact World.ownsMap_made _ _ _ _
    have BM : Hid (Below N w (w1.alloc (.map #[] 0))) := B1.out.alloc NM.out _
    go_wp2_with fail
    go_loopw [12, 5] (fun i _ wr => ∃ k : Nat, k ≤ n ∧ i = .int .i64 k ∧ wr.ownsMap Tryz.prog 61 (unitElem (H := Unit)) M k (ptM Unit K rs k) ∧ Below N w wr) (fun i _ _ => n - (intOf i).toNat)
    case atStart => exact ⟨0, Nat.zero_le _, rfl, O0.out, BM.out⟩
    case round =>
      clear O0 BM B1 hM
      obtain ⟨k, hk, rfl, hown, hb⟩ := hrel
      have OW := Lib.hid hown
      have BR := Lib.hid hb
      clear hown hb
      by_cases hlt : k < n
      · obtain ⟨b, o, rfl, hat⟩ := lrow_at HR.out (by have := HNN.out; omega)
        have s0 : (0 : Int) ≤ (k : Int) := by omega
        have s1 : (k : Int) < (n : Int) := by omega
        have hR := hat k (by have := HNN.out; omega)
        have hX := at_mem HL.out (k := k) (by have := HNN.out; omega)
        have S1 : Hid (ptM Unit K rs (k + 1) = (ptM Unit K rs k).put (K (seg (rcd rs k) 0 9)) (.agg [])) := ptM_succ Unit K rs k (by have := HNN.out; omega)
        generalize rcd rs k = x at *
        have R1 : Hid (wr.rangeAt b (o + k * 298) (vals inS x)) := range_keep hR fun q hq => BR.out.block q (by rw [← HN.out]; exact hq)
        have LX : Hid (x.length = 298) := okT_len hX
        have HI := Lib.hid (szL i63 (vals_len (S := inS) LX.out))
        have HK := Lib.hid (HKK.out _ (ok_pt hX))
        have HKL := Lib.hid hlt
        have HP := Lib.hid (szL i61 (vals_len (S := ptS) (r := seg x 0 9) (seg_len (by rw [LX.out]; omega))))
        obtain ⟨Y, hY⟩ : ∃ Y, wr.heap.size = Y := ⟨_, rfl⟩
        have NY : Hid (N ≤ Y) := by have := BR.out.size; show N ≤ Y; rw [← hY, ← HN.out]; exact this
        have hz := z63
        have hb1 := b181
        have A0 : Hid ((wr.alloc (Obj.cells (vals inS (zeros 298)).toArray 63)).heap[Y]? = some (.cells (vals inS (zeros 298)).toArray 63 (0, 0))) := by subst hY; exact heap_alloc_last wr _
        have LZ : Hid ((vals inS (zeros 298)).length = 298) := vals_len (zeros_len 298)
        clear hat hR hX
        go_wp2_with (first
          | (refine wpList_load_mid rfl 63 (.tmp 14) rfl b (o + k * 298) rfl (vals inS x) _ R1.out Tryz.underlying63 rfl HI.out ?_)
          | (refine wpList_store_rowTo rfl 63 (.tmp 5) (.tmp 15) rfl rfl Y (vals inS x).toArray rfl rfl 63 (vals inS (zeros 298)).toArray A0.out (szA i63 (vals_len (S := inS) LX.out)) (by rw [List.size_toArray, List.size_toArray, LZ.out, vals_len (S := inS) LX.out]; rfl) (all_oneCell_toArray (vals_one _ _)) ?_
             generalize hq : (wr.alloc (Obj.cells (vals inS (zeros 298)).toArray 63)).setRow Y (vals inS x).toArray = wy
             have RY : Hid (wy.rangeAt Y 0 (vals ptS (seg x 0 9))) := in_pt (range_of (by rw [← hq]; exact setRow_heap _ _ _ _ _ _ A0.out)) LX.out
             have BY : Hid (Below N w wy) := by rw [← hq]; exact below_setRow (BR.out.alloc (by rw [hY]; exact NY.out) _) NY.out _
             have OY : Hid (wy.ownsMap Tryz.prog 61 (unitElem (H := Unit)) M k (ptM Unit K rs k)) := by
               obtain ⟨es, clock, h1, h2⟩ := OW.out
               refine ⟨es, clock, ?_, h2⟩
               have hlt : M < Y := by rw [← hY]; exact lt_of_block h1
               rw [← hq, setRow_other _ _ _ _ (by omega)]
               exact (Below.heap_alloc wr _ M (by rw [hY]; exact hlt)).trans h1
             clear hq A0)
          | (refine wpList_load_mid rfl 61 (.tmp 17) rfl Y 0 rfl (vals ptS (seg x 0 9)) _ RY.out Tryz.underlying61 rfl HP.out ?_)
          | (at_mapUpdate; refine wpList_mapUpdate_own _ rfl _ _ _ 180 rfl 61 181 keyed61 Tryz.underlying180 (unitElem (H := Unit)) M k _ rfl OY.out (by unfold maxLen; omega) _ _ _ rfl rfl HK.out _ [] unitElem_mk ?_; intro w2 hown2 hg2)
          | fail)
        have OZ : Hid (w2.ownsMap Tryz.prog 61 (unitElem (H := Unit)) M (k + 1) (ptM Unit K rs (k + 1))) := by rw [S1.out]; exact hown2
        have BZ : Hid (Below N w w2) := BY.out.grown hg2 (by have := BY.out.size; rw [HN.out] at this; exact this) (fun q hq => by cases hq; exact MM.out)
        clear hown2 hg2
        go_roundw
        case rel => exact ⟨k + 1, HKL.out, by go_num, OZ.out, BZ.out⟩
        case measure => have := HKL.out; simp [intOf]; omega
      · obtain rfl : k = n := by omega
        have hnot : ¬ (k : Int) < (k : Int) := by omega
        go_wp2_with (first
          | (at_len; refine wpList_len_own _ rfl _ 180 rfl 61 181 Tryz.underlying180 (unitElem (H := Unit)) M k _ rfl OW.out ?_)
          | fail)
        go_ret
        have h := PS.out
        exact ⟨by rw [← h] <;> rfl, by rw [HN.out]; exact BR.out⟩
end Go.Proofs.YtffaddefnpkcgaaGreatDoor

