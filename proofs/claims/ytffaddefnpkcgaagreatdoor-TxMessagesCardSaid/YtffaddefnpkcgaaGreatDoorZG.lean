/-
  The document's small tests.
-/
import Derived.Test.YtffaddefnpkcgaaGreatDoorZF
import Derived.Test.YtffaddefnpkcgaaGreatDoorZE
import Derived.Test.YtffaddefnpkcgaaGreatDoorZB
import Derived.Deep.RegionHeld3
import Derived.Deep.DrawnRows
import Derived.Deep.DeepCutAuto
namespace Go.Proofs.YtffaddefnpkcgaaGreatDoor
open Go.RowKit
set_option maxRecDepth 100000
attribute [local irreducible] ua da ba kk sw S8.run rt hs comp splice outB sha msg zeros win bvals vals mHave mPlc mLis mPts cel seg
theorem dZero (x : List Int) (w : World) (hx : x.length = 8) : Calls Tryz.prog 78 #[.agg (bvals x).toArray] w fun e w' => e = .returned (.bool (decide (x = zeros 8))) ∧ Below w.heap.size w w' := by
  have := kZero x w hx
  unfold ba at this
  exact this
set_option maxHeartbeats 8000000 in
theorem dFwd (r : List Int) (w : World) (hl : r.length = 11) :
    Calls Tryz.prog 79 #[.agg (vals fwdS r).toArray] w fun e w' => e = .returned (.bool (mFwd r)) ∧ Below w.heap.size w w' := by
  obtain ⟨c1, hc1⟩ : ∃ c, decide (0 ≤ cel r 0) = c := ⟨_, rfl⟩
  obtain ⟨c2, hc2⟩ : ∃ c, decide (cel r 0 < 8) = c := ⟨_, rfl⟩
  obtain ⟨c3, hc3⟩ : ∃ c, decide (0 ≤ cel r 1) = c := ⟨_, rfl⟩
  obtain ⟨c4, hc4⟩ : ∃ c, decide (cel r 1 < 65536) = c := ⟨_, rfl⟩
  obtain ⟨cz, hcz⟩ : ∃ c, (!decide (seg r 2 8 = zeros 8)) = c := ⟨_, rfl⟩
  obtain ⟨c5, hc5⟩ : ∃ c, decide (1 ≤ cel r 10) = c := ⟨_, rfl⟩
  obtain ⟨c6, hc6⟩ : ∃ c, decide (cel r 10 ≤ 1125899906842624) = c := ⟨_, rfl⟩
  have hmm : mFwd r = (c1 && (c2 && (c3 && (c4 && (cz && (c5 && c6)))))) := by
    rw [← hc1, ← hc2, ← hc3, ← hc4, ← hcz, ← hc5, ← hc6]
    unfold mFwd mHave mPlc win
    by_cases hz : seg r 2 8 = zeros 8
    · rw [decide_eq_true hz]; simp
    · rw [decide_eq_false hz, Bool.eq_iff_iff]
      simp only [Bool.not_false, Bool.true_and, Bool.and_eq_true, decide_eq_true_eq]
      omega
  rw [hmm]
  have CZ : Hid (∀ w', Calls Tryz.prog 78 #[.agg (bvals (seg r 2 8)).toArray] w' fun e w'' => e = .returned (.bool (!cz)) ∧ Below w'.heap.size w' w'') := fun w' => by
    have := dZero (seg r 2 8) w' (seg_len (by omega))
    rw [show decide (seg r 2 8 = zeros 8) = !cz by rw [← hcz, Bool.not_not]] at this
    exact this
  have HB : Hid ((Tryz.prog.info? 29).map (·.size) = some (bvals (seg r 2 8)).length) := bv8 (seg_len (by omega))
  have HL := Lib.hid hl
  obtain ⟨S, hS⟩ : ∃ S, w.heap.size = S := ⟨_, rfl⟩
  have HS := Lib.hid hS
  have RC : Hid ((w.alloc (Obj.cells (vals fwdS r).toArray 123)).rangeAt S 0 (vals fwdS r)) := by rw [← hS]; exact range_new w _ _
  have BC : Hid (Below S w (w.alloc (Obj.cells (vals fwdS r).toArray 123))) := by rw [← hS]; exact (Below.refl _ w).alloc (Nat.le_refl _) _
  have NC : Hid (S < (w.alloc (Obj.cells (vals fwdS r).toArray 123)).heap.size) := by show S < _; simp; omega
  clear hmm hl hcz
  cases c1
  · go_enter Tryz.func79, Tryz.ntmps79
    obtain ⟨k0, k1, k3, k4⟩ := fwd_at RC.out HL.out
    have K3 := Lib.hid k3
    simp only [Nat.zero_add] at k1 K3 k4
    clear k3
    go_wp2_with (first
      | (refine wpList_load_midG (by rfl) 29 (.tmp 22) rfl S 2 rfl (bvals (seg r 2 8)) _ K3.out Tryz.underlying29 rfl HB.out ?_)
      | (go_at_call 78; refine (CZ.out _).mono ?_; rintro e w1 ⟨rfl, hb⟩; have hS1 := hb.block S NC.out; replace BC : Hid (Below S w w1) := Lib.hid (BC.out.trans (hb.mono (Nat.le_of_lt NC.out))); replace NC : Hid (S < w1.heap.size) := Lib.hid (Nat.lt_of_lt_of_le NC.out hb.size); replace RC : Hid (w1.rangeAt S 0 (vals fwdS r)) := Lib.hid (range_keep1 RC.out hS1); clear hb hS1 k0 k1 K3 k4; obtain ⟨k0, k1, k3, k4⟩ := fwd_at RC.out HL.out; have K3 := Lib.hid k3; simp only [Nat.zero_add] at k1 K3 k4; clear k3)
      | fail)
    go_ret
    exact ⟨rfl, by rw [HS.out]; exact BC.out⟩
  · cases c2
    · go_enter Tryz.func79, Tryz.ntmps79
      obtain ⟨k0, k1, k3, k4⟩ := fwd_at RC.out HL.out
      have K3 := Lib.hid k3
      simp only [Nat.zero_add] at k1 K3 k4
      clear k3
      go_wp2_with (first
        | (refine wpList_load_midG (by rfl) 29 (.tmp 22) rfl S 2 rfl (bvals (seg r 2 8)) _ K3.out Tryz.underlying29 rfl HB.out ?_)
        | (go_at_call 78; refine (CZ.out _).mono ?_; rintro e w1 ⟨rfl, hb⟩; have hS1 := hb.block S NC.out; replace BC : Hid (Below S w w1) := Lib.hid (BC.out.trans (hb.mono (Nat.le_of_lt NC.out))); replace NC : Hid (S < w1.heap.size) := Lib.hid (Nat.lt_of_lt_of_le NC.out hb.size); replace RC : Hid (w1.rangeAt S 0 (vals fwdS r)) := Lib.hid (range_keep1 RC.out hS1); clear hb hS1 k0 k1 K3 k4; obtain ⟨k0, k1, k3, k4⟩ := fwd_at RC.out HL.out; have K3 := Lib.hid k3; simp only [Nat.zero_add] at k1 K3 k4; clear k3)
        | fail)
      go_ret
      exact ⟨rfl, by rw [HS.out]; exact BC.out⟩
    · cases c3
      · go_enter Tryz.func79, Tryz.ntmps79
        obtain ⟨k0, k1, k3, k4⟩ := fwd_at RC.out HL.out
        have K3 := Lib.hid k3
        simp only [Nat.zero_add] at k1 K3 k4
        clear k3
        go_wp2_with (first
          | (refine wpList_load_midG (by rfl) 29 (.tmp 22) rfl S 2 rfl (bvals (seg r 2 8)) _ K3.out Tryz.underlying29 rfl HB.out ?_)
          | (go_at_call 78; refine (CZ.out _).mono ?_; rintro e w1 ⟨rfl, hb⟩; have hS1 := hb.block S NC.out; replace BC : Hid (Below S w w1) := Lib.hid (BC.out.trans (hb.mono (Nat.le_of_lt NC.out))); replace NC : Hid (S < w1.heap.size) := Lib.hid (Nat.lt_of_lt_of_le NC.out hb.size); replace RC : Hid (w1.rangeAt S 0 (vals fwdS r)) := Lib.hid (range_keep1 RC.out hS1); clear hb hS1 k0 k1 K3 k4; obtain ⟨k0, k1, k3, k4⟩ := fwd_at RC.out HL.out; have K3 := Lib.hid k3; simp only [Nat.zero_add] at k1 K3 k4; clear k3)
          | fail)
        go_ret
        exact ⟨rfl, by rw [HS.out]; exact BC.out⟩
      · cases c4
        · go_enter Tryz.func79, Tryz.ntmps79
          obtain ⟨k0, k1, k3, k4⟩ := fwd_at RC.out HL.out
          have K3 := Lib.hid k3
          simp only [Nat.zero_add] at k1 K3 k4
          clear k3
          go_wp2_with (first
            | (refine wpList_load_midG (by rfl) 29 (.tmp 22) rfl S 2 rfl (bvals (seg r 2 8)) _ K3.out Tryz.underlying29 rfl HB.out ?_)
            | (go_at_call 78; refine (CZ.out _).mono ?_; rintro e w1 ⟨rfl, hb⟩; have hS1 := hb.block S NC.out; replace BC : Hid (Below S w w1) := Lib.hid (BC.out.trans (hb.mono (Nat.le_of_lt NC.out))); replace NC : Hid (S < w1.heap.size) := Lib.hid (Nat.lt_of_lt_of_le NC.out hb.size); replace RC : Hid (w1.rangeAt S 0 (vals fwdS r)) := Lib.hid (range_keep1 RC.out hS1); clear hb hS1 k0 k1 K3 k4; obtain ⟨k0, k1, k3, k4⟩ := fwd_at RC.out HL.out; have K3 := Lib.hid k3; simp only [Nat.zero_add] at k1 K3 k4; clear k3)
            | fail)
          go_ret
          exact ⟨rfl, by rw [HS.out]; exact BC.out⟩
        · cases cz
          · go_enter Tryz.func79, Tryz.ntmps79
            obtain ⟨k0, k1, k3, k4⟩ := fwd_at RC.out HL.out
            have K3 := Lib.hid k3
            simp only [Nat.zero_add] at k1 K3 k4
            clear k3
            go_wp2_with (first
              | (refine wpList_load_midG (by rfl) 29 (.tmp 22) rfl S 2 rfl (bvals (seg r 2 8)) _ K3.out Tryz.underlying29 rfl HB.out ?_)
              | (go_at_call 78; refine (CZ.out _).mono ?_; rintro e w1 ⟨rfl, hb⟩; have hS1 := hb.block S NC.out; replace BC : Hid (Below S w w1) := Lib.hid (BC.out.trans (hb.mono (Nat.le_of_lt NC.out))); replace NC : Hid (S < w1.heap.size) := Lib.hid (Nat.lt_of_lt_of_le NC.out hb.size); replace RC : Hid (w1.rangeAt S 0 (vals fwdS r)) := Lib.hid (range_keep1 RC.out hS1); clear hb hS1 k0 k1 K3 k4; obtain ⟨k0, k1, k3, k4⟩ := fwd_at RC.out HL.out; have K3 := Lib.hid k3; simp only [Nat.zero_add] at k1 K3 k4; clear k3)
              | fail)
            go_ret
            exact ⟨rfl, by rw [HS.out]; exact BC.out⟩
          · cases c5
            · go_enter Tryz.func79, Tryz.ntmps79
              obtain ⟨k0, k1, k3, k4⟩ := fwd_at RC.out HL.out
              have K3 := Lib.hid k3
              simp only [Nat.zero_add] at k1 K3 k4
              clear k3
              go_wp2_with (first
                | (refine wpList_load_midG (by rfl) 29 (.tmp 22) rfl S 2 rfl (bvals (seg r 2 8)) _ K3.out Tryz.underlying29 rfl HB.out ?_)
                | (go_at_call 78; refine (CZ.out _).mono ?_; rintro e w1 ⟨rfl, hb⟩; have hS1 := hb.block S NC.out; replace BC : Hid (Below S w w1) := Lib.hid (BC.out.trans (hb.mono (Nat.le_of_lt NC.out))); replace NC : Hid (S < w1.heap.size) := Lib.hid (Nat.lt_of_lt_of_le NC.out hb.size); replace RC : Hid (w1.rangeAt S 0 (vals fwdS r)) := Lib.hid (range_keep1 RC.out hS1); clear hb hS1 k0 k1 K3 k4; obtain ⟨k0, k1, k3, k4⟩ := fwd_at RC.out HL.out; have K3 := Lib.hid k3; simp only [Nat.zero_add] at k1 K3 k4; clear k3)
                | fail)
              go_ret
              exact ⟨rfl, by rw [HS.out]; exact BC.out⟩
            · cases c6
              · go_enter Tryz.func79, Tryz.ntmps79
                obtain ⟨k0, k1, k3, k4⟩ := fwd_at RC.out HL.out
                have K3 := Lib.hid k3
                simp only [Nat.zero_add] at k1 K3 k4
                clear k3
                go_wp2_with (first
                  | (refine wpList_load_midG (by rfl) 29 (.tmp 22) rfl S 2 rfl (bvals (seg r 2 8)) _ K3.out Tryz.underlying29 rfl HB.out ?_)
                  | (go_at_call 78; refine (CZ.out _).mono ?_; rintro e w1 ⟨rfl, hb⟩; have hS1 := hb.block S NC.out; replace BC : Hid (Below S w w1) := Lib.hid (BC.out.trans (hb.mono (Nat.le_of_lt NC.out))); replace NC : Hid (S < w1.heap.size) := Lib.hid (Nat.lt_of_lt_of_le NC.out hb.size); replace RC : Hid (w1.rangeAt S 0 (vals fwdS r)) := Lib.hid (range_keep1 RC.out hS1); clear hb hS1 k0 k1 K3 k4; obtain ⟨k0, k1, k3, k4⟩ := fwd_at RC.out HL.out; have K3 := Lib.hid k3; simp only [Nat.zero_add] at k1 K3 k4; clear k3)
                  | fail)
                go_ret
                exact ⟨rfl, by rw [HS.out]; exact BC.out⟩
              · go_enter Tryz.func79, Tryz.ntmps79
                obtain ⟨k0, k1, k3, k4⟩ := fwd_at RC.out HL.out
                have K3 := Lib.hid k3
                simp only [Nat.zero_add] at k1 K3 k4
                clear k3
                go_wp2_with (first
                  | (refine wpList_load_midG (by rfl) 29 (.tmp 22) rfl S 2 rfl (bvals (seg r 2 8)) _ K3.out Tryz.underlying29 rfl HB.out ?_)
                  | (go_at_call 78; refine (CZ.out _).mono ?_; rintro e w1 ⟨rfl, hb⟩; have hS1 := hb.block S NC.out; replace BC : Hid (Below S w w1) := Lib.hid (BC.out.trans (hb.mono (Nat.le_of_lt NC.out))); replace NC : Hid (S < w1.heap.size) := Lib.hid (Nat.lt_of_lt_of_le NC.out hb.size); replace RC : Hid (w1.rangeAt S 0 (vals fwdS r)) := Lib.hid (range_keep1 RC.out hS1); clear hb hS1 k0 k1 K3 k4; obtain ⟨k0, k1, k3, k4⟩ := fwd_at RC.out HL.out; have K3 := Lib.hid k3; simp only [Nat.zero_add] at k1 K3 k4; clear k3)
                  | fail)
                go_ret
                exact ⟨rfl, by rw [HS.out]; exact BC.out⟩
set_option maxHeartbeats 8000000 in
theorem dCla (r : List Int) (w : World) (hl : r.length = 140) :
    Calls Tryz.prog 48 #[.agg (vals claS r).toArray] w fun e w' => e = .returned (.bool (mCla r)) ∧ Below w.heap.size w w' := by
  obtain ⟨c1, hc1⟩ : ∃ c, decide (0 ≤ cel r 0) = c := ⟨_, rfl⟩
  obtain ⟨c2, hc2⟩ : ∃ c, decide (cel r 0 < 8) = c := ⟨_, rfl⟩
  obtain ⟨c3, hc3⟩ : ∃ c, decide (0 ≤ cel r 1) = c := ⟨_, rfl⟩
  obtain ⟨c4, hc4⟩ : ∃ c, decide (cel r 1 < 65536) = c := ⟨_, rfl⟩
  obtain ⟨cz, hcz⟩ : ∃ c, (!decide (seg r 2 8 = zeros 8)) = c := ⟨_, rfl⟩
  obtain ⟨c5, hc5⟩ : ∃ c, decide (1 ≤ cel r 10) = c := ⟨_, rfl⟩
  obtain ⟨c6, hc6⟩ : ∃ c, decide (cel r 10 ≤ 1125899906842624) = c := ⟨_, rfl⟩
  obtain ⟨c7, hc7⟩ : ∃ c, decide (0 ≤ cel r 11) = c := ⟨_, rfl⟩
  obtain ⟨c8, hc8⟩ : ∃ c, decide (cel r 11 ≤ 255) = c := ⟨_, rfl⟩
  have hmm : mCla r = (c1 && (c2 && (c3 && (c4 && (cz && (c5 && (c6 && (c7 && c8)))))))) := by
    rw [← hc1, ← hc2, ← hc3, ← hc4, ← hcz, ← hc5, ← hc6, ← hc7, ← hc8]
    unfold mCla mHave mPlc win
    by_cases hz : seg r 2 8 = zeros 8
    · rw [decide_eq_true hz]; simp
    · rw [decide_eq_false hz, Bool.eq_iff_iff]
      simp only [Bool.not_false, Bool.true_and, Bool.and_eq_true, decide_eq_true_eq]
      omega
  rw [hmm]
  have CZ : Hid (∀ w', Calls Tryz.prog 78 #[.agg (bvals (seg r 2 8)).toArray] w' fun e w'' => e = .returned (.bool (!cz)) ∧ Below w'.heap.size w' w'') := fun w' => by
    have := dZero (seg r 2 8) w' (seg_len (by omega))
    rw [show decide (seg r 2 8 = zeros 8) = !cz by rw [← hcz, Bool.not_not]] at this
    exact this
  have HB : Hid ((Tryz.prog.info? 29).map (·.size) = some (bvals (seg r 2 8)).length) := bv8 (seg_len (by omega))
  have HL := Lib.hid hl
  obtain ⟨S, hS⟩ : ∃ S, w.heap.size = S := ⟨_, rfl⟩
  have HS := Lib.hid hS
  have RC : Hid ((w.alloc (Obj.cells (vals claS r).toArray 37)).rangeAt S 0 (vals claS r)) := by rw [← hS]; exact range_new w _ _
  have BC : Hid (Below S w (w.alloc (Obj.cells (vals claS r).toArray 37))) := by rw [← hS]; exact (Below.refl _ w).alloc (Nat.le_refl _) _
  have NC : Hid (S < (w.alloc (Obj.cells (vals claS r).toArray 37)).heap.size) := by show S < _; simp; omega
  clear hmm hl hcz
  cases c1
  · go_enter Tryz.func48, Tryz.ntmps48
    obtain ⟨k0, k1, k3, k4, k5, _⟩ := cla_at RC.out HL.out
    have K3 := Lib.hid k3
    simp only [Nat.zero_add] at k1 K3 k4 k5
    clear k3
    go_wp2_with (first
      | (refine wpList_load_midG (by rfl) 29 (.tmp 23) rfl S 2 rfl (bvals (seg r 2 8)) _ K3.out Tryz.underlying29 rfl HB.out ?_)
      | (go_at_call 78; refine (CZ.out _).mono ?_; rintro e w1 ⟨rfl, hb⟩; have hS1 := hb.block S NC.out; replace BC : Hid (Below S w w1) := Lib.hid (BC.out.trans (hb.mono (Nat.le_of_lt NC.out))); replace NC : Hid (S < w1.heap.size) := Lib.hid (Nat.lt_of_lt_of_le NC.out hb.size); replace RC : Hid (w1.rangeAt S 0 (vals claS r)) := Lib.hid (range_keep1 RC.out hS1); clear hb hS1 k0 k1 K3 k4 k5; obtain ⟨k0, k1, k3, k4, k5, _⟩ := cla_at RC.out HL.out; have K3 := Lib.hid k3; simp only [Nat.zero_add] at k1 K3 k4 k5; clear k3)
      | fail)
    go_ret
    exact ⟨rfl, by rw [HS.out]; exact BC.out⟩
  · cases c2
    · go_enter Tryz.func48, Tryz.ntmps48
      obtain ⟨k0, k1, k3, k4, k5, _⟩ := cla_at RC.out HL.out
      have K3 := Lib.hid k3
      simp only [Nat.zero_add] at k1 K3 k4 k5
      clear k3
      go_wp2_with (first
        | (refine wpList_load_midG (by rfl) 29 (.tmp 23) rfl S 2 rfl (bvals (seg r 2 8)) _ K3.out Tryz.underlying29 rfl HB.out ?_)
        | (go_at_call 78; refine (CZ.out _).mono ?_; rintro e w1 ⟨rfl, hb⟩; have hS1 := hb.block S NC.out; replace BC : Hid (Below S w w1) := Lib.hid (BC.out.trans (hb.mono (Nat.le_of_lt NC.out))); replace NC : Hid (S < w1.heap.size) := Lib.hid (Nat.lt_of_lt_of_le NC.out hb.size); replace RC : Hid (w1.rangeAt S 0 (vals claS r)) := Lib.hid (range_keep1 RC.out hS1); clear hb hS1 k0 k1 K3 k4 k5; obtain ⟨k0, k1, k3, k4, k5, _⟩ := cla_at RC.out HL.out; have K3 := Lib.hid k3; simp only [Nat.zero_add] at k1 K3 k4 k5; clear k3)
        | fail)
      go_ret
      exact ⟨rfl, by rw [HS.out]; exact BC.out⟩
    · cases c3
      · go_enter Tryz.func48, Tryz.ntmps48
        obtain ⟨k0, k1, k3, k4, k5, _⟩ := cla_at RC.out HL.out
        have K3 := Lib.hid k3
        simp only [Nat.zero_add] at k1 K3 k4 k5
        clear k3
        go_wp2_with (first
          | (refine wpList_load_midG (by rfl) 29 (.tmp 23) rfl S 2 rfl (bvals (seg r 2 8)) _ K3.out Tryz.underlying29 rfl HB.out ?_)
          | (go_at_call 78; refine (CZ.out _).mono ?_; rintro e w1 ⟨rfl, hb⟩; have hS1 := hb.block S NC.out; replace BC : Hid (Below S w w1) := Lib.hid (BC.out.trans (hb.mono (Nat.le_of_lt NC.out))); replace NC : Hid (S < w1.heap.size) := Lib.hid (Nat.lt_of_lt_of_le NC.out hb.size); replace RC : Hid (w1.rangeAt S 0 (vals claS r)) := Lib.hid (range_keep1 RC.out hS1); clear hb hS1 k0 k1 K3 k4 k5; obtain ⟨k0, k1, k3, k4, k5, _⟩ := cla_at RC.out HL.out; have K3 := Lib.hid k3; simp only [Nat.zero_add] at k1 K3 k4 k5; clear k3)
          | fail)
        go_ret
        exact ⟨rfl, by rw [HS.out]; exact BC.out⟩
      · cases c4
        · go_enter Tryz.func48, Tryz.ntmps48
          obtain ⟨k0, k1, k3, k4, k5, _⟩ := cla_at RC.out HL.out
          have K3 := Lib.hid k3
          simp only [Nat.zero_add] at k1 K3 k4 k5
          clear k3
          go_wp2_with (first
            | (refine wpList_load_midG (by rfl) 29 (.tmp 23) rfl S 2 rfl (bvals (seg r 2 8)) _ K3.out Tryz.underlying29 rfl HB.out ?_)
            | (go_at_call 78; refine (CZ.out _).mono ?_; rintro e w1 ⟨rfl, hb⟩; have hS1 := hb.block S NC.out; replace BC : Hid (Below S w w1) := Lib.hid (BC.out.trans (hb.mono (Nat.le_of_lt NC.out))); replace NC : Hid (S < w1.heap.size) := Lib.hid (Nat.lt_of_lt_of_le NC.out hb.size); replace RC : Hid (w1.rangeAt S 0 (vals claS r)) := Lib.hid (range_keep1 RC.out hS1); clear hb hS1 k0 k1 K3 k4 k5; obtain ⟨k0, k1, k3, k4, k5, _⟩ := cla_at RC.out HL.out; have K3 := Lib.hid k3; simp only [Nat.zero_add] at k1 K3 k4 k5; clear k3)
            | fail)
          go_ret
          exact ⟨rfl, by rw [HS.out]; exact BC.out⟩
        · cases cz
          · go_enter Tryz.func48, Tryz.ntmps48
            obtain ⟨k0, k1, k3, k4, k5, _⟩ := cla_at RC.out HL.out
            have K3 := Lib.hid k3
            simp only [Nat.zero_add] at k1 K3 k4 k5
            clear k3
            go_wp2_with (first
              | (refine wpList_load_midG (by rfl) 29 (.tmp 23) rfl S 2 rfl (bvals (seg r 2 8)) _ K3.out Tryz.underlying29 rfl HB.out ?_)
              | (go_at_call 78; refine (CZ.out _).mono ?_; rintro e w1 ⟨rfl, hb⟩; have hS1 := hb.block S NC.out; replace BC : Hid (Below S w w1) := Lib.hid (BC.out.trans (hb.mono (Nat.le_of_lt NC.out))); replace NC : Hid (S < w1.heap.size) := Lib.hid (Nat.lt_of_lt_of_le NC.out hb.size); replace RC : Hid (w1.rangeAt S 0 (vals claS r)) := Lib.hid (range_keep1 RC.out hS1); clear hb hS1 k0 k1 K3 k4 k5; obtain ⟨k0, k1, k3, k4, k5, _⟩ := cla_at RC.out HL.out; have K3 := Lib.hid k3; simp only [Nat.zero_add] at k1 K3 k4 k5; clear k3)
              | fail)
            go_ret
            exact ⟨rfl, by rw [HS.out]; exact BC.out⟩
          · cases c5
            · go_enter Tryz.func48, Tryz.ntmps48
              obtain ⟨k0, k1, k3, k4, k5, _⟩ := cla_at RC.out HL.out
              have K3 := Lib.hid k3
              simp only [Nat.zero_add] at k1 K3 k4 k5
              clear k3
              go_wp2_with (first
                | (refine wpList_load_midG (by rfl) 29 (.tmp 23) rfl S 2 rfl (bvals (seg r 2 8)) _ K3.out Tryz.underlying29 rfl HB.out ?_)
                | (go_at_call 78; refine (CZ.out _).mono ?_; rintro e w1 ⟨rfl, hb⟩; have hS1 := hb.block S NC.out; replace BC : Hid (Below S w w1) := Lib.hid (BC.out.trans (hb.mono (Nat.le_of_lt NC.out))); replace NC : Hid (S < w1.heap.size) := Lib.hid (Nat.lt_of_lt_of_le NC.out hb.size); replace RC : Hid (w1.rangeAt S 0 (vals claS r)) := Lib.hid (range_keep1 RC.out hS1); clear hb hS1 k0 k1 K3 k4 k5; obtain ⟨k0, k1, k3, k4, k5, _⟩ := cla_at RC.out HL.out; have K3 := Lib.hid k3; simp only [Nat.zero_add] at k1 K3 k4 k5; clear k3)
                | fail)
              go_ret
              exact ⟨rfl, by rw [HS.out]; exact BC.out⟩
            · cases c6
              · go_enter Tryz.func48, Tryz.ntmps48
                obtain ⟨k0, k1, k3, k4, k5, _⟩ := cla_at RC.out HL.out
                have K3 := Lib.hid k3
                simp only [Nat.zero_add] at k1 K3 k4 k5
                clear k3
                go_wp2_with (first
                  | (refine wpList_load_midG (by rfl) 29 (.tmp 23) rfl S 2 rfl (bvals (seg r 2 8)) _ K3.out Tryz.underlying29 rfl HB.out ?_)
                  | (go_at_call 78; refine (CZ.out _).mono ?_; rintro e w1 ⟨rfl, hb⟩; have hS1 := hb.block S NC.out; replace BC : Hid (Below S w w1) := Lib.hid (BC.out.trans (hb.mono (Nat.le_of_lt NC.out))); replace NC : Hid (S < w1.heap.size) := Lib.hid (Nat.lt_of_lt_of_le NC.out hb.size); replace RC : Hid (w1.rangeAt S 0 (vals claS r)) := Lib.hid (range_keep1 RC.out hS1); clear hb hS1 k0 k1 K3 k4 k5; obtain ⟨k0, k1, k3, k4, k5, _⟩ := cla_at RC.out HL.out; have K3 := Lib.hid k3; simp only [Nat.zero_add] at k1 K3 k4 k5; clear k3)
                  | fail)
                go_ret
                exact ⟨rfl, by rw [HS.out]; exact BC.out⟩
              · cases c7
                · go_enter Tryz.func48, Tryz.ntmps48
                  obtain ⟨k0, k1, k3, k4, k5, _⟩ := cla_at RC.out HL.out
                  have K3 := Lib.hid k3
                  simp only [Nat.zero_add] at k1 K3 k4 k5
                  clear k3
                  go_wp2_with (first
                    | (refine wpList_load_midG (by rfl) 29 (.tmp 23) rfl S 2 rfl (bvals (seg r 2 8)) _ K3.out Tryz.underlying29 rfl HB.out ?_)
                    | (go_at_call 78; refine (CZ.out _).mono ?_; rintro e w1 ⟨rfl, hb⟩; have hS1 := hb.block S NC.out; replace BC : Hid (Below S w w1) := Lib.hid (BC.out.trans (hb.mono (Nat.le_of_lt NC.out))); replace NC : Hid (S < w1.heap.size) := Lib.hid (Nat.lt_of_lt_of_le NC.out hb.size); replace RC : Hid (w1.rangeAt S 0 (vals claS r)) := Lib.hid (range_keep1 RC.out hS1); clear hb hS1 k0 k1 K3 k4 k5; obtain ⟨k0, k1, k3, k4, k5, _⟩ := cla_at RC.out HL.out; have K3 := Lib.hid k3; simp only [Nat.zero_add] at k1 K3 k4 k5; clear k3)
                    | fail)
                  go_ret
                  exact ⟨rfl, by rw [HS.out]; exact BC.out⟩
                · cases c8
                  · go_enter Tryz.func48, Tryz.ntmps48
                    obtain ⟨k0, k1, k3, k4, k5, _⟩ := cla_at RC.out HL.out
                    have K3 := Lib.hid k3
                    simp only [Nat.zero_add] at k1 K3 k4 k5
                    clear k3
                    go_wp2_with (first
                      | (refine wpList_load_midG (by rfl) 29 (.tmp 23) rfl S 2 rfl (bvals (seg r 2 8)) _ K3.out Tryz.underlying29 rfl HB.out ?_)
                      | (go_at_call 78; refine (CZ.out _).mono ?_; rintro e w1 ⟨rfl, hb⟩; have hS1 := hb.block S NC.out; replace BC : Hid (Below S w w1) := Lib.hid (BC.out.trans (hb.mono (Nat.le_of_lt NC.out))); replace NC : Hid (S < w1.heap.size) := Lib.hid (Nat.lt_of_lt_of_le NC.out hb.size); replace RC : Hid (w1.rangeAt S 0 (vals claS r)) := Lib.hid (range_keep1 RC.out hS1); clear hb hS1 k0 k1 K3 k4 k5; obtain ⟨k0, k1, k3, k4, k5, _⟩ := cla_at RC.out HL.out; have K3 := Lib.hid k3; simp only [Nat.zero_add] at k1 K3 k4 k5; clear k3)
                      | fail)
                    go_ret
                    exact ⟨rfl, by rw [HS.out]; exact BC.out⟩
                  · go_enter Tryz.func48, Tryz.ntmps48
                    obtain ⟨k0, k1, k3, k4, k5, _⟩ := cla_at RC.out HL.out
                    have K3 := Lib.hid k3
                    simp only [Nat.zero_add] at k1 K3 k4 k5
                    clear k3
                    go_wp2_with (first
                      | (refine wpList_load_midG (by rfl) 29 (.tmp 23) rfl S 2 rfl (bvals (seg r 2 8)) _ K3.out Tryz.underlying29 rfl HB.out ?_)
                      | (go_at_call 78; refine (CZ.out _).mono ?_; rintro e w1 ⟨rfl, hb⟩; have hS1 := hb.block S NC.out; replace BC : Hid (Below S w w1) := Lib.hid (BC.out.trans (hb.mono (Nat.le_of_lt NC.out))); replace NC : Hid (S < w1.heap.size) := Lib.hid (Nat.lt_of_lt_of_le NC.out hb.size); replace RC : Hid (w1.rangeAt S 0 (vals claS r)) := Lib.hid (range_keep1 RC.out hS1); clear hb hS1 k0 k1 K3 k4 k5; obtain ⟨k0, k1, k3, k4, k5, _⟩ := cla_at RC.out HL.out; have K3 := Lib.hid k3; simp only [Nat.zero_add] at k1 K3 k4 k5; clear k3)
                      | fail)
                    go_ret
                    exact ⟨rfl, by rw [HS.out]; exact BC.out⟩
end Go.Proofs.YtffaddefnpkcgaaGreatDoor
namespace Go.Proofs.YtffaddefnpkcgaaGreatDoor
open Go.RowKit
theorem want_of {o : Oper} {ops : Array Oper} {tmps : Array Value} {i : Nat} {b g : Bool} (ho : o.guard = some (i, b)) (hy : yielded ops tmps i = some g) : Region.wanted o (yielded ops tmps) = (g == b) := by
  simp only [Region.wanted, ho, hy]
  cases g <;> cases b <;> rfl
theorem want_t {o : Oper} {ops : Array Oper} {tmps : Array Value} {i : Nat} {g : Bool} (ho : o.guard = some (i, true)) (hy : yielded ops tmps i = some g) : Region.wanted o (yielded ops tmps) = g := by
  rw [want_of ho hy]; cases g <;> rfl
theorem wpList_g {P : Program} {ops : Array Oper} {rest : List Oper} {o : Oper} {a : Act} {w : World} {Q : Exit → Act → World → Prop} {g : Bool} {v : Value} (hw : Region.wanted o (yielded ops a.tmps) = g) (hr : g = true → (execOp a.eval o).run P w = .ok (.value v) w)
    (hK : wpList P ops Q rest (a.put o.dst (if g = true then v else undef)) w) : wpList P ops Q (o :: rest) a w := by
  unfold wpList
  cases g
  · rw [if_neg (by rw [hw]; decide)]
    exact hK
  · rw [if_pos hw]
    refine .inl ?_
    unfold Oper.wp
    rw [hr rfl]
    exact hK
theorem wpList_t {P : Program} {ops : Array Oper} {rest : List Oper} {o : Oper} {a : Act} {w : World} {Q : Exit → Act → World → Prop} {v : Value} (hw : Region.wanted o (yielded ops a.tmps) = true) (hr : (execOp a.eval o).run P w = .ok (.value v) w)
    (hK : wpList P ops Q rest (a.put o.dst v) w) : wpList P ops Q (o :: rest) a w := by
  unfold wpList
  rw [if_pos hw]
  refine .inl ?_
  unfold Oper.wp
  rw [hr]
  exact hK
theorem wpList_callG {P : Program} {ops : Array Oper} {rest : List Oper} {o : Oper} {a : Act} {w : World} {Q : Exit → Act → World → Prop} {g : Bool} {F : Nat} {args : Array Value} {v : Value} {R : World → Prop} (hw : Region.wanted o (yielded ops a.tmps) = g)
    (hrun : g = true → (execOp a.eval o).run P w = .ok (.enter F args) w) (hc : g = true → Calls P F args w fun e w' => e = .returned v ∧ R w') (h0 : g = false → R w)
    (hK : ∀ w', R w' → wpList P ops Q rest (a.put o.dst (if g = true then v else undef)) w') : wpList P ops Q (o :: rest) a w := by
  unfold wpList
  cases g
  · rw [if_neg (by rw [hw]; decide)]
    exact hK w (h0 rfl)
  · rw [if_pos hw]
    refine .inl ?_
    unfold Oper.wp
    rw [hrun rfl]
    refine (hc rfl).mono ?_
    rintro e w' ⟨rfl, hr⟩
    exact hK w' hr
end Go.Proofs.YtffaddefnpkcgaaGreatDoor
namespace Go.Proofs.YtffaddefnpkcgaaGreatDoor
open Go.RowKit
set_option maxRecDepth 100000
theorem step_al {w : World} {ops : Array Oper} {o : Oper} {a : Act} {K : Act → World → Prop} {Q : Exit → Act → World → Prop} {E : Prop} (hgd : o.guard = none) (T : TypeId) (z : Array Value) (ho : o.op = .alloc T) (hz : ∀ w, (zeroValue T).run Tryz.prog w = .ok (.agg z) w)
    (h : K (a.put o.dst (.pointer (some ⟨w.heap.size, 0, none⟩))) (w.alloc (Obj.cells z T))) : if Region.wanted o (yielded ops a.tmps) = true then Oper.wp Tryz.prog o a w K Q else E := by
  have hw : Region.wanted o (yielded ops a.tmps) = true := by simp [Region.wanted, hgd]
  rw [if_pos hw]
  unfold Oper.wp execOp
  simp [ho, go_sem, hz]
  exact h
theorem step_st {w : World} {ops : Array Oper} {o : Oper} {a : Act} {K : Act → World → Prop} {Q : Exit → Act → World → Prop} {E : Prop} (hgd : o.guard = none) (ty : TypeId) (x y : Operand) (ho : o.op = .store ty x y)
    (b : Nat) (old cs : List Value) (hx : a.eval x = .pointer (some ⟨b, 0, none⟩)) (hy : a.eval y = .agg cs.toArray) (hb : BL w b old ty) (hl : old.length = cs.length) (hi : (Tryz.prog.info? ty).map (·.size) = some cs.length) (h1 : ∀ v ∈ cs, v.oneCell' = true)
    (h : ∀ w', BL w' b cs ty → (∀ k, k ≠ b → w'.heap[k]? = w.heap[k]?) → (∀ B w0, Below B w0 w → B ≤ b → Below B w0 w') → K (a.put o.dst undef) w') : if Region.wanted o (yielded ops a.tmps) = true then Oper.wp Tryz.prog o a w K Q else E := by
  have hw : Region.wanted o (yielded ops a.tmps) = true := by simp [Region.wanted, hgd]
  rw [if_pos hw]
  refine wp_store_mid ty x y ho b 0 cs.toArray hx hy (by rw [List.size_toArray]; exact bl_there hb (by omega)) (by rw [List.size_toArray]; exact hi) (all_oneCell_toArray h1) ?_
  rw [List.toList_toArray]
  refine h _ ?_ (fun k hk => heap_sets cs w 0 k hk) fun B w0 hB hb => below_sets cs 0 hB hb
  have := bl_sets cs 0 hb (by omega)
  rw [List.take_zero, List.nil_append, List.drop_of_length_le (by omega), List.append_nil] at this
  exact this
theorem z27p (w : World) : (zeroValue 27).run Tryz.prog w = .ok (.agg (parC tx0 hd0).toArray) w := by kernel_rfl
theorem z32c (w : World) : (zeroValue 32).run Tryz.prog w = .ok (.agg (cerC tx0 hd0).toArray) w := by kernel_rfl
theorem par_zero {t : TxP} (h : t.par.length = 3) : decide (t.par = zeros 3) = (decide (cel t.par 0 = 0) && (decide (cel t.par 1 = 0) && decide (cel t.par 2 = 0))) := by
  rw [Bool.eq_iff_iff]
  simp only [Bool.and_eq_true, decide_eq_true_eq]
  rw [cel_ext (a := t.par) (b := zeros 3) (by rw [h]; rfl), h]
  constructor
  · intro g
    exact ⟨g 0 (by omega), g 1 (by omega), g 2 (by omega)⟩
  · rintro ⟨h0, h1, h2⟩ i hi
    match i, hi with
    | 0, _ => exact h0
    | 1, _ => exact h1
    | 2, _ => exact h2
theorem cel_zeros {n i : Nat} (h : i < n) : cel (zeros n) i = 0 := by simp [cel, zeros, List.getD, h]
theorem cer_zero {t : TxP} (h : t.cer.length = 19) : decide (t.cer = zeros 19) = (decide (cel t.cer 0 = 0) && (decide (cel t.cer 1 = 0) && (decide (cel t.cer 2 = 0) && (decide (seg t.cer 3 8 = zeros 8) && decide (seg t.cer 11 8 = zeros 8))))) := by
  rw [Bool.eq_iff_iff]
  simp only [Bool.and_eq_true, decide_eq_true_eq]
  have e8 : ∀ i, i + 8 ≤ 19 → (seg t.cer i 8 = zeros 8 ↔ ∀ j, j < 8 → cel t.cer (i + j) = 0) := fun i hi => by
    rw [cel_ext (by rw [seg_len (by omega), zeros_len]), seg_len (by omega)]
    constructor
    · intro g j hj
      have := g j hj
      rwa [cel_seg hj, cel_zeros hj] at this
    · intro g j hj
      rw [cel_seg hj, cel_zeros hj]
      exact g j hj
  rw [cel_ext (a := t.cer) (b := zeros 19) (by rw [h, zeros_len]), h, e8 3 (by omega), e8 11 (by omega)]
  constructor
  · intro g
    have g' : ∀ i, i < 19 → cel t.cer i = 0 := fun i hi => (g i hi).trans (cel_zeros hi)
    exact ⟨g' 0 (by omega), g' 1 (by omega), g' 2 (by omega), fun j hj => g' _ (by omega), fun j hj => g' _ (by omega)⟩
  · rintro ⟨h0, h1, h2, h3, h4⟩ i hi
    rw [cel_zeros hi]
    by_cases e0 : i = 0
    · subst e0; exact h0
    by_cases e1 : i = 1
    · subst e1; exact h1
    by_cases e2 : i = 2
    · subst e2; exact h2
    by_cases e3 : i < 11
    · have := h3 (i - 3) (by omega)
      rwa [show 3 + (i - 3) = i by omega] at this
    · have := h4 (i - 11) (by omega)
      rwa [show 11 + (i - 11) = i by omega] at this
theorem eq_claB (t : TxP) (h : t.cla.length = 140) (w : World) : (Op.equalIn 10000 37 (.agg (claC t).toArray) (.agg (claC tx0).toArray)).run Tryz.prog w = .ok (zL t) w := eq_cla t.cla (zeros 140) h (zeros_len 140) w
attribute [local irreducible] ua da ba kk sw S8.run rt hs comp splice outB sha msg zeros win bvals vals parC cerC claC txC cel seg zL
end Go.Proofs.YtffaddefnpkcgaaGreatDoor
namespace Go.Proofs.YtffaddefnpkcgaaGreatDoor
open Go.RowKit
set_option maxRecDepth 100000
attribute [local irreducible] ua da ba kk sw S8.run rt hs comp splice outB sha msg zeros win bvals vals mHave mPlc mLis mPts cel seg
set_option maxHeartbeats 8000000 in
theorem dOuts (A : Option Addr) (n cap : Nat) (rs : List (List Int)) (w : World) (hr : LRow outS w A rs) (hl : AllR outS rs) (hn : rs.length = n) (hc : n ≤ cap) (hm : cap ≤ maxLen) :
    Calls Tryz.prog 44 #[.slice A n cap] w fun e w' => e = .returned (.bool (mOuts rs)) ∧ Below w.heap.size w w' := by
  obtain ⟨N, hN⟩ : ∃ N, w.heap.size = N := ⟨_, rfl⟩
  have HR := Lib.hid hr
  have HL := Lib.hid hl
  have HNN := Lib.hid hn
  have HN := Lib.hid hN
  unfold maxLen at hm
  have hn63 : n ≤ 9223372036854775807 := by omega
  clear hr hl hn hN hm hc
  by_cases h16 : 16 < (n : Int)
  · have hf : mOuts rs = false := by
      unfold mOuts mLis
      rw [HNN.out, win_no2 h16, Bool.false_and]
    rw [hf]
    clear hf
    go_enter Tryz.func44, Tryz.ntmps44
    go_wp2
    go_ret
    exact ⟨rfl, Below.refl _ _⟩
  · have H16 : Hid (mOuts rs = rs.all mOut) := by
      show _ = _
      unfold mOuts mLis
      rw [HNN.out, win_yes (by omega) (by omega), Bool.true_and]
    go_enter Tryz.func44, Tryz.ntmps44
    go_wp2
    go_loopw [3] (fun i wr => ∃ k : Nat, k ≤ n ∧ i = .int .i64 k ∧ (∀ j, j < k → mOut (rcd rs j) = true) ∧ Below N w wr) (fun i _ => n - (intOf i).toNat)
    case atStart => exact ⟨0, Nat.zero_le _, rfl, fun j hj => by omega, Below.refl _ _⟩
    case round =>
      obtain ⟨k, hk, rfl, hj, hb⟩ := hrel
      have HJ := Lib.hid hj
      have BR := Lib.hid hb
      clear hj hb h16
      by_cases hlt : k < n
      · obtain ⟨b, o, rfl, hat⟩ := lrow_at HR.out (by have := HNN.out; omega)
        have s0 : (0 : Int) ≤ (k : Int) := by omega
        have s1 : (k : Int) < (n : Int) := by omega
        have hR := hat k (by have := HNN.out; omega)
        have hX := HL.out (rcd rs k) (by
          have hk' : k < rs.length := by rw [HNN.out]; exact hlt
          rw [rcd, List.getD_eq_getElem?_getD, List.getElem?_eq_getElem hk']
          exact List.getElem_mem hk')
        have HM : Hid (mOut (rcd rs k) = false → mOuts rs = false) := fun h => by
          rw [H16.out, ← Bool.not_eq_true, List.all_eq_true]
          intro g
          have hk' : k < rs.length := by rw [HNN.out]; exact hlt
          have := g (rcd rs k) (by
            rw [rcd, List.getD_eq_getElem?_getD, List.getElem?_eq_getElem hk']
            exact List.getElem_mem hk')
          rw [h] at this
          cases this
        obtain ⟨x, hx⟩ : ∃ x, rcd rs k = x := ⟨_, rfl⟩
        rw [hx] at hR hX HM
        have HX := Lib.hid hx
        have LX : Hid (x.length = 9) := okT_len hX
        obtain ⟨cz, hcz⟩ : ∃ c, decide (seg x 0 8 = zeros 8) = c := ⟨_, rfl⟩
        obtain ⟨d1, hd1⟩ : ∃ c, decide (cel x 8 < 1) = c := ⟨_, rfl⟩
        obtain ⟨d2, hd2⟩ : ∃ c, decide (1125899906842624 < cel x 8) = c := ⟨_, rfl⟩
        have hmx : mOut x = (!cz && (!d1 && !d2)) := by
          unfold mOut mHave win
          rw [hcz, ← hd1, ← hd2]
          congr 1
          rw [Bool.eq_iff_iff]
          simp only [Bool.and_eq_true, Bool.not_eq_true', decide_eq_true_eq, decide_eq_false_iff_not]
          omega
        rw [hmx] at HM
        have HMX := Lib.hid hmx
        have R1 : Hid (wr.rangeAt b (o + k * 9) (vals outS x)) := range_keep hR fun q hq => BR.out.block q (by rw [← HN.out]; exact hq)
        have HK := Lib.hid hlt
        have NR : Hid (N ≤ wr.heap.size) := by have := BR.out.size; rw [HN.out] at this; exact this
        have CZ : Hid (∀ w', Calls Tryz.prog 78 #[.agg (bvals (seg x 0 8)).toArray] w' fun e w'' => e = .returned (.bool cz) ∧ Below w'.heap.size w' w'') := fun w' => by
          have := dZero (seg x 0 8) w' (seg_len (by rw [LX.out]; decide))
          rw [hcz] at this
          exact this
        have HB : Hid ((Tryz.prog.info? 29).map (·.size) = some (bvals (seg x 0 8)).length) := bv8 (seg_len (by rw [LX.out]; decide))
        obtain ⟨k1, _⟩ := out_at R1.out LX.out
        have K1 := Lib.hid k1
        clear hat hR hX hx hcz hmx k1
        cases cz
        · cases d1
          · cases d2
            · go_wp2_with (first | (refine wpList_load_mid rfl 29 (.tmp 16) rfl b (o + k * 9) rfl (bvals (seg x 0 8)) _ K1.out Tryz.underlying29 rfl HB.out ?_) | (go_at_call 78; refine (CZ.out _).mono ?_; rintro e w1 ⟨rfl, hb⟩; have B2 : Hid (Below N w w1) := BR.out.trans (hb.mono NR.out); obtain ⟨_, k2⟩ := out_at (range_keep R1.out hb.block) LX.out; clear hb) | fail)
              go_roundw
              case rel => exact ⟨k + 1, HK.out, by go_num, fun j hj => by
                rcases Nat.lt_or_ge j k with h | h
                · exact HJ.out j h
                · obtain rfl : j = k := by omega
                  rw [HX.out, HMX.out]; rfl, B2.out⟩
              case measure => have := HK.out; simp [intOf]; omega
            · go_wp2_with (first | (refine wpList_load_mid rfl 29 (.tmp 16) rfl b (o + k * 9) rfl (bvals (seg x 0 8)) _ K1.out Tryz.underlying29 rfl HB.out ?_) | (go_at_call 78; refine (CZ.out _).mono ?_; rintro e w1 ⟨rfl, hb⟩; have B2 : Hid (Below N w w1) := BR.out.trans (hb.mono NR.out); obtain ⟨_, k2⟩ := out_at (range_keep R1.out hb.block) LX.out; clear hb) | fail)
              go_ret
              exact ⟨by rw [HM.out rfl] <;> rfl, by rw [HN.out]; exact B2.out⟩
          · go_wp2_with (first | (refine wpList_load_mid rfl 29 (.tmp 16) rfl b (o + k * 9) rfl (bvals (seg x 0 8)) _ K1.out Tryz.underlying29 rfl HB.out ?_) | (go_at_call 78; refine (CZ.out _).mono ?_; rintro e w1 ⟨rfl, hb⟩; have B2 : Hid (Below N w w1) := BR.out.trans (hb.mono NR.out); obtain ⟨_, k2⟩ := out_at (range_keep R1.out hb.block) LX.out; clear hb) | fail)
            go_ret
            exact ⟨by rw [HM.out rfl] <;> rfl, by rw [HN.out]; exact B2.out⟩
        · go_wp2_with (first | (refine wpList_load_mid rfl 29 (.tmp 16) rfl b (o + k * 9) rfl (bvals (seg x 0 8)) _ K1.out Tryz.underlying29 rfl HB.out ?_) | (go_at_call 78; refine (CZ.out _).mono ?_; rintro e w1 ⟨rfl, hb⟩; have B2 : Hid (Below N w w1) := BR.out.trans (hb.mono NR.out); obtain ⟨_, k2⟩ := out_at (range_keep R1.out hb.block) LX.out; clear hb) | fail)
          go_ret
          exact ⟨by rw [HM.out rfl] <;> rfl, by rw [HN.out]; exact B2.out⟩
      · obtain rfl : k = n := by omega
        have hf : mOuts rs = true := by
          rw [H16.out, List.all_eq_true]
          intro r hr
          obtain ⟨j, hj, rfl⟩ := List.getElem_of_mem hr
          have := HJ.out j (by rw [← HNN.out]; exact hj)
          rw [rcd, List.getD_eq_getElem?_getD, List.getElem?_eq_getElem hj] at this
          exact this
        have HF := Lib.hid hf
        clear hf
        go_wp2
        go_ret
        exact ⟨by rw [HF.out] <;> rfl, by rw [HN.out]; exact BR.out⟩
set_option maxHeartbeats 8000000 in
theorem dNoPar (t : TxP) (h : TxH) (w : World) (ht : WfT t) (_hm : Mem w t h) :
    Calls Tryz.prog 42 #[.agg (parC t h).toArray] w fun e w' => e = .returned (.bool (zP t)) ∧ Below w.heap.size w w' := by
  have HP : Hid (t.par.length = 3) := okT_len ht.par
  obtain ⟨n4, hn4⟩ : ∃ n, t.keys.length = n := ⟨_, rfl⟩
  have N4 := Lib.hid hn4
  obtain ⟨c1, hc1⟩ : ∃ c, decide (cel t.par 0 = 0) = c := ⟨_, rfl⟩
  obtain ⟨c2, hc2⟩ : ∃ c, decide (cel t.par 1 = 0) = c := ⟨_, rfl⟩
  obtain ⟨c3, hc3⟩ : ∃ c, decide (cel t.par 2 = 0) = c := ⟨_, rfl⟩
  obtain ⟨c4, hc4⟩ : ∃ c, decide (n4 = 0) = c := ⟨_, rfl⟩
  have hmm : zP t = (c1 && (c2 && (c3 && c4))) := by
    unfold zP
    rw [par_zero HP.out, hn4, hc1, hc2, hc3, hc4]
    simp only [Bool.and_assoc]
  rw [hmm]
  have ec1 : (cel t.par 0 == 0) = c1 := by rw [← hc1]; rfl
  have ec2 : (cel t.par 1 == 0) = c2 := by rw [← hc2]; rfl
  have ec3 : (cel t.par 2 == 0) = c3 := by rw [← hc3]; rfl
  have ec4 : ((n4 : Int) == 0) = c4 := by rw [← hc4, Bool.eq_iff_iff]; simp
  obtain ⟨S, hS⟩ : ∃ S, w.heap.size = S := ⟨_, rfl⟩
  have HS := Lib.hid hS
  have RC : Hid ((w.alloc (Obj.cells (parC t h).toArray 27)).rangeAt S 0 (parC t h)) := by rw [← hS]; exact range_new w _ _
  have BC : Hid (Below S w (w.alloc (Obj.cells (parC t h).toArray 27))) := by rw [← hS]; exact (Below.refl _ w).alloc (Nat.le_refl _) _
  have NC : Hid (S < (w.alloc (Obj.cells (parC t h).toArray 27)).heap.size) := by show S < _; simp; omega
  clear hmm ht NC hn4
  cases c1
  · go_enter Tryz.func42, Tryz.ntmps42
    obtain ⟨p0, p1, p2, p3⟩ := par_at RC.out HP.out
    simp only [Nat.zero_add] at p1 p2 p3
    rw [N4.out] at p3
    go_wp2_with (first
      | fail)
    go_ret
    exact ⟨rfl, by rw [HS.out]; exact BC.out⟩
  · cases c2
    · go_enter Tryz.func42, Tryz.ntmps42
      obtain ⟨p0, p1, p2, p3⟩ := par_at RC.out HP.out
      simp only [Nat.zero_add] at p1 p2 p3
      rw [N4.out] at p3
      go_wp2_with (first
        | fail)
      go_ret
      exact ⟨rfl, by rw [HS.out]; exact BC.out⟩
    · cases c3
      · go_enter Tryz.func42, Tryz.ntmps42
        obtain ⟨p0, p1, p2, p3⟩ := par_at RC.out HP.out
        simp only [Nat.zero_add] at p1 p2 p3
        rw [N4.out] at p3
        go_wp2_with (first
          | fail)
        go_ret
        exact ⟨rfl, by rw [HS.out]; exact BC.out⟩
      · cases c4
        · go_enter Tryz.func42, Tryz.ntmps42
          obtain ⟨p0, p1, p2, p3⟩ := par_at RC.out HP.out
          simp only [Nat.zero_add] at p1 p2 p3
          rw [N4.out] at p3
          go_wp2_with (first
            | fail)
          go_ret
          exact ⟨rfl, by rw [HS.out]; exact BC.out⟩
        · go_enter Tryz.func42, Tryz.ntmps42
          obtain ⟨p0, p1, p2, p3⟩ := par_at RC.out HP.out
          simp only [Nat.zero_add] at p1 p2 p3
          rw [N4.out] at p3
          go_wp2_with (first
            | fail)
          go_ret
          exact ⟨rfl, by rw [HS.out]; exact BC.out⟩
set_option maxHeartbeats 8000000 in
theorem dNoCer (t : TxP) (h : TxH) (w : World) (ht : WfT t) (_hm : Mem w t h) :
    Calls Tryz.prog 43 #[.agg (cerC t h).toArray] w fun e w' => e = .returned (.bool (zC t)) ∧ Below w.heap.size w w' := by
  have HL : Hid (t.cer.length = 19) := okT_len ht.cer
  obtain ⟨n6, hn6⟩ : ∃ n, t.couts.length = n := ⟨_, rfl⟩
  have N6 := Lib.hid hn6
  obtain ⟨n7, hn7⟩ : ∃ n, t.csigs.length = n := ⟨_, rfl⟩
  have N7 := Lib.hid hn7
  have E1 := fun w => eqhL (seg t.cer 3 8) (zeros 8) w (seg_len (by rw [HL.out]; decide)) (zeros_len 8)
  have E2 := fun w => eqhL (seg t.cer 11 8) (zeros 8) w (seg_len (by rw [HL.out]; decide)) (zeros_len 8)
  rw [ba8] at E1 E2
  have HB1 : Hid ((Tryz.prog.info? 29).map (·.size) = some (bvals (seg t.cer 3 8)).length) := bv8 (seg_len (by rw [HL.out]; decide))
  have HB2 : Hid ((Tryz.prog.info? 29).map (·.size) = some (bvals (seg t.cer 11 8)).length) := bv8 (seg_len (by rw [HL.out]; decide))
  obtain ⟨c1, hc1⟩ : ∃ c, decide (cel t.cer 0 = 0) = c := ⟨_, rfl⟩
  obtain ⟨c2, hc2⟩ : ∃ c, decide (cel t.cer 1 = 0) = c := ⟨_, rfl⟩
  obtain ⟨c3, hc3⟩ : ∃ c, decide (cel t.cer 2 = 0) = c := ⟨_, rfl⟩
  obtain ⟨c4, hc4⟩ : ∃ c, decide (seg t.cer 3 8 = zeros 8) = c := ⟨_, rfl⟩
  obtain ⟨c5, hc5⟩ : ∃ c, decide (seg t.cer 11 8 = zeros 8) = c := ⟨_, rfl⟩
  obtain ⟨c6, hc6⟩ : ∃ c, decide (n6 = 0) = c := ⟨_, rfl⟩
  obtain ⟨c7, hc7⟩ : ∃ c, decide (n7 = 0) = c := ⟨_, rfl⟩
  have hmm : zC t = (c1 && (c2 && (c3 && (c4 && (c5 && (c6 && c7)))))) := by
    unfold zC
    rw [cer_zero HL.out, hn6, hn7, hc1, hc2, hc3, hc4, hc5, hc6, hc7]
    simp only [Bool.and_assoc]
  rw [hmm]
  rw [hc4] at E1
  rw [hc5] at E2
  unfold ba at E1 E2
  have ec1 : (cel t.cer 0 == 0) = c1 := by rw [← hc1]; rfl
  have ec2 : (cel t.cer 1 == 0) = c2 := by rw [← hc2]; rfl
  have ec3 : (cel t.cer 2 == 0) = c3 := by rw [← hc3]; rfl
  have ec6 : ((n6 : Int) == 0) = c6 := by rw [← hc6, Bool.eq_iff_iff]; simp
  have ec7 : ((n7 : Int) == 0) = c7 := by rw [← hc7, Bool.eq_iff_iff]; simp
  obtain ⟨S, hS⟩ : ∃ S, w.heap.size = S := ⟨_, rfl⟩
  have HS := Lib.hid hS
  have RC : Hid ((w.alloc (Obj.cells (cerC t h).toArray 32)).rangeAt S 0 (cerC t h)) := by rw [← hS]; exact range_new w _ _
  have BC : Hid (Below S w (w.alloc (Obj.cells (cerC t h).toArray 32))) := by rw [← hS]; exact (Below.refl _ w).alloc (Nat.le_refl _) _
  have NC : Hid (S < (w.alloc (Obj.cells (cerC t h).toArray 32)).heap.size) := by show S < _; simp; omega
  clear hmm ht NC hn6 hn7 hc4 hc5
  cases c1
  · go_enter Tryz.func43, Tryz.ntmps43
    obtain ⟨q0, q1, q2, qe, qr, qo, qs⟩ := cer_at RC.out HL.out
    simp only [Nat.zero_add] at q1 q2 qe qr qo qs
    rw [N6.out] at qo
    rw [N7.out] at qs
    have QE := Lib.hid qe
    have QR := Lib.hid qr
    clear qe qr
    go_wp2_with (first
      | (refine wpList_load_midG (by rfl) 29 (.tmp 17) rfl S 3 rfl (bvals (seg t.cer 3 8)) _ QE.out Tryz.underlying29 rfl HB1.out ?_)
      | (refine wpList_load_midG (by rfl) 29 (.tmp 23) rfl S 11 rfl (bvals (seg t.cer 11 8)) _ QR.out Tryz.underlying29 rfl HB2.out ?_)
      | fail)
    go_ret
    exact ⟨rfl, by rw [HS.out]; exact BC.out⟩
  · cases c2
    · go_enter Tryz.func43, Tryz.ntmps43
      obtain ⟨q0, q1, q2, qe, qr, qo, qs⟩ := cer_at RC.out HL.out
      simp only [Nat.zero_add] at q1 q2 qe qr qo qs
      rw [N6.out] at qo
      rw [N7.out] at qs
      have QE := Lib.hid qe
      have QR := Lib.hid qr
      clear qe qr
      go_wp2_with (first
        | (refine wpList_load_midG (by rfl) 29 (.tmp 17) rfl S 3 rfl (bvals (seg t.cer 3 8)) _ QE.out Tryz.underlying29 rfl HB1.out ?_)
        | (refine wpList_load_midG (by rfl) 29 (.tmp 23) rfl S 11 rfl (bvals (seg t.cer 11 8)) _ QR.out Tryz.underlying29 rfl HB2.out ?_)
        | fail)
      go_ret
      exact ⟨rfl, by rw [HS.out]; exact BC.out⟩
    · cases c3
      · go_enter Tryz.func43, Tryz.ntmps43
        obtain ⟨q0, q1, q2, qe, qr, qo, qs⟩ := cer_at RC.out HL.out
        simp only [Nat.zero_add] at q1 q2 qe qr qo qs
        rw [N6.out] at qo
        rw [N7.out] at qs
        have QE := Lib.hid qe
        have QR := Lib.hid qr
        clear qe qr
        go_wp2_with (first
          | (refine wpList_load_midG (by rfl) 29 (.tmp 17) rfl S 3 rfl (bvals (seg t.cer 3 8)) _ QE.out Tryz.underlying29 rfl HB1.out ?_)
          | (refine wpList_load_midG (by rfl) 29 (.tmp 23) rfl S 11 rfl (bvals (seg t.cer 11 8)) _ QR.out Tryz.underlying29 rfl HB2.out ?_)
          | fail)
        go_ret
        exact ⟨rfl, by rw [HS.out]; exact BC.out⟩
      · cases c4
        · go_enter Tryz.func43, Tryz.ntmps43
          obtain ⟨q0, q1, q2, qe, qr, qo, qs⟩ := cer_at RC.out HL.out
          simp only [Nat.zero_add] at q1 q2 qe qr qo qs
          rw [N6.out] at qo
          rw [N7.out] at qs
          have QE := Lib.hid qe
          have QR := Lib.hid qr
          clear qe qr
          go_wp2_with (first
            | (refine wpList_load_midG (by rfl) 29 (.tmp 17) rfl S 3 rfl (bvals (seg t.cer 3 8)) _ QE.out Tryz.underlying29 rfl HB1.out ?_)
            | (refine wpList_load_midG (by rfl) 29 (.tmp 23) rfl S 11 rfl (bvals (seg t.cer 11 8)) _ QR.out Tryz.underlying29 rfl HB2.out ?_)
            | fail)
          go_ret
          exact ⟨rfl, by rw [HS.out]; exact BC.out⟩
        · cases c5
          · go_enter Tryz.func43, Tryz.ntmps43
            obtain ⟨q0, q1, q2, qe, qr, qo, qs⟩ := cer_at RC.out HL.out
            simp only [Nat.zero_add] at q1 q2 qe qr qo qs
            rw [N6.out] at qo
            rw [N7.out] at qs
            have QE := Lib.hid qe
            have QR := Lib.hid qr
            clear qe qr
            go_wp2_with (first
              | (refine wpList_load_midG (by rfl) 29 (.tmp 17) rfl S 3 rfl (bvals (seg t.cer 3 8)) _ QE.out Tryz.underlying29 rfl HB1.out ?_)
              | (refine wpList_load_midG (by rfl) 29 (.tmp 23) rfl S 11 rfl (bvals (seg t.cer 11 8)) _ QR.out Tryz.underlying29 rfl HB2.out ?_)
              | fail)
            go_ret
            exact ⟨rfl, by rw [HS.out]; exact BC.out⟩
          · cases c6
            · go_enter Tryz.func43, Tryz.ntmps43
              obtain ⟨q0, q1, q2, qe, qr, qo, qs⟩ := cer_at RC.out HL.out
              simp only [Nat.zero_add] at q1 q2 qe qr qo qs
              rw [N6.out] at qo
              rw [N7.out] at qs
              have QE := Lib.hid qe
              have QR := Lib.hid qr
              clear qe qr
              go_wp2_with (first
                | (refine wpList_load_midG (by rfl) 29 (.tmp 17) rfl S 3 rfl (bvals (seg t.cer 3 8)) _ QE.out Tryz.underlying29 rfl HB1.out ?_)
                | (refine wpList_load_midG (by rfl) 29 (.tmp 23) rfl S 11 rfl (bvals (seg t.cer 11 8)) _ QR.out Tryz.underlying29 rfl HB2.out ?_)
                | fail)
              go_ret
              exact ⟨rfl, by rw [HS.out]; exact BC.out⟩
            · cases c7
              · go_enter Tryz.func43, Tryz.ntmps43
                obtain ⟨q0, q1, q2, qe, qr, qo, qs⟩ := cer_at RC.out HL.out
                simp only [Nat.zero_add] at q1 q2 qe qr qo qs
                rw [N6.out] at qo
                rw [N7.out] at qs
                have QE := Lib.hid qe
                have QR := Lib.hid qr
                clear qe qr
                go_wp2_with (first
                  | (refine wpList_load_midG (by rfl) 29 (.tmp 17) rfl S 3 rfl (bvals (seg t.cer 3 8)) _ QE.out Tryz.underlying29 rfl HB1.out ?_)
                  | (refine wpList_load_midG (by rfl) 29 (.tmp 23) rfl S 11 rfl (bvals (seg t.cer 11 8)) _ QR.out Tryz.underlying29 rfl HB2.out ?_)
                  | fail)
                go_ret
                exact ⟨rfl, by rw [HS.out]; exact BC.out⟩
              · go_enter Tryz.func43, Tryz.ntmps43
                obtain ⟨q0, q1, q2, qe, qr, qo, qs⟩ := cer_at RC.out HL.out
                simp only [Nat.zero_add] at q1 q2 qe qr qo qs
                rw [N6.out] at qo
                rw [N7.out] at qs
                have QE := Lib.hid qe
                have QR := Lib.hid qr
                clear qe qr
                go_wp2_with (first
                  | (refine wpList_load_midG (by rfl) 29 (.tmp 17) rfl S 3 rfl (bvals (seg t.cer 3 8)) _ QE.out Tryz.underlying29 rfl HB1.out ?_)
                  | (refine wpList_load_midG (by rfl) 29 (.tmp 23) rfl S 11 rfl (bvals (seg t.cer 11 8)) _ QR.out Tryz.underlying29 rfl HB2.out ?_)
                  | fail)
                go_ret
                exact ⟨rfl, by rw [HS.out]; exact BC.out⟩
end Go.Proofs.YtffaddefnpkcgaaGreatDoor
namespace Go.Proofs.YtffaddefnpkcgaaGreatDoor
open Go.RowKit
set_option maxRecDepth 100000
attribute [local irreducible] ua da ba kk sw S8.run rt hs comp splice outB sha msg zeros win bvals vals mHave mPlc mLis mPts cel seg
set_option maxHeartbeats 16000000 in
theorem dCer (t : TxP) (h : TxH) (w : World) (ht : WfT t) (hm : Mem w t h) :
    Calls Tryz.prog 47 #[.agg (cerC t h).toArray] w fun e w' => e = .returned (.bool (mCer t.cer t.couts t.csigs)) ∧ Below w.heap.size w w' := by
  have HL : Hid (t.cer.length = 19) := okT_len ht.cer
  obtain ⟨n, hn⟩ : ∃ n, t.csigs.length = n := ⟨_, rfl⟩
  have HN := Lib.hid hn
  have hcap := hm.csc.le
  have hcm := hm.csc.mx
  unfold maxLen at hcm
  have hn63 : n ≤ 9223372036854775807 := by omega
  obtain ⟨c7, hc7⟩ : ∃ c, mOuts t.couts = c := ⟨_, rfl⟩
  obtain ⟨S, hS⟩ : ∃ S, w.heap.size = S := ⟨_, rfl⟩
  have HS := Lib.hid hS
  have RC : Hid ((w.alloc (Obj.cells (cerC t h).toArray 32)).rangeAt S 0 (cerC t h)) := by rw [← hS]; exact range_new w _ _
  have BC : Hid (Below S w (w.alloc (Obj.cells (cerC t h).toArray 32))) := by rw [← hS]; exact (Below.refl _ w).alloc (Nat.le_refl _) _
  have NC : Hid (S < (w.alloc (Obj.cells (cerC t h).toArray 32)).heap.size) := by show S < _; simp; omega
  have CO : Hid (∀ w', Below S w w' → Calls Tryz.prog 44 #[.slice h.co.A t.couts.length h.co.c] w' fun e w'' => e = .returned (.bool c7) ∧ Below w'.heap.size w' w'') := fun w' hb => by
    have := dOuts h.co.A t.couts.length h.co.c t.couts w' (hm.co.keep fun q hq => hb.block q (by rw [← HS.out]; exact hq)) ht.couts rfl hm.coc.le hm.coc.mx
    rw [hc7] at this
    exact this
  have RS : Hid (∀ w', Below S w w' → LRow sgnS w' h.cs.A t.csigs) := fun w' hb => hm.cs.keep fun q hq => hb.block q (by rw [← HS.out]; exact hq)
  have AS := Lib.hid ht.csigs
  have H7 := Lib.hid hc7
  clear hn hcap hcm hc7 ht hm
  by_cases h1 : cel t.cer 0 < 0
  · have hf : mCer t.cer t.couts t.csigs = false := by unfold mCer; rw [win_no1 h1]; simp
    rw [hf]
    clear hf
    go_enter Tryz.func47, Tryz.ntmps47
    obtain ⟨k0, k1, k2, _, _, k5, k6⟩ := cer_at RC.out HL.out
    simp only [Nat.zero_add] at k1 k2 k5 k6
    rw [HN.out] at k6
    go_wp2_with (first | (go_at_call 44; refine (CO.out _ BC.out).mono ?_; rintro e w1 ⟨rfl, hb⟩; replace RC : Hid (w1.rangeAt S 0 (cerC t h)) := Lib.hid (range_keep1 RC.out (hb.block S NC.out)); replace BC : Hid (Below S w w1) := Lib.hid (BC.out.trans (hb.mono (Nat.le_of_lt NC.out))); clear hb k0 k1 k2 k5 k6; obtain ⟨k0, k1, k2, _, _, k5, k6⟩ := cer_at RC.out HL.out; simp only [Nat.zero_add] at k1 k2 k5 k6; rw [HN.out] at k6) | fail)
    go_ret
    exact ⟨rfl, by first | exact BC.out | (rw [HS.out]; exact BC.out)⟩
  · by_cases h2 : 8 ≤ cel t.cer 0
    · have hf : mCer t.cer t.couts t.csigs = false := by unfold mCer; rw [win_no2 (show 7 < cel t.cer 0 by omega)]; simp
      rw [hf]
      clear hf
      go_enter Tryz.func47, Tryz.ntmps47
      obtain ⟨k0, k1, k2, _, _, k5, k6⟩ := cer_at RC.out HL.out
      simp only [Nat.zero_add] at k1 k2 k5 k6
      rw [HN.out] at k6
      go_wp2_with (first | (go_at_call 44; refine (CO.out _ BC.out).mono ?_; rintro e w1 ⟨rfl, hb⟩; replace RC : Hid (w1.rangeAt S 0 (cerC t h)) := Lib.hid (range_keep1 RC.out (hb.block S NC.out)); replace BC : Hid (Below S w w1) := Lib.hid (BC.out.trans (hb.mono (Nat.le_of_lt NC.out))); clear hb k0 k1 k2 k5 k6; obtain ⟨k0, k1, k2, _, _, k5, k6⟩ := cer_at RC.out HL.out; simp only [Nat.zero_add] at k1 k2 k5 k6; rw [HN.out] at k6) | fail)
      go_ret
      exact ⟨rfl, by first | exact BC.out | (rw [HS.out]; exact BC.out)⟩
    · by_cases h3 : cel t.cer 1 < 0
      · have hf : mCer t.cer t.couts t.csigs = false := by unfold mCer; rw [win_no1 h3]; simp
        rw [hf]
        clear hf
        go_enter Tryz.func47, Tryz.ntmps47
        obtain ⟨k0, k1, k2, _, _, k5, k6⟩ := cer_at RC.out HL.out
        simp only [Nat.zero_add] at k1 k2 k5 k6
        rw [HN.out] at k6
        go_wp2_with (first | (go_at_call 44; refine (CO.out _ BC.out).mono ?_; rintro e w1 ⟨rfl, hb⟩; replace RC : Hid (w1.rangeAt S 0 (cerC t h)) := Lib.hid (range_keep1 RC.out (hb.block S NC.out)); replace BC : Hid (Below S w w1) := Lib.hid (BC.out.trans (hb.mono (Nat.le_of_lt NC.out))); clear hb k0 k1 k2 k5 k6; obtain ⟨k0, k1, k2, _, _, k5, k6⟩ := cer_at RC.out HL.out; simp only [Nat.zero_add] at k1 k2 k5 k6; rw [HN.out] at k6) | fail)
        go_ret
        exact ⟨rfl, by first | exact BC.out | (rw [HS.out]; exact BC.out)⟩
      · by_cases h4 : 400 < cel t.cer 1
        · have hf : mCer t.cer t.couts t.csigs = false := by unfold mCer; rw [win_no2 h4]; simp
          rw [hf]
          clear hf
          go_enter Tryz.func47, Tryz.ntmps47
          obtain ⟨k0, k1, k2, _, _, k5, k6⟩ := cer_at RC.out HL.out
          simp only [Nat.zero_add] at k1 k2 k5 k6
          rw [HN.out] at k6
          go_wp2_with (first | (go_at_call 44; refine (CO.out _ BC.out).mono ?_; rintro e w1 ⟨rfl, hb⟩; replace RC : Hid (w1.rangeAt S 0 (cerC t h)) := Lib.hid (range_keep1 RC.out (hb.block S NC.out)); replace BC : Hid (Below S w w1) := Lib.hid (BC.out.trans (hb.mono (Nat.le_of_lt NC.out))); clear hb k0 k1 k2 k5 k6; obtain ⟨k0, k1, k2, _, _, k5, k6⟩ := cer_at RC.out HL.out; simp only [Nat.zero_add] at k1 k2 k5 k6; rw [HN.out] at k6) | fail)
          go_ret
          exact ⟨rfl, by first | exact BC.out | (rw [HS.out]; exact BC.out)⟩
        · by_cases h5 : cel t.cer 2 < 0
          · have hf : mCer t.cer t.couts t.csigs = false := by unfold mCer; rw [win_no1 h5]; simp
            rw [hf]
            clear hf
            go_enter Tryz.func47, Tryz.ntmps47
            obtain ⟨k0, k1, k2, _, _, k5, k6⟩ := cer_at RC.out HL.out
            simp only [Nat.zero_add] at k1 k2 k5 k6
            rw [HN.out] at k6
            go_wp2_with (first | (go_at_call 44; refine (CO.out _ BC.out).mono ?_; rintro e w1 ⟨rfl, hb⟩; replace RC : Hid (w1.rangeAt S 0 (cerC t h)) := Lib.hid (range_keep1 RC.out (hb.block S NC.out)); replace BC : Hid (Below S w w1) := Lib.hid (BC.out.trans (hb.mono (Nat.le_of_lt NC.out))); clear hb k0 k1 k2 k5 k6; obtain ⟨k0, k1, k2, _, _, k5, k6⟩ := cer_at RC.out HL.out; simp only [Nat.zero_add] at k1 k2 k5 k6; rw [HN.out] at k6) | fail)
            go_ret
            exact ⟨rfl, by first | exact BC.out | (rw [HS.out]; exact BC.out)⟩
          · by_cases h6 : 2147483647 < cel t.cer 2
            · have hf : mCer t.cer t.couts t.csigs = false := by unfold mCer; rw [win_no2 h6]; simp
              rw [hf]
              clear hf
              go_enter Tryz.func47, Tryz.ntmps47
              obtain ⟨k0, k1, k2, _, _, k5, k6⟩ := cer_at RC.out HL.out
              simp only [Nat.zero_add] at k1 k2 k5 k6
              rw [HN.out] at k6
              go_wp2_with (first | (go_at_call 44; refine (CO.out _ BC.out).mono ?_; rintro e w1 ⟨rfl, hb⟩; replace RC : Hid (w1.rangeAt S 0 (cerC t h)) := Lib.hid (range_keep1 RC.out (hb.block S NC.out)); replace BC : Hid (Below S w w1) := Lib.hid (BC.out.trans (hb.mono (Nat.le_of_lt NC.out))); clear hb k0 k1 k2 k5 k6; obtain ⟨k0, k1, k2, _, _, k5, k6⟩ := cer_at RC.out HL.out; simp only [Nat.zero_add] at k1 k2 k5 k6; rw [HN.out] at k6) | fail)
              go_ret
              exact ⟨rfl, by first | exact BC.out | (rw [HS.out]; exact BC.out)⟩
            · cases c7
              · have hf : mCer t.cer t.couts t.csigs = false := by unfold mCer; rw [H7.out]; simp
                rw [hf]
                clear hf
                go_enter Tryz.func47, Tryz.ntmps47
                obtain ⟨k0, k1, k2, _, _, k5, k6⟩ := cer_at RC.out HL.out
                simp only [Nat.zero_add] at k1 k2 k5 k6
                rw [HN.out] at k6
                go_wp2_with (first | (go_at_call 44; refine (CO.out _ BC.out).mono ?_; rintro e w1 ⟨rfl, hb⟩; replace RC : Hid (w1.rangeAt S 0 (cerC t h)) := Lib.hid (range_keep1 RC.out (hb.block S NC.out)); replace BC : Hid (Below S w w1) := Lib.hid (BC.out.trans (hb.mono (Nat.le_of_lt NC.out))); clear hb k0 k1 k2 k5 k6; obtain ⟨k0, k1, k2, _, _, k5, k6⟩ := cer_at RC.out HL.out; simp only [Nat.zero_add] at k1 k2 k5 k6; rw [HN.out] at k6) | fail)
                go_ret
                exact ⟨rfl, by first | exact BC.out | (rw [HS.out]; exact BC.out)⟩
              · by_cases h7 : (n : Int) < 1
                · have hf : mCer t.cer t.couts t.csigs = false := by unfold mCer mLis; rw [HN.out, win_no1 h7]; simp
                  rw [hf]
                  clear hf
                  go_enter Tryz.func47, Tryz.ntmps47
                  obtain ⟨k0, k1, k2, _, _, k5, k6⟩ := cer_at RC.out HL.out
                  simp only [Nat.zero_add] at k1 k2 k5 k6
                  rw [HN.out] at k6
                  go_wp2_with (first | (go_at_call 44; refine (CO.out _ BC.out).mono ?_; rintro e w1 ⟨rfl, hb⟩; replace RC : Hid (w1.rangeAt S 0 (cerC t h)) := Lib.hid (range_keep1 RC.out (hb.block S NC.out)); replace BC : Hid (Below S w w1) := Lib.hid (BC.out.trans (hb.mono (Nat.le_of_lt NC.out))); clear hb k0 k1 k2 k5 k6; obtain ⟨k0, k1, k2, _, _, k5, k6⟩ := cer_at RC.out HL.out; simp only [Nat.zero_add] at k1 k2 k5 k6; rw [HN.out] at k6) | fail)
                  go_ret
                  exact ⟨rfl, by first | exact BC.out | (rw [HS.out]; exact BC.out)⟩
                · by_cases h8 : 5 < (n : Int)
                  · have hf : mCer t.cer t.couts t.csigs = false := by unfold mCer mLis; rw [HN.out, win_no2 h8]; simp
                    rw [hf]
                    clear hf
                    go_enter Tryz.func47, Tryz.ntmps47
                    obtain ⟨k0, k1, k2, _, _, k5, k6⟩ := cer_at RC.out HL.out
                    simp only [Nat.zero_add] at k1 k2 k5 k6
                    rw [HN.out] at k6
                    go_wp2_with (first | (go_at_call 44; refine (CO.out _ BC.out).mono ?_; rintro e w1 ⟨rfl, hb⟩; replace RC : Hid (w1.rangeAt S 0 (cerC t h)) := Lib.hid (range_keep1 RC.out (hb.block S NC.out)); replace BC : Hid (Below S w w1) := Lib.hid (BC.out.trans (hb.mono (Nat.le_of_lt NC.out))); clear hb k0 k1 k2 k5 k6; obtain ⟨k0, k1, k2, _, _, k5, k6⟩ := cer_at RC.out HL.out; simp only [Nat.zero_add] at k1 k2 k5 k6; rw [HN.out] at k6) | fail)
                    go_ret
                    exact ⟨rfl, by first | exact BC.out | (rw [HS.out]; exact BC.out)⟩
                  · have HM : Hid (mCer t.cer t.couts t.csigs = t.csigs.all mSgn) := by
                      show _ = _
                      unfold mCer mLis
                      rw [HN.out, win_yes (show 0 ≤ cel t.cer 0 by omega) (show cel t.cer 0 ≤ 7 by omega), win_yes (show 0 ≤ cel t.cer 1 by omega) (show cel t.cer 1 ≤ 400 by omega), win_yes (show 0 ≤ cel t.cer 2 by omega) (show cel t.cer 2 ≤ 2147483647 by omega), H7.out, win_yes (show 1 ≤ (n : Int) by omega) (show (n : Int) ≤ 5 by omega)]
                      simp
                    go_enter Tryz.func47, Tryz.ntmps47
                    obtain ⟨k0, k1, k2, _, _, k5, k6⟩ := cer_at RC.out HL.out
                    simp only [Nat.zero_add] at k1 k2 k5 k6
                    rw [HN.out] at k6
                    go_wp2_with (first | (go_at_call 44; refine (CO.out _ BC.out).mono ?_; rintro e w1 ⟨rfl, hb⟩; replace RC : Hid (w1.rangeAt S 0 (cerC t h)) := Lib.hid (range_keep1 RC.out (hb.block S NC.out)); replace BC : Hid (Below S w w1) := Lib.hid (BC.out.trans (hb.mono (Nat.le_of_lt NC.out))); clear hb k0 k1 k2 k5 k6; obtain ⟨k0, k1, k2, _, _, k5, k6⟩ := cer_at RC.out HL.out; simp only [Nat.zero_add] at k1 k2 k5 k6; rw [HN.out] at k6) | fail)
                    obtain ⟨b, o, hbo, hat⟩ := lrow_at (RS.out _ BC.out) (by have := HN.out; omega)
                    rw [hbo] at k6
                    have HAT := Lib.hid hat
                    clear hat hbo h1 h2 h3 h4 h5 h6 h7 h8 k0 k1 k2 k5
                    go_loop [3] (fun i => ∃ k : Nat, k ≤ n ∧ i = .int .i64 k ∧ ∀ j, j < k → mSgn (rcd t.csigs j) = true) (fun i => n - (intOf i).toNat)
                    case atStart => exact ⟨0, Nat.zero_le _, rfl, fun j hj => by omega⟩
                    case round =>
                      obtain ⟨k, hk, rfl, hj⟩ := hrel
                      have HJ := Lib.hid hj
                      clear hj
                      by_cases hlt : k < n
                      · have s0 : (0 : Int) ≤ (k : Int) := by omega
                        have s1 : (k : Int) < (n : Int) := by omega
                        have hk' : k < t.csigs.length := by rw [HN.out]; exact hlt
                        have hR := HAT.out k hk'
                        have hX := at_mem AS.out hk'
                        have HF : Hid (mSgn (rcd t.csigs k) = false → mCer t.cer t.couts t.csigs = false) := fun h => by
                          rw [HM.out, ← Bool.not_eq_true, List.all_eq_true]
                          intro g
                          have := g (rcd t.csigs k) (by
                            rw [rcd, List.getD_eq_getElem?_getD, List.getElem?_eq_getElem hk']
                            exact List.getElem_mem hk')
                          rw [h] at this
                          cases this
                        obtain ⟨x, hx⟩ : ∃ x, rcd t.csigs k = x := ⟨_, rfl⟩
                        rw [hx] at hR hX HF
                        have HX := Lib.hid hx
                        have LX := okT_len hX
                        have e282 : sgnS.length = 282 := rfl
                        rw [e282] at hR
                        obtain ⟨m0, mr⟩ := sgn_at hR LX
                        obtain ⟨m1, _⟩ := sig_at mr (seg_len (by rw [LX]; decide))
                        rw [cel_seg (by decide)] at m1
                        have HK := Lib.hid hlt
                        clear hk' hR hX hx mr LX e282
                        by_cases d1 : cel x 0 < 0
                        · have hf := Lib.hid (HF.out (by unfold mSgn; rw [win_no1 d1]; simp))
                          clear HF
                          go_wp2
                          go_ret
                          exact ⟨by rw [hf.out] <;> rfl, by first | exact BC.out | (rw [HS.out]; exact BC.out)⟩
                        · by_cases d2 : 5 ≤ cel x 0
                          · have hf := Lib.hid (HF.out (by unfold mSgn; rw [win_no2 (show 4 < cel x 0 by omega)]; simp))
                            clear HF
                            go_wp2
                            go_ret
                            exact ⟨by rw [hf.out] <;> rfl, by first | exact BC.out | (rw [HS.out]; exact BC.out)⟩
                          · by_cases d3 : cel x (1 + 0) < 0
                            · have hf := Lib.hid (HF.out (by unfold mSgn; rw [win_no1 (show cel x 1 < 0 from d3)]; simp))
                              clear HF
                              go_wp2
                              go_ret
                              exact ⟨by rw [hf.out] <;> rfl, by first | exact BC.out | (rw [HS.out]; exact BC.out)⟩
                            · by_cases d4 : 255 < cel x (1 + 0)
                              · have hf := Lib.hid (HF.out (by unfold mSgn; rw [win_no2 (show 255 < cel x 1 from d4)]; simp))
                                clear HF
                                go_wp2
                                go_ret
                                exact ⟨by rw [hf.out] <;> rfl, by first | exact BC.out | (rw [HS.out]; exact BC.out)⟩
                              · have HG : Hid (mSgn x = true) := by
                                  show _ = _
                                  unfold mSgn
                                  rw [win_yes (show 0 ≤ cel x 0 by omega) (show cel x 0 ≤ 4 by omega), win_yes (show 0 ≤ cel x 1 by have : ¬ cel x 1 < 0 := d3; omega) (show cel x 1 ≤ 255 by have : ¬ 255 < cel x 1 := d4; omega)]
                                  rfl
                                clear HF
                                go_wp2
                                go_round
                                case rel => exact ⟨k + 1, HK.out, by go_num, fun j hj => by
                                  rcases Nat.lt_or_ge j k with h | h
                                  · exact HJ.out j h
                                  · obtain rfl : j = k := by omega
                                    rw [HX.out]; exact HG.out⟩
                                case measure => have := HK.out; simp [intOf]; omega
                      · obtain rfl : k = n := by omega
                        have hf : mCer t.cer t.couts t.csigs = true := by
                          rw [HM.out, List.all_eq_true]
                          intro r hr
                          obtain ⟨j, hj, rfl⟩ := List.getElem_of_mem hr
                          have := HJ.out j (by rw [← HN.out]; exact hj)
                          rw [rcd, List.getD_eq_getElem?_getD, List.getElem?_eq_getElem hj] at this
                          exact this
                        have HF := Lib.hid hf
                        clear hf
                        go_wp2
                        go_ret
                        exact ⟨by rw [HF.out] <;> rfl, by first | exact BC.out | (rw [HS.out]; exact BC.out)⟩
end Go.Proofs.YtffaddefnpkcgaaGreatDoor

