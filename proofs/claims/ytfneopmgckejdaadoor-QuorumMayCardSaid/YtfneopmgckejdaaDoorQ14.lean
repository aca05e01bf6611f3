/-
  The walk of QuorumMay.
-/
import Derived.Test.YtfneopmgckejdaaDoorQ13
namespace Go.Proofs.YtfneopmgckejdaaDoor
open Go.RowKit
attribute [local irreducible] ua da ba kk sw S8.run rt hs comp splice outB sha msg bvals at8 secM zeros sec keyF marksF mk pubk bt rootF leafH twoH stepsF cutN leadF provL rootV pubF pubs keyL opn sht way gives ckB chkB rootL sg eS fineP mayK win mayP okS has cnt cntN riseP allP enough keyAt cat opL shL sigL wayP wayL rootS seedL bend mAt sgF sgnL FK riseW m4
set_option maxRecDepth 100000 in
set_option maxHeartbeats 8000000 in
theorem q3 (A : Option Addr) (n cap : Nat) (flat : List Int) (a b c : Int) (w : World) (hk : Keys w) (hs : Src w A (8 * n) flat) (hc : n ≤ cap) (hc2 : cap ≤ maxLen) :
    Calls Tryd.prog 3 #[.agg #[.int .i64 a, .int .i64 b, .int .i64 c, .slice A n cap]] w fun e w' => e = .returned (.bool true) ∧ Below w.heap.size w w' := by
  have HK := Lib.hid hk
  have HP : Hid (0 < w.heap.size) := keys_pos hk
  have HSR := Lib.hid hs
  obtain ⟨S, hS⟩ : ∃ S, w.heap.size = S := ⟨_, rfl⟩
  have HS := Lib.hid hS
  have KW : Hid (∀ w', Below S w w' → Keys w') := fun w' hb => keys_below HK.out hb (by rw [← HS.out]; exact HP.out)
  have SW : Hid (∀ w', Below S w w' → Src w' A (8 * n) flat) := fun w' hb => HSR.out.keep fun q' hq' => hb.block q' (by rw [← HS.out]; exact hq')
  have P0 := Lib.hid (pb_new hS a b c (.slice A n cap))
  have B0 : Hid (Below S w (w.alloc (Obj.cells #[.int .i64 a, .int .i64 b, .int .i64 c, .slice A n cap] 24))) := by subst hS; exact (Below.refl _ w).alloc (Nat.le_refl _) _
  have C7 := Lib.hid (kAwake (w.alloc (Obj.cells #[.int .i64 a, .int .i64 b, .int .i64 c, .slice A n cap] 24)) (KW.out _ B0.out))
  obtain ⟨v, hv⟩ : ∃ v, mayP (at8 flat) n a b c = v := ⟨_, rfl⟩
  have C8 : Hid (∀ w', Below S w w' → Calls Tryd.prog 8 #[.agg #[.int .i64 a, .int .i64 b, .int .i64 c, .slice A n cap]] w' fun e w'' => e = .returned (.bool v) ∧ Below w'.heap.size w' w'') := fun w' hb => by
    have := kMay A n cap flat a b c w' (SW.out w' hb) hc hc2
    rw [hv] at this
    exact this
  have C9 : Hid (∀ w', Below S w w' → Calls Tryd.prog 9 #[.agg #[.int .i64 a, .int .i64 b, .int .i64 c, .slice A n cap]] w' fun e w'' => e = .returned (.bool v) ∧ Below w'.heap.size w' w'') := fun w' hb => by
    have := dMay A n cap flat a b c w' (SW.out w' hb) hc hc2
    rw [hv] at this
    exact this
  clear hk hs hc hc2 hv
  by_cases h50 : n ≤ 50
  · have g50 : decide ((50 : Int) < (n : Int)) = false := decide_eq_false (by omega)
    have g51 : decide (50 < n) = false := decide_eq_false (by omega)
    go_enter Tryd.func3, Tryd.ntmps3
    go_upto_region 3 with (first
      | (go_at_call 7
         refine C7.out.mono ?_
         rintro e w1 ⟨rfl, hb⟩
         have P1 : Hid (PB w1 S a b c (.slice A n cap)) := (hb.block _ (lt_of_block P0.out)).trans P0.out
         have B1 : Hid (Below S w w1) := B0.out.trans (hb.mono (Nat.le_of_lt (lt_of_block P0.out)))
         clear hb P0 B0 C7 hS)
      | fail)
    obtain ⟨c0, c1, c2, c3⟩ := pb_cells P1.out
    go_wp2_with fail
    clear c0 c1 c2 c3
    have PQ := P1
    have BB := B1
    generalize w1 = wB at *
    obtain ⟨N, hN⟩ : ∃ N, wB.heap.size = N := ⟨_, rfl⟩
    have WN : Hid (wB.heap.size = N) := hN
    have LN : Hid (S < N) := by show _ < _; rw [← hN]; exact lt_of_block PQ.out
    have KN : Hid (∀ w', Below N wB w' → Below S w w') := fun w' hb => BB.out.trans (hb.mono (Nat.le_of_lt LN.out))
    clear hN
    have XX : Hid (Below N wB wB.drew) := (Below.refl _ _).drew
    refine wp_region_held_drew (S := (fun w' : World => ∀ q, q < N → w'.heap[q]? = wB.heap[q]?)) (by kernel_rfl) (by exact fun _ _ => rfl) (fun hHeld => ?_)
    refine wpAnyH_take (i := 0) rfl (by kernel_rfl) (by kernel_rfl) (by kernel_rfl) (fun _ _ _ h => h) (yieldsIf_load_mid (by rfl) 24 (.tmp 1) rfl (S) (0) rfl [.int .i64 a, .int .i64 b, .int .i64 c, .slice A n cap] _ (fun w h => pb_range ((h _ (by have := LN.out; omega)).trans PQ.out)) Tryd.underlying24 rfl (pb_info a b c _)) (by assumption) ?_
    simp only [Act.put, List.getElem_toArray, List.getElem_cons_zero, List.setIfInBounds_toArray, List.set_cons_zero, List.set_cons_succ]
    refine wpAnyH_take (i := 2) rfl (by kernel_rfl) (by kernel_rfl) (by kernel_rfl) (fun _ _ _ h => h) (yieldsIf_load_mid (by rfl) 24 (.tmp 1) rfl (S) (0) rfl [.int .i64 a, .int .i64 b, .int .i64 c, .slice A n cap] _ (fun w h => pb_range ((h _ (by have := LN.out; omega)).trans PQ.out)) Tryd.underlying24 rfl (pb_info a b c _)) (by assumption) ?_
    simp only [Act.put, List.getElem_toArray, List.getElem_cons_succ, List.getElem_cons_zero, List.setIfInBounds_toArray, List.set_cons_zero, List.set_cons_succ]
    refine wpAnyH_ready (rs := [1]) (by kernel_rfl) (by simp) ?_
    refine AllReadyH.cons rfl (fun K hK => ?_) AllReadyH.nil
    go_simp
    go_at_call 8
    refine (C8.out _ (KN.out _ XX.out)).mono ?_
    rintro e wc1 ⟨rfl, hba⟩
    have XN : Hid (Below N wB wc1) := XX.out.trans (hba.mono (by have := XX.out.size; have := WN.out; omega))
    clear XX hba hHeld
    have XX := XN
    clear XN
    (try go_wp2_with fail)
    refine hK.out _ _ (by exact fun q hq => XX.out.block q hq) (fun hHeld => ?_)
    clear hK K
    refine wpAnyH_ready (rs := [3]) (by kernel_rfl) (by simp) ?_
    refine AllReadyH.cons rfl (fun K hK => ?_) AllReadyH.nil
    go_simp
    go_at_call 9
    refine (C9.out _ (KN.out _ XX.out)).mono ?_
    rintro e wc2 ⟨rfl, hba⟩
    have XN : Hid (Below N wB wc2) := XX.out.trans (hba.mono (by have := XX.out.size; have := WN.out; omega))
    clear XX hba hHeld
    have XX := XN
    clear XN
    (try go_wp2_with fail)
    refine hK.out _ _ (by exact fun q hq => XX.out.block q hq) (fun hHeld => ?_)
    clear hK K
    refine wpAnyH_take (i := 4) (v := ?_) rfl (by kernel_rfl) (by kernel_rfl) (by kernel_rfl) (fun _ _ _ h => h) (Or.inl ⟨by rfl, ?_⟩) (by assumption) ?_
    rotate_left
    · (intro w hSw; (try dsimp only at hSw); go_simp; try with_reducible rfl)
    simp only [Act.put, List.getElem_toArray, List.getElem_cons_succ, List.getElem_cons_zero, List.setIfInBounds_toArray, List.set_cons_zero, List.set_cons_succ]
    refine wpAnyH_take (i := 5) (v := ?_) rfl (by kernel_rfl) (by kernel_rfl) (by kernel_rfl) (fun _ _ _ h => h) (Or.inl ⟨by rfl, ?_⟩) (by assumption) ?_
    rotate_left
    · (intro w hSw; (try dsimp only at hSw); go_simp; try with_reducible rfl)
    simp only [Act.put, List.getElem_toArray, List.getElem_cons_succ, List.getElem_cons_zero, List.setIfInBounds_toArray, List.set_cons_zero, List.set_cons_succ]
    refine wpAnyH_done (by kernel_rfl) ?_ _
    go_wp2
    go_ret
    exact ⟨rfl, by (try rw [HS.out]); exact KN.out _ XX.out⟩
  · have g50 : decide ((50 : Int) < (n : Int)) = true := decide_eq_true (by omega)
    have g51 : decide (50 < n) = true := decide_eq_true (by omega)
    go_enter Tryd.func3, Tryd.ntmps3
    go_upto_region 3 with (first
      | (go_at_call 7
         refine C7.out.mono ?_
         rintro e w1 ⟨rfl, hb⟩
         have P1 : Hid (PB w1 S a b c (.slice A n cap)) := (hb.block _ (lt_of_block P0.out)).trans P0.out
         have B1 : Hid (Below S w w1) := B0.out.trans (hb.mono (Nat.le_of_lt (lt_of_block P0.out)))
         clear hb P0 B0 C7 hS)
      | fail)
    obtain ⟨c0, c1, c2, c3⟩ := pb_cells P1.out
    go_wp2
    go_ret
    exact ⟨rfl, by (try rw [HS.out]); exact B1.out⟩
end Go.Proofs.YtfneopmgckejdaaDoor
