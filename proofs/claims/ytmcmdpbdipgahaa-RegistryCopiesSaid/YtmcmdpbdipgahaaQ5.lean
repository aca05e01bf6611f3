/-
  May; the document's MayParams.
-/
import Derived.Test.YtmcmdpbdipgahaaQ4
namespace Go.Proofs.Ytmcmdpbdipgahaa
open Go.RowKit
/-- parameters lie in a block -/
def PB (w : World) (q : Nat) (a b c : Int) (v : Value) : Prop := w.heap[q]? = some (.cells #[.int .i64 a, .int .i64 b, .int .i64 c, v] 38 (0, 0))
theorem pb_new {w : World} {S : Nat} (h : w.heap.size = S) (a b c : Int) (v : Value) : PB (w.alloc (Obj.cells #[.int .i64 a, .int .i64 b, .int .i64 c, v] 38)) S a b c v := by subst h; exact heap_alloc_last w _
theorem pb_cells {w : World} {q : Nat} {a b c : Int} {v : Value} (h : PB w q a b c v) : w.cell? ⟨q, 0, none⟩ = some (.int .i64 a) ∧ w.cell? ⟨q, 1, none⟩ = some (.int .i64 b) ∧ w.cell? ⟨q, 2, none⟩ = some (.int .i64 c) ∧ w.cell? ⟨q, 3, none⟩ = some v := by
  refine ⟨?_, ?_, ?_, ?_⟩ <;> rw [cell_of_row w q _ _ 38 (0, 0) h] <;> rfl
theorem pb_range {w : World} {q : Nat} {a b c : Int} {v : Value} (h : PB w q a b c v) : w.rangeAt q 0 [.int .i64 a, .int .i64 b, .int .i64 c, v] := fun j u hj => by
  rw [Nat.zero_add, cell_of_row w q j _ 38 (0, 0) h, ← hj]
  simp
theorem pb_info (a b c : Int) (v : Value) : (Try.prog.info? 38).map (·.size) = some [Value.int .i64 a, .int .i64 b, .int .i64 c, v].length := by kernel_rfl
theorem win_no1 {lo hi x : Int} (h : x < lo) : win lo hi x = false := by unfold win; rw [decide_eq_false (by omega : ¬ lo ≤ x), Bool.false_and]
theorem win_no2 {lo hi x : Int} (h : hi < x) : win lo hi x = false := by unfold win; rw [decide_eq_false (by omega : ¬ x ≤ hi), Bool.and_false]
theorem win_yes {lo hi x : Int} (h : lo ≤ x) (h2 : x ≤ hi) : win lo hi x = true := by unfold win; rw [decide_eq_true h, decide_eq_true h2]; rfl
attribute [local irreducible] ua da ba kk sw S8.run rt hs comp splice outB sha msg bvals zeros sg at8 fineP mayK win

set_option maxRecDepth 100000 in
set_option maxHeartbeats 8000000 in
/-- May -/
theorem kMay (A : Option Addr) (n cap : Nat) (flat : List Int) (a b c : Int) (w : World) (hs : Src w A (8 * n) flat) (hc : n ≤ cap) (hc2 : cap ≤ maxLen) :
    Calls Try.prog 33 #[.agg #[.int .i64 a, .int .i64 b, .int .i64 c, .slice A n cap]] w fun e w' => e = .returned (.bool (mayP (at8 flat) n a b c)) ∧ Below w.heap.size w w' := by
  have HSR := Lib.hid hs
  obtain ⟨S, hS⟩ : ∃ S, w.heap.size = S := ⟨_, rfl⟩
  have HS := Lib.hid hS
  have P0 := Lib.hid (pb_new hS a b c (.slice A n cap))
  have B0 : Hid (Below S w (w.alloc (Obj.cells #[.int .i64 a, .int .i64 b, .int .i64 c, .slice A n cap] 38))) := by subst hS; exact (Below.refl _ w).alloc (Nat.le_refl _) _
  have C16 : Hid (∀ w', Below S w w' → Calls Try.prog 47 #[.slice A n cap] w' fun e w'' => e = .returned (.bool (mayK (at8 flat) n)) ∧ Below w'.heap.size w' w'') := fun w' hb => kMayKeys A n cap flat w' (HSR.out.keep fun k hk => hb.block k (by rw [← HS.out]; exact hk)) hc hc2
  unfold mayP
  obtain ⟨x0, h0⟩ : ∃ x, mayK (at8 flat) n = x := ⟨_, rfl⟩
  obtain ⟨x1, h1⟩ : ∃ x, win 1 n c = x := ⟨_, rfl⟩
  obtain ⟨x2, h2⟩ : ∃ x, win 2 64 a = x := ⟨_, rfl⟩
  obtain ⟨x3, h3⟩ : ∃ x, win 1 a b = x := ⟨_, rfl⟩
  rw [h0] at C16 ⊢
  rw [h1, h2, h3]
  have PS : Hid (S < (w.alloc (Obj.cells #[.int .i64 a, .int .i64 b, .int .i64 c, .slice A n cap] 38)).heap.size) := lt_of_block P0.out
  obtain ⟨wp, hwp⟩ : ∃ wp, w.alloc (Obj.cells #[.int .i64 a, .int .i64 b, .int .i64 c, .slice A n cap] 38) = wp := ⟨_, rfl⟩
  clear hs h0
  cases x0
  · go_enter Try.func33, Try.ntmps33
    rw [hwp] at *
    obtain ⟨c0, c1, c2, c3⟩ := pb_cells P0.out
    go_wp2_with (first
      | (go_at_call 47
         refine (C16.out _ B0.out).mono ?_
         rintro e w1 ⟨rfl, hb⟩
         have B1 : Hid (Below S w w1) := B0.out.trans (hb.mono (by have := PS.out; omega))
         obtain ⟨g0, g1, g2, g3⟩ := pb_cells ((hb.block _ PS.out).trans P0.out)
         clear hb c0 c1 c2 c3)
      | (go_at_call 48; refine (kWithin _ _ _ _).mono ?_; rintro e w' ⟨rfl, rfl⟩)
      | fail)
    go_ret
    exact ⟨rfl, by (try rw [HS.out]); exact B1.out⟩
  · cases x1
    · go_enter Try.func33, Try.ntmps33
      rw [hwp] at *
      obtain ⟨c0, c1, c2, c3⟩ := pb_cells P0.out
      go_wp2_with (first
        | (go_at_call 47
           refine (C16.out _ B0.out).mono ?_
           rintro e w1 ⟨rfl, hb⟩
           have B1 : Hid (Below S w w1) := B0.out.trans (hb.mono (by have := PS.out; omega))
           obtain ⟨g0, g1, g2, g3⟩ := pb_cells ((hb.block _ PS.out).trans P0.out)
           clear hb c0 c1 c2 c3)
        | (go_at_call 48; refine (kWithin _ _ _ _).mono ?_; rintro e w' ⟨rfl, rfl⟩)
        | fail)
      go_ret
      exact ⟨rfl, by (try rw [HS.out]); exact B1.out⟩
    · cases x2
      · go_enter Try.func33, Try.ntmps33
        rw [hwp] at *
        obtain ⟨c0, c1, c2, c3⟩ := pb_cells P0.out
        go_wp2_with (first
          | (go_at_call 47
             refine (C16.out _ B0.out).mono ?_
             rintro e w1 ⟨rfl, hb⟩
             have B1 : Hid (Below S w w1) := B0.out.trans (hb.mono (by have := PS.out; omega))
             obtain ⟨g0, g1, g2, g3⟩ := pb_cells ((hb.block _ PS.out).trans P0.out)
             clear hb c0 c1 c2 c3)
          | (go_at_call 48; refine (kWithin _ _ _ _).mono ?_; rintro e w' ⟨rfl, rfl⟩)
          | fail)
        go_ret
        exact ⟨rfl, by (try rw [HS.out]); exact B1.out⟩
      · go_enter Try.func33, Try.ntmps33
        rw [hwp] at *
        obtain ⟨c0, c1, c2, c3⟩ := pb_cells P0.out
        go_wp2_with (first
          | (go_at_call 47
             refine (C16.out _ B0.out).mono ?_
             rintro e w1 ⟨rfl, hb⟩
             have B1 : Hid (Below S w w1) := B0.out.trans (hb.mono (by have := PS.out; omega))
             obtain ⟨g0, g1, g2, g3⟩ := pb_cells ((hb.block _ PS.out).trans P0.out)
             clear hb c0 c1 c2 c3)
          | (go_at_call 48; refine (kWithin _ _ _ _).mono ?_; rintro e w' ⟨rfl, rfl⟩)
          | fail)
        go_ret
        exact ⟨rfl, by (try rw [HS.out]); exact B1.out⟩
set_option maxRecDepth 100000 in
set_option maxHeartbeats 16000000 in
/-- the document's -/
theorem dMay (A : Option Addr) (n cap : Nat) (flat : List Int) (a b c : Int) (w : World) (hs : Src w A (8 * n) flat) (hc : n ≤ cap) (hc2 : cap ≤ maxLen) :
    Calls Try.prog 35 #[.agg #[.int .i64 a, .int .i64 b, .int .i64 c, .slice A n cap]] w fun e w' => e = .returned (.bool (mayP (at8 flat) n a b c)) ∧ Below w.heap.size w w' := by
  have HSR := Lib.hid hs
  obtain ⟨S, hS⟩ : ∃ S, w.heap.size = S := ⟨_, rfl⟩
  have HS := Lib.hid hS
  unfold maxLen at hc2
  have P0 := Lib.hid (pb_new hS a b c (.slice A n cap))
  have B0 : Hid (Below S w (w.alloc (Obj.cells #[.int .i64 a, .int .i64 b, .int .i64 c, .slice A n cap] 38))) := by subst hS; exact (Below.refl _ w).alloc (Nat.le_refl _) _
  have PS : Hid (S < (w.alloc (Obj.cells #[.int .i64 a, .int .i64 b, .int .i64 c, .slice A n cap] 38)).heap.size) := lt_of_block P0.out
  obtain ⟨wp, hwp⟩ : ∃ wp, w.alloc (Obj.cells #[.int .i64 a, .int .i64 b, .int .i64 c, .slice A n cap] 38) = wp := ⟨_, rfl⟩
  clear hs
  by_cases h0 : (n : Int) < 1
  · have hm : mayP (at8 flat) n a b c = false := by
      unfold mayP
      exact (by unfold mayK; rw [win_no1 h0, Bool.false_and, Bool.false_and])
    rw [hm]
    clear hm
    go_enter Try.func35, Try.ntmps35
    rw [hwp] at *
    obtain ⟨c0, c1, c2, c3⟩ := pb_cells P0.out
    go_wp2
    go_ret
    exact ⟨rfl, by (try rw [HS.out]); exact B0.out⟩
  · skip
    by_cases h1 : 5 < (n : Int)
    · have hm : mayP (at8 flat) n a b c = false := by
        unfold mayP
        exact (by unfold mayK; rw [win_no2 h1, Bool.false_and, Bool.false_and])
      rw [hm]
      clear hm
      go_enter Try.func35, Try.ntmps35
      rw [hwp] at *
      obtain ⟨c0, c1, c2, c3⟩ := pb_cells P0.out
      go_wp2
      go_ret
      exact ⟨rfl, by (try rw [HS.out]); exact B0.out⟩
    · skip
      by_cases h2 : c < 1
      · have hm : mayP (at8 flat) n a b c = false := by
          unfold mayP
          exact (by rw [win_no1 h2]; simp)
        rw [hm]
        clear hm
        go_enter Try.func35, Try.ntmps35
        rw [hwp] at *
        obtain ⟨c0, c1, c2, c3⟩ := pb_cells P0.out
        go_wp2
        go_ret
        exact ⟨rfl, by (try rw [HS.out]); exact B0.out⟩
      · skip
        by_cases h3 : (n : Int) < c
        · have hm : mayP (at8 flat) n a b c = false := by
            unfold mayP
            exact (by rw [win_no2 h3]; simp)
          rw [hm]
          clear hm
          go_enter Try.func35, Try.ntmps35
          rw [hwp] at *
          obtain ⟨c0, c1, c2, c3⟩ := pb_cells P0.out
          go_wp2
          go_ret
          exact ⟨rfl, by (try rw [HS.out]); exact B0.out⟩
        · skip
          by_cases h4 : a < 2
          · have hm : mayP (at8 flat) n a b c = false := by
              unfold mayP
              exact (by rw [win_no1 h4]; simp)
            rw [hm]
            clear hm
            go_enter Try.func35, Try.ntmps35
            rw [hwp] at *
            obtain ⟨c0, c1, c2, c3⟩ := pb_cells P0.out
            go_wp2
            go_ret
            exact ⟨rfl, by (try rw [HS.out]); exact B0.out⟩
          · skip
            by_cases h5 : 64 < a
            · have hm : mayP (at8 flat) n a b c = false := by
                unfold mayP
                exact (by rw [win_no2 h5]; simp)
              rw [hm]
              clear hm
              go_enter Try.func35, Try.ntmps35
              rw [hwp] at *
              obtain ⟨c0, c1, c2, c3⟩ := pb_cells P0.out
              go_wp2
              go_ret
              exact ⟨rfl, by (try rw [HS.out]); exact B0.out⟩
            · skip
              by_cases h6 : b < 1
              · have hm : mayP (at8 flat) n a b c = false := by
                  unfold mayP
                  exact (by rw [win_no1 h6]; simp)
                rw [hm]
                clear hm
                go_enter Try.func35, Try.ntmps35
                rw [hwp] at *
                obtain ⟨c0, c1, c2, c3⟩ := pb_cells P0.out
                go_wp2
                go_ret
                exact ⟨rfl, by (try rw [HS.out]); exact B0.out⟩
              · skip
                by_cases h7 : a < b
                · have hm : mayP (at8 flat) n a b c = false := by
                    unfold mayP
                    exact (by rw [win_no2 h7]; simp)
                  rw [hm]
                  clear hm
                  go_enter Try.func35, Try.ntmps35
                  rw [hwp] at *
                  obtain ⟨c0, c1, c2, c3⟩ := pb_cells P0.out
                  go_wp2
                  go_ret
                  exact ⟨rfl, by (try rw [HS.out]); exact B0.out⟩
                · have hm : mayP (at8 flat) n a b c = decide (fineP (at8 flat) n) := by
                    unfold mayP mayK
                    rw [win_yes (by omega) (by omega), win_yes (by omega) (by omega), win_yes (by omega) (by omega), win_yes (by omega) (by omega)]
                    simp
                  rw [hm]
                  clear hm
                  obtain ⟨bq, o, rfl⟩ := src_at HSR.out (by omega)
                  have H5 : Hid (1 ≤ n ∧ n ≤ 5) := by show _ ∧ _; omega
                  go_enter Try.func35, Try.ntmps35
                  rw [hwp] at *
                  obtain ⟨c0, c1, c2, c3⟩ := pb_cells P0.out
                  go_wp2
                  clear c0 c1 c2 c3 h0 h1 h2 h3 h4 h5 h6 h7 hwp hS
                  go_loopw [3] (fun i wr => ∃ q : Nat, q ≤ n ∧ i = .int .i64 q ∧ (∀ j, j < q → fine (at8 flat) j) ∧ Below S w wr ∧ PB wr S a b c (.slice (some ⟨bq, o, none⟩) n cap)) (fun i _ => n - (intOf i).toNat)
                  case atStart => exact ⟨0, Nat.zero_le _, rfl, fun j hj => by omega, B0.out, P0.out⟩
                  case round =>
                    obtain ⟨q, hq, rfl, hj, hb, hp⟩ := hrel
                    have JR := Lib.hid hj
                    have BR := Lib.hid hb
                    have PR := Lib.hid hp
                    have PSr : Hid (S < wr.heap.size) := lt_of_block hp
                    clear hj hb hp
                    obtain ⟨c0, c1, c2, c3⟩ := pb_cells PR.out
                    by_cases hlt : q < n
                    · have s0 : (0 : Int) ≤ (q : Int) := by omega
                      have s1 : (q : Int) < (n : Int) := by omega
                      obtain ⟨x, hx⟩ : ∃ x, at8 flat q = x := ⟨_, rfl⟩
                      have HX := Lib.hid hx
                      have LX : Hid (x.length = 8) := by rw [← hx]; exact at8_len (n := n) HSR.out.1 hlt
                      have hix := inf23 x LX.out
                      have HLT := Lib.hid hlt
                      clear hx
                      go_wp2_with fail
                      clear c0 c1 c2 c3
                      go_loopw [4] (fun i wr => ∃ k : Nat, k ≤ q ∧ i = .int .i64 k ∧ (∀ j, j < k → at8 flat j ≠ x) ∧ Below S w wr ∧ PB wr S a b c (.slice (some ⟨bq, o, none⟩) n cap)) (fun i _ => q - (intOf i).toNat)
                      case atStart => exact ⟨0, Nat.zero_le _, rfl, fun j hj => by omega, BR.out, PR.out⟩
                      case round =>
                        obtain ⟨k, hk, rfl, hj, hb, hp⟩ := hrel
                        have JI := Lib.hid hj
                        have BI := Lib.hid hb
                        have PQ := Lib.hid hp
                        have PSi : Hid (S < wr.heap.size) := lt_of_block hp
                        clear hj hb hp
                        by_cases hkq : k < q
                        · have k0 : (0 : Int) ≤ (k : Int) := by omega
                          have k1 : (k : Int) < (n : Int) := by omega
                          have k2 : (k : Int) < (q : Int) := by omega
                          obtain ⟨y, hy⟩ : ∃ y, at8 flat k = y := ⟨_, rfl⟩
                          have HY := Lib.hid hy
                          have LY : Hid (y.length = 8) := by rw [← hy]; exact at8_len (n := n) HSR.out.1 (by omega)
                          have hiy := inf23 y LY.out
                          obtain ⟨d, hd⟩ : ∃ d, decide (y = x) = d := ⟨_, rfl⟩
                          have HD := Lib.hid hd
                          have f1 : ∀ w, (Op.equalIn 10000 31 (.agg (bvals y).toArray) (.agg (bvals x).toArray)).run Try.prog w = .ok d w := fun w => by
                            have := eqhL y x w LY.out LX.out
                            rw [hd, ba_bvals x, ba_bvals y] at this
                            exact this
                          have SK : Hid (∀ w' : World, (∀ q', q' < wr.heap.size → w'.heap[q']? = wr.heap[q']?) → Src w' (some ⟨bq, o, none⟩) (8 * n) flat) := fun w' h => (HSR.out.keep fun q' hq' => BI.out.block q' (by rw [← HS.out]; exact hq')).keep h
                          have YR : Hid (∀ w' : World, (∀ q', q' < wr.heap.size → w'.heap[q']? = wr.heap[q']?) → w'.rangeAt bq (o + k * 8) (bvals y)) := fun w' h => by rw [← hy]; exact key_range (SK.out w' h) (by omega)
                          have XR : Hid (∀ w' : World, (∀ q', q' < wr.heap.size → w'.heap[q']? = wr.heap[q']?) → w'.rangeAt bq (o + q * 8) (bvals x)) := fun w' h => by rw [← HX.out]; exact key_range (SK.out w' h) hlt
                          clear hy hd
                          go_wp2_with fail
                          generalize wr = wB at *
                          obtain ⟨N, hN⟩ : ∃ N, wB.heap.size = N := ⟨_, rfl⟩
                          have WN : Hid (wB.heap.size = N) := hN
                          have LN : Hid (S < N) := by show _ < _; rw [← hN]; exact PSi.out
                          have KN : Hid (∀ w', Below N wB w' → Below S w w') := fun w' hb => BI.out.trans (hb.mono (Nat.le_of_lt LN.out))
                          clear hN
                          cases d
                          · have XX : Hid (Below N wB wB.drew) := (Below.refl _ _).drew
                            refine wp_region_held_drew (S := (fun w' : World => ∀ q, q < N → w'.heap[q]? = wB.heap[q]?)) (by kernel_rfl) (by exact fun _ _ => rfl) (fun hHeld => ?_)
                            refine wpAnyH_take (i := 0) (v := ?_) rfl (by kernel_rfl) (by kernel_rfl) (by kernel_rfl) (fun _ _ _ h => h) (Or.inl ⟨by rfl, ?_⟩) (by assumption) ?_
                            rotate_left
                            · (intro w hSw; (try dsimp only at hSw); obtain ⟨c0, c1, c2, c3⟩ := pb_cells ((hSw _ LN.out).trans PQ.out); go_simp; try with_reducible rfl)
                            simp only [Act.put, List.getElem_toArray, List.getElem_cons_zero, List.setIfInBounds_toArray, List.set_cons_zero, List.set_cons_succ]
                            refine wpAnyH_take (i := 1) (v := ?_) rfl (by kernel_rfl) (by kernel_rfl) (by kernel_rfl) (fun _ _ _ h => h) (Or.inl ⟨by rfl, ?_⟩) (by assumption) ?_
                            rotate_left
                            · (intro w hSw; (try dsimp only at hSw); obtain ⟨c0, c1, c2, c3⟩ := pb_cells ((hSw _ LN.out).trans PQ.out); go_simp; try with_reducible rfl)
                            simp only [Act.put, List.getElem_toArray, List.getElem_cons_succ, List.getElem_cons_zero, List.setIfInBounds_toArray, List.set_cons_zero, List.set_cons_succ]
                            refine wpAnyH_take (i := 2) (v := ?_) rfl (by kernel_rfl) (by kernel_rfl) (by kernel_rfl) (fun _ _ _ h => h) (Or.inl ⟨by rfl, ?_⟩) (by assumption) ?_
                            rotate_left
                            · (intro w hSw; (try dsimp only at hSw); go_simp; try with_reducible rfl)
                            simp only [Act.put, List.getElem_toArray, List.getElem_cons_succ, List.getElem_cons_zero, List.setIfInBounds_toArray, List.set_cons_zero, List.set_cons_succ]
                            refine wpAnyH_take (i := 3) (v := ?_) rfl (by kernel_rfl) (by kernel_rfl) (by kernel_rfl) (fun _ _ _ h => h) (Or.inl ⟨by rfl, ?_⟩) (by assumption) ?_
                            rotate_left
                            · (intro w hSw; (try dsimp only at hSw); go_simp; try with_reducible rfl)
                            simp only [Act.put, List.getElem_toArray, List.getElem_cons_succ, List.getElem_cons_zero, List.setIfInBounds_toArray, List.set_cons_zero, List.set_cons_succ]
                            refine wpAnyH_take (i := 4) rfl (by kernel_rfl) (by kernel_rfl) (by kernel_rfl) (fun _ _ _ h => h) (yieldsIf_load_mid (by rfl) 31 (.tmp 65) rfl (bq) (o + k * 8) rfl (bvals y) _ (fun w h => YR.out _ (fun q' hq' => h q' (by rw [← WN.out]; exact hq'))) Try.underlying31 rfl hiy) (by assumption) ?_
                            simp only [Act.put, List.getElem_toArray, List.getElem_cons_succ, List.getElem_cons_zero, List.setIfInBounds_toArray, List.set_cons_zero, List.set_cons_succ]
                            refine wpAnyH_take (i := 5) (v := ?_) rfl (by kernel_rfl) (by kernel_rfl) (by kernel_rfl) (fun _ _ _ h => h) (Or.inl ⟨by rfl, ?_⟩) (by assumption) ?_
                            rotate_left
                            · (intro w hSw; (try dsimp only at hSw); obtain ⟨c0, c1, c2, c3⟩ := pb_cells ((hSw _ LN.out).trans PQ.out); go_simp; try with_reducible rfl)
                            simp only [Act.put, List.getElem_toArray, List.getElem_cons_succ, List.getElem_cons_zero, List.setIfInBounds_toArray, List.set_cons_zero, List.set_cons_succ]
                            refine wpAnyH_take (i := 6) (v := ?_) rfl (by kernel_rfl) (by kernel_rfl) (by kernel_rfl) (fun _ _ _ h => h) (Or.inl ⟨by rfl, ?_⟩) (by assumption) ?_
                            rotate_left
                            · (intro w hSw; (try dsimp only at hSw); obtain ⟨c0, c1, c2, c3⟩ := pb_cells ((hSw _ LN.out).trans PQ.out); go_simp; try with_reducible rfl)
                            simp only [Act.put, List.getElem_toArray, List.getElem_cons_succ, List.getElem_cons_zero, List.setIfInBounds_toArray, List.set_cons_zero, List.set_cons_succ]
                            refine wpAnyH_take (i := 7) (v := ?_) rfl (by kernel_rfl) (by kernel_rfl) (by kernel_rfl) (fun _ _ _ h => h) (Or.inl ⟨by rfl, ?_⟩) (by assumption) ?_
                            rotate_left
                            · (intro w hSw; (try dsimp only at hSw); go_simp; try with_reducible rfl)
                            simp only [Act.put, List.getElem_toArray, List.getElem_cons_succ, List.getElem_cons_zero, List.setIfInBounds_toArray, List.set_cons_zero, List.set_cons_succ]
                            refine wpAnyH_take (i := 8) (v := ?_) rfl (by kernel_rfl) (by kernel_rfl) (by kernel_rfl) (fun _ _ _ h => h) (Or.inl ⟨by rfl, ?_⟩) (by assumption) ?_
                            rotate_left
                            · (intro w hSw; (try dsimp only at hSw); go_simp; try with_reducible rfl)
                            simp only [Act.put, List.getElem_toArray, List.getElem_cons_succ, List.getElem_cons_zero, List.setIfInBounds_toArray, List.set_cons_zero, List.set_cons_succ]
                            refine wpAnyH_take (i := 9) rfl (by kernel_rfl) (by kernel_rfl) (by kernel_rfl) (fun _ _ _ h => h) (yieldsIf_load_mid (by rfl) 31 (.tmp 70) rfl (bq) (o + q * 8) rfl (bvals x) _ (fun w h => XR.out _ (fun q' hq' => h q' (by rw [← WN.out]; exact hq'))) Try.underlying31 rfl hix) (by assumption) ?_
                            simp only [Act.put, List.getElem_toArray, List.getElem_cons_succ, List.getElem_cons_zero, List.setIfInBounds_toArray, List.set_cons_zero, List.set_cons_succ]
                            refine wpAnyH_take (i := 10) (v := ?_) rfl (by kernel_rfl) (by kernel_rfl) (by kernel_rfl) (fun _ _ _ h => h) (Or.inl ⟨by rfl, ?_⟩) (by assumption) ?_
                            rotate_left
                            · (intro w hSw; (try dsimp only at hSw); go_simp; try with_reducible rfl)
                            simp only [Act.put, List.getElem_toArray, List.getElem_cons_succ, List.getElem_cons_zero, List.setIfInBounds_toArray, List.set_cons_zero, List.set_cons_succ]
                            refine wpAnyH_done (by kernel_rfl) ?_ _
                            go_wp2
                            go_roundw
                            case rel => exact ⟨k + 1, by omega, by go_num, fun j hj => by
                              by_cases e : j = k
                              · subst e
                                rw [HY.out]
                                exact of_decide_eq_false HD.out
                              · exact JI.out j (by omega), KN.out _ XX.out, (XX.out.block _ LN.out).trans PQ.out⟩
                            case measure => simp [intOf]; omega
                          · have XX : Hid (Below N wB wB.drew) := (Below.refl _ _).drew
                            refine wp_region_held_drew (S := (fun w' : World => ∀ q, q < N → w'.heap[q]? = wB.heap[q]?)) (by kernel_rfl) (by exact fun _ _ => rfl) (fun hHeld => ?_)
                            refine wpAnyH_take (i := 0) (v := ?_) rfl (by kernel_rfl) (by kernel_rfl) (by kernel_rfl) (fun _ _ _ h => h) (Or.inl ⟨by rfl, ?_⟩) (by assumption) ?_
                            rotate_left
                            · (intro w hSw; (try dsimp only at hSw); obtain ⟨c0, c1, c2, c3⟩ := pb_cells ((hSw _ LN.out).trans PQ.out); go_simp; try with_reducible rfl)
                            simp only [Act.put, List.getElem_toArray, List.getElem_cons_zero, List.setIfInBounds_toArray, List.set_cons_zero, List.set_cons_succ]
                            refine wpAnyH_take (i := 1) (v := ?_) rfl (by kernel_rfl) (by kernel_rfl) (by kernel_rfl) (fun _ _ _ h => h) (Or.inl ⟨by rfl, ?_⟩) (by assumption) ?_
                            rotate_left
                            · (intro w hSw; (try dsimp only at hSw); obtain ⟨c0, c1, c2, c3⟩ := pb_cells ((hSw _ LN.out).trans PQ.out); go_simp; try with_reducible rfl)
                            simp only [Act.put, List.getElem_toArray, List.getElem_cons_succ, List.getElem_cons_zero, List.setIfInBounds_toArray, List.set_cons_zero, List.set_cons_succ]
                            refine wpAnyH_take (i := 2) (v := ?_) rfl (by kernel_rfl) (by kernel_rfl) (by kernel_rfl) (fun _ _ _ h => h) (Or.inl ⟨by rfl, ?_⟩) (by assumption) ?_
                            rotate_left
                            · (intro w hSw; (try dsimp only at hSw); go_simp; try with_reducible rfl)
                            simp only [Act.put, List.getElem_toArray, List.getElem_cons_succ, List.getElem_cons_zero, List.setIfInBounds_toArray, List.set_cons_zero, List.set_cons_succ]
                            refine wpAnyH_take (i := 3) (v := ?_) rfl (by kernel_rfl) (by kernel_rfl) (by kernel_rfl) (fun _ _ _ h => h) (Or.inl ⟨by rfl, ?_⟩) (by assumption) ?_
                            rotate_left
                            · (intro w hSw; (try dsimp only at hSw); go_simp; try with_reducible rfl)
                            simp only [Act.put, List.getElem_toArray, List.getElem_cons_succ, List.getElem_cons_zero, List.setIfInBounds_toArray, List.set_cons_zero, List.set_cons_succ]
                            refine wpAnyH_take (i := 4) rfl (by kernel_rfl) (by kernel_rfl) (by kernel_rfl) (fun _ _ _ h => h) (yieldsIf_load_mid (by rfl) 31 (.tmp 65) rfl (bq) (o + k * 8) rfl (bvals y) _ (fun w h => YR.out _ (fun q' hq' => h q' (by rw [← WN.out]; exact hq'))) Try.underlying31 rfl hiy) (by assumption) ?_
                            simp only [Act.put, List.getElem_toArray, List.getElem_cons_succ, List.getElem_cons_zero, List.setIfInBounds_toArray, List.set_cons_zero, List.set_cons_succ]
                            refine wpAnyH_take (i := 5) (v := ?_) rfl (by kernel_rfl) (by kernel_rfl) (by kernel_rfl) (fun _ _ _ h => h) (Or.inl ⟨by rfl, ?_⟩) (by assumption) ?_
                            rotate_left
                            · (intro w hSw; (try dsimp only at hSw); obtain ⟨c0, c1, c2, c3⟩ := pb_cells ((hSw _ LN.out).trans PQ.out); go_simp; try with_reducible rfl)
                            simp only [Act.put, List.getElem_toArray, List.getElem_cons_succ, List.getElem_cons_zero, List.setIfInBounds_toArray, List.set_cons_zero, List.set_cons_succ]
                            refine wpAnyH_take (i := 6) (v := ?_) rfl (by kernel_rfl) (by kernel_rfl) (by kernel_rfl) (fun _ _ _ h => h) (Or.inl ⟨by rfl, ?_⟩) (by assumption) ?_
                            rotate_left
                            · (intro w hSw; (try dsimp only at hSw); obtain ⟨c0, c1, c2, c3⟩ := pb_cells ((hSw _ LN.out).trans PQ.out); go_simp; try with_reducible rfl)
                            simp only [Act.put, List.getElem_toArray, List.getElem_cons_succ, List.getElem_cons_zero, List.setIfInBounds_toArray, List.set_cons_zero, List.set_cons_succ]
                            refine wpAnyH_take (i := 7) (v := ?_) rfl (by kernel_rfl) (by kernel_rfl) (by kernel_rfl) (fun _ _ _ h => h) (Or.inl ⟨by rfl, ?_⟩) (by assumption) ?_
                            rotate_left
                            · (intro w hSw; (try dsimp only at hSw); go_simp; try with_reducible rfl)
                            simp only [Act.put, List.getElem_toArray, List.getElem_cons_succ, List.getElem_cons_zero, List.setIfInBounds_toArray, List.set_cons_zero, List.set_cons_succ]
                            refine wpAnyH_take (i := 8) (v := ?_) rfl (by kernel_rfl) (by kernel_rfl) (by kernel_rfl) (fun _ _ _ h => h) (Or.inl ⟨by rfl, ?_⟩) (by assumption) ?_
                            rotate_left
                            · (intro w hSw; (try dsimp only at hSw); go_simp; try with_reducible rfl)
                            simp only [Act.put, List.getElem_toArray, List.getElem_cons_succ, List.getElem_cons_zero, List.setIfInBounds_toArray, List.set_cons_zero, List.set_cons_succ]
                            refine wpAnyH_take (i := 9) rfl (by kernel_rfl) (by kernel_rfl) (by kernel_rfl) (fun _ _ _ h => h) (yieldsIf_load_mid (by rfl) 31 (.tmp 70) rfl (bq) (o + q * 8) rfl (bvals x) _ (fun w h => XR.out _ (fun q' hq' => h q' (by rw [← WN.out]; exact hq'))) Try.underlying31 rfl hix) (by assumption) ?_
                            simp only [Act.put, List.getElem_toArray, List.getElem_cons_succ, List.getElem_cons_zero, List.setIfInBounds_toArray, List.set_cons_zero, List.set_cons_succ]
                            refine wpAnyH_take (i := 10) (v := ?_) rfl (by kernel_rfl) (by kernel_rfl) (by kernel_rfl) (fun _ _ _ h => h) (Or.inl ⟨by rfl, ?_⟩) (by assumption) ?_
                            rotate_left
                            · (intro w hSw; (try dsimp only at hSw); go_simp; try with_reducible rfl)
                            simp only [Act.put, List.getElem_toArray, List.getElem_cons_succ, List.getElem_cons_zero, List.setIfInBounds_toArray, List.set_cons_zero, List.set_cons_succ]
                            refine wpAnyH_done (by kernel_rfl) ?_ _
                            go_wp2
                            go_ret
                            refine ⟨?_, by rw [HS.out]; exact KN.out _ XX.out⟩
                            have hno : ¬ fineP (at8 flat) n := fun h => by
                              refine (fineP_at h q HLT.out).2 k hkq ?_
                              rw [HY.out, HX.out]
                              exact of_decide_eq_true HD.out
                            rw [decide_eq_false hno]
                            rfl
                        · obtain rfl : k = q := by omega
                          obtain ⟨z, hz⟩ : ∃ z, decide (x = zeros 8) = z := ⟨_, rfl⟩
                          have HZ := Lib.hid hz
                          have C18 : Hid (Calls Try.prog 49 #[.agg (ba x)] wr fun e w'' => e = .returned (.bool z) ∧ Below wr.heap.size wr w'') := by
                            have := kZero x wr LX.out
                            rw [hz] at this
                            exact this
                          have RX : Hid (wr.rangeAt bq (o + k * 8) (bvals x)) := by
                            show World.rangeAt _ _ _ _
                            rw [← HX.out]
                            exact key_range (HSR.out.keep fun q' hq' => BI.out.block q' (by rw [← HS.out]; exact hq')) hlt
                          obtain ⟨c0, c1, c2, c3⟩ := pb_cells PQ.out
                          clear hz
                          cases z
                          · go_wp2_with (first
                              | (refine wpList_load_mid rfl 31 (.tmp 76) rfl bq (o + k * 8) rfl (bvals x) _ RX.out Try.underlying31 rfl hix ?_
                                 rw [← ba_bvals x])
                              | (go_at_call 49
                                 refine C18.out.mono ?_
                                 rintro e w5 ⟨rfl, hb⟩
                                 have B5 : Hid (Below S w w5) := BI.out.trans (hb.mono (Nat.le_of_lt PSi.out))
                                 have P5 : Hid (PB w5 S a b c (.slice (some ⟨bq, o, none⟩) n cap)) := (hb.block _ PSi.out).trans PQ.out
                                 clear hb c0 c1 c2 c3)
                              | fail)
                            go_roundw
                            case rel => exact ⟨k + 1, by omega, by go_num, fun j hj => by
                              by_cases e : j = k
                              · subst e
                                refine ⟨?_, fun i hi => ?_⟩
                                · rw [HX.out]; exact of_decide_eq_false HZ.out
                                · rw [HX.out]; exact JI.out i hi
                              · exact JR.out j (by omega), B5.out, P5.out⟩
                            case measure => simp [intOf]; omega
                          · go_wp2_with (first
                              | (refine wpList_load_mid rfl 31 (.tmp 76) rfl bq (o + k * 8) rfl (bvals x) _ RX.out Try.underlying31 rfl hix ?_
                                 rw [← ba_bvals x])
                              | (go_at_call 49
                                 refine C18.out.mono ?_
                                 rintro e w5 ⟨rfl, hb⟩
                                 have B5 : Hid (Below S w w5) := BI.out.trans (hb.mono (Nat.le_of_lt PSi.out))
                                 clear hb c0 c1 c2 c3)
                              | fail)
                            go_ret
                            refine ⟨?_, by rw [HS.out]; exact B5.out⟩
                            have hno : ¬ fineP (at8 flat) n := fun h => by
                              refine (fineP_at h k HLT.out).1 ?_
                              rw [HX.out]
                              exact of_decide_eq_true HZ.out
                            rw [decide_eq_false hno]
                            rfl
                    · have hqn : q = n := by omega
                      subst hqn
                      have hf : fineP (at8 flat) q := fineP_of fun j hj => JR.out j hj
                      go_wp2
                      go_ret
                      exact ⟨by rw [decide_eq_true hf]; rfl, by rw [HS.out]; exact BR.out⟩
end Go.Proofs.Ytmcmdpbdipgahaa
