/-
  set.
-/
import Derived.Test.YtgagcblddcibkaaDoorS3
import Derived.WalkSpells
import Derived.Carry
namespace Go.Proofs.YtgagcblddcibkaaDoor
open Go.RowKit
open Go.Maps
attribute [local irreducible] ua da ba kk sw S8.run rt hs comp splice outB sha msg twoM twoN ab zeros MapIs mrow
def wf64 (k : Int) : Prop := (Lit.int .i64 k).wf = true
set_option maxRecDepth 100000 in
set_option maxHeartbeats 4000000 in
theorem p30 (B T s N : Nat) (k : Int) (h : List Int) (ms : Nat → Option Nat) (F : Nat → Int → List Int) (w : World) (hT : Tr w B T ms F N) (hs : s < 17) (hN : N < 100000) (hw : wf64 k) (hh : h.length = 8) :
    Calls Tryd.prog 30 #[.pointer (some ⟨T, 0, none⟩), .int .i64 s, .int .i64 k, .agg (ba h)] w fun e w' => e = .returned (.tuple #[]) ∧ ∃ ms', Tr w' B T ms' (updL F s (upd (F s) k h)) (N + 1) ∧ Chg w w' T ms ms' := by
  obtain ⟨G, hG⟩ : ∃ G, updL F s (upd (F s) k h) = G := ⟨_, rfl⟩
  have HG := Lib.hid hG
  rw [hG]
  clear hG
  have qT : ∀ (w : World) (r : Option Nat), (binOp .eql 55 (.map r) (.map none)).run Tryd.prog w = .ok (.bool r.isNone) w := fun w r => run_eql_map_nil w _ _ _ r Tryd.underlying55
  have HT := Lib.hid hT
  have HH := Lib.hid hh
  have HW : Hid ((Lit.int .i64 k).wf = true) := hw
  obtain ⟨S, hS⟩ : ∃ S, w.heap.size = S := ⟨_, rfl⟩
  have HS := Lib.hid hS
  obtain ⟨h0, h1, h2, h3, h4, h5, h6, h7, hh8⟩ := c8cells h hh
  have HH8 := Lib.hid hh8
  have T0 : Hid ((w.alloc (Obj.cells #[.int .u8 h0, .int .u8 h1, .int .u8 h2, .int .u8 h3, .int .u8 h4, .int .u8 h5, .int .u8 h6, .int .u8 h7] 29)).heap[S]? = some (.cells #[.int .u8 h0, .int .u8 h1, .int .u8 h2, .int .u8 h3, .int .u8 h4, .int .u8 h5, .int .u8 h6, .int .u8 h7] 29 (0, 0))) := by subst hS; exact heap_alloc_last w _
  have B0 : Hid (Below S w (w.alloc (Obj.cells #[.int .u8 h0, .int .u8 h1, .int .u8 h2, .int .u8 h3, .int .u8 h4, .int .u8 h5, .int .u8 h6, .int .u8 h7] 29))) := by subst hS; exact (Below.refl _ w).alloc (Nat.le_refl _) _
  have CX : Hid (∀ w', Calls Tryd.prog 32 #[.agg #[.int .u8 h0, .int .u8 h1, .int .u8 h2, .int .u8 h3, .int .u8 h4, .int .u8 h5, .int .u8 h6, .int .u8 h7]] w' fun e w'' => e = .returned (.bool (decide (h = zeros 8))) ∧ Below w'.heap.size w' w'') := fun w' => by
    have := c16 h w' HH.out
    generalize decide (h = zeros 8) = b at *
    rw [hh8, ba_lit] at this
    exact this
  have HTS : Hid (T < S) := by show _ < _; rw [← hS]; exact hT.lt
  have s0 : (0 : Int) ≤ (s : Int) := by omega
  have s1 : (s : Int) < 17 := by omega
  have HSS : Hid (s < 17) := hs
  have HNN : Hid (N < maxLen ∧ 0 < maxLen) := by show _ ∧ _; unfold maxLen; omega
  rcases Classical.em (h = zeros 8) with ex | ex
  · rw [decide_eq_true ex] at CX
    have HE := Lib.hid ex
    rw [hh8, ba_lit]
    clear hh8 hT hh hw hs hN ex
    go_enter Tryd.func30, Tryd.ntmps30
    go_wp2_with fail
    clear hS
    generalize w.alloc (Obj.cells #[.int .u8 h0, .int .u8 h1, .int .u8 h2, .int .u8 h3, .int .u8 h4, .int .u8 h5, .int .u8 h6, .int .u8 h7] 29) = w0 at *
    refine (CX.out w0).mono ?_
    rintro e w1 ⟨rfl, hb1⟩
    have B1 : Hid (Below w.heap.size w w1) := by show Below _ _ _; rw [HS.out]; exact B0.out.trans (hb1.mono (Nat.le_of_lt (lt_of_block T0.out)))
    have T1 : Hid (Tr w1 B T ms F N) := HT.out.grow B1.out
    have c1 := T1.out.cell s HSS.out
    clear hb1
    cases hm : ms s with
    | none =>
      have HM := Lib.hid hm
      rw [hm] at c1
      clear hm
      go_wp2_with (at_delete; refine wpList_mdelN rfl (.tmp 15) (.tmp 16) rfl k rfl rfl HW.out ?_)
      refine bodyPost_ret (v := .tuple #[]) (by simp [results, Tryd.results30, go_sem]) rfl ⟨rfl, ms, ?_, Chg.of_below B1.out⟩
      have e1 : updL F s (upd (F s) k h) = F := by
        funext j
        by_cases e : j = s
        · subst e
          rw [updL_same]
          funext i
          by_cases e2 : i = k
          · subst e2
            rw [upd_same, HE.out, T1.out.nil j HSS.out HM.out]
          · rw [upd_other _ _ e2]
        · rw [updL_other _ _ e]
      rw [← HG.out, e1]
      exact T1.out.mono (Nat.le_succ N)
    | some b =>
      have HM := Lib.hid hm
      rw [hm] at c1
      clear hm
      have M1 : Hid (MapIs w1 b N (F s)) := (T1.out.map s b HSS.out HM.out).2.2
      go_wp2_with (at_delete; refine wpList_mdel rfl (.tmp 15) (.tmp 16) rfl b N (F s) k rfl rfl M1.out HW.out ?_; intro w2 hm2 ht2)
      have R := T1.out.turn HSS.out HM.out ht2 (hm2.mono (Nat.le_succ N)) (Nat.le_succ N)
      refine bodyPost_ret (v := .tuple #[]) (by simp [results, Tryd.results30, go_sem]) rfl ⟨rfl, ms, ?_, (Chg.of_below B1.out).trans R.2⟩
      rw [← HG.out, HE.out]
      exact R.1
  · rw [decide_eq_false ex] at CX
    have HE := Lib.hid ex
    rw [hh8, ba_lit]
    clear hh8 hT hh hw hs hN ex
    go_enter Tryd.func30, Tryd.ntmps30
    go_wp2_with fail
    clear hS
    generalize w.alloc (Obj.cells #[.int .u8 h0, .int .u8 h1, .int .u8 h2, .int .u8 h3, .int .u8 h4, .int .u8 h5, .int .u8 h6, .int .u8 h7] 29) = w0 at *
    refine (CX.out w0).mono ?_
    rintro e w1 ⟨rfl, hb1⟩
    have B1 : Hid (Below w.heap.size w w1) := by show Below _ _ _; rw [HS.out]; exact B0.out.trans (hb1.mono (Nat.le_of_lt (lt_of_block T0.out)))
    have T1 : Hid (Tr w1 B T ms F N) := HT.out.grow B1.out
    have X1 : Hid (w1.heap[S]? = some (.cells #[.int .u8 h0, .int .u8 h1, .int .u8 h2, .int .u8 h3, .int .u8 h4, .int .u8 h5, .int .u8 h6, .int .u8 h7] 29 (0, 0))) := (hb1.block S (lt_of_block T0.out)).trans T0.out
    have c1 := T1.out.cell s HSS.out
    obtain ⟨u0, u1, u2, u3, u4, u5, u6, u7⟩ := cellsR h0 h1 h2 h3 h4 h5 h6 h7 X1.out
    clear hb1
    cases hm : ms s with
    | none =>
      have HM := Lib.hid hm
      rw [hm] at c1
      clear hm
      have f1 := free_of T1.out.row s
      have n1 := World.new_ne w1 _ c1
      obtain ⟨Z, hZ⟩ : ∃ Z, w1.heap.size = Z := ⟨_, rfl⟩
      have mk := fun w => run_makeMap (P := Tryd.prog) 55 w
      have R0 := T1.out.lay HSS.out HM.out
      rw [hZ] at R0
      have R := Lib.hid R0
      have L0 : Hid (∀ q, q ≠ T → q < Z → ((w1.alloc (.map #[] 0)).setCell ⟨T, s, none⟩ (.map (some Z))).heap[q]? = w1.heap[q]?) := fun q h1 h2 => (heap_setCell_other _ ⟨T, s, none⟩ q _ h1).trans (Below.heap_alloc w1 _ q (by rw [hZ]; exact h2))
      clear R0
      have cA : (w1.alloc (.map #[] 0)).cell? ⟨T, s, none⟩ = some (.map none) := (World.cell?_of_block (w := w1) (a := ⟨T, s, none⟩) (Below.heap_alloc w1 _ T T1.out.lt)).trans c1
      have fA : (w1.alloc (.map #[] 0)).frozen? ⟨T, s, none⟩ = false := (World.frozen?_of_block (w := w1) (a := ⟨T, s, none⟩) (Below.heap_alloc w1 _ T T1.out.lt)).trans f1
      clear f1 n1
      go_wp2_with fail
      have X2 : Hid (((w1.alloc (.map #[] 0)).setCell ⟨T, s, none⟩ (.map (some Z))).heap[S]? = some (.cells #[.int .u8 h0, .int .u8 h1, .int .u8 h2, .int .u8 h3, .int .u8 h4, .int .u8 h5, .int .u8 h6, .int .u8 h7] 29 (0, 0))) := (L0.out S (by have := HTS.out; omega) (by rw [← hZ]; exact lt_of_block X1.out)).trans X1.out
      clear c1 cA fA u0 u1 u2 u3 u4 u5 u6 u7 L0
      generalize (w1.alloc (.map #[] 0)).setCell ⟨T, s, none⟩ (.map (some Z)) = w2 at *
      have c2 := R.out.1.cell s HSS.out
      rw [updm_same] at c2
      obtain ⟨u0, u1, u2, u3, u4, u5, u6, u7⟩ := cellsR h0 h1 h2 h3 h4 h5 h6 h7 X2.out
      have M2 : Hid (MapIs w2 Z N (F s)) := (R.out.1.map s Z HSS.out (updm_same _ _ _)).2.2
      go_still_tail 8, (by kernel_rfl)
      refine wpList_mput rfl (.tmp 35) (.tmp 36) (.tmp 37) rfl Z N (F s) k h rfl rfl (by rw [HH8.out, ba_lit]; rfl) (M2.out.keep rfl) HNN.out.1 HW.out HH.out HE.out ?_
      intro w3 hm3 ht3
      have R3 := (R.out.1.keep (w' := w2.drewN _) fun _ _ => rfl).turn HSS.out (updm_same _ _ _) ht3 hm3 (Nat.le_succ N)
      go_wp2
      refine bodyPost_end (v := .tuple #[]) (by simp [results, Tryd.results30, go_sem]) rfl ⟨rfl, _, by rw [← HG.out]; exact R3.1, (Chg.of_below B1.out).trans (R.out.2.trans ((Chg.of_below (below_drewN (Below.refl _ _) _)).trans R3.2))⟩
    | some b =>
      have HM := Lib.hid hm
      rw [hm] at c1
      clear hm
      have M1 : Hid (MapIs w1 b N (F s)) := (T1.out.map s b HSS.out HM.out).2.2
      go_wp2_with fail
      go_still_tail 8, (by kernel_rfl)
      refine wpList_mput rfl (.tmp 35) (.tmp 36) (.tmp 37) rfl b N (F s) k h rfl rfl (by rw [HH8.out, ba_lit]; rfl) (M1.out.keep rfl) HNN.out.1 HW.out HH.out HE.out ?_
      intro w2 hm2 ht2
      have R := (T1.out.keep (w' := w1.drewN _) fun _ _ => rfl).turn HSS.out HM.out ht2 hm2 (Nat.le_succ N)
      go_wp2
      refine bodyPost_end (v := .tuple #[]) (by simp [results, Tryd.results30, go_sem]) rfl ⟨rfl, ms, by rw [← HG.out]; exact R.1, (Chg.of_below (below_drewN B1.out _)).trans R.2⟩
end Go.Proofs.YtgagcblddcibkaaDoor
