/-
  The walk of the checks.
-/
import Derived.Test.YthdejiadokpafaaDoorM15
namespace Go.Proofs.YthdejiadokpafaaDoor
open Go.RowKit
theorem c16cells (l : List Int) (h : l.length = 16) : ∃ x0 x1 x2 x3 x4 x5 x6 x7 y0 y1 y2 y3 y4 y5 y6 y7, l.take 8 = [x0, x1, x2, x3, x4, x5, x6, x7] ∧ l.drop 8 = [y0, y1, y2, y3, y4, y5, y6, y7] ∧ ∀ (w : World) (V t : Nat), BA w V t l → w.cell? ⟨V, 0, none⟩ = some (.int .u8 x0) ∧ w.cell? ⟨V, 1, none⟩ = some (.int .u8 x1) ∧ w.cell? ⟨V, 2, none⟩ = some (.int .u8 x2) ∧ w.cell? ⟨V, 3, none⟩ = some (.int .u8 x3) ∧ w.cell? ⟨V, 4, none⟩ = some (.int .u8 x4) ∧ w.cell? ⟨V, 5, none⟩ = some (.int .u8 x5) ∧ w.cell? ⟨V, 6, none⟩ = some (.int .u8 x6) ∧ w.cell? ⟨V, 7, none⟩ = some (.int .u8 x7) ∧ w.cell? ⟨V, 8, none⟩ = some (.int .u8 y0) ∧ w.cell? ⟨V, 9, none⟩ = some (.int .u8 y1) ∧ w.cell? ⟨V, 10, none⟩ = some (.int .u8 y2) ∧ w.cell? ⟨V, 11, none⟩ = some (.int .u8 y3) ∧ w.cell? ⟨V, 12, none⟩ = some (.int .u8 y4) ∧ w.cell? ⟨V, 13, none⟩ = some (.int .u8 y5) ∧ w.cell? ⟨V, 14, none⟩ = some (.int .u8 y6) ∧ w.cell? ⟨V, 15, none⟩ = some (.int .u8 y7) := by
  obtain ⟨x0, x1, x2, x3, x4, x5, x6, x7, hx⟩ := c8cells (l.take 8) (by rw [List.length_take]; omega)
  obtain ⟨y0, y1, y2, y3, y4, y5, y6, y7, hy⟩ := c8cells (l.drop 8) (by rw [List.length_drop]; omega)
  refine ⟨x0, x1, x2, x3, x4, x5, x6, x7, y0, y1, y2, y3, y4, y5, y6, y7, hx, hy, fun w V t hb => ?_⟩
  have e : l = [x0, x1, x2, x3, x4, x5, x6, x7, y0, y1, y2, y3, y4, y5, y6, y7] := by rw [← List.take_append_drop 8 l, hx, hy]; rfl
  subst e
  exact ⟨ba_cell hb 0 (by simp), ba_cell hb 1 (by simp), ba_cell hb 2 (by simp), ba_cell hb 3 (by simp), ba_cell hb 4 (by simp), ba_cell hb 5 (by simp), ba_cell hb 6 (by simp), ba_cell hb 7 (by simp), ba_cell hb 8 (by simp), ba_cell hb 9 (by simp), ba_cell hb 10 (by simp), ba_cell hb 11 (by simp), ba_cell hb 12 (by simp), ba_cell hb 13 (by simp), ba_cell hb 14 (by simp), ba_cell hb 15 (by simp)⟩
attribute [local irreducible] ua da ba kk sw S8.run rt hs comp splice outB sha msg rootF leafH twoH stepsF cutN leadF provL bvals rootV l24 chkB
set_option maxRecDepth 100000 in
set_option maxHeartbeats 8000000 in
theorem q5 (hh : List Int) (a b : Int) (A : Option Addr) (m cap : Nat) (pr : List Int) (w : World) (hk : Keys w) (hl : hh.length = 16) (hs : Src w A (8 * m) pr) (hcap : m ≤ cap) :
    Calls Tryd.prog 5 #[.agg (ba hh), .agg #[.int .i64 a, .int .i64 b], .slice A m cap] w fun e w' => e = .returned (.bool true) ∧ Below w.heap.size w w' := by
  have HK := Lib.hid hk
  have HP : Hid (0 < w.heap.size) := keys_pos hk
  have HX := Lib.hid hs
  obtain ⟨V, hV⟩ : ∃ V, w.heap.size = V := ⟨_, rfl⟩
  have HV := Lib.hid hV
  have T0 : Hid (BA ((w.alloc (Obj.cells (ba hh) 33)).alloc (Obj.cells #[.int .i64 a, .int .i64 b] 34)) V 33 hh) := by
    show _ = _
    subst hV
    exact (Below.heap_alloc _ _ _ (by simp)).trans (heap_alloc_last w _)
  have U0 : Hid (((w.alloc (Obj.cells (ba hh) 33)).alloc (Obj.cells #[.int .i64 a, .int .i64 b] 34)).heap[V + 1]? = some (.cells #[.int .i64 a, .int .i64 b] 34 (0, 0))) := by
    show _ = _
    subst hV
    have := heap_alloc_last (w.alloc (Obj.cells (ba hh) 33)) (Obj.cells #[.int .i64 a, .int .i64 b] 34)
    simp only [World.size_alloc] at this
    exact this
  have B0 : Hid (Below V w ((w.alloc (Obj.cells (ba hh) 33)).alloc (Obj.cells #[.int .i64 a, .int .i64 b] 34))) := by rw [← hV]; exact ((Below.refl _ w).alloc (Nat.le_refl _) _).alloc (by simp) _
  have KW : Hid (∀ w', Below V w w' → Keys w') := fun w' hb => keys_below HK.out hb (by rw [← HV.out]; exact HP.out)
  have SW : Hid (∀ w', Below V w w' → Src w' A (8 * m) pr) := fun w' hb => HX.out.keep fun q hq => hb.block q (by rw [← HV.out]; exact hq)
  have C7 := Lib.hid (p7 _ (KW.out _ B0.out))
  obtain ⟨x0, x1, x2, x3, x4, x5, x6, x7, y0, y1, y2, y3, y4, y5, y6, y7, hx, hy, hc⟩ := c16cells hh hl
  have HC := Lib.hid hc
  have HX8 : Hid ((hh.take 8).length = 8) := by show _ = _; rw [List.length_take]; omega
  have HY8 : Hid ((hh.drop 8).length = 8) := by show _ = _; rw [List.length_drop]; omega
  obtain ⟨q, hq⟩ : ∃ q, chkB (hh.take 8) (hh.drop 8) a b m pr = q := ⟨_, rfl⟩
  have E1 : Hid (∀ w', Below V w w' → Calls Tryd.prog 12 #[.agg #[.int .u8 x0, .int .u8 x1, .int .u8 x2, .int .u8 x3, .int .u8 x4, .int .u8 x5, .int .u8 x6, .int .u8 x7], .agg #[.int .u8 y0, .int .u8 y1, .int .u8 y2, .int .u8 y3, .int .u8 y4, .int .u8 y5, .int .u8 y6, .int .u8 y7], .int .i64 a, .int .i64 b, .slice A m cap] w' fun e w'' => e = .returned (.bool q) ∧ Below w'.heap.size w' w'') := fun w' hb => by
    have := p12 (hh.take 8) (hh.drop 8) a b A m cap pr w' (KW.out w' hb) HX8.out HY8.out (SW.out w' hb) hcap
    rw [hq, hx, hy, ba_lit, ba_lit] at this
    exact this
  by_cases hbig : 100 < m
  · have q1 : (100 : Int) < (m : Int) := by omega
    clear hc hx hy hq hs hk hcap hl E1 hbig
    go_enter Tryd.func5, Tryd.ntmps5
    go_wp2_with fail
    refine C7.out.mono ?_
    rintro e w1 ⟨rfl, hb1⟩
    have B1 : Hid (Below V w w1) := B0.out.trans (hb1.mono (Nat.le_of_lt (Nat.lt_of_succ_lt (lt_of_block U0.out))))
    clear hb1
    go_wp2
    go_ret
    exact ⟨rfl, by rw [HV.out]; exact B1.out⟩
  · have q1 : ¬ (100 : Int) < (m : Int) := by omega
    have E2 : Hid (∀ w', Below V w w' → Calls Tryd.prog 13 #[.agg #[.int .u8 x0, .int .u8 x1, .int .u8 x2, .int .u8 x3, .int .u8 x4, .int .u8 x5, .int .u8 x6, .int .u8 x7], .agg #[.int .u8 y0, .int .u8 y1, .int .u8 y2, .int .u8 y3, .int .u8 y4, .int .u8 y5, .int .u8 y6, .int .u8 y7], .int .i64 a, .int .i64 b, .slice A m cap] w' fun e w'' => e = .returned (.bool q) ∧ Below w'.heap.size w' w'') := fun w' hb => by
      have := r13 (hh.take 8) (hh.drop 8) a b A m cap pr w' (KW.out w' hb) HX8.out HY8.out (SW.out w' hb) (by omega) hcap
      rw [hq, hx, hy, ba_lit, ba_lit] at this
      exact this
    clear hc hx hy hq hs hk hcap hl hbig
    go_enter Tryd.func5, Tryd.ntmps5
    go_wp2_with fail
    clear hV
    generalize (w.alloc (Obj.cells (ba hh) 33)).alloc (Obj.cells #[.int .i64 a, .int .i64 b] 34) = w0 at *
    refine C7.out.mono ?_
    rintro e w1 ⟨rfl, hb1⟩
    have L0 : Hid (V + 1 < w0.heap.size) := lt_of_block U0.out
    have B1 : Hid (Below V w w1) := B0.out.trans (hb1.mono (by have := L0.out; omega))
    have T1 : Hid (BA w1 V 33 hh) := (hb1.block V (by have := L0.out; omega)).trans T0.out
    have U1 : Hid (w1.heap[V + 1]? = some (.cells #[.int .i64 a, .int .i64 b] 34 (0, 0))) := (hb1.block (V + 1) L0.out).trans U0.out
    have L1 : Hid (V + 1 < w1.heap.size) := lt_of_block U1.out
    have KF : Hid (∀ w', Below w1.heap.size w1 w' → (w'.cell? ⟨V, 0, none⟩ = some (.int .u8 x0) ∧ w'.cell? ⟨V, 1, none⟩ = some (.int .u8 x1) ∧ w'.cell? ⟨V, 2, none⟩ = some (.int .u8 x2) ∧ w'.cell? ⟨V, 3, none⟩ = some (.int .u8 x3) ∧ w'.cell? ⟨V, 4, none⟩ = some (.int .u8 x4) ∧ w'.cell? ⟨V, 5, none⟩ = some (.int .u8 x5) ∧ w'.cell? ⟨V, 6, none⟩ = some (.int .u8 x6) ∧ w'.cell? ⟨V, 7, none⟩ = some (.int .u8 x7) ∧ w'.cell? ⟨V, 8, none⟩ = some (.int .u8 y0) ∧ w'.cell? ⟨V, 9, none⟩ = some (.int .u8 y1) ∧ w'.cell? ⟨V, 10, none⟩ = some (.int .u8 y2) ∧ w'.cell? ⟨V, 11, none⟩ = some (.int .u8 y3) ∧ w'.cell? ⟨V, 12, none⟩ = some (.int .u8 y4) ∧ w'.cell? ⟨V, 13, none⟩ = some (.int .u8 y5) ∧ w'.cell? ⟨V, 14, none⟩ = some (.int .u8 y6) ∧ w'.cell? ⟨V, 15, none⟩ = some (.int .u8 y7)) ∧ (w'.cell? ⟨V + 1, 0, none⟩ = some (.int .i64 a) ∧ w'.cell? ⟨V + 1, 1, none⟩ = some (.int .i64 b))) := fun w' hb => ⟨HC.out w' V 33 ((hb.block V (by have := L1.out; omega)).trans T1.out), by rw [cell_of_row w' (V + 1) 0 _ 34 (0, 0) ((hb.block (V + 1) L1.out).trans U1.out)]; rfl, by rw [cell_of_row w' (V + 1) 1 _ 34 (0, 0) ((hb.block (V + 1) L1.out).trans U1.out)]; rfl⟩
    have BB : Hid (∀ w', Below w1.heap.size w1 w' → Below V w w') := fun w' hb => B1.out.trans (hb.mono (by have := L1.out; omega))
    have X0 : Hid (Below w1.heap.size w1 w1) := Below.refl _ _
    clear hb1
    obtain ⟨⟨u0, u1, u2, u3, u4, u5, u6, u7, u8, u9, u10, u11, u12, u13, u14, u15⟩, v0, v1⟩ := KF.out w1 X0.out
    go_wp2_with fail
    go_region_held3 (fun w' => (w'.cell? ⟨V, 0, none⟩ = some (.int .u8 x0) ∧ w'.cell? ⟨V, 1, none⟩ = some (.int .u8 x1) ∧ w'.cell? ⟨V, 2, none⟩ = some (.int .u8 x2) ∧ w'.cell? ⟨V, 3, none⟩ = some (.int .u8 x3) ∧ w'.cell? ⟨V, 4, none⟩ = some (.int .u8 x4) ∧ w'.cell? ⟨V, 5, none⟩ = some (.int .u8 x5) ∧ w'.cell? ⟨V, 6, none⟩ = some (.int .u8 x6) ∧ w'.cell? ⟨V, 7, none⟩ = some (.int .u8 x7) ∧ w'.cell? ⟨V, 8, none⟩ = some (.int .u8 y0) ∧ w'.cell? ⟨V, 9, none⟩ = some (.int .u8 y1) ∧ w'.cell? ⟨V, 10, none⟩ = some (.int .u8 y2) ∧ w'.cell? ⟨V, 11, none⟩ = some (.int .u8 y3) ∧ w'.cell? ⟨V, 12, none⟩ = some (.int .u8 y4) ∧ w'.cell? ⟨V, 13, none⟩ = some (.int .u8 y5) ∧ w'.cell? ⟨V, 14, none⟩ = some (.int .u8 y6) ∧ w'.cell? ⟨V, 15, none⟩ = some (.int .u8 y7)) ∧ (w'.cell? ⟨V + 1, 0, none⟩ = some (.int .i64 a) ∧ w'.cell? ⟨V + 1, 1, none⟩ = some (.int .i64 b))) (first | (with_reducible exact KKa.out) | (with_reducible exact KKb.out) | go_keep)
      (first
        | (go_at_call 12; refine (E1.out _ (BB.out _ (by first | exact X0.out | exact X0.out.drew))).mono ?_; rintro e wa ⟨rfl, hba⟩; have Xa : Hid (Below w1.heap.size w1 wa) := (by first | exact X0.out.trans (hba.mono X0.out.size) | exact X0.out.drew.trans (hba.mono X0.out.drew.size)); have KKa := Lib.hid (KF.out wa Xa.out); clear hba)
        | (go_at_call 13; refine (E2.out _ (BB.out _ (by first | exact Xa.out | exact Xa.out.drew))).mono ?_; rintro e wb ⟨rfl, hbb⟩; have Xb : Hid (Below w1.heap.size w1 wb) := (by first | exact Xa.out.trans (hbb.mono Xa.out.size) | exact Xa.out.drew.trans (hbb.mono Xa.out.drew.size)); have KKb := Lib.hid (KF.out wb Xb.out); clear hbb))
    rename_i hHeld
    clear hHeld
    go_wp2
    go_ret
    exact ⟨by simp, by rw [HV.out]; exact BB.out _ Xb.out⟩
theorem walkChecks (hh : List Int) (z : List Int) (A : Option Addr) (m cap : Nat) (pr : List Int) (w : World) (hk : Keys w) (hl : hh.length = 8 * 2) (hz : z.length = 2) (hs : Src w A (8 * m) pr) (hcap : m ≤ cap) :
    Calls Tryd.prog 5 #[.agg (ba hh), .agg (z.map (.int .i64)).toArray, .slice A m cap] w fun e w' => e = .returned (.bool true) ∧ Below w.heap.size w w' := by
  match z, hz with
  | [a, b], _ => exact q5 hh a b A m cap pr w hk hl hs hcap
end Go.Proofs.YthdejiadokpafaaDoor
