/-
  The node above two; may there be a place?
-/
import Derived.Test.YtgagcblddcibkaaDoorH21
import Derived.Test.YtgagcblddcibkaaDoorH14
namespace Go.Proofs.YtgagcblddcibkaaDoor
open Go.RowKit
/-- what two nodes digest to -/
def twoN (x y : List Int) : List Int := (sha (twoM 110 x y)).take 8
def ab (x y : List Int) : List Int := if x = zeros 8 ∧ y = zeros 8 then zeros 8 else twoN x y
theorem twoN_eq (x y : List Int) : (sha (twoM 110 x y)).take 8 = twoN x y := rfl
theorem twoN_len (x y : List Int) : (twoN x y).length = 8 := by unfold twoN; rw [List.length_take, sha_len]; omega
theorem ab_len (x y : List Int) : (ab x y).length = 8 := by
  unfold ab
  split
  · rfl
  · exact twoN_len x y
theorem ab_zero : ab (zeros 8) (zeros 8) = zeros 8 := by unfold ab; rw [if_pos ⟨rfl, rfl⟩]
theorem ab_left {x y : List Int} (h : ¬ x = zeros 8) : ab x y = twoN x y := by unfold ab; rw [if_neg (fun e => h e.1)]
theorem ab_right {x y : List Int} (h : ¬ y = zeros 8) : ab x y = twoN x y := by unfold ab; rw [if_neg (fun e => h e.2)]
theorem eqh (x y : List Int) (w : World) (hx : x.length = 8) (hy : y.length = 8) : (Op.equalIn 10000 29 (.agg (ba x)) (.agg (ba y))).run Tryd.prog w = .ok (decide (x = y)) w := eq_ba 29 8 9998 Tryd.underlying29 x y w hx hy
theorem b29 (w : World) : (Instr.build 29 #[]).run Tryd.prog w = .ok (.agg (ba (zeros 8))) w := by kernel_rfl
theorem cellsR {w : World} {b : Nat} {t : TypeId} (x0 x1 x2 x3 x4 x5 x6 x7 : Int) (h : w.heap[b]? = some (.cells #[.int .u8 x0, .int .u8 x1, .int .u8 x2, .int .u8 x3, .int .u8 x4, .int .u8 x5, .int .u8 x6, .int .u8 x7] t (0, 0))) : (w.cell? ⟨b, 0, none⟩ = some (.int .u8 x0) ∧ w.cell? ⟨b, 1, none⟩ = some (.int .u8 x1) ∧ w.cell? ⟨b, 2, none⟩ = some (.int .u8 x2) ∧ w.cell? ⟨b, 3, none⟩ = some (.int .u8 x3) ∧ w.cell? ⟨b, 4, none⟩ = some (.int .u8 x4) ∧ w.cell? ⟨b, 5, none⟩ = some (.int .u8 x5) ∧ w.cell? ⟨b, 6, none⟩ = some (.int .u8 x6) ∧ w.cell? ⟨b, 7, none⟩ = some (.int .u8 x7)) := cells8 (t := t) x0 x1 x2 x3 x4 x5 x6 x7 h
/-- the document's Zero -/
theorem c35 (x : List Int) (w : World) (hx : x.length = 8) : Calls Tryd.prog 35 #[.agg (ba x)] w fun e w' => e = .returned (.bool (decide (x = zeros 8))) ∧ Below w.heap.size w w' := by
  obtain ⟨x0, x1, x2, x3, x4, x5, x6, x7, rfl⟩ := c8cells x hx
  have heq : ∀ w, (Op.equalIn 10000 29 (.agg #[.int .u8 x0, .int .u8 x1, .int .u8 x2, .int .u8 x3, .int .u8 x4, .int .u8 x5, .int .u8 x6, .int .u8 x7]) (.agg #[.int .u8 0, .int .u8 0, .int .u8 0, .int .u8 0, .int .u8 0, .int .u8 0, .int .u8 0, .int .u8 0])).run Tryd.prog w = .ok (decide ([x0, x1, x2, x3, x4, x5, x6, x7] = zeros 8)) w := fun w => by
    have := eq_ba 29 8 9998 Tryd.underlying29 [x0, x1, x2, x3, x4, x5, x6, x7] (zeros 8) w rfl rfl
    rw [ba_lit, ba8] at this
    exact this
  rw [ba_lit]
  go_enter Tryd.func35, Tryd.ntmps35
  go_wp2
  go_ret
  exact ⟨rfl, (Below.refl _ _).alloc (Nat.le_refl _) _⟩
set_option maxHeartbeats 1000000 in
/-- may: any number -/
theorem p25 (i : Int) (w : World) : Calls Tryd.prog 25 #[.int .i64 i] w fun e w' => e = .returned (.bool (decide (0 ≤ i) && decide (i < 65536))) ∧ w' = w := by
  by_cases h1 : 0 ≤ i
  · by_cases h2 : i < 65536
    · rw [decide_eq_true h1, decide_eq_true h2]
      go_enter Tryd.func25, Tryd.ntmps25
      go_wp2
      go_ret
      exact ⟨rfl, rfl⟩
    · rw [decide_eq_true h1, decide_eq_false h2]
      go_enter Tryd.func25, Tryd.ntmps25
      go_wp2
      go_ret
      exact ⟨rfl, rfl⟩
  · rw [decide_eq_false h1]
    go_enter Tryd.func25, Tryd.ntmps25
    go_wp2
    go_ret
    exact ⟨rfl, rfl⟩
attribute [local irreducible] ua da ba kk sw S8.run rt hs comp splice outB sha msg
theorem twoP (x y : List Int) (w : World) (hk : Keys w) (hx : x.length = 8) (hy : y.length = 8) : Calls Tryd.prog 38 #[.int .u8 110, .agg (ba x), .agg (ba y)] w fun e w' => e = .returned (.agg (ba (twoN x y))) ∧ Below w.heap.size w w' := c14 110 x y w hk hx hy
theorem twoR (x y : List Int) (w : World) (_ : Keys w) (hx : x.length = 8) (hy : y.length = 8) : Calls Tryd.prog 39 #[.int .u8 110, .agg (ba x), .agg (ba y)] w fun e w' => e = .returned (.agg (ba (twoN x y))) ∧ Below w.heap.size w w' := c15 sum13 110 x y w hx hy
attribute [local irreducible] twoM twoN ab
set_option maxRecDepth 100000 in
set_option maxHeartbeats 4000000 in
theorem p27 (x y : List Int) (w : World) (hk : Keys w) (hx : x.length = 8) (hy : y.length = 8) :
    Calls Tryd.prog 27 #[.agg (ba x), .agg (ba y)] w fun e w' => e = .returned (.agg (ba (ab x y))) ∧ Below w.heap.size w w' := by
  have h4 := z27
  have h5 := b29
  have HK := Lib.hid hk
  have HX := Lib.hid hx
  have HY := Lib.hid hy
  have HP : Hid (0 < w.heap.size) := keys_pos hk
  obtain ⟨S, hS⟩ : ∃ S, w.heap.size = S := ⟨_, rfl⟩
  have HS := Lib.hid hS
  obtain ⟨x0, x1, x2, x3, x4, x5, x6, x7, hx8⟩ := c8cells x hx
  obtain ⟨y0, y1, y2, y3, y4, y5, y6, y7, hy8⟩ := c8cells y hy
  have HX8 := Lib.hid hx8
  have HY8 := Lib.hid hy8
  have T0 : Hid ((w.alloc (Obj.cells #[.int .u8 x0, .int .u8 x1, .int .u8 x2, .int .u8 x3, .int .u8 x4, .int .u8 x5, .int .u8 x6, .int .u8 x7] 29)).heap[S]? = some (.cells #[.int .u8 x0, .int .u8 x1, .int .u8 x2, .int .u8 x3, .int .u8 x4, .int .u8 x5, .int .u8 x6, .int .u8 x7] 29 (0, 0))) := by subst hS; exact heap_alloc_last w _
  have T1 : Hid (((w.alloc (Obj.cells #[.int .u8 x0, .int .u8 x1, .int .u8 x2, .int .u8 x3, .int .u8 x4, .int .u8 x5, .int .u8 x6, .int .u8 x7] 29)).alloc (Obj.cells #[.int .u8 y0, .int .u8 y1, .int .u8 y2, .int .u8 y3, .int .u8 y4, .int .u8 y5, .int .u8 y6, .int .u8 y7] 29)).heap[S + 1]? = some (.cells #[.int .u8 y0, .int .u8 y1, .int .u8 y2, .int .u8 y3, .int .u8 y4, .int .u8 y5, .int .u8 y6, .int .u8 y7] 29 (0, 0))) := by
    show _ = _
    subst hS
    have := heap_alloc_last (w.alloc (Obj.cells #[.int .u8 x0, .int .u8 x1, .int .u8 x2, .int .u8 x3, .int .u8 x4, .int .u8 x5, .int .u8 x6, .int .u8 x7] 29)) (Obj.cells #[.int .u8 y0, .int .u8 y1, .int .u8 y2, .int .u8 y3, .int .u8 y4, .int .u8 y5, .int .u8 y6, .int .u8 y7] 29)
    simp only [World.size_alloc] at this
    exact this
  have R0 : Hid (BA (((w.alloc (Obj.cells #[.int .u8 x0, .int .u8 x1, .int .u8 x2, .int .u8 x3, .int .u8 x4, .int .u8 x5, .int .u8 x6, .int .u8 x7] 29)).alloc (Obj.cells #[.int .u8 y0, .int .u8 y1, .int .u8 y2, .int .u8 y3, .int .u8 y4, .int .u8 y5, .int .u8 y6, .int .u8 y7] 29)).alloc (Obj.cells (ba (zeros 8)) 29)) (S + 2) 29 (zeros 8)) := by
    show _ = _
    subst hS
    have := heap_alloc_last ((w.alloc (Obj.cells #[.int .u8 x0, .int .u8 x1, .int .u8 x2, .int .u8 x3, .int .u8 x4, .int .u8 x5, .int .u8 x6, .int .u8 x7] 29)).alloc (Obj.cells #[.int .u8 y0, .int .u8 y1, .int .u8 y2, .int .u8 y3, .int .u8 y4, .int .u8 y5, .int .u8 y6, .int .u8 y7] 29)) (Obj.cells (ba (zeros 8)) 29)
    simp only [World.size_alloc] at this
    exact this
  have Y0 : Hid ((((w.alloc (Obj.cells #[.int .u8 x0, .int .u8 x1, .int .u8 x2, .int .u8 x3, .int .u8 x4, .int .u8 x5, .int .u8 x6, .int .u8 x7] 29)).alloc (Obj.cells #[.int .u8 y0, .int .u8 y1, .int .u8 y2, .int .u8 y3, .int .u8 y4, .int .u8 y5, .int .u8 y6, .int .u8 y7] 29)).alloc (Obj.cells (ba (zeros 8)) 29)).heap[S + 1]? = some (.cells #[.int .u8 y0, .int .u8 y1, .int .u8 y2, .int .u8 y3, .int .u8 y4, .int .u8 y5, .int .u8 y6, .int .u8 y7] 29 (0, 0))) := (Below.heap_alloc _ _ _ (lt_of_block T1.out)).trans T1.out
  have X0 : Hid ((((w.alloc (Obj.cells #[.int .u8 x0, .int .u8 x1, .int .u8 x2, .int .u8 x3, .int .u8 x4, .int .u8 x5, .int .u8 x6, .int .u8 x7] 29)).alloc (Obj.cells #[.int .u8 y0, .int .u8 y1, .int .u8 y2, .int .u8 y3, .int .u8 y4, .int .u8 y5, .int .u8 y6, .int .u8 y7] 29)).alloc (Obj.cells (ba (zeros 8)) 29)).heap[S]? = some (.cells #[.int .u8 x0, .int .u8 x1, .int .u8 x2, .int .u8 x3, .int .u8 x4, .int .u8 x5, .int .u8 x6, .int .u8 x7] 29 (0, 0))) := (Below.heap_alloc _ _ _ (by have := lt_of_block T1.out; omega)).trans ((Below.heap_alloc _ _ _ (lt_of_block T0.out)).trans T0.out)
  have B0 : Hid (Below S w (((w.alloc (Obj.cells #[.int .u8 x0, .int .u8 x1, .int .u8 x2, .int .u8 x3, .int .u8 x4, .int .u8 x5, .int .u8 x6, .int .u8 x7] 29)).alloc (Obj.cells #[.int .u8 y0, .int .u8 y1, .int .u8 y2, .int .u8 y3, .int .u8 y4, .int .u8 y5, .int .u8 y6, .int .u8 y7] 29)).alloc (Obj.cells (ba (zeros 8)) 29))) := by subst hS; exact (((Below.refl _ w).alloc (Nat.le_refl _) _).alloc (by simp) _).alloc (by simp; omega) _
  have KW : Hid (∀ w', Below S w w' → Keys w') := fun w' hb => keys_below HK.out hb (by rw [← HS.out]; exact HP.out)
  have CX : Hid (∀ w', Calls Tryd.prog 32 #[.agg #[.int .u8 x0, .int .u8 x1, .int .u8 x2, .int .u8 x3, .int .u8 x4, .int .u8 x5, .int .u8 x6, .int .u8 x7]] w' fun e w'' => e = .returned (.bool (decide (x = zeros 8))) ∧ Below w'.heap.size w' w'') := fun w' => by
    have := c16 x w' HX.out
    generalize decide (x = zeros 8) = b at *
    rw [hx8, ba_lit] at this
    exact this
  have CY : Hid (∀ w', Calls Tryd.prog 32 #[.agg #[.int .u8 y0, .int .u8 y1, .int .u8 y2, .int .u8 y3, .int .u8 y4, .int .u8 y5, .int .u8 y6, .int .u8 y7]] w' fun e w'' => e = .returned (.bool (decide (y = zeros 8))) ∧ Below w'.heap.size w' w'') := fun w' => by
    have := c16 y w' HY.out
    generalize decide (y = zeros 8) = b at *
    rw [hy8, ba_lit] at this
    exact this
  obtain ⟨r, hr⟩ : ∃ r, twoN x y = r := ⟨_, rfl⟩
  have HR : Hid (r.length = 8) := by rw [← hr]; exact twoN_len x y
  have E2 : Hid (∀ w', Below S w w' → Calls Tryd.prog 38 #[.int .u8 110, .agg #[.int .u8 x0, .int .u8 x1, .int .u8 x2, .int .u8 x3, .int .u8 x4, .int .u8 x5, .int .u8 x6, .int .u8 x7], .agg #[.int .u8 y0, .int .u8 y1, .int .u8 y2, .int .u8 y3, .int .u8 y4, .int .u8 y5, .int .u8 y6, .int .u8 y7]] w' fun e w'' => e = .returned (.agg (ba r)) ∧ Below w'.heap.size w' w'') := fun w' hb => by
    have := twoP x y w' (KW.out w' hb) HX.out HY.out
    rw [hr, hx8, hy8, ba_lit, ba_lit] at this
    exact this
  rcases Classical.em (x = zeros 8) with ex | ex
  · rcases Classical.em (y = zeros 8) with ey | ey
    · have HV : Hid (ab x y = zeros 8) := by rw [ex, ey]; exact ab_zero
      rw [decide_eq_true ex] at CX
      rw [decide_eq_true ey] at CY
      rw [HV.out, hx8, hy8, ba_lit, ba_lit]
      clear hx8 hy8 hr hk hx hy ex ey
      go_enter Tryd.func27, Tryd.ntmps27
      go_wp2_with fail
      clear hS T0 T1
      generalize ((w.alloc (Obj.cells #[.int .u8 x0, .int .u8 x1, .int .u8 x2, .int .u8 x3, .int .u8 x4, .int .u8 x5, .int .u8 x6, .int .u8 x7] 29)).alloc (Obj.cells #[.int .u8 y0, .int .u8 y1, .int .u8 y2, .int .u8 y3, .int .u8 y4, .int .u8 y5, .int .u8 y6, .int .u8 y7] 29)).alloc (Obj.cells (ba (zeros 8)) 29) = w0 at *
      have L0 : Hid (S + 2 < w0.heap.size) := lt_of_block R0.out
      refine (CX.out w0).mono ?_
      rintro e w1 ⟨rfl, hb1⟩
      have R1 : Hid (BA w1 (S + 2) 29 (zeros 8)) := (hb1.block _ L0.out).trans R0.out
      have Y1 : Hid (w1.heap[S + 1]? = some (.cells #[.int .u8 y0, .int .u8 y1, .int .u8 y2, .int .u8 y3, .int .u8 y4, .int .u8 y5, .int .u8 y6, .int .u8 y7] 29 (0, 0))) := (hb1.block _ (by have := L0.out; omega)).trans Y0.out
      have X1 : Hid (w1.heap[S]? = some (.cells #[.int .u8 x0, .int .u8 x1, .int .u8 x2, .int .u8 x3, .int .u8 x4, .int .u8 x5, .int .u8 x6, .int .u8 x7] 29 (0, 0))) := (hb1.block _ (by have := L0.out; omega)).trans X0.out
      have B1 : Hid (Below S w w1) := B0.out.trans (hb1.mono (by have := L0.out; omega))
      have L1 : Hid (S + 2 < w1.heap.size) := lt_of_block R1.out
      clear hb1
      obtain ⟨u0, u1, u2, u3, u4, u5, u6, u7⟩ := cellsR x0 x1 x2 x3 x4 x5 x6 x7 X1.out
      obtain ⟨v0, v1, v2, v3, v4, v5, v6, v7⟩ := cellsR y0 y1 y2 y3 y4 y5 y6 y7 Y1.out
      go_wp2_with fail
      refine (CY.out w1).mono ?_
      rintro e w2 ⟨rfl, hb2⟩
      have R2 : Hid (BA w2 (S + 2) 29 (zeros 8)) := (hb2.block _ L1.out).trans R1.out
      have Y2 : Hid (w2.heap[S + 1]? = some (.cells #[.int .u8 y0, .int .u8 y1, .int .u8 y2, .int .u8 y3, .int .u8 y4, .int .u8 y5, .int .u8 y6, .int .u8 y7] 29 (0, 0))) := (hb2.block _ (by have := L1.out; omega)).trans Y1.out
      have X2 : Hid (w2.heap[S]? = some (.cells #[.int .u8 x0, .int .u8 x1, .int .u8 x2, .int .u8 x3, .int .u8 x4, .int .u8 x5, .int .u8 x6, .int .u8 x7] 29 (0, 0))) := (hb2.block _ (by have := L1.out; omega)).trans X1.out
      have B2 : Hid (Below S w w2) := B1.out.trans (hb2.mono (by have := L1.out; omega))
      have L2 : Hid (S + 2 < w2.heap.size) := lt_of_block R2.out
      clear hb2 u0 u1 u2 u3 u4 u5 u6 u7 v0 v1 v2 v3 v4 v5 v6 v7
      obtain ⟨u0, u1, u2, u3, u4, u5, u6, u7⟩ := cellsR x0 x1 x2 x3 x4 x5 x6 x7 X2.out
      obtain ⟨v0, v1, v2, v3, v4, v5, v6, v7⟩ := cellsR y0 y1 y2 y3 y4 y5 y6 y7 Y2.out
      go_wp2_with (refine wpList_store_rowTo rfl 29 (.tmp 4) (.tmp 11) rfl rfl (S + 2) (ba (zeros 8)) rfl rfl 29 (ba (zeros 8)) R2.out (sz s27 (by rw [ba_size]; rfl)) rfl (ba_one _) ?_)
      refine bodyPost_ret (v := .agg (ba (zeros 8))) (results_cell_row rfl _ _ (S + 2) 29 _ (0, 0) _ rfl (setRow_heap _ _ _ _ _ _ R2.out) Tryd.underlying29 rfl (sz s27 (by rw [ba_size]; rfl))) rfl ⟨rfl, ?_⟩
      rw [HS.out]
      exact below_setRow B2.out (by omega) _
    · have HV : Hid (ab x y = r) := by show _ = _; rw [ab_right ey, hr]
      rw [decide_eq_true ex] at CX
      rw [decide_eq_false ey] at CY
      rw [HV.out, hx8, hy8, ba_lit, ba_lit]
      clear hx8 hy8 hr hk hx hy ex ey
      go_enter Tryd.func27, Tryd.ntmps27
      go_wp2_with fail
      clear hS T0 T1
      generalize ((w.alloc (Obj.cells #[.int .u8 x0, .int .u8 x1, .int .u8 x2, .int .u8 x3, .int .u8 x4, .int .u8 x5, .int .u8 x6, .int .u8 x7] 29)).alloc (Obj.cells #[.int .u8 y0, .int .u8 y1, .int .u8 y2, .int .u8 y3, .int .u8 y4, .int .u8 y5, .int .u8 y6, .int .u8 y7] 29)).alloc (Obj.cells (ba (zeros 8)) 29) = w0 at *
      have L0 : Hid (S + 2 < w0.heap.size) := lt_of_block R0.out
      refine (CX.out w0).mono ?_
      rintro e w1 ⟨rfl, hb1⟩
      have R1 : Hid (BA w1 (S + 2) 29 (zeros 8)) := (hb1.block _ L0.out).trans R0.out
      have Y1 : Hid (w1.heap[S + 1]? = some (.cells #[.int .u8 y0, .int .u8 y1, .int .u8 y2, .int .u8 y3, .int .u8 y4, .int .u8 y5, .int .u8 y6, .int .u8 y7] 29 (0, 0))) := (hb1.block _ (by have := L0.out; omega)).trans Y0.out
      have X1 : Hid (w1.heap[S]? = some (.cells #[.int .u8 x0, .int .u8 x1, .int .u8 x2, .int .u8 x3, .int .u8 x4, .int .u8 x5, .int .u8 x6, .int .u8 x7] 29 (0, 0))) := (hb1.block _ (by have := L0.out; omega)).trans X0.out
      have B1 : Hid (Below S w w1) := B0.out.trans (hb1.mono (by have := L0.out; omega))
      have L1 : Hid (S + 2 < w1.heap.size) := lt_of_block R1.out
      clear hb1
      obtain ⟨u0, u1, u2, u3, u4, u5, u6, u7⟩ := cellsR x0 x1 x2 x3 x4 x5 x6 x7 X1.out
      obtain ⟨v0, v1, v2, v3, v4, v5, v6, v7⟩ := cellsR y0 y1 y2 y3 y4 y5 y6 y7 Y1.out
      go_wp2_with fail
      refine (CY.out w1).mono ?_
      rintro e w2 ⟨rfl, hb2⟩
      have R2 : Hid (BA w2 (S + 2) 29 (zeros 8)) := (hb2.block _ L1.out).trans R1.out
      have Y2 : Hid (w2.heap[S + 1]? = some (.cells #[.int .u8 y0, .int .u8 y1, .int .u8 y2, .int .u8 y3, .int .u8 y4, .int .u8 y5, .int .u8 y6, .int .u8 y7] 29 (0, 0))) := (hb2.block _ (by have := L1.out; omega)).trans Y1.out
      have X2 : Hid (w2.heap[S]? = some (.cells #[.int .u8 x0, .int .u8 x1, .int .u8 x2, .int .u8 x3, .int .u8 x4, .int .u8 x5, .int .u8 x6, .int .u8 x7] 29 (0, 0))) := (hb2.block _ (by have := L1.out; omega)).trans X1.out
      have B2 : Hid (Below S w w2) := B1.out.trans (hb2.mono (by have := L1.out; omega))
      have L2 : Hid (S + 2 < w2.heap.size) := lt_of_block R2.out
      clear hb2 u0 u1 u2 u3 u4 u5 u6 u7 v0 v1 v2 v3 v4 v5 v6 v7
      obtain ⟨u0, u1, u2, u3, u4, u5, u6, u7⟩ := cellsR x0 x1 x2 x3 x4 x5 x6 x7 X2.out
      obtain ⟨v0, v1, v2, v3, v4, v5, v6, v7⟩ := cellsR y0 y1 y2 y3 y4 y5 y6 y7 Y2.out
      go_wp2_with fail
      refine (E2.out w2 B2.out).mono ?_
      rintro e w3 ⟨rfl, hb3⟩
      have R3 : Hid (BA w3 (S + 2) 29 (zeros 8)) := (hb3.block _ L2.out).trans R2.out
      have B3 : Hid (Below S w w3) := B2.out.trans (hb3.mono (by have := L2.out; omega))
      clear hb3
      go_wp2_with (refine wpList_store_rowTo rfl 29 (.tmp 4) (.tmp 14) rfl rfl (S + 2) (ba r) rfl rfl 29 (ba (zeros 8)) R3.out (sz s27 (by rw [ba_size, HR.out])) (by rw [ba_size, ba_size, HR.out]; rfl) (ba_one _) ?_)
      refine bodyPost_ret (v := .agg (ba r)) (results_cell_row rfl _ _ (S + 2) 29 _ (0, 0) _ rfl (setRow_heap _ _ _ _ _ _ R3.out) Tryd.underlying29 rfl (sz s27 (by rw [ba_size, HR.out]))) rfl ⟨rfl, ?_⟩
      rw [HS.out]
      exact below_setRow B3.out (by omega) _
  · have HV : Hid (ab x y = r) := by show _ = _; rw [ab_left ex, hr]
    rw [decide_eq_false ex] at CX
    rw [HV.out, hx8, hy8, ba_lit, ba_lit]
    clear hx8 hy8 hr hk hx hy ex
    go_enter Tryd.func27, Tryd.ntmps27
    go_wp2_with fail
    clear hS T0 T1
    generalize ((w.alloc (Obj.cells #[.int .u8 x0, .int .u8 x1, .int .u8 x2, .int .u8 x3, .int .u8 x4, .int .u8 x5, .int .u8 x6, .int .u8 x7] 29)).alloc (Obj.cells #[.int .u8 y0, .int .u8 y1, .int .u8 y2, .int .u8 y3, .int .u8 y4, .int .u8 y5, .int .u8 y6, .int .u8 y7] 29)).alloc (Obj.cells (ba (zeros 8)) 29) = w0 at *
    have L0 : Hid (S + 2 < w0.heap.size) := lt_of_block R0.out
    refine (CX.out w0).mono ?_
    rintro e w1 ⟨rfl, hb1⟩
    have R1 : Hid (BA w1 (S + 2) 29 (zeros 8)) := (hb1.block _ L0.out).trans R0.out
    have Y1 : Hid (w1.heap[S + 1]? = some (.cells #[.int .u8 y0, .int .u8 y1, .int .u8 y2, .int .u8 y3, .int .u8 y4, .int .u8 y5, .int .u8 y6, .int .u8 y7] 29 (0, 0))) := (hb1.block _ (by have := L0.out; omega)).trans Y0.out
    have X1 : Hid (w1.heap[S]? = some (.cells #[.int .u8 x0, .int .u8 x1, .int .u8 x2, .int .u8 x3, .int .u8 x4, .int .u8 x5, .int .u8 x6, .int .u8 x7] 29 (0, 0))) := (hb1.block _ (by have := L0.out; omega)).trans X0.out
    have B1 : Hid (Below S w w1) := B0.out.trans (hb1.mono (by have := L0.out; omega))
    have L1 : Hid (S + 2 < w1.heap.size) := lt_of_block R1.out
    clear hb1
    obtain ⟨u0, u1, u2, u3, u4, u5, u6, u7⟩ := cellsR x0 x1 x2 x3 x4 x5 x6 x7 X1.out
    obtain ⟨v0, v1, v2, v3, v4, v5, v6, v7⟩ := cellsR y0 y1 y2 y3 y4 y5 y6 y7 Y1.out
    go_wp2_with fail
    refine (E2.out w1 B1.out).mono ?_
    rintro e w3 ⟨rfl, hb3⟩
    have R3 : Hid (BA w3 (S + 2) 29 (zeros 8)) := (hb3.block _ L1.out).trans R1.out
    have B3 : Hid (Below S w w3) := B1.out.trans (hb3.mono (by have := L1.out; omega))
    clear hb3
    go_wp2_with (refine wpList_store_rowTo rfl 29 (.tmp 4) (.tmp 14) rfl rfl (S + 2) (ba r) rfl rfl 29 (ba (zeros 8)) R3.out (sz s27 (by rw [ba_size, HR.out])) (by rw [ba_size, ba_size, HR.out]; rfl) (ba_one _) ?_)
    refine bodyPost_ret (v := .agg (ba r)) (results_cell_row rfl _ _ (S + 2) 29 _ (0, 0) _ rfl (setRow_heap _ _ _ _ _ _ R3.out) Tryd.underlying29 rfl (sz s27 (by rw [ba_size, HR.out]))) rfl ⟨rfl, ?_⟩
    rw [HS.out]
    exact below_setRow B3.out (by omega) _

set_option maxRecDepth 100000 in
set_option maxHeartbeats 4000000 in
theorem p28 (x y : List Int) (w : World) (hk : Keys w) (hx : x.length = 8) (hy : y.length = 8) :
    Calls Tryd.prog 28 #[.agg (ba x), .agg (ba y)] w fun e w' => e = .returned (.agg (ba (ab x y))) ∧ Below w.heap.size w w' := by
  have h4 := z27
  have h5 := b29
  have HK := Lib.hid hk
  have HX := Lib.hid hx
  have HY := Lib.hid hy
  have HP : Hid (0 < w.heap.size) := keys_pos hk
  obtain ⟨S, hS⟩ : ∃ S, w.heap.size = S := ⟨_, rfl⟩
  have HS := Lib.hid hS
  obtain ⟨x0, x1, x2, x3, x4, x5, x6, x7, hx8⟩ := c8cells x hx
  obtain ⟨y0, y1, y2, y3, y4, y5, y6, y7, hy8⟩ := c8cells y hy
  have HX8 := Lib.hid hx8
  have HY8 := Lib.hid hy8
  have T0 : Hid ((w.alloc (Obj.cells #[.int .u8 x0, .int .u8 x1, .int .u8 x2, .int .u8 x3, .int .u8 x4, .int .u8 x5, .int .u8 x6, .int .u8 x7] 29)).heap[S]? = some (.cells #[.int .u8 x0, .int .u8 x1, .int .u8 x2, .int .u8 x3, .int .u8 x4, .int .u8 x5, .int .u8 x6, .int .u8 x7] 29 (0, 0))) := by subst hS; exact heap_alloc_last w _
  have T1 : Hid (((w.alloc (Obj.cells #[.int .u8 x0, .int .u8 x1, .int .u8 x2, .int .u8 x3, .int .u8 x4, .int .u8 x5, .int .u8 x6, .int .u8 x7] 29)).alloc (Obj.cells #[.int .u8 y0, .int .u8 y1, .int .u8 y2, .int .u8 y3, .int .u8 y4, .int .u8 y5, .int .u8 y6, .int .u8 y7] 29)).heap[S + 1]? = some (.cells #[.int .u8 y0, .int .u8 y1, .int .u8 y2, .int .u8 y3, .int .u8 y4, .int .u8 y5, .int .u8 y6, .int .u8 y7] 29 (0, 0))) := by
    show _ = _
    subst hS
    have := heap_alloc_last (w.alloc (Obj.cells #[.int .u8 x0, .int .u8 x1, .int .u8 x2, .int .u8 x3, .int .u8 x4, .int .u8 x5, .int .u8 x6, .int .u8 x7] 29)) (Obj.cells #[.int .u8 y0, .int .u8 y1, .int .u8 y2, .int .u8 y3, .int .u8 y4, .int .u8 y5, .int .u8 y6, .int .u8 y7] 29)
    simp only [World.size_alloc] at this
    exact this
  have R0 : Hid (BA (((w.alloc (Obj.cells #[.int .u8 x0, .int .u8 x1, .int .u8 x2, .int .u8 x3, .int .u8 x4, .int .u8 x5, .int .u8 x6, .int .u8 x7] 29)).alloc (Obj.cells #[.int .u8 y0, .int .u8 y1, .int .u8 y2, .int .u8 y3, .int .u8 y4, .int .u8 y5, .int .u8 y6, .int .u8 y7] 29)).alloc (Obj.cells (ba (zeros 8)) 29)) (S + 2) 29 (zeros 8)) := by
    show _ = _
    subst hS
    have := heap_alloc_last ((w.alloc (Obj.cells #[.int .u8 x0, .int .u8 x1, .int .u8 x2, .int .u8 x3, .int .u8 x4, .int .u8 x5, .int .u8 x6, .int .u8 x7] 29)).alloc (Obj.cells #[.int .u8 y0, .int .u8 y1, .int .u8 y2, .int .u8 y3, .int .u8 y4, .int .u8 y5, .int .u8 y6, .int .u8 y7] 29)) (Obj.cells (ba (zeros 8)) 29)
    simp only [World.size_alloc] at this
    exact this
  have Y0 : Hid ((((w.alloc (Obj.cells #[.int .u8 x0, .int .u8 x1, .int .u8 x2, .int .u8 x3, .int .u8 x4, .int .u8 x5, .int .u8 x6, .int .u8 x7] 29)).alloc (Obj.cells #[.int .u8 y0, .int .u8 y1, .int .u8 y2, .int .u8 y3, .int .u8 y4, .int .u8 y5, .int .u8 y6, .int .u8 y7] 29)).alloc (Obj.cells (ba (zeros 8)) 29)).heap[S + 1]? = some (.cells #[.int .u8 y0, .int .u8 y1, .int .u8 y2, .int .u8 y3, .int .u8 y4, .int .u8 y5, .int .u8 y6, .int .u8 y7] 29 (0, 0))) := (Below.heap_alloc _ _ _ (lt_of_block T1.out)).trans T1.out
  have X0 : Hid ((((w.alloc (Obj.cells #[.int .u8 x0, .int .u8 x1, .int .u8 x2, .int .u8 x3, .int .u8 x4, .int .u8 x5, .int .u8 x6, .int .u8 x7] 29)).alloc (Obj.cells #[.int .u8 y0, .int .u8 y1, .int .u8 y2, .int .u8 y3, .int .u8 y4, .int .u8 y5, .int .u8 y6, .int .u8 y7] 29)).alloc (Obj.cells (ba (zeros 8)) 29)).heap[S]? = some (.cells #[.int .u8 x0, .int .u8 x1, .int .u8 x2, .int .u8 x3, .int .u8 x4, .int .u8 x5, .int .u8 x6, .int .u8 x7] 29 (0, 0))) := (Below.heap_alloc _ _ _ (by have := lt_of_block T1.out; omega)).trans ((Below.heap_alloc _ _ _ (lt_of_block T0.out)).trans T0.out)
  have B0 : Hid (Below S w (((w.alloc (Obj.cells #[.int .u8 x0, .int .u8 x1, .int .u8 x2, .int .u8 x3, .int .u8 x4, .int .u8 x5, .int .u8 x6, .int .u8 x7] 29)).alloc (Obj.cells #[.int .u8 y0, .int .u8 y1, .int .u8 y2, .int .u8 y3, .int .u8 y4, .int .u8 y5, .int .u8 y6, .int .u8 y7] 29)).alloc (Obj.cells (ba (zeros 8)) 29))) := by subst hS; exact (((Below.refl _ w).alloc (Nat.le_refl _) _).alloc (by simp) _).alloc (by simp; omega) _
  have KW : Hid (∀ w', Below S w w' → Keys w') := fun w' hb => keys_below HK.out hb (by rw [← HS.out]; exact HP.out)
  have CX : Hid (∀ w', Calls Tryd.prog 35 #[.agg #[.int .u8 x0, .int .u8 x1, .int .u8 x2, .int .u8 x3, .int .u8 x4, .int .u8 x5, .int .u8 x6, .int .u8 x7]] w' fun e w'' => e = .returned (.bool (decide (x = zeros 8))) ∧ Below w'.heap.size w' w'') := fun w' => by
    have := c35 x w' HX.out
    generalize decide (x = zeros 8) = b at *
    rw [hx8, ba_lit] at this
    exact this
  have CY : Hid (∀ w', Calls Tryd.prog 35 #[.agg #[.int .u8 y0, .int .u8 y1, .int .u8 y2, .int .u8 y3, .int .u8 y4, .int .u8 y5, .int .u8 y6, .int .u8 y7]] w' fun e w'' => e = .returned (.bool (decide (y = zeros 8))) ∧ Below w'.heap.size w' w'') := fun w' => by
    have := c35 y w' HY.out
    generalize decide (y = zeros 8) = b at *
    rw [hy8, ba_lit] at this
    exact this
  obtain ⟨r, hr⟩ : ∃ r, twoN x y = r := ⟨_, rfl⟩
  have HR : Hid (r.length = 8) := by rw [← hr]; exact twoN_len x y
  have E2 : Hid (∀ w', Below S w w' → Calls Tryd.prog 39 #[.int .u8 110, .agg #[.int .u8 x0, .int .u8 x1, .int .u8 x2, .int .u8 x3, .int .u8 x4, .int .u8 x5, .int .u8 x6, .int .u8 x7], .agg #[.int .u8 y0, .int .u8 y1, .int .u8 y2, .int .u8 y3, .int .u8 y4, .int .u8 y5, .int .u8 y6, .int .u8 y7]] w' fun e w'' => e = .returned (.agg (ba r)) ∧ Below w'.heap.size w' w'') := fun w' hb => by
    have := twoR x y w' (KW.out w' hb) HX.out HY.out
    rw [hr, hx8, hy8, ba_lit, ba_lit] at this
    exact this
  rcases Classical.em (x = zeros 8) with ex | ex
  · rcases Classical.em (y = zeros 8) with ey | ey
    · have HV : Hid (ab x y = zeros 8) := by rw [ex, ey]; exact ab_zero
      rw [decide_eq_true ex] at CX
      rw [decide_eq_true ey] at CY
      rw [HV.out, hx8, hy8, ba_lit, ba_lit]
      clear hx8 hy8 hr hk hx hy ex ey
      go_enter Tryd.func28, Tryd.ntmps28
      go_wp2_with fail
      clear hS T0 T1
      generalize ((w.alloc (Obj.cells #[.int .u8 x0, .int .u8 x1, .int .u8 x2, .int .u8 x3, .int .u8 x4, .int .u8 x5, .int .u8 x6, .int .u8 x7] 29)).alloc (Obj.cells #[.int .u8 y0, .int .u8 y1, .int .u8 y2, .int .u8 y3, .int .u8 y4, .int .u8 y5, .int .u8 y6, .int .u8 y7] 29)).alloc (Obj.cells (ba (zeros 8)) 29) = w0 at *
      have L0 : Hid (S + 2 < w0.heap.size) := lt_of_block R0.out
      refine (CX.out w0).mono ?_
      rintro e w1 ⟨rfl, hb1⟩
      have R1 : Hid (BA w1 (S + 2) 29 (zeros 8)) := (hb1.block _ L0.out).trans R0.out
      have Y1 : Hid (w1.heap[S + 1]? = some (.cells #[.int .u8 y0, .int .u8 y1, .int .u8 y2, .int .u8 y3, .int .u8 y4, .int .u8 y5, .int .u8 y6, .int .u8 y7] 29 (0, 0))) := (hb1.block _ (by have := L0.out; omega)).trans Y0.out
      have X1 : Hid (w1.heap[S]? = some (.cells #[.int .u8 x0, .int .u8 x1, .int .u8 x2, .int .u8 x3, .int .u8 x4, .int .u8 x5, .int .u8 x6, .int .u8 x7] 29 (0, 0))) := (hb1.block _ (by have := L0.out; omega)).trans X0.out
      have B1 : Hid (Below S w w1) := B0.out.trans (hb1.mono (by have := L0.out; omega))
      have L1 : Hid (S + 2 < w1.heap.size) := lt_of_block R1.out
      clear hb1
      obtain ⟨u0, u1, u2, u3, u4, u5, u6, u7⟩ := cellsR x0 x1 x2 x3 x4 x5 x6 x7 X1.out
      obtain ⟨v0, v1, v2, v3, v4, v5, v6, v7⟩ := cellsR y0 y1 y2 y3 y4 y5 y6 y7 Y1.out
      go_wp2_with fail
      refine (CY.out w1).mono ?_
      rintro e w2 ⟨rfl, hb2⟩
      have R2 : Hid (BA w2 (S + 2) 29 (zeros 8)) := (hb2.block _ L1.out).trans R1.out
      have Y2 : Hid (w2.heap[S + 1]? = some (.cells #[.int .u8 y0, .int .u8 y1, .int .u8 y2, .int .u8 y3, .int .u8 y4, .int .u8 y5, .int .u8 y6, .int .u8 y7] 29 (0, 0))) := (hb2.block _ (by have := L1.out; omega)).trans Y1.out
      have X2 : Hid (w2.heap[S]? = some (.cells #[.int .u8 x0, .int .u8 x1, .int .u8 x2, .int .u8 x3, .int .u8 x4, .int .u8 x5, .int .u8 x6, .int .u8 x7] 29 (0, 0))) := (hb2.block _ (by have := L1.out; omega)).trans X1.out
      have B2 : Hid (Below S w w2) := B1.out.trans (hb2.mono (by have := L1.out; omega))
      have L2 : Hid (S + 2 < w2.heap.size) := lt_of_block R2.out
      clear hb2 u0 u1 u2 u3 u4 u5 u6 u7 v0 v1 v2 v3 v4 v5 v6 v7
      obtain ⟨u0, u1, u2, u3, u4, u5, u6, u7⟩ := cellsR x0 x1 x2 x3 x4 x5 x6 x7 X2.out
      obtain ⟨v0, v1, v2, v3, v4, v5, v6, v7⟩ := cellsR y0 y1 y2 y3 y4 y5 y6 y7 Y2.out
      go_wp2_with (refine wpList_store_rowTo rfl 29 (.tmp 4) (.tmp 11) rfl rfl (S + 2) (ba (zeros 8)) rfl rfl 29 (ba (zeros 8)) R2.out (sz s27 (by rw [ba_size]; rfl)) rfl (ba_one _) ?_)
      refine bodyPost_ret (v := .agg (ba (zeros 8))) (results_cell_row rfl _ _ (S + 2) 29 _ (0, 0) _ rfl (setRow_heap _ _ _ _ _ _ R2.out) Tryd.underlying29 rfl (sz s27 (by rw [ba_size]; rfl))) rfl ⟨rfl, ?_⟩
      rw [HS.out]
      exact below_setRow B2.out (by omega) _
    · have HV : Hid (ab x y = r) := by show _ = _; rw [ab_right ey, hr]
      rw [decide_eq_true ex] at CX
      rw [decide_eq_false ey] at CY
      rw [HV.out, hx8, hy8, ba_lit, ba_lit]
      clear hx8 hy8 hr hk hx hy ex ey
      go_enter Tryd.func28, Tryd.ntmps28
      go_wp2_with fail
      clear hS T0 T1
      generalize ((w.alloc (Obj.cells #[.int .u8 x0, .int .u8 x1, .int .u8 x2, .int .u8 x3, .int .u8 x4, .int .u8 x5, .int .u8 x6, .int .u8 x7] 29)).alloc (Obj.cells #[.int .u8 y0, .int .u8 y1, .int .u8 y2, .int .u8 y3, .int .u8 y4, .int .u8 y5, .int .u8 y6, .int .u8 y7] 29)).alloc (Obj.cells (ba (zeros 8)) 29) = w0 at *
      have L0 : Hid (S + 2 < w0.heap.size) := lt_of_block R0.out
      refine (CX.out w0).mono ?_
      rintro e w1 ⟨rfl, hb1⟩
      have R1 : Hid (BA w1 (S + 2) 29 (zeros 8)) := (hb1.block _ L0.out).trans R0.out
      have Y1 : Hid (w1.heap[S + 1]? = some (.cells #[.int .u8 y0, .int .u8 y1, .int .u8 y2, .int .u8 y3, .int .u8 y4, .int .u8 y5, .int .u8 y6, .int .u8 y7] 29 (0, 0))) := (hb1.block _ (by have := L0.out; omega)).trans Y0.out
      have X1 : Hid (w1.heap[S]? = some (.cells #[.int .u8 x0, .int .u8 x1, .int .u8 x2, .int .u8 x3, .int .u8 x4, .int .u8 x5, .int .u8 x6, .int .u8 x7] 29 (0, 0))) := (hb1.block _ (by have := L0.out; omega)).trans X0.out
      have B1 : Hid (Below S w w1) := B0.out.trans (hb1.mono (by have := L0.out; omega))
      have L1 : Hid (S + 2 < w1.heap.size) := lt_of_block R1.out
      clear hb1
      obtain ⟨u0, u1, u2, u3, u4, u5, u6, u7⟩ := cellsR x0 x1 x2 x3 x4 x5 x6 x7 X1.out
      obtain ⟨v0, v1, v2, v3, v4, v5, v6, v7⟩ := cellsR y0 y1 y2 y3 y4 y5 y6 y7 Y1.out
      go_wp2_with fail
      refine (CY.out w1).mono ?_
      rintro e w2 ⟨rfl, hb2⟩
      have R2 : Hid (BA w2 (S + 2) 29 (zeros 8)) := (hb2.block _ L1.out).trans R1.out
      have Y2 : Hid (w2.heap[S + 1]? = some (.cells #[.int .u8 y0, .int .u8 y1, .int .u8 y2, .int .u8 y3, .int .u8 y4, .int .u8 y5, .int .u8 y6, .int .u8 y7] 29 (0, 0))) := (hb2.block _ (by have := L1.out; omega)).trans Y1.out
      have X2 : Hid (w2.heap[S]? = some (.cells #[.int .u8 x0, .int .u8 x1, .int .u8 x2, .int .u8 x3, .int .u8 x4, .int .u8 x5, .int .u8 x6, .int .u8 x7] 29 (0, 0))) := (hb2.block _ (by have := L1.out; omega)).trans X1.out
      have B2 : Hid (Below S w w2) := B1.out.trans (hb2.mono (by have := L1.out; omega))
      have L2 : Hid (S + 2 < w2.heap.size) := lt_of_block R2.out
      clear hb2 u0 u1 u2 u3 u4 u5 u6 u7 v0 v1 v2 v3 v4 v5 v6 v7
      obtain ⟨u0, u1, u2, u3, u4, u5, u6, u7⟩ := cellsR x0 x1 x2 x3 x4 x5 x6 x7 X2.out
      obtain ⟨v0, v1, v2, v3, v4, v5, v6, v7⟩ := cellsR y0 y1 y2 y3 y4 y5 y6 y7 Y2.out
      go_wp2_with fail
      refine (E2.out w2 B2.out).mono ?_
      rintro e w3 ⟨rfl, hb3⟩
      have R3 : Hid (BA w3 (S + 2) 29 (zeros 8)) := (hb3.block _ L2.out).trans R2.out
      have B3 : Hid (Below S w w3) := B2.out.trans (hb3.mono (by have := L2.out; omega))
      clear hb3
      go_wp2_with (refine wpList_store_rowTo rfl 29 (.tmp 4) (.tmp 14) rfl rfl (S + 2) (ba r) rfl rfl 29 (ba (zeros 8)) R3.out (sz s27 (by rw [ba_size, HR.out])) (by rw [ba_size, ba_size, HR.out]; rfl) (ba_one _) ?_)
      refine bodyPost_ret (v := .agg (ba r)) (results_cell_row rfl _ _ (S + 2) 29 _ (0, 0) _ rfl (setRow_heap _ _ _ _ _ _ R3.out) Tryd.underlying29 rfl (sz s27 (by rw [ba_size, HR.out]))) rfl ⟨rfl, ?_⟩
      rw [HS.out]
      exact below_setRow B3.out (by omega) _
  · have HV : Hid (ab x y = r) := by show _ = _; rw [ab_left ex, hr]
    rw [decide_eq_false ex] at CX
    rw [HV.out, hx8, hy8, ba_lit, ba_lit]
    clear hx8 hy8 hr hk hx hy ex
    go_enter Tryd.func28, Tryd.ntmps28
    go_wp2_with fail
    clear hS T0 T1
    generalize ((w.alloc (Obj.cells #[.int .u8 x0, .int .u8 x1, .int .u8 x2, .int .u8 x3, .int .u8 x4, .int .u8 x5, .int .u8 x6, .int .u8 x7] 29)).alloc (Obj.cells #[.int .u8 y0, .int .u8 y1, .int .u8 y2, .int .u8 y3, .int .u8 y4, .int .u8 y5, .int .u8 y6, .int .u8 y7] 29)).alloc (Obj.cells (ba (zeros 8)) 29) = w0 at *
    have L0 : Hid (S + 2 < w0.heap.size) := lt_of_block R0.out
    refine (CX.out w0).mono ?_
    rintro e w1 ⟨rfl, hb1⟩
    have R1 : Hid (BA w1 (S + 2) 29 (zeros 8)) := (hb1.block _ L0.out).trans R0.out
    have Y1 : Hid (w1.heap[S + 1]? = some (.cells #[.int .u8 y0, .int .u8 y1, .int .u8 y2, .int .u8 y3, .int .u8 y4, .int .u8 y5, .int .u8 y6, .int .u8 y7] 29 (0, 0))) := (hb1.block _ (by have := L0.out; omega)).trans Y0.out
    have X1 : Hid (w1.heap[S]? = some (.cells #[.int .u8 x0, .int .u8 x1, .int .u8 x2, .int .u8 x3, .int .u8 x4, .int .u8 x5, .int .u8 x6, .int .u8 x7] 29 (0, 0))) := (hb1.block _ (by have := L0.out; omega)).trans X0.out
    have B1 : Hid (Below S w w1) := B0.out.trans (hb1.mono (by have := L0.out; omega))
    have L1 : Hid (S + 2 < w1.heap.size) := lt_of_block R1.out
    clear hb1
    obtain ⟨u0, u1, u2, u3, u4, u5, u6, u7⟩ := cellsR x0 x1 x2 x3 x4 x5 x6 x7 X1.out
    obtain ⟨v0, v1, v2, v3, v4, v5, v6, v7⟩ := cellsR y0 y1 y2 y3 y4 y5 y6 y7 Y1.out
    go_wp2_with fail
    refine (E2.out w1 B1.out).mono ?_
    rintro e w3 ⟨rfl, hb3⟩
    have R3 : Hid (BA w3 (S + 2) 29 (zeros 8)) := (hb3.block _ L1.out).trans R1.out
    have B3 : Hid (Below S w w3) := B1.out.trans (hb3.mono (by have := L1.out; omega))
    clear hb3
    go_wp2_with (refine wpList_store_rowTo rfl 29 (.tmp 4) (.tmp 14) rfl rfl (S + 2) (ba r) rfl rfl 29 (ba (zeros 8)) R3.out (sz s27 (by rw [ba_size, HR.out])) (by rw [ba_size, ba_size, HR.out]; rfl) (ba_one _) ?_)
    refine bodyPost_ret (v := .agg (ba r)) (results_cell_row rfl _ _ (S + 2) 29 _ (0, 0) _ rfl (setRow_heap _ _ _ _ _ _ R3.out) Tryd.underlying29 rfl (sz s27 (by rw [ba_size, HR.out]))) rfl ⟨rfl, ?_⟩
    rw [HS.out]
    exact below_setRow B3.out (by omega) _

end Go.Proofs.YtgagcblddcibkaaDoor
