/-
  The walk of SparseLeaves.
-/
import Derived.Test.YtgagcblddcibkaaDoorS15
namespace Go.Proofs.YtgagcblddcibkaaDoor
open Go.RowKit
open Go.Maps
attribute [local irreducible] ua da ba kk sw S8.run rt hs comp splice outB sha msg twoM twoN ab MapIs mrow nd upF at8 prfL okN leafM leafV digs pa4
set_option maxRecDepth 100000 in
set_option maxHeartbeats 1600000 in
theorem q6z (i o0 o1 o2 o3 o4 o5 o6 o7 am no : Int) (w : World) (hk : Keys w) (hz : [o0, o1, o2, o3, o4, o5, o6, o7] = zeros 8) :
    Calls Tryd.prog 6 #[.int .i64 i, .agg #[.int .u8 o0, .int .u8 o1, .int .u8 o2, .int .u8 o3, .int .u8 o4, .int .u8 o5, .int .u8 o6, .int .u8 o7, .int .i64 am, .int .i64 no]] w fun e w' => e = .returned (.bool true) ∧ Below w.heap.size w w' := by
  have HK := Lib.hid hk
  have HPOS : Hid (0 < w.heap.size) := keys_pos hk
  obtain ⟨S, hS⟩ : ∃ S, w.heap.size = S := ⟨_, rfl⟩
  have HS := Lib.hid hS
  have A0 : Hid ((w.alloc (Obj.cells #[.int .u8 o0, .int .u8 o1, .int .u8 o2, .int .u8 o3, .int .u8 o4, .int .u8 o5, .int .u8 o6, .int .u8 o7, .int .i64 am, .int .i64 no] 50)).heap[S]? = some (.cells #[.int .u8 o0, .int .u8 o1, .int .u8 o2, .int .u8 o3, .int .u8 o4, .int .u8 o5, .int .u8 o6, .int .u8 o7, .int .i64 am, .int .i64 no] 50 (0, 0))) := by subst hS; exact heap_alloc_last w _
  have B0 : Hid (Below S w (w.alloc (Obj.cells #[.int .u8 o0, .int .u8 o1, .int .u8 o2, .int .u8 o3, .int .u8 o4, .int .u8 o5, .int .u8 o6, .int .u8 o7, .int .i64 am, .int .i64 no] 50))) := by subst hS; exact (Below.refl _ w).alloc (Nat.le_refl _) _
  have KW : Hid (∀ w', Below S w w' → Keys w') := fun w' hb => keys_below HK.out hb (by rw [← HS.out]; exact HPOS.out)
  have C8 := Lib.hid (p8 _ (KW.out _ B0.out))
  have E21 : Hid (∀ w', Below S w w' → Calls Tryd.prog 21 #[.int .i64 i, .agg #[.int .u8 o0, .int .u8 o1, .int .u8 o2, .int .u8 o3, .int .u8 o4, .int .u8 o5, .int .u8 o6, .int .u8 o7, .int .i64 am, .int .i64 no]] w' fun e w'' => e = .returned (.agg #[.int .u8 0, .int .u8 0, .int .u8 0, .int .u8 0, .int .u8 0, .int .u8 0, .int .u8 0, .int .u8 0]) ∧ Below w'.heap.size w' w'') := fun w' hb => by
    have := p21 i o0 o1 o2 o3 o4 o5 o6 o7 am no w' (KW.out w' hb)
    rw [leafV_no (by rw [decide_eq_true hz]; rfl), ba8] at this
    exact this
  have E22 : Hid (∀ w', Below S w w' → Calls Tryd.prog 22 #[.int .i64 i, .agg #[.int .u8 o0, .int .u8 o1, .int .u8 o2, .int .u8 o3, .int .u8 o4, .int .u8 o5, .int .u8 o6, .int .u8 o7, .int .i64 am, .int .i64 no]] w' fun e w'' => e = .returned (.agg #[.int .u8 0, .int .u8 0, .int .u8 0, .int .u8 0, .int .u8 0, .int .u8 0, .int .u8 0, .int .u8 0]) ∧ Below w'.heap.size w' w'') := fun w' hb => by
    have := p22 i o0 o1 o2 o3 o4 o5 o6 o7 am no w' (KW.out w' hb)
    rw [leafV_no (by rw [decide_eq_true hz]; rfl), ba8] at this
    exact this
  have heq : ∀ w, (Op.equalIn 10000 29 (.agg #[.int .u8 o0, .int .u8 o1, .int .u8 o2, .int .u8 o3, .int .u8 o4, .int .u8 o5, .int .u8 o6, .int .u8 o7]) (.agg #[.int .u8 0, .int .u8 0, .int .u8 0, .int .u8 0, .int .u8 0, .int .u8 0, .int .u8 0, .int .u8 0])).run Tryd.prog w = .ok true w := fun w => by
    have := eq_ba 29 8 9998 Tryd.underlying29 [o0, o1, o2, o3, o4, o5, o6, o7] (zeros 8) w rfl rfl
    rw [decide_eq_true hz, ba_lit, ba8] at this
    exact this
  clear hk hz
  go_enter Tryd.func6, Tryd.ntmps6
  go_wp2_with fail
  clear hS
  generalize w.alloc (Obj.cells #[.int .u8 o0, .int .u8 o1, .int .u8 o2, .int .u8 o3, .int .u8 o4, .int .u8 o5, .int .u8 o6, .int .u8 o7, .int .i64 am, .int .i64 no] 50) = w0 at *
  refine C8.out.mono ?_
  rintro e w1 ⟨rfl, hb1⟩
  have LA : Hid (S < w0.heap.size) := lt_of_block A0.out
  have B1 : Hid (Below S w w1) := B0.out.trans (hb1.mono (Nat.le_of_lt LA.out))
  have A1 : Hid (w1.heap[S]? = some (.cells #[.int .u8 o0, .int .u8 o1, .int .u8 o2, .int .u8 o3, .int .u8 o4, .int .u8 o5, .int .u8 o6, .int .u8 o7, .int .i64 am, .int .i64 no] 50 (0, 0))) := (hb1.block S LA.out).trans A0.out
  have L1 : Hid (S < w1.heap.size) := lt_of_block A1.out
  have KF : Hid (∀ w' : World, w'.heap[S]? = w1.heap[S]? → (w'.cell? ⟨S, 0, none⟩ = some (.int .u8 o0) ∧ w'.cell? ⟨S, 1, none⟩ = some (.int .u8 o1) ∧ w'.cell? ⟨S, 2, none⟩ = some (.int .u8 o2) ∧ w'.cell? ⟨S, 3, none⟩ = some (.int .u8 o3) ∧ w'.cell? ⟨S, 4, none⟩ = some (.int .u8 o4) ∧ w'.cell? ⟨S, 5, none⟩ = some (.int .u8 o5) ∧ w'.cell? ⟨S, 6, none⟩ = some (.int .u8 o6) ∧ w'.cell? ⟨S, 7, none⟩ = some (.int .u8 o7) ∧ w'.cell? ⟨S, 8, none⟩ = some (.int .i64 am) ∧ w'.cell? ⟨S, 9, none⟩ = some (.int .i64 no))) := fun w' hb => by
    have h := hb.trans A1.out
    exact ⟨by rw [cell_of_row w' S 0 _ 50 (0, 0) h]; rfl, by rw [cell_of_row w' S 1 _ 50 (0, 0) h]; rfl, by rw [cell_of_row w' S 2 _ 50 (0, 0) h]; rfl, by rw [cell_of_row w' S 3 _ 50 (0, 0) h]; rfl, by rw [cell_of_row w' S 4 _ 50 (0, 0) h]; rfl, by rw [cell_of_row w' S 5 _ 50 (0, 0) h]; rfl, by rw [cell_of_row w' S 6 _ 50 (0, 0) h]; rfl, by rw [cell_of_row w' S 7 _ 50 (0, 0) h]; rfl, by rw [cell_of_row w' S 8 _ 50 (0, 0) h]; rfl, by rw [cell_of_row w' S 9 _ 50 (0, 0) h]; rfl⟩
  have BB : Hid (∀ w', Below w1.heap.size w1 w' → Below S w w') := fun w' hb => B1.out.trans (hb.mono (Nat.le_of_lt L1.out))
  have F21 : Hid (∀ w', Below w1.heap.size w1 w' → Calls Tryd.prog 21 #[.int .i64 i, .agg #[.int .u8 o0, .int .u8 o1, .int .u8 o2, .int .u8 o3, .int .u8 o4, .int .u8 o5, .int .u8 o6, .int .u8 o7, .int .i64 am, .int .i64 no]] w' fun e w'' => e = .returned (.agg #[.int .u8 0, .int .u8 0, .int .u8 0, .int .u8 0, .int .u8 0, .int .u8 0, .int .u8 0, .int .u8 0]) ∧ Below w'.heap.size w' w'') := fun w' hb => E21.out w' (BB.out w' hb)
  have F22 : Hid (∀ w', Below w1.heap.size w1 w' → Calls Tryd.prog 22 #[.int .i64 i, .agg #[.int .u8 o0, .int .u8 o1, .int .u8 o2, .int .u8 o3, .int .u8 o4, .int .u8 o5, .int .u8 o6, .int .u8 o7, .int .i64 am, .int .i64 no]] w' fun e w'' => e = .returned (.agg #[.int .u8 0, .int .u8 0, .int .u8 0, .int .u8 0, .int .u8 0, .int .u8 0, .int .u8 0, .int .u8 0]) ∧ Below w'.heap.size w' w'') := fun w' hb => E22.out w' (BB.out w' hb)
  have G21 := Lib.hid F21.out
  have X0 : Hid (Below w1.heap.size w1 w1) := Below.refl _ _
  have eT := eqT 0 0 0 0 0 0 0 0
  clear hb1 C8 E21 E22 A0 B0
  obtain ⟨u0, u1, u2, u3, u4, u5, u6, u7, u8, u9⟩ := KF.out w1 rfl
  go_wp2_with fail
  go_region_held3 (fun w' => (w'.cell? ⟨S, 0, none⟩ = some (.int .u8 o0) ∧ w'.cell? ⟨S, 1, none⟩ = some (.int .u8 o1) ∧ w'.cell? ⟨S, 2, none⟩ = some (.int .u8 o2) ∧ w'.cell? ⟨S, 3, none⟩ = some (.int .u8 o3) ∧ w'.cell? ⟨S, 4, none⟩ = some (.int .u8 o4) ∧ w'.cell? ⟨S, 5, none⟩ = some (.int .u8 o5) ∧ w'.cell? ⟨S, 6, none⟩ = some (.int .u8 o6) ∧ w'.cell? ⟨S, 7, none⟩ = some (.int .u8 o7) ∧ w'.cell? ⟨S, 8, none⟩ = some (.int .i64 am) ∧ w'.cell? ⟨S, 9, none⟩ = some (.int .i64 no))) (first | (with_reducible exact KKc.out) | (with_reducible exact KKb.out) | (with_reducible exact KKa.out) | go_keep)
    (first
      | (go_at_call 21; refine (F21.out _ (by first | exact X0.out | exact X0.out.drew)).mono ?_; rintro e wa ⟨rfl, hba⟩; have Xa : Hid (Below w1.heap.size w1 wa) := (by first | exact X0.out.trans (hba.mono X0.out.size) | exact X0.out.drew.trans (hba.mono X0.out.drew.size)); have KKa := Lib.hid (KF.out wa (Xa.out.block S L1.out)); clear hba F21)
      | (go_at_call 22; refine (F22.out _ (by first | exact Xa.out | exact Xa.out.drew)).mono ?_; rintro e wb ⟨rfl, hbb⟩; have Xb : Hid (Below w1.heap.size w1 wb) := (by first | exact Xa.out.trans (hbb.mono Xa.out.size) | exact Xa.out.drew.trans (hbb.mono Xa.out.drew.size)); have KKb := Lib.hid (KF.out wb (Xb.out.block S L1.out)); clear hbb F22)
      | (go_at_call 21; refine (G21.out _ (by first | exact Xb.out | exact Xb.out.drew)).mono ?_; rintro e wc ⟨rfl, hbc⟩; have Xc : Hid (Below w1.heap.size w1 wc) := (by first | exact Xb.out.trans (hbc.mono Xb.out.size) | exact Xb.out.drew.trans (hbc.mono Xb.out.drew.size)); have KKc := Lib.hid (KF.out wc (Xc.out.block S L1.out)); clear hbc G21))
  all_goals
    rename_i hHeld
    clear hHeld
    go_wp2
    go_ret
    exact ⟨rfl, by rw [HS.out]; exact BB.out _ Xc.out⟩
def op20 : Op := .move (.tmp 0)
theorem op20_eq : op20 = .move (.tmp 0) := rfl
attribute [local go_sem] op20_eq
def op21 : Op := .load 50 (.tmp 3)
theorem op21_eq : op21 = .load 50 (.tmp 3) := rfl
attribute [local go_sem] op21_eq
def op23 : Op := .build 29 #[]
theorem op23_eq : op23 = .build 29 #[] := rfl
attribute [local go_sem] op23_eq
def op24 : Op := .binOp .eql 29 (.tmp 22) (.tmp 23) 29
theorem op24_eq : op24 = .binOp .eql 29 (.tmp 22) (.tmp 23) 29 := rfl
attribute [local go_sem] op24_eq
set_option maxRecDepth 100000 in
set_option maxHeartbeats 1600000 in
theorem q6y (i o0 o1 o2 o3 o4 o5 o6 o7 am no : Int) (w : World) (hk : Keys w) (hz : ¬ [o0, o1, o2, o3, o4, o5, o6, o7] = zeros 8) :
    Calls Tryd.prog 6 #[.int .i64 i, .agg #[.int .u8 o0, .int .u8 o1, .int .u8 o2, .int .u8 o3, .int .u8 o4, .int .u8 o5, .int .u8 o6, .int .u8 o7, .int .i64 am, .int .i64 no]] w fun e w' => e = .returned (.bool true) ∧ Below w.heap.size w w' := by
  have HK := Lib.hid hk
  have HPOS : Hid (0 < w.heap.size) := keys_pos hk
  obtain ⟨S, hS⟩ : ∃ S, w.heap.size = S := ⟨_, rfl⟩
  have HS := Lib.hid hS
  have A0 : Hid ((w.alloc (Obj.cells #[.int .u8 o0, .int .u8 o1, .int .u8 o2, .int .u8 o3, .int .u8 o4, .int .u8 o5, .int .u8 o6, .int .u8 o7, .int .i64 am, .int .i64 no] 50)).heap[S]? = some (.cells #[.int .u8 o0, .int .u8 o1, .int .u8 o2, .int .u8 o3, .int .u8 o4, .int .u8 o5, .int .u8 o6, .int .u8 o7, .int .i64 am, .int .i64 no] 50 (0, 0))) := by subst hS; exact heap_alloc_last w _
  have B0 : Hid (Below S w (w.alloc (Obj.cells #[.int .u8 o0, .int .u8 o1, .int .u8 o2, .int .u8 o3, .int .u8 o4, .int .u8 o5, .int .u8 o6, .int .u8 o7, .int .i64 am, .int .i64 no] 50))) := by subst hS; exact (Below.refl _ w).alloc (Nat.le_refl _) _
  have KW : Hid (∀ w', Below S w w' → Keys w') := fun w' hb => keys_below HK.out hb (by rw [← HS.out]; exact HPOS.out)
  have C8 := Lib.hid (p8 _ (KW.out _ B0.out))
  obtain ⟨x0, x1, x2, x3, x4, x5, x6, x7, hx⟩ := c8cells (leafV i [o0, o1, o2, o3, o4, o5, o6, o7] am no) (leafV_len _ _ _ _)
  have HX := Lib.hid hx
  have E21 : Hid (∀ w', Below S w w' → Calls Tryd.prog 21 #[.int .i64 i, .agg #[.int .u8 o0, .int .u8 o1, .int .u8 o2, .int .u8 o3, .int .u8 o4, .int .u8 o5, .int .u8 o6, .int .u8 o7, .int .i64 am, .int .i64 no]] w' fun e w'' => e = .returned (.agg #[.int .u8 x0, .int .u8 x1, .int .u8 x2, .int .u8 x3, .int .u8 x4, .int .u8 x5, .int .u8 x6, .int .u8 x7]) ∧ Below w'.heap.size w' w'') := fun w' hb => by
    have := p21 i o0 o1 o2 o3 o4 o5 o6 o7 am no w' (KW.out w' hb)
    rw [hx, ba_lit] at this
    exact this
  have E22 : Hid (∀ w', Below S w w' → Calls Tryd.prog 22 #[.int .i64 i, .agg #[.int .u8 o0, .int .u8 o1, .int .u8 o2, .int .u8 o3, .int .u8 o4, .int .u8 o5, .int .u8 o6, .int .u8 o7, .int .i64 am, .int .i64 no]] w' fun e w'' => e = .returned (.agg #[.int .u8 x0, .int .u8 x1, .int .u8 x2, .int .u8 x3, .int .u8 x4, .int .u8 x5, .int .u8 x6, .int .u8 x7]) ∧ Below w'.heap.size w' w'') := fun w' hb => by
    have := p22 i o0 o1 o2 o3 o4 o5 o6 o7 am no w' (KW.out w' hb)
    rw [hx, ba_lit] at this
    exact this
  have heq : ∀ w, (Op.equalIn 10000 29 (.agg #[.int .u8 o0, .int .u8 o1, .int .u8 o2, .int .u8 o3, .int .u8 o4, .int .u8 o5, .int .u8 o6, .int .u8 o7]) (.agg #[.int .u8 0, .int .u8 0, .int .u8 0, .int .u8 0, .int .u8 0, .int .u8 0, .int .u8 0, .int .u8 0])).run Tryd.prog w = .ok false w := fun w => by
    have := eq_ba 29 8 9998 Tryd.underlying29 [o0, o1, o2, o3, o4, o5, o6, o7] (zeros 8) w rfl rfl
    rw [decide_eq_false hz, ba_lit, ba8] at this
    exact this
  clear hk hz hx
  go_enter Tryd.func6, Tryd.ntmps6
  go_wp2_with fail
  clear hS
  generalize w.alloc (Obj.cells #[.int .u8 o0, .int .u8 o1, .int .u8 o2, .int .u8 o3, .int .u8 o4, .int .u8 o5, .int .u8 o6, .int .u8 o7, .int .i64 am, .int .i64 no] 50) = w0 at *
  refine C8.out.mono ?_
  rintro e w1 ⟨rfl, hb1⟩
  have LA : Hid (S < w0.heap.size) := lt_of_block A0.out
  have B1 : Hid (Below S w w1) := B0.out.trans (hb1.mono (Nat.le_of_lt LA.out))
  have A1 : Hid (w1.heap[S]? = some (.cells #[.int .u8 o0, .int .u8 o1, .int .u8 o2, .int .u8 o3, .int .u8 o4, .int .u8 o5, .int .u8 o6, .int .u8 o7, .int .i64 am, .int .i64 no] 50 (0, 0))) := (hb1.block S LA.out).trans A0.out
  have L1 : Hid (S < w1.heap.size) := lt_of_block A1.out
  have KF : Hid (∀ w' : World, w'.heap[S]? = w1.heap[S]? → (w'.cell? ⟨S, 0, none⟩ = some (.int .u8 o0) ∧ w'.cell? ⟨S, 1, none⟩ = some (.int .u8 o1) ∧ w'.cell? ⟨S, 2, none⟩ = some (.int .u8 o2) ∧ w'.cell? ⟨S, 3, none⟩ = some (.int .u8 o3) ∧ w'.cell? ⟨S, 4, none⟩ = some (.int .u8 o4) ∧ w'.cell? ⟨S, 5, none⟩ = some (.int .u8 o5) ∧ w'.cell? ⟨S, 6, none⟩ = some (.int .u8 o6) ∧ w'.cell? ⟨S, 7, none⟩ = some (.int .u8 o7) ∧ w'.cell? ⟨S, 8, none⟩ = some (.int .i64 am) ∧ w'.cell? ⟨S, 9, none⟩ = some (.int .i64 no))) := fun w' hb => by
    have h := hb.trans A1.out
    exact ⟨by rw [cell_of_row w' S 0 _ 50 (0, 0) h]; rfl, by rw [cell_of_row w' S 1 _ 50 (0, 0) h]; rfl, by rw [cell_of_row w' S 2 _ 50 (0, 0) h]; rfl, by rw [cell_of_row w' S 3 _ 50 (0, 0) h]; rfl, by rw [cell_of_row w' S 4 _ 50 (0, 0) h]; rfl, by rw [cell_of_row w' S 5 _ 50 (0, 0) h]; rfl, by rw [cell_of_row w' S 6 _ 50 (0, 0) h]; rfl, by rw [cell_of_row w' S 7 _ 50 (0, 0) h]; rfl, by rw [cell_of_row w' S 8 _ 50 (0, 0) h]; rfl, by rw [cell_of_row w' S 9 _ 50 (0, 0) h]; rfl⟩
  have BB : Hid (∀ w', Below w1.heap.size w1 w' → Below S w w') := fun w' hb => B1.out.trans (hb.mono (Nat.le_of_lt L1.out))
  have F21 : Hid (∀ w', Below w1.heap.size w1 w' → Calls Tryd.prog 21 #[.int .i64 i, .agg #[.int .u8 o0, .int .u8 o1, .int .u8 o2, .int .u8 o3, .int .u8 o4, .int .u8 o5, .int .u8 o6, .int .u8 o7, .int .i64 am, .int .i64 no]] w' fun e w'' => e = .returned (.agg #[.int .u8 x0, .int .u8 x1, .int .u8 x2, .int .u8 x3, .int .u8 x4, .int .u8 x5, .int .u8 x6, .int .u8 x7]) ∧ Below w'.heap.size w' w'') := fun w' hb => E21.out w' (BB.out w' hb)
  have F22 : Hid (∀ w', Below w1.heap.size w1 w' → Calls Tryd.prog 22 #[.int .i64 i, .agg #[.int .u8 o0, .int .u8 o1, .int .u8 o2, .int .u8 o3, .int .u8 o4, .int .u8 o5, .int .u8 o6, .int .u8 o7, .int .i64 am, .int .i64 no]] w' fun e w'' => e = .returned (.agg #[.int .u8 x0, .int .u8 x1, .int .u8 x2, .int .u8 x3, .int .u8 x4, .int .u8 x5, .int .u8 x6, .int .u8 x7]) ∧ Below w'.heap.size w' w'') := fun w' hb => E22.out w' (BB.out w' hb)
  have G21 := Lib.hid F21.out
  have X0 : Hid (Below w1.heap.size w1 w1) := Below.refl _ _
  have eT := eqT x0 x1 x2 x3 x4 x5 x6 x7
  clear hb1 C8 E21 E22 A0 B0
  obtain ⟨u0, u1, u2, u3, u4, u5, u6, u7, u8, u9⟩ := KF.out w1 rfl
  go_wp2_with fail
  conv in (occs := 3) (Op.move (Operand.tmp 0)) => rw [← op20_eq]
  conv in (occs := 3) (Op.load 50 (Operand.tmp 3)) => rw [← op21_eq]
  conv in (occs := 2) (Op.build 29 #[]) => rw [← op23_eq]
  rw [← op24_eq]
  go_region_held3 (fun w' => (w'.cell? ⟨S, 0, none⟩ = some (.int .u8 o0) ∧ w'.cell? ⟨S, 1, none⟩ = some (.int .u8 o1) ∧ w'.cell? ⟨S, 2, none⟩ = some (.int .u8 o2) ∧ w'.cell? ⟨S, 3, none⟩ = some (.int .u8 o3) ∧ w'.cell? ⟨S, 4, none⟩ = some (.int .u8 o4) ∧ w'.cell? ⟨S, 5, none⟩ = some (.int .u8 o5) ∧ w'.cell? ⟨S, 6, none⟩ = some (.int .u8 o6) ∧ w'.cell? ⟨S, 7, none⟩ = some (.int .u8 o7) ∧ w'.cell? ⟨S, 8, none⟩ = some (.int .i64 am) ∧ w'.cell? ⟨S, 9, none⟩ = some (.int .i64 no))) (first | (with_reducible exact KKc.out) | (with_reducible exact KKb.out) | (with_reducible exact KKa.out) | go_keep)
    (first
      | (go_at_call 21; refine (F21.out _ (by first | exact X0.out | exact X0.out.drew)).mono ?_; rintro e wa ⟨rfl, hba⟩; have Xa : Hid (Below w1.heap.size w1 wa) := (by first | exact X0.out.trans (hba.mono X0.out.size) | exact X0.out.drew.trans (hba.mono X0.out.drew.size)); have KKa := Lib.hid (KF.out wa (Xa.out.block S L1.out)); clear hba F21)
      | (go_at_call 22; refine (F22.out _ (by first | exact Xa.out | exact Xa.out.drew)).mono ?_; rintro e wb ⟨rfl, hbb⟩; have Xb : Hid (Below w1.heap.size w1 wb) := (by first | exact Xa.out.trans (hbb.mono Xa.out.size) | exact Xa.out.drew.trans (hbb.mono Xa.out.drew.size)); have KKb := Lib.hid (KF.out wb (Xb.out.block S L1.out)); clear hbb F22)
      | (go_at_call 21; refine (G21.out _ (by first | exact Xb.out | exact Xb.out.drew)).mono ?_; rintro e wc ⟨rfl, hbc⟩; have Xc : Hid (Below w1.heap.size w1 wc) := (by first | exact Xb.out.trans (hbc.mono Xb.out.size) | exact Xb.out.drew.trans (hbc.mono Xb.out.drew.size)); have KKc := Lib.hid (KF.out wc (Xc.out.block S L1.out)); clear hbc G21))
  all_goals
    rename_i hHeld
    clear hHeld
    go_wp2
    go_ret
    exact ⟨rfl, by rw [HS.out]; exact BB.out _ Xb.out⟩
theorem q6 (i o0 o1 o2 o3 o4 o5 o6 o7 am no : Int) (w : World) (hk : Keys w) : Calls Tryd.prog 6 #[.int .i64 i, .agg #[.int .u8 o0, .int .u8 o1, .int .u8 o2, .int .u8 o3, .int .u8 o4, .int .u8 o5, .int .u8 o6, .int .u8 o7, .int .i64 am, .int .i64 no]] w fun e w' => e = .returned (.bool true) ∧ Below w.heap.size w w' := by
  rcases Classical.em ([o0, o1, o2, o3, o4, o5, o6, o7] = zeros 8) with h | h
  · exact q6z i o0 o1 o2 o3 o4 o5 o6 o7 am no w hk h
  · exact q6y i o0 o1 o2 o3 o4 o5 o6 o7 am no w hk h
end Go.Proofs.YtgagcblddcibkaaDoor
