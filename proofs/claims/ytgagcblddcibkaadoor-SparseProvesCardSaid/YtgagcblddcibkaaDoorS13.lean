/-
  A leaf of an account: the program's and the document's.
-/
import Derived.Test.YtgagcblddcibkaaDoorS12b
namespace Go.Proofs.YtgagcblddcibkaaDoor
open Go.RowKit
open Go.Maps
def okN (n : Int) (w : Nat) : Bool := decide (n / 2 ^ (8 * w) = 0)
theorem okN_eq (n : Int) (w : Nat) : decide (n / 2 ^ (8 * w) = 0) = okN n w := rfl
theorem ok2 (n : Int) : okN n 2 = decide (0 ≤ n ∧ n < 65536) := by
  have : n / 2 ^ (8 * 2) = 0 ↔ 0 ≤ n ∧ n < 65536 := by
    rw [show (2 : Int) ^ (8 * 2) = 65536 by decide]
    omega
  unfold okN
  simp only [this]
theorem ok7 (n : Int) : okN n 7 = decide (0 ≤ n ∧ n < 72057594037927936) := by
  have : n / 2 ^ (8 * 7) = 0 ↔ 0 ≤ n ∧ n < 72057594037927936 := by
    rw [show (2 : Int) ^ (8 * 7) = 72057594037927936 by decide]
    omega
  unfold okN
  simp only [this]
theorem ok1 (n : Int) : okN n 1 = decide (0 ≤ n ∧ n < 256) := by
  have : n / 2 ^ (8 * 1) = 0 ↔ 0 ≤ n ∧ n < 256 := by
    rw [show (2 : Int) ^ (8 * 1) = 256 by decide]
    omega
  unfold okN
  simp only [this]
theorem put8_else {w : World} {b k : Nat} (x0 x1 x2 x3 x4 x5 x6 x7 : Int) (h : k ≠ b) : (put8 w b x0 x1 x2 x3 x4 x5 x6 x7).heap[k]? = w.heap[k]? := by
  unfold put8
  simp only [heap_setCell_other _ _ k _ (show k ≠ (Addr.mk b _ none).block from h)]
def leafV (i : Int) (ow : List Int) (am no : Int) : List Int := if ow = zeros 8 then zeros 8 else if (okN i 2 && (okN am 7 && okN no 1)) = true then (sha (leafM i ow am no)).take 8 else zeros 8
theorem leafV_len (i : Int) (ow : List Int) (am no : Int) : (leafV i ow am no).length = 8 := by
  unfold leafV
  split
  · rfl
  · split
    · rw [List.length_take, sha_len]; omega
    · rfl
theorem leafV_no {i : Int} {ow : List Int} {am no : Int} (h : (decide (ow = zeros 8) || !(okN i 2 && (okN am 7 && okN no 1))) = true) : leafV i ow am no = zeros 8 := by
  unfold leafV
  split
  · rfl
  · rename_i h1
    rw [decide_eq_false h1] at h
    split
    · rename_i h2
      rw [h2] at h
      cases h
    · rfl
theorem leafV_yes {i : Int} {ow : List Int} {am no : Int} (h1 : ¬ ow = zeros 8) (h2 : (okN i 2 && (okN am 7 && okN no 1)) = true) : leafV i ow am no = (sha (leafM i ow am no)).take 8 := by
  unfold leafV
  rw [if_neg h1, if_pos h2]
attribute [local irreducible] ua da ba kk sw S8.run rt hs comp splice outB sha msg twoM twoN ab MapIs mrow nd upF at8 prfL okN leafM leafV digs pa4
set_option maxRecDepth 100000 in
set_option maxHeartbeats 4000000 in
theorem p21z (i o0 o1 o2 o3 o4 o5 o6 o7 am no : Int) (w : World) (hno : (decide ([o0, o1, o2, o3, o4, o5, o6, o7] = zeros 8) || !(okN i 2 && (okN am 7 && okN no 1))) = true) :
    Calls Tryd.prog 21 #[.int .i64 i, .agg #[.int .u8 o0, .int .u8 o1, .int .u8 o2, .int .u8 o3, .int .u8 o4, .int .u8 o5, .int .u8 o6, .int .u8 o7, .int .i64 am, .int .i64 no]] w fun e w' => e = .returned (.agg (ba (leafV i [o0, o1, o2, o3, o4, o5, o6, o7] am no))) ∧ Below w.heap.size w w' := by
  have h4 := z27
  have h5 := b29
  have E2 : Hid (∀ w', Calls Tryd.prog 31 #[.int .i64 i, .int .i64 2] w' fun e w'' => e = .returned (.bool (okN i 2)) ∧ w' = w'') := fun w' => by
    have := p31 i 2 w' (by omega)
    rw [show ((2 : Nat) : Int) = 2 from rfl, okN_eq] at this
    exact this
  have E7 : Hid (∀ w', Calls Tryd.prog 31 #[.int .i64 am, .int .i64 7] w' fun e w'' => e = .returned (.bool (okN am 7)) ∧ w' = w'') := fun w' => by
    have := p31 am 7 w' (by omega)
    rw [show ((7 : Nat) : Int) = 7 from rfl, okN_eq] at this
    exact this
  have E1 : Hid (∀ w', Calls Tryd.prog 31 #[.int .i64 no, .int .i64 1] w' fun e w'' => e = .returned (.bool (okN no 1)) ∧ w' = w'') := fun w' => by
    have := p31 no 1 w' (by omega)
    rw [show ((1 : Nat) : Int) = 1 from rfl, okN_eq] at this
    exact this
  have EZ : Hid (∀ w', Calls Tryd.prog 32 #[.agg #[.int .u8 o0, .int .u8 o1, .int .u8 o2, .int .u8 o3, .int .u8 o4, .int .u8 o5, .int .u8 o6, .int .u8 o7]] w' fun e w'' => e = .returned (.bool (decide ([o0, o1, o2, o3, o4, o5, o6, o7] = zeros 8))) ∧ Below w'.heap.size w' w'') := fun w' => by
    have := c16 [o0, o1, o2, o3, o4, o5, o6, o7] w' rfl
    generalize decide ([o0, o1, o2, o3, o4, o5, o6, o7] = zeros 8) = b at *
    rw [ba_lit] at this
    exact this
  rw [leafV_no hno]
  obtain ⟨S, hS⟩ : ∃ S, w.heap.size = S := ⟨_, rfl⟩
  have HS := Lib.hid hS
  have A0 : Hid ((w.alloc (Obj.cells #[.int .u8 o0, .int .u8 o1, .int .u8 o2, .int .u8 o3, .int .u8 o4, .int .u8 o5, .int .u8 o6, .int .u8 o7, .int .i64 am, .int .i64 no] 50)).heap[S]? = some (.cells #[.int .u8 o0, .int .u8 o1, .int .u8 o2, .int .u8 o3, .int .u8 o4, .int .u8 o5, .int .u8 o6, .int .u8 o7, .int .i64 am, .int .i64 no] 50 (0, 0))) := by subst hS; exact heap_alloc_last w _
  have R0 : Hid (BA ((w.alloc (Obj.cells #[.int .u8 o0, .int .u8 o1, .int .u8 o2, .int .u8 o3, .int .u8 o4, .int .u8 o5, .int .u8 o6, .int .u8 o7, .int .i64 am, .int .i64 no] 50)).alloc (Obj.cells (ba (zeros 8)) 29)) (S + 1) 29 (zeros 8)) := by
    show _ = _
    subst hS
    have := heap_alloc_last (w.alloc (Obj.cells #[.int .u8 o0, .int .u8 o1, .int .u8 o2, .int .u8 o3, .int .u8 o4, .int .u8 o5, .int .u8 o6, .int .u8 o7, .int .i64 am, .int .i64 no] 50)) (Obj.cells (ba (zeros 8)) 29)
    simp only [World.size_alloc] at this
    exact this
  have A1 : Hid (((w.alloc (Obj.cells #[.int .u8 o0, .int .u8 o1, .int .u8 o2, .int .u8 o3, .int .u8 o4, .int .u8 o5, .int .u8 o6, .int .u8 o7, .int .i64 am, .int .i64 no] 50)).alloc (Obj.cells (ba (zeros 8)) 29)).heap[S]? = some (.cells #[.int .u8 o0, .int .u8 o1, .int .u8 o2, .int .u8 o3, .int .u8 o4, .int .u8 o5, .int .u8 o6, .int .u8 o7, .int .i64 am, .int .i64 no] 50 (0, 0))) := (Below.heap_alloc _ _ _ (lt_of_block A0.out)).trans A0.out
  have B0 : Hid (Below S w ((w.alloc (Obj.cells #[.int .u8 o0, .int .u8 o1, .int .u8 o2, .int .u8 o3, .int .u8 o4, .int .u8 o5, .int .u8 o6, .int .u8 o7, .int .i64 am, .int .i64 no] 50)).alloc (Obj.cells (ba (zeros 8)) 29))) := by subst hS; exact ((Below.refl _ w).alloc (Nat.le_refl _) _).alloc (by simp) _
  generalize decide ([o0, o1, o2, o3, o4, o5, o6, o7] = zeros 8) = bz at *
  generalize okN i 2 = b1 at *
  generalize okN am 7 = b2 at *
  generalize okN no 1 = b3 at *
  go_enter Tryd.func21, Tryd.ntmps21
  go_wp2_with fail
  clear hS A0
  generalize (w.alloc (Obj.cells #[.int .u8 o0, .int .u8 o1, .int .u8 o2, .int .u8 o3, .int .u8 o4, .int .u8 o5, .int .u8 o6, .int .u8 o7, .int .i64 am, .int .i64 no] 50)).alloc (Obj.cells (ba (zeros 8)) 29) = w0 at *
  have KF : Hid (∀ w', Below w0.heap.size w0 w' → (w'.cell? ⟨S, 0, none⟩ = some (.int .u8 o0) ∧ w'.cell? ⟨S, 1, none⟩ = some (.int .u8 o1) ∧ w'.cell? ⟨S, 2, none⟩ = some (.int .u8 o2) ∧ w'.cell? ⟨S, 3, none⟩ = some (.int .u8 o3) ∧ w'.cell? ⟨S, 4, none⟩ = some (.int .u8 o4) ∧ w'.cell? ⟨S, 5, none⟩ = some (.int .u8 o5) ∧ w'.cell? ⟨S, 6, none⟩ = some (.int .u8 o6) ∧ w'.cell? ⟨S, 7, none⟩ = some (.int .u8 o7) ∧ w'.cell? ⟨S, 8, none⟩ = some (.int .i64 am) ∧ w'.cell? ⟨S, 9, none⟩ = some (.int .i64 no))) := fun w' hb => by
    have h := (hb.block S (by have := lt_of_block R0.out; omega)).trans A1.out
    exact ⟨by rw [cell_of_row w' S 0 _ 50 (0, 0) h]; rfl, by rw [cell_of_row w' S 1 _ 50 (0, 0) h]; rfl, by rw [cell_of_row w' S 2 _ 50 (0, 0) h]; rfl, by rw [cell_of_row w' S 3 _ 50 (0, 0) h]; rfl, by rw [cell_of_row w' S 4 _ 50 (0, 0) h]; rfl, by rw [cell_of_row w' S 5 _ 50 (0, 0) h]; rfl, by rw [cell_of_row w' S 6 _ 50 (0, 0) h]; rfl, by rw [cell_of_row w' S 7 _ 50 (0, 0) h]; rfl, by rw [cell_of_row w' S 8 _ 50 (0, 0) h]; rfl, by rw [cell_of_row w' S 9 _ 50 (0, 0) h]; rfl⟩
  have X0 : Hid (Below w0.heap.size w0 w0) := Below.refl _ _
  have L0 : Hid (S + 1 < w0.heap.size) := lt_of_block R0.out
  obtain ⟨u0, u1, u2, u3, u4, u5, u6, u7, u8, u9⟩ := KF.out w0 X0.out
  cases b1 <;> cases b2 <;> cases b3 <;> cases bz <;> first
    | (exact absurd hno (by decide))
    | (go_wp2_with (first
        | (go_at_call 31; refine (E2.out _).mono ?_; rintro e w2 ⟨rfl, rfl⟩; clear E2)
        | (go_at_call 31; refine (E7.out _).mono ?_; rintro e w2 ⟨rfl, rfl⟩; clear E7)
        | (go_at_call 31; refine (E1.out _).mono ?_; rintro e w2 ⟨rfl, rfl⟩; clear E1)
        | (go_at_call 32; refine (EZ.out _).mono ?_; rintro e w1 ⟨rfl, hb1⟩; have X1 := Lib.hid hb1; have R1 : Hid (BA w1 (S + 1) 29 (zeros 8)) := (hb1.block _ L0.out).trans R0.out; clear u0 u1 u2 u3 u4 u5 u6 u7 u8 u9 hb1; obtain ⟨u0, u1, u2, u3, u4, u5, u6, u7, u8, u9⟩ := KF.out w1 X1.out)
        | (refine wpList_store_rowTo rfl 29 (.tmp 4) (.tmp 25) rfl rfl (S + 1) (ba (zeros 8)) rfl rfl 29 (ba (zeros 8)) R1.out (sz s27 (by rw [ba_size, zeros_len])) rfl (ba_one _) ?_)
        | fail)
       refine bodyPost_ret (v := .agg (ba (zeros 8))) (results_cell_row rfl _ _ (S + 1) 29 _ (0, 0) _ rfl (setRow_heap _ _ _ _ _ _ R1.out) Tryd.underlying29 rfl (sz s27 (by rw [ba_size, zeros_len]))) rfl ⟨rfl, ?_⟩
       rw [HS.out]
       exact below_setRow (B0.out.trans (X1.out.mono (by have := L0.out; omega))) (by omega) _)
end Go.Proofs.YtgagcblddcibkaaDoor
