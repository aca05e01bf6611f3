/-
  awake: a coin is added, spent, and had again.
-/
import Derived.Test.YtdggnmlhgglccaaU19
namespace Go.Proofs.Ytdggnmlhgglccaa
open Go.RowKit
set_option maxRecDepth 100000
theorem Fr.bl {w w' : World} {P : Nat → Prop} {b : Nat} {cs : List Value} {T : TypeId} (h : Fr w w' P) (g : BL w b cs T) (hn : ¬ P b) : BL w' b cs T := bl_keep g (h.block b (bl_lt g) hn)
def p1 : List Int := [1, 0, 0, 0, 0, 0, 0, 0, 2]
def c1 : Cn := ⟨[3, 0, 0, 0, 0, 0, 0, 0, 5, 0], false⟩
theorem p1_ok : okP p1 := by unfold okP p1 ptS hS; simp [okT, okA]
theorem c1_ok : c1.ok := by unfold Cn.ok c1 cnS hS; simp [okT, okA]
theorem may1 : mayAdd [] p1 c1 := ⟨rfl, by decide, by decide, by decide, by decide⟩
def L1 : List Stp := [⟨p1, c1, false⟩]
theorem get1 : setF L1 p1 = some c1 := updC_same (fun _ => none) p1 (some c1)
theorem spend1 : spendL L1 p1 = ⟨p1, c1, true⟩ :: L1 := by unfold spendL; rw [get1]
theorem v_p1 : (ptV p1).toArray = #[.int .u8 1, .int .u8 0, .int .u8 0, .int .u8 0, .int .u8 0, .int .u8 0, .int .u8 0, .int .u8 0, .int .i64 2] := rfl
theorem v_c1 : (cnV c1).toArray = #[.int .u8 3, .int .u8 0, .int .u8 0, .int .u8 0, .int .u8 0, .int .u8 0, .int .u8 0, .int .u8 0, .int .i64 5, .int .i64 0, .bool false] := rfl
set_option maxHeartbeats 4000000 in
theorem uAwake (w : World) : Calls Try.prog 7 #[] w fun e w' => e = .returned (.bool true) ∧ Below w.heap.size w w' := by
  have CN := Lib.hid (uNew)
  have CA := Lib.hid (fun S P w h => uAddC S [] P p1 c1 w h p1_ok c1_ok (by decide))
  have CS := Lib.hid (fun S P w h => uSpend S L1 P p1 w h p1_ok (by decide))
  have CB := Lib.hid (fun S P w h => uBack S (⟨p1, c1, true⟩ :: L1) P L1.length w h (by decide))
  simp only [if_pos may1, decide_eq_true may1] at CA
  simp only [get1, spend1, Option.getD_some, Option.isSome_some] at CS
  rw [v_p1, v_c1] at CA
  rw [v_c1] at CS
  go_enter Try.func7, Try.ntmps7
  go_wp2_with (first
    | (go_at_call 8; refine (CN.out _).mono ?_; rintro e w1 ⟨rfl, g1, g2⟩; have G1 := Lib.hid g1; have G2 := Lib.hid g2; clear g1 g2)
    | fail)
  obtain ⟨Z1, hZ1⟩ : ∃ Z1, w1.heap.size = Z1 := ⟨_, rfl⟩
  have hNZ : w.heap.size < Z1 := by rw [← hZ1]; obtain ⟨_, _, _, h⟩ := G1.out; exact h.lt _ h.inS
  obtain ⟨v1, hv1⟩ : ∃ v1, w1.alloc (Obj.cells #[.int .u8 1, .int .u8 0, .int .u8 0, .int .u8 0, .int .u8 0, .int .u8 0, .int .u8 0, .int .u8 0, .int .i64 2] 38) = v1 := ⟨_, rfl⟩
  have b1 : Below w1.heap.size w1 v1 := by rw [← hv1]; exact (Below.refl _ _).alloc (Nat.le_refl _) _
  have r1 : BL v1 Z1 (ptV p1) 38 := by rw [← hv1, ← hZ1]; exact heap_alloc_last w1 _
  rw [hv1, hZ1]
  clear hv1
  refine (CA.out _ _ _ (SetIs.grow G1.out b1)).mono ?_
  rintro e w2 ⟨rfl, P2, g1, g2, g3⟩
  have lo2 : ∀ q, P2 q → w.heap.size ≤ q ∧ q ≠ Z1 := fun q hq => by
    rcases g2 q hq with e | e
    · subst e; omega
    · have := bl_lt r1; omega
  have r2 : BL w2 Z1 (ptV p1) 38 := g3.bl r1 (by omega)
  have B2 : Below w.heap.size w w2 := (G2.out.trans (b1.mono (by omega))).trans (g3.below (by have := b1.size; omega) fun q hq => by omega)
  clear g2 g3 r1 b1
  have S2 := Lib.hid g1
  clear g1
  go_wp2_with fail
  refine (uMark _ L1 P2 _ S2.out).mono ?_
  rintro e w3 ⟨rfl, b3⟩
  have S3 := Lib.hid (SetIs.grow S2.out b3)
  have r3 : BL w3 Z1 (ptV p1) 38 := bl_keep r2 (b3.block _ (bl_lt r2))
  have B3 : Below w.heap.size w w3 := B2.trans (b3.mono B2.size)
  clear r2 B2 b3 S2
  have R3 : Hid (∀ o, (w3.alloc o).rangeAt Z1 0 (ptV p1)) := fun o => range_of (bl_keep r3 (Below.heap_alloc _ _ _ (bl_lt r3)))
  go_wp2_with (first
    | (refine wpList_load_midG (by rfl) 38 (.tmp 2) rfl Z1 0 rfl (ptV p1) _ (R3.out _) Try.underlying38 rfl (szP p1_ok) ?_)
    | fail)
  obtain ⟨Z3, hZ3⟩ : ∃ Z3, w3.heap.size = Z3 := ⟨_, rfl⟩
  obtain ⟨v3, hv3⟩ : ∃ v3, w3.alloc (Obj.cells #[.int .i64 (L1.length : Nat)] 54) = v3 := ⟨_, rfl⟩
  have b3 : Below w3.heap.size w3 v3 := by rw [← hv3]; exact (Below.refl _ _).alloc (Nat.le_refl _) _
  have r3' : BL v3 Z3 [.int .i64 L1.length] 54 := by rw [← hv3, ← hZ3]; exact heap_alloc_last w3 _
  rw [hv3, hZ3]
  clear hv3 R3 r3
  refine (CS.out _ _ _ (SetIs.grow S3.out b3)).mono ?_
  rintro e w4 ⟨rfl, P4, g1, g2, g3⟩
  have lo3 : ∀ q, P2 q → q < Z3 := fun q hq => by obtain ⟨_, _, _, h⟩ := S3.out; have := h.lt q hq; omega
  have lo4 : ∀ q, P4 q → w.heap.size ≤ q ∧ q ≠ Z3 := fun q hq => by
    rcases g2 q hq with e | e
    · exact ⟨(lo2 q e).1, by have := lo3 q e; omega⟩
    · have h1 := bl_lt r3'
      have h2 := b3.size
      have h3 := B3.size
      omega
  have r4 : BL w4 Z3 [.int .i64 L1.length] 54 := g3.bl r3' (fun e => by have := lo3 _ e; omega)
  have B4 : Below w.heap.size w w4 := (B3.trans (b3.mono B3.size)).trans (g3.below (by have := b3.size; have := B3.size; omega) fun q hq => (lo2 q hq).1)
  clear g2 g3 r3' b3 B3 S3
  have S4 := Lib.hid g1
  clear g1
  have cU : (w4.alloc (Obj.cells #[.int .u8 3, .int .u8 0, .int .u8 0, .int .u8 0, .int .u8 0, .int .u8 0, .int .u8 0, .int .u8 0, .int .i64 5, .int .i64 0, .bool false] 47)).cell? ⟨Z3, 0, none⟩ = some (.int .i64 L1.length) := bl_c0 (bl_keep r4 (Below.heap_alloc _ _ _ (bl_lt r4)))
  go_wp2_with fail
  obtain ⟨Z4, hZ4⟩ : ∃ Z4, w4.heap.size = Z4 := ⟨_, rfl⟩
  obtain ⟨v4, hv4⟩ : ∃ v4, w4.alloc (Obj.cells #[.int .u8 3, .int .u8 0, .int .u8 0, .int .u8 0, .int .u8 0, .int .u8 0, .int .u8 0, .int .u8 0, .int .i64 5, .int .i64 0, .bool false] 47) = v4 := ⟨_, rfl⟩
  have b4 : Below w4.heap.size w4 v4 := by rw [← hv4]; exact (Below.refl _ _).alloc (Nat.le_refl _) _
  have r5 : BL v4 Z4 (cnV c1) 47 := by rw [← hv4, ← hZ4]; exact heap_alloc_last w4 _
  rw [hv4, hZ4]
  refine (CB.out _ _ _ (SetIs.grow S4.out b4)).mono ?_
  rintro e w5 ⟨rfl, g1, g2⟩
  rw [if_pos (by decide)] at g1
  have lo5 : ∀ q, P4 q → q < Z4 := fun q hq => by obtain ⟨_, _, _, h⟩ := S4.out; have := h.lt q hq; omega
  have r6 : BL w5 Z4 (cnV c1) 47 := g2.bl r5 (fun e => by have := lo5 _ e; omega)
  have B5 : Below w.heap.size w w5 := (B4.trans (b4.mono B4.size)).trans (g2.below (by have := b4.size; have := B4.size; omega) fun q hq => (lo4 q hq).1)
  have c8 : w5.cell? ⟨Z4, 8, none⟩ = some (.int .i64 5) := by rw [cell_of_row w5 Z4 8 _ _ _ r6]; rfl
  have S5 : Hid (SetIs w5 w.heap.size L1 P4) := g1
  have CT := Lib.hid (uTot _ L1 P4 w5 S5.out)
  have CL := Lib.hid (uLen _ L1 P4 w5 S5.out)
  have t5 : setT L1 = 5 := rfl
  have n1 : (setN L1 : Int) = 1 := rfl
  rw [t5] at CT
  rw [n1] at CL
  have hd : decide (L1.length ≤ (({ p := p1, c := c1, s := true } : Stp) :: L1).length) = true := rfl
  rw [hd]
  clear g1 g2 r5 b4 hv4 cU S4 t5 n1
  go_wp2_with (first
    | (go_at_call 23; refine CT.out.mono ?_; rintro e w6 ⟨rfl, rfl⟩)
    | (go_at_call 24; refine CL.out.mono ?_; rintro e w7 ⟨rfl, rfl⟩)
    | fail)
  go_ret
  exact ⟨rfl, B5⟩
end Go.Proofs.Ytdggnmlhgglccaa
