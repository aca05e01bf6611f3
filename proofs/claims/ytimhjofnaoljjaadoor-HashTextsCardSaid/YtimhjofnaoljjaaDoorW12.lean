/-
  awake; Less.
-/
import Derived.Test.YtimhjofnaoljjaaDoorW11
import Derived.Lib.SlBytesConst
namespace Go.Proofs.YtimhjofnaoljjaaDoor
open Go.RowKit
theorem sha_abc : (sha [97, 98, 99]).getD 0 0 = 186 := by kernel_rfl
theorem sha_abc2 : (sha [97, 98, 99]).getD 1 0 = 120 := by kernel_rfl
theorem sha_abc3 : (sha [97, 98, 99]).getD 31 0 = 173 := by kernel_rfl
theorem hexz : (hexL (zeros 8)).toArray = #[48, 48, 48, 48, 48, 48, 48, 48, 48, 48, 48, 48, 48, 48, 48, 48] := by kernel_rfl
theorem ba8 : ba (zeros 8) = #[.int .u8 0, .int .u8 0, .int .u8 0, .int .u8 0, .int .u8 0, .int .u8 0, .int .u8 0, .int .u8 0] := rfl
attribute [local irreducible] ba ua hexL sha
set_option maxRecDepth 100000 in
set_option maxHeartbeats 1000000 in
theorem c8 (w : World) (hk : Keys w) : Calls Tryd.prog 8 #[] w fun e w' => e = .returned (.bool true) ∧ Below w.heap.size w w' := by
  have HK := Lib.hid hk
  clear hk
  have h1 := z23
  have hcv := Lib.run_convert_bytes_const (P := Tryd.prog) w 25 5 #[.int .u8 97, .int .u8 98, .int .u8 99] 3 3 Tryd.underlying25 Tryd.underlying5
  have B0 : Hid (Below w.heap.size w (w.alloc (Obj.cells #[.int .u8 97, .int .u8 98, .int .u8 99] 5 (3, 4)))) := (Below.refl _ w).alloc (Nat.le_refl _) _
  have S0 : Hid (Src (w.alloc (Obj.cells #[.int .u8 97, .int .u8 98, .int .u8 99] 5 (3, 4))) (some ⟨w.heap.size, 0, none⟩) 3 [97, 98, 99]) := by
    refine ⟨rfl, .inr ⟨w.heap.size, 0, rfl, fun i hi => ?_⟩⟩
    rw [cell_of_row _ _ _ _ _ _ (heap_alloc_last w _)]
    match i, hi with
    | 0, _ => rfl
    | 1, _ => rfl
    | 2, _ => rfl
  have HP : Hid (0 < w.heap.size) := keys_pos HK.out
  have C := Lib.hid (c9 (some ⟨w.heap.size, 0, none⟩) 3 3 [97, 98, 99] (w.alloc (Obj.cells #[.int .u8 97, .int .u8 98, .int .u8 99] 5 (3, 4))) (keys_below HK.out B0.out HP.out) S0.out (by omega) (by omega) (by omega))
  have h17 := fun w => c17 (zeros 8) w (zeros_len 8) (by unfold Byt zeros; decide)
  rw [ba8] at h17
  have H17 := Lib.hid h17
  clear h17
  go_enter Tryd.func8, Tryd.ntmps8
  go_wp2_with (first
    | (go_at_call 9
       refine C.out.mono ?_
       rintro e w1 ⟨rfl, hb1⟩
       have B1 : Hid (Below w.heap.size w w1) := B0.out.trans (hb1.mono B0.out.size)
       clear hb1 hcv
       obtain ⟨D, hD⟩ : ∃ D, w1.heap.size = D := ⟨_, rfl⟩
       have hsd : Hid (w.heap.size ≤ D) := by show _ ≤ D; rw [← hD]; exact B1.out.size)
    | (refine wpList_store_rowTo rfl 23 (.tmp 1) (.tmp 4) rfl rfl D (ba (sha [97, 98, 99])) rfl rfl 23 (ba (zeros 32)) (by subst hD; exact heap_alloc_last w1 _) (sz s23 (by rw [ba_size, sha_len])) (by rw [ba_size, ba_size, sha_len]; rfl) (ba_one _) ?_
       generalize hq : (w1.alloc (Obj.cells (ba (zeros 32)) 23)).setRow D (ba (sha [97, 98, 99])) = w2
       have R2 : BA w2 D 23 (sha [97, 98, 99]) := by rw [← hq]; exact setRow_heap _ _ _ _ _ _ (by subst hD; exact heap_alloc_last w1 _)
       have B2 : Hid (Below w.heap.size w w2) := by rw [← hq]; exact below_setRow (B1.out.alloc (by rw [hD]; exact hsd.out) _) hsd.out _
       have x0 := ba_cell R2 0 (by rw [sha_len]; omega)
       have x1 := ba_cell R2 1 (by rw [sha_len]; omega)
       have x31 := ba_cell R2 31 (by rw [sha_len]; omega)
       rw [sha_abc] at x0
       rw [sha_abc2] at x1
       rw [sha_abc3] at x31
       have LZ : Hid (w.heap.size ≤ w2.heap.size) := B2.out.size
       clear R2 hq hD)
    | (go_at_call 17
       refine (H17.out _).mono ?_
       rintro e w3 ⟨rfl, hb3⟩
       have B3 : Hid (Below w.heap.size w w3) := B2.out.trans (hb3.mono LZ.out)
       rw [hexz]
       clear hb3)
    | fail)
  go_ret
  exact ⟨rfl, B3.out⟩
end Go.Proofs.YtimhjofnaoljjaaDoor
