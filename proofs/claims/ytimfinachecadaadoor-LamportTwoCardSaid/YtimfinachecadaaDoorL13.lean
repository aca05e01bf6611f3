/-
  The document's own secret.
-/
import Derived.Test.YtimfinachecadaaDoorL12
namespace Go.Proofs.YtimfinachecadaaDoor
open Go.RowKit
attribute [local irreducible] ua da ba kk sw S8.run rt hs comp splice outB sha msg bvals cat at8 at16 secM zeros
theorem dgSec (seed : List Int) (x : Int) (i b S N G : Nat) (w : World) (hs : seed.length = 8) (h1 : BA w S 23 seed) (h2 : w.heap[N]? = some (.cells #[.int .u8 x, .int .u8 (i : Int), .int .u8 (b : Int), .int .u8 0] 5 (0, 0))) (h3 : w.heap[G]? = some (.cells #[.slice (some ⟨S, 0, none⟩) 8 8, .slice (some ⟨N, 0, none⟩) 4 4] 38 (0, 0))) :
    Calls Tryd.prog 16 #[.int .u8 115, .slice (some ⟨G, 0, none⟩) 2 2] w fun e w' => e = .returned (.agg (ba (sec seed x i b))) ∧ Below w.heap.size w w' := by
  have sx := src_ba (t := 23) h1 8 (by omega)
  rw [List.take_of_length_le (by omega)] at sx
  have sy : Src w (some ⟨N, 0, none⟩) 4 [x, (i : Int), (b : Int), 0] := by
    refine ⟨rfl, .inr ⟨N, 0, rfl, fun k hk => ?_⟩⟩
    rw [cell_of_row w N (0 + k) _ 5 (0, 0) h2]
    match k, hk with
    | 0, _ => rfl
    | 1, _ => rfl
    | 2, _ => rfl
    | 3, _ => rfl
  have C := c12 sum13 115 (some ⟨G, 0, none⟩) 2 2 _ _ _ _ w (prts2 h3 sx sy (by decide) (by decide)) (fun k hk h0 => by
    by_cases e : k = 0
    · simp [e] at h0
    · simp [e] at h0) (by rw [msg_sec]; exact sec_le seed x i b hs)
  rw [msg_sec] at C
  exact C
attribute [local irreducible] sec
set_option maxRecDepth 100000 in
set_option maxHeartbeats 4000000 in
theorem r20 (seed : List Int) (index x : Int) (i b : Nat) (w : World) (hs : seed.length = 8) (hw : IntKind.u8.wrap index = x) (hi : i < 16) (hb : b < 2) :
    Calls Tryd.prog 20 #[.agg (ba seed), .int .i64 index, .int .i64 i, .int .i64 b] w fun e w' => e = .returned (.agg (ba (sec seed x i b))) ∧ Below w.heap.size w w' := by
  have h4 := z27
  have HL := Lib.hid hs
  have us : IntKind.u8.wrap (i : Int) = (i : Int) := by rw [IntKind.wrap_u8']; omega
  have ub : IntKind.u8.wrap (b : Int) = (b : Int) := by rw [IntKind.wrap_u8']; omega
  obtain ⟨S, hS⟩ : ∃ S, w.heap.size = S := ⟨_, rfl⟩
  have HS := Lib.hid hS
  have z1 := size_al0 hS (Obj.cells (ba seed) 23)
  have z2 := size_al0 z1 (Obj.cells (ba (zeros 8)) 23)
  have z3 := size_al0 z2 (Obj.cells #[.int .u8 x, .int .u8 (i : Int), .int .u8 (b : Int), .int .u8 0] 5)
  have z4 := size_al0 z3 (Obj.cells #[.slice (some ⟨S, 0, none⟩) 8 8, .slice (some ⟨S + 2, 0, none⟩) 4 4] 38)
  have T1 := Lib.hid (ba_old0 (ba_old0 (ba_old0 (ba_new0 hS seed 23) (Obj.cells (ba (zeros 8)) 23)) (Obj.cells #[.int .u8 x, .int .u8 (i : Int), .int .u8 (b : Int), .int .u8 0] 5)) (Obj.cells #[.slice (some ⟨S, 0, none⟩) 8 8, .slice (some ⟨S + 2, 0, none⟩) 4 4] 38))
  have R1 := Lib.hid (ba_old0 (ba_old0 (ba_new0 z1 (zeros 8) 23) (Obj.cells #[.int .u8 x, .int .u8 (i : Int), .int .u8 (b : Int), .int .u8 0] 5)) (Obj.cells #[.slice (some ⟨S, 0, none⟩) 8 8, .slice (some ⟨S + 2, 0, none⟩) 4 4] 38))
  have N1 : Hid (((((w.alloc (Obj.cells (ba seed) 23)).alloc (Obj.cells (ba (zeros 8)) 23)).alloc (Obj.cells #[.int .u8 x, .int .u8 (i : Int), .int .u8 (b : Int), .int .u8 0] 5)).alloc (Obj.cells #[.slice (some ⟨S, 0, none⟩) 8 8, .slice (some ⟨S + 2, 0, none⟩) 4 4] 38)).heap[S + 2]? = some (.cells #[.int .u8 x, .int .u8 (i : Int), .int .u8 (b : Int), .int .u8 0] 5 (0, 0))) := (Below.heap_alloc _ _ _ (by rw [z3]; omega)).trans (by have := heap_alloc_last ((w.alloc (Obj.cells (ba seed) 23)).alloc (Obj.cells (ba (zeros 8)) 23)) (Obj.cells #[.int .u8 x, .int .u8 (i : Int), .int .u8 (b : Int), .int .u8 0] 5); rw [z2] at this; exact this)
  have G1 : Hid (((((w.alloc (Obj.cells (ba seed) 23)).alloc (Obj.cells (ba (zeros 8)) 23)).alloc (Obj.cells #[.int .u8 x, .int .u8 (i : Int), .int .u8 (b : Int), .int .u8 0] 5)).alloc (Obj.cells #[.slice (some ⟨S, 0, none⟩) 8 8, .slice (some ⟨S + 2, 0, none⟩) 4 4] 38)).heap[S + 3]? = some (.cells #[.slice (some ⟨S, 0, none⟩) 8 8, .slice (some ⟨S + 2, 0, none⟩) 4 4] 38 (0, 0))) := by show _ = _; have := heap_alloc_last (((w.alloc (Obj.cells (ba seed) 23)).alloc (Obj.cells (ba (zeros 8)) 23)).alloc (Obj.cells #[.int .u8 x, .int .u8 (i : Int), .int .u8 (b : Int), .int .u8 0] 5)) (Obj.cells #[.slice (some ⟨S, 0, none⟩) 8 8, .slice (some ⟨S + 2, 0, none⟩) 4 4] 38); rw [z3] at this; exact this
  have B0 : Hid (Below S w ((((w.alloc (Obj.cells (ba seed) 23)).alloc (Obj.cells (ba (zeros 8)) 23)).alloc (Obj.cells #[.int .u8 x, .int .u8 (i : Int), .int .u8 (b : Int), .int .u8 0] 5)).alloc (Obj.cells #[.slice (some ⟨S, 0, none⟩) 8 8, .slice (some ⟨S + 2, 0, none⟩) 4 4] 38))) := ((((Below.refl S w).alloc (by omega) _).alloc (by omega) _).alloc (by omega) _).alloc (by omega) _
  have C16 := Lib.hid (dgSec seed x i b S (S + 2) (S + 3) ((((w.alloc (Obj.cells (ba seed) 23)).alloc (Obj.cells (ba (zeros 8)) 23)).alloc (Obj.cells #[.int .u8 x, .int .u8 (i : Int), .int .u8 (b : Int), .int .u8 0] 5)).alloc (Obj.cells #[.slice (some ⟨S, 0, none⟩) 8 8, .slice (some ⟨S + 2, 0, none⟩) 4 4] 38)) hs T1.out N1.out G1.out)
  have HZ4 := Lib.hid z4
  have LC : Hid ((sec seed x i b).length = 8) := sec_len _ _ _ _
  clear z1 z2 z3 z4 hs T1 N1 G1 hi hb
  go_enter Tryd.func20, Tryd.ntmps20
  go_wp2_with (first
    | (go_at_call 16
       refine C16.out.mono ?_
       rintro e w1 ⟨rfl, hb⟩
       have R2 : Hid (BA w1 (S + 1) 23 (zeros 8)) := (hb.block _ (by have := HZ4.out; omega)).trans R1.out
       have B1 : Hid (Below S w w1) := B0.out.trans (hb.mono (by have := HZ4.out; omega))
       clear hb)
    | (refine wpList_store_rowTo rfl 23 (.tmp 8) (.tmp 18) rfl rfl (S + 1) (ba (sec seed x i b)) rfl rfl 23 (ba (zeros 8)) R2.out (sz s27 (by rw [ba_size, LC.out])) (by rw [ba_size, ba_size, LC.out, zeros_len]) (ba_one _) ?_)
    | fail)
  refine bodyPost_ret (v := .agg (ba (sec seed x i b))) (results_cell_row rfl _ _ (S + 1) 23 _ (0, 0) _ rfl (setRow_heap _ _ _ _ _ _ R2.out) Tryd.underlying23 rfl (sz s27 (by rw [ba_size, LC.out]))) rfl ⟨rfl, ?_⟩
  rw [HS.out]
  exact below_setRow B1.out (by omega) _
end Go.Proofs.YtimfinachecadaaDoor
