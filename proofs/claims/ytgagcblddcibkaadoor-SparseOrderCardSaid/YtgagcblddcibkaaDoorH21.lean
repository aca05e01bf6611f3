/-
  The document's own Two.
-/
import Derived.Test.YtgagcblddcibkaaDoorH20
namespace Go.Proofs.YtgagcblddcibkaaDoor
open Go.RowKit
attribute [local irreducible] ua da ba kk sw S8.run rt hs comp splice outB sha msg
set_option maxRecDepth 100000 in
set_option maxHeartbeats 4000000 in
theorem c15 (h13 : Sum13) (p : Int) (x y : List Int) (w : World) (hx : x.length = 8) (hy : y.length = 8) :
    Calls Tryd.prog 39 #[.int .u8 p, .agg (ba x), .agg (ba y)] w fun e w' => e = .returned (.agg (ba ((sha (twoM p x y)).take 8))) ∧ Below w.heap.size w w' := by
  have h4 := z27
  have HX := Lib.hid hx
  have HY := Lib.hid hy
  have H13 := Lib.hid h13
  clear hx hy h13
  obtain ⟨S, hS⟩ : ∃ S, w.heap.size = S := ⟨_, rfl⟩
  have T0 : Hid (BA (w.alloc (Obj.cells (ba x) 29)) S 29 x) := by subst hS; exact heap_alloc_last w _
  have T1 : Hid (BA ((w.alloc (Obj.cells (ba x) 29)).alloc (Obj.cells (ba y) 29)) (S + 1) 29 y) := by
    show _ = _
    subst hS
    have := heap_alloc_last (w.alloc (Obj.cells (ba x) 29)) (Obj.cells (ba y) 29)
    simp only [World.size_alloc] at this
    exact this
  have T2 : Hid (BA (((w.alloc (Obj.cells (ba x) 29)).alloc (Obj.cells (ba y) 29)).alloc (Obj.cells (ba (zeros 8)) 29)) (S + 2) 29 (zeros 8)) := by
    show _ = _
    subst hS
    have := heap_alloc_last ((w.alloc (Obj.cells (ba x) 29)).alloc (Obj.cells (ba y) 29)) (Obj.cells (ba (zeros 8)) 29)
    simp only [World.size_alloc] at this
    exact this
  have T3 : Hid (BA (((w.alloc (Obj.cells (ba x) 29)).alloc (Obj.cells (ba y) 29)).alloc (Obj.cells (ba (zeros 8)) 29)) (S + 1) 29 y) := (Below.heap_alloc _ _ _ (lt_of_block T1.out)).trans T1.out
  have T4 : Hid (BA (((w.alloc (Obj.cells (ba x) 29)).alloc (Obj.cells (ba y) 29)).alloc (Obj.cells (ba (zeros 8)) 29)) S 29 x) := (Below.heap_alloc _ _ _ (by have := lt_of_block T1.out; omega)).trans ((Below.heap_alloc _ _ _ (lt_of_block T0.out)).trans T0.out)
  have B0 : Hid (Below S w (((w.alloc (Obj.cells (ba x) 29)).alloc (Obj.cells (ba y) 29)).alloc (Obj.cells (ba (zeros 8)) 29))) := by subst hS; exact (((Below.refl _ w).alloc (Nat.le_refl _) _).alloc (by simp) _).alloc (by simp; omega) _
  have HS := Lib.hid hS
  go_enter Tryd.func39, Tryd.ntmps39
  go_wp2_with fail
  generalize ((w.alloc (Obj.cells (ba x) 29)).alloc (Obj.cells (ba y) 29)).alloc (Obj.cells (ba (zeros 8)) 29) = w0 at *
  clear T0 T1 hS
  obtain ⟨x0, x1, x2, x3, x4, x5, x6, x7, h8, _⟩ := sum8 (twoM p x y)
  have H8 := Lib.hid h8
  clear h8
  have LS : Hid (S + 2 < w0.heap.size) := lt_of_block T2.out
  have BO : Hid (∀ w' : World, w'.heap = (w0.alloc (Obj.cells #[.slice (some ⟨S, 0, none⟩) 8 8, .slice (some ⟨S + 1, 0, none⟩) 8 8] 67)).heap → ∀ k, k < w0.heap.size → w'.heap[k]? = w0.heap[k]?) := fun w' hh k hk => by rw [hh]; exact Below.heap_alloc w0 _ k hk
  obtain ⟨G, hG⟩ : ∃ G, w0.heap.size = G := ⟨_, rfl⟩
  have CO : Hid (∀ w' : World, w'.heap = (w0.alloc (Obj.cells #[.slice (some ⟨S, 0, none⟩) 8 8, .slice (some ⟨S + 1, 0, none⟩) 8 8] 67)).heap → Calls Tryd.prog 36 #[.int .u8 p, .slice (some ⟨G, 0, none⟩) 2 2] w' fun e w'' => e = .returned (.agg #[.int .u8 x0, .int .u8 x1, .int .u8 x2, .int .u8 x3, .int .u8 x4, .int .u8 x5, .int .u8 x6, .int .u8 x7]) ∧ Below w'.heap.size w' w'') := fun w' hh => by
    have hkk := BO.out w' hh
    have hlast : w'.heap[G]? = some (.cells #[.slice (some ⟨S, 0, none⟩) 8 8, .slice (some ⟨S + 1, 0, none⟩) 8 8] 67 (0, 0)) := by rw [hh, ← hG]; exact heap_alloc_last w0 _
    have sx : Src w' (some ⟨S, 0, none⟩) 8 x := by
      have := src_ba (t := 29) ((hkk S (by have := LS.out; omega)).trans T4.out) 8 (by rw [HX.out]; omega)
      rw [List.take_of_length_le (by rw [HX.out]; omega)] at this
      exact this
    have sy : Src w' (some ⟨S + 1, 0, none⟩) 8 y := by
      have := src_ba (t := 29) ((hkk (S + 1) (by have := LS.out; omega)).trans T3.out) 8 (by rw [HY.out]; omega)
      rw [List.take_of_length_le (by rw [HY.out]; omega)] at this
      exact this
    have hP : Prts w' (some ⟨G, 0, none⟩) 2 (fun i => if i = 0 then some ⟨S, 0, none⟩ else some ⟨S + 1, 0, none⟩) (fun _ => 8) (fun _ => 8) (fun i => if i = 0 then x else y) := by
      refine ⟨.inr ⟨G, 0, rfl, fun i hi => ?_⟩, fun i hi => ?_, fun i hi => ⟨by omega, by omega⟩⟩
      · rw [cell_of_row w' G (0 + i) _ 67 (0, 0) hlast]
        match i, hi with
        | 0, _ => rfl
        | 1, _ => rfl
      · match i, hi with
        | 0, _ => exact sx
        | 1, _ => exact sy
    have hm2 : msg p (fun _ => 8) (fun i => if i = 0 then x else y) 2 = twoM p x y := by rw [msg2]; rfl
    have hml : (twoM p x y).length ≤ 400000 := by
      unfold twoM
      simp only [List.length_append, digs_len, HX.out, HY.out, List.length_singleton]
      omega
    have := c12 H13.out p (some ⟨G, 0, none⟩) 2 2 _ _ _ _ w' hP (fun i hi h0 => by
      by_cases e : i = 0
      · simp [e] at h0
      · simp [e] at h0) (by rw [hm2]; exact hml)
    rw [hm2, H8.out, ba_lit] at this
    exact this
  have RC : Hid (∀ w', (∀ k, k < w0.heap.size → w'.heap[k]? = w0.heap[k]?) → BA w' (S + 2) 29 (zeros 8)) := fun w' hkk => (hkk (S + 2) LS.out).trans T2.out
  go_region_held3 (fun _ => True) (exact trivial)
    (first
      | (go_at_call 36; refine (CO.out _ (by rfl)).mono ?_; rintro e wz ⟨rfl, hbz⟩; have KZ : Hid (∀ k, k < w0.heap.size → wz.heap[k]? = w0.heap[k]?) := fun k hk => (hbz.block k (by simp; omega)).trans (BO.out _ (by rfl) k hk); have RZ := Lib.hid (RC.out wz KZ.out); have BZ : Hid (Below S w wz) := (B0.out.alloc (by have := LS.out; omega) _).drew.trans (hbz.mono (by have := LS.out; simp; omega)); obtain ⟨z0, z1, z2, z3, z4, z5, z6, z7⟩ := cells8 (t := 29) 0 0 0 0 0 0 0 0 RZ.out; have f0 := free_of RZ.out; clear hbz))
  rename_i hHeld
  clear hHeld z0 z1 z2 z3 z4 z5 z6 z7 f0
  have RF : Hid ((put8 wz (S + 2) x0 x1 x2 x3 x4 x5 x6 x7).heap[S + 2]? = some (.cells #[.int .u8 x0, .int .u8 x1, .int .u8 x2, .int .u8 x3, .int .u8 x4, .int .u8 x5, .int .u8 x6, .int .u8 x7] 29 (0, 0))) := by rw [← ba_lit]; exact put8_ba x0 x1 x2 x3 x4 x5 x6 x7 RZ.out
  have BF : Hid (Below S w (put8 wz (S + 2) x0 x1 x2 x3 x4 x5 x6 x7)) := put8_below x0 x1 x2 x3 x4 x5 x6 x7 BZ.out (by omega)
  change Exit.then _ _ Exit.normal _ (put8 wz (S + 2) x0 x1 x2 x3 x4 x5 x6 x7)
  generalize put8 wz (S + 2) x0 x1 x2 x3 x4 x5 x6 x7 = wf at *
  go_wp2
  refine bodyPost_ret (v := .agg #[.int .u8 x0, .int .u8 x1, .int .u8 x2, .int .u8 x3, .int .u8 x4, .int .u8 x5, .int .u8 x6, .int .u8 x7]) (results_cell_row rfl _ _ (S + 2) 29 #[.int .u8 x0, .int .u8 x1, .int .u8 x2, .int .u8 x3, .int .u8 x4, .int .u8 x5, .int .u8 x6, .int .u8 x7] (0, 0) _ rfl RF.out Tryd.underlying29 rfl (sz s27 rfl)) rfl ⟨by rw [H8.out, ba_lit], ?_⟩
  rw [HS.out]
  exact BF.out
end Go.Proofs.YtgagcblddcibkaaDoor
