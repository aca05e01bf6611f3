/-
  Make.
-/
import Derived.Test.YtkmfmkonejdjiaaDoorLA
namespace Go.Proofs.YtkmfmkonejdjiaaDoor
open Go.RowKit
attribute [local irreducible] ua da ba kk sw S8.run rt hs comp splice outB sha msg bvals cat at8 at16 secM zeros sec keyF
set_option maxRecDepth 100000 in
set_option maxHeartbeats 4000000 in
theorem lMake (seed : List Int) (index x : Int) (w : World) (hk : Keys w) (hs : seed.length = 8) (hw : IntKind.u8.wrap index = x) :
    Calls Tryd.prog 18 #[.agg (ba seed), .int .i64 index] w fun e w' => ∃ T, e = .returned (.pointer (some ⟨T, 0, none⟩)) ∧ w.heap.size ≤ T ∧ BA w' T 67 (cat (keyF seed x) 32) ∧ Below w.heap.size w w' := by
  have h4 := z27
  have h5 := zk48
  have HK := Lib.hid hk
  have HL := Lib.hid hs
  have HP : Hid (0 < w.heap.size) := keys_pos hk
  have HF := Lib.hid (cat_len (keyF seed x) (keyF_len seed x))
  clear hk hs
  obtain ⟨S, hS⟩ : ∃ S, w.heap.size = S := ⟨_, rfl⟩
  have HS := Lib.hid hS
  have T0 : Hid (BA (w.alloc (Obj.cells (ba seed) 23)) S 23 seed) := by subst hS; exact heap_alloc_last w _
  have T1 : Hid (BA ((w.alloc (Obj.cells (ba seed) 23)).alloc (Obj.cells (ba (zeros 256)) 67)) (S + 1) 67 (zeros 256)) := by
    show _ = _
    subst hS
    have := heap_alloc_last (w.alloc (Obj.cells (ba seed) 23)) (Obj.cells (ba (zeros 256)) 67)
    simp only [World.size_alloc] at this
    exact this
  have T2 : Hid (BA ((w.alloc (Obj.cells (ba seed) 23)).alloc (Obj.cells (ba (zeros 256)) 67)) S 23 seed) := (Below.heap_alloc _ _ _ (lt_of_block T0.out)).trans T0.out
  have B0 : Hid (Below S w ((w.alloc (Obj.cells (ba seed) 23)).alloc (Obj.cells (ba (zeros 256)) 67))) := by subst hS; exact ((Below.refl _ w).alloc (Nat.le_refl _) _).alloc (by simp) _
  go_enter Tryd.func18, Tryd.ntmps18
  go_wp2_with fail
  clear hS T0
  generalize (w.alloc (Obj.cells (ba seed) 23)).alloc (Obj.cells (ba (zeros 256)) 67) = w0 at *
  go_loopw [10] (fun c wr => ∃ s : Nat, s ≤ 16 ∧ c = .int .i64 s ∧ BA wr (S + 1) 67 (cat (keyF seed x) (2 * s) ++ zeros (256 - 16 * s)) ∧ Below (S + 1) w0 wr) (fun c _ => 16 - (intOf c).toNat)
  case atStart => exact ⟨0, by omega, rfl, by rw [Nat.mul_zero, cat_zero]; exact T1.out, Below.refl _ _⟩
  case round =>
    clear T1
    obtain ⟨s, hs, rfl, hv, hb⟩ := hrel
    have VR := Lib.hid hv
    have BR := Lib.hid hb
    clear hv hb
    by_cases hlt : s < 16
    · have s0 : (0 : Int) ≤ (s : Int) := by omega
      have s1 : (s : Int) < 16 := by omega
      have HS16 : Hid (s < 16) := hlt
      clear hs hlt
      go_wp2_with fail
      go_loopw [13] (fun c wq => ∃ b : Nat, b ≤ 2 ∧ c = .int .i64 b ∧ BA wq (S + 1) 67 (cat (keyF seed x) (2 * s + b) ++ zeros (256 - 8 * (2 * s + b))) ∧ Below (S + 1) w0 wq) (fun c _ => 2 - (intOf c).toNat)
      case atStart => exact ⟨0, by omega, rfl, by show BA wr (S + 1) 67 (cat (keyF seed x) (2 * s) ++ zeros (256 - 8 * (2 * s))); rw [show 256 - 8 * (2 * s) = 256 - 16 * s by omega]; exact VR.out, BR.out⟩
      case round =>
        clear VR BR
        obtain ⟨b, hb2, rfl, hv, hbq⟩ := hrel
        have VQ := Lib.hid hv
        have BQ := Lib.hid hbq
        clear hv hbq
        by_cases hlt : b < 2
        · have b0 : (0 : Int) ≤ (b : Int) := by omega
          have b1 : (b : Int) < 2 := by omega
          have us : IntKind.u8.wrap (s : Int) = (s : Int) := by rw [IntKind.wrap_u8']; omega
          have ub : IntKind.u8.wrap (b : Int) = (b : Int) := by rw [IntKind.wrap_u8']; omega
          have HB2 : Hid (b < 2) := hlt
          obtain ⟨Z, hZ⟩ : ∃ Z, wr.heap.size = Z := ⟨_, rfl⟩
          have HZ := Lib.hid hZ
          have LZ : Hid (S + 1 < Z) := by show _ < _; rw [← hZ]; exact lt_of_block VQ.out
          have SQ : Hid (BA wr S 23 seed) := (BQ.out.block _ (by omega)).trans T2.out
          have BW : Hid (Below S w wr) := B0.out.trans (BQ.out.mono (by omega))
          obtain ⟨y, hy⟩ : ∃ y, sec seed x s b = y := ⟨_, rfl⟩
          have LY : Hid (y.length = 8) := by rw [← hy]; exact sec_len _ _ _ _
          have HC : Hid (cat (keyF seed x) (2 * s + (b + 1)) = cat (keyF seed x) (2 * s + b) ++ y) := by show _ = _; rw [← Nat.add_assoc, cat_succ, keyF_at _ _ _ _ hlt, hy]
          have CL : Hid ((cat (keyF seed x) (2 * s + b)).length = 8 * (2 * s + b)) := HF.out _
          have CO : Hid (∀ w' : World, w'.heap = ((wr.alloc (Obj.cells #[.int .u8 x, .int .u8 (s : Int), .int .u8 (b : Int), .int .u8 0] 5)).alloc (Obj.cells #[.slice (some ⟨S, 0, none⟩) 8 8, .slice (some ⟨Z, 0, none⟩) 4 4] 58)).heap → Below (S + 1) w0 w' → Calls Tryd.prog 34 #[.int .u8 115, .slice (some ⟨Z + 1, 0, none⟩) 2 2] w' fun e w'' => e = .returned (.agg (ba y)) ∧ BA w'' (S + 1) 67 (cat (keyF seed x) (2 * s + b) ++ zeros (256 - 8 * (2 * s + b))) ∧ Below (S + 1) w0 w'') := fun w' hh hbel => by
            have hz1 : (wr.alloc (Obj.cells #[.int .u8 x, .int .u8 (s : Int), .int .u8 (b : Int), .int .u8 0] 5)).heap.size = Z + 1 := by rw [World.size_alloc, hZ]
            have k1 : ∀ k, k < Z + 1 → w'.heap[k]? = (wr.alloc (Obj.cells #[.int .u8 x, .int .u8 (s : Int), .int .u8 (b : Int), .int .u8 0] 5)).heap[k]? := fun k hk => by rw [hh]; exact Below.heap_alloc _ _ k (by rw [hz1]; exact hk)
            have k2 : ∀ k, k < Z → w'.heap[k]? = wr.heap[k]? := fun k hk => (k1 k (by omega)).trans (Below.heap_alloc _ _ k (by rw [hZ]; exact hk))
            have hN : w'.heap[Z]? = some (.cells #[.int .u8 x, .int .u8 (s : Int), .int .u8 (b : Int), .int .u8 0] 5 (0, 0)) := (k1 Z (by omega)).trans (by rw [← hZ]; exact heap_alloc_last wr _)
            have hG : w'.heap[Z + 1]? = some (.cells #[.slice (some ⟨S, 0, none⟩) 8 8, .slice (some ⟨Z, 0, none⟩) 4 4] 58 (0, 0)) := by rw [hh, ← hz1]; exact heap_alloc_last _ _
            have hsz : w'.heap.size = Z + 2 := by rw [hh, World.size_alloc, hz1]
            have hK : Keys w' := fun i hi => by
              rw [World.cell?_of_block (w := wr) (w' := w') (a := ⟨0, i, none⟩) (k2 0 (by have := LZ.out; omega))]
              exact (keys_below HK.out BW.out (by rw [← HS.out]; exact HP.out)) i hi
            have C := ofSec seed x s b S Z (Z + 1) w' hK HL.out ((k2 S (by have := LZ.out; omega)).trans SQ.out) hN hG
            rw [hy] at C
            exact C.mono fun e w'' h => ⟨h.1, ((h.2.block _ (by have := LZ.out; omega)).trans (k2 _ LZ.out)).trans VQ.out, hbel.trans (h.2.mono (by have := LZ.out; omega))⟩
          clear hlt hy hb2
          generalize cat (keyF seed x) (2 * s + b) = X at *
          go_wp2_with fail
          go_region_held3 (fun _ => True) (exact trivial)
            (first
              | (go_at_call 34; refine (CO.out _ (by rfl) (((BQ.out.alloc (by have := LZ.out; have := HZ.out; omega) _).alloc (by have := LZ.out; have := HZ.out; simp; omega) _).drew)).mono ?_; rintro e wz ⟨rfl, hvz, hbz⟩; have VZ := Lib.hid hvz; have BZ := Lib.hid hbz; have TH : Hid (wz.there (S + 1) (s * 16 + b * 8) (ba y).size) := ba_there VZ.out _ _ (by rw [List.length_append, CL.out, zeros_len, ba_size, LY.out]; have := HB2.out; have := HS16.out; omega); have hst := st_mid TH.out; have hsy : (ba y).size = 8 := by { rw [ba_size]; exact LY.out }; clear hbz hvz))
          rename_i hHeld
          clear hHeld hst hsy
          have VN : Hid (BA (wz.setCells (S + 1) (s * 16 + b * 8) (bvals y)) (S + 1) 67 (cat (keyF seed x) (2 * s + (b + 1)) ++ zeros (256 - 8 * (2 * s + (b + 1))))) := by
            have h1 := ba_setCells y (s * 16 + b * 8) VZ.out
            have hA : s * 16 + b * 8 = X.length := by rw [CL.out]; omega
            rw [hA, splR_app y X (zeros (256 - 8 * (2 * s + b))) (by rw [LY.out, zeros_len]; have := HS16.out; have := HB2.out; omega), zeros_drop, LY.out, ← List.append_assoc, ← HC.out, ← hA] at h1
            rw [show 256 - 8 * (2 * s + (b + 1)) = 256 - 8 * (2 * s + b) - 8 by omega]
            exact h1
          have BN : Hid (Below (S + 1) w0 (wz.setCells (S + 1) (s * 16 + b * 8) (bvals y))) := below_setCells (Nat.le_refl _) _ _ BZ.out
          go_wp2
          go_roundw
          case rel => exact ⟨b + 1, by have := HB2.out; omega, by go_num, VN.out, BN.out⟩
          case measure => have := HB2.out; simp [intOf]; omega
        · obtain rfl : b = 2 := by omega
          clear hlt hb2
          go_wp2
          go_roundw
          case rel => exact ⟨s + 1, by have := HS16.out; omega, by go_num, by rw [show 2 * (s + 1) = 2 * s + 2 by omega, show 256 - 16 * (s + 1) = 256 - 8 * (2 * s + 2) by omega]; exact VQ.out, BQ.out⟩
          case measure => have := HS16.out; simp [intOf]; omega
    · obtain rfl : s = 16 := by omega
      have VF : Hid (BA wr (S + 1) 67 (cat (keyF seed x) 32)) := by
        have : BA wr (S + 1) 67 (cat (keyF seed x) (2 * 16) ++ zeros 0) := VR.out
        rw [List.eq_nil_of_length_eq_zero (zeros_len 0), List.append_nil] at this
        exact this
      have BF : Hid (Below S w wr) := B0.out.trans (BR.out.mono (by omega))
      clear VR BR hs hlt
      go_wp2
      go_ret
      exact ⟨S + 1, rfl, by rw [HS.out]; omega, VF.out, by rw [HS.out]; exact BF.out⟩
end Go.Proofs.YtkmfmkonejdjiaaDoor
