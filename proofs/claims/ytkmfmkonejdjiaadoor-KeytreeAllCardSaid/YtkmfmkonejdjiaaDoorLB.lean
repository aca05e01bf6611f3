/-
  A key's own public key: words, and cells one by one.
-/
import Derived.Test.YtkmfmkonejdjiaaDoorLA
namespace Go.Proofs.YtkmfmkonejdjiaaDoor
open Go.RowKit
theorem put16_eq (w : World) (b o : Nat) (m0 m1 m2 m3 m4 m5 m6 m7 n0 n1 n2 n3 n4 n5 n6 n7 : Int) : ((((((((((((((((w.setCell ⟨b, o, none⟩ (.int .u8 m0)).setCell ⟨b, o + 1, none⟩ (.int .u8 m1)).setCell ⟨b, o + 2, none⟩ (.int .u8 m2)).setCell ⟨b, o + 3, none⟩ (.int .u8 m3)).setCell ⟨b, o + 4, none⟩ (.int .u8 m4)).setCell ⟨b, o + 5, none⟩ (.int .u8 m5)).setCell ⟨b, o + 6, none⟩ (.int .u8 m6)).setCell ⟨b, o + 7, none⟩ (.int .u8 m7)).setCell ⟨b, o + 8, none⟩ (.int .u8 n0)).setCell ⟨b, o + 9, none⟩ (.int .u8 n1)).setCell ⟨b, o + 10, none⟩ (.int .u8 n2)).setCell ⟨b, o + 11, none⟩ (.int .u8 n3)).setCell ⟨b, o + 12, none⟩ (.int .u8 n4)).setCell ⟨b, o + 13, none⟩ (.int .u8 n5)).setCell ⟨b, o + 14, none⟩ (.int .u8 n6)).setCell ⟨b, o + 15, none⟩ (.int .u8 n7)) = w.setCells b o (bvals [m0, m1, m2, m3, m4, m5, m6, m7, n0, n1, n2, n3, n4, n5, n6, n7]) := rfl
theorem put8_eq (w : World) (b o : Nat) (m0 m1 m2 m3 m4 m5 m6 m7 : Int) : ((((((((w.setCell ⟨b, o, none⟩ (.int .u8 m0)).setCell ⟨b, o + 1, none⟩ (.int .u8 m1)).setCell ⟨b, o + 2, none⟩ (.int .u8 m2)).setCell ⟨b, o + 3, none⟩ (.int .u8 m3)).setCell ⟨b, o + 4, none⟩ (.int .u8 m4)).setCell ⟨b, o + 5, none⟩ (.int .u8 m5)).setCell ⟨b, o + 6, none⟩ (.int .u8 m6)).setCell ⟨b, o + 7, none⟩ (.int .u8 m7)) = w.setCells b o (bvals [m0, m1, m2, m3, m4, m5, m6, m7]) := rfl
theorem lst16 (a0 a1 a2 a3 a4 a5 a6 a7 b0 b1 b2 b3 b4 b5 b6 b7 : Int) : [a0, a1, a2, a3, a4, a5, a6, a7] ++ [b0, b1, b2, b3, b4, b5, b6, b7] = [a0, a1, a2, a3, a4, a5, a6, a7, b0, b1, b2, b3, b4, b5, b6, b7] := rfl
theorem cells16 {w : World} {b t : Nat} (a0 a1 a2 a3 a4 a5 a6 a7 c0 c1 c2 c3 c4 c5 c6 c7 : Int) (h : BA w b t ([a0, a1, a2, a3, a4, a5, a6, a7] ++ [c0, c1, c2, c3, c4, c5, c6, c7])) : (w.cell? ⟨b, 0, none⟩ = some (.int .u8 a0) ∧ w.cell? ⟨b, 1, none⟩ = some (.int .u8 a1) ∧ w.cell? ⟨b, 2, none⟩ = some (.int .u8 a2) ∧ w.cell? ⟨b, 3, none⟩ = some (.int .u8 a3) ∧ w.cell? ⟨b, 4, none⟩ = some (.int .u8 a4) ∧ w.cell? ⟨b, 5, none⟩ = some (.int .u8 a5) ∧ w.cell? ⟨b, 6, none⟩ = some (.int .u8 a6) ∧ w.cell? ⟨b, 7, none⟩ = some (.int .u8 a7) ∧ w.cell? ⟨b, 8, none⟩ = some (.int .u8 c0) ∧ w.cell? ⟨b, 9, none⟩ = some (.int .u8 c1) ∧ w.cell? ⟨b, 10, none⟩ = some (.int .u8 c2) ∧ w.cell? ⟨b, 11, none⟩ = some (.int .u8 c3) ∧ w.cell? ⟨b, 12, none⟩ = some (.int .u8 c4) ∧ w.cell? ⟨b, 13, none⟩ = some (.int .u8 c5) ∧ w.cell? ⟨b, 14, none⟩ = some (.int .u8 c6) ∧ w.cell? ⟨b, 15, none⟩ = some (.int .u8 c7)) := ⟨ba_cell h 0 (show 0 < 16 by decide), ba_cell h 1 (show 1 < 16 by decide), ba_cell h 2 (show 2 < 16 by decide), ba_cell h 3 (show 3 < 16 by decide), ba_cell h 4 (show 4 < 16 by decide), ba_cell h 5 (show 5 < 16 by decide), ba_cell h 6 (show 6 < 16 by decide), ba_cell h 7 (show 7 < 16 by decide), ba_cell h 8 (show 8 < 16 by decide), ba_cell h 9 (show 9 < 16 by decide), ba_cell h 10 (show 10 < 16 by decide), ba_cell h 11 (show 11 < 16 by decide), ba_cell h 12 (show 12 < 16 by decide), ba_cell h 13 (show 13 < 16 by decide), ba_cell h 14 (show 14 < 16 by decide), ba_cell h 15 (show 15 < 16 by decide)⟩
theorem zero_at {w : World} {b t n o : Nat} {X : List Int} (h : BA w b t (X ++ zeros n)) (hX : X.length = o) (k : Nat) (hk : k < n) : w.cell? ⟨b, o + k, none⟩ = some (.int .u8 0) := by
  rw [ba_cell h (o + k) (by rw [List.length_append, zeros_len]; omega)]
  rw [← hX]
  simp [List.getD, zeros, hk]
theorem zero16 {w : World} {b t n o : Nat} {X : List Int} (h : BA w b t (X ++ zeros n)) (hX : X.length = o) (hn : 16 ≤ n) : (w.cell? ⟨b, o, none⟩ = some (.int .u8 0) ∧ w.cell? ⟨b, o + 1, none⟩ = some (.int .u8 0) ∧ w.cell? ⟨b, o + 2, none⟩ = some (.int .u8 0) ∧ w.cell? ⟨b, o + 3, none⟩ = some (.int .u8 0) ∧ w.cell? ⟨b, o + 4, none⟩ = some (.int .u8 0) ∧ w.cell? ⟨b, o + 5, none⟩ = some (.int .u8 0) ∧ w.cell? ⟨b, o + 6, none⟩ = some (.int .u8 0) ∧ w.cell? ⟨b, o + 7, none⟩ = some (.int .u8 0) ∧ w.cell? ⟨b, o + 8, none⟩ = some (.int .u8 0) ∧ w.cell? ⟨b, o + 9, none⟩ = some (.int .u8 0) ∧ w.cell? ⟨b, o + 10, none⟩ = some (.int .u8 0) ∧ w.cell? ⟨b, o + 11, none⟩ = some (.int .u8 0) ∧ w.cell? ⟨b, o + 12, none⟩ = some (.int .u8 0) ∧ w.cell? ⟨b, o + 13, none⟩ = some (.int .u8 0) ∧ w.cell? ⟨b, o + 14, none⟩ = some (.int .u8 0) ∧ w.cell? ⟨b, o + 15, none⟩ = some (.int .u8 0)) := ⟨zero_at h hX 0 (by omega), zero_at h hX 1 (by omega), zero_at h hX 2 (by omega), zero_at h hX 3 (by omega), zero_at h hX 4 (by omega), zero_at h hX 5 (by omega), zero_at h hX 6 (by omega), zero_at h hX 7 (by omega), zero_at h hX 8 (by omega), zero_at h hX 9 (by omega), zero_at h hX 10 (by omega), zero_at h hX 11 (by omega), zero_at h hX 12 (by omega), zero_at h hX 13 (by omega), zero_at h hX 14 (by omega), zero_at h hX 15 (by omega)⟩
theorem ba16 : ba (zeros 16) = #[.int .u8 0, .int .u8 0, .int .u8 0, .int .u8 0, .int .u8 0, .int .u8 0, .int .u8 0, .int .u8 0, .int .u8 0, .int .u8 0, .int .u8 0, .int .u8 0, .int .u8 0, .int .u8 0, .int .u8 0, .int .u8 0] := by unfold ba bvals zeros; rfl
theorem lit_len (a0 a1 a2 a3 a4 a5 a6 a7 : Int) : [a0, a1, a2, a3, a4, a5, a6, a7].length = 8 := rfl
def marksF (K : List Int) (j : Nat) : List Int := mk (at8 K j)
theorem marksF_len (K : List Int) (j : Nat) : (marksF K j).length = 8 := mk_len _
end Go.Proofs.YtkmfmkonejdjiaaDoor

/-
  A key's own public key.
-/
namespace Go.Proofs.YtkmfmkonejdjiaaDoor
open Go.RowKit
attribute [local irreducible] ua da ba kk sw S8.run rt hs comp splice outB sha msg bvals cat at8 at16 secM zeros sec keyF marksF mk pubk
set_option maxRecDepth 100000 in
set_option maxHeartbeats 8000000 in
theorem lPub (K : List Int) (T : Nat) (w : World) (hk : Keys w) (hK : K.length = 256) (hT : BA w T 67 K) :
    Calls Tryd.prog 19 #[.pointer (some ⟨T, 0, none⟩)] w fun e w' => e = .returned (.agg (ba (pubk (cat (marksF K) 32)))) ∧ Below w.heap.size w w' := by
  have h4 := z27
  have h5 := z16
  rw [ba16] at h5
  have h6 := z256
  have HK := Lib.hid hk
  have HKL := Lib.hid hK
  have HP : Hid (0 < w.heap.size) := keys_pos hk
  have HF := Lib.hid (cat_len (marksF K) (marksF_len K))
  obtain ⟨S, hS⟩ : ∃ S, w.heap.size = S := ⟨_, rfl⟩
  have HS := Lib.hid hS
  have LT : Hid (T < S) := by show _ < _; rw [← hS]; exact lt_of_block hT
  have R0 : Hid (BA (w.alloc (Obj.cells (ba (zeros 8)) 23)) S 23 (zeros 8)) := by subst hS; exact heap_alloc_last w _
  have K0 : Hid (BA (w.alloc (Obj.cells (ba (zeros 8)) 23)) T 67 K) := (Below.heap_alloc _ _ _ (lt_of_block hT)).trans hT
  have V0 : Hid (BA ((w.alloc (Obj.cells (ba (zeros 8)) 23)).alloc (Obj.cells (ba (zeros 256)) 65)) (S + 1) 65 (zeros 256)) := by
    show _ = _
    subst hS
    have := heap_alloc_last (w.alloc (Obj.cells (ba (zeros 8)) 23)) (Obj.cells (ba (zeros 256)) 65)
    simp only [World.size_alloc] at this
    exact this
  have R1 : Hid (BA ((w.alloc (Obj.cells (ba (zeros 8)) 23)).alloc (Obj.cells (ba (zeros 256)) 65)) S 23 (zeros 8)) := (Below.heap_alloc _ _ _ (lt_of_block R0.out)).trans R0.out
  have K1 : Hid (BA ((w.alloc (Obj.cells (ba (zeros 8)) 23)).alloc (Obj.cells (ba (zeros 256)) 65)) T 67 K) := (Below.heap_alloc _ _ _ (lt_of_block K0.out)).trans K0.out
  have B0 : Hid (Below S w ((w.alloc (Obj.cells (ba (zeros 8)) 23)).alloc (Obj.cells (ba (zeros 256)) 65))) := by subst hS; exact ((Below.refl _ w).alloc (Nat.le_refl _) _).alloc (by simp) _
  have KW : Hid (∀ w', Below S w w' → Keys w') := fun w' hb => keys_below HK.out hb (by rw [← HS.out]; exact HP.out)
  clear hk hK hT
  go_enter Tryd.func19, Tryd.ntmps19
  go_wp2_with (first
    | (refine wpList_load_row rfl 65 (.tmp 11) rfl T rfl 67 (ba K) (0, 0) _ K1.out Tryd.underlying65 rfl (sz q46 (by rw [ba_size, HKL.out])) ?_)
    | fail)
  clear hS R0 K0 K1
  generalize (w.alloc (Obj.cells (ba (zeros 8)) 23)).alloc (Obj.cells (ba (zeros 256)) 65) = w0 at *
  go_loopw [13] (fun c wr => ∃ s : Nat, s ≤ 16 ∧ c = .int .i64 s ∧ BA wr (S + 1) 65 (cat (marksF K) (2 * s) ++ zeros (256 - 16 * s)) ∧ BA wr S 23 (zeros 8) ∧ Below S w wr) (fun c _ => 16 - (intOf c).toNat)
  case atStart => exact ⟨0, by omega, rfl, by rw [Nat.mul_zero, cat_zero]; exact V0.out, R1.out, B0.out⟩
  case round =>
    clear V0 R1 B0
    obtain ⟨s, hs, rfl, hv, hr, hb⟩ := hrel
    have VR := Lib.hid hv
    have RR := Lib.hid hr
    have BR := Lib.hid hb
    clear hv hr hb
    by_cases hlt : s < 16
    · have s0 : (0 : Int) ≤ (s : Int) := by omega
      have s1 : (s : Int) < 16 := by omega
      have HS16 : Hid (s < 16) := hlt
      have hx := idx46 K s hlt
      obtain ⟨a0, a1, a2, a3, a4, a5, a6, a7, ha⟩ := c8cells (at8 K (2 * s)) (at8_len (n := 32) HKL.out (by omega))
      obtain ⟨c0, c1, c2, c3, c4, c5, c6, c7, hc⟩ := c8cells (at8 K (2 * s + 1)) (at8_len (n := 32) HKL.out (by omega))
      obtain ⟨m0, m1, m2, m3, m4, m5, m6, m7, hm⟩ := c8cells (mk [a0, a1, a2, a3, a4, a5, a6, a7]) (mk_len _)
      obtain ⟨n0, n1, n2, n3, n4, n5, n6, n7, hn⟩ := c8cells (mk [c0, c1, c2, c3, c4, c5, c6, c7]) (mk_len _)
      rw [at16_two, ha, hc] at hx
      have HC : Hid (cat (marksF K) (2 * (s + 1)) = cat (marksF K) (2 * s) ++ [m0, m1, m2, m3, m4, m5, m6, m7, n0, n1, n2, n3, n4, n5, n6, n7]) := by show _ = _; rw [show 2 * (s + 1) = 2 * s + 1 + 1 by omega, cat_succ, cat_succ, ← lst16, List.append_assoc, show marksF K (2 * s) = [m0, m1, m2, m3, m4, m5, m6, m7] by unfold marksF; rw [ha, hm], show marksF K (2 * s + 1) = [n0, n1, n2, n3, n4, n5, n6, n7] by unfold marksF; rw [hc, hn]]
      have CL : Hid ((cat (marksF K) (2 * s)).length = s * 16) := by show _ = _; rw [HF.out]; omega
      have CA : Hid (∀ w', Below S w w' → Calls Tryd.prog 35 #[.agg #[.int .u8 a0, .int .u8 a1, .int .u8 a2, .int .u8 a3, .int .u8 a4, .int .u8 a5, .int .u8 a6, .int .u8 a7]] w' fun e w'' => e = .returned (.agg #[.int .u8 m0, .int .u8 m1, .int .u8 m2, .int .u8 m3, .int .u8 m4, .int .u8 m5, .int .u8 m6, .int .u8 m7]) ∧ Below w'.heap.size w' w'') := fun w' hb => by
        have := lMark [a0, a1, a2, a3, a4, a5, a6, a7] w' (KW.out w' hb) rfl
        rw [hm, ba_lit, ba_lit] at this
        exact this
      have CC : Hid (∀ w', Below S w w' → Calls Tryd.prog 35 #[.agg #[.int .u8 c0, .int .u8 c1, .int .u8 c2, .int .u8 c3, .int .u8 c4, .int .u8 c5, .int .u8 c6, .int .u8 c7]] w' fun e w'' => e = .returned (.agg #[.int .u8 n0, .int .u8 n1, .int .u8 n2, .int .u8 n3, .int .u8 n4, .int .u8 n5, .int .u8 n6, .int .u8 n7]) ∧ Below w'.heap.size w' w'') := fun w' hb => by
        have := lMark [c0, c1, c2, c3, c4, c5, c6, c7] w' (KW.out w' hb) rfl
        rw [hn, ba_lit, ba_lit] at this
        exact this
      obtain ⟨Z, hZ⟩ : ∃ Z, wr.heap.size = Z := ⟨_, rfl⟩
      have HZ := Lib.hid hZ
      have LZ : Hid (S + 1 < Z) := by show _ < _; rw [← hZ]; exact lt_of_block VR.out
      have O1 : Hid (BA (wr.alloc (Obj.cells (ba (zeros 16)) 63)) Z 63 (zeros 16)) := by show _ = _; rw [← hZ]; exact heap_alloc_last wr _
      rw [ba16] at O1
      generalize cat (marksF K) (2 * s) = X at *
      clear ha hc hm hn hlt hs
      go_wp2_with (first
        | (refine wpList_store_rowTo rfl 63 (.tmp 5) (.tmp 16) rfl rfl Z (ba ([a0, a1, a2, a3, a4, a5, a6, a7] ++ [c0, c1, c2, c3, c4, c5, c6, c7])) rfl rfl 63 (ba (zeros 16)) O1.out (sz q44 (by rw [ba_size]; rfl)) (by rw [ba_size, ba_size, zeros_len]; rfl) (ba_one _) ?_
           have B3 : Hid (Below Z wr ((wr.alloc (Obj.cells #[.int .u8 0, .int .u8 0, .int .u8 0, .int .u8 0, .int .u8 0, .int .u8 0, .int .u8 0, .int .u8 0, .int .u8 0, .int .u8 0, .int .u8 0, .int .u8 0, .int .u8 0, .int .u8 0, .int .u8 0, .int .u8 0] 63)).setRow Z (ba ([a0, a1, a2, a3, a4, a5, a6, a7] ++ [c0, c1, c2, c3, c4, c5, c6, c7])))) := below_setRow ((Below.refl Z wr).alloc (by have := HZ.out; omega) _) (Nat.le_refl _) _
           have O3 : Hid (BA ((wr.alloc (Obj.cells #[.int .u8 0, .int .u8 0, .int .u8 0, .int .u8 0, .int .u8 0, .int .u8 0, .int .u8 0, .int .u8 0, .int .u8 0, .int .u8 0, .int .u8 0, .int .u8 0, .int .u8 0, .int .u8 0, .int .u8 0, .int .u8 0] 63)).setRow Z (ba ([a0, a1, a2, a3, a4, a5, a6, a7] ++ [c0, c1, c2, c3, c4, c5, c6, c7]))) Z 63 ([a0, a1, a2, a3, a4, a5, a6, a7] ++ [c0, c1, c2, c3, c4, c5, c6, c7])) := setRow_heap _ _ _ _ _ _ O1.out
           clear hZ O1
           generalize (wr.alloc (Obj.cells #[.int .u8 0, .int .u8 0, .int .u8 0, .int .u8 0, .int .u8 0, .int .u8 0, .int .u8 0, .int .u8 0, .int .u8 0, .int .u8 0, .int .u8 0, .int .u8 0, .int .u8 0, .int .u8 0, .int .u8 0, .int .u8 0] 63)).setRow Z (ba ([a0, a1, a2, a3, a4, a5, a6, a7] ++ [c0, c1, c2, c3, c4, c5, c6, c7])) = w3 at *)
        | fail)
      have LZ3 : Hid (Z < w3.heap.size) := lt_of_block O3.out
      have V3 : Hid (BA w3 (S + 1) 65 (X ++ zeros (256 - 16 * s))) := (B3.out.block _ LZ.out).trans VR.out
      have R3 : Hid (BA w3 S 23 (zeros 8)) := (B3.out.block _ (by have := LZ.out; omega)).trans RR.out
      have BS3 : Hid (Below S w w3) := BR.out.trans (B3.out.mono (by have := LZ.out; omega))
      have KZ : Hid (∀ w', Below w3.heap.size w3 w' → (w'.cell? ⟨Z, 0, none⟩ = some (.int .u8 a0) ∧ w'.cell? ⟨Z, 1, none⟩ = some (.int .u8 a1) ∧ w'.cell? ⟨Z, 2, none⟩ = some (.int .u8 a2) ∧ w'.cell? ⟨Z, 3, none⟩ = some (.int .u8 a3) ∧ w'.cell? ⟨Z, 4, none⟩ = some (.int .u8 a4) ∧ w'.cell? ⟨Z, 5, none⟩ = some (.int .u8 a5) ∧ w'.cell? ⟨Z, 6, none⟩ = some (.int .u8 a6) ∧ w'.cell? ⟨Z, 7, none⟩ = some (.int .u8 a7) ∧ w'.cell? ⟨Z, 8, none⟩ = some (.int .u8 c0) ∧ w'.cell? ⟨Z, 9, none⟩ = some (.int .u8 c1) ∧ w'.cell? ⟨Z, 10, none⟩ = some (.int .u8 c2) ∧ w'.cell? ⟨Z, 11, none⟩ = some (.int .u8 c3) ∧ w'.cell? ⟨Z, 12, none⟩ = some (.int .u8 c4) ∧ w'.cell? ⟨Z, 13, none⟩ = some (.int .u8 c5) ∧ w'.cell? ⟨Z, 14, none⟩ = some (.int .u8 c6) ∧ w'.cell? ⟨Z, 15, none⟩ = some (.int .u8 c7))) := fun w' hb => cells16 a0 a1 a2 a3 a4 a5 a6 a7 c0 c1 c2 c3 c4 c5 c6 c7 ((hb.block Z LZ3.out).trans O3.out)
      have XF : Hid (∀ w', Below w3.heap.size w3 w' → Below S w w') := fun w' hb => BS3.out.trans (hb.mono (by have := LZ.out; have := LZ3.out; omega))
      have VF : Hid (∀ w', Below w3.heap.size w3 w' → BA w' (S + 1) 65 (X ++ zeros (256 - 16 * s))) := fun w' hb => (hb.block _ (by have := LZ.out; have := LZ3.out; omega)).trans V3.out
      have RF : Hid (∀ w', Below w3.heap.size w3 w' → BA w' S 23 (zeros 8)) := fun w' hb => (hb.block _ (by have := LZ.out; have := LZ3.out; omega)).trans R3.out
      have X3 : Hid (Below w3.heap.size w3 w3) := Below.refl _ _
      have KS : Hid (∀ wb v : World, Below w3.heap.size w3 wb → v.heap[Z]? = wb.heap[Z]? → (v.cell? ⟨Z, 0, none⟩ = some (.int .u8 a0) ∧ v.cell? ⟨Z, 1, none⟩ = some (.int .u8 a1) ∧ v.cell? ⟨Z, 2, none⟩ = some (.int .u8 a2) ∧ v.cell? ⟨Z, 3, none⟩ = some (.int .u8 a3) ∧ v.cell? ⟨Z, 4, none⟩ = some (.int .u8 a4) ∧ v.cell? ⟨Z, 5, none⟩ = some (.int .u8 a5) ∧ v.cell? ⟨Z, 6, none⟩ = some (.int .u8 a6) ∧ v.cell? ⟨Z, 7, none⟩ = some (.int .u8 a7) ∧ v.cell? ⟨Z, 8, none⟩ = some (.int .u8 c0) ∧ v.cell? ⟨Z, 9, none⟩ = some (.int .u8 c1) ∧ v.cell? ⟨Z, 10, none⟩ = some (.int .u8 c2) ∧ v.cell? ⟨Z, 11, none⟩ = some (.int .u8 c3) ∧ v.cell? ⟨Z, 12, none⟩ = some (.int .u8 c4) ∧ v.cell? ⟨Z, 13, none⟩ = some (.int .u8 c5) ∧ v.cell? ⟨Z, 14, none⟩ = some (.int .u8 c6) ∧ v.cell? ⟨Z, 15, none⟩ = some (.int .u8 c7))) := fun wb v hb hv => cells16 a0 a1 a2 a3 a4 a5 a6 a7 c0 c1 c2 c3 c4 c5 c6 c7 (hv.trans ((hb.block Z LZ3.out).trans O3.out))
      obtain ⟨e0, e1, e2, e3, e4, e5, e6, e7, e8, e9, e10, e11, e12, e13, e14, e15⟩ := KZ.out w3 X3.out
      have K7 := Lib.hid (KZ.out w3.drew X3.out.drew)
      clear VR RR B3 V3 R3
      go_region_held3 (fun w' => (w'.cell? ⟨Z, 0, none⟩ = some (.int .u8 a0) ∧ w'.cell? ⟨Z, 1, none⟩ = some (.int .u8 a1) ∧ w'.cell? ⟨Z, 2, none⟩ = some (.int .u8 a2) ∧ w'.cell? ⟨Z, 3, none⟩ = some (.int .u8 a3) ∧ w'.cell? ⟨Z, 4, none⟩ = some (.int .u8 a4) ∧ w'.cell? ⟨Z, 5, none⟩ = some (.int .u8 a5) ∧ w'.cell? ⟨Z, 6, none⟩ = some (.int .u8 a6) ∧ w'.cell? ⟨Z, 7, none⟩ = some (.int .u8 a7) ∧ w'.cell? ⟨Z, 8, none⟩ = some (.int .u8 c0) ∧ w'.cell? ⟨Z, 9, none⟩ = some (.int .u8 c1) ∧ w'.cell? ⟨Z, 10, none⟩ = some (.int .u8 c2) ∧ w'.cell? ⟨Z, 11, none⟩ = some (.int .u8 c3) ∧ w'.cell? ⟨Z, 12, none⟩ = some (.int .u8 c4) ∧ w'.cell? ⟨Z, 13, none⟩ = some (.int .u8 c5) ∧ w'.cell? ⟨Z, 14, none⟩ = some (.int .u8 c6) ∧ w'.cell? ⟨Z, 15, none⟩ = some (.int .u8 c7))) (first | (with_reducible exact K7.out) | (with_reducible exact K8.out) | (with_reducible exact K9.out) | (with_reducible exact KA.out) | go_keep)
        (first
          | (go_at_call 35; refine (CA.out _ (XF.out _ (by first | exact X3.out.drew | exact X3.out))).mono ?_; rintro e wa ⟨rfl, hba⟩; have XA : Hid (Below w3.heap.size w3 wa) := X3.out.drew.trans hba; have K8 := Lib.hid (KZ.out wa XA.out); clear hba)
          | (go_at_call 35; refine (CC.out _ (XF.out _ XA.out)).mono ?_; rintro e wb ⟨rfl, hbb⟩; have XB : Hid (Below w3.heap.size w3 wb) := XA.out.trans (hbb.mono XA.out.size); have K9 := Lib.hid (KZ.out wb XB.out); have KA := Lib.hid (KS.out wb (((((((((((((((((wb.setCell ⟨S + 1, s * 16, none⟩ (.int .u8 m0)).setCell ⟨S + 1, s * 16 + 1, none⟩ (.int .u8 m1)).setCell ⟨S + 1, s * 16 + 2, none⟩ (.int .u8 m2)).setCell ⟨S + 1, s * 16 + 3, none⟩ (.int .u8 m3)).setCell ⟨S + 1, s * 16 + 4, none⟩ (.int .u8 m4)).setCell ⟨S + 1, s * 16 + 5, none⟩ (.int .u8 m5)).setCell ⟨S + 1, s * 16 + 6, none⟩ (.int .u8 m6)).setCell ⟨S + 1, s * 16 + 7, none⟩ (.int .u8 m7)).setCell ⟨S + 1, s * 16 + 8, none⟩ (.int .u8 n0)).setCell ⟨S + 1, s * 16 + 9, none⟩ (.int .u8 n1)).setCell ⟨S + 1, s * 16 + 10, none⟩ (.int .u8 n2)).setCell ⟨S + 1, s * 16 + 11, none⟩ (.int .u8 n3)).setCell ⟨S + 1, s * 16 + 12, none⟩ (.int .u8 n4)).setCell ⟨S + 1, s * 16 + 13, none⟩ (.int .u8 n5)).setCell ⟨S + 1, s * 16 + 14, none⟩ (.int .u8 n6)).setCell ⟨S + 1, s * 16 + 15, none⟩ (.int .u8 n7))) XB.out (by rw [put16_eq]; exact heap_setCells (by have := LZ.out; omega) _ _ _)); obtain ⟨z0, z1, z2, z3, z4, z5, z6, z7, z8, z9, z10, z11, z12, z13, z14, z15⟩ := zero16 (VF.out wb XB.out) CL.out (by have := HS16.out; omega); have f0 := fun i => free_of (VF.out wb XB.out) i; clear hbb))
      rename_i hHeld
      clear hHeld K7 K8 K9 KA
      rw [put16_eq]
      have VN : Hid (BA (wb.setCells (S + 1) (s * 16) (bvals [m0, m1, m2, m3, m4, m5, m6, m7, n0, n1, n2, n3, n4, n5, n6, n7])) (S + 1) 65 (cat (marksF K) (2 * (s + 1)) ++ zeros (256 - 16 * (s + 1)))) := by
        have h1 := ba_setCells [m0, m1, m2, m3, m4, m5, m6, m7, n0, n1, n2, n3, n4, n5, n6, n7] (s * 16) (VF.out wb XB.out)
        have hl : [m0, m1, m2, m3, m4, m5, m6, m7, n0, n1, n2, n3, n4, n5, n6, n7].length = 16 := rfl
        rw [← CL.out, splR_app [m0, m1, m2, m3, m4, m5, m6, m7, n0, n1, n2, n3, n4, n5, n6, n7] X (zeros (256 - 16 * s)) (by rw [hl, zeros_len]; have := HS16.out; omega), zeros_drop, hl, ← List.append_assoc, ← HC.out, CL.out] at h1
        rw [show 256 - 16 * (s + 1) = 256 - 16 * s - 16 by omega]
        exact h1
      have RN : Hid (BA (wb.setCells (S + 1) (s * 16) (bvals [m0, m1, m2, m3, m4, m5, m6, m7, n0, n1, n2, n3, n4, n5, n6, n7])) S 23 (zeros 8)) := (heap_setCells (by omega) _ _ _).trans (RF.out wb XB.out)
      have BN : Hid (Below S w (wb.setCells (S + 1) (s * 16) (bvals [m0, m1, m2, m3, m4, m5, m6, m7, n0, n1, n2, n3, n4, n5, n6, n7]))) := below_setCells (by omega) _ _ (XF.out wb XB.out)
      clear z0 z1 z2 z3 z4 z5 z6 z7 z8 z9 z10 z11 z12 z13 z14 z15 f0 KZ KS VF RF XB XA
      go_wp2
      go_roundw
      case rel => exact ⟨s + 1, by have := HS16.out; omega, by go_num, VN.out, RN.out, BN.out⟩
      case measure => have := HS16.out; simp [intOf]; omega
    · obtain rfl : s = 16 := by omega
      obtain ⟨y, hy⟩ : ∃ y, cat (marksF K) 32 = y := ⟨_, rfl⟩
      have LY : Hid (y.length = 256) := by rw [← hy]; exact HF.out 32
      have VF : Hid (BA wr (S + 1) 65 y) := by
        have : BA wr (S + 1) 65 (cat (marksF K) (2 * 16) ++ zeros 0) := VR.out
        rw [List.eq_nil_of_length_eq_zero (zeros_len 0), List.append_nil, hy] at this
        exact this
      have C22 : Hid (∀ w', Below S w w' → Calls Tryd.prog 36 #[.agg (ba y)] w' fun e w'' => e = .returned (.agg (ba (pubk y))) ∧ Below w'.heap.size w' w'') := fun w' hb => lAll y w' (KW.out w' hb) LY.out
      have LP : Hid ((pubk y).length = 8) := pubk_len _
      have HY : Hid (∀ z, pubk y = z → pubk (cat (marksF K) 32) = z) := fun z hz => by rw [hy]; exact hz
      clear VR hlt hs hy HF
      obtain ⟨z, hz⟩ : ∃ z, pubk y = z := ⟨_, rfl⟩
      have HYZ := Lib.hid (HY.out z hz)
      rw [hz] at C22 LP
      clear hz HY
      go_wp2_with (first
        | (refine wpList_load_row rfl 65 (.tmp 3) rfl (S + 1) rfl 65 (ba y) (0, 0) _ VF.out Tryd.underlying65 rfl (sz q46 (by rw [ba_size, LY.out])) ?_)
        | (go_at_call 36; refine (C22.out _ BR.out).mono ?_; rintro e w1 ⟨rfl, hb⟩; have R1 : Hid (BA w1 S 23 (zeros 8)) := (hb.block _ (lt_of_block RR.out)).trans RR.out; have B1 : Hid (Below S w w1) := BR.out.trans (hb.mono (Nat.le_of_lt (lt_of_block RR.out))); clear hb)
        | (refine wpList_store_rowTo rfl 23 (.tmp 2) (.tmp 28) rfl rfl S (ba z) rfl rfl 23 (ba (zeros 8)) R1.out (sz s27 (by rw [ba_size, LP.out])) (by rw [ba_size, ba_size, LP.out, zeros_len]) (ba_one _) ?_)
        | fail)
      refine bodyPost_ret (v := .agg (ba z)) (results_cell_row rfl _ _ S 23 _ (0, 0) _ rfl (setRow_heap _ _ _ _ _ _ R1.out) Tryd.underlying23 rfl (sz s27 (by rw [ba_size, LP.out]))) rfl ⟨by rw [HYZ.out], ?_⟩
      rw [HS.out]
      exact below_setRow B1.out (Nat.le_refl _) _
end Go.Proofs.YtkmfmkonejdjiaaDoor
