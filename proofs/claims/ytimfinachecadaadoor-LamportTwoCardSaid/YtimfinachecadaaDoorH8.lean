/-
  end; Sum.
-/
import Derived.Test.YtimfinachecadaaDoorH7
namespace Go.Proofs.YtimfinachecadaaDoor
open Go.RowKit
def room (n : Nat) : Nat := (119 - n % 64) % 64
def fill (n : Nat) : List Int := 128 :: zeros (room n)
def pad (m : List Int) : List Int := m ++ fill m.length ++ be (8 * (m.length : Int)) 8
/-- SHA-256 -/
def sha (m : List Int) : List Int := outB (hs (pad m) ((pad m).length / 64)) 32
theorem sha_len (m : List Int) : (sha m).length = 32 := outB_len _ _
theorem fill_take (n : Nat) : (128 :: zeros 63).take (1 + room n) = fill n := by
  have : room n < 64 := Nat.mod_lt _ (by decide)
  unfold fill zeros
  rw [Nat.add_comm, List.take_succ_cons, List.take_replicate, Nat.min_eq_left (by omega)]
theorem fed_below {w W : World} {b B : Nat} {m : List Int} (h : Fed w b m) (hb : Below B w W) (hB : b < B) : Fed W b m := by
  obtain ⟨bg, hD, h2, h3⟩ := h.ex
  exact ⟨bg, (hb.block b hB).trans hD, h2, h3⟩
theorem fed_lt {w : World} {b : Nat} {m : List Int} (h : Fed w b m) : b < w.heap.size := by
  obtain ⟨bg, hD, h2, h3⟩ := h.ex
  exact lt_of_block hD
theorem fillA : (ba (zeros 64)).setIfInBounds 0 (.int .u8 128) = ba (128 :: zeros 63) := by rw [set_ba]; rfl
theorem ba_ne : ¬ ba (zeros 64) = #[] := fun e => by have := congrArg Array.size e; rw [ba_size, zeros_len] at this; cases this
theorem Oth.setRowN {b S : Nat} {w v : World} (h : Oth b w v) (hS : w.heap.size ≤ S) (hb : b ≤ S) (cs : Array Value) : Oth b w (v.setRow S cs) :=
  ⟨below_setRow h.below hb _, fun k hk hne => (setRow_other v S k cs (by omega)).trans (h.oth k hk hne)⟩
attribute [local irreducible] ua da ba kk sw S8.run rt hs comp splice outB
set_option maxRecDepth 100000 in
set_option maxHeartbeats 1000000 in
theorem c24 (b : Nat) (m : List Int) (w : World) (h : Fed w b m) (hk : Keys w) (hb0 : 0 < b) (hm : m.length ≤ 500000) :
    Calls Tryd.prog 28 #[.pointer (some ⟨b, 0, none⟩)] w fun e w' => e = .returned (.agg (ba (sha m))) ∧ Oth b w w' := by
  have h1 := z23
  have h2 := z45
  have h3 := z26
  have h4 := ba_ne
  have HF := Lib.hid h
  have HK := Lib.hid hk
  have L0 : Hid (0 < b) := hb0
  have LW : Hid (b < w.heap.size) := fed_lt h
  obtain ⟨N, hN⟩ : ∃ N, m.length = N := ⟨_, rfl⟩
  obtain ⟨bg, hD, h64, htk⟩ := h.ex
  have x72 := da_n hD rfl h64
  rw [hN] at x72 hm
  have x72 : (w.alloc (Obj.cells (ba (zeros 32)) 54)).cell? ⟨b, 72, none⟩ = some (.int .u64 N) := by rw [World.cell?_of_block (w := w) (a := ⟨b, 72, none⟩) (Below.heap_alloc w _ b LW.out)]; exact x72
  have HN := Lib.hid hN
  obtain ⟨r, hr⟩ : ∃ r, N % 64 = r := ⟨_, rfl⟩
  obtain ⟨R, hR⟩ : ∃ R, (119 - r) % 64 = R := ⟨_, rfl⟩
  have hR64 : R < 64 := by omega
  have hRoom : room N = R := by unfold room; rw [hr]; exact hR
  have q1 : (N : Int).tmod 64 = (r : Int) := by rw [Int.tmod_eq_emod_of_nonneg (by omega)]; omega
  have q2 : IntKind.u64.wrap (119 - (r : Int)) = ((119 - r : Nat) : Int) := by rw [IntKind.wrap_u64]; omega
  have q3 : ((119 - r : Nat) : Int).tmod 64 = (R : Int) := by rw [Int.tmod_eq_emod_of_nonneg (by omega)]; omega
  have HRM := Lib.hid hRoom
  clear h hk hb0 hN hD h64 htk hRoom hR hr
  generalize 119 - r = d at *
  obtain ⟨S, hS⟩ : ∃ S, w.heap.size = S := ⟨_, rfl⟩
  obtain ⟨T, hT⟩ : ∃ T, 1 + R = T := ⟨_, rfl⟩
  have q4 : (T : Int) ≤ 64 := by omega
  have q5 : (1 : Int) + (R : Int) = (T : Int) := by omega
  have q6 : (0 : Int) ≤ (T : Int) := by omega
  have HT := Lib.hid hT
  clear hT
  go_enter Tryd.func28, Tryd.ntmps28
  go_wp2_with (first
    | (refine wpList_store_rowTo rfl 58 (.tmp 4) (.tmp 13) rfl rfl (S + 1) ((ba (zeros 64)).setIfInBounds 0 (.int .u8 128)) rfl rfl 58 (ba (zeros 64)) (by subst hS; have := heap_alloc_last (w.alloc (Obj.cells (ba (zeros 32)) 54)) (Obj.cells (ba (zeros 64)) 58); simp only [World.size_alloc] at this; exact this) (sz s45 (by rw [fillA, ba_size]; rfl)) (by rw [fillA, ba_size, ba_size]; rfl) (by rw [fillA]; exact ba_one _) ?_
       rw [fillA]
       have T0 : (w.alloc (Obj.cells (ba (zeros 32)) 54)).heap[S]? = some (.cells (ba (zeros 32)) 54 (0, 0)) := by subst hS; exact heap_alloc_last w _
       have T1 : ((w.alloc (Obj.cells (ba (zeros 32)) 54)).alloc (Obj.cells (ba (zeros 64)) 58)).heap[S + 1]? = some (.cells (ba (zeros 64)) 58 (0, 0)) := by
         subst hS
         have := heap_alloc_last (w.alloc (Obj.cells (ba (zeros 32)) 54)) (Obj.cells (ba (zeros 64)) 58)
         simp only [World.size_alloc] at this
         exact this
       generalize hq : (((w.alloc (Obj.cells (ba (zeros 32)) 54)).alloc (Obj.cells (ba (zeros 64)) 58)).setRow (S + 1) (ba (128 :: zeros 63))) = wq
       have B1 : Hid (Below S w wq) := by
         rw [← hq]
         subst hS
         exact below_setRow (((Below.refl _ w).alloc (Nat.le_refl _) _).alloc (by simp) _) (by omega) _
       have R0 : Hid (BA wq S 54 (zeros 32)) := by
         rw [← hq]
         exact (setRow_other _ _ _ _ (by omega)).trans ((Below.heap_alloc _ _ _ (lt_of_block T0)).trans T0)
       have R1 : Hid (BA wq (S + 1) 58 (128 :: zeros 63)) := by
         rw [← hq]
         exact setRow_heap _ _ _ _ _ _ T1
       clear hq T0 T1
       have F1 : Hid (Fed wq b m) := fed_below HF.out B1.out (by rw [← hS]; exact LW.out)
       have K1 : Hid (Keys wq) := keys_below HK.out B1.out (by have := LW.out; omega)
       obtain ⟨bg, hD, h64, htk⟩ := F1.out.ex
       have y72 := da_n hD rfl h64
       rw [HN.out] at y72
       clear hD h64 htk x72
       have S1 : Hid (Src wq (some ⟨S + 1, 0, none⟩) T (fill N)) := by
         have := src_ba R1.out (1 + R) (by simp [zeros]; omega)
         rw [← HRM.out, fill_take] at this
         rw [← HT.out, ← HRM.out]
         exact this
       have C := Lib.hid (c23 b (some ⟨S + 1, 0, none⟩) T 64 m (fill N) wq F1.out K1.out L0.out S1.out (fun _ g o e => by cases e; have := LW.out; omega) (by rw [HN.out]; omega) (by omega) (by omega))
       clear hR64)
    | fail)
  refine C.out.mono ?_
  rintro e w1 ⟨rfl, hf1, hk1, ho1⟩
  have F2 := Lib.hid hf1
  have K2 := Lib.hid hk1
  have O2 : Hid (Oth b w w1) := (Oth.of_below (Nat.le_of_lt LW.out) (by rw [hS]; exact B1.out)).trans ho1
  have R2 : Hid (BA w1 S 54 (zeros 32)) := (ho1.oth S (lt_of_block R0.out) (by have := LW.out; omega)).trans R0.out
  have Z2 : Hid (S < w1.heap.size) := lt_of_block R2.out
  have HSB : Hid (S ≠ b) := by show _ ≠ _; have := LW.out; omega
  have HSS : Hid (w.heap.size = S) := hS
  clear hf1 hk1 ho1 hS y72 q1 q2 q3 q4 q5 q6
  generalize hN8 : 8 * (N : Int) = N8
  have HN8 := Lib.hid hN8
  clear hN8
  obtain ⟨Z, hZ⟩ : ∃ Z, w1.heap.size = Z := ⟨_, rfl⟩
  go_wp2_with fail
  go_loopw [26, 7] (fun i c wr => ∃ k : Nat, k ≤ 8 ∧ i = .int .i64 k ∧ BA wr Z 22 (be N8 k ++ zeros (8 - k)) ∧ Below Z w1 wr) (fun i _ _ => 8 - (intOf i).toNat)
  case atStart =>
    subst hZ
    exact ⟨0, by omega, rfl, heap_alloc_last w1 _, (Below.refl _ _).alloc (Nat.le_refl _) _⟩
  case round =>
    obtain ⟨k, hk, rfl, hU, hbel⟩ := hrel
    by_cases hlt : k < 8
    · obtain ⟨j, hj⟩ : ∃ j, 7 - k = j := ⟨_, rfl⟩
      have c0 := ba_cell hU k (by rw [List.length_append, be_len, zeros_len]; omega)
      have f0 := free_of hU k
      have N1 : Hid (BA (wr.setCell ⟨Z, k, none⟩ (.int .u8 (N8 / 2 ^ (8 * j) % 256))) Z 22 (be N8 (k + 1) ++ zeros (8 - (k + 1)))) := by
        have := ba_set hU k (N8 / 2 ^ (8 * j) % 256)
        rw [set_pad _ _ _ _ (be_len N8 k) (by omega)] at this
        show BA _ _ _ _
        rw [be_succ, hj]
        exact this
      have N3 : Hid (Below Z w1 (wr.setCell ⟨Z, k, none⟩ (.int .u8 (N8 / 2 ^ (8 * j) % 256)))) := hbel.setCell (Nat.le_refl _) _
      clear hU hbel
      have e7 : 7 - (k : Int) = (j : Int) := by omega
      have h8 : (8 * (j : Int)).toNat = 8 * j := by omega
      have hmin : min (8 * j) 64 = 8 * j := by omega
      have e6 : (k : Int) < 8 := by omega
      clear hj
      go_wp2
      go_roundw
      case rel => exact ⟨k + 1, by omega, by go_num, N1.out, N3.out⟩
      case measure => simp [intOf]; omega
    · obtain rfl : k = 8 := by omega
      have HU : Hid (BA wr Z 22 (be N8 8)) := by
        have : BA wr Z 22 (be N8 8 ++ zeros 0) := hU
        rw [show be N8 8 ++ zeros 0 = be N8 8 by simp [zeros]] at this
        exact this
      have hbz : b < Z := by rw [← hZ]; exact Nat.lt_of_lt_of_le LW.out O2.out.below.size
      have O3 : Hid (Oth b w wr) := O2.out.trans (Oth.of_below (by rw [hZ]; exact Nat.le_of_lt hbz) (by rw [hZ]; exact hbel))
      have F3 : Hid (Fed wr b (m ++ fill N)) := fed_below F2.out hbel hbz
      have K3 : Hid (Keys wr) := keys_below K2.out hbel (by omega)
      have R3 : Hid (BA wr S 54 (zeros 32)) := (hbel.block S (by rw [← hZ]; exact Z2.out)).trans R2.out
      have SR : Hid (Src wr (some ⟨Z, 0, none⟩) 8 (be N8 8)) := by
        have := src_ba HU.out 8 (by rw [be_len]; omega)
        rw [List.take_of_length_le (by rw [be_len]; omega)] at this
        exact this
      have C2 := Lib.hid (c23 b (some ⟨Z, 0, none⟩) 8 8 (m ++ fill N) (be N8 8) wr F3.out K3.out L0.out SR.out (fun _ g o e => by cases e; omega) (by rw [List.length_append, HN.out]; unfold fill; rw [List.length_cons, zeros_len]; have : room N < 64 := Nat.mod_lt _ (by decide); omega) (by omega) (by omega))
      have LBZ := Lib.hid hbz
      have LSZ : Hid (S ≠ b) := HSB
      clear hU hbel hbz
      go_wp2_with fail
      refine C2.out.mono ?_
      rintro e w4 ⟨rfl, hf4, hk4, ho4⟩
      have O4 : Hid (Oth b w w4) := O3.out.trans ho4
      have R4 : Hid (BA w4 S 54 (zeros 32)) := (ho4.oth S (lt_of_block R3.out) LSZ.out).trans R3.out
      have e4 : m ++ fill N ++ be N8 8 = pad m := by unfold pad; rw [HN.out, ← HN8.out]
      rw [e4] at hf4
      obtain ⟨bg4, hD4, _, _⟩ := hf4.ex
      have C3 := Lib.hid (c34 b _ bg4 _ w4 hD4)
      clear hf4 hk4 ho4 e4 hD4
      go_wp2_with (first
        | (go_at_call 32; refine C3.out.mono ?_; rintro e w5 ⟨rfl, hb5⟩; have B5 := Lib.hid hb5; have R5 : Hid (BA w5 S 54 (zeros 32)) := (hb5.block S (lt_of_block R4.out)).trans R4.out; clear hb5)
        | (refine wpList_store_rowTo rfl 54 (.tmp 2) (.tmp 42) rfl rfl S (ba (sha m)) rfl rfl 54 (ba (zeros 32)) R5.out (sz s23 (by rw [ba_size, sha_len])) (by rw [ba_size, ba_size, sha_len]; rfl) (ba_one _) ?_)
        | fail)
      refine bodyPost_ret (v := .agg (ba (sha m))) (results_cell_row rfl _ _ S 54 _ (0, 0) _ rfl (setRow_heap _ _ _ _ _ _ R5.out) Tryd.underlying54 rfl (sz s23 (by rw [ba_size, sha_len]))) rfl ⟨rfl, ?_⟩
      exact (O4.out.trans (Oth.of_below (Nat.le_of_lt (Nat.lt_of_lt_of_le LW.out O4.out.below.size)) B5.out)).setRowN (by rw [HSS.out]; exact Nat.le_refl _) (by rw [← HSS.out]; exact Nat.le_of_lt LW.out) _
end Go.Proofs.YtimfinachecadaaDoor
