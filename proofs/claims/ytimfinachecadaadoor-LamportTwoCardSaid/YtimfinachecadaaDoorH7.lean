/-
  length, sum, end.
-/
import Derived.Test.YtimfinachecadaaDoorH6
namespace Go.Proofs.YtimfinachecadaaDoor
open Go.RowKit
theorem s68 : (Tryd.prog.info? 41).map (·.size) = some 4 := by kernel_rfl
theorem s26 : (Tryd.prog.info? 22).map (·.size) = some 8 := by kernel_rfl
theorem z68 (w : World) : (zeroValue 41).run Tryd.prog w = .ok (.agg (ba (zeros 4))) w := by kernel_rfl
theorem z26 (w : World) : (zeroValue 22).run Tryd.prog w = .ok (.agg (ba (zeros 8))) w := by kernel_rfl
theorem bu45 : Tryd.prog.built 58 [(0, .int .u8 128)] = some (ba (128 :: zeros 63)) := by kernel_rfl
theorem src_ba {w : World} {b : Nat} {t : TypeId} {xs : List Int} (h : BA w b t xs) (n : Nat) (hn : n ≤ xs.length) : Src w (some ⟨b, 0, none⟩) n (xs.take n) := by
  refine ⟨by rw [List.length_take]; omega, .inr ⟨b, 0, rfl, fun i hi => ?_⟩⟩
  rw [Nat.zero_add, ba_cell h i (by omega)]
  simp [List.getD, hi]
/-- the bytes of a sum -/
def outB (s : S8) (k : Nat) : List Int := (List.range k).map fun i => s.l.getD (i / 4) 0 / 2 ^ (24 - 8 * (i % 4)) % 256
theorem outB_len (s : S8) (k : Nat) : (outB s k).length = k := by simp [outB]
theorem outB_succ (s : S8) (k : Nat) : outB s (k + 1) = outB s k ++ [s.l.getD (k / 4) 0 / 2 ^ (24 - 8 * (k % 4)) % 256] := by simp [outB, List.range_succ]
/-- a number's bytes, the highest first -/
def be (n : Int) (k : Nat) : List Int := (List.range k).map fun i => n / 2 ^ (8 * (7 - i)) % 256
theorem be_len (n : Int) (k : Nat) : (be n k).length = k := by simp [be]
theorem be_succ (n : Int) (k : Nat) : be n (k + 1) = be n k ++ [n / 2 ^ (8 * (7 - k)) % 256] := by simp [be, List.range_succ]
attribute [local irreducible] ua da ba kk sw S8.run rt hs comp splice
set_option maxRecDepth 100000 in
set_option maxHeartbeats 1000000 in
theorem c34 (b : Nat) (s : S8) (bg : List Int) (n : Int) (w : World) (h : DA w b s.l bg n) :
    Calls Tryd.prog 32 #[.pointer (some ⟨b, 0, none⟩)] w fun e w' => e = .returned (.agg (ba (outB s 32))) ∧ Below w.heap.size w w' := by
  have h1 := z23
  have HD := Lib.hid h
  clear h
  obtain ⟨S, hS⟩ : ∃ S, w.heap.size = S := ⟨_, rfl⟩
  go_enter Tryd.func32, Tryd.ntmps32
  go_wp2
  go_loopw [5, 4] (fun i c wr => ∃ k : Nat, k ≤ 32 ∧ i = .int .i64 k ∧ BA wr S 54 (zeros 32) ∧ BA wr (S + 1) 54 (outB s k ++ zeros (32 - k)) ∧ Below S w wr) (fun i _ _ => 32 - (intOf i).toNat)
  case atStart =>
    refine ⟨0, by omega, rfl, ?_, ?_, ?_⟩
    · subst hS
      exact (Below.heap_alloc _ _ _ (by simp)).trans (heap_alloc_last w _)
    · subst hS
      show _ = _
      have := heap_alloc_last (w.alloc (Obj.cells (ba (zeros 32)) 54)) (Obj.cells (ba (zeros 32)) 54)
      simp only [World.size_alloc] at this
      exact this
    · subst hS
      exact ((Below.refl _ _).alloc (Nat.le_refl _) _).alloc (by simp) _
  case round =>
    obtain ⟨k, hk, rfl, hT, hU, hbel⟩ := hrel
    by_cases hlt : k < 32
    · have D : DA wr b s.l bg n := (hbel.block b (by have := lt_of_block HD.out; omega)).trans HD.out
      obtain ⟨q, hq⟩ : ∃ q, k / 4 = q := ⟨_, rfl⟩
      obtain ⟨r, hr⟩ : ∃ r, k % 4 = r := ⟨_, rfl⟩
      obtain ⟨t, ht⟩ : ∃ t, 24 - 8 * r = t := ⟨_, rfl⟩
      have x0 := da_mx D rfl q (by omega)
      have c0 := ba_cell hU k (by rw [List.length_append, outB_len, zeros_len]; omega)
      have f0 := free_of hU k
      have N1 : Hid (BA (wr.setCell ⟨S + 1, k, none⟩ (.int .u8 (s.l.getD q 0 / 2 ^ t % 256))) (S + 1) 54 (outB s (k + 1) ++ zeros (32 - (k + 1)))) := by
        have := ba_set hU k (s.l.getD q 0 / 2 ^ t % 256)
        rw [set_pad _ _ _ _ (outB_len s k) (by omega)] at this
        show BA _ _ _ _
        rw [outB_succ, hq, hr, ht]
        exact this
      have N2 : Hid (BA (wr.setCell ⟨S + 1, k, none⟩ (.int .u8 (s.l.getD q 0 / 2 ^ t % 256))) S 54 (zeros 32)) := heap_else k _ (by omega) hT
      have N3 : Hid (Below S w (wr.setCell ⟨S + 1, k, none⟩ (.int .u8 (s.l.getD q 0 / 2 ^ t % 256)))) := hbel.setCell (by show S ≤ S + 1; omega) _
      clear hU hT hbel D
      generalize s.l.getD q 0 = v at *
      have e1 : (k : Int).tdiv 4 = (q : Int) := by rw [Int.tdiv_eq_ediv_of_nonneg (by omega)]; omega
      have e2 : (k : Int).tmod 4 = (r : Int) := by rw [Int.tmod_eq_emod_of_nonneg (by omega)]; omega
      have e3 : 24 - 8 * (r : Int) = (t : Int) := by omega
      have e4 : min t 32 = t := by omega
      have e5 : (q : Int) < 8 := by omega
      have e6 : (k : Int) < 32 := by omega
      have e7 : 8 * (r : Int) ≤ 24 := by omega
      clear hq hr ht
      go_wp2
      go_roundw
      case rel => exact ⟨k + 1, by omega, by go_num, N2.out, N1.out, N3.out⟩
      case measure => simp [intOf]; omega
    · obtain rfl : k = 32 := by omega
      have HT := Lib.hid hT
      have BL := Lib.hid hbel
      have HU : Hid (wr.heap[S + 1]? = some (.cells (ba (outB s 32)) 54 (0, 0))) := by
        have : BA wr (S + 1) 54 (outB s 32 ++ zeros 0) := hU
        rw [show outB s 32 ++ zeros 0 = outB s 32 by simp [zeros]] at this
        exact this
      clear hT hU hbel
      have h32 : Hid ((ba (outB s 32)).size = 32) := by show _ = _; rw [ba_size, outB_len]
      go_wp2_with (first
        | (refine wpList_load_row rfl 54 (.tmp 3) rfl (S + 1) rfl 54 (ba (outB s 32)) (0, 0) _ HU.out Tryd.underlying54 rfl (sz s23 h32.out) ?_)
        | (refine wpList_store_rowTo rfl 54 (.tmp 2) (.tmp 24) rfl rfl S (ba (outB s 32)) rfl rfl 54 (ba (zeros 32)) HT.out (sz s23 h32.out) (by rw [h32.out, ba_size]; rfl) (ba_one _) ?_))
      refine bodyPost_ret (v := .agg (ba (outB s 32))) (results_cell_row rfl _ _ S 54 _ (0, 0) _ rfl (setRow_heap _ _ _ _ _ _ HT.out) Tryd.underlying54 rfl (sz s23 h32.out)) rfl ⟨rfl, ?_⟩
      rw [hS]
      exact below_setRow BL.out (Nat.le_refl _) _
set_option maxRecDepth 100000 in
set_option maxHeartbeats 1000000 in
theorem c25 (b n : Nat) (m : List Int) (w : World) (h : Fed w b m) (hk : Keys w) (hb0 : 0 < b) (hbw : b < w.heap.size) (hm : m.length ≤ 500000) :
    Calls Tryd.prog 27 #[.pointer (some ⟨b, 0, none⟩), .int .i64 n] w fun e w' => e = .returned (.tuple #[]) ∧ Fed w' b (m ++ digs n 4) ∧ Keys w' ∧ Oth b w w' := by
  have h1 := z68
  have HF := Lib.hid h
  have HK := Lib.hid hk
  have L0 : Hid (0 < b) := hb0
  have LW : Hid (b < w.heap.size) := hbw
  clear h hk hb0 hbw
  obtain ⟨S, hS⟩ : ∃ S, w.heap.size = S := ⟨_, rfl⟩
  go_enter Tryd.func27, Tryd.ntmps27
  go_wp2
  go_loopw [6, 5] (fun i c wr => ∃ k : Nat, k ≤ 4 ∧ i = .int .i64 k ∧ BA wr S 41 (digs n k ++ zeros (4 - k)) ∧ Below S w wr) (fun i _ _ => 4 - (intOf i).toNat)
  case atStart =>
    subst hS
    exact ⟨0, by omega, rfl, heap_alloc_last w _, (Below.refl _ _).alloc (Nat.le_refl _) _⟩
  case round =>
    obtain ⟨k, hk, rfl, hU, hbel⟩ := hrel
    by_cases hlt : k < 4
    · have c0 := ba_cell hU k (by rw [List.length_append, digs_len, zeros_len]; omega)
      have f0 := free_of hU k
      have N1 : Hid (BA (wr.setCell ⟨S, k, none⟩ (.int .u8 (dig n k))) S 41 (digs n (k + 1) ++ zeros (4 - (k + 1)))) := by
        have := ba_set hU k (dig n k)
        rw [set_pad _ _ _ _ (digs_len n k) (by omega)] at this
        show BA _ _ _ _
        rw [digs_succ]
        exact this
      have N3 : Hid (Below S w (wr.setCell ⟨S, k, none⟩ (.int .u8 (dig n k)))) := hbel.setCell (Nat.le_refl _) _
      clear hU hbel
      have h8 : (8 * (k : Int)).toNat = 8 * k := by omega
      have hmin : min (8 * k) 64 = 8 * k := by omega
      have e6 : (k : Int) < 4 := by omega
      go_wp2
      go_roundw
      case rel => exact ⟨k + 1, by omega, by go_num, N1.out, N3.out⟩
      case measure => simp [intOf]; omega
    · obtain rfl : k = 4 := by omega
      have HU : Hid (BA wr S 41 (digs n 4)) := by
        have : BA wr S 41 (digs n 4 ++ zeros 0) := hU
        rw [show digs n 4 ++ zeros 0 = digs (n : Int) 4 by simp [zeros]] at this
        exact this
      have O1 : Hid (Oth b w wr) := Oth.of_below (Nat.le_of_lt LW.out) (by rw [hS]; exact hbel)
      have F1 : Hid (Fed wr b m) := by
        obtain ⟨bg, hD, h2, h3⟩ := HF.out.ex
        exact ⟨bg, (hbel.block b (by rw [← hS]; exact LW.out)).trans hD, h2, h3⟩
      have K1 : Hid (Keys wr) := keys_below HK.out hbel (by have := L0.out; have := LW.out; omega)
      have SR : Hid (Src wr (some ⟨S, 0, none⟩) 4 (digs n 4)) := by
        have := src_ba HU.out 4 (by rw [digs_len]; omega)
        rw [List.take_of_length_le (by rw [digs_len]; omega)] at this
        exact this
      have C := Lib.hid (c23 b (some ⟨S, 0, none⟩) 4 4 m (digs n 4) wr F1.out K1.out L0.out SR.out (fun _ g o e => by cases e; have := LW.out; omega) (by omega) (by omega) (by omega))
      clear hU hbel
      go_wp2_with fail
      refine C.out.mono ?_
      rintro e w3 ⟨rfl, hf3, hk3, ho3⟩
      have F3 := Lib.hid hf3
      have K3 := Lib.hid hk3
      have O3 := Lib.hid ho3
      clear hf3 hk3 ho3
      go_wp2
      go_end0
      exact ⟨rfl, F3.out, K3.out, O1.out.trans O3.out⟩
end Go.Proofs.YtimfinachecadaaDoor
