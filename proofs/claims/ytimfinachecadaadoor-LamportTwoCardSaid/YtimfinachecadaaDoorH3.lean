/-
  words: the schedule.
-/
import Derived.Test.YtimfinachecadaaDoorH2
namespace Go.Proofs.YtimfinachecadaaDoor
open Go.RowKit

/-- a word of four bytes, the highest first -/
def w4 (a b c d : Int) : Int :=
  bits .or .u32 (bits .or .u32 (bits .or .u32 (IntKind.u32.wrap (IntKind.u32.wrap a * 16777216)) (IntKind.u32.wrap (IntKind.u32.wrap b * 65536))) (IntKind.u32.wrap (IntKind.u32.wrap c * 256))) (IntKind.u32.wrap d)
def word (bg : List Int) (k : Nat) : Int := w4 (bg.getD (4 * k) 0) (bg.getD (4 * k + 1) 0) (bg.getD (4 * k + 2) 0) (bg.getD (4 * k + 3) 0)
def fst (bg : List Int) (k : Nat) : List Int := (List.range k).map (word bg)
theorem fst_len (bg : List Int) (k : Nat) : (fst bg k).length = k := by simp [fst]
theorem fst_succ (bg : List Int) (k : Nat) : fst bg (k + 1) = fst bg k ++ [word bg k] := by simp [fst, List.range_succ]
def sg0 (x : Int) : Int := bits .xor .u32 (bits .xor .u32 (rt x 7) (rt x 18)) (x / 8)
def sg1 (x : Int) : Int := bits .xor .u32 (bits .xor .u32 (rt x 17) (rt x 19)) (x / 1024)
def nxt (ws : List Int) (i : Nat) : Int := (ws.getD (i - 16) 0 + sg0 (ws.getD (i - 15) 0) + ws.getD (i - 7) 0 + sg1 (ws.getD (i - 2) 0)) % 4294967296
def sw (bg : List Int) : Nat → List Int
  | 0 => fst bg 16
  | k + 1 => sw bg k ++ [nxt (sw bg k) (16 + k)]
theorem sw_len (bg : List Int) (k : Nat) : (sw bg k).length = 16 + k := by
  induction k with
  | zero => rw [sw, fst_len]
  | succ k ih => rw [sw, List.length_append, ih]; rfl
theorem set_pad (xs : List Int) (n k : Nat) (x : Int) (hl : xs.length = k) (h : k < n) : (xs ++ zeros (n - k)).set k x = xs ++ [x] ++ zeros (n - (k + 1)) := by
  rw [List.set_append_right _ _ (by omega), hl, Nat.sub_self]
  unfold zeros
  rw [show n - k = (n - (k + 1)) + 1 by omega, List.replicate_succ, List.set_cons_zero]
  simp
theorem getD_pad (xs ys : List Int) (i : Nat) (h : i < xs.length) : (xs ++ ys).getD i 0 = xs.getD i 0 := by
  simp only [List.getD]
  rw [List.getElem?_append_left h]
theorem below_drewN {B : Nat} {w W : World} (h : Below B w W) (n : Nat) : Below B w (W.drewN n) := ⟨h.os, h.tape, h.output, h.size, h.block⟩
set_option maxRecDepth 100000 in
set_option maxHeartbeats 4000000 in
theorem c38 (b : Nat) (mx bg : List Int) (n : Int) (w : World) (hm : mx.length = 8) (hb : bg.length = 64) (h : DA w b mx bg n) :
    Calls Tryd.prog 33 #[.pointer (some ⟨b, 0, none⟩)] w fun e w' => e = .returned (.agg (ua (sw bg 48))) ∧ Below w.heap.size w w' := by
  have h1 := z55
  have HD := Lib.hid h
  have HM := Lib.hid hm
  have HB := Lib.hid hb
  clear h hm hb
  obtain ⟨S, hS⟩ : ∃ S, w.heap.size = S := ⟨_, rfl⟩
  go_enter Tryd.func33, Tryd.ntmps33
  go_wp2
  go_loopw [11, 4, 5] (fun i c s wr => ∃ k : Nat, k ≤ 16 ∧ i = .int .i64 k ∧ UA wr S 66 (zeros 64) ∧ UA wr (S + 1) 66 (fst bg k ++ zeros (64 - k)) ∧ Below S w wr) (fun i _ _ _ => 16 - (intOf i).toNat)
  case atStart =>
    refine ⟨0, by omega, rfl, ?_, ?_, ?_⟩
    · subst hS
      exact (Below.heap_alloc _ _ _ (by simp)).trans (heap_alloc_last w _)
    · subst hS
      show _ = _
      have := heap_alloc_last (w.alloc (Obj.cells (ua (zeros 64)) 66)) (Obj.cells (ua (zeros 64)) 66)
      simp only [World.size_alloc] at this
      exact this
    · subst hS
      exact ((Below.refl _ _).alloc (Nat.le_refl _) _).alloc (by simp) _
  case round =>
    obtain ⟨k, hk, rfl, hT, hU, hbel⟩ := hrel
    by_cases hlt : k < 16
    · have D : DA wr b mx bg n := (hbel.block b (by have := lt_of_block HD.out; omega)).trans HD.out
      have x0 := da_bg D HM.out HB.out (4 * k) (by omega)
      have x1 := da_bg D HM.out HB.out (4 * k + 1) (by omega)
      have x2 := da_bg D HM.out HB.out (4 * k + 2) (by omega)
      have x3 := da_bg D HM.out HB.out (4 * k + 3) (by omega)
      have E : Hid (word bg k = w4 (bg.getD (4 * k) 0) (bg.getD (4 * k + 1) 0) (bg.getD (4 * k + 2) 0) (bg.getD (4 * k + 3) 0)) := rfl
      generalize bg.getD (4 * k) 0 = a0 at *
      generalize bg.getD (4 * k + 1) 0 = a1 at *
      generalize bg.getD (4 * k + 2) 0 = a2 at *
      generalize bg.getD (4 * k + 3) 0 = a3 at *
      have c0 : wr.drew.cell? _ = _ := ua_cell hU k (by rw [List.length_append, fst_len, zeros_len]; omega)
      have f0 : wr.drew.frozen? _ = _ := free_of hU k
      have N1 : Hid (UA (wr.drew.setCell ⟨S + 1, k, none⟩ (.int .u32 (word bg k))) (S + 1) 66 (fst bg (k + 1) ++ zeros (64 - (k + 1)))) := by
        have := ua_set (w := wr.drew) hU k (word bg k)
        rw [set_pad _ _ _ _ (fst_len bg k) (by omega), ← fst_succ] at this
        exact this
      have N2 : Hid (UA (wr.drew.setCell ⟨S + 1, k, none⟩ (.int .u32 (word bg k))) S 66 (zeros 64)) := heap_else k _ (by omega) hT
      have N3 : Hid (Below S w (wr.drew.setCell ⟨S + 1, k, none⟩ (.int .u32 (word bg k)))) := hbel.drew.setCell (by show S ≤ S + 1; omega) _
      rw [E.out] at N1 N2 N3
      clear hU hT hbel D E
      have q1 : (0 : Int) ≤ 4 * (k : Int) := by omega
      have q2 : 4 * (k : Int) ≤ 64 := by omega
      rw [show 8 + (4 * k + 1) = 8 + 4 * k + 1 by omega] at x1
      rw [show 8 + (4 * k + 2) = 8 + 4 * k + 2 by omega] at x2
      rw [show 8 + (4 * k + 3) = 8 + 4 * k + 3 by omega] at x3
      obtain ⟨L, hL⟩ : ∃ L, 64 - 4 * k = L := ⟨_, rfl⟩
      have m0 : 0 < L := by omega
      have m1 : 1 < (L : Int) := by omega
      have m2 : 2 < (L : Int) := by omega
      have m3 : 3 < (L : Int) := by omega
      have l4 : (k : Int) < 64 := by omega
      go_wp2_with fail
      go_still_tail 24, (by kernel_rfl)
      change wpList _ _ _ _ _ wr.drew
      generalize wr.drew = wq at *
      go_wp2
      go_roundw
      case rel => exact ⟨k + 1, by omega, by go_num, N2.out, N1.out, N3.out⟩
      case measure => simp [intOf]; omega
    · have hk16 : k = 16 := by omega
      have HT := Lib.hid hT
      have HU : Hid (UA wr (S + 1) 66 (sw bg 0 ++ zeros 48)) := by subst hk16; exact hU
      have BL := Lib.hid hbel
      have hn : ¬ (k : Int) < 16 := by omega
      clear hT hU hbel hk hlt hk16
      generalize (k : Int) = z16 at *
      go_wp2
      go_loopw [6, 7, 8, 9, 10] (fun i _ _ _ _ wr => ∃ k : Nat, k ≤ 48 ∧ i = .int .i64 ((16 + k : Nat) : Int) ∧ UA wr S 66 (zeros 64) ∧ UA wr (S + 1) 66 (sw bg k ++ zeros (48 - k)) ∧ Below S w wr) (fun i _ _ _ _ _ => 64 - (intOf i).toNat)
      case atStart => exact ⟨0, by omega, rfl, HT.out, HU.out, BL.out⟩
      case round =>
        clear HT HU BL
        obtain ⟨k, hk, rfl, hT, hU, hbel⟩ := hrel
        by_cases hlt : k < 48
        · have hl := sw_len bg k
          have HU := Lib.hid hU
          have HT := Lib.hid hT
          have BL := Lib.hid hbel
          have HL := Lib.hid hl
          have x1 := ua_cell hU (k + 1) (by rw [List.length_append, hl, zeros_len]; omega)
          have x14 := ua_cell hU (k + 14) (by rw [List.length_append, hl, zeros_len]; omega)
          rw [getD_pad _ _ _ (by omega)] at x1 x14
          have E : Hid (nxt (sw bg k) (16 + k) = ((sw bg k).getD k 0 + sg0 ((sw bg k).getD (k + 1) 0) + (sw bg k).getD (k + 9) 0 + sg1 ((sw bg k).getD (k + 14) 0)) % 4294967296) := by
            show _ = _
            unfold nxt
            rw [show 16 + k - 16 = k by omega, show 16 + k - 15 = k + 1 by omega, show 16 + k - 7 = k + 9 by omega, show 16 + k - 2 = k + 14 by omega]
          generalize (sw bg k).getD (k + 1) 0 = a1 at *
          generalize (sw bg k).getD (k + 14) 0 = a14 at *
          clear hU hT hbel hl
          obtain ⟨i, hi⟩ : ∃ i : Nat, 16 + k = i := ⟨_, rfl⟩
          obtain ⟨k1, hk1⟩ : ∃ i : Nat, k + 1 = i := ⟨_, rfl⟩
          obtain ⟨k9, hk9⟩ : ∃ i : Nat, k + 9 = i := ⟨_, rfl⟩
          obtain ⟨k14, hk14⟩ : ∃ i : Nat, k + 14 = i := ⟨_, rfl⟩
          rw [hk1] at x1
          rw [hk14] at x14
          rw [hi]
          have e16 : (i : Int) - 16 = (k : Int) := by omega
          have e15 : (i : Int) - 15 = (k1 : Int) := by omega
          have e7 : (i : Int) - 7 = (k9 : Int) := by omega
          have e2 : (i : Int) - 2 = (k14 : Int) := by omega
          have b0 : (i : Int) < 64 := by omega
          have b1 : (k1 : Int) < 64 := by omega
          have b2 : (k9 : Int) < 64 := by omega
          have b3 : (k14 : Int) < 64 := by omega
          have b4 : (k : Int) < 64 := by omega
          have wk : IntKind.i64.wrap (k : Int) = (k : Int) := by rw [IntKind.wrap_i64]; omega
          have w9 : IntKind.i64.wrap (k9 : Int) = (k9 : Int) := by rw [IntKind.wrap_i64]; omega
          have HI : Hid (16 + k = i) := hi
          have H9 : Hid (k + 9 = k9) := hk9
          clear hk1 hk9 hk14 hi
          go_wp2_with fail
          go_quiet (fail)
          generalize hq : wr.drewN _ = wq
          have U1 : UA wq (S + 1) 66 (sw bg k ++ zeros (48 - k)) := by rw [← hq]; exact HU.out
          have T1 : UA wq S 66 (zeros 64) := by rw [← hq]; exact HT.out
          have L1 : Below S w wq := by rw [← hq]; exact below_drewN BL.out _
          have c0 : wq.drew.cell? _ = _ := ua_cell U1 i (by rw [List.length_append, HL.out, zeros_len]; omega)
          have f0 : wq.drew.frozen? _ = _ := free_of U1 i
          have x0 := ua_cell U1 k (by rw [List.length_append, HL.out, zeros_len]; omega)
          have x9 := ua_cell U1 (k + 9) (by rw [List.length_append, HL.out, zeros_len]; omega)
          rw [getD_pad _ _ _ (by rw [HL.out]; omega)] at x0 x9
          have E := E.out
          rw [H9.out] at x9 E
          generalize (sw bg k).getD k 0 = a0 at *
          generalize (sw bg k).getD k9 0 = a9 at *
          have N1 : Hid (UA (wq.drew.setCell ⟨S + 1, i, none⟩ (.int .u32 (nxt (sw bg k) (16 + k)))) (S + 1) 66 (sw bg (k + 1) ++ zeros (48 - (k + 1)))) := by
            have := ua_set (w := wq.drew) U1 i (nxt (sw bg k) (16 + k))
            rw [← HI.out, show 48 - k = 64 - (16 + k) by omega, set_pad _ 64 (16 + k) _ HL.out (by omega)] at this
            show UA _ _ _ _
            rw [← HI.out, sw, show 48 - (k + 1) = 64 - (16 + k + 1) by omega]
            exact this
          have N2 : Hid (UA (wq.drew.setCell ⟨S + 1, i, none⟩ (.int .u32 (nxt (sw bg k) (16 + k)))) S 66 (zeros 64)) := heap_else _ _ (by omega) T1
          have N3 : Hid (Below S w (wq.drew.setCell ⟨S + 1, i, none⟩ (.int .u32 (nxt (sw bg k) (16 + k))))) := L1.drew.setCell (by show S ≤ S + 1; omega) _
          rw [E] at N1 N2 N3
          clear U1 T1 L1 hq E
          go_wp2_with (go_at_call 34; refine (r39 _ _ _ (by decide)).mono ?_; rintro e w' ⟨rfl, rfl⟩)
          go_still_tail 15, (by kernel_rfl)
          change wpList _ _ _ _ _ wq.drew
          generalize wq.drew = wp at *
          go_wp2
          go_roundw
          case rel => exact ⟨k + 1, by omega, by have := HI.out; go_num, N2.out, N1.out, N3.out⟩
          case measure => simp [intOf]; omega
        · obtain rfl : k = 48 := by omega
          have HU := Lib.hid hU
          have HT := Lib.hid hT
          have BL := Lib.hid hbel
          have U2 : wr.heap[S + 1]? = some (.cells (ua (sw bg 48)) 66 (0, 0)) := by
            have : UA wr (S + 1) 66 (sw bg 48 ++ zeros 0) := hU
            rw [show sw bg 48 ++ zeros 0 = sw bg 48 by simp [zeros]] at this
            exact this
          have HU2 := Lib.hid U2
          clear hU hT hbel U2
          have h64 : (ua (sw bg 48)).size = 64 := by rw [ua_size, sw_len]
          have H64 := Lib.hid h64
          clear h64
          go_wp2_with (first
            | (refine wpList_load_row rfl 66 (.tmp 3) rfl (S + 1) rfl 66 (ua (sw bg 48)) (0, 0) _ HU2.out Tryd.underlying66 rfl (sz s55 H64.out) ?_)
            | (refine wpList_store_rowTo rfl 66 (.tmp 2) (.tmp 88) rfl rfl S (ua (sw bg 48)) rfl rfl 66 (ua (zeros 64)) HT.out (sz s55 H64.out) (by rw [H64.out, ua_size]; rfl) (ua_one _) ?_))
          refine bodyPost_ret (v := .agg (ua (sw bg 48))) (results_cell_row rfl _ _ S 66 _ (0, 0) _ rfl (setRow_heap _ _ _ _ _ _ HT.out) Tryd.underlying66 rfl (sz s55 H64.out)) rfl ⟨rfl, ?_⟩
          rw [hS]
          exact below_setRow BL.out (Nat.le_refl _) _
end Go.Proofs.YtimfinachecadaaDoor
