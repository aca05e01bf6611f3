/-
  The document's Top and ProveLeaf.
-/
import Derived.Test.YtgagcblddcibkaaDoorS31
namespace Go.Proofs.YtgagcblddcibkaaDoor
open Go.RowKit
open Go.Maps
theorem sib_up {i : Nat} (hi : i < 65536) {s : Nat} (hs : s < 16) : sib (i / 2 ^ s) * 2 ^ s + 2 ^ s ≤ 65536 := by
  obtain ⟨d, hd⟩ : ∃ d, 16 = s + (d + 1) := ⟨15 - s, by omega⟩
  have e : (65536 : Nat) = 2 ^ s * (2 ^ d * 2) := by rw [← Nat.pow_succ, ← Nat.pow_add, ← hd]
  have hq : i / 2 ^ s < 2 ^ d * 2 := Nat.div_lt_of_lt_mul (by rw [← e]; exact hi)
  have hs2 : sib (i / 2 ^ s) < 2 ^ d * 2 := by
    generalize i / 2 ^ s = q at *
    rcases Nat.mod_two_eq_zero_or_one q with h | h
    · rw [sib_even h]; omega
    · rw [sib_odd h]; omega
  have := Nat.mul_le_mul_left (2 ^ s) (show sib (i / 2 ^ s) + 1 ≤ 2 ^ d * 2 from hs2)
  rw [← e, Nat.mul_add, Nat.mul_one, Nat.mul_comm (2 ^ s) (sib _)] at this
  exact this
theorem prfL_zero (f : Int → List Int) (i : Nat) : prfL f i 0 ++ zeros (128 - 8 * 0) = zeros 128 := rfl
theorem prfL_succ (f : Int → List Int) (i s : Nat) : prfL f i (s + 1) = prfL f i s ++ nd f s ((sib (i / 2 ^ s) : Nat) : Int) := rfl
attribute [local irreducible] ua da ba kk sw S8.run rt hs comp splice outB sha msg twoM twoN ab MapIs mrow nd upF at8 prfL zip8 bvals ivals putA fillL inr sib inR
set_option maxRecDepth 100000 in
set_option maxHeartbeats 1600000 in
theorem r13 (M : Nat) (A1 A2 : Option Addr) (n c1 c2 : Nat) (L : List (Int × List Int)) (w : World) (hG : Good L) (hn : n ≤ 1000) (hk : Keys w) (hL : LR w M A1 A2 n c1 c2 L) :
    Calls Tryd.prog 13 #[.pointer (some ⟨M, 0, none⟩)] w fun e w' => e = .returned (.agg (ba (nd (lk L) 16 0))) ∧ Below w.heap.size w w' := by
  have zz4 := z27
  obtain ⟨S, hS⟩ : ∃ S, w.heap.size = S := ⟨_, rfl⟩
  have HS := Lib.hid hS
  have R0 : Hid (BA (w.alloc (Obj.cells (ba (zeros 8)) 29)) S 29 (zeros 8)) := by subst hS; exact heap_alloc_last w _
  have B0 : Hid (Below S w (w.alloc (Obj.cells (ba (zeros 8)) 29))) := by subst hS; exact (Below.refl _ w).alloc (Nat.le_refl _) _
  have LX : Hid ((nd (lk L) 16 0).length = 8) := nd_lk_len (fun p hp => (hG.all p hp).1) _ _
  have E26 : Hid (Calls Tryd.prog 26 #[.pointer (some ⟨M, 0, none⟩), .int .i64 0, .int .i64 16] (w.alloc (Obj.cells (ba (zeros 8)) 29)) fun e w' => e = .returned (.agg (ba (nd (lk L) 16 0))) ∧ Below (w.alloc (Obj.cells (ba (zeros 8)) 29)).heap.size (w.alloc (Obj.cells (ba (zeros 8)) 29)) w') := by
    have := r26 M A1 A2 n c1 c2 L hG hn 16 (Nat.le_refl _) 0 0 (w.alloc (Obj.cells (ba (zeros 8)) 29)) (keys_below hk B0.out (by rw [← hS]; exact keys_pos hk)) (hL.grow (by rw [hS]; exact B0.out)) (by simp) (by simp)
    exact this
  generalize nd (lk L) 16 0 = x at *
  clear hG hn hk hL
  go_enter Tryd.func13, Tryd.ntmps13
  go_wp2_with fail
  clear hS
  generalize w.alloc (Obj.cells (ba (zeros 8)) 29) = w0 at *
  refine E26.out.mono ?_
  rintro e w1 ⟨rfl, hb1⟩
  have R2 : Hid (BA w1 S 29 (zeros 8)) := (hb1.block S (lt_of_block R0.out)).trans R0.out
  have B2 : Hid (Below S w w1) := B0.out.trans (hb1.mono (Nat.le_of_lt (lt_of_block R0.out)))
  clear hb1 E26
  go_wp2_with (refine wpList_store_rowTo rfl 29 (.tmp 2) (.tmp 4) rfl rfl S (ba x) rfl rfl 29 (ba (zeros 8)) R2.out (sz s27 (by rw [ba_size, LX.out])) (by rw [ba_size, ba_size, LX.out, zeros_len]) (ba_one _) ?_)
  refine bodyPost_ret (v := .agg (ba x)) (results_cell_row rfl _ _ S 29 _ (0, 0) _ rfl (setRow_heap _ _ _ _ _ _ R2.out) Tryd.underlying29 rfl (sz s27 (by rw [ba_size, LX.out]))) rfl ⟨rfl, ?_⟩
  rw [HS.out]
  exact below_setRow B2.out (Nat.le_refl _) _
set_option maxRecDepth 100000 in
set_option maxHeartbeats 1600000 in
theorem r11 (M : Nat) (A1 A2 : Option Addr) (n c1 c2 : Nat) (L : List (Int × List Int)) (i : Nat) (w : World) (hG : Good L) (hn : n ≤ 1000) (hk : Keys w) (hL : LR w M A1 A2 n c1 c2 L) (hi : i < 65536) :
    Calls Tryd.prog 11 #[.pointer (some ⟨M, 0, none⟩), .int .i64 i] w fun e w' => e = .returned (.tuple #[.agg (ba (prfL (lk L) i 16)), .bool true]) ∧ (prfL (lk L) i 16).length = 128 ∧ Below w.heap.size w w' := by
  have h4 := z30
  have HL := Lib.hid hL
  have HK := Lib.hid hk
  have HPOS : Hid (0 < w.heap.size) := keys_pos hk
  have HI : Hid (i < 65536) := hi
  have H8 : Hid (∀ p ∈ L, p.2.length = 8) := fun p hp => (hG.all p hp).1
  obtain ⟨S, hS⟩ : ∃ S, w.heap.size = S := ⟨_, rfl⟩
  have HS := Lib.hid hS
  have KW : Hid (∀ w', Below S w w' → Keys w') := fun w' hb => keys_below HK.out hb (by rw [← HS.out]; exact HPOS.out)
  have RW : Hid (∀ w', Below S w w' → LR w' M A1 A2 n c1 c2 L) := fun w' hb => HL.out.grow (by rw [HS.out]; exact hb)
  have R1 : Hid (BA (w.alloc (Obj.cells (ba (zeros 128)) 30)) S 30 (zeros 128)) := by subst hS; exact heap_alloc_last w _
  have V0 : Hid (BA ((w.alloc (Obj.cells (ba (zeros 128)) 30)).alloc (Obj.cells (ba (zeros 128)) 30)) (S + 1) 30 (zeros 128)) := by
    show _ = _
    subst hS
    have := heap_alloc_last (w.alloc (Obj.cells (ba (zeros 128)) 30)) (Obj.cells (ba (zeros 128)) 30)
    simp only [World.size_alloc] at this
    exact this
  have R0 : Hid (BA ((w.alloc (Obj.cells (ba (zeros 128)) 30)).alloc (Obj.cells (ba (zeros 128)) 30)) S 30 (zeros 128)) := (Below.heap_alloc _ _ _ (lt_of_block R1.out)).trans R1.out
  have B0 : Hid (Below S w ((w.alloc (Obj.cells (ba (zeros 128)) 30)).alloc (Obj.cells (ba (zeros 128)) 30))) := by subst hS; exact ((Below.refl _ w).alloc (Nat.le_refl _) _).alloc (by simp) _
  have E26 : Hid (∀ (s q lo : Nat) (w' : World), s ≤ 16 → Below S w w' → lo = q * 2 ^ s → lo + 2 ^ s ≤ 65536 → Calls Tryd.prog 26 #[.pointer (some ⟨M, 0, none⟩), .int .i64 lo, .int .i64 s] w' fun e w'' => e = .returned (.agg (ba (nd (lk L) s q))) ∧ Below w'.heap.size w' w'') := fun s q lo w' hs hb e1 e2 => r26 M A1 A2 n c1 c2 L hG hn s hs q lo w' (KW.out w' hb) (RW.out w' hb) e1 e2
  have SD : Hid (∀ s : Nat, i / 2 ^ s < 65536) := fun s => Nat.lt_of_le_of_lt (Nat.div_le_self _ _) HI.out
  have PL : Hid (∀ s, s ≤ 16 → (prfL (lk L) i s).length = 8 * s) := prfL_len (lk L) i fun s hs => nd_lk_len H8.out _ _
  obtain ⟨I, hIi⟩ : ∃ I : Int, (i : Int) = I := ⟨_, rfl⟩
  have HII := Lib.hid hIi
  have i0 : (0 : Int) ≤ I := by omega
  have i1 : I < 65536 := by omega
  rw [hIi]
  obtain ⟨y, hy⟩ : ∃ y, prfL (lk L) i 16 = y := ⟨_, rfl⟩
  have HY := Lib.hid hy
  rw [hy]
  clear hG hn hk hL hi hy hIi
  go_enter Tryd.func11, Tryd.ntmps11
  go_wp2_with fail
  clear hS R1
  generalize (w.alloc (Obj.cells (ba (zeros 128)) 30)).alloc (Obj.cells (ba (zeros 128)) 30) = w0 at *
  go_loopw [7, 8] (fun c _ wr => ∃ s : Nat, s ≤ 16 ∧ c = .int .i64 s ∧ BA wr (S + 1) 30 (prfL (lk L) i s ++ zeros (128 - 8 * s)) ∧ BA wr S 30 (zeros 128) ∧ Below S w wr) (fun c _ _ => 16 - (intOf c).toNat)
  case atStart => exact ⟨0, by omega, rfl, by rw [prfL_zero]; exact V0.out, R0.out, B0.out⟩
  case round =>
    clear V0 R0 B0
    obtain ⟨s, hs, rfl, hv, hr, hb⟩ := hrel
    have VR := Lib.hid hv
    have RR := Lib.hid hr
    have BR := Lib.hid hb
    clear hv hr hb
    by_cases hlt : s < 16
    · obtain ⟨q, hq⟩ : ∃ q, i / 2 ^ s = q := ⟨_, rfl⟩
      have hq6 : q < 65536 := by rw [← hq]; exact SD.out s
      have hup := sib_up HI.out hlt
      rw [hq] at hup
      obtain ⟨lo, hlo⟩ : ∃ lo, sib q * 2 ^ s = lo := ⟨_, rfl⟩
      rw [hlo] at hup
      have ET := E26.out s (sib q) lo wr (by omega) BR.out hlo.symm hup
      have hpos : 0 < 2 ^ s := Nat.pow_pos (by decide)
      have LX : Hid ((nd (lk L) s ((sib q : Nat) : Int)).length = 8) := nd_lk_len H8.out _ _
      have HP : Hid (prfL (lk L) i (s + 1) = prfL (lk L) i s ++ nd (lk L) s ((sib q : Nat) : Int)) := by show _ = _; rw [prfL_succ, hq]
      generalize nd (lk L) s ((sib q : Nat) : Int) = x at *
      have EX := Lib.hid ET
      have bq := bx q hq6
      have e1 : I / 2 ^ s = (q : Int) := by rw [← HII.out, ← hq]; push_cast; rfl
      have e2 : ((sib q : Nat) : Int) * 2 ^ s = (lo : Int) := by rw [← hlo]; push_cast; rfl
      have lo0 : (0 : Int) ≤ (lo : Int) := by omega
      have lo1 : (lo : Int) ≤ 65536 := by omega
      have ht : (s : Int).toNat = s := by omega
      have hmin : min s 64 = s := by omega
      have s0 : (0 : Int) ≤ (s : Int) := by omega
      have s1 : (s : Int) < 16 := by omega
      have HS16 : Hid (s < 16) := hlt
      have q0 : (0 : Int) ≤ (q : Int) := by omega
      have q6 : (q : Int) < 65536 := by omega
      clear hq hq6 hs hlt ET hup hlo hpos
      go_wp2_with fail
      refine EX.out.mono ?_
      rintro e w1 ⟨rfl, hb1⟩
      have V1 : Hid (BA w1 (S + 1) 30 (prfL (lk L) i s ++ zeros (128 - 8 * s))) := (hb1.block _ (lt_of_block VR.out)).trans VR.out
      have Q1 : Hid (BA w1 S 30 (zeros 128)) := (hb1.block _ (lt_of_block RR.out)).trans RR.out
      have B1 : Hid (Below S w w1) := BR.out.trans (hb1.mono (by have := lt_of_block RR.out; omega))
      clear hb1 EX
      have TH : Hid (w1.there (S + 1) (s * 8) (ba x).size) := by
        intro j hj
        rw [ba_size, LX.out] at hj
        have hl : (prfL (lk L) i s ++ zeros (128 - 8 * s)).length = 128 := by rw [List.length_append, PL.out s (by have := HS16.out; omega), zeros_len]; have := HS16.out; omega
        exact ⟨by rw [ba_cell V1.out (s * 8 + j) (by rw [hl]; have := HS16.out; omega)]; rfl, free_of V1.out _⟩
      go_wp2_with (refine wpList_store_mid rfl 29 (.tmp 33) (.tmp 32) rfl (S + 1) (s * 8) (ba x) rfl rfl TH.out (sz s27 (by rw [ba_size, LX.out])) (ba_one _) ?_)
      rw [ba_toList]
      have VN : Hid (BA (w1.setCells (S + 1) (s * 8) (bvals x)) (S + 1) 30 (prfL (lk L) i (s + 1) ++ zeros (128 - 8 * (s + 1)))) := by
        have h1 := ba_setCells x (s * 8) V1.out
        have hA : s * 8 = (prfL (lk L) i s).length := by rw [PL.out s (by have := HS16.out; omega)]; omega
        rw [hA, splR_app x (prfL (lk L) i s) (zeros (128 - 8 * s)) (by rw [LX.out, zeros_len]; have := HS16.out; omega), zeros_drop, LX.out, ← List.append_assoc, ← HP.out, ← hA] at h1
        rw [show 128 - 8 * (s + 1) = 128 - 8 * s - 8 by omega]
        exact h1
      have RN : Hid (BA (w1.setCells (S + 1) (s * 8) (bvals x)) S 30 (zeros 128)) := (heap_setCells (by omega) _ _ _).trans Q1.out
      have BN : Hid (Below S w (w1.setCells (S + 1) (s * 8) (bvals x))) := below_setCells (by omega) _ _ B1.out
      go_roundw
      case rel => exact ⟨s + 1, by have := HS16.out; omega, by go_num, VN.out, RN.out, BN.out⟩
      case measure => have := HS16.out; simp [intOf]; omega
    · obtain rfl : s = 16 := by omega
      have VV : Hid (BA wr (S + 1) 30 y) := by
        have : BA wr (S + 1) 30 (prfL (lk L) i 16 ++ zeros 0) := VR.out
        rw [show prfL (lk L) i 16 ++ zeros 0 = prfL (lk L) i 16 by simp [zeros], HY.out] at this
        exact this
      have P16 : Hid (y.length = 128) := by rw [← HY.out]; exact PL.out 16 (by omega)
      clear VR PL SD
      go_wp2_with (first
        | (refine wpList_load_row rfl 30 (.tmp 6) rfl (S + 1) rfl 30 (ba y) (0, 0) _ VV.out Tryd.underlying30 rfl (sz s30 (by rw [ba_size, P16.out])) ?_)
        | (refine wpList_store_rowTo rfl 30 (.tmp 4) (.tmp 34) rfl rfl S (ba y) rfl rfl 30 (ba (zeros 128)) RR.out (sz s30 (by rw [ba_size, P16.out])) (by rw [ba_size, ba_size, P16.out, zeros_len]) (ba_one _) ?_))
      refine bodyPost_ret (v := .tuple #[.agg (ba y), .bool true]) (results_cell_tmp rfl _ _ S 30 _ (0, 0) _ _ rfl rfl (setRow_heap _ _ _ _ _ _ RR.out) Tryd.underlying30 rfl (sz s30 (by rw [ba_size, P16.out]))) rfl ⟨rfl, P16.out, ?_⟩
      rw [HS.out]
      exact below_setRow BR.out (by omega) _
set_option maxRecDepth 100000 in
set_option maxHeartbeats 4000000 in
theorem r11no (M : Nat) (i : Int) (w : World) (hno : ¬ (0 ≤ i ∧ i < 65536)) :
    Calls Tryd.prog 11 #[.pointer (some ⟨M, 0, none⟩), .int .i64 i] w fun e w' => e = .returned (.tuple #[.agg (ba (zeros 128)), .bool false]) ∧ Below w.heap.size w w' := by
  have h4 := z30
  obtain ⟨S, hS⟩ : ∃ S, w.heap.size = S := ⟨_, rfl⟩
  have HS := Lib.hid hS
  have R1 : Hid (BA (w.alloc (Obj.cells (ba (zeros 128)) 30)) S 30 (zeros 128)) := by subst hS; exact heap_alloc_last w _
  have V0 : Hid (BA ((w.alloc (Obj.cells (ba (zeros 128)) 30)).alloc (Obj.cells (ba (zeros 128)) 30)) (S + 1) 30 (zeros 128)) := by
    show _ = _
    subst hS
    have := heap_alloc_last (w.alloc (Obj.cells (ba (zeros 128)) 30)) (Obj.cells (ba (zeros 128)) 30)
    simp only [World.size_alloc] at this
    exact this
  have R0 : Hid (BA ((w.alloc (Obj.cells (ba (zeros 128)) 30)).alloc (Obj.cells (ba (zeros 128)) 30)) S 30 (zeros 128)) := (Below.heap_alloc _ _ _ (lt_of_block R1.out)).trans R1.out
  have B0 : Hid (Below S w ((w.alloc (Obj.cells (ba (zeros 128)) 30)).alloc (Obj.cells (ba (zeros 128)) 30))) := by subst hS; exact ((Below.refl _ w).alloc (Nat.le_refl _) _).alloc (by simp) _
  by_cases h : i < 0
  all_goals
    try have h1 : 65536 ≤ i := by omega
    clear hno
    go_enter Tryd.func11, Tryd.ntmps11
    go_wp2_with (first
      | (refine wpList_load_row rfl 30 (.tmp 6) rfl (S + 1) rfl 30 (ba (zeros 128)) (0, 0) _ V0.out Tryd.underlying30 rfl (sz s30 (by rw [ba_size, zeros_len])) ?_)
      | (refine wpList_store_rowTo rfl 30 (.tmp 4) (.tmp 15) rfl rfl S (ba (zeros 128)) rfl rfl 30 (ba (zeros 128)) R0.out (sz s30 (by rw [ba_size, zeros_len])) rfl (ba_one _) ?_)
      | fail)
    refine bodyPost_ret (v := .tuple #[.agg (ba (zeros 128)), .bool false]) (results_cell_tmp rfl _ _ S 30 _ (0, 0) _ _ rfl rfl (setRow_heap _ _ _ _ _ _ R0.out) Tryd.underlying30 rfl (sz s30 (by rw [ba_size, zeros_len]))) rfl ⟨rfl, ?_⟩
    try rw [HS.out]
    exact below_setRow B0.out (by omega) _
end Go.Proofs.YtgagcblddcibkaaDoor
