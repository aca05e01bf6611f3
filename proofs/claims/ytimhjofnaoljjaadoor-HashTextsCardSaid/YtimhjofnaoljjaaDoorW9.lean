/-
  Sum, Of, Two, Zero.
-/
import Derived.Test.YtimhjofnaoljjaaDoorW8
namespace Go.Proofs.YtimhjofnaoljjaaDoor
open Go.RowKit
theorem keys_pos {w : World} (h : Keys w) : 0 < w.heap.size := World.block_lt_of_cell? w ⟨0, 0, none⟩ (h 0 (by decide))
theorem fed_none {w : World} {b : Nat} (h : DA w b iv (zeros 64) 0) : Fed w b [] := ⟨zeros 64, h, zeros_len _, rfl⟩
theorem src_lt {w : World} {A : Option Addr} {m : Nat} {xs : List Int} (h : Src w A m xs) (h0 : 0 < m) : ∀ g o, A = some ⟨g, o, none⟩ → g < w.heap.size := by
  intro g o e
  rcases h.2 with h2 | ⟨g2, o2, h3, hc⟩
  · omega
  · rw [e] at h3
    cases h3
    exact World.block_lt_of_cell? w ⟨g, o + 0, none⟩ (hc 0 h0)
theorem Src.keep {w W : World} {A : Option Addr} {m : Nat} {xs : List Int} (h : Src w A m xs) (hb : ∀ k, k < w.heap.size → W.heap[k]? = w.heap[k]?) : Src W A m xs := by
  refine ⟨h.1, ?_⟩
  rcases h.2 with h2 | ⟨g, o, h3, hc⟩
  · exact .inl h2
  · refine .inr ⟨g, o, h3, fun i hi => ?_⟩
    rw [World.cell?_of_block (w := w) (w' := W) (a := ⟨g, o + i, none⟩) (hb g (World.block_lt_of_cell? w ⟨g, o + i, none⟩ (hc i hi)))]
    exact hc i hi
attribute [local irreducible] ua da ba kk sw S8.run rt hs comp splice outB sha
set_option maxRecDepth 100000 in
set_option maxHeartbeats 1000000 in
theorem c9 (A : Option Addr) (len cap : Nat) (xs : List Int) (w : World) (hk : Keys w) (hx : Src w A len xs) (hm : len ≤ 400000) (hc : len ≤ cap) (hc2 : cap ≤ 9223372036854775807) :
    Calls Tryd.prog 9 #[.slice A len cap] w fun e w' => e = .returned (.agg (ba (sha xs))) ∧ Below w.heap.size w w' := by
  have h1 := z23
  have h2 := z48
  have HK := Lib.hid hk
  have HX := Lib.hid hx
  have HP : Hid (0 < w.heap.size) := keys_pos hk
  clear hk hx
  obtain ⟨S, hS⟩ : ∃ S, w.heap.size = S := ⟨_, rfl⟩
  go_enter Tryd.func9, Tryd.ntmps9
  go_wp2_with (first
    | (go_at_call 22
       have R0 : Hid (BA (w.alloc (Obj.cells (ba (zeros 32)) 23)) S 23 (zeros 32)) := by subst hS; exact heap_alloc_last w _
       have B0 : Hid (Below S w (w.alloc (Obj.cells (ba (zeros 32)) 23))) := by subst hS; exact (Below.refl _ w).alloc (Nat.le_refl _) _
       generalize w.alloc (Obj.cells (ba (zeros 32)) 23) = w0 at *
       refine (c22 w0).mono ?_
       rintro e w1 ⟨rfl, hb1⟩
       have R1 : Hid (BA w1 S 23 (zeros 32)) := (hb1.block _ (lt_of_block R0.out)).trans R0.out
       have B1 : Hid (Below S w w1) := B0.out.trans (hb1.mono (Nat.le_of_lt (lt_of_block R0.out)))
       have LS : Hid (S < w1.heap.size) := lt_of_block R1.out
       clear hb1
       obtain ⟨D, hD⟩ : ∃ D, w1.heap.size = D := ⟨_, rfl⟩)
    | (refine wpList_store_rowTo rfl 48 (.tmp 3) (.tmp 4) rfl rfl D (da iv (zeros 64) 0) rfl rfl 48 (da (zeros 8) (zeros 64) 0) (by subst hD; exact heap_alloc_last w1 _) (sz s48 (da_size _ _ _ rfl rfl)) (by rw [da_size _ _ _ rfl rfl, da_size _ _ _ rfl rfl]) (da_one _ _ _) ?_
       have D1 : DA (w1.alloc (Obj.cells (da (zeros 8) (zeros 64) 0) 48)) D (zeros 8) (zeros 64) 0 := by subst hD; exact heap_alloc_last w1 _
       generalize hq : (w1.alloc (Obj.cells (da (zeros 8) (zeros 64) 0) 48)).setRow D (da iv (zeros 64) 0) = w2
       have D2 : DA w2 D iv (zeros 64) 0 := by rw [← hq]; exact setRow_heap _ _ _ _ _ _ D1
       have F2 : Hid (Fed w2 D []) := fed_none D2
       have B2 : Hid (Below D w1 w2) := by rw [← hq]; subst hD; exact below_setRow ((Below.refl _ w1).alloc (Nat.le_refl _) _) (Nat.le_refl _) _
       have R2 : Hid (BA w2 S 23 (zeros 32)) := (B2.out.block S (by rw [← hD]; exact LS.out)).trans R1.out
       have K2 : Hid (Keys w2) := keys_below (keys_below HK.out B1.out (by rw [← hS]; exact HP.out)) B2.out (by rw [← hD]; have := LS.out; omega)
       have X2 : Hid (Src w2 A len xs) := (HX.out.keep (fun k hk => B1.out.block k (by rw [← hS]; exact hk))).keep (fun k hk => B2.out.block k (by rw [← hD]; exact hk))
       have LD : Hid (w.heap.size < D) := by show _ < _; rw [← hD, hS]; exact LS.out
       have C := Lib.hid (c23 D A len cap [] xs w2 F2.out K2.out (Nat.lt_of_le_of_lt (Nat.zero_le _) LD.out) X2.out (fun h0 g o e => by have := src_lt HX.out h0 g o e; have := LD.out; omega) (by simp; omega) hc hc2)
       clear hq D1 D2)
    | (go_at_call 23
       refine C.out.mono ?_
       rintro e w3 ⟨rfl, hf3, hk3, ho3⟩
       have R3 : Hid (BA w3 S 23 (zeros 32)) := (ho3.below.block S (by have := LD.out; omega)).trans R2.out
       have B3 : Hid (Below D w1 w3) := B2.out.trans ho3.below
       have C2 := Lib.hid (c24 D xs w3 hf3 hk3 (Nat.lt_of_le_of_lt (Nat.zero_le _) LD.out) (by rw [HX.out.1]; omega))
       clear hf3 hk3 ho3)
    | (go_at_call 24
       refine C2.out.mono ?_
       rintro e w4 ⟨rfl, ho4⟩
       have R4 : Hid (BA w4 S 23 (zeros 32)) := (ho4.below.block S (by have := LD.out; omega)).trans R3.out
       have B4 : Hid (Below D w1 w4) := B3.out.trans ho4.below
       clear ho4)
    | (refine wpList_store_rowTo rfl 23 (.tmp 2) (.tmp 7) rfl rfl S (ba (sha xs)) rfl rfl 23 (ba (zeros 32)) R4.out (sz s23 (by rw [ba_size, sha_len])) (by rw [ba_size, ba_size, sha_len]; rfl) (ba_one _) ?_)
    | fail)
  refine bodyPost_ret (v := .agg (ba (sha xs))) (results_cell_row rfl _ _ S 23 _ (0, 0) _ rfl (setRow_heap _ _ _ _ _ _ R4.out) Tryd.underlying23 rfl (sz s23 (by rw [ba_size, sha_len]))) rfl ⟨rfl, ?_⟩
  rw [hS]
  exact below_setRow (B1.out.trans (B4.out.mono (by have := LD.out; omega))) (Nat.le_refl _) _
end Go.Proofs.YtimhjofnaoljjaaDoor
