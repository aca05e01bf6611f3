/-
  The root of a row: the document's; Root.
-/
import Derived.Test.YtmcmdpbdipgahaaMA
namespace Go.Proofs.Ytmcmdpbdipgahaa
open Go.RowKit
theorem leafH_eq (x : List Int) : (sha (oneM 108 x)).take 8 = leafH x := rfl
theorem two14 (x y : List Int) (w : World) (_ : Keys w) (hx : x.length = 8) (hy : y.length = 8) : Calls Try.prog 59 #[.int .u8 109, .agg (ba x), .agg (ba y)] w fun e w' => e = .returned (.agg (ba (twoH x y))) ∧ Below w.heap.size w w' := c15 sum13 109 x y w hx hy
def rootV (n : Nat) (l : List Int) : List Int := if n = 0 ∨ 65536 < n then zeros 8 else rootF n l
theorem rootV_no {n : Nat} (l : List Int) (h : n = 0 ∨ 65536 < n) : rootV n l = zeros 8 := by unfold rootV; rw [if_pos h]
theorem rootV_ok {n : Nat} (l : List Int) (h : ¬ (n = 0 ∨ 65536 < n)) : rootV n l = rootF n l := by unfold rootV; rw [if_neg h]
theorem rootV_len (n : Nat) (l : List Int) : (rootV n l).length = 8 := by
  unfold rootV
  split
  · exact zeros_len 8
  · exact rootF_len n l
theorem b27 (w : World) : (Instr.build 31 #[]).run Try.prog w = .ok (.agg (ba (zeros 8))) w := by kernel_rfl
attribute [local irreducible] ua da ba kk sw S8.run rt hs comp splice outB sha msg rootF leafH twoH rootV

set_option maxRecDepth 100000 in
set_option maxHeartbeats 4000000 in
theorem p11 : ∀ (f : Nat) (A : Option Addr) (n cap : Nat) (l : List Int) (w : World), Keys w → Src w A (8 * n) l → 1 ≤ n → n ≤ f → n ≤ 65536 → n ≤ cap → cap ≤ 9223372036854775807 →
    Calls Try.prog 45 #[.slice A n cap] w fun e w' => e = .returned (.agg (ba (rootF f l))) ∧ Below w.heap.size w w'
  | 0, _, _, _, _, _, _, _, h1, h2, _, _, _ => by omega
  | f + 1, A, n, cap, l, w, hk, hsrc, h1, hf, h64, hcap, hmax => by
    have h4 := z27
    have HK := Lib.hid hk
    have HX := Lib.hid hsrc
    have HP : Hid (0 < w.heap.size) := keys_pos hk
    clear hk hsrc
    obtain ⟨S, hS⟩ : ∃ S, w.heap.size = S := ⟨_, rfl⟩
    have T0 : Hid (BA (w.alloc (Obj.cells (ba (zeros 8)) 31)) S 31 (zeros 8)) := by subst hS; exact heap_alloc_last w _
    have B0 : Hid (Below S w (w.alloc (Obj.cells (ba (zeros 8)) 31))) := by subst hS; exact (Below.refl _ w).alloc (Nat.le_refl _) _
    have HS := Lib.hid hS
    have KW : Hid (∀ w', Below S w w' → Keys w') := fun w' hb => keys_below HK.out hb (by rw [← HS.out]; exact HP.out)
    have SW : Hid (∀ w', Below S w w' → Src w' A (8 * n) l) := fun w' hb => HX.out.keep fun q hq => hb.block q (by rw [← HS.out]; exact hq)
    obtain ⟨g, o, hA⟩ := src_at HX.out h1
    subst hA
    by_cases hn : n = 1
    · subst hn
      have HR : Hid (rootF (f + 1) l = leafH l) := rootF_one f l HX.out.1
      have HL : Hid (l.length = 8) := HX.out.1
      have W0 : Hid ((w.alloc (Obj.cells (ba (zeros 8)) 31)).heap.size = S + 1) := by show _ = _; rw [← HS.out]; exact World.size_alloc _ _
      have hG := heap_alloc_last (w.alloc (Obj.cells (ba (zeros 8)) 31)) (Obj.cells #[.slice (some ⟨g, o, none⟩) 8 8] 106)
      rw [W0.out] at hG
      have BG : Hid (Below S w ((w.alloc (Obj.cells (ba (zeros 8)) 31)).alloc (Obj.cells #[.slice (some ⟨g, o, none⟩) 8 8] 106))) := B0.out.alloc (by rw [W0.out]; omega) _
      have T5 : Hid (BA ((w.alloc (Obj.cells (ba (zeros 8)) 31)).alloc (Obj.cells #[.slice (some ⟨g, o, none⟩) 8 8] 106)) S 31 (zeros 8)) := (Below.heap_alloc _ _ _ (lt_of_block T0.out)).trans T0.out
      have C := c12 sum13 108 (some ⟨S + 1, 0, none⟩) 1 1 _ _ _ _ _ (prts8 hG (SW.out _ BG.out)) (fun _ _ h0 => by cases h0) (by rw [msg_one]; exact oneM_len 108 l HL.out)
      rw [msg_one] at C
      have HC := Lib.hid C
      have q0 : (0 : Int) < ((1 : Nat) : Int) := by omega
      have HLH : Hid ((sha (oneM 108 l)).take 8 = leafH l) := leafH_eq l
      clear C hG
      go_enter Try.func45, Try.ntmps45
      go_wp2_with (first
        | (go_at_call 57
           refine HC.out.mono ?_
           rintro e w1 ⟨rfl, hb⟩
           rw [HLH.out]
           have T1 : Hid (BA w1 S 31 (zeros 8)) := (hb.block S (lt_of_block T5.out)).trans T5.out
           have B1 : Hid (Below S w w1) := BG.out.trans (hb.mono (Nat.le_of_lt (lt_of_block T5.out)))
           clear hb)
        | (refine wpList_store_rowTo rfl 31 (.tmp 2) (.tmp 22) rfl rfl S (ba (leafH l)) rfl rfl 31 (ba (zeros 8)) T1.out (sz s27 (by rw [ba_size, leafH_len])) (by rw [ba_size, ba_size, leafH_len]; rfl) (ba_one _) ?_)
        | fail)
      refine bodyPost_ret (v := .agg (ba (leafH l))) (results_cell_row rfl _ _ S 31 _ (0, 0) _ rfl (setRow_heap _ _ _ _ _ _ T1.out) Try.underlying31 rfl (sz s27 (by rw [ba_size, leafH_len]))) rfl ⟨by rw [HR.out], ?_⟩
      rw [HS.out]
      exact below_setRow B1.out (Nat.le_refl _) _
    · have hl := HX.out.1
      have HR : Hid (rootF (f + 1) l = twoH (rootF f (l.take (8 * cutN n))) (rootF f (l.drop (8 * cutN n)))) := rootF_two f l n hl (by omega)
      obtain ⟨c1, c2, c3⟩ := cutN_lo n (by omega) h64
      have CC := Lib.hid (p20 n (w.alloc (Obj.cells (ba (zeros 8)) 31)) (by omega) h64)
      obtain ⟨k, hk⟩ : ∃ k, cutN n = k := ⟨_, rfl⟩
      rw [hk] at c1 c2 c3 HR CC
      have E1 : Hid (∀ w', Below S w w' → Calls Try.prog 45 #[.slice (some ⟨g, o, none⟩) k cap] w' fun e w'' => e = .returned (.agg (ba (rootF f (l.take (8 * k))))) ∧ Below w'.heap.size w' w'') := fun w' hb => p11 f _ k cap _ w' (KW.out w' hb) (src_take (SW.out w' hb) k (by omega)) c1 (by omega) (by omega) (by omega) hmax
      have E2 : Hid (∀ w', Below S w w' → Calls Try.prog 45 #[.slice (some ⟨g, o + k * 8, none⟩) (n - k) (cap - k)] w' fun e w'' => e = .returned (.agg (ba (rootF f (l.drop (8 * k))))) ∧ Below w'.heap.size w' w'') := fun w' hb => p11 f _ (n - k) (cap - k) _ w' (KW.out w' hb) (src_drop (SW.out w' hb) k c2) (by omega) (by omega) (by omega) (by omega) (by omega)
      have r1 := rootF_len f (l.take (8 * k))
      have r2 := rootF_len f (l.drop (8 * k))
      have E3 : Hid (∀ w', Below S w w' → Calls Try.prog 59 #[.int .u8 109, .agg (ba (rootF f (l.take (8 * k)))), .agg (ba (rootF f (l.drop (8 * k))))] w' fun e w'' => e = .returned (.agg (ba (twoH (rootF f (l.take (8 * k))) (rootF f (l.drop (8 * k)))))) ∧ Below w'.heap.size w' w'') := fun w' hb => two14 _ _ w' (KW.out w' hb) r1 r2
      have s1 := fun w => sl_front g o n cap k w (by omega) (by omega)
      have s2 := fun w => sl_back g o n cap k w (by omega) (by omega)
      have HT : Hid ((twoH (rootF f (l.take (8 * k))) (rootF f (l.drop (8 * k)))).length = 8) := twoH_len _ _
      obtain ⟨x0, x1, x2, x3, x4, x5, x6, x7, hx8⟩ := c8cells _ HT.out
      have HX8 := Lib.hid hx8
      generalize rootF f (l.take (8 * k)) = ra at *
      generalize rootF f (l.drop (8 * k)) = rb at *
      have E3b : Hid (∀ w', Below S w w' → Calls Try.prog 59 #[.int .u8 109, .agg (ba ra), .agg (ba rb)] w' fun e w'' => e = .returned (.agg #[.int .u8 x0, .int .u8 x1, .int .u8 x2, .int .u8 x3, .int .u8 x4, .int .u8 x5, .int .u8 x6, .int .u8 x7]) ∧ Below w'.heap.size w' w'') := fun w' hb => by
        have := E3.out w' hb
        rw [HX8.out, ba_lit] at this
        exact this
      have q1 : ¬ (n : Int) = 1 := by omega
      have q2 : ¬ (n : Int) = 0 := by omega
      have q3 : ¬ (65536 : Int) < (n : Int) := by omega
      have W0 : Hid ((w.alloc (Obj.cells (ba (zeros 8)) 31)).heap.size = S + 1) := by show _ = _; rw [← HS.out]; exact World.size_alloc _ _
      clear r1 r2 hx8 E3 c1 c2 c3 hcap hmax h64 hf h1 hl hk hn
      go_enter Try.func45, Try.ntmps45
      go_wp2_with (go_at_call 58; refine CC.out.mono ?_; rintro e w1 ⟨rfl, rfl⟩)
      clear hS
      generalize w.alloc (Obj.cells (ba (zeros 8)) 31) = w0 at *
      go_region_held3 (fun _ => True) (exact trivial)
        (first
          | (go_at_call 45; refine (E1.out _ (by first | exact B0.out | exact B0.out.drew)).mono ?_; rintro e wa ⟨rfl, hba⟩; have Ba : Hid (Below S w wa) := (by first | exact B0.out.trans (hba.mono (by rw [W0.out]; omega)) | exact B0.out.drew.trans (hba.mono (by have := W0.out; simp; omega))); have Ta : Hid (BA wa S 31 (zeros 8)) := (hba.block S (by have := W0.out; simp; omega)).trans T0.out; clear hba E1)
          | (go_at_call 45; refine (E2.out _ (by first | exact Ba.out | exact Ba.out.drew)).mono ?_; rintro e wb ⟨rfl, hbb⟩; have Bb : Hid (Below S w wb) := (by first | exact Ba.out.trans (hbb.mono (Nat.le_of_lt (lt_of_block Ta.out))) | exact Ba.out.drew.trans (hbb.mono (by have := lt_of_block Ta.out; simp; omega))); have Tb : Hid (BA wb S 31 (zeros 8)) := (hbb.block S (by have := lt_of_block Ta.out; simp; omega)).trans Ta.out; clear hbb E2)
          | (go_at_call 59; refine (E3b.out _ (by first | exact Bb.out | exact Bb.out.drew)).mono ?_; rintro e wz ⟨rfl, hbz⟩; have Bz : Hid (Below S w wz) := (by first | exact Bb.out.trans (hbz.mono (Nat.le_of_lt (lt_of_block Tb.out))) | exact Bb.out.drew.trans (hbz.mono (by have := lt_of_block Tb.out; simp; omega))); have Tz : Hid (BA wz S 31 (zeros 8)) := (hbz.block S (by have := lt_of_block Tb.out; simp; omega)).trans Tb.out; obtain ⟨z0, z1, z2, z3, z4, z5, z6, z7⟩ := cells8 (t := 31) 0 0 0 0 0 0 0 0 Tz.out; have f0 := free_of Tz.out; clear hbz))
      rename_i hHeld
      clear hHeld z0 z1 z2 z3 z4 z5 z6 z7 f0
      have RF : Hid ((put8 wz S x0 x1 x2 x3 x4 x5 x6 x7).heap[S]? = some (.cells #[.int .u8 x0, .int .u8 x1, .int .u8 x2, .int .u8 x3, .int .u8 x4, .int .u8 x5, .int .u8 x6, .int .u8 x7] 31 (0, 0))) := by rw [← ba_lit]; exact put8_ba x0 x1 x2 x3 x4 x5 x6 x7 Tz.out
      have BF : Hid (Below S w (put8 wz S x0 x1 x2 x3 x4 x5 x6 x7)) := put8_below x0 x1 x2 x3 x4 x5 x6 x7 Bz.out (Nat.le_refl _)
      change Exit.then _ _ Exit.normal _ (put8 wz S x0 x1 x2 x3 x4 x5 x6 x7)
      generalize put8 wz S x0 x1 x2 x3 x4 x5 x6 x7 = wf at *
      go_wp2
      refine bodyPost_ret (v := .agg #[.int .u8 x0, .int .u8 x1, .int .u8 x2, .int .u8 x3, .int .u8 x4, .int .u8 x5, .int .u8 x6, .int .u8 x7]) (results_cell_row rfl _ _ S 31 #[.int .u8 x0, .int .u8 x1, .int .u8 x2, .int .u8 x3, .int .u8 x4, .int .u8 x5, .int .u8 x6, .int .u8 x7] (0, 0) _ rfl RF.out Try.underlying31 rfl (sz s27 rfl)) rfl ⟨by rw [HR.out, HX8.out, ba_lit], ?_⟩
      rw [HS.out]
      exact BF.out
set_option maxRecDepth 100000 in
set_option maxHeartbeats 4000000 in
theorem p11z (A : Option Addr) (n cap : Nat) (w : World) (hn : n = 0 ∨ 65536 < n) : Calls Try.prog 45 #[.slice A n cap] w fun e w' => e = .returned (.agg (ba (zeros 8))) ∧ Below w.heap.size w w' := by
  have h4 := z27
  have h5 := b27
  obtain ⟨S, hS⟩ : ∃ S, w.heap.size = S := ⟨_, rfl⟩
  have T0 : Hid (BA (w.alloc (Obj.cells (ba (zeros 8)) 31)) S 31 (zeros 8)) := by subst hS; exact heap_alloc_last w _
  have B0 : Hid (Below S w (w.alloc (Obj.cells (ba (zeros 8)) 31))) := by subst hS; exact (Below.refl _ w).alloc (Nat.le_refl _) _
  have HS := Lib.hid hS
  rcases hn with hn | hn
  · subst hn
    go_enter Try.func45, Try.ntmps45
    go_wp2_with (refine wpList_store_rowTo rfl 31 (.tmp 2) (.tmp 13) rfl rfl S (ba (zeros 8)) rfl rfl 31 (ba (zeros 8)) T0.out (sz s27 (by rw [ba_size]; rfl)) rfl (ba_one _) ?_)
    refine bodyPost_ret (v := .agg (ba (zeros 8))) (results_cell_row rfl _ _ S 31 _ (0, 0) _ rfl (setRow_heap _ _ _ _ _ _ T0.out) Try.underlying31 rfl (sz s27 (by rw [ba_size]; rfl))) rfl ⟨rfl, ?_⟩
    rw [HS.out]
    exact below_setRow B0.out (Nat.le_refl _) _
  · have q2 : ¬ (n : Int) = 0 := by omega
    have q3 : (65536 : Int) < (n : Int) := by omega
    go_enter Try.func45, Try.ntmps45
    go_wp2_with (refine wpList_store_rowTo rfl 31 (.tmp 2) (.tmp 13) rfl rfl S (ba (zeros 8)) rfl rfl 31 (ba (zeros 8)) T0.out (sz s27 (by rw [ba_size]; rfl)) rfl (ba_one _) ?_)
    refine bodyPost_ret (v := .agg (ba (zeros 8))) (results_cell_row rfl _ _ S 31 _ (0, 0) _ rfl (setRow_heap _ _ _ _ _ _ T0.out) Try.underlying31 rfl (sz s27 (by rw [ba_size]; rfl))) rfl ⟨rfl, ?_⟩
    rw [HS.out]
    exact below_setRow B0.out (Nat.le_refl _) _
/-- the document's Root: any row -/
theorem r11 (A : Option Addr) (n cap : Nat) (l : List Int) (w : World) (hk : Keys w) (hsrc : Src w A (8 * n) l) (hcap : n ≤ cap) (hmax : cap ≤ 9223372036854775807) :
    Calls Try.prog 45 #[.slice A n cap] w fun e w' => e = .returned (.agg (ba (rootV n l))) ∧ Below w.heap.size w w' := by
  by_cases h : n = 0 ∨ 65536 < n
  · rw [rootV_no l h]; exact p11z A n cap w h
  · rw [rootV_ok l h]; exact p11 n A n cap l w hk hsrc (by omega) (Nat.le_refl _) (by omega) hcap hmax
end Go.Proofs.Ytmcmdpbdipgahaa

/-
  How many cuts lead to a leaf.
-/
namespace Go.Proofs.Ytmcmdpbdipgahaa
open Go.RowKit
def stepsF : Nat → Nat → Nat → Nat
  | 0, _, _ => 0
  | f + 1, i, n => if n ≤ 1 then 0 else if i < cutN n then stepsF f i (cutN n) + 1 else stepsF f (i - cutN n) (n - cutN n) + 1
theorem stepsF_one (f i : Nat) : stepsF f i 1 = 0 := by
  cases f with
  | zero => rfl
  | succ f => rw [stepsF, if_pos (by omega)]
theorem stepsF_l (f i n : Nat) (hn : 2 ≤ n) (h : i < cutN n) : stepsF (f + 1) i n = stepsF f i (cutN n) + 1 := by rw [stepsF, if_neg (by omega), if_pos h]
theorem stepsF_r (f i n : Nat) (hn : 2 ≤ n) (h : ¬ i < cutN n) : stepsF (f + 1) i n = stepsF f (i - cutN n) (n - cutN n) + 1 := by rw [stepsF, if_neg (by omega), if_neg h]
theorem stepsF_fuel : ∀ (f g i n : Nat), n ≤ f → n ≤ g → n ≤ 65536 → stepsF f i n = stepsF g i n
  | 0, 0, _, _, _, _, _ => rfl
  | 0, g + 1, i, n, h1, _, _ => by rw [stepsF, stepsF, if_pos (by omega)]
  | f + 1, 0, i, n, _, h2, _ => by rw [stepsF, stepsF, if_pos (by omega)]
  | f + 1, g + 1, i, n, h1, h2, h3 => by
    by_cases hn : n ≤ 1
    · rw [stepsF, stepsF, if_pos hn, if_pos hn]
    · obtain ⟨c1, c2, _⟩ := cutN_lo n (by omega) h3
      by_cases h : i < cutN n
      · rw [stepsF_l f i n (by omega) h, stepsF_l g i n (by omega) h, stepsF_fuel f g i (cutN n) (by omega) (by omega) (by omega)]
      · rw [stepsF_r f i n (by omega) h, stepsF_r g i n (by omega) h, stepsF_fuel f g _ (n - cutN n) (by omega) (by omega) (by omega)]
theorem stepsF_le : ∀ (f i n : Nat), n ≤ 65536 → 1 ≤ n → stepsF f i n ≤ n
  | 0, _, _, _, _ => Nat.zero_le _
  | f + 1, i, n, h, h1 => by
    by_cases hn : n ≤ 1
    · rw [stepsF, if_pos hn]; omega
    · obtain ⟨c1, c2, _⟩ := cutN_lo n (by omega) h
      by_cases h2 : i < cutN n
      · rw [stepsF_l f i n (by omega) h2]
        have := stepsF_le f i (cutN n) (by omega) c1
        omega
      · rw [stepsF_r f i n (by omega) h2]
        have := stepsF_le f (i - cutN n) (n - cutN n) (by omega) (by omega)
        omega
attribute [local irreducible] stepsF cutN

end Go.Proofs.Ytmcmdpbdipgahaa
