/-
  Where a proof leads: the program's.
-/
import Derived.Test.YtfneopmgckejdaaDoorMB
namespace Go.Proofs.YtfneopmgckejdaaDoor
open Go.RowKit
def leadF : Nat → List Int → Nat → Nat → Nat → List Int → List Int
  | 0, _, _, _, _, _ => zeros 8
  | f + 1, leaf, i, n, m, pr => if n ≤ 1 then leafH leaf else if i < cutN n then twoH (leadF f leaf i (cutN n) (m - 1) (pr.take (8 * (m - 1)))) (pr.drop (8 * (m - 1))) else twoH (pr.drop (8 * (m - 1))) (leadF f leaf (i - cutN n) (n - cutN n) (m - 1) (pr.take (8 * (m - 1))))
theorem leadF_len : ∀ (f : Nat) (leaf : List Int) (i n m : Nat) (pr : List Int), (leadF f leaf i n m pr).length = 8
  | 0, _, _, _, _, _ => zeros_len 8
  | f + 1, leaf, i, n, m, pr => by
    rw [leadF]
    split
    · exact leafH_len _
    · split
      · exact twoH_len _ _
      · exact twoH_len _ _
theorem leadF_one (f : Nat) (leaf : List Int) (i m : Nat) (pr : List Int) : leadF (f + 1) leaf i 1 m pr = leafH leaf := by rw [leadF, if_pos (by omega)]
theorem leadF_l (f : Nat) (leaf : List Int) (i n m : Nat) (pr : List Int) (hn : 2 ≤ n) (h : i < cutN n) : leadF (f + 1) leaf i n (m + 1) pr = twoH (leadF f leaf i (cutN n) m (pr.take (8 * m))) (pr.drop (8 * m)) := by rw [leadF, if_neg (by omega), if_pos h, Nat.add_sub_cancel]
theorem leadF_r (f : Nat) (leaf : List Int) (i n m : Nat) (pr : List Int) (hn : 2 ≤ n) (h : ¬ i < cutN n) : leadF (f + 1) leaf i n (m + 1) pr = twoH (pr.drop (8 * m)) (leadF f leaf (i - cutN n) (n - cutN n) m (pr.take (8 * m))) := by rw [leadF, if_neg (by omega), if_neg h, Nat.add_sub_cancel]
theorem src_eight {w : World} {g o q : Nat} {pr : List Int} (h : Src w (some ⟨g, o, none⟩) (8 * (q + 1)) pr) (x0 x1 x2 x3 x4 x5 x6 x7 : Int) (hx : pr.drop (8 * q) = [x0, x1, x2, x3, x4, x5, x6, x7]) :
    w.cell? ⟨g, o + q * 8, none⟩ = some (.int .u8 x0) ∧ w.cell? ⟨g, o + q * 8 + 1, none⟩ = some (.int .u8 x1) ∧ w.cell? ⟨g, o + q * 8 + 2, none⟩ = some (.int .u8 x2) ∧ w.cell? ⟨g, o + q * 8 + 3, none⟩ = some (.int .u8 x3) ∧ w.cell? ⟨g, o + q * 8 + 4, none⟩ = some (.int .u8 x4) ∧ w.cell? ⟨g, o + q * 8 + 5, none⟩ = some (.int .u8 x5) ∧ w.cell? ⟨g, o + q * 8 + 6, none⟩ = some (.int .u8 x6) ∧ w.cell? ⟨g, o + q * 8 + 7, none⟩ = some (.int .u8 x7) := by
  obtain ⟨hl, h2⟩ := h
  rcases h2 with h2 | ⟨g', o', h3, hc⟩
  · omega
  · cases h3
    have gg : ∀ j, j < 8 → w.cell? ⟨g, o + q * 8 + j, none⟩ = some (.int .u8 ((pr.drop (8 * q)).getD j 0)) := fun j hj => by
      rw [show o + q * 8 + j = o + (8 * q + j) by omega, hc (8 * q + j) (by omega)]
      simp [List.getD]
    rw [hx] at gg
    exact ⟨gg 0 (by decide), gg 1 (by decide), gg 2 (by decide), gg 3 (by decide), gg 4 (by decide), gg 5 (by decide), gg 6 (by decide), gg 7 (by decide)⟩
attribute [local irreducible] ua da ba kk sw S8.run rt hs comp splice outB sha msg rootF leafH twoH stepsF cutN leadF
set_option maxRecDepth 100000 in
set_option maxHeartbeats 4000000 in
theorem p22 : ∀ (f : Nat) (leaf : List Int) (i n m cap : Nat) (A : Option Addr) (pr : List Int) (w : World), Keys w → leaf.length = 8 → Src w A (8 * m) pr → i < n → n ≤ f → n ≤ 65536 → m = stepsF f i n → m ≤ cap →
    Calls Tryd.prog 44 #[.agg (ba leaf), .int .i64 i, .int .i64 n, .slice A m cap] w fun e w' => e = .returned (.agg (ba (leadF f leaf i n m pr))) ∧ Below w.heap.size w w'
  | 0, _, _, _, _, _, _, _, _, _, _, _, hi, hf, _, _, _ => by omega
  | f + 1, leaf, i, n, m, cap, A, pr, w, hk, hlf, hsrc, hi, hf, h64, hm, hcap => by
    have h4 := z27
    have HK := Lib.hid hk
    have HX := Lib.hid hsrc
    have HLF := Lib.hid hlf
    have HP : Hid (0 < w.heap.size) := keys_pos hk
    clear hk hsrc hlf
    obtain ⟨S, hS⟩ : ∃ S, w.heap.size = S := ⟨_, rfl⟩
    have T0 : Hid (BA (w.alloc (Obj.cells (ba leaf) 32)) S 32 leaf) := by subst hS; exact heap_alloc_last w _
    have T1 : Hid (BA ((w.alloc (Obj.cells (ba leaf) 32)).alloc (Obj.cells (ba (zeros 8)) 32)) (S + 1) 32 (zeros 8)) := by
      show _ = _
      subst hS
      have := heap_alloc_last (w.alloc (Obj.cells (ba leaf) 32)) (Obj.cells (ba (zeros 8)) 32)
      simp only [World.size_alloc] at this
      exact this
    have T2 : Hid (BA ((w.alloc (Obj.cells (ba leaf) 32)).alloc (Obj.cells (ba (zeros 8)) 32)) S 32 leaf) := (Below.heap_alloc _ _ _ (lt_of_block T0.out)).trans T0.out
    have B0 : Hid (Below S w ((w.alloc (Obj.cells (ba leaf) 32)).alloc (Obj.cells (ba (zeros 8)) 32))) := by subst hS; exact ((Below.refl _ w).alloc (Nat.le_refl _) _).alloc (by simp) _
    have HS := Lib.hid hS
    have KW : Hid (∀ w', Below S w w' → Keys w') := fun w' hb => keys_below HK.out hb (by rw [← HS.out]; exact HP.out)
    have SW : Hid (∀ w', Below S w w' → Src w' A (8 * m) pr) := fun w' hb => HX.out.keep fun q hq => hb.block q (by rw [← HS.out]; exact hq)
    by_cases hn : n = 1
    · subst hn
      have HR : Hid (leadF (f + 1) leaf i 1 m pr = leafH leaf) := leadF_one f leaf i m pr
      have C := Lib.hid (p27 leaf _ (KW.out _ B0.out) HLF.out)
      clear T0
      go_enter Tryd.func44, Tryd.ntmps44
      go_wp2_with (first
        | (refine wpList_load_row rfl 32 (.tmp 4) rfl S rfl 32 (ba leaf) (0, 0) _ T2.out Tryd.underlying32 rfl (sz s27 (by rw [ba_size, HLF.out])) ?_)
        | (go_at_call 52
           refine C.out.mono ?_
           rintro e w1 ⟨rfl, hb⟩
           have T3 : Hid (BA w1 (S + 1) 32 (zeros 8)) := (hb.block _ (lt_of_block T1.out)).trans T1.out
           have B1 : Hid (Below S w w1) := B0.out.trans (hb.mono (Nat.le_of_lt (lt_of_block T2.out)))
           clear hb)
        | (refine wpList_store_rowTo rfl 32 (.tmp 8) (.tmp 15) rfl rfl (S + 1) (ba (leafH leaf)) rfl rfl 32 (ba (zeros 8)) T3.out (sz s27 (by rw [ba_size, leafH_len])) (by rw [ba_size, ba_size, leafH_len]; rfl) (ba_one _) ?_)
        | fail)
      refine bodyPost_ret (v := .agg (ba (leafH leaf))) (results_cell_row rfl _ _ (S + 1) 32 _ (0, 0) _ rfl (setRow_heap _ _ _ _ _ _ T3.out) Tryd.underlying32 rfl (sz s27 (by rw [ba_size, leafH_len]))) rfl ⟨by rw [HR.out], ?_⟩
      rw [HS.out]
      exact below_setRow B1.out (by omega) _
    · obtain ⟨c1, c2, c3⟩ := cutN_lo n (by omega) h64
      obtain ⟨q, hq⟩ : ∃ q, m = q + 1 := by
        by_cases h : i < cutN n
        · rw [stepsF_l f i n (by omega) h] at hm; exact ⟨_, hm⟩
        · rw [stepsF_r f i n (by omega) h] at hm; exact ⟨_, hm⟩
      subst hq
      obtain ⟨g, o, hA⟩ := src_at HX.out (by omega)
      subst hA
      have hol : (pr.drop (8 * q)).length = 8 := by rw [List.length_drop, HX.out.1]; omega
      obtain ⟨x0, x1, x2, x3, x4, x5, x6, x7, hx8⟩ := c8cells _ hol
      have HX8 := Lib.hid hx8
      obtain ⟨a0, a1, a2, a3, a4, a5, a6, a7, ha8⟩ := c8cells _ HLF.out
      have HA8 := Lib.hid ha8
      have hq64 : q < 65536 := by have := stepsF_le (f + 1) i n h64 (by omega); omega
      obtain ⟨m', hm'⟩ : ∃ m', q + 1 = m' := ⟨_, rfl⟩
      have SW0 := SW
      rw [hm'] at hcap hm
      rw [hm']
      have HM' := Lib.hid hm'
      have HM := Lib.hid hm
      have HBND : Hid (m' ≤ cap) := hcap
      have s1 := fun w => sl_front g o m' cap q w (by omega) (by omega)
      have CC := Lib.hid (fun w => p17 n w (by omega) h64)
      have e1 : (m' : Int) - 1 = (q : Int) := by omega
      have v0 : IntKind.i64.wrap (q : Int) = (q : Int) := by rw [IntKind.wrap_i64]; omega
      have q1 : ¬ (n : Int) = 1 := by omega
      have q2 : (q : Int) < (m' : Int) := by omega
      clear hx8 ha8 hol hm hcap hm' hq64
      go_enter Tryd.func44, Tryd.ntmps44
      go_wp2_with fail
      clear hS T0
      generalize (w.alloc (Obj.cells (ba leaf) 32)).alloc (Obj.cells (ba (zeros 8)) 32) = w0 at *
      obtain ⟨V, hV⟩ : ∃ V, w0.heap.size = V := ⟨_, rfl⟩
      have SV : Hid (S + 1 < V) := by show _ < _; rw [← hV]; exact lt_of_block T1.out
      have KX : Hid (∀ w', Below S w w' → w'.cell? ⟨g, o + q * 8, none⟩ = some (.int .u8 x0) ∧ w'.cell? ⟨g, o + q * 8 + 1, none⟩ = some (.int .u8 x1) ∧ w'.cell? ⟨g, o + q * 8 + 2, none⟩ = some (.int .u8 x2) ∧ w'.cell? ⟨g, o + q * 8 + 3, none⟩ = some (.int .u8 x3) ∧ w'.cell? ⟨g, o + q * 8 + 4, none⟩ = some (.int .u8 x4) ∧ w'.cell? ⟨g, o + q * 8 + 5, none⟩ = some (.int .u8 x5) ∧ w'.cell? ⟨g, o + q * 8 + 6, none⟩ = some (.int .u8 x6) ∧ w'.cell? ⟨g, o + q * 8 + 7, none⟩ = some (.int .u8 x7)) := fun w' hb => src_eight (SW0.out w' hb) x0 x1 x2 x3 x4 x5 x6 x7 HX8.out
      have Ba : Hid (Below S w (w0.drew.alloc (Obj.cells (ba (zeros 8)) 32))) := B0.out.drew.alloc (by show S ≤ w0.heap.size; rw [hV]; have := SV.out; omega) _
      have TV : Hid (BA (w0.drew.alloc (Obj.cells (ba (zeros 8)) 32)) V 32 (zeros 8)) := by subst hV; exact heap_alloc_last w0.drew _
      have Bp : Hid (Below S w (put8 (w0.drew.alloc (Obj.cells (ba (zeros 8)) 32)) V x0 x1 x2 x3 x4 x5 x6 x7)) := put8_below x0 x1 x2 x3 x4 x5 x6 x7 Ba.out (by have := SV.out; omega)
      have Bx : Hid (Below S w ((((((((((w0.drew.alloc (Obj.cells (ba (zeros 8)) 32)).setCell ⟨V, 0, none⟩ (.int .u8 x0)).setCell ⟨V, 1, none⟩ (.int .u8 x1)).setCell ⟨V, 2, none⟩ (.int .u8 x2)).setCell ⟨V, 3, none⟩ (.int .u8 x3)).setCell ⟨V, 4, none⟩ (.int .u8 x4)).setCell ⟨V, 5, none⟩ (.int .u8 x5)).setCell ⟨V, 6, none⟩ (.int .u8 x6)).setCell ⟨V, 7, none⟩ (.int .u8 x7)))) := Bp.out
      have TP : Hid (BA (put8 (w0.drew.alloc (Obj.cells (ba (zeros 8)) 32)) V x0 x1 x2 x3 x4 x5 x6 x7) V 32 [x0, x1, x2, x3, x4, x5, x6, x7]) := put8_ba x0 x1 x2 x3 x4 x5 x6 x7 TV.out
      clear h4
      obtain ⟨x0c, x1c, x2c, x3c, x4c, x5c, x6c, x7c⟩ := KX.out w0 B0.out
      have nn0 := World.new_ne w0 _ x0c
      have nn1 := World.new_ne w0 _ x1c
      have nn2 := World.new_ne w0 _ x2c
      have nn3 := World.new_ne w0 _ x3c
      have nn4 := World.new_ne w0 _ x4c
      have nn5 := World.new_ne w0 _ x5c
      have nn6 := World.new_ne w0 _ x6c
      have nn7 := World.new_ne w0 _ x7c
      go_region_held3 (fun w' => w'.cell? ⟨g, o + q * 8, none⟩ = some (.int .u8 x0) ∧ w'.cell? ⟨g, o + q * 8 + 1, none⟩ = some (.int .u8 x1) ∧ w'.cell? ⟨g, o + q * 8 + 2, none⟩ = some (.int .u8 x2) ∧ w'.cell? ⟨g, o + q * 8 + 3, none⟩ = some (.int .u8 x3) ∧ w'.cell? ⟨g, o + q * 8 + 4, none⟩ = some (.int .u8 x4) ∧ w'.cell? ⟨g, o + q * 8 + 5, none⟩ = some (.int .u8 x5) ∧ w'.cell? ⟨g, o + q * 8 + 6, none⟩ = some (.int .u8 x6) ∧ w'.cell? ⟨g, o + q * 8 + 7, none⟩ = some (.int .u8 x7)) (go_keep)
        (first | fail)
      rename_i hHeld
      clear hHeld nn0 nn1 nn2 nn3 nn4 nn5 nn6 nn7 x0c x1c x2c x3c x4c x5c x6c x7c
      have HV := Lib.hid hV
      generalize hq : (w0.alloc (Obj.cells #[.int .u8 x0, .int .u8 x1, .int .u8 x2, .int .u8 x3, .int .u8 x4, .int .u8 x5, .int .u8 x6, .int .u8 x7] 32)).drew = w2
      have B2 : Hid (Below S w w2) := by rw [← hq]; exact (B0.out.alloc (by rw [HV.out]; have := SV.out; omega) _).drew
      have L0 : Hid (S + 1 < w0.heap.size) := lt_of_block T1.out
      have U0 : Hid (BA w2 S 32 [a0, a1, a2, a3, a4, a5, a6, a7]) := by rw [← HA8.out, ← hq]; exact (Below.heap_alloc w0 _ S (by have := L0.out; omega)).trans T2.out
      have U1 : Hid (BA w2 (S + 1) 32 (zeros 8)) := by rw [← hq]; exact (Below.heap_alloc w0 _ (S + 1) L0.out).trans T1.out
      have UV : Hid (BA w2 V 32 [x0, x1, x2, x3, x4, x5, x6, x7]) := by rw [← hq, ← HV.out]; show (w0.alloc (Obj.cells #[.int .u8 x0, .int .u8 x1, .int .u8 x2, .int .u8 x3, .int .u8 x4, .int .u8 x5, .int .u8 x6, .int .u8 x7] 32)).heap[w0.heap.size]? = some (Obj.cells (ba [x0, x1, x2, x3, x4, x5, x6, x7]) 32 (0, 0)); rw [ba_lit]; exact heap_alloc_last w0 _
      clear hq hV HV L0 T1 T2 B0 Ba TV Bp Bx TP
      obtain ⟨k, hk⟩ : ∃ k, cutN n = k := ⟨_, rfl⟩
      rw [hk] at c1 c2 c3 CC
      have HKK := Lib.hid hk
      have LV : Hid (V < w2.heap.size) := lt_of_block UV.out
      have KF : Hid (∀ w', Below w2.heap.size w2 w' → (w'.cell? ⟨S, 0, none⟩ = some (.int .u8 a0) ∧ w'.cell? ⟨S, 1, none⟩ = some (.int .u8 a1) ∧ w'.cell? ⟨S, 2, none⟩ = some (.int .u8 a2) ∧ w'.cell? ⟨S, 3, none⟩ = some (.int .u8 a3) ∧ w'.cell? ⟨S, 4, none⟩ = some (.int .u8 a4) ∧ w'.cell? ⟨S, 5, none⟩ = some (.int .u8 a5) ∧ w'.cell? ⟨S, 6, none⟩ = some (.int .u8 a6) ∧ w'.cell? ⟨S, 7, none⟩ = some (.int .u8 a7)) ∧ (w'.cell? ⟨V, 0, none⟩ = some (.int .u8 x0) ∧ w'.cell? ⟨V, 1, none⟩ = some (.int .u8 x1) ∧ w'.cell? ⟨V, 2, none⟩ = some (.int .u8 x2) ∧ w'.cell? ⟨V, 3, none⟩ = some (.int .u8 x3) ∧ w'.cell? ⟨V, 4, none⟩ = some (.int .u8 x4) ∧ w'.cell? ⟨V, 5, none⟩ = some (.int .u8 x5) ∧ w'.cell? ⟨V, 6, none⟩ = some (.int .u8 x6) ∧ w'.cell? ⟨V, 7, none⟩ = some (.int .u8 x7))) := fun w' hb => ⟨cells8 (t := 32) a0 a1 a2 a3 a4 a5 a6 a7 ((hb.block S (by have := LV.out; have := SV.out; omega)).trans U0.out), cells8 (t := 32) x0 x1 x2 x3 x4 x5 x6 x7 ((hb.block V LV.out).trans UV.out)⟩
      have X0 : Hid (Below w2.heap.size w2 w2) := Below.refl _ _
      have BB : Hid (∀ w', Below w2.heap.size w2 w' → Below S w w') := fun w' hb => B2.out.trans (hb.mono (by have := LV.out; have := SV.out; omega))
      have Z1 : Hid (∀ w', Below w2.heap.size w2 w' → BA w' (S + 1) 32 (zeros 8)) := fun w' hb => (hb.block (S + 1) (by have := LV.out; have := SV.out; omega)).trans U1.out
      by_cases hlt : i < k
      · have hst : q = stepsF f i k := by
          have := HM.out
          rw [← HM'.out, stepsF_l f i n (by omega) (by rw [HKK.out]; exact hlt), HKK.out] at this
          omega
        have HR : Hid (leadF (f + 1) leaf i n m' pr = twoH (leadF f leaf i k q (pr.take (8 * q))) (pr.drop (8 * q))) := by
          show _ = _
          rw [← HM'.out, leadF_l f leaf i n q pr (by omega) (by rw [HKK.out]; exact hlt), HKK.out]
        have E1 : Hid (∀ w', Below w2.heap.size w2 w' → Calls Tryd.prog 44 #[.agg #[.int .u8 a0, .int .u8 a1, .int .u8 a2, .int .u8 a3, .int .u8 a4, .int .u8 a5, .int .u8 a6, .int .u8 a7], .int .i64 i, .int .i64 k, .slice (some ⟨g, o, none⟩) q cap] w' fun e w'' => e = .returned (.agg (ba (leadF f leaf i k q (pr.take (8 * q))))) ∧ Below w'.heap.size w' w'') := fun w' hb => by
          have := p22 f leaf i k q cap _ _ w' (KW.out w' (BB.out w' hb)) HLF.out (src_take (SW0.out w' (BB.out w' hb)) q (by omega)) hlt (by omega) (by omega) hst (by have := HM'.out; have := HBND.out; omega)
          rw [HA8.out, ba_lit] at this
          rw [HA8.out]
          exact this
        have hr1 := leadF_len f leaf i k q (pr.take (8 * q))
        have HT : Hid ((twoH (leadF f leaf i k q (pr.take (8 * q))) (pr.drop (8 * q))).length = 8) := twoH_len _ _
        obtain ⟨y0, y1, y2, y3, y4, y5, y6, y7, hy8⟩ := c8cells _ HT.out
        have HY8 := Lib.hid hy8
        have E3 : Hid (∀ w', Below w2.heap.size w2 w' → Calls Tryd.prog 53 #[.int .u8 109, .agg (ba (leadF f leaf i k q (pr.take (8 * q)))), .agg #[.int .u8 x0, .int .u8 x1, .int .u8 x2, .int .u8 x3, .int .u8 x4, .int .u8 x5, .int .u8 x6, .int .u8 x7]] w' fun e w'' => e = .returned (.agg #[.int .u8 y0, .int .u8 y1, .int .u8 y2, .int .u8 y3, .int .u8 y4, .int .u8 y5, .int .u8 y6, .int .u8 y7]) ∧ Below w'.heap.size w' w'') := fun w' hb => by
          have := two28 (leadF f leaf i k q (pr.take (8 * q))) (pr.drop (8 * q)) w' (KW.out w' (BB.out w' hb)) hr1 (by rw [HX8.out]; rfl)
          rw [HY8.out, HX8.out, ba_lit, ba_lit] at this
          exact this
        generalize leadF f leaf i k q (pr.take (8 * q)) = ra at *
        have q3 : (i : Int) < (k : Int) := by omega
        obtain ⟨⟨u0, u1, u2, u3, u4, u5, u6, u7⟩, ⟨t0, t1, t2, t3, t4, t5, t6, t7⟩⟩ := KF.out w2 X0.out
        have ne1 : S + 1 ≠ V := by have := SV.out; omega
        have ne2 : V ≠ S + 1 := by have := SV.out; omega
        have ne3 : S ≠ S + 1 := by omega
        have ne4 : S + 1 ≠ S := by omega
        clear hy8 hr1 hst hlt c1 c2 c3 hk hi hf h64 e1 v0 q2 s1 hn
        go_wp2_with (go_at_call 51; refine (CC.out _).mono ?_; rintro e w1 ⟨rfl, rfl⟩)
        go_region_held3 (fun w' => (w'.cell? ⟨S, 0, none⟩ = some (.int .u8 a0) ∧ w'.cell? ⟨S, 1, none⟩ = some (.int .u8 a1) ∧ w'.cell? ⟨S, 2, none⟩ = some (.int .u8 a2) ∧ w'.cell? ⟨S, 3, none⟩ = some (.int .u8 a3) ∧ w'.cell? ⟨S, 4, none⟩ = some (.int .u8 a4) ∧ w'.cell? ⟨S, 5, none⟩ = some (.int .u8 a5) ∧ w'.cell? ⟨S, 6, none⟩ = some (.int .u8 a6) ∧ w'.cell? ⟨S, 7, none⟩ = some (.int .u8 a7)) ∧ (w'.cell? ⟨V, 0, none⟩ = some (.int .u8 x0) ∧ w'.cell? ⟨V, 1, none⟩ = some (.int .u8 x1) ∧ w'.cell? ⟨V, 2, none⟩ = some (.int .u8 x2) ∧ w'.cell? ⟨V, 3, none⟩ = some (.int .u8 x3) ∧ w'.cell? ⟨V, 4, none⟩ = some (.int .u8 x4) ∧ w'.cell? ⟨V, 5, none⟩ = some (.int .u8 x5) ∧ w'.cell? ⟨V, 6, none⟩ = some (.int .u8 x6) ∧ w'.cell? ⟨V, 7, none⟩ = some (.int .u8 x7))) (first | (with_reducible exact KKb.out) | (with_reducible exact KKa.out) | go_keep)
          (first
            | (go_at_call 44; refine (E1.out _ (by first | exact X0.out | exact X0.out.drew)).mono ?_; rintro e wa ⟨rfl, hba⟩; have Xa : Hid (Below w1.heap.size w1 wa) := (by first | exact X0.out.trans (hba.mono X0.out.size) | exact X0.out.drew.trans (hba.mono X0.out.drew.size)); have KKa := Lib.hid (KF.out wa Xa.out); clear hba E1)
            | (go_at_call 53; refine (E3.out _ (by first | exact Xa.out | exact Xa.out.drew)).mono ?_; rintro e wz ⟨rfl, hbz⟩; have Xz : Hid (Below w1.heap.size w1 wz) := (by first | exact Xa.out.trans (hbz.mono Xa.out.size) | exact Xa.out.drew.trans (hbz.mono Xa.out.drew.size)); have KKb := Lib.hid (KF.out wz Xz.out); have Tz := Lib.hid (Z1.out wz Xz.out); obtain ⟨z0, z1, z2, z3, z4, z5, z6, z7⟩ := cells8 (t := 32) 0 0 0 0 0 0 0 0 Tz.out; have f0 := free_of Tz.out; clear hbz))
        rename_i hHeld
        clear hHeld z0 z1 z2 z3 z4 z5 z6 z7 f0
        have RF : Hid ((put8 wz (S + 1) y0 y1 y2 y3 y4 y5 y6 y7).heap[S + 1]? = some (.cells #[.int .u8 y0, .int .u8 y1, .int .u8 y2, .int .u8 y3, .int .u8 y4, .int .u8 y5, .int .u8 y6, .int .u8 y7] 32 (0, 0))) := by rw [← ba_lit]; exact put8_ba y0 y1 y2 y3 y4 y5 y6 y7 Tz.out
        have BF : Hid (Below S w (put8 wz (S + 1) y0 y1 y2 y3 y4 y5 y6 y7)) := put8_below y0 y1 y2 y3 y4 y5 y6 y7 (BB.out _ Xz.out) (by omega)
        change Exit.then _ _ Exit.normal _ (put8 wz (S + 1) y0 y1 y2 y3 y4 y5 y6 y7)
        generalize put8 wz (S + 1) y0 y1 y2 y3 y4 y5 y6 y7 = wf at *
        go_wp2
        refine bodyPost_ret (v := .agg #[.int .u8 y0, .int .u8 y1, .int .u8 y2, .int .u8 y3, .int .u8 y4, .int .u8 y5, .int .u8 y6, .int .u8 y7]) (results_cell_row rfl _ _ (S + 1) 32 #[.int .u8 y0, .int .u8 y1, .int .u8 y2, .int .u8 y3, .int .u8 y4, .int .u8 y5, .int .u8 y6, .int .u8 y7] (0, 0) _ rfl RF.out Tryd.underlying32 rfl (sz s27 rfl)) rfl ⟨by rw [HR.out, HY8.out, ba_lit], ?_⟩
        rw [HS.out]
        exact BF.out
      · have hst : q = stepsF f (i - k) (n - k) := by
          have := HM.out
          rw [← HM'.out, stepsF_r f i n (by omega) (by rw [HKK.out]; exact hlt), HKK.out] at this
          omega
        have HR : Hid (leadF (f + 1) leaf i n m' pr = twoH (pr.drop (8 * q)) (leadF f leaf (i - k) (n - k) q (pr.take (8 * q)))) := by
          show _ = _
          rw [← HM'.out, leadF_r f leaf i n q pr (by omega) (by rw [HKK.out]; exact hlt), HKK.out]
        obtain ⟨i2, hi2⟩ : ∃ z, i - k = z := ⟨_, rfl⟩
        obtain ⟨n2, hn2⟩ : ∃ z, n - k = z := ⟨_, rfl⟩
        have e5 : (i : Int) - (k : Int) = (i2 : Int) := by omega
        have e6 : (n : Int) - (k : Int) = (n2 : Int) := by omega
        have v5 : IntKind.i64.wrap (i2 : Int) = (i2 : Int) := by rw [IntKind.wrap_i64]; omega
        have v6 : IntKind.i64.wrap (n2 : Int) = (n2 : Int) := by rw [IntKind.wrap_i64]; omega
        have E1 : Hid (∀ w', Below w2.heap.size w2 w' → Calls Tryd.prog 44 #[.agg #[.int .u8 a0, .int .u8 a1, .int .u8 a2, .int .u8 a3, .int .u8 a4, .int .u8 a5, .int .u8 a6, .int .u8 a7], .int .i64 i2, .int .i64 n2, .slice (some ⟨g, o, none⟩) q cap] w' fun e w'' => e = .returned (.agg (ba (leadF f leaf (i - k) (n - k) q (pr.take (8 * q))))) ∧ Below w'.heap.size w' w'') := fun w' hb => by
          have := p22 f leaf (i - k) (n - k) q cap _ _ w' (KW.out w' (BB.out w' hb)) HLF.out (src_take (SW0.out w' (BB.out w' hb)) q (by omega)) (by omega) (by omega) (by omega) hst (by have := HM'.out; have := HBND.out; omega)
          rw [HA8.out, ba_lit, hi2, hn2] at this
          rw [HA8.out, hi2, hn2]
          exact this
        have hr1 := leadF_len f leaf (i - k) (n - k) q (pr.take (8 * q))
        have HT : Hid ((twoH (pr.drop (8 * q)) (leadF f leaf (i - k) (n - k) q (pr.take (8 * q)))).length = 8) := twoH_len _ _
        obtain ⟨y0, y1, y2, y3, y4, y5, y6, y7, hy8⟩ := c8cells _ HT.out
        have HY8 := Lib.hid hy8
        have E3 : Hid (∀ w', Below w2.heap.size w2 w' → Calls Tryd.prog 53 #[.int .u8 109, .agg #[.int .u8 x0, .int .u8 x1, .int .u8 x2, .int .u8 x3, .int .u8 x4, .int .u8 x5, .int .u8 x6, .int .u8 x7], .agg (ba (leadF f leaf (i - k) (n - k) q (pr.take (8 * q))))] w' fun e w'' => e = .returned (.agg #[.int .u8 y0, .int .u8 y1, .int .u8 y2, .int .u8 y3, .int .u8 y4, .int .u8 y5, .int .u8 y6, .int .u8 y7]) ∧ Below w'.heap.size w' w'') := fun w' hb => by
          have := two28 (pr.drop (8 * q)) (leadF f leaf (i - k) (n - k) q (pr.take (8 * q))) w' (KW.out w' (BB.out w' hb)) (by rw [HX8.out]; rfl) hr1
          rw [HY8.out, HX8.out, ba_lit, ba_lit] at this
          exact this
        generalize leadF f leaf (i - k) (n - k) q (pr.take (8 * q)) = ra at *
        have q3 : ¬ (i : Int) < (k : Int) := by omega
        obtain ⟨⟨u0, u1, u2, u3, u4, u5, u6, u7⟩, ⟨t0, t1, t2, t3, t4, t5, t6, t7⟩⟩ := KF.out w2 X0.out
        have ne1 : S + 1 ≠ V := by have := SV.out; omega
        have ne2 : V ≠ S + 1 := by have := SV.out; omega
        have ne3 : S ≠ S + 1 := by omega
        have ne4 : S + 1 ≠ S := by omega
        clear hi2 hn2 hy8 hr1 hst hlt c1 c2 c3 hk hi hf h64 e1 v0 q2 s1 hn
        go_wp2_with (go_at_call 51; refine (CC.out _).mono ?_; rintro e w1 ⟨rfl, rfl⟩)
        go_region_held3 (fun w' => (w'.cell? ⟨S, 0, none⟩ = some (.int .u8 a0) ∧ w'.cell? ⟨S, 1, none⟩ = some (.int .u8 a1) ∧ w'.cell? ⟨S, 2, none⟩ = some (.int .u8 a2) ∧ w'.cell? ⟨S, 3, none⟩ = some (.int .u8 a3) ∧ w'.cell? ⟨S, 4, none⟩ = some (.int .u8 a4) ∧ w'.cell? ⟨S, 5, none⟩ = some (.int .u8 a5) ∧ w'.cell? ⟨S, 6, none⟩ = some (.int .u8 a6) ∧ w'.cell? ⟨S, 7, none⟩ = some (.int .u8 a7)) ∧ (w'.cell? ⟨V, 0, none⟩ = some (.int .u8 x0) ∧ w'.cell? ⟨V, 1, none⟩ = some (.int .u8 x1) ∧ w'.cell? ⟨V, 2, none⟩ = some (.int .u8 x2) ∧ w'.cell? ⟨V, 3, none⟩ = some (.int .u8 x3) ∧ w'.cell? ⟨V, 4, none⟩ = some (.int .u8 x4) ∧ w'.cell? ⟨V, 5, none⟩ = some (.int .u8 x5) ∧ w'.cell? ⟨V, 6, none⟩ = some (.int .u8 x6) ∧ w'.cell? ⟨V, 7, none⟩ = some (.int .u8 x7))) (first | (with_reducible exact KKb.out) | (with_reducible exact KKa.out) | go_keep)
          (first
            | (go_at_call 44; refine (E1.out _ (by first | exact X0.out | exact X0.out.drew)).mono ?_; rintro e wa ⟨rfl, hba⟩; have Xa : Hid (Below w1.heap.size w1 wa) := (by first | exact X0.out.trans (hba.mono X0.out.size) | exact X0.out.drew.trans (hba.mono X0.out.drew.size)); have KKa := Lib.hid (KF.out wa Xa.out); clear hba E1)
            | (go_at_call 53; refine (E3.out _ (by first | exact Xa.out | exact Xa.out.drew)).mono ?_; rintro e wz ⟨rfl, hbz⟩; have Xz : Hid (Below w1.heap.size w1 wz) := (by first | exact Xa.out.trans (hbz.mono Xa.out.size) | exact Xa.out.drew.trans (hbz.mono Xa.out.drew.size)); have KKb := Lib.hid (KF.out wz Xz.out); have Tz := Lib.hid (Z1.out wz Xz.out); obtain ⟨z0, z1, z2, z3, z4, z5, z6, z7⟩ := cells8 (t := 32) 0 0 0 0 0 0 0 0 Tz.out; have f0 := free_of Tz.out; clear hbz))
        rename_i hHeld
        clear hHeld z0 z1 z2 z3 z4 z5 z6 z7 f0
        have RF : Hid ((put8 wz (S + 1) y0 y1 y2 y3 y4 y5 y6 y7).heap[S + 1]? = some (.cells #[.int .u8 y0, .int .u8 y1, .int .u8 y2, .int .u8 y3, .int .u8 y4, .int .u8 y5, .int .u8 y6, .int .u8 y7] 32 (0, 0))) := by rw [← ba_lit]; exact put8_ba y0 y1 y2 y3 y4 y5 y6 y7 Tz.out
        have BF : Hid (Below S w (put8 wz (S + 1) y0 y1 y2 y3 y4 y5 y6 y7)) := put8_below y0 y1 y2 y3 y4 y5 y6 y7 (BB.out _ Xz.out) (by omega)
        change Exit.then _ _ Exit.normal _ (put8 wz (S + 1) y0 y1 y2 y3 y4 y5 y6 y7)
        generalize put8 wz (S + 1) y0 y1 y2 y3 y4 y5 y6 y7 = wf at *
        go_wp2
        refine bodyPost_ret (v := .agg #[.int .u8 y0, .int .u8 y1, .int .u8 y2, .int .u8 y3, .int .u8 y4, .int .u8 y5, .int .u8 y6, .int .u8 y7]) (results_cell_row rfl _ _ (S + 1) 32 #[.int .u8 y0, .int .u8 y1, .int .u8 y2, .int .u8 y3, .int .u8 y4, .int .u8 y5, .int .u8 y6, .int .u8 y7] (0, 0) _ rfl RF.out Tryd.underlying32 rfl (sz s27 rfl)) rfl ⟨by rw [HR.out, HY8.out, ba_lit], ?_⟩
        rw [HS.out]
        exact BF.out
end Go.Proofs.YtfneopmgckejdaaDoor
