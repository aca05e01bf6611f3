/-
  The root of a row: the program's.
-/
import Derived.Test.YthdejiadokpafaaDoorM2
import Derived.Deep.MidRow
namespace Go.Proofs.YthdejiadokpafaaDoor
open Go.RowKit
theorem src_range {w : World} {g o : Nat} {l : List Int} (h : Src w (some ⟨g, o, none⟩) (8 * 1) l) : w.rangeAt g o (bvals l) := by
  intro j v hj
  obtain ⟨hl, h2⟩ := h
  rcases h2 with h2 | ⟨g', o', h3, hc⟩
  · omega
  · cases h3
    simp only [bvals, List.getElem?_map, Option.map_eq_some_iff] at hj
    obtain ⟨z, hz, rfl⟩ := hj
    have hlt : j < l.length := (List.getElem?_eq_some_iff.1 hz).1
    rw [hc j (by omega)]
    simp [List.getD, hz]
theorem src_at {w : World} {A : Option Addr} {n : Nat} {l : List Int} (h : Src w A (8 * n) l) (hn : 1 ≤ n) : ∃ g o, A = some ⟨g, o, none⟩ := by
  rcases h.2 with h2 | ⟨g, o, h3, _⟩
  · omega
  · exact ⟨g, o, h3⟩
theorem sl_front (g o n cap k : Nat) (w : World) (hk : k ≤ cap) (h0 : 1 ≤ cap) : (Instr.slice 22 (.slice (some ⟨g, o, none⟩) n cap) none (some (.int .i64 k)) none).run Tryd.prog w = .ok (.slice (some ⟨g, o, none⟩) k cap) w := by
  rw [run_slice_h w 22 _ n cap Tryd.underlying22 .i64 k (by omega) (by omega)]
  have hs : (sizeOf (Tryd.prog.elem 22)).run Tryd.prog w = .ok 8 w := Tryd.sizeOf27 w
  rw [hs]
  simp only [Result.andThen, sliced, Int.toNat_natCast, Nat.sub_zero]
  rw [if_neg (by omega)]
  simp [Addr.add]
theorem sl_back (g o n cap k : Nat) (w : World) (hk : k ≤ n) (h0 : k < cap) : (Instr.slice 22 (.slice (some ⟨g, o, none⟩) n cap) (some (.int .i64 k)) none none).run Tryd.prog w = .ok (.slice (some ⟨g, o + k * 8, none⟩) (n - k) (cap - k)) w := by
  rw [run_slice_l w 22 _ n cap Tryd.underlying22 .i64 k (by omega) (by omega)]
  have hs : (sizeOf (Tryd.prog.elem 22)).run Tryd.prog w = .ok 8 w := Tryd.sizeOf27 w
  rw [hs]
  simp only [Result.andThen, sliced, Int.toNat_natCast]
  rw [if_neg (by omega)]
  simp [Addr.add]
theorem load8 {ops : Array Oper} {rest : List Oper} {op : Oper} {a : Act} {w : World} {Q : Exit → Act → World → Prop} (hgd : op.guard = none) (x : Operand) (ho : op.op = .load 27 x)
    (b o : Nat) (hx : a.eval x = .pointer (some ⟨b, o, none⟩)) (l : List Int) (hl : l.length = 8) (hc : w.rangeAt b o (bvals l))
    (h : wpList Tryd.prog ops Q rest (a.put op.dst (.agg (ba l))) w) : wpList Tryd.prog ops Q (op :: rest) a w :=
  wpList_load_mid hgd 27 x ho b o hx (bvals l) _ hc Tryd.underlying27 rfl (by rw [show (bvals l).length = 8 by simp [bvals, hl]]; exact s27) h
theorem leafH_len (x : List Int) : (leafH x).length = 8 := take8_len _
theorem twoH_len (x y : List Int) : (twoH x y).length = 8 := take8_len _
theorem two28 (x y : List Int) (w : World) (hk : Keys w) (hx : x.length = 8) (hy : y.length = 8) : Calls Tryd.prog 28 #[.int .u8 109, .agg (ba x), .agg (ba y)] w fun e w' => e = .returned (.agg (ba (twoH x y))) ∧ Below w.heap.size w w' := c14 109 x y w hk hx hy
attribute [local irreducible] ua da ba kk sw S8.run rt hs comp splice outB sha msg rootF leafH twoH
set_option maxRecDepth 100000 in
set_option maxHeartbeats 4000000 in
theorem p18 : ∀ (f : Nat) (A : Option Addr) (n cap : Nat) (l : List Int) (w : World), Keys w → Src w A (8 * n) l → 1 ≤ n → n ≤ f → n ≤ 65536 → n ≤ cap → cap ≤ 9223372036854775807 →
    Calls Tryd.prog 18 #[.slice A n cap] w fun e w' => e = .returned (.agg (ba (rootF f l))) ∧ Below w.heap.size w w'
  | 0, _, _, _, _, _, _, _, h1, h2, _, _, _ => by omega
  | f + 1, A, n, cap, l, w, hk, hsrc, h1, hf, h64, hcap, hmax => by
    have h4 := z27
    have HK := Lib.hid hk
    have HX := Lib.hid hsrc
    have HP : Hid (0 < w.heap.size) := keys_pos hk
    clear hk hsrc
    obtain ⟨S, hS⟩ : ∃ S, w.heap.size = S := ⟨_, rfl⟩
    have T0 : Hid (BA (w.alloc (Obj.cells (ba (zeros 8)) 27)) S 27 (zeros 8)) := by subst hS; exact heap_alloc_last w _
    have B0 : Hid (Below S w (w.alloc (Obj.cells (ba (zeros 8)) 27))) := by subst hS; exact (Below.refl _ w).alloc (Nat.le_refl _) _
    have HS := Lib.hid hS
    have KW : Hid (∀ w', Below S w w' → Keys w') := fun w' hb => keys_below HK.out hb (by rw [← HS.out]; exact HP.out)
    have SW : Hid (∀ w', Below S w w' → Src w' A (8 * n) l) := fun w' hb => HX.out.keep fun q hq => hb.block q (by rw [← HS.out]; exact hq)
    obtain ⟨g, o, hA⟩ := src_at HX.out h1
    subst hA
    by_cases hn : n = 1
    · subst hn
      have HR : Hid (rootF (f + 1) l = leafH l) := rootF_one f l HX.out.1
      have HL : Hid (l.length = 8) := HX.out.1
      have RG : Hid ((w.alloc (Obj.cells (ba (zeros 8)) 27)).rangeAt g o (bvals l)) := src_range (SW.out _ B0.out)
      have C := Lib.hid (p27 l (w.alloc (Obj.cells (ba (zeros 8)) 27)) (KW.out _ B0.out) HL.out)
      have q0 : (0 : Int) < ((1 : Nat) : Int) := by omega
      go_enter Tryd.func18, Tryd.ntmps18
      go_wp2_with (first
        | (refine load8 rfl (.tmp 8) rfl g o rfl l HL.out RG.out ?_)
        | (go_at_call 27
           refine C.out.mono ?_
           rintro e w1 ⟨rfl, hb⟩
           have T1 : Hid (BA w1 S 27 (zeros 8)) := (hb.block S (lt_of_block T0.out)).trans T0.out
           have B1 : Hid (Below S w w1) := B0.out.trans (hb.mono (Nat.le_of_lt (lt_of_block T0.out)))
           clear hb)
        | (refine wpList_store_rowTo rfl 27 (.tmp 2) (.tmp 10) rfl rfl S (ba (leafH l)) rfl rfl 27 (ba (zeros 8)) T1.out (sz s27 (by rw [ba_size, leafH_len])) (by rw [ba_size, ba_size, leafH_len]; rfl) (ba_one _) ?_)
        | fail)
      refine bodyPost_ret (v := .agg (ba (leafH l))) (results_cell_row rfl _ _ S 27 _ (0, 0) _ rfl (setRow_heap _ _ _ _ _ _ T1.out) Tryd.underlying27 rfl (sz s27 (by rw [ba_size, leafH_len]))) rfl ⟨by rw [HR.out], ?_⟩
      rw [HS.out]
      exact below_setRow B1.out (Nat.le_refl _) _
    · have hl := HX.out.1
      have HR : Hid (rootF (f + 1) l = twoH (rootF f (l.take (8 * cutN n))) (rootF f (l.drop (8 * cutN n)))) := rootF_two f l n hl (by omega)
      obtain ⟨c1, c2, c3⟩ := cutN_lo n (by omega) h64
      have CC := Lib.hid (p17 n (w.alloc (Obj.cells (ba (zeros 8)) 27)) (by omega) h64)
      obtain ⟨k, hk⟩ : ∃ k, cutN n = k := ⟨_, rfl⟩
      rw [hk] at c1 c2 c3 HR CC
      have E1 : Hid (∀ w', Below S w w' → Calls Tryd.prog 18 #[.slice (some ⟨g, o, none⟩) k cap] w' fun e w'' => e = .returned (.agg (ba (rootF f (l.take (8 * k))))) ∧ Below w'.heap.size w' w'') := fun w' hb => p18 f _ k cap _ w' (KW.out w' hb) (src_take (SW.out w' hb) k (by omega)) c1 (by omega) (by omega) (by omega) hmax
      have E2 : Hid (∀ w', Below S w w' → Calls Tryd.prog 18 #[.slice (some ⟨g, o + k * 8, none⟩) (n - k) (cap - k)] w' fun e w'' => e = .returned (.agg (ba (rootF f (l.drop (8 * k))))) ∧ Below w'.heap.size w' w'') := fun w' hb => p18 f _ (n - k) (cap - k) _ w' (KW.out w' hb) (src_drop (SW.out w' hb) k c2) (by omega) (by omega) (by omega) (by omega) (by omega)
      have r1 := rootF_len f (l.take (8 * k))
      have r2 := rootF_len f (l.drop (8 * k))
      have E3 : Hid (∀ w', Below S w w' → Calls Tryd.prog 28 #[.int .u8 109, .agg (ba (rootF f (l.take (8 * k)))), .agg (ba (rootF f (l.drop (8 * k))))] w' fun e w'' => e = .returned (.agg (ba (twoH (rootF f (l.take (8 * k))) (rootF f (l.drop (8 * k)))))) ∧ Below w'.heap.size w' w'') := fun w' hb => two28 _ _ w' (KW.out w' hb) r1 r2
      have s1 := fun w => sl_front g o n cap k w (by omega) (by omega)
      have s2 := fun w => sl_back g o n cap k w (by omega) (by omega)
      have HT : Hid ((twoH (rootF f (l.take (8 * k))) (rootF f (l.drop (8 * k)))).length = 8) := twoH_len _ _
      obtain ⟨x0, x1, x2, x3, x4, x5, x6, x7, hx8⟩ := c8cells _ HT.out
      have HX8 := Lib.hid hx8
      generalize rootF f (l.take (8 * k)) = ra at *
      generalize rootF f (l.drop (8 * k)) = rb at *
      have E3b : Hid (∀ w', Below S w w' → Calls Tryd.prog 28 #[.int .u8 109, .agg (ba ra), .agg (ba rb)] w' fun e w'' => e = .returned (.agg #[.int .u8 x0, .int .u8 x1, .int .u8 x2, .int .u8 x3, .int .u8 x4, .int .u8 x5, .int .u8 x6, .int .u8 x7]) ∧ Below w'.heap.size w' w'') := fun w' hb => by
        have := E3.out w' hb
        rw [HX8.out, ba_lit] at this
        exact this
      have q1 : ¬ (n : Int) = 1 := by omega
      have W0 : Hid ((w.alloc (Obj.cells (ba (zeros 8)) 27)).heap.size = S + 1) := by show _ = _; rw [← HS.out]; exact World.size_alloc _ _
      clear r1 r2 hx8 E3 c1 c2 c3 hcap hmax h64 hf h1 hl hk hn
      go_enter Tryd.func18, Tryd.ntmps18
      go_wp2_with (go_at_call 17; refine CC.out.mono ?_; rintro e w1 ⟨rfl, rfl⟩)
      clear hS
      generalize w.alloc (Obj.cells (ba (zeros 8)) 27) = w0 at *
      go_region_held3 (fun _ => True) (exact trivial)
        (first
          | (go_at_call 18; refine (E1.out _ (by first | exact B0.out | exact B0.out.drew)).mono ?_; rintro e wa ⟨rfl, hba⟩; have Ba : Hid (Below S w wa) := (by first | exact B0.out.trans (hba.mono (by rw [W0.out]; omega)) | exact B0.out.drew.trans (hba.mono (by have := W0.out; simp; omega))); have Ta : Hid (BA wa S 27 (zeros 8)) := (hba.block S (by have := W0.out; simp; omega)).trans T0.out; clear hba E1)
          | (go_at_call 18; refine (E2.out _ (by first | exact Ba.out | exact Ba.out.drew)).mono ?_; rintro e wb ⟨rfl, hbb⟩; have Bb : Hid (Below S w wb) := (by first | exact Ba.out.trans (hbb.mono (Nat.le_of_lt (lt_of_block Ta.out))) | exact Ba.out.drew.trans (hbb.mono (by have := lt_of_block Ta.out; simp; omega))); have Tb : Hid (BA wb S 27 (zeros 8)) := (hbb.block S (by have := lt_of_block Ta.out; simp; omega)).trans Ta.out; clear hbb E2)
          | (go_at_call 28; refine (E3b.out _ (by first | exact Bb.out | exact Bb.out.drew)).mono ?_; rintro e wz ⟨rfl, hbz⟩; have Bz : Hid (Below S w wz) := (by first | exact Bb.out.trans (hbz.mono (Nat.le_of_lt (lt_of_block Tb.out))) | exact Bb.out.drew.trans (hbz.mono (by have := lt_of_block Tb.out; simp; omega))); have Tz : Hid (BA wz S 27 (zeros 8)) := (hbz.block S (by have := lt_of_block Tb.out; simp; omega)).trans Tb.out; obtain ⟨z0, z1, z2, z3, z4, z5, z6, z7⟩ := cells8 (t := 27) 0 0 0 0 0 0 0 0 Tz.out; have f0 := free_of Tz.out; clear hbz))
      rename_i hHeld
      clear hHeld z0 z1 z2 z3 z4 z5 z6 z7 f0
      have RF : Hid ((put8 wz S x0 x1 x2 x3 x4 x5 x6 x7).heap[S]? = some (.cells #[.int .u8 x0, .int .u8 x1, .int .u8 x2, .int .u8 x3, .int .u8 x4, .int .u8 x5, .int .u8 x6, .int .u8 x7] 27 (0, 0))) := by rw [← ba_lit]; exact put8_ba x0 x1 x2 x3 x4 x5 x6 x7 Tz.out
      have BF : Hid (Below S w (put8 wz S x0 x1 x2 x3 x4 x5 x6 x7)) := put8_below x0 x1 x2 x3 x4 x5 x6 x7 Bz.out (Nat.le_refl _)
      change Exit.then _ _ Exit.normal _ (put8 wz S x0 x1 x2 x3 x4 x5 x6 x7)
      generalize put8 wz S x0 x1 x2 x3 x4 x5 x6 x7 = wf at *
      go_wp2
      refine bodyPost_ret (v := .agg #[.int .u8 x0, .int .u8 x1, .int .u8 x2, .int .u8 x3, .int .u8 x4, .int .u8 x5, .int .u8 x6, .int .u8 x7]) (results_cell_row rfl _ _ S 27 #[.int .u8 x0, .int .u8 x1, .int .u8 x2, .int .u8 x3, .int .u8 x4, .int .u8 x5, .int .u8 x6, .int .u8 x7] (0, 0) _ rfl RF.out Tryd.underlying27 rfl (sz s27 rfl)) rfl ⟨by rw [HR.out, HX8.out, ba_lit], ?_⟩
      rw [HS.out]
      exact BF.out
end Go.Proofs.YthdejiadokpafaaDoor
