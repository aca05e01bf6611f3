/-
  The walk of LamportTwo.
-/
import Derived.Test.YtimfinachecadaaDoorL26
import Derived.Deep.DeepCutAuto
namespace Go.Proofs.YtimfinachecadaaDoor
open Go.RowKit
attribute [local irreducible] ua da ba kk sw S8.run rt hs comp splice outB sha msg bvals cat at8 at16 secM zeros sec keyF marksF mk pubk bt openF shutF readF splR sd1 ms1 oF sF oG hG mu cF bsum
set_option maxRecDepth 100000 in
set_option maxHeartbeats 16000000 in
theorem q7 (seed n4 : List Int) (mix : Nat) (w : World) (hk : Keys w) (hs : seed.length = 8) (hn : n4.length = 4) (hbn : Byt n4) (hmix : mix < 65536) :
    Calls Tryd.prog 7 #[.agg (ba seed), .agg (ba n4), .int .u16 mix] w fun e w' => e = .returned (.bool true) ∧ Below w.heap.size w w' := by
  have h4 := z27
  have h6 := z128
  have HK := Lib.hid hk
  have HP : Hid (0 < w.heap.size) := keys_pos hk
  obtain ⟨S, hS⟩ : ∃ S, w.heap.size = S := ⟨_, rfl⟩
  have HS := Lib.hid hS
  have HSL := Lib.hid hs
  have KW : Hid (∀ w', Below S w w' → Keys w') := fun w' hb => keys_below HK.out hb (by rw [← HS.out]; exact HP.out)
  have E0 := Lib.hid (ba_old (ba_new hS seed 23) (Obj.cells (ba n4) 41))
  have N0 := Lib.hid (ba_new (size_al hS (Obj.cells (ba seed) 23)) n4 41)
  have B0 : Hid (Below S w ((w.alloc (Obj.cells (ba seed) 23)).alloc (Obj.cells (ba n4) 41))) := by subst hS; exact ((Below.refl _ w).alloc (Nat.le_refl _) _).alloc (by simp) _
  have C8 := Lib.hid (p8 ((w.alloc (Obj.cells (ba seed) 23)).alloc (Obj.cells (ba n4) 41)) (KW.out _ B0.out))
  obtain ⟨n0, n1, n2, n3, hn4⟩ : ∃ a b c d, n4 = [a, b, c, d] := by
    match n4, hn with
    | [a, b, c, d], _ => exact ⟨a, b, c, d, rfl⟩
  have hbb : ∀ v ∈ [n0, n1, n2, n3], 0 ≤ v ∧ v < 256 := by rw [← hn4]; exact hbn
  have HN4 := Lib.hid hn4
  obtain ⟨xm, hxm⟩ : ∃ l, [n0, n1, 0, 0, 0, 0, 0, 0] = l := ⟨_, rfl⟩
  obtain ⟨ym, hym⟩ : ∃ l, [n2, n3, 0, 0, 0, 0, 0, 0] = l := ⟨_, rfl⟩
  have LXM : Hid (xm.length = 8) := by rw [← hxm]; rfl
  have LYM : Hid (ym.length = 8) := by rw [← hym]; rfl
  have BXM : Hid (Byt xm) := by rw [← hxm]; exact byt_two (hbb n0 (by simp)) (hbb n1 (by simp))
  have BYM : Hid (Byt ym) := by rw [← hym]; exact byt_two (hbb n2 (by simp)) (hbb n3 (by simp))
  have HXM : Hid (xm = [n0, n1, 0, 0, 0, 0, 0, 0]) := hxm.symm
  have HYM : Hid (ym = [n2, n3, 0, 0, 0, 0, 0, 0]) := hym.symm
  have lzx : (zeros 8).length = xm.length := by rw [zeros_len, LXM.out]
  have lzy : (zeros 8).length = ym.length := by rw [zeros_len, LYM.out]
  have ixm : (Tryd.prog.info? 23).map (·.size) = some xm.length := by rw [s27, LXM.out]
  have iym : (Tryd.prog.info? 23).map (·.size) = some ym.length := by rw [s27, LYM.out]
  obtain ⟨K, hK⟩ : ∃ K, cat (keyF seed 1) 32 = K := ⟨_, rfl⟩
  have LK : Hid (K.length = 256) := by rw [← hK]; exact key_len seed 1
  obtain ⟨ya, hya⟩ : ∃ y, cat (openF K xm) 16 = y := ⟨_, rfl⟩
  obtain ⟨za, hza⟩ : ∃ z, cat (shutF K xm) 16 = z := ⟨_, rfl⟩
  obtain ⟨yb, hyb⟩ : ∃ y, cat (openF K ym) 16 = y := ⟨_, rfl⟩
  obtain ⟨zb, hzb⟩ : ∃ z, cat (shutF K ym) 16 = z := ⟨_, rfl⟩
  obtain ⟨P, hP⟩ : ∃ P, pubk (cat (marksF K) 32) = P := ⟨_, rfl⟩
  have HPP : Hid (pubk (cat (marksF K) 32) = P) := hP
  have LYA : Hid (ya.length = 128) := by rw [← hya]; exact cat_open_len K xm LK.out
  have LZA : Hid (za.length = 128) := by rw [← hza]; exact cat_shut_len K xm
  have LYB : Hid (yb.length = 128) := by rw [← hyb]; exact cat_open_len K ym LK.out
  have LZB : Hid (zb.length = 128) := by rw [← hzb]; exact cat_shut_len K ym
  have LP : Hid (P.length = 8) := by rw [← hP]; exact pubk_len _
  have C9 : Hid (∀ w', Below S w w' → Calls Tryd.prog 9 #[.agg (ba seed), .int .i64 1] w' fun e w'' => ∃ T, e = .returned (.pointer (some ⟨T, 0, none⟩)) ∧ w'.heap.size ≤ T ∧ BA w'' T 48 K ∧ Below w'.heap.size w' w'') := fun w' hb => by
    have := p9 seed 1 1 w' (KW.out w' hb) hs (by decide)
    rw [hK] at this
    exact this
  have C10 : Hid (∀ (T : Nat) (m y z : List Int) (w' : World), (m.length = 8 ∧ Byt m ∧ cat (openF K m) 16 = y ∧ cat (shutF K m) 16 = z) → Below S w w' → BA w' T 48 K → Calls Tryd.prog 10 #[.pointer (some ⟨T, 0, none⟩), .agg (ba m)] w' fun e w'' => e = .returned (.tuple #[.agg (ba y), .agg (ba z)]) ∧ Below w'.heap.size w' w'') := fun T m y z w' h hb hT => by
    have := p10 K m T w' (KW.out w' hb) LK.out h.1 h.2.1 hT
    rw [h.2.2.1, h.2.2.2] at this
    exact this
  have HCX : Hid (xm.length = 8 ∧ Byt xm ∧ cat (openF K xm) 16 = ya ∧ cat (shutF K xm) 16 = za) := ⟨LXM.out, BXM.out, hya, hza⟩
  have HCY : Hid (ym.length = 8 ∧ Byt ym ∧ cat (openF K ym) 16 = yb ∧ cat (shutF K ym) 16 = zb) := ⟨LYM.out, BYM.out, hyb, hzb⟩
  have C12 : Hid (∀ w' : World, Below S w w' → ∀ T, BA w' T 48 K → Calls Tryd.prog 12 #[.pointer (some ⟨T, 0, none⟩)] w' fun e w'' => e = .returned (.agg (ba P)) ∧ Below w'.heap.size w' w'') := fun w' hb T hT => by
    have := p12 K T w' (KW.out w' hb) LK.out hT
    rw [hP] at this
    exact this
  obtain ⟨f, hf⟩ : ∃ f, cF mix xm ym = f := ⟨_, rfl⟩
  have HF : Hid (cF mix xm ym = f) := hf
  have FL : Hid (∀ j, f j ≤ 1) := by rw [← hf]; exact cF_le mix xm ym
  have C14 : Hid (∀ w', Below S w w' → Calls Tryd.prog 14 #[.agg (ba (mu f 16)), .agg (ba (cat (oG K f) 16)), .agg (ba (cat (hG K f) 16))] w' fun e w'' => e = .returned (.agg (ba P)) ∧ Below w'.heap.size w' w'') := fun w' hb => by
    have := p14 (mu f 16) (cat (openF K (mu f 16)) 16) (cat (shutF K (mu f 16)) 16) w' (KW.out w' hb) (mu_len f 16) (mu_byt f FL.out 16 (Nat.le_refl _)) (cat_open_len K _ LK.out) (cat_shut_len K _)
    rw [read_own K _ LK.out, hP] at this
    rw [oG_mu K f FL.out, hG_mu K f FL.out]
    exact this
  have f1 := fun w => eqh P P w LP.out LP.out
  rw [decide_eq_true rfl] at f1
  have HMIX : Hid (mix < 65536) := hmix
  clear hk hs hn hbn hn4 hbb hxm hym hK hya hza hyb hzb hP hf hmix
  go_enter Tryd.func7, Tryd.ntmps7
  go_upto_region 3 with (first
    | (go_at_call 8
       refine C8.out.mono ?_
       rintro e w0 ⟨rfl, hb⟩
       have L0 : Hid (S + 1 < ((w.alloc (Obj.cells (ba seed) 23)).alloc (Obj.cells (ba n4) 41)).heap.size) := lt_of_block N0.out
       have E1 : Hid (BA w0 S 23 seed) := (hb.block _ (by have := L0.out; omega)).trans E0.out
       have N1 : Hid (BA w0 (S + 1) 41 n4) := (hb.block _ L0.out).trans N0.out
       have B1 : Hid (Below S w w0) := B0.out.trans (hb.mono (by have := L0.out; omega))
       have L1 : Hid (S + 1 < w0.heap.size) := lt_of_block N1.out
       clear hb E0 N0 B0 C8 L0)
    | fail)
  refine wp_region_held_drew (S := (fun w' : World => True)) (by kernel_rfl) (by exact trivial) (fun hHeld => ?_)
  refine wpAnyH_take (i := 0) (v := ?_) rfl (by kernel_rfl) (by kernel_rfl) (by kernel_rfl) (fun _ _ _ h => h) (Or.inl ⟨by rfl, ?_⟩) (by assumption) ?_
  rotate_left
  · (intro w hSw; (try dsimp only at hSw); go_simp; try with_reducible rfl)
  simp only [Act.put, List.getElem_toArray, List.getElem_cons_zero, List.setIfInBounds_toArray, List.set_cons_zero, List.set_cons_succ]
  refine wpAnyH_take (i := 1) (v := ?_) rfl (by kernel_rfl) (by kernel_rfl) (by kernel_rfl) (fun _ _ _ h => h) (Or.inl ⟨by rfl, ?_⟩) (by assumption) ?_
  rotate_left
  · (intro w hSw; (try dsimp only at hSw); go_simp; try with_reducible rfl)
  simp only [Act.put, List.getElem_toArray, List.getElem_cons_succ, List.getElem_cons_zero, List.setIfInBounds_toArray, List.set_cons_zero, List.set_cons_succ]
  refine wpAnyH_take (i := 2) (v := ?_) rfl (by kernel_rfl) (by kernel_rfl) (by kernel_rfl) (fun _ _ _ h => h) (Or.inl ⟨by rfl, ?_⟩) (by assumption) ?_
  rotate_left
  · (intro w hSw; (try dsimp only at hSw); go_simp; try with_reducible rfl)
  simp only [Act.put, List.getElem_toArray, List.getElem_cons_succ, List.getElem_cons_zero, List.setIfInBounds_toArray, List.set_cons_zero, List.set_cons_succ]
  refine wpAnyH_take (i := 3) (v := ?_) rfl (by kernel_rfl) (by kernel_rfl) (by kernel_rfl) (fun _ _ _ h => h) (Or.inl ⟨by rfl, ?_⟩) (by assumption) ?_
  rotate_left
  · (intro w hSw; (try dsimp only at hSw); go_simp; try with_reducible rfl)
  simp only [Act.put, List.getElem_toArray, List.getElem_cons_succ, List.getElem_cons_zero, List.setIfInBounds_toArray, List.set_cons_zero, List.set_cons_succ]
  refine wpAnyH_done (by kernel_rfl) ?_ _
  clear hHeld
  have B1d : Hid (Below S w w0.drew) := B1.out.drew
  have E1d : Hid (BA w0.drew S 23 seed) := E1.out
  have N1d : Hid (BA w0.drew (S + 1) 41 n4) := N1.out
  have L1d : Hid (S + 1 < w0.drew.heap.size) := L1.out
  clear B1 E1 N1 L1
  generalize w0.drew = wd at *
  go_upto_region 7 with (first
    | (refine wpList_load_row rfl 23 (.tmp 3) rfl S rfl 23 (ba seed) (0, 0) _ E1d.out Tryd.underlying23 rfl (sz s27 (by rw [ba_size, HSL.out])) ?_)
    | (go_at_call 9
       refine (C9.out wd B1d.out).mono ?_
       rintro e w1 ⟨T, rfl, hT, hb, hw1⟩
       have T1 := Lib.hid hb
       have TS : Hid (S + 1 < T) := by show _ < _; have := L1d.out; omega
       have N1 : Hid (BA w1 (S + 1) 41 n4) := (hw1.block _ L1d.out).trans N1d.out
       have B1 : Hid (Below S w w1) := B1d.out.trans (hw1.mono (by have := L1d.out; omega))
       clear hT hb hw1 E1d N1d B1d L1d C9)
    | fail)
  obtain ⟨N, hN⟩ : ∃ N, w1.heap.size = N := ⟨_, rfl⟩
  have WN : Hid (w1.heap.size = N) := hN
  have LN : Hid (S + 1 < N ∧ T < N) := by show _ ∧ _; rw [← hN]; exact ⟨lt_of_block N1.out, lt_of_block T1.out⟩
  have NC : Hid (∀ v : World, v.heap[S + 1]? = w1.heap[S + 1]? → v.cell? ⟨S + 1, 0, none⟩ = some (.int .u8 n0) ∧ v.cell? ⟨S + 1, 1, none⟩ = some (.int .u8 n1) ∧ v.cell? ⟨S + 1, 2, none⟩ = some (.int .u8 n2) ∧ v.cell? ⟨S + 1, 3, none⟩ = some (.int .u8 n3)) := fun v hv => by
    have h : BA v (S + 1) 41 [n0, n1, n2, n3] := by rw [← HN4.out]; exact hv.trans N1.out
    exact ⟨ba_cell h 0 (show 0 < 4 by decide), ba_cell h 1 (show 1 < 4 by decide), ba_cell h 2 (show 2 < 4 by decide), ba_cell h 3 (show 3 < 4 by decide)⟩
  clear hN
  go_cut [10, 11] (fun p q wx => ∃ G H : Nat, p = .pointer (some ⟨G, 0, none⟩) ∧ q = .pointer (some ⟨H, 0, none⟩) ∧ N ≤ G ∧ N ≤ H ∧ BA wx G 23 xm ∧ BA wx H 23 ym ∧ Below N w1 wx)
  case first =>
    rw [ba8] at h4
    have XX : Hid (Below N w1 w1.drew) := (Below.refl _ _).drew
    refine wp_region_held_drew (S := (fun w' : World => ∀ q, q < N → w'.heap[q]? = w1.heap[q]?)) (by kernel_rfl) (by exact fun _ _ => rfl) (fun hHeld => ?_)
    refine wpAnyH_take (i := 0) (v := ?_) rfl (by kernel_rfl) (by kernel_rfl) (by kernel_rfl) (fun _ _ _ h => h) (Or.inl ⟨by rfl, ?_⟩) (by assumption) ?_
    rotate_left
    · (intro w hSw; (try dsimp only at hSw); go_simp; try with_reducible rfl)
    simp only [Act.put, List.getElem_toArray, List.getElem_cons_zero, List.setIfInBounds_toArray, List.set_cons_zero, List.set_cons_succ]
    refine wpAnyH_take (i := 1) (v := ?_) rfl (by kernel_rfl) (by kernel_rfl) (by kernel_rfl) (fun _ _ _ h => h) (Or.inl ⟨by rfl, ?_⟩) (by assumption) ?_
    rotate_left
    · (intro w hSw; (try dsimp only at hSw); go_simp; try with_reducible rfl)
    simp only [Act.put, List.getElem_toArray, List.getElem_cons_succ, List.getElem_cons_zero, List.setIfInBounds_toArray, List.set_cons_zero, List.set_cons_succ]
    refine wpAnyH_take (i := 2) (v := ?_) rfl (by kernel_rfl) (by kernel_rfl) (by kernel_rfl) (fun _ _ _ h => h) (Or.inl ⟨by rfl, ?_⟩) (by assumption) ?_
    rotate_left
    · (intro w hSw; (try dsimp only at hSw); obtain ⟨c0, c1, c2, c3⟩ := NC.out w (hSw _ (by have := LN.out; omega)); go_simp; try with_reducible rfl)
    simp only [Act.put, List.getElem_toArray, List.getElem_cons_succ, List.getElem_cons_zero, List.setIfInBounds_toArray, List.set_cons_zero, List.set_cons_succ]
    refine wpAnyH_take (i := 3) (v := ?_) rfl (by kernel_rfl) (by kernel_rfl) (by kernel_rfl) (fun _ _ _ h => h) (Or.inl ⟨by rfl, ?_⟩) (by assumption) ?_
    rotate_left
    · (intro w hSw; (try dsimp only at hSw); go_simp; try with_reducible rfl)
    simp only [Act.put, List.getElem_toArray, List.getElem_cons_succ, List.getElem_cons_zero, List.setIfInBounds_toArray, List.set_cons_zero, List.set_cons_succ]
    refine wpAnyH_take (i := 4) (v := ?_) rfl (by kernel_rfl) (by kernel_rfl) (by kernel_rfl) (fun _ _ _ h => h) (Or.inl ⟨by rfl, ?_⟩) (by assumption) ?_
    rotate_left
    · (intro w hSw; (try dsimp only at hSw); go_simp; try with_reducible rfl)
    simp only [Act.put, List.getElem_toArray, List.getElem_cons_succ, List.getElem_cons_zero, List.setIfInBounds_toArray, List.set_cons_zero, List.set_cons_succ]
    refine wpAnyH_take (i := 5) (v := ?_) rfl (by kernel_rfl) (by kernel_rfl) (by kernel_rfl) (fun _ _ _ h => h) (Or.inl ⟨by rfl, ?_⟩) (by assumption) ?_
    rotate_left
    · (intro w hSw; (try dsimp only at hSw); obtain ⟨c0, c1, c2, c3⟩ := NC.out w (hSw _ (by have := LN.out; omega)); go_simp; try with_reducible rfl)
    simp only [Act.put, List.getElem_toArray, List.getElem_cons_succ, List.getElem_cons_zero, List.setIfInBounds_toArray, List.set_cons_zero, List.set_cons_succ]
    refine wpAnyH_take (i := 6) (v := ?_) rfl (by kernel_rfl) (by kernel_rfl) (by kernel_rfl) (fun _ _ _ h => h) (Or.inl ⟨by rfl, ?_⟩) (by assumption) ?_
    rotate_left
    · (intro w hSw; (try dsimp only at hSw); go_simp; try with_reducible rfl)
    simp only [Act.put, List.getElem_toArray, List.getElem_cons_succ, List.getElem_cons_zero, List.setIfInBounds_toArray, List.set_cons_zero, List.set_cons_succ]
    refine wpAnyH_take (i := 7) (v := ?_) rfl (by kernel_rfl) (by kernel_rfl) (by kernel_rfl) (fun _ _ _ h => h) (Or.inl ⟨by rfl, ?_⟩) (by assumption) ?_
    rotate_left
    · (intro w hSw; (try dsimp only at hSw); go_simp; try with_reducible rfl)
    simp only [Act.put, List.getElem_toArray, List.getElem_cons_succ, List.getElem_cons_zero, List.setIfInBounds_toArray, List.set_cons_zero, List.set_cons_succ]
    refine wpAnyH_take (i := 8) (v := ?_) rfl (by kernel_rfl) (by kernel_rfl) (by kernel_rfl) (fun _ _ _ h => h) (Or.inl ⟨by rfl, ?_⟩) (by assumption) ?_
    rotate_left
    · (intro w hSw; (try dsimp only at hSw); go_simp; try with_reducible rfl)
    simp only [Act.put, List.getElem_toArray, List.getElem_cons_succ, List.getElem_cons_zero, List.setIfInBounds_toArray, List.set_cons_zero, List.set_cons_succ]
    refine wpAnyH_take (i := 9) (v := ?_) rfl (by kernel_rfl) (by kernel_rfl) (by kernel_rfl) (fun _ _ _ h => h) (Or.inl ⟨by rfl, ?_⟩) (by assumption) ?_
    rotate_left
    · (intro w hSw; (try dsimp only at hSw); obtain ⟨c0, c1, c2, c3⟩ := NC.out w (hSw _ (by have := LN.out; omega)); go_simp; try with_reducible rfl)
    simp only [Act.put, List.getElem_toArray, List.getElem_cons_succ, List.getElem_cons_zero, List.setIfInBounds_toArray, List.set_cons_zero, List.set_cons_succ]
    refine wpAnyH_take (i := 10) (v := ?_) rfl (by kernel_rfl) (by kernel_rfl) (by kernel_rfl) (fun _ _ _ h => h) (Or.inl ⟨by rfl, ?_⟩) (by assumption) ?_
    rotate_left
    · (intro w hSw; (try dsimp only at hSw); go_simp; try with_reducible rfl)
    simp only [Act.put, List.getElem_toArray, List.getElem_cons_succ, List.getElem_cons_zero, List.setIfInBounds_toArray, List.set_cons_zero, List.set_cons_succ]
    refine wpAnyH_take (i := 11) (v := ?_) rfl (by kernel_rfl) (by kernel_rfl) (by kernel_rfl) (fun _ _ _ h => h) (Or.inl ⟨by rfl, ?_⟩) (by assumption) ?_
    rotate_left
    · (intro w hSw; (try dsimp only at hSw); go_simp; try with_reducible rfl)
    simp only [Act.put, List.getElem_toArray, List.getElem_cons_succ, List.getElem_cons_zero, List.setIfInBounds_toArray, List.set_cons_zero, List.set_cons_succ]
    refine wpAnyH_take (i := 12) (v := ?_) rfl (by kernel_rfl) (by kernel_rfl) (by kernel_rfl) (fun _ _ _ h => h) (Or.inl ⟨by rfl, ?_⟩) (by assumption) ?_
    rotate_left
    · (intro w hSw; (try dsimp only at hSw); obtain ⟨c0, c1, c2, c3⟩ := NC.out w (hSw _ (by have := LN.out; omega)); go_simp; try with_reducible rfl)
    simp only [Act.put, List.getElem_toArray, List.getElem_cons_succ, List.getElem_cons_zero, List.setIfInBounds_toArray, List.set_cons_zero, List.set_cons_succ]
    refine wpAnyH_take (i := 13) (v := ?_) rfl (by kernel_rfl) (by kernel_rfl) (by kernel_rfl) (fun _ _ _ h => h) (Or.inl ⟨by rfl, ?_⟩) (by assumption) ?_
    rotate_left
    · (intro w hSw; (try dsimp only at hSw); go_simp; try with_reducible rfl)
    simp only [Act.put, List.getElem_toArray, List.getElem_cons_succ, List.getElem_cons_zero, List.setIfInBounds_toArray, List.set_cons_zero, List.set_cons_succ]
    refine wpAnyH_ready (rs := [14, 15]) (by kernel_rfl) (by simp) ?_
    refine AllReadyH.cons rfl (fun K hK => ?_) (AllReadyH.cons rfl (fun K hK => ?_) AllReadyH.nil)
    · refine step_alloc rfl rfl ?_
      obtain ⟨G, hG⟩ : ∃ q, w1.drew.heap.size = q := ⟨_, rfl⟩
      rw [hG]
      have GB1 := Lib.hid (ba_new hG (zeros 8) 23)
      have GN : Hid (N ≤ G) := by show _ ≤ _; rw [← hG, ← WN.out]; exact Nat.le_refl _
      have X1 : Hid (Below N w1 (w1.drew.alloc (Obj.cells (ba (zeros 8)) 23))) := (Below.refl _ _).drew.alloc (by rw [hG]; exact GN.out) _
      have S1 : Hid ((w1.drew.alloc (Obj.cells (ba (zeros 8)) 23)).heap.size = G + 1) := size_al hG _
      clear hG
      generalize w1.drew.alloc (Obj.cells (ba (zeros 8)) 23) = v1 at *
      refine hK.out _ _ (by exact fun q hq => X1.out.block q hq) (fun hHeld => ?_)
      clear hK K
      simp only [Act.put, List.getElem_toArray, List.getElem_cons_succ, List.getElem_cons_zero, List.setIfInBounds_toArray, List.set_cons_zero, List.set_cons_succ]
      refine wpAnyH_ready (rs := [15]) (by kernel_rfl) (by simp) ?_
      refine AllReadyH.cons rfl (fun K hK => ?_) AllReadyH.nil
      refine step_alloc rfl rfl ?_
      obtain ⟨H, hH⟩ : ∃ q, v1.heap.size = q := ⟨_, rfl⟩
      rw [hH]
      have HB2 := Lib.hid (ba_new hH (zeros 8) 23)
      have GB2 := Lib.hid (ba_old GB1.out (Obj.cells (ba (zeros 8)) 23))
      have NE1 : Hid (G + 1 = H) := by show _ = _; rw [← hH]; exact S1.out.symm
      have HN : Hid (N ≤ H) := by show _ ≤ _; have := NE1.out; have := GN.out; omega
      have X2 : Hid (Below N w1 (v1.alloc (Obj.cells (ba (zeros 8)) 23))) := X1.out.alloc (by rw [hH]; exact HN.out) _
      clear hH
      generalize v1.alloc (Obj.cells (ba (zeros 8)) 23) = v2 at *
      refine hK.out _ _ (by exact fun q hq => X2.out.block q hq) (fun hHeld => ?_)
      clear hK K
      simp only [Act.put, List.getElem_toArray, List.getElem_cons_succ, List.getElem_cons_zero, List.setIfInBounds_toArray, List.set_cons_zero, List.set_cons_succ]
      refine wpAnyH_ready (rs := [16]) (by kernel_rfl) (by simp) ?_
      refine AllReadyH.cons rfl (fun K hK => ?_) AllReadyH.nil
      refine step_row rfl 23 (.tmp 10) (.tmp 34) rfl G 23 (zeros 8) xm rfl (by rw [← ba_bvals, HXM.out, ba_lit]; rfl) GB2.out lzx ixm ?_
      have GC := Lib.hid (row_set (l := xm) GB2.out lzx)
      have HC1 : Hid (BA (v2.setCells G 0 (bvals xm)) H 23 (zeros 8)) := (heap_setCells (by have := NE1.out; omega) _ _ _).trans HB2.out
      have X3 : Hid (Below N w1 (v2.setCells G 0 (bvals xm))) := below_setCells GN.out _ _ X2.out
      generalize v2.setCells G 0 (bvals xm) = v3 at *
      refine hK.out _ _ (by exact fun q hq => X3.out.block q hq) (fun hHeld => ?_)
      clear hK K
      simp only [Act.put, List.getElem_toArray, List.getElem_cons_succ, List.getElem_cons_zero]
      refine wpAnyH_ready (rs := [17]) (by kernel_rfl) (by simp) ?_
      refine AllReadyH.cons rfl (fun K hK => ?_) AllReadyH.nil
      refine step_row rfl 23 (.tmp 11) (.tmp 41) rfl H 23 (zeros 8) ym rfl (by rw [← ba_bvals, HYM.out, ba_lit]; rfl) HC1.out lzy iym ?_
      have HE := Lib.hid (row_set (l := ym) HC1.out lzy)
      have GE : Hid (BA (v3.setCells H 0 (bvals ym)) G 23 xm) := (heap_setCells (by have := NE1.out; omega) _ _ _).trans GC.out
      have X4 : Hid (Below N w1 (v3.setCells H 0 (bvals ym))) := below_setCells HN.out _ _ X3.out
      refine hK.out _ _ (by exact fun q hq => X4.out.block q hq) (fun hHeld => ?_)
      clear hK K
      simp only [Act.put, List.getElem_toArray, List.getElem_cons_succ, List.getElem_cons_zero]
      refine wpAnyH_done (by kernel_rfl) ?_ _
      go_wp2_with fail
      go_meet
      exact ⟨G, H, rfl, rfl, GN.out, HN.out, GE.out, HE.out, X4.out⟩
    · refine step_alloc rfl rfl ?_
      obtain ⟨H, hH⟩ : ∃ q, w1.drew.heap.size = q := ⟨_, rfl⟩
      rw [hH]
      have HB1 := Lib.hid (ba_new hH (zeros 8) 23)
      have HN : Hid (N ≤ H) := by show _ ≤ _; rw [← hH, ← WN.out]; exact Nat.le_refl _
      have X1 : Hid (Below N w1 (w1.drew.alloc (Obj.cells (ba (zeros 8)) 23))) := (Below.refl _ _).drew.alloc (by rw [hH]; exact HN.out) _
      have S1 : Hid ((w1.drew.alloc (Obj.cells (ba (zeros 8)) 23)).heap.size = H + 1) := size_al hH _
      clear hH
      generalize w1.drew.alloc (Obj.cells (ba (zeros 8)) 23) = v1 at *
      refine hK.out _ _ (by exact fun q hq => X1.out.block q hq) (fun hHeld => ?_)
      clear hK K
      simp only [Act.put, List.getElem_toArray, List.getElem_cons_succ, List.getElem_cons_zero, List.setIfInBounds_toArray, List.set_cons_zero, List.set_cons_succ]
      refine wpAnyH_ready (rs := [14]) (by kernel_rfl) (by simp) ?_
      refine AllReadyH.cons rfl (fun K hK => ?_) AllReadyH.nil
      refine step_alloc rfl rfl ?_
      obtain ⟨G, hG⟩ : ∃ q, v1.heap.size = q := ⟨_, rfl⟩
      rw [hG]
      have GB2 := Lib.hid (ba_new hG (zeros 8) 23)
      have HB2 := Lib.hid (ba_old HB1.out (Obj.cells (ba (zeros 8)) 23))
      have NE1 : Hid (H + 1 = G) := by show _ = _; rw [← hG]; exact S1.out.symm
      have GN : Hid (N ≤ G) := by show _ ≤ _; have := NE1.out; have := HN.out; omega
      have X2 : Hid (Below N w1 (v1.alloc (Obj.cells (ba (zeros 8)) 23))) := X1.out.alloc (by rw [hG]; exact GN.out) _
      clear hG
      generalize v1.alloc (Obj.cells (ba (zeros 8)) 23) = v2 at *
      refine hK.out _ _ (by exact fun q hq => X2.out.block q hq) (fun hHeld => ?_)
      clear hK K
      simp only [Act.put, List.getElem_toArray, List.getElem_cons_succ, List.getElem_cons_zero, List.setIfInBounds_toArray, List.set_cons_zero, List.set_cons_succ]
      refine wpAnyH_ready (rs := [16]) (by kernel_rfl) (by simp) ?_
      refine AllReadyH.cons rfl (fun K hK => ?_) AllReadyH.nil
      refine step_row rfl 23 (.tmp 10) (.tmp 34) rfl G 23 (zeros 8) xm rfl (by rw [← ba_bvals, HXM.out, ba_lit]; rfl) GB2.out lzx ixm ?_
      have GC := Lib.hid (row_set (l := xm) GB2.out lzx)
      have HC1 : Hid (BA (v2.setCells G 0 (bvals xm)) H 23 (zeros 8)) := (heap_setCells (by have := NE1.out; omega) _ _ _).trans HB2.out
      have X3 : Hid (Below N w1 (v2.setCells G 0 (bvals xm))) := below_setCells GN.out _ _ X2.out
      generalize v2.setCells G 0 (bvals xm) = v3 at *
      refine hK.out _ _ (by exact fun q hq => X3.out.block q hq) (fun hHeld => ?_)
      clear hK K
      simp only [Act.put, List.getElem_toArray, List.getElem_cons_succ, List.getElem_cons_zero]
      refine wpAnyH_ready (rs := [17]) (by kernel_rfl) (by simp) ?_
      refine AllReadyH.cons rfl (fun K hK => ?_) AllReadyH.nil
      refine step_row rfl 23 (.tmp 11) (.tmp 41) rfl H 23 (zeros 8) ym rfl (by rw [← ba_bvals, HYM.out, ba_lit]; rfl) HC1.out lzy iym ?_
      have HE := Lib.hid (row_set (l := ym) HC1.out lzy)
      have GE : Hid (BA (v3.setCells H 0 (bvals ym)) G 23 xm) := (heap_setCells (by have := NE1.out; omega) _ _ _).trans GC.out
      have X4 : Hid (Below N w1 (v3.setCells H 0 (bvals ym))) := below_setCells HN.out _ _ X3.out
      refine hK.out _ _ (by exact fun q hq => X4.out.block q hq) (fun hHeld => ?_)
      clear hK K
      simp only [Act.put, List.getElem_toArray, List.getElem_cons_succ, List.getElem_cons_zero]
      refine wpAnyH_done (by kernel_rfl) ?_ _
      go_wp2_with fail
      go_meet
      exact ⟨G, H, rfl, rfl, GN.out, HN.out, GE.out, HE.out, X4.out⟩
  case rest =>
    rename World => wx
    obtain ⟨G, H, rfl, rfl, hG, hH, gb, hh, hx⟩ := hcut
    have G1 := Lib.hid gb
    have H1 := Lib.hid hh
    have T2 : Hid (BA wx T 48 K) := (hx.block _ LN.out.2).trans T1.out
    have B2 : Hid (Below S w wx) := B1.out.trans (hx.mono (by have := LN.out; omega))
    have SVwx : Hid (S ≤ wx.heap.size) := by show _ ≤ _; have := lt_of_block gb; have := LN.out; omega
    clear T1 B1 hG hH gb hh hx NC N1
    have T1 := T2
    have B1 := B2
    clear T2 B2
    go_wp2_with (first
      | (refine wpList_load_row rfl 23 (.tmp 10) rfl G rfl 23 (ba xm) (0, 0) _ G1.out Tryd.underlying23 rfl (sz s27 (by rw [ba_size, LXM.out])) ?_)
      | (refine wpList_load_row rfl 23 (.tmp 11) rfl H rfl 23 (ba ym) (0, 0) _ H1f.out Tryd.underlying23 rfl (sz s27 (by rw [ba_size, LYM.out])) ?_)
      | (go_at_call 10
         refine (C10.out T xm ya za wx HCX.out B1.out T1.out).mono ?_
         rintro e x1 ⟨rfl, hb⟩
         have G1b : Hid (BA x1 (G) 23 xm) := (hb.block _ (lt_of_block G1.out)).trans G1.out
         have H1b : Hid (BA x1 (H) 23 ym) := (hb.block _ (lt_of_block H1.out)).trans H1.out
         have T1b : Hid (BA x1 (T) 48 K) := (hb.block _ (lt_of_block T1.out)).trans T1.out
         have B1b : Hid (Below S w x1) := B1.out.trans (hb.mono SVwx.out)
         have SVbf : Hid (S ≤ x1.heap.size) := Nat.le_trans SVwx.out hb.size
         clear hb
         obtain ⟨A, hA⟩ : ∃ q, x1.heap.size = q := ⟨_, rfl⟩
         have G1l : Hid (G < A) := by show _ < _; rw [← hA]; exact lt_of_block G1b.out
         have H1l : Hid (H < A) := by show _ < _; rw [← hA]; exact lt_of_block H1b.out
         have T1l : Hid (T < A) := by show _ < _; rw [← hA]; exact lt_of_block T1b.out
         have G1c := Lib.hid (ba_old (ba_old G1b.out (Obj.cells (ba (zeros 128)) 27)) (Obj.cells (ba (zeros 128)) 27))
         have H1c := Lib.hid (ba_old (ba_old H1b.out (Obj.cells (ba (zeros 128)) 27)) (Obj.cells (ba (zeros 128)) 27))
         have T1c := Lib.hid (ba_old (ba_old T1b.out (Obj.cells (ba (zeros 128)) 27)) (Obj.cells (ba (zeros 128)) 27))
         have Y0f := Lib.hid (ba_old (ba_new hA (zeros 128) 27) (Obj.cells (ba (zeros 128)) 27))
         have Q0f := Lib.hid (ba_new (size_al hA (Obj.cells (ba (zeros 128)) 27)) (zeros 128) 27)
         have AS : Hid (S ≤ A) := by show _ ≤ _; rw [← hA]; exact SVbf.out
         have B1c : Hid (Below S w ((x1.alloc (Obj.cells (ba (zeros 128)) 27)).alloc (Obj.cells (ba (zeros 128)) 27))) := (B1b.out.alloc (by rw [hA]; exact AS.out) _).alloc (by rw [World.size_alloc, hA]; have := AS.out; omega) _)
      | (refine wpList_store_rowTo rfl 27 (.tmp 12) (.tmp 46) rfl rfl A (ba ya) rfl rfl 27 (ba (zeros 128)) Y0f.out (sz q27 (by rw [ba_size, LYA.out])) (by rw [ba_size, ba_size, LYA.out, zeros_len]) (ba_one _) ?_
         have Y1f : Hid (BA (((x1.alloc (Obj.cells (ba (zeros 128)) 27)).alloc (Obj.cells (ba (zeros 128)) 27)).setRow A (ba ya)) A 27 ya) := setRow_heap _ _ _ _ _ _ Y0f.out
         have Q1f : Hid (BA (((x1.alloc (Obj.cells (ba (zeros 128)) 27)).alloc (Obj.cells (ba (zeros 128)) 27)).setRow A (ba ya)) (A + 1) 27 (zeros 128)) := (setRow_other _ _ _ _ (by omega)).trans Q0f.out
         have G1d : Hid (BA (((x1.alloc (Obj.cells (ba (zeros 128)) 27)).alloc (Obj.cells (ba (zeros 128)) 27)).setRow A (ba ya)) (G) 23 xm) := (setRow_other _ _ _ _ (by have := G1l.out; omega)).trans G1c.out
         have H1d : Hid (BA (((x1.alloc (Obj.cells (ba (zeros 128)) 27)).alloc (Obj.cells (ba (zeros 128)) 27)).setRow A (ba ya)) (H) 23 ym) := (setRow_other _ _ _ _ (by have := H1l.out; omega)).trans H1c.out
         have T1d : Hid (BA (((x1.alloc (Obj.cells (ba (zeros 128)) 27)).alloc (Obj.cells (ba (zeros 128)) 27)).setRow A (ba ya)) (T) 48 K) := (setRow_other _ _ _ _ (by have := T1l.out; omega)).trans T1c.out
         have B1d : Hid (Below S w (((x1.alloc (Obj.cells (ba (zeros 128)) 27)).alloc (Obj.cells (ba (zeros 128)) 27)).setRow A (ba ya))) := below_setRow B1c.out AS.out _)
      | (refine wpList_store_rowTo rfl 27 (.tmp 13) (.tmp 47) rfl rfl (A + 1) (ba za) rfl rfl 27 (ba (zeros 128)) Q1f.out (sz q27 (by rw [ba_size, LZA.out])) (by rw [ba_size, ba_size, LZA.out, zeros_len]) (ba_one _) ?_
         have Qf : Hid (BA ((((x1.alloc (Obj.cells (ba (zeros 128)) 27)).alloc (Obj.cells (ba (zeros 128)) 27)).setRow A (ba ya)).setRow (A + 1) (ba za)) (A + 1) 27 za) := setRow_heap _ _ _ _ _ _ Q1f.out
         have Yf : Hid (BA ((((x1.alloc (Obj.cells (ba (zeros 128)) 27)).alloc (Obj.cells (ba (zeros 128)) 27)).setRow A (ba ya)).setRow (A + 1) (ba za)) A 27 ya) := (setRow_other _ _ _ _ (by omega)).trans Y1f.out
         have G1f : Hid (BA ((((x1.alloc (Obj.cells (ba (zeros 128)) 27)).alloc (Obj.cells (ba (zeros 128)) 27)).setRow A (ba ya)).setRow (A + 1) (ba za)) (G) 23 xm) := (setRow_other _ _ _ _ (by have := G1l.out; omega)).trans G1d.out
         have H1f : Hid (BA ((((x1.alloc (Obj.cells (ba (zeros 128)) 27)).alloc (Obj.cells (ba (zeros 128)) 27)).setRow A (ba ya)).setRow (A + 1) (ba za)) (H) 23 ym) := (setRow_other _ _ _ _ (by have := H1l.out; omega)).trans H1d.out
         have T1f : Hid (BA ((((x1.alloc (Obj.cells (ba (zeros 128)) 27)).alloc (Obj.cells (ba (zeros 128)) 27)).setRow A (ba ya)).setRow (A + 1) (ba za)) (T) 48 K) := (setRow_other _ _ _ _ (by have := T1l.out; omega)).trans T1d.out
         have B1f : Hid (Below S w ((((x1.alloc (Obj.cells (ba (zeros 128)) 27)).alloc (Obj.cells (ba (zeros 128)) 27)).setRow A (ba ya)).setRow (A + 1) (ba za))) := below_setRow B1d.out (by have := AS.out; omega) _
         have SVw2 : Hid (S ≤ ((((x1.alloc (Obj.cells (ba (zeros 128)) 27)).alloc (Obj.cells (ba (zeros 128)) 27)).setRow A (ba ya)).setRow (A + 1) (ba za)).heap.size) := Nat.le_trans AS.out (Nat.le_of_lt (lt_of_block Yf.out))
         clear Y0f Q0f Y1f Q1f hA G1 G1b G1c G1d G1l H1 H1b H1c H1d H1l T1 T1b T1c T1d T1l B1b B1c B1d
         generalize ((((x1.alloc (Obj.cells (ba (zeros 128)) 27)).alloc (Obj.cells (ba (zeros 128)) 27)).setRow A (ba ya)).setRow (A + 1) (ba za)) = w2 at *)
      | (go_at_call 10
         refine (C10.out T ym yb zb w2 HCY.out B1f.out T1f.out).mono ?_
         rintro e x2 ⟨rfl, hb⟩
         have G1fb : Hid (BA x2 (G) 23 xm) := (hb.block _ (lt_of_block G1f.out)).trans G1f.out
         have H1fb : Hid (BA x2 (H) 23 ym) := (hb.block _ (lt_of_block H1f.out)).trans H1f.out
         have T1fb : Hid (BA x2 (T) 48 K) := (hb.block _ (lt_of_block T1f.out)).trans T1f.out
         have Yfb : Hid (BA x2 (A) 27 ya) := (hb.block _ (lt_of_block Yf.out)).trans Yf.out
         have Qfb : Hid (BA x2 (A + 1) 27 za) := (hb.block _ (lt_of_block Qf.out)).trans Qf.out
         have B1fb : Hid (Below S w x2) := B1f.out.trans (hb.mono SVw2.out)
         have SVbg : Hid (S ≤ x2.heap.size) := Nat.le_trans SVw2.out hb.size
         clear hb
         obtain ⟨B, hB⟩ : ∃ q, x2.heap.size = q := ⟨_, rfl⟩
         have G1fl : Hid (G < B) := by show _ < _; rw [← hB]; exact lt_of_block G1fb.out
         have H1fl : Hid (H < B) := by show _ < _; rw [← hB]; exact lt_of_block H1fb.out
         have T1fl : Hid (T < B) := by show _ < _; rw [← hB]; exact lt_of_block T1fb.out
         have Yfl : Hid (A < B) := by show _ < _; rw [← hB]; exact lt_of_block Yfb.out
         have Qfl : Hid (A + 1 < B) := by show _ < _; rw [← hB]; exact lt_of_block Qfb.out
         have G1fc := Lib.hid (ba_old (ba_old G1fb.out (Obj.cells (ba (zeros 128)) 27)) (Obj.cells (ba (zeros 128)) 27))
         have H1fc := Lib.hid (ba_old (ba_old H1fb.out (Obj.cells (ba (zeros 128)) 27)) (Obj.cells (ba (zeros 128)) 27))
         have T1fc := Lib.hid (ba_old (ba_old T1fb.out (Obj.cells (ba (zeros 128)) 27)) (Obj.cells (ba (zeros 128)) 27))
         have Yfc := Lib.hid (ba_old (ba_old Yfb.out (Obj.cells (ba (zeros 128)) 27)) (Obj.cells (ba (zeros 128)) 27))
         have Qfc := Lib.hid (ba_old (ba_old Qfb.out (Obj.cells (ba (zeros 128)) 27)) (Obj.cells (ba (zeros 128)) 27))
         have Y0g := Lib.hid (ba_old (ba_new hB (zeros 128) 27) (Obj.cells (ba (zeros 128)) 27))
         have Q0g := Lib.hid (ba_new (size_al hB (Obj.cells (ba (zeros 128)) 27)) (zeros 128) 27)
         have BS : Hid (S ≤ B) := by show _ ≤ _; rw [← hB]; exact SVbg.out
         have B1fc : Hid (Below S w ((x2.alloc (Obj.cells (ba (zeros 128)) 27)).alloc (Obj.cells (ba (zeros 128)) 27))) := (B1fb.out.alloc (by rw [hB]; exact BS.out) _).alloc (by rw [World.size_alloc, hB]; have := BS.out; omega) _)
      | (refine wpList_store_rowTo rfl 27 (.tmp 14) (.tmp 52) rfl rfl B (ba yb) rfl rfl 27 (ba (zeros 128)) Y0g.out (sz q27 (by rw [ba_size, LYB.out])) (by rw [ba_size, ba_size, LYB.out, zeros_len]) (ba_one _) ?_
         have Y1g : Hid (BA (((x2.alloc (Obj.cells (ba (zeros 128)) 27)).alloc (Obj.cells (ba (zeros 128)) 27)).setRow B (ba yb)) B 27 yb) := setRow_heap _ _ _ _ _ _ Y0g.out
         have Q1g : Hid (BA (((x2.alloc (Obj.cells (ba (zeros 128)) 27)).alloc (Obj.cells (ba (zeros 128)) 27)).setRow B (ba yb)) (B + 1) 27 (zeros 128)) := (setRow_other _ _ _ _ (by omega)).trans Q0g.out
         have G1fd : Hid (BA (((x2.alloc (Obj.cells (ba (zeros 128)) 27)).alloc (Obj.cells (ba (zeros 128)) 27)).setRow B (ba yb)) (G) 23 xm) := (setRow_other _ _ _ _ (by have := G1fl.out; omega)).trans G1fc.out
         have H1fd : Hid (BA (((x2.alloc (Obj.cells (ba (zeros 128)) 27)).alloc (Obj.cells (ba (zeros 128)) 27)).setRow B (ba yb)) (H) 23 ym) := (setRow_other _ _ _ _ (by have := H1fl.out; omega)).trans H1fc.out
         have T1fd : Hid (BA (((x2.alloc (Obj.cells (ba (zeros 128)) 27)).alloc (Obj.cells (ba (zeros 128)) 27)).setRow B (ba yb)) (T) 48 K) := (setRow_other _ _ _ _ (by have := T1fl.out; omega)).trans T1fc.out
         have Yfd : Hid (BA (((x2.alloc (Obj.cells (ba (zeros 128)) 27)).alloc (Obj.cells (ba (zeros 128)) 27)).setRow B (ba yb)) (A) 27 ya) := (setRow_other _ _ _ _ (by have := Yfl.out; omega)).trans Yfc.out
         have Qfd : Hid (BA (((x2.alloc (Obj.cells (ba (zeros 128)) 27)).alloc (Obj.cells (ba (zeros 128)) 27)).setRow B (ba yb)) (A + 1) 27 za) := (setRow_other _ _ _ _ (by have := Qfl.out; omega)).trans Qfc.out
         have B1fd : Hid (Below S w (((x2.alloc (Obj.cells (ba (zeros 128)) 27)).alloc (Obj.cells (ba (zeros 128)) 27)).setRow B (ba yb))) := below_setRow B1fc.out BS.out _)
      | (refine wpList_store_rowTo rfl 27 (.tmp 15) (.tmp 53) rfl rfl (B + 1) (ba zb) rfl rfl 27 (ba (zeros 128)) Q1g.out (sz q27 (by rw [ba_size, LZB.out])) (by rw [ba_size, ba_size, LZB.out, zeros_len]) (ba_one _) ?_
         have Qg : Hid (BA ((((x2.alloc (Obj.cells (ba (zeros 128)) 27)).alloc (Obj.cells (ba (zeros 128)) 27)).setRow B (ba yb)).setRow (B + 1) (ba zb)) (B + 1) 27 zb) := setRow_heap _ _ _ _ _ _ Q1g.out
         have Yg : Hid (BA ((((x2.alloc (Obj.cells (ba (zeros 128)) 27)).alloc (Obj.cells (ba (zeros 128)) 27)).setRow B (ba yb)).setRow (B + 1) (ba zb)) B 27 yb) := (setRow_other _ _ _ _ (by omega)).trans Y1g.out
         have G1fg : Hid (BA ((((x2.alloc (Obj.cells (ba (zeros 128)) 27)).alloc (Obj.cells (ba (zeros 128)) 27)).setRow B (ba yb)).setRow (B + 1) (ba zb)) (G) 23 xm) := (setRow_other _ _ _ _ (by have := G1fl.out; omega)).trans G1fd.out
         have H1fg : Hid (BA ((((x2.alloc (Obj.cells (ba (zeros 128)) 27)).alloc (Obj.cells (ba (zeros 128)) 27)).setRow B (ba yb)).setRow (B + 1) (ba zb)) (H) 23 ym) := (setRow_other _ _ _ _ (by have := H1fl.out; omega)).trans H1fd.out
         have T1fg : Hid (BA ((((x2.alloc (Obj.cells (ba (zeros 128)) 27)).alloc (Obj.cells (ba (zeros 128)) 27)).setRow B (ba yb)).setRow (B + 1) (ba zb)) (T) 48 K) := (setRow_other _ _ _ _ (by have := T1fl.out; omega)).trans T1fd.out
         have Yfg : Hid (BA ((((x2.alloc (Obj.cells (ba (zeros 128)) 27)).alloc (Obj.cells (ba (zeros 128)) 27)).setRow B (ba yb)).setRow (B + 1) (ba zb)) (A) 27 ya) := (setRow_other _ _ _ _ (by have := Yfl.out; omega)).trans Yfd.out
         have Qfg : Hid (BA ((((x2.alloc (Obj.cells (ba (zeros 128)) 27)).alloc (Obj.cells (ba (zeros 128)) 27)).setRow B (ba yb)).setRow (B + 1) (ba zb)) (A + 1) 27 za) := (setRow_other _ _ _ _ (by have := Qfl.out; omega)).trans Qfd.out
         have B1fg : Hid (Below S w ((((x2.alloc (Obj.cells (ba (zeros 128)) 27)).alloc (Obj.cells (ba (zeros 128)) 27)).setRow B (ba yb)).setRow (B + 1) (ba zb))) := below_setRow B1fd.out (by have := BS.out; omega) _
         have SVw3 : Hid (S ≤ ((((x2.alloc (Obj.cells (ba (zeros 128)) 27)).alloc (Obj.cells (ba (zeros 128)) 27)).setRow B (ba yb)).setRow (B + 1) (ba zb)).heap.size) := Nat.le_trans BS.out (Nat.le_of_lt (lt_of_block Yg.out))
         clear Y0g Q0g Y1g Q1g hB G1f G1fb G1fc G1fd G1fl H1f H1fb H1fc H1fd H1fl T1f T1fb T1fc T1fd T1fl Yf Yfb Yfc Yfd Yfl Qf Qfb Qfc Qfd Qfl B1fb B1fc B1fd
         generalize ((((x2.alloc (Obj.cells (ba (zeros 128)) 27)).alloc (Obj.cells (ba (zeros 128)) 27)).setRow B (ba yb)).setRow (B + 1) (ba zb)) = w3 at *
         obtain ⟨M, hM⟩ : ∃ M, w3.heap.size = M := ⟨_, rfl⟩
         have M0 := Lib.hid (ba_old (ba_old (ba_new hM (zeros 8) 23) (Obj.cells (ba (zeros 128)) 27)) (Obj.cells (ba (zeros 128)) 27))
         have P0 := Lib.hid (ba_old (ba_new (size_al hM (Obj.cells (ba (zeros 8)) 23)) (zeros 128) 27) (Obj.cells (ba (zeros 128)) 27))
         have Q0 := Lib.hid (ba_new (size_al (size_al hM (Obj.cells (ba (zeros 8)) 23)) (Obj.cells (ba (zeros 128)) 27)) (zeros 128) 27)
         have X0 : Hid (Below M w3 (((w3.alloc (Obj.cells (ba (zeros 8)) 23)).alloc (Obj.cells (ba (zeros 128)) 27)).alloc (Obj.cells (ba (zeros 128)) 27))) := (((Below.refl M w3).alloc (Nat.le_of_eq hM.symm) _).alloc (by rw [World.size_alloc, hM]; omega) _).alloc (by rw [World.size_alloc, World.size_alloc, hM]; omega) _)
      | fail)
    clear hS
    generalize (((w3.alloc (Obj.cells (ba (zeros 8)) 23)).alloc (Obj.cells (ba (zeros 128)) 27)).alloc (Obj.cells (ba (zeros 128)) 27)) = w6 at *
    have LM : Hid (S + 1 < M ∧ G < M ∧ H < M ∧ T < M ∧ A + 1 < M ∧ B + 1 < M) := by
      show _ ∧ _
      rw [← hM]
      exact ⟨by have := lt_of_block T1fg.out; have := TS.out; omega, lt_of_block G1fg.out, lt_of_block H1fg.out, lt_of_block T1fg.out, lt_of_block Qfg.out, lt_of_block Qg.out⟩
    have WM : Hid (w3.heap.size = M) := hM
    clear hM
    go_loopw [19] (fun c wr => ∃ s : Nat, s ≤ 16 ∧ c = .int .i64 s ∧ BA wr M 23 (mu f s) ∧ BA wr (M + 1) 27 (cat (oG K f) s ++ zeros (128 - 8 * s)) ∧ BA wr (M + 2) 27 (cat (hG K f) s ++ zeros (128 - 8 * s)) ∧ Below M w3 wr) (fun c _ => 16 - (intOf c).toNat)
    case atStart => exact ⟨0, by omega, rfl, by rw [mu_zero]; exact M0.out, by rw [cat_zero]; exact P0.out, by rw [cat_zero]; exact Q0.out, X0.out⟩
    case round =>
      clear M0 P0 Q0 X0
      obtain ⟨s, hs, rfl, hm, hp, hq, hb⟩ := hrel
      have MR := Lib.hid hm
      have PR := Lib.hid hp
      have QR := Lib.hid hq
      have BR := Lib.hid hb
      clear hm hp hq hb
      by_cases hlt : s < 16
      · have s0 : (0 : Int) ≤ (s : Int) := by omega
        have s1 : (s : Int) < 16 := by omega
        have HS16 : Hid (s < 16) := hlt
        have st : (s : Int).toNat = s := by omega
        have sm : min s 16 = s := by omega
        have wus := wu64 s (by omega)
        obtain ⟨dm, hdm⟩ : ∃ d, mix / 2 ^ s = d := ⟨_, rfl⟩
        have hdl : dm < 65536 := by rw [← hdm]; exact Nat.lt_of_le_of_lt (Nat.div_le_self _ _) HMIX.out
        have edm : (mix : Int) / 2 ^ s = (dm : Int) := by rw [← hdm]; simp
        have eam := and16 dm hdl
        rcases Nat.mod_two_eq_zero_or_one dm with hbit | hbit
        rotate_left
        · rw [hbit] at eam
          rw [← hdm] at hbit
          simp only [Int.natCast_one] at eam
          clear hdm hdl
          have hfs : f s = bt xm s := by rw [← HF.out]; exact cF_one hbit
          obtain ⟨a, ha⟩ : ∃ a, openF K xm s = a := ⟨_, rfl⟩
          obtain ⟨u, hu⟩ : ∃ a, shutF K xm s = a := ⟨_, rfl⟩
          have LA : Hid (a.length = 8) := by rw [← ha]; exact openF_len K _ LK.out s hlt
          have LU : Hid (u.length = 8) := by rw [← hu]; exact shutF_len K _ s
          have a1 : at8 ya s = a := by rw [← HCX.out.2.2.1, at8_open K _ LK.out s hlt, ha]
          have a2 : at8 za s = u := by rw [← HCX.out.2.2.2, at8_shut K _ s hlt, hu]
          have HCO : Hid (cat (oG K f) (s + 1) = cat (oG K f) s ++ a) := by show _ = _; rw [cat_succ, show oG K f s = a by rw [← ha]; unfold oG openF; rw [hfs]]
          have HCH : Hid (cat (hG K f) (s + 1) = cat (hG K f) s ++ u) := by show _ = _; rw [cat_succ, show hG K f s = u by rw [← hu]; unfold hG shutF; rw [hfs]]
          have hia : (Tryd.prog.info? 23).map (·.size) = some (bvals a).length := by rw [s27]; simp [bvals, LA.out]
          have hiu : (Tryd.prog.info? 23).map (·.size) = some (bvals u).length := by rw [s27]; simp [bvals, LU.out]
          have ida : (Tryd.prog.info? 23).map (·.size) = some a.length := by rw [s27, LA.out]
          have idu : (Tryd.prog.info? 23).map (·.size) = some u.length := by rw [s27, LU.out]
          have RA : Hid (∀ w' : World, w'.heap[A]? = wr.heap[A]? → w'.rangeAt (A) (s * 8) (bvals a)) := fun w' h => by rw [← a1]; exact range8 (h.trans ((BR.out.block _ (by have := LM.out; omega)).trans Yfg.out)) rfl (by rw [LYA.out]; have := HS16.out; omega)
          have RU : Hid (∀ w' : World, w'.heap[A + 1]? = wr.heap[A + 1]? → w'.rangeAt (A + 1) (s * 8) (bvals u)) := fun w' h => by rw [← a2]; exact range8 (h.trans ((BR.out.block _ (by have := LM.out; omega)).trans Qfg.out)) rfl (by rw [LZA.out]; have := HS16.out; omega)
          have PD : Hid (BA wr.drew (M + 1) 27 (cat (oG K f) s ++ zeros (128 - 8 * s))) := PR.out
          have CLO : Hid ((cat (oG K f) s).length = s * 8) := by show _ = _; rw [cat_lenN _ s fun j hj => oG_len K f FL.out LK.out j (by omega)]; omega
          have CLH : Hid ((cat (hG K f) s).length = s * 8) := by show _ = _; rw [cat_lenN _ s fun j hj => hG_len K f j]; omega
          have mt := mu_at f s hlt
          have mst := mu_set f s hlt
          obtain ⟨q, hq⟩ : ∃ q, s / 8 = q := ⟨_, rfl⟩
          obtain ⟨e, he⟩ : ∃ r, s % 8 = r := ⟨_, rfl⟩
          rw [hq, he] at mt mst
          have fe : f (8 * q + e) = bt xm s := by rw [show 8 * q + e = s by omega, hfs]
          obtain ⟨g, hg⟩ : ∃ g : Nat → Nat, (fun j => f (8 * q + j)) = g := ⟨_, rfl⟩
          rw [hg] at mt mst
          have ge : g e = bt xm s := by rw [← hg]; exact fe
          have gl : ∀ j, g j ≤ 1 := by rw [← hg]; exact fun j => FL.out _
          have hbq := pow8 (bsum_lt g gl e) (by omega)
          have hor := bsum_or g gl e
          have hbn := pow8 (bsum_lt g gl (e + 1)) (by omega)
          have hxm := byt_getD BXM.out q (by rw [LXM.out]; omega)
          have hbm : bt xm s = (xm.getD q 0).toNat / 2 ^ e % 2 := by unfold bt; rw [hq, he]
          obtain ⟨xv, hxv⟩ : ∃ x, xm.getD q 0 = x := ⟨_, rfl⟩
          rw [hxv] at hxm hbm
          obtain ⟨nv, rfl⟩ := Int.eq_ofNat_of_zero_le hxm.1
          rw [Int.toNat_natCast] at hbm
          have hand := andu8 nv e (by omega) (by omega)
          rw [← hbm, ← ge] at hand
          obtain ⟨pw, hpw⟩ : ∃ p, 2 ^ e = p := ⟨_, rfl⟩
          have hpl : pw < 256 := by rw [← hpw]; exact Nat.lt_of_lt_of_le (Nat.pow_lt_pow_right (by decide) (show e < 8 by omega)) (by decide)
          rw [hpw] at hand hor
          obtain ⟨tv, htv⟩ : ∃ t, g e * pw = t := ⟨_, rfl⟩
          rw [htv] at hand hor
          have htl : tv < 256 := by rw [← htv]; exact Nat.lt_of_le_of_lt (Nat.mul_le_mul_right pw (gl e)) (by rw [Nat.one_mul]; exact hpl)
          obtain ⟨bq, hbqe⟩ : ∃ b, bsum g e = b := ⟨_, rfl⟩
          obtain ⟨bn, hbne⟩ : ∃ b, bsum g (e + 1) = b := ⟨_, rfl⟩
          rw [hbqe] at mt hbq hor
          rw [hbne] at mst hor hbn
          have hou := u8_or_nat bq tv hbq htl
          rw [hor] at hou
          have MST : Hid ((mu f s).set q (bn : Int) = mu f (s + 1)) := mst
          have MT : Hid ((mu f s).getD q 0 = (bq : Int)) := mt
          have HXV : Hid (xm.getD q 0 = (nv : Int)) := hxv
          have HQ8 : Hid (q < 8) := by show _ < _; omega
          have z1 : Int.tdiv (s : Int) 8 = (q : Int) := by rw [Int.tdiv_eq_ediv_of_nonneg (by omega)]; omega
          have z2 : (s : Int) / 8 = (q : Int) := by omega
          have z3 : Int.tmod (s : Int) 8 = (e : Int) := by rw [Int.tmod_eq_emod_of_nonneg (by omega)]; omega
          have z4 : (s : Int) % 8 = (e : Int) := by omega
          have q0 : (0 : Int) ≤ (q : Int) := by omega
          have q1 : (q : Int) < 8 := by omega
          have r0 : (0 : Int) ≤ (e : Int) := by omega
          have r1 : (e : Int) < 8 := by omega
          have rt : (e : Int).toNat = e := by omega
          have rm : min e 8 = e := by omega
          have wue := wu64 e (by omega)
          have wqq : IntKind.i64.wrap (q : Int) = (q : Int) := by rw [IntKind.wrap_i64]; omega
          have wee : IntKind.i64.wrap (e : Int) = (e : Int) := by rw [IntKind.wrap_i64]; omega
          have hpi : (2 : Int) ^ e = (pw : Int) := by rw [← hpw]; simp
          have hpw2 : IntKind.u8.wrap (pw : Int) = (pw : Int) := by rw [IntKind.wrap_u8']; omega
          generalize cat (oG K f) s = X at *
          generalize cat (hG K f) s = Y at *
          clear hfs ha hu a1 a2 mt mst hq he fe hg ge gl hxm hbm hxv hbit hpw htv hbqe hbne hor hbq hbn hpl htl
          go_wp2_with fail
          have XX : Hid (Below M wr wr.drew) := (Below.refl _ _).drew
          refine wp_region_held_drew (S := (fun w' : World => ∀ q, q < M → w'.heap[q]? = wr.heap[q]?)) (by kernel_rfl) (by exact fun _ _ => rfl) (fun hHeld => ?_)
          refine wpAnyH_take (i := 0) (v := ?_) rfl (by kernel_rfl) (by kernel_rfl) (by kernel_rfl) (fun _ _ _ h => h) (Or.inl ⟨by rfl, ?_⟩) (by assumption) ?_
          rotate_left
          · (intro w hSw; (try dsimp only at hSw); go_simp; try with_reducible rfl)
          simp only [Act.put, List.getElem_toArray, List.getElem_cons_zero, List.setIfInBounds_toArray, List.set_cons_zero, List.set_cons_succ]
          refine wpAnyH_take (i := 1) (v := ?_) rfl (by kernel_rfl) (by kernel_rfl) (by kernel_rfl) (fun _ _ _ h => h) (Or.inl ⟨by rfl, ?_⟩) (by assumption) ?_
          rotate_left
          · (intro w hSw; (try dsimp only at hSw); go_simp; try with_reducible rfl)
          simp only [Act.put, List.getElem_toArray, List.getElem_cons_succ, List.getElem_cons_zero, List.setIfInBounds_toArray, List.set_cons_zero, List.set_cons_succ]
          refine wpAnyH_take (i := 2) (v := ?_) rfl (by kernel_rfl) (by kernel_rfl) (by kernel_rfl) (fun _ _ _ h => h) (Or.inl ⟨by rfl, ?_⟩) (by assumption) ?_
          rotate_left
          · (intro w hSw; (try dsimp only at hSw); go_simp; try with_reducible rfl)
          simp only [Act.put, List.getElem_toArray, List.getElem_cons_succ, List.getElem_cons_zero, List.setIfInBounds_toArray, List.set_cons_zero, List.set_cons_succ]
          refine wpAnyH_take (i := 3) (v := ?_) rfl (by kernel_rfl) (by kernel_rfl) (by kernel_rfl) (fun _ _ _ h => h) (Or.inl ⟨by rfl, ?_⟩) (by assumption) ?_
          rotate_left
          · (intro w hSw; (try dsimp only at hSw); go_simp; try with_reducible rfl)
          simp only [Act.put, List.getElem_toArray, List.getElem_cons_succ, List.getElem_cons_zero, List.setIfInBounds_toArray, List.set_cons_zero, List.set_cons_succ]
          refine wpAnyH_take (i := 4) rfl (by kernel_rfl) (by kernel_rfl) (by kernel_rfl) (fun _ _ _ h => h) (yieldsIf_load_mid (by rfl) 23 (.tmp 67) rfl (A) (s * 8) rfl (bvals a) _ (fun w h => RA.out w (h _ (by have := LM.out; omega))) Tryd.underlying23 rfl hia) (by assumption) ?_
          simp only [Act.put, List.getElem_toArray, List.getElem_cons_succ, List.getElem_cons_zero, List.setIfInBounds_toArray, List.set_cons_zero, List.set_cons_succ]
          refine wpAnyH_take (i := 5) (v := ?_) rfl (by kernel_rfl) (by kernel_rfl) (by kernel_rfl) (fun _ _ _ h => h) (Or.inl ⟨by rfl, ?_⟩) (by assumption) ?_
          rotate_left
          · (intro w hSw; (try dsimp only at hSw); go_simp; try with_reducible rfl)
          simp only [Act.put, List.getElem_toArray, List.getElem_cons_succ, List.getElem_cons_zero, List.setIfInBounds_toArray, List.set_cons_zero, List.set_cons_succ]
          refine wpAnyH_take (i := 6) (v := ?_) rfl (by kernel_rfl) (by kernel_rfl) (by kernel_rfl) (fun _ _ _ h => h) (Or.inl ⟨by rfl, ?_⟩) (by assumption) ?_
          rotate_left
          · (intro w hSw; (try dsimp only at hSw); go_simp; try with_reducible rfl)
          simp only [Act.put, List.getElem_toArray, List.getElem_cons_succ, List.getElem_cons_zero, List.setIfInBounds_toArray, List.set_cons_zero, List.set_cons_succ]
          refine wpAnyH_take (i := 7) rfl (by kernel_rfl) (by kernel_rfl) (by kernel_rfl) (fun _ _ _ h => h) (yieldsIf_load_mid (by rfl) 23 (.tmp 70) rfl (A + 1) (s * 8) rfl (bvals u) _ (fun w h => RU.out w (h _ (by have := LM.out; omega))) Tryd.underlying23 rfl hiu) (by assumption) ?_
          simp only [Act.put, List.getElem_toArray, List.getElem_cons_succ, List.getElem_cons_zero, List.setIfInBounds_toArray, List.set_cons_zero, List.set_cons_succ]
          refine wpAnyH_take (i := 8) (v := ?_) rfl (by kernel_rfl) (by kernel_rfl) (by kernel_rfl) (fun _ _ _ h => h) (Or.inl ⟨by rfl, ?_⟩) (by assumption) ?_
          rotate_left
          · (intro w hSw; (try dsimp only at hSw); go_simp; try with_reducible rfl)
          simp only [Act.put, List.getElem_toArray, List.getElem_cons_succ, List.getElem_cons_zero, List.setIfInBounds_toArray, List.set_cons_zero, List.set_cons_succ]
          refine wpAnyH_ready (rs := [9]) (by kernel_rfl) (by simp) ?_
          refine AllReadyH.cons rfl (fun Kq hKq => ?_) AllReadyH.nil
          refine step_at2 rfl 23 (.tmp 72) (.tmp 68) rfl (M + 1) (s * 8) a rfl rfl (ba_there PD.out _ _ (by rw [List.length_append, CLO.out, zeros_len, LA.out]; have := HS16.out; omega)) ida ?_
          have PN : Hid (BA (wr.drew.setCells (M + 1) (s * 8) (bvals a)) (M + 1) 27 (cat (oG K f) (s + 1) ++ zeros (128 - 8 * (s + 1)))) := by { rw [HCO.out, show 128 - 8 * (s + 1) = 128 - 8 * s - 8 by omega]; have := set_app (y := a) PD.out CLO.out (by rw [LA.out]; have := HS16.out; omega); rw [LA.out] at this; exact this }
          have QN : Hid (BA (wr.drew.setCells (M + 1) (s * 8) (bvals a)) (M + 2) 27 (Y ++ zeros (128 - 8 * s))) := (heap_setCells (by omega) _ _ _).trans QR.out
          have MN : Hid (BA (wr.drew.setCells (M + 1) (s * 8) (bvals a)) M 23 (mu f s)) := (heap_setCells (by omega) _ _ _).trans MR.out
          have X1 : Hid (Below M wr (wr.drew.setCells (M + 1) (s * 8) (bvals a))) := below_setCells (by omega) _ _ (Below.refl M wr).drew
          generalize wr.drew.setCells (M + 1) (s * 8) (bvals a) = v1 at *
          clear XX
          refine hKq.out _ _ (by exact fun q hq => X1.out.block q hq) (fun hHeld => ?_)
          clear hKq Kq
          simp only [Act.put, List.getElem_toArray, List.getElem_cons_succ, List.getElem_cons_zero]
          refine wpAnyH_take (i := 10) (v := ?_) rfl (by kernel_rfl) (by kernel_rfl) (by kernel_rfl) (fun _ _ _ h => h) (Or.inl ⟨by rfl, ?_⟩) (by assumption) ?_
          rotate_left
          · (intro w hSw; (try dsimp only at hSw); go_simp; try with_reducible rfl)
          simp only [Act.put, List.getElem_toArray, List.getElem_cons_succ, List.getElem_cons_zero, List.setIfInBounds_toArray, List.set_cons_zero, List.set_cons_succ]
          refine wpAnyH_ready (rs := [11]) (by kernel_rfl) (by simp) ?_
          refine AllReadyH.cons rfl (fun Kq hKq => ?_) AllReadyH.nil
          refine step_at2 rfl 23 (.tmp 73) (.tmp 71) rfl (M + 2) (s * 8) u rfl rfl (ba_there QN.out _ _ (by rw [List.length_append, CLH.out, zeros_len, LU.out]; have := HS16.out; omega)) idu ?_
          have QO : Hid (BA (v1.setCells (M + 2) (s * 8) (bvals u)) (M + 2) 27 (cat (hG K f) (s + 1) ++ zeros (128 - 8 * (s + 1)))) := by { rw [HCH.out, show 128 - 8 * (s + 1) = 128 - 8 * s - 8 by omega]; have := set_app (y := u) QN.out CLH.out (by rw [LU.out]; have := HS16.out; omega); rw [LU.out] at this; exact this }
          have PO : Hid (BA (v1.setCells (M + 2) (s * 8) (bvals u)) (M + 1) 27 (cat (oG K f) (s + 1) ++ zeros (128 - 8 * (s + 1)))) := (heap_setCells (by omega) _ _ _).trans PN.out
          have MO : Hid (BA (v1.setCells (M + 2) (s * 8) (bvals u)) M 23 (mu f s)) := (heap_setCells (by omega) _ _ _).trans MN.out
          have X2 : Hid (Below M wr (v1.setCells (M + 2) (s * 8) (bvals u))) := below_setCells (by omega) _ _ X1.out
          generalize v1.setCells (M + 2) (s * 8) (bvals u) = v2 at *
          refine hKq.out _ _ (by exact fun q hq => X2.out.block q hq) (fun hHeld => ?_)
          clear hKq Kq
          simp only [Act.put, List.getElem_toArray, List.getElem_cons_succ, List.getElem_cons_zero]
          refine wpAnyH_done (by kernel_rfl) ?_ _
          have GV : Hid (BA v2 G 23 xm) := (X2.out.block _ (by have := LM.out; omega)).trans ((BR.out.block _ (by have := LM.out; omega)).trans G1fg.out)
          have BV : Hid (Below M w3 v2) := BR.out.trans X2.out
          have cm := ba_cell MO.out q (by rw [mu_len]; exact HQ8.out)
          rw [MT.out] at cm
          have cg := ba_cell GV.out q (by rw [LXM.out]; exact HQ8.out)
          rw [HXV.out] at cg
          have f0 := fun i => free_of MO.out i
          clear hHeld PR QR MR PN QN MN X1 PD RA RU hia hiu ida idu
          go_wp2_with fail
          go_still_tail 15, (by kernel_rfl)
          change wpList _ _ _ _ _ v2.drew
          have f3 : ∀ i, v2.drew.frozen? ⟨M, i, none⟩ = false := f0
          have cm3 : v2.drew.cell? ⟨M, q, none⟩ = some (.int .u8 (bq : Int)) := cm
          have MO3 : Hid (BA v2.drew M 23 (mu f s)) := MO.out
          have PO3 : Hid (BA v2.drew (M + 1) 27 (cat (oG K f) (s + 1) ++ zeros (128 - 8 * (s + 1)))) := PO.out
          have QO3 : Hid (BA v2.drew (M + 2) 27 (cat (hG K f) (s + 1) ++ zeros (128 - 8 * (s + 1)))) := QO.out
          have BV3 : Hid (Below M w3 v2.drew) := BV.out.drew
          clear cm cg f0 MO PO QO BV X2 GV
          generalize v2.drew = v3 at *
          go_wp2_with fail
          go_roundw
          case rel => exact ⟨s + 1, by have := HS16.out; omega, by go_num, by rw [← MST.out]; exact ba_set MO3.out q (bn : Int), heap_else q _ (by omega) PO3.out, heap_else q _ (by omega) QO3.out, BV3.out.setCell (Nat.le_refl _) _⟩
          case measure => have := HS16.out; simp [intOf]; omega
        · rw [hbit] at eam
          rw [← hdm] at hbit
          simp only [Int.natCast_zero] at eam
          clear hdm hdl
          have hfs : f s = bt ym s := by rw [← HF.out]; exact cF_two hbit
          obtain ⟨a, ha⟩ : ∃ a, openF K ym s = a := ⟨_, rfl⟩
          obtain ⟨u, hu⟩ : ∃ a, shutF K ym s = a := ⟨_, rfl⟩
          have LA : Hid (a.length = 8) := by rw [← ha]; exact openF_len K _ LK.out s hlt
          have LU : Hid (u.length = 8) := by rw [← hu]; exact shutF_len K _ s
          have a1 : at8 yb s = a := by rw [← HCY.out.2.2.1, at8_open K _ LK.out s hlt, ha]
          have a2 : at8 zb s = u := by rw [← HCY.out.2.2.2, at8_shut K _ s hlt, hu]
          have HCO : Hid (cat (oG K f) (s + 1) = cat (oG K f) s ++ a) := by show _ = _; rw [cat_succ, show oG K f s = a by rw [← ha]; unfold oG openF; rw [hfs]]
          have HCH : Hid (cat (hG K f) (s + 1) = cat (hG K f) s ++ u) := by show _ = _; rw [cat_succ, show hG K f s = u by rw [← hu]; unfold hG shutF; rw [hfs]]
          have hia : (Tryd.prog.info? 23).map (·.size) = some (bvals a).length := by rw [s27]; simp [bvals, LA.out]
          have hiu : (Tryd.prog.info? 23).map (·.size) = some (bvals u).length := by rw [s27]; simp [bvals, LU.out]
          have ida : (Tryd.prog.info? 23).map (·.size) = some a.length := by rw [s27, LA.out]
          have idu : (Tryd.prog.info? 23).map (·.size) = some u.length := by rw [s27, LU.out]
          have RA : Hid (∀ w' : World, w'.heap[B]? = wr.heap[B]? → w'.rangeAt (B) (s * 8) (bvals a)) := fun w' h => by rw [← a1]; exact range8 (h.trans ((BR.out.block _ (by have := LM.out; omega)).trans Yg.out)) rfl (by rw [LYB.out]; have := HS16.out; omega)
          have RU : Hid (∀ w' : World, w'.heap[B + 1]? = wr.heap[B + 1]? → w'.rangeAt (B + 1) (s * 8) (bvals u)) := fun w' h => by rw [← a2]; exact range8 (h.trans ((BR.out.block _ (by have := LM.out; omega)).trans Qg.out)) rfl (by rw [LZB.out]; have := HS16.out; omega)
          have PD : Hid (BA wr.drew (M + 1) 27 (cat (oG K f) s ++ zeros (128 - 8 * s))) := PR.out
          have CLO : Hid ((cat (oG K f) s).length = s * 8) := by show _ = _; rw [cat_lenN _ s fun j hj => oG_len K f FL.out LK.out j (by omega)]; omega
          have CLH : Hid ((cat (hG K f) s).length = s * 8) := by show _ = _; rw [cat_lenN _ s fun j hj => hG_len K f j]; omega
          have mt := mu_at f s hlt
          have mst := mu_set f s hlt
          obtain ⟨q, hq⟩ : ∃ q, s / 8 = q := ⟨_, rfl⟩
          obtain ⟨e, he⟩ : ∃ r, s % 8 = r := ⟨_, rfl⟩
          rw [hq, he] at mt mst
          have fe : f (8 * q + e) = bt ym s := by rw [show 8 * q + e = s by omega, hfs]
          obtain ⟨g, hg⟩ : ∃ g : Nat → Nat, (fun j => f (8 * q + j)) = g := ⟨_, rfl⟩
          rw [hg] at mt mst
          have ge : g e = bt ym s := by rw [← hg]; exact fe
          have gl : ∀ j, g j ≤ 1 := by rw [← hg]; exact fun j => FL.out _
          have hbq := pow8 (bsum_lt g gl e) (by omega)
          have hor := bsum_or g gl e
          have hbn := pow8 (bsum_lt g gl (e + 1)) (by omega)
          have hxm := byt_getD BYM.out q (by rw [LYM.out]; omega)
          have hbm : bt ym s = (ym.getD q 0).toNat / 2 ^ e % 2 := by unfold bt; rw [hq, he]
          obtain ⟨xv, hxv⟩ : ∃ x, ym.getD q 0 = x := ⟨_, rfl⟩
          rw [hxv] at hxm hbm
          obtain ⟨nv, rfl⟩ := Int.eq_ofNat_of_zero_le hxm.1
          rw [Int.toNat_natCast] at hbm
          have hand := andu8 nv e (by omega) (by omega)
          rw [← hbm, ← ge] at hand
          obtain ⟨pw, hpw⟩ : ∃ p, 2 ^ e = p := ⟨_, rfl⟩
          have hpl : pw < 256 := by rw [← hpw]; exact Nat.lt_of_lt_of_le (Nat.pow_lt_pow_right (by decide) (show e < 8 by omega)) (by decide)
          rw [hpw] at hand hor
          obtain ⟨tv, htv⟩ : ∃ t, g e * pw = t := ⟨_, rfl⟩
          rw [htv] at hand hor
          have htl : tv < 256 := by rw [← htv]; exact Nat.lt_of_le_of_lt (Nat.mul_le_mul_right pw (gl e)) (by rw [Nat.one_mul]; exact hpl)
          obtain ⟨bq, hbqe⟩ : ∃ b, bsum g e = b := ⟨_, rfl⟩
          obtain ⟨bn, hbne⟩ : ∃ b, bsum g (e + 1) = b := ⟨_, rfl⟩
          rw [hbqe] at mt hbq hor
          rw [hbne] at mst hor hbn
          have hou := u8_or_nat bq tv hbq htl
          rw [hor] at hou
          have MST : Hid ((mu f s).set q (bn : Int) = mu f (s + 1)) := mst
          have MT : Hid ((mu f s).getD q 0 = (bq : Int)) := mt
          have HXV : Hid (ym.getD q 0 = (nv : Int)) := hxv
          have HQ8 : Hid (q < 8) := by show _ < _; omega
          have z1 : Int.tdiv (s : Int) 8 = (q : Int) := by rw [Int.tdiv_eq_ediv_of_nonneg (by omega)]; omega
          have z2 : (s : Int) / 8 = (q : Int) := by omega
          have z3 : Int.tmod (s : Int) 8 = (e : Int) := by rw [Int.tmod_eq_emod_of_nonneg (by omega)]; omega
          have z4 : (s : Int) % 8 = (e : Int) := by omega
          have q0 : (0 : Int) ≤ (q : Int) := by omega
          have q1 : (q : Int) < 8 := by omega
          have r0 : (0 : Int) ≤ (e : Int) := by omega
          have r1 : (e : Int) < 8 := by omega
          have rt : (e : Int).toNat = e := by omega
          have rm : min e 8 = e := by omega
          have wue := wu64 e (by omega)
          have wqq : IntKind.i64.wrap (q : Int) = (q : Int) := by rw [IntKind.wrap_i64]; omega
          have wee : IntKind.i64.wrap (e : Int) = (e : Int) := by rw [IntKind.wrap_i64]; omega
          have hpi : (2 : Int) ^ e = (pw : Int) := by rw [← hpw]; simp
          have hpw2 : IntKind.u8.wrap (pw : Int) = (pw : Int) := by rw [IntKind.wrap_u8']; omega
          generalize cat (oG K f) s = X at *
          generalize cat (hG K f) s = Y at *
          clear hfs ha hu a1 a2 mt mst hq he fe hg ge gl hxm hbm hxv hbit hpw htv hbqe hbne hor hbq hbn hpl htl
          go_wp2_with fail
          have XX : Hid (Below M wr wr.drew) := (Below.refl _ _).drew
          refine wp_region_held_drew (S := (fun w' : World => ∀ q, q < M → w'.heap[q]? = wr.heap[q]?)) (by kernel_rfl) (by exact fun _ _ => rfl) (fun hHeld => ?_)
          refine wpAnyH_take (i := 0) (v := ?_) rfl (by kernel_rfl) (by kernel_rfl) (by kernel_rfl) (fun _ _ _ h => h) (Or.inl ⟨by rfl, ?_⟩) (by assumption) ?_
          rotate_left
          · (intro w hSw; (try dsimp only at hSw); go_simp; try with_reducible rfl)
          simp only [Act.put, List.getElem_toArray, List.getElem_cons_zero, List.setIfInBounds_toArray, List.set_cons_zero, List.set_cons_succ]
          refine wpAnyH_take (i := 1) (v := ?_) rfl (by kernel_rfl) (by kernel_rfl) (by kernel_rfl) (fun _ _ _ h => h) (Or.inl ⟨by rfl, ?_⟩) (by assumption) ?_
          rotate_left
          · (intro w hSw; (try dsimp only at hSw); go_simp; try with_reducible rfl)
          simp only [Act.put, List.getElem_toArray, List.getElem_cons_succ, List.getElem_cons_zero, List.setIfInBounds_toArray, List.set_cons_zero, List.set_cons_succ]
          refine wpAnyH_take (i := 2) (v := ?_) rfl (by kernel_rfl) (by kernel_rfl) (by kernel_rfl) (fun _ _ _ h => h) (Or.inl ⟨by rfl, ?_⟩) (by assumption) ?_
          rotate_left
          · (intro w hSw; (try dsimp only at hSw); go_simp; try with_reducible rfl)
          simp only [Act.put, List.getElem_toArray, List.getElem_cons_succ, List.getElem_cons_zero, List.setIfInBounds_toArray, List.set_cons_zero, List.set_cons_succ]
          refine wpAnyH_take (i := 3) (v := ?_) rfl (by kernel_rfl) (by kernel_rfl) (by kernel_rfl) (fun _ _ _ h => h) (Or.inl ⟨by rfl, ?_⟩) (by assumption) ?_
          rotate_left
          · (intro w hSw; (try dsimp only at hSw); go_simp; try with_reducible rfl)
          simp only [Act.put, List.getElem_toArray, List.getElem_cons_succ, List.getElem_cons_zero, List.setIfInBounds_toArray, List.set_cons_zero, List.set_cons_succ]
          refine wpAnyH_take (i := 4) rfl (by kernel_rfl) (by kernel_rfl) (by kernel_rfl) (fun _ _ _ h => h) (yieldsIf_load_mid (by rfl) 23 (.tmp 92) rfl (B) (s * 8) rfl (bvals a) _ (fun w h => RA.out w (h _ (by have := LM.out; omega))) Tryd.underlying23 rfl hia) (by assumption) ?_
          simp only [Act.put, List.getElem_toArray, List.getElem_cons_succ, List.getElem_cons_zero, List.setIfInBounds_toArray, List.set_cons_zero, List.set_cons_succ]
          refine wpAnyH_take (i := 5) (v := ?_) rfl (by kernel_rfl) (by kernel_rfl) (by kernel_rfl) (fun _ _ _ h => h) (Or.inl ⟨by rfl, ?_⟩) (by assumption) ?_
          rotate_left
          · (intro w hSw; (try dsimp only at hSw); go_simp; try with_reducible rfl)
          simp only [Act.put, List.getElem_toArray, List.getElem_cons_succ, List.getElem_cons_zero, List.setIfInBounds_toArray, List.set_cons_zero, List.set_cons_succ]
          refine wpAnyH_take (i := 6) (v := ?_) rfl (by kernel_rfl) (by kernel_rfl) (by kernel_rfl) (fun _ _ _ h => h) (Or.inl ⟨by rfl, ?_⟩) (by assumption) ?_
          rotate_left
          · (intro w hSw; (try dsimp only at hSw); go_simp; try with_reducible rfl)
          simp only [Act.put, List.getElem_toArray, List.getElem_cons_succ, List.getElem_cons_zero, List.setIfInBounds_toArray, List.set_cons_zero, List.set_cons_succ]
          refine wpAnyH_take (i := 7) rfl (by kernel_rfl) (by kernel_rfl) (by kernel_rfl) (fun _ _ _ h => h) (yieldsIf_load_mid (by rfl) 23 (.tmp 95) rfl (B + 1) (s * 8) rfl (bvals u) _ (fun w h => RU.out w (h _ (by have := LM.out; omega))) Tryd.underlying23 rfl hiu) (by assumption) ?_
          simp only [Act.put, List.getElem_toArray, List.getElem_cons_succ, List.getElem_cons_zero, List.setIfInBounds_toArray, List.set_cons_zero, List.set_cons_succ]
          refine wpAnyH_take (i := 8) (v := ?_) rfl (by kernel_rfl) (by kernel_rfl) (by kernel_rfl) (fun _ _ _ h => h) (Or.inl ⟨by rfl, ?_⟩) (by assumption) ?_
          rotate_left
          · (intro w hSw; (try dsimp only at hSw); go_simp; try with_reducible rfl)
          simp only [Act.put, List.getElem_toArray, List.getElem_cons_succ, List.getElem_cons_zero, List.setIfInBounds_toArray, List.set_cons_zero, List.set_cons_succ]
          refine wpAnyH_ready (rs := [9]) (by kernel_rfl) (by simp) ?_
          refine AllReadyH.cons rfl (fun Kq hKq => ?_) AllReadyH.nil
          refine step_at2 rfl 23 (.tmp 97) (.tmp 93) rfl (M + 1) (s * 8) a rfl rfl (ba_there PD.out _ _ (by rw [List.length_append, CLO.out, zeros_len, LA.out]; have := HS16.out; omega)) ida ?_
          have PN : Hid (BA (wr.drew.setCells (M + 1) (s * 8) (bvals a)) (M + 1) 27 (cat (oG K f) (s + 1) ++ zeros (128 - 8 * (s + 1)))) := by { rw [HCO.out, show 128 - 8 * (s + 1) = 128 - 8 * s - 8 by omega]; have := set_app (y := a) PD.out CLO.out (by rw [LA.out]; have := HS16.out; omega); rw [LA.out] at this; exact this }
          have QN : Hid (BA (wr.drew.setCells (M + 1) (s * 8) (bvals a)) (M + 2) 27 (Y ++ zeros (128 - 8 * s))) := (heap_setCells (by omega) _ _ _).trans QR.out
          have MN : Hid (BA (wr.drew.setCells (M + 1) (s * 8) (bvals a)) M 23 (mu f s)) := (heap_setCells (by omega) _ _ _).trans MR.out
          have X1 : Hid (Below M wr (wr.drew.setCells (M + 1) (s * 8) (bvals a))) := below_setCells (by omega) _ _ (Below.refl M wr).drew
          generalize wr.drew.setCells (M + 1) (s * 8) (bvals a) = v1 at *
          clear XX
          refine hKq.out _ _ (by exact fun q hq => X1.out.block q hq) (fun hHeld => ?_)
          clear hKq Kq
          simp only [Act.put, List.getElem_toArray, List.getElem_cons_succ, List.getElem_cons_zero]
          refine wpAnyH_take (i := 10) (v := ?_) rfl (by kernel_rfl) (by kernel_rfl) (by kernel_rfl) (fun _ _ _ h => h) (Or.inl ⟨by rfl, ?_⟩) (by assumption) ?_
          rotate_left
          · (intro w hSw; (try dsimp only at hSw); go_simp; try with_reducible rfl)
          simp only [Act.put, List.getElem_toArray, List.getElem_cons_succ, List.getElem_cons_zero, List.setIfInBounds_toArray, List.set_cons_zero, List.set_cons_succ]
          refine wpAnyH_ready (rs := [11]) (by kernel_rfl) (by simp) ?_
          refine AllReadyH.cons rfl (fun Kq hKq => ?_) AllReadyH.nil
          refine step_at2 rfl 23 (.tmp 98) (.tmp 96) rfl (M + 2) (s * 8) u rfl rfl (ba_there QN.out _ _ (by rw [List.length_append, CLH.out, zeros_len, LU.out]; have := HS16.out; omega)) idu ?_
          have QO : Hid (BA (v1.setCells (M + 2) (s * 8) (bvals u)) (M + 2) 27 (cat (hG K f) (s + 1) ++ zeros (128 - 8 * (s + 1)))) := by { rw [HCH.out, show 128 - 8 * (s + 1) = 128 - 8 * s - 8 by omega]; have := set_app (y := u) QN.out CLH.out (by rw [LU.out]; have := HS16.out; omega); rw [LU.out] at this; exact this }
          have PO : Hid (BA (v1.setCells (M + 2) (s * 8) (bvals u)) (M + 1) 27 (cat (oG K f) (s + 1) ++ zeros (128 - 8 * (s + 1)))) := (heap_setCells (by omega) _ _ _).trans PN.out
          have MO : Hid (BA (v1.setCells (M + 2) (s * 8) (bvals u)) M 23 (mu f s)) := (heap_setCells (by omega) _ _ _).trans MN.out
          have X2 : Hid (Below M wr (v1.setCells (M + 2) (s * 8) (bvals u))) := below_setCells (by omega) _ _ X1.out
          generalize v1.setCells (M + 2) (s * 8) (bvals u) = v2 at *
          refine hKq.out _ _ (by exact fun q hq => X2.out.block q hq) (fun hHeld => ?_)
          clear hKq Kq
          simp only [Act.put, List.getElem_toArray, List.getElem_cons_succ, List.getElem_cons_zero]
          refine wpAnyH_done (by kernel_rfl) ?_ _
          have GV : Hid (BA v2 H 23 ym) := (X2.out.block _ (by have := LM.out; omega)).trans ((BR.out.block _ (by have := LM.out; omega)).trans H1fg.out)
          have BV : Hid (Below M w3 v2) := BR.out.trans X2.out
          have cm := ba_cell MO.out q (by rw [mu_len]; exact HQ8.out)
          rw [MT.out] at cm
          have cg := ba_cell GV.out q (by rw [LYM.out]; exact HQ8.out)
          rw [HXV.out] at cg
          have f0 := fun i => free_of MO.out i
          clear hHeld PR QR MR PN QN MN X1 PD RA RU hia hiu ida idu
          go_wp2_with fail
          go_still_tail 15, (by kernel_rfl)
          change wpList _ _ _ _ _ v2.drew
          have f3 : ∀ i, v2.drew.frozen? ⟨M, i, none⟩ = false := f0
          have cm3 : v2.drew.cell? ⟨M, q, none⟩ = some (.int .u8 (bq : Int)) := cm
          have MO3 : Hid (BA v2.drew M 23 (mu f s)) := MO.out
          have PO3 : Hid (BA v2.drew (M + 1) 27 (cat (oG K f) (s + 1) ++ zeros (128 - 8 * (s + 1)))) := PO.out
          have QO3 : Hid (BA v2.drew (M + 2) 27 (cat (hG K f) (s + 1) ++ zeros (128 - 8 * (s + 1)))) := QO.out
          have BV3 : Hid (Below M w3 v2.drew) := BV.out.drew
          clear cm cg f0 MO PO QO BV X2 GV
          generalize v2.drew = v3 at *
          go_wp2_with fail
          go_roundw
          case rel => exact ⟨s + 1, by have := HS16.out; omega, by go_num, by rw [← MST.out]; exact ba_set MO3.out q (bn : Int), heap_else q _ (by omega) PO3.out, heap_else q _ (by omega) QO3.out, BV3.out.setCell (Nat.le_refl _) _⟩
          case measure => have := HS16.out; simp [intOf]; omega
      · obtain rfl : s = 16 := by omega
        have PF : Hid (BA wr (M + 1) 27 (cat (oG K f) 16)) := by
          have : BA wr (M + 1) 27 (cat (oG K f) 16 ++ zeros 0) := PR.out
          rw [List.eq_nil_of_length_eq_zero (zeros_len 0), List.append_nil] at this
          exact this
        have QF : Hid (BA wr (M + 2) 27 (cat (hG K f) 16)) := by
          have : BA wr (M + 2) 27 (cat (hG K f) 16 ++ zeros 0) := QR.out
          rw [List.eq_nil_of_length_eq_zero (zeros_len 0), List.append_nil] at this
          exact this
        have LO : Hid ((cat (oG K f) 16).length = 128) := cat_lenN _ 16 fun j hj => oG_len K f FL.out LK.out j hj
        have LH : Hid ((cat (hG K f) 16).length = 128) := cat_lenN _ 16 fun j _ => hG_len K f j
        have LMU : Hid ((mu f 16).length = 8) := mu_len f 16
        have BW : Hid (Below S w wr) := B1fg.out.trans (BR.out.mono (by have := LM.out; omega))
        have TR : Hid (BA wr T 48 K) := (BR.out.block _ (by have := LM.out; omega)).trans T1fg.out
        have SR : Hid (S ≤ wr.heap.size) := by show _ ≤ _; have := lt_of_block TR.out; have := TS.out; omega
        have MF : Hid (BA wr M 23 (mu f 16)) := MR.out
        generalize cat (oG K f) 16 = yo at *
        generalize cat (hG K f) 16 = yh at *
        generalize mu f 16 = ym16 at *
        clear PR QR MR hlt hs
        go_wp2_with (first
          | (refine wpList_load_row rfl 23 (.tmp 16) rfl M rfl 23 (ba ym16) (0, 0) _ MF.out Tryd.underlying23 rfl (sz s27 (by rw [ba_size, LMU.out])) ?_)
          | (refine wpList_load_row rfl 27 (.tmp 17) rfl (M + 1) rfl 27 (ba yo) (0, 0) _ PF.out Tryd.underlying27 rfl (sz q27 (by rw [ba_size, LO.out])) ?_)
          | (refine wpList_load_row rfl 27 (.tmp 18) rfl (M + 2) rfl 27 (ba yh) (0, 0) _ QF.out Tryd.underlying27 rfl (sz q27 (by rw [ba_size, LH.out])) ?_)
          | (go_at_call 14
             refine (C14.out wr BW.out).mono ?_
             rintro e w7 ⟨rfl, hb⟩
             have T7 : Hid (BA w7 T 48 K) := (hb.block _ (lt_of_block TR.out)).trans TR.out
             have B7 : Hid (Below S w w7) := BW.out.trans (hb.mono SR.out)
             have S7 : Hid (S ≤ w7.heap.size) := Nat.le_trans SR.out hb.size
             clear hb)
          | (go_at_call 12
             refine (C12.out w7 B7.out T T7.out).mono ?_
             rintro e w8 ⟨rfl, hb⟩
             have B8 : Hid (Below S w w8) := B7.out.trans (hb.mono S7.out)
             clear hb)
          | fail)
        go_ret
        exact ⟨rfl, by rw [HS.out]; exact B8.out⟩
end Go.Proofs.YtimfinachecadaaDoor
