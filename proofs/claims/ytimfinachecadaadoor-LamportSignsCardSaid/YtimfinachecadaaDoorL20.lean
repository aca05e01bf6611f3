/-
  The walk of LamportSigns.
-/
import Derived.Test.YtimfinachecadaaDoorL19
namespace Go.Proofs.YtimfinachecadaaDoor
open Go.RowKit
attribute [local irreducible] ua da ba kk sw S8.run rt hs comp splice outB sha msg bvals cat at8 at16 secM zeros sec keyF marksF mk pubk bt openF shutF readF splR sd1 ms1 oF sF
set_option maxRecDepth 100000 in
set_option maxHeartbeats 16000000 in
theorem q3 (seed : List Int) (index : Int) (msg8 : List Int) (w : World) (hk : Keys w) (hs : seed.length = 8) (hm : msg8.length = 8) (hbt : Byt msg8) :
    Calls Tryd.prog 3 #[.agg (ba seed), .int .i64 index, .agg (ba msg8)] w fun e w' => e = .returned (.bool true) ∧ Below w.heap.size w w' := by
  have h6 := z128
  have HK := Lib.hid hk
  have HP : Hid (0 < w.heap.size) := keys_pos hk
  obtain ⟨S, hS⟩ : ∃ S, w.heap.size = S := ⟨_, rfl⟩
  have HS := Lib.hid hS
  have HSL := Lib.hid hs
  have HML := Lib.hid hm
  have KW : Hid (∀ w', Below S w w' → Keys w') := fun w' hb => keys_below HK.out hb (by rw [← HS.out]; exact HP.out)
  have E0 := Lib.hid (ba_old (ba_new hS seed 23) (Obj.cells (ba msg8) 23))
  have M0 := Lib.hid (ba_new (size_al hS (Obj.cells (ba seed) 23)) msg8 23)
  have B0 : Hid (Below S w ((w.alloc (Obj.cells (ba seed) 23)).alloc (Obj.cells (ba msg8) 23))) := by subst hS; exact ((Below.refl _ w).alloc (Nat.le_refl _) _).alloc (by simp) _
  have C8 := Lib.hid (p8 ((w.alloc (Obj.cells (ba seed) 23)).alloc (Obj.cells (ba msg8) 23)) (KW.out _ B0.out))
  obtain ⟨x, hx⟩ : ∃ x, IntKind.u8.wrap index = x := ⟨_, rfl⟩
  obtain ⟨K, hK⟩ : ∃ K, cat (keyF seed x) 32 = K := ⟨_, rfl⟩
  have LK : Hid (K.length = 256) := by rw [← hK]; exact key_len seed x
  obtain ⟨y, hy⟩ : ∃ y, cat (openF K msg8) 16 = y := ⟨_, rfl⟩
  obtain ⟨z, hz⟩ : ∃ z, cat (shutF K msg8) 16 = z := ⟨_, rfl⟩
  obtain ⟨P, hP⟩ : ∃ P, pubk (cat (marksF K) 32) = P := ⟨_, rfl⟩
  have LY : Hid (y.length = 128) := by rw [← hy]; exact cat_open_len K msg8 LK.out
  have LZ : Hid (z.length = 128) := by rw [← hz]; exact cat_shut_len K msg8
  have LP : Hid (P.length = 8) := by rw [← hP]; exact pubk_len _
  have C9 : Hid (∀ w', Below S w w' → Calls Tryd.prog 9 #[.agg (ba seed), .int .i64 index] w' fun e w'' => ∃ T, e = .returned (.pointer (some ⟨T, 0, none⟩)) ∧ w'.heap.size ≤ T ∧ BA w'' T 48 K ∧ Below w'.heap.size w' w'') := fun w' hb => by
    have := p9 seed index x w' (KW.out w' hb) hs hx
    rw [hK] at this
    exact this
  have C10 : Hid (∀ (T : Nat) (w' : World), Below S w w' → BA w' T 48 K → Calls Tryd.prog 10 #[.pointer (some ⟨T, 0, none⟩), .agg (ba msg8)] w' fun e w'' => e = .returned (.tuple #[.agg (ba y), .agg (ba z)]) ∧ Below w'.heap.size w' w'') := fun T w' hb hT => by
    have := p10 K msg8 T w' (KW.out w' hb) LK.out hm hbt hT
    rw [hy, hz] at this
    exact this
  have C11 : Hid (∀ w' : World, Calls Tryd.prog 11 #[.agg (ba seed), .int .i64 index, .agg (ba msg8)] w' fun e w'' => e = .returned (.tuple #[.agg (ba y), .agg (ba z)]) ∧ Below w'.heap.size w' w'') := fun w' => by
    have := r11 seed msg8 index x w' hs hx hm hbt
    rw [open_doc, shut_doc, hK, hy, hz] at this
    exact this
  have hrd : pubk (cat (readF msg8 y z) 32) = P := by rw [← hy, ← hz, read_own K msg8 LK.out, hP]
  have C14 : Hid (∀ w', Below S w w' → Calls Tryd.prog 14 #[.agg (bvals msg8).toArray, .agg (bvals y).toArray, .agg (bvals z).toArray] w' fun e w'' => e = .returned (.agg (ba P)) ∧ Below w'.heap.size w' w'') := fun w' hb => by
    have := p14 msg8 y z w' (KW.out w' hb) hm hbt LY.out LZ.out
    rw [hrd, ba_bvals msg8, ba_bvals y, ba_bvals z] at this
    exact this
  have C13 : Hid (∀ w', Calls Tryd.prog 13 #[.agg (bvals msg8).toArray, .agg (bvals y).toArray, .agg (bvals z).toArray] w' fun e w'' => e = .returned (.agg (ba P)) ∧ Below w'.heap.size w' w'') := fun w' => by
    have := r13 msg8 y z w' hm hbt LY.out LZ.out
    rw [hrd, ba_bvals msg8, ba_bvals y, ba_bvals z] at this
    exact this
  have C12 : Hid (∀ w' : World, Below S w w' → ∀ T, BA w' T 48 K → Calls Tryd.prog 12 #[.pointer (some ⟨T, 0, none⟩)] w' fun e w'' => e = .returned (.agg (ba P)) ∧ Below w'.heap.size w' w'') := fun w' hb T hT => by
    have := p12 K T w' (KW.out w' hb) LK.out hT
    rw [hP] at this
    exact this
  have f1 := fun w => eqh P P w LP.out LP.out
  rw [decide_eq_true rfl] at f1
  have f2 := fun w => eq27 y w LY.out
  rw [ba_bvals y] at f2
  have f3 := fun w => eq27 z w LZ.out
  rw [ba_bvals z] at f3
  have him : (Tryd.prog.info? 23).map (·.size) = some (bvals msg8).length := by rw [s27]; simp [bvals, hm]
  have hiy : (Tryd.prog.info? 27).map (·.size) = some (bvals y).length := by rw [q27]; simp [bvals, LY.out]
  have hiz : (Tryd.prog.info? 27).map (·.size) = some (bvals z).length := by rw [q27]; simp [bvals, LZ.out]
  clear hk hs hm hbt hx hK hy hz hP hrd
  go_enter Tryd.func3, Tryd.ntmps3
  go_wp2_with (first
    | (go_at_call 8
       refine C8.out.mono ?_
       rintro e w0 ⟨rfl, hb⟩
       have L0 : Hid (S + 1 < ((w.alloc (Obj.cells (ba seed) 23)).alloc (Obj.cells (ba msg8) 23)).heap.size) := lt_of_block M0.out
       have E1 : Hid (BA w0 S 23 seed) := (hb.block _ (by have := L0.out; omega)).trans E0.out
       have M1 : Hid (BA w0 (S + 1) 23 msg8) := (hb.block _ L0.out).trans M0.out
       have B1 : Hid (Below S w w0) := B0.out.trans (hb.mono (by have := L0.out; omega))
       have L1 : Hid (S + 1 < w0.heap.size) := lt_of_block M1.out
       clear hb E0 M0 B0 C8 L0 hS)
    | (refine wpList_load_row rfl 23 (.tmp 3) rfl S rfl 23 (ba seed) (0, 0) _ E1.out Tryd.underlying23 rfl (sz s27 (by rw [ba_size, HSL.out])) ?_)
    | (refine wpList_load_row rfl 23 (.tmp 5) rfl (S + 1) rfl 23 (ba msg8) (0, 0) _ M1.out Tryd.underlying23 rfl (sz s27 (by rw [ba_size, HML.out])) ?_)
    | (refine wpList_load_row rfl 23 (.tmp 3) rfl S rfl 23 (ba seed) (0, 0) _ E1f.out Tryd.underlying23 rfl (sz s27 (by rw [ba_size, HSL.out])) ?_)
    | (refine wpList_load_row rfl 23 (.tmp 5) rfl (S + 1) rfl 23 (ba msg8) (0, 0) _ M1f.out Tryd.underlying23 rfl (sz s27 (by rw [ba_size, HML.out])) ?_)
    | (go_at_call 9
       refine (C9.out w0 B1.out).mono ?_
       rintro e w1 ⟨T, rfl, hT, hb, hw1⟩
       have T1 := Lib.hid hb
       have TS : Hid (S + 1 < T) := by show _ < _; have := L1.out; omega
       have E2 : Hid (BA w1 S 23 seed) := (hw1.block _ (by have := L1.out; omega)).trans E1.out
       have M2 : Hid (BA w1 (S + 1) 23 msg8) := (hw1.block _ L1.out).trans M1.out
       have B2 : Hid (Below S w w1) := B1.out.trans (hw1.mono (by have := L1.out; omega))
       have SVw1 : Hid (S ≤ w1.heap.size) := by show _ ≤ _; have := lt_of_block hb; have := TS.out; omega
       clear hT hb hw1 E1 M1 B1 L1
       have E1 := E2
       have M1 := M2
       have B1 := B2
       clear E2 M2 B2)
    | (go_at_call 10
       refine (C10.out T w1 B1.out T1.out).mono ?_
       rintro e v1 ⟨rfl, hb⟩
       have E1b : Hid (BA v1 (S) 23 seed) := (hb.block _ (lt_of_block E1.out)).trans E1.out
       have M1b : Hid (BA v1 (S + 1) 23 msg8) := (hb.block _ (lt_of_block M1.out)).trans M1.out
       have T1b : Hid (BA v1 (T) 48 K) := (hb.block _ (lt_of_block T1.out)).trans T1.out
       have B1b : Hid (Below S w v1) := B1.out.trans (hb.mono SVw1.out)
       have SVbf : Hid (S ≤ v1.heap.size) := Nat.le_trans SVw1.out hb.size
       clear hb
       obtain ⟨A, hA⟩ : ∃ q, v1.heap.size = q := ⟨_, rfl⟩
       have E1l : Hid (S < A) := by show _ < _; rw [← hA]; exact lt_of_block E1b.out
       have M1l : Hid (S + 1 < A) := by show _ < _; rw [← hA]; exact lt_of_block M1b.out
       have T1l : Hid (T < A) := by show _ < _; rw [← hA]; exact lt_of_block T1b.out
       have E1c := Lib.hid (ba_old (ba_old E1b.out (Obj.cells (ba (zeros 128)) 27)) (Obj.cells (ba (zeros 128)) 27))
       have M1c := Lib.hid (ba_old (ba_old M1b.out (Obj.cells (ba (zeros 128)) 27)) (Obj.cells (ba (zeros 128)) 27))
       have T1c := Lib.hid (ba_old (ba_old T1b.out (Obj.cells (ba (zeros 128)) 27)) (Obj.cells (ba (zeros 128)) 27))
       have Y0f := Lib.hid (ba_old (ba_new hA (zeros 128) 27) (Obj.cells (ba (zeros 128)) 27))
       have Q0f := Lib.hid (ba_new (size_al hA (Obj.cells (ba (zeros 128)) 27)) (zeros 128) 27)
       have AS : Hid (S ≤ A) := by show _ ≤ _; rw [← hA]; exact SVbf.out
       have B1c : Hid (Below S w ((v1.alloc (Obj.cells (ba (zeros 128)) 27)).alloc (Obj.cells (ba (zeros 128)) 27))) := (B1b.out.alloc (by rw [hA]; exact AS.out) _).alloc (by rw [World.size_alloc, hA]; have := AS.out; omega) _)
    | (refine wpList_store_rowTo rfl 27 (.tmp 8) (.tmp 23) rfl rfl A (ba y) rfl rfl 27 (ba (zeros 128)) Y0f.out (sz q27 (by rw [ba_size, LY.out])) (by rw [ba_size, ba_size, LY.out, zeros_len]) (ba_one _) ?_
       have Y1f : Hid (BA (((v1.alloc (Obj.cells (ba (zeros 128)) 27)).alloc (Obj.cells (ba (zeros 128)) 27)).setRow A (ba y)) A 27 y) := setRow_heap _ _ _ _ _ _ Y0f.out
       have Q1f : Hid (BA (((v1.alloc (Obj.cells (ba (zeros 128)) 27)).alloc (Obj.cells (ba (zeros 128)) 27)).setRow A (ba y)) (A + 1) 27 (zeros 128)) := (setRow_other _ _ _ _ (by omega)).trans Q0f.out
       have E1d : Hid (BA (((v1.alloc (Obj.cells (ba (zeros 128)) 27)).alloc (Obj.cells (ba (zeros 128)) 27)).setRow A (ba y)) (S) 23 seed) := (setRow_other _ _ _ _ (by have := E1l.out; omega)).trans E1c.out
       have M1d : Hid (BA (((v1.alloc (Obj.cells (ba (zeros 128)) 27)).alloc (Obj.cells (ba (zeros 128)) 27)).setRow A (ba y)) (S + 1) 23 msg8) := (setRow_other _ _ _ _ (by have := M1l.out; omega)).trans M1c.out
       have T1d : Hid (BA (((v1.alloc (Obj.cells (ba (zeros 128)) 27)).alloc (Obj.cells (ba (zeros 128)) 27)).setRow A (ba y)) (T) 48 K) := (setRow_other _ _ _ _ (by have := T1l.out; omega)).trans T1c.out
       have B1d : Hid (Below S w (((v1.alloc (Obj.cells (ba (zeros 128)) 27)).alloc (Obj.cells (ba (zeros 128)) 27)).setRow A (ba y))) := below_setRow B1c.out AS.out _)
    | (refine wpList_store_rowTo rfl 27 (.tmp 9) (.tmp 24) rfl rfl (A + 1) (ba z) rfl rfl 27 (ba (zeros 128)) Q1f.out (sz q27 (by rw [ba_size, LZ.out])) (by rw [ba_size, ba_size, LZ.out, zeros_len]) (ba_one _) ?_
       have Qf : Hid (BA ((((v1.alloc (Obj.cells (ba (zeros 128)) 27)).alloc (Obj.cells (ba (zeros 128)) 27)).setRow A (ba y)).setRow (A + 1) (ba z)) (A + 1) 27 z) := setRow_heap _ _ _ _ _ _ Q1f.out
       have Yf : Hid (BA ((((v1.alloc (Obj.cells (ba (zeros 128)) 27)).alloc (Obj.cells (ba (zeros 128)) 27)).setRow A (ba y)).setRow (A + 1) (ba z)) A 27 y) := (setRow_other _ _ _ _ (by omega)).trans Y1f.out
       have E1f : Hid (BA ((((v1.alloc (Obj.cells (ba (zeros 128)) 27)).alloc (Obj.cells (ba (zeros 128)) 27)).setRow A (ba y)).setRow (A + 1) (ba z)) (S) 23 seed) := (setRow_other _ _ _ _ (by have := E1l.out; omega)).trans E1d.out
       have M1f : Hid (BA ((((v1.alloc (Obj.cells (ba (zeros 128)) 27)).alloc (Obj.cells (ba (zeros 128)) 27)).setRow A (ba y)).setRow (A + 1) (ba z)) (S + 1) 23 msg8) := (setRow_other _ _ _ _ (by have := M1l.out; omega)).trans M1d.out
       have T1f : Hid (BA ((((v1.alloc (Obj.cells (ba (zeros 128)) 27)).alloc (Obj.cells (ba (zeros 128)) 27)).setRow A (ba y)).setRow (A + 1) (ba z)) (T) 48 K) := (setRow_other _ _ _ _ (by have := T1l.out; omega)).trans T1d.out
       have B1f : Hid (Below S w ((((v1.alloc (Obj.cells (ba (zeros 128)) 27)).alloc (Obj.cells (ba (zeros 128)) 27)).setRow A (ba y)).setRow (A + 1) (ba z))) := below_setRow B1d.out (by have := AS.out; omega) _
       have SVw2 : Hid (S ≤ ((((v1.alloc (Obj.cells (ba (zeros 128)) 27)).alloc (Obj.cells (ba (zeros 128)) 27)).setRow A (ba y)).setRow (A + 1) (ba z)).heap.size) := Nat.le_trans AS.out (Nat.le_of_lt (lt_of_block Yf.out))
       clear Y0f Q0f Y1f Q1f hA E1 E1b E1c E1d E1l M1 M1b M1c M1d M1l T1 T1b T1c T1d T1l B1b B1c B1d
       generalize ((((v1.alloc (Obj.cells (ba (zeros 128)) 27)).alloc (Obj.cells (ba (zeros 128)) 27)).setRow A (ba y)).setRow (A + 1) (ba z)) = w2 at *)
    | (go_at_call 11
       refine (C11.out w2).mono ?_
       rintro e v2 ⟨rfl, hb⟩
       have E1fb : Hid (BA v2 (S) 23 seed) := (hb.block _ (lt_of_block E1f.out)).trans E1f.out
       have M1fb : Hid (BA v2 (S + 1) 23 msg8) := (hb.block _ (lt_of_block M1f.out)).trans M1f.out
       have T1fb : Hid (BA v2 (T) 48 K) := (hb.block _ (lt_of_block T1f.out)).trans T1f.out
       have Yfb : Hid (BA v2 (A) 27 y) := (hb.block _ (lt_of_block Yf.out)).trans Yf.out
       have Qfb : Hid (BA v2 (A + 1) 27 z) := (hb.block _ (lt_of_block Qf.out)).trans Qf.out
       have B1fb : Hid (Below S w v2) := B1f.out.trans (hb.mono SVw2.out)
       have SVbg : Hid (S ≤ v2.heap.size) := Nat.le_trans SVw2.out hb.size
       clear hb
       obtain ⟨G, hG⟩ : ∃ q, v2.heap.size = q := ⟨_, rfl⟩
       have E1fl : Hid (S < G) := by show _ < _; rw [← hG]; exact lt_of_block E1fb.out
       have M1fl : Hid (S + 1 < G) := by show _ < _; rw [← hG]; exact lt_of_block M1fb.out
       have T1fl : Hid (T < G) := by show _ < _; rw [← hG]; exact lt_of_block T1fb.out
       have Yfl : Hid (A < G) := by show _ < _; rw [← hG]; exact lt_of_block Yfb.out
       have Qfl : Hid (A + 1 < G) := by show _ < _; rw [← hG]; exact lt_of_block Qfb.out
       have E1fc := Lib.hid (ba_old (ba_old E1fb.out (Obj.cells (ba (zeros 128)) 27)) (Obj.cells (ba (zeros 128)) 27))
       have M1fc := Lib.hid (ba_old (ba_old M1fb.out (Obj.cells (ba (zeros 128)) 27)) (Obj.cells (ba (zeros 128)) 27))
       have T1fc := Lib.hid (ba_old (ba_old T1fb.out (Obj.cells (ba (zeros 128)) 27)) (Obj.cells (ba (zeros 128)) 27))
       have Yfc := Lib.hid (ba_old (ba_old Yfb.out (Obj.cells (ba (zeros 128)) 27)) (Obj.cells (ba (zeros 128)) 27))
       have Qfc := Lib.hid (ba_old (ba_old Qfb.out (Obj.cells (ba (zeros 128)) 27)) (Obj.cells (ba (zeros 128)) 27))
       have Y0g := Lib.hid (ba_old (ba_new hG (zeros 128) 27) (Obj.cells (ba (zeros 128)) 27))
       have Q0g := Lib.hid (ba_new (size_al hG (Obj.cells (ba (zeros 128)) 27)) (zeros 128) 27)
       have GS : Hid (S ≤ G) := by show _ ≤ _; rw [← hG]; exact SVbg.out
       have B1fc : Hid (Below S w ((v2.alloc (Obj.cells (ba (zeros 128)) 27)).alloc (Obj.cells (ba (zeros 128)) 27))) := (B1fb.out.alloc (by rw [hG]; exact GS.out) _).alloc (by rw [World.size_alloc, hG]; have := GS.out; omega) _)
    | (refine wpList_store_rowTo rfl 27 (.tmp 10) (.tmp 30) rfl rfl G (ba y) rfl rfl 27 (ba (zeros 128)) Y0g.out (sz q27 (by rw [ba_size, LY.out])) (by rw [ba_size, ba_size, LY.out, zeros_len]) (ba_one _) ?_
       have Y1g : Hid (BA (((v2.alloc (Obj.cells (ba (zeros 128)) 27)).alloc (Obj.cells (ba (zeros 128)) 27)).setRow G (ba y)) G 27 y) := setRow_heap _ _ _ _ _ _ Y0g.out
       have Q1g : Hid (BA (((v2.alloc (Obj.cells (ba (zeros 128)) 27)).alloc (Obj.cells (ba (zeros 128)) 27)).setRow G (ba y)) (G + 1) 27 (zeros 128)) := (setRow_other _ _ _ _ (by omega)).trans Q0g.out
       have E1fd : Hid (BA (((v2.alloc (Obj.cells (ba (zeros 128)) 27)).alloc (Obj.cells (ba (zeros 128)) 27)).setRow G (ba y)) (S) 23 seed) := (setRow_other _ _ _ _ (by have := E1fl.out; omega)).trans E1fc.out
       have M1fd : Hid (BA (((v2.alloc (Obj.cells (ba (zeros 128)) 27)).alloc (Obj.cells (ba (zeros 128)) 27)).setRow G (ba y)) (S + 1) 23 msg8) := (setRow_other _ _ _ _ (by have := M1fl.out; omega)).trans M1fc.out
       have T1fd : Hid (BA (((v2.alloc (Obj.cells (ba (zeros 128)) 27)).alloc (Obj.cells (ba (zeros 128)) 27)).setRow G (ba y)) (T) 48 K) := (setRow_other _ _ _ _ (by have := T1fl.out; omega)).trans T1fc.out
       have Yfd : Hid (BA (((v2.alloc (Obj.cells (ba (zeros 128)) 27)).alloc (Obj.cells (ba (zeros 128)) 27)).setRow G (ba y)) (A) 27 y) := (setRow_other _ _ _ _ (by have := Yfl.out; omega)).trans Yfc.out
       have Qfd : Hid (BA (((v2.alloc (Obj.cells (ba (zeros 128)) 27)).alloc (Obj.cells (ba (zeros 128)) 27)).setRow G (ba y)) (A + 1) 27 z) := (setRow_other _ _ _ _ (by have := Qfl.out; omega)).trans Qfc.out
       have B1fd : Hid (Below S w (((v2.alloc (Obj.cells (ba (zeros 128)) 27)).alloc (Obj.cells (ba (zeros 128)) 27)).setRow G (ba y))) := below_setRow B1fc.out GS.out _)
    | (refine wpList_store_rowTo rfl 27 (.tmp 11) (.tmp 31) rfl rfl (G + 1) (ba z) rfl rfl 27 (ba (zeros 128)) Q1g.out (sz q27 (by rw [ba_size, LZ.out])) (by rw [ba_size, ba_size, LZ.out, zeros_len]) (ba_one _) ?_
       have Qg : Hid (BA ((((v2.alloc (Obj.cells (ba (zeros 128)) 27)).alloc (Obj.cells (ba (zeros 128)) 27)).setRow G (ba y)).setRow (G + 1) (ba z)) (G + 1) 27 z) := setRow_heap _ _ _ _ _ _ Q1g.out
       have Yg : Hid (BA ((((v2.alloc (Obj.cells (ba (zeros 128)) 27)).alloc (Obj.cells (ba (zeros 128)) 27)).setRow G (ba y)).setRow (G + 1) (ba z)) G 27 y) := (setRow_other _ _ _ _ (by omega)).trans Y1g.out
       have E1fg : Hid (BA ((((v2.alloc (Obj.cells (ba (zeros 128)) 27)).alloc (Obj.cells (ba (zeros 128)) 27)).setRow G (ba y)).setRow (G + 1) (ba z)) (S) 23 seed) := (setRow_other _ _ _ _ (by have := E1fl.out; omega)).trans E1fd.out
       have M1fg : Hid (BA ((((v2.alloc (Obj.cells (ba (zeros 128)) 27)).alloc (Obj.cells (ba (zeros 128)) 27)).setRow G (ba y)).setRow (G + 1) (ba z)) (S + 1) 23 msg8) := (setRow_other _ _ _ _ (by have := M1fl.out; omega)).trans M1fd.out
       have T1fg : Hid (BA ((((v2.alloc (Obj.cells (ba (zeros 128)) 27)).alloc (Obj.cells (ba (zeros 128)) 27)).setRow G (ba y)).setRow (G + 1) (ba z)) (T) 48 K) := (setRow_other _ _ _ _ (by have := T1fl.out; omega)).trans T1fd.out
       have Yfg : Hid (BA ((((v2.alloc (Obj.cells (ba (zeros 128)) 27)).alloc (Obj.cells (ba (zeros 128)) 27)).setRow G (ba y)).setRow (G + 1) (ba z)) (A) 27 y) := (setRow_other _ _ _ _ (by have := Yfl.out; omega)).trans Yfd.out
       have Qfg : Hid (BA ((((v2.alloc (Obj.cells (ba (zeros 128)) 27)).alloc (Obj.cells (ba (zeros 128)) 27)).setRow G (ba y)).setRow (G + 1) (ba z)) (A + 1) 27 z) := (setRow_other _ _ _ _ (by have := Qfl.out; omega)).trans Qfd.out
       have B1fg : Hid (Below S w ((((v2.alloc (Obj.cells (ba (zeros 128)) 27)).alloc (Obj.cells (ba (zeros 128)) 27)).setRow G (ba y)).setRow (G + 1) (ba z))) := below_setRow B1fd.out (by have := GS.out; omega) _
       have SVw3 : Hid (S ≤ ((((v2.alloc (Obj.cells (ba (zeros 128)) 27)).alloc (Obj.cells (ba (zeros 128)) 27)).setRow G (ba y)).setRow (G + 1) (ba z)).heap.size) := Nat.le_trans GS.out (Nat.le_of_lt (lt_of_block Yg.out))
       clear Y0g Q0g Y1g Q1g hG E1f E1fb E1fc E1fd E1fl M1f M1fb M1fc M1fd M1fl T1f T1fb T1fc T1fd T1fl Yf Yfb Yfc Yfd Yfl Qf Qfb Qfc Qfd Qfl B1fb B1fc B1fd
       generalize ((((v2.alloc (Obj.cells (ba (zeros 128)) 27)).alloc (Obj.cells (ba (zeros 128)) 27)).setRow G (ba y)).setRow (G + 1) (ba z)) = w3 at *)
    | fail)
  have YF : Hid (BA w3 A 27 y) := Yfg.out
  have ZF : Hid (BA w3 (A + 1) 27 z) := Qfg.out
  have Mg : Hid (BA w3 (S + 1) 23 msg8) := M1fg.out
  have Tg : Hid (BA w3 T 48 K) := T1fg.out
  have BG : Hid (Below S w w3) := B1fg.out
  obtain ⟨N, hN⟩ : ∃ N, w3.heap.size = N := ⟨_, rfl⟩
  have WN : Hid (w3.heap.size = N) := hN
  have LN : Hid (S + 1 < N ∧ A + 1 < N ∧ G + 1 < N ∧ T < N) := by show _ ∧ _; rw [← hN]; exact ⟨lt_of_block Mg.out, lt_of_block ZF.out, lt_of_block Qg.out, lt_of_block Tg.out⟩
  have KN : Hid (∀ w', Below N w3 w' → Below S w w') := fun w' hb => BG.out.trans (hb.mono (by have := LN.out; omega))
  clear hN
  have XX : Hid (Below N w3 w3.drew) := (Below.refl _ _).drew
  refine wp_region_held_drew (S := (fun w' : World => ∀ q, q < N → w'.heap[q]? = w3.heap[q]?)) (by kernel_rfl) (by exact fun _ _ => rfl) (fun hHeld => ?_)
  refine wpAnyH_take (i := 0) rfl (by kernel_rfl) (by kernel_rfl) (by kernel_rfl) (fun _ _ _ h => h) (yieldsIf_load_mid (by rfl) 27 (.tmp 8) rfl (A) (0) rfl (bvals y) _ (fun w h => ba_range (t := 27) ((h _ (by have := LN.out; omega)).trans YF.out)) Tryd.underlying27 rfl hiy) (by assumption) ?_
  simp only [Act.put, List.getElem_toArray, List.getElem_cons_zero, List.setIfInBounds_toArray, List.set_cons_zero, List.set_cons_succ]
  refine wpAnyH_take (i := 1) rfl (by kernel_rfl) (by kernel_rfl) (by kernel_rfl) (fun _ _ _ h => h) (yieldsIf_load_mid (by rfl) 27 (.tmp 10) rfl (G) (0) rfl (bvals y) _ (fun w h => ba_range (t := 27) ((h _ (by have := LN.out; omega)).trans Yg.out)) Tryd.underlying27 rfl hiy) (by assumption) ?_
  simp only [Act.put, List.getElem_toArray, List.getElem_cons_succ, List.getElem_cons_zero, List.setIfInBounds_toArray, List.set_cons_zero, List.set_cons_succ]
  refine wpAnyH_take (i := 2) (v := ?_) rfl (by kernel_rfl) (by kernel_rfl) (by kernel_rfl) (fun _ _ _ h => h) (Or.inl ⟨by rfl, ?_⟩) (by assumption) ?_
  rotate_left
  · (intro w hSw; (try dsimp only at hSw); go_simp; try with_reducible rfl)
  simp only [Act.put, List.getElem_toArray, List.getElem_cons_succ, List.getElem_cons_zero, List.setIfInBounds_toArray, List.set_cons_zero, List.set_cons_succ]
  refine wpAnyH_take (i := 3) (v := ?_) rfl (by kernel_rfl) (by kernel_rfl) (by kernel_rfl) (fun _ _ _ h => h) (Or.inl ⟨by rfl, ?_⟩) (by assumption) ?_
  rotate_left
  · (intro w hSw; (try dsimp only at hSw); go_simp; try with_reducible rfl)
  simp only [Act.put, List.getElem_toArray, List.getElem_cons_succ, List.getElem_cons_zero, List.setIfInBounds_toArray, List.set_cons_zero, List.set_cons_succ]
  refine wpAnyH_take (i := 4) rfl (by kernel_rfl) (by kernel_rfl) (by kernel_rfl) (fun _ _ _ h => h) (yieldsIf_load_mid (by rfl) 27 (.tmp 9) rfl (A + 1) (0) rfl (bvals z) _ (fun w h => ba_range (t := 27) ((h _ (by have := LN.out; omega)).trans ZF.out)) Tryd.underlying27 rfl hiz) (by assumption) ?_
  simp only [Act.put, List.getElem_toArray, List.getElem_cons_succ, List.getElem_cons_zero, List.setIfInBounds_toArray, List.set_cons_zero, List.set_cons_succ]
  refine wpAnyH_take (i := 5) rfl (by kernel_rfl) (by kernel_rfl) (by kernel_rfl) (fun _ _ _ h => h) (yieldsIf_load_mid (by rfl) 27 (.tmp 11) rfl (G + 1) (0) rfl (bvals z) _ (fun w h => ba_range (t := 27) ((h _ (by have := LN.out; omega)).trans Qg.out)) Tryd.underlying27 rfl hiz) (by assumption) ?_
  simp only [Act.put, List.getElem_toArray, List.getElem_cons_succ, List.getElem_cons_zero, List.setIfInBounds_toArray, List.set_cons_zero, List.set_cons_succ]
  refine wpAnyH_take (i := 6) (v := ?_) rfl (by kernel_rfl) (by kernel_rfl) (by kernel_rfl) (fun _ _ _ h => h) (Or.inl ⟨by rfl, ?_⟩) (by assumption) ?_
  rotate_left
  · (intro w hSw; (try dsimp only at hSw); go_simp; try with_reducible rfl)
  simp only [Act.put, List.getElem_toArray, List.getElem_cons_succ, List.getElem_cons_zero, List.setIfInBounds_toArray, List.set_cons_zero, List.set_cons_succ]
  refine wpAnyH_take (i := 7) (v := ?_) rfl (by kernel_rfl) (by kernel_rfl) (by kernel_rfl) (fun _ _ _ h => h) (Or.inl ⟨by rfl, ?_⟩) (by assumption) ?_
  rotate_left
  · (intro w hSw; (try dsimp only at hSw); go_simp; try with_reducible rfl)
  simp only [Act.put, List.getElem_toArray, List.getElem_cons_succ, List.getElem_cons_zero, List.setIfInBounds_toArray, List.set_cons_zero, List.set_cons_succ]
  refine wpAnyH_take (i := 8) (v := ?_) rfl (by kernel_rfl) (by kernel_rfl) (by kernel_rfl) (fun _ _ _ h => h) (Or.inl ⟨by rfl, ?_⟩) (by assumption) ?_
  rotate_left
  · (intro w hSw; (try dsimp only at hSw); go_simp; try with_reducible rfl)
  simp only [Act.put, List.getElem_toArray, List.getElem_cons_succ, List.getElem_cons_zero, List.setIfInBounds_toArray, List.set_cons_zero, List.set_cons_succ]
  refine wpAnyH_take (i := 9) (v := ?_) rfl (by kernel_rfl) (by kernel_rfl) (by kernel_rfl) (fun _ _ _ h => h) (Or.inl ⟨by rfl, ?_⟩) (by assumption) ?_
  rotate_left
  · (intro w hSw; (try dsimp only at hSw); go_simp; try with_reducible rfl)
  simp only [Act.put, List.getElem_toArray, List.getElem_cons_succ, List.getElem_cons_zero, List.setIfInBounds_toArray, List.set_cons_zero, List.set_cons_succ]
  refine wpAnyH_take (i := 11) rfl (by kernel_rfl) (by kernel_rfl) (by kernel_rfl) (fun _ _ _ h => h) (yieldsIf_load_mid (by rfl) 23 (.tmp 5) rfl (S + 1) (0) rfl (bvals msg8) _ (fun w h => ba_range (t := 23) ((h _ (by have := LN.out; omega)).trans Mg.out)) Tryd.underlying23 rfl him) (by assumption) ?_
  simp only [Act.put, List.getElem_toArray, List.getElem_cons_succ, List.getElem_cons_zero, List.setIfInBounds_toArray, List.set_cons_zero, List.set_cons_succ]
  refine wpAnyH_take (i := 12) rfl (by kernel_rfl) (by kernel_rfl) (by kernel_rfl) (fun _ _ _ h => h) (yieldsIf_load_mid (by rfl) 27 (.tmp 10) rfl (G) (0) rfl (bvals y) _ (fun w h => ba_range (t := 27) ((h _ (by have := LN.out; omega)).trans Yg.out)) Tryd.underlying27 rfl hiy) (by assumption) ?_
  simp only [Act.put, List.getElem_toArray, List.getElem_cons_succ, List.getElem_cons_zero, List.setIfInBounds_toArray, List.set_cons_zero, List.set_cons_succ]
  refine wpAnyH_take (i := 13) rfl (by kernel_rfl) (by kernel_rfl) (by kernel_rfl) (fun _ _ _ h => h) (yieldsIf_load_mid (by rfl) 27 (.tmp 11) rfl (G + 1) (0) rfl (bvals z) _ (fun w h => ba_range (t := 27) ((h _ (by have := LN.out; omega)).trans Qg.out)) Tryd.underlying27 rfl hiz) (by assumption) ?_
  simp only [Act.put, List.getElem_toArray, List.getElem_cons_succ, List.getElem_cons_zero, List.setIfInBounds_toArray, List.set_cons_zero, List.set_cons_succ]
  refine wpAnyH_ready (rs := [10]) (by kernel_rfl) (by simp) ?_
  refine AllReadyH.cons rfl (fun K hK => ?_) AllReadyH.nil
  go_simp
  go_at_call 12
  refine (C12.out _ (KN.out _ XX.out) T ((XX.out.block _ (by have := LN.out; omega)).trans Tg.out)).mono ?_
  rintro e wc1 ⟨rfl, hba⟩
  have XN : Hid (Below N w3 wc1) := XX.out.trans (hba.mono (by have := XX.out.size; have := WN.out; omega))
  clear XX hba hHeld
  have XX := XN
  clear XN
  (try go_wp2_with fail)
  refine hK.out _ _ (by exact fun q hq => XX.out.block q hq) (fun hHeld => ?_)
  clear hK K
  refine wpAnyH_ready (rs := [14]) (by kernel_rfl) (by simp) ?_
  refine AllReadyH.cons rfl (fun K hK => ?_) AllReadyH.nil
  go_simp
  go_at_call 13
  refine (C13.out _).mono ?_
  rintro e wc2 ⟨rfl, hba⟩
  have XN : Hid (Below N w3 wc2) := XX.out.trans (hba.mono (by have := XX.out.size; have := WN.out; omega))
  clear XX hba hHeld
  have XX := XN
  clear XN
  (try go_wp2_with fail)
  refine hK.out _ _ (by exact fun q hq => XX.out.block q hq) (fun hHeld => ?_)
  clear hK K
  refine wpAnyH_take (i := 15) (v := ?_) rfl (by kernel_rfl) (by kernel_rfl) (by kernel_rfl) (fun _ _ _ h => h) (Or.inl ⟨by rfl, ?_⟩) (by assumption) ?_
  rotate_left
  · (intro w hSw; (try dsimp only at hSw); go_simp; try with_reducible rfl)
  simp only [Act.put, List.getElem_toArray, List.getElem_cons_succ, List.getElem_cons_zero, List.setIfInBounds_toArray, List.set_cons_zero, List.set_cons_succ]
  refine wpAnyH_take (i := 16) (v := ?_) rfl (by kernel_rfl) (by kernel_rfl) (by kernel_rfl) (fun _ _ _ h => h) (Or.inl ⟨by rfl, ?_⟩) (by assumption) ?_
  rotate_left
  · (intro w hSw; (try dsimp only at hSw); go_simp; try with_reducible rfl)
  simp only [Act.put, List.getElem_toArray, List.getElem_cons_succ, List.getElem_cons_zero, List.setIfInBounds_toArray, List.set_cons_zero, List.set_cons_succ]
  refine wpAnyH_take (i := 17) (v := ?_) rfl (by kernel_rfl) (by kernel_rfl) (by kernel_rfl) (fun _ _ _ h => h) (Or.inl ⟨by rfl, ?_⟩) (by assumption) ?_
  rotate_left
  · (intro w hSw; (try dsimp only at hSw); go_simp; try with_reducible rfl)
  simp only [Act.put, List.getElem_toArray, List.getElem_cons_succ, List.getElem_cons_zero, List.setIfInBounds_toArray, List.set_cons_zero, List.set_cons_succ]
  refine wpAnyH_take (i := 18) rfl (by kernel_rfl) (by kernel_rfl) (by kernel_rfl) (fun _ _ _ h => h) (yieldsIf_load_mid (by rfl) 23 (.tmp 5) rfl (S + 1) (0) rfl (bvals msg8) _ (fun w h => ba_range (t := 23) ((h _ (by have := LN.out; omega)).trans Mg.out)) Tryd.underlying23 rfl him) (by assumption) ?_
  simp only [Act.put, List.getElem_toArray, List.getElem_cons_succ, List.getElem_cons_zero, List.setIfInBounds_toArray, List.set_cons_zero, List.set_cons_succ]
  refine wpAnyH_take (i := 19) rfl (by kernel_rfl) (by kernel_rfl) (by kernel_rfl) (fun _ _ _ h => h) (yieldsIf_load_mid (by rfl) 27 (.tmp 8) rfl (A) (0) rfl (bvals y) _ (fun w h => ba_range (t := 27) ((h _ (by have := LN.out; omega)).trans YF.out)) Tryd.underlying27 rfl hiy) (by assumption) ?_
  simp only [Act.put, List.getElem_toArray, List.getElem_cons_succ, List.getElem_cons_zero, List.setIfInBounds_toArray, List.set_cons_zero, List.set_cons_succ]
  refine wpAnyH_take (i := 20) rfl (by kernel_rfl) (by kernel_rfl) (by kernel_rfl) (fun _ _ _ h => h) (yieldsIf_load_mid (by rfl) 27 (.tmp 9) rfl (A + 1) (0) rfl (bvals z) _ (fun w h => ba_range (t := 27) ((h _ (by have := LN.out; omega)).trans ZF.out)) Tryd.underlying27 rfl hiz) (by assumption) ?_
  simp only [Act.put, List.getElem_toArray, List.getElem_cons_succ, List.getElem_cons_zero, List.setIfInBounds_toArray, List.set_cons_zero, List.set_cons_succ]
  refine wpAnyH_take (i := 22) (v := ?_) rfl (by kernel_rfl) (by kernel_rfl) (by kernel_rfl) (fun _ _ _ h => h) (Or.inl ⟨by rfl, ?_⟩) (by assumption) ?_
  rotate_left
  · (intro w hSw; (try dsimp only at hSw); go_simp; try with_reducible rfl)
  simp only [Act.put, List.getElem_toArray, List.getElem_cons_succ, List.getElem_cons_zero, List.setIfInBounds_toArray, List.set_cons_zero, List.set_cons_succ]
  refine wpAnyH_ready (rs := [21]) (by kernel_rfl) (by simp) ?_
  refine AllReadyH.cons rfl (fun K hK => ?_) AllReadyH.nil
  go_simp
  go_at_call 14
  refine (C14.out _ (KN.out _ XX.out)).mono ?_
  rintro e wc3 ⟨rfl, hba⟩
  have XN : Hid (Below N w3 wc3) := XX.out.trans (hba.mono (by have := XX.out.size; have := WN.out; omega))
  clear XX hba hHeld
  have XX := XN
  clear XN
  (try go_wp2_with fail)
  refine hK.out _ _ (by exact fun q hq => XX.out.block q hq) (fun hHeld => ?_)
  clear hK K
  refine wpAnyH_ready (rs := [23]) (by kernel_rfl) (by simp) ?_
  refine AllReadyH.cons rfl (fun K hK => ?_) AllReadyH.nil
  go_simp
  go_at_call 12
  refine (C12.out _ (KN.out _ XX.out) T ((XX.out.block _ (by have := LN.out; omega)).trans Tg.out)).mono ?_
  rintro e wc4 ⟨rfl, hba⟩
  have XN : Hid (Below N w3 wc4) := XX.out.trans (hba.mono (by have := XX.out.size; have := WN.out; omega))
  clear XX hba hHeld
  have XX := XN
  clear XN
  (try go_wp2_with fail)
  refine hK.out _ _ (by exact fun q hq => XX.out.block q hq) (fun hHeld => ?_)
  clear hK K
  refine wpAnyH_take (i := 24) (v := ?_) rfl (by kernel_rfl) (by kernel_rfl) (by kernel_rfl) (fun _ _ _ h => h) (Or.inl ⟨by rfl, ?_⟩) (by assumption) ?_
  rotate_left
  · (intro w hSw; (try dsimp only at hSw); go_simp; try with_reducible rfl)
  simp only [Act.put, List.getElem_toArray, List.getElem_cons_succ, List.getElem_cons_zero, List.setIfInBounds_toArray, List.set_cons_zero, List.set_cons_succ]
  refine wpAnyH_take (i := 25) (v := ?_) rfl (by kernel_rfl) (by kernel_rfl) (by kernel_rfl) (fun _ _ _ h => h) (Or.inl ⟨by rfl, ?_⟩) (by assumption) ?_
  rotate_left
  · (intro w hSw; (try dsimp only at hSw); go_simp; try with_reducible rfl)
  simp only [Act.put, List.getElem_toArray, List.getElem_cons_succ, List.getElem_cons_zero, List.setIfInBounds_toArray, List.set_cons_zero, List.set_cons_succ]
  refine wpAnyH_take (i := 26) (v := ?_) rfl (by kernel_rfl) (by kernel_rfl) (by kernel_rfl) (fun _ _ _ h => h) (Or.inl ⟨by rfl, ?_⟩) (by assumption) ?_
  rotate_left
  · (intro w hSw; (try dsimp only at hSw); go_simp; try with_reducible rfl)
  simp only [Act.put, List.getElem_toArray, List.getElem_cons_succ, List.getElem_cons_zero, List.setIfInBounds_toArray, List.set_cons_zero, List.set_cons_succ]
  refine wpAnyH_done (by kernel_rfl) ?_ _
  go_wp2
  go_ret
  exact ⟨rfl, by rw [HS.out]; exact KN.out _ XX.out⟩
end Go.Proofs.YtimfinachecadaaDoor
