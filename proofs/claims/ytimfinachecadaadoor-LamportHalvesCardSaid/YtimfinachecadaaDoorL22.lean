/-
  The walk of LamportHalves.
-/
import Derived.Test.YtimfinachecadaaDoorL19
namespace Go.Proofs.YtimfinachecadaaDoor
open Go.RowKit
theorem and1u (d : Nat) (h : d < 256) : bits .and .u8 (d : Int) 1 = ((d % 2 : Nat) : Int) := by
  have e := u8_and_nat d 1 h (by omega)
  rw [nat_mask1] at e
  exact e
theorem wu (r : Nat) (h : r < 8) : IntKind.u64.wrap (r : Int) = (r : Int) := by rw [IntKind.wrap_u64]; exact Int.emod_eq_of_lt (by omega) (by omega)
theorem alike_open {K m n : List Int} {s : Nat} (h : bt m s = bt n s) : openF K m s = openF K n s := by unfold openF; rw [h]
theorem alike_shut {K m n : List Int} {s : Nat} (h : bt m s = bt n s) : shutF K m s = shutF K n s := by unfold shutF; rw [h]
theorem other_shut {K m n : List Int} {s : Nat} (h : bt m s ≠ bt n s) : mk (openF K m s) = shutF K n s := by
  have h1 := bt_two m s
  have h2 := bt_two n s
  unfold openF shutF
  rw [show 1 - bt n s = bt m s by omega]
attribute [local irreducible] ua da ba kk sw S8.run rt hs comp splice outB sha msg bvals cat at8 at16 secM zeros sec keyF marksF mk pubk bt openF shutF readF splR sd1 ms1 oF sF
set_option maxRecDepth 100000 in
set_option maxHeartbeats 16000000 in
theorem q5 (seed msg8 nsg8 : List Int) (w : World) (hk : Keys w) (hs : seed.length = 8) (hm : msg8.length = 8) (hbm : Byt msg8) (hn : nsg8.length = 8) (hbn : Byt nsg8) :
    Calls Tryd.prog 5 #[.agg (ba seed), .agg (ba msg8), .agg (ba nsg8)] w fun e w' => e = .returned (.bool true) ∧ Below w.heap.size w w' := by
  have h6 := z128
  have HK := Lib.hid hk
  have HP : Hid (0 < w.heap.size) := keys_pos hk
  obtain ⟨S, hS⟩ : ∃ S, w.heap.size = S := ⟨_, rfl⟩
  have HS := Lib.hid hS
  have HSL := Lib.hid hs
  have HML := Lib.hid hm
  have HNL := Lib.hid hn
  have HMB := Lib.hid hbm
  have HNB := Lib.hid hbn
  have KW : Hid (∀ w', Below S w w' → Keys w') := fun w' hb => keys_below HK.out hb (by rw [← HS.out]; exact HP.out)
  have E0 := Lib.hid (ba_old (ba_old (ba_new hS seed 23) (Obj.cells (ba msg8) 23)) (Obj.cells (ba nsg8) 23))
  have M0 := Lib.hid (ba_old (ba_new (size_al hS (Obj.cells (ba seed) 23)) msg8 23) (Obj.cells (ba nsg8) 23))
  have O0 := Lib.hid (ba_new (size_al (size_al hS (Obj.cells (ba seed) 23)) (Obj.cells (ba msg8) 23)) nsg8 23)
  have B0 : Hid (Below S w (((w.alloc (Obj.cells (ba seed) 23)).alloc (Obj.cells (ba msg8) 23)).alloc (Obj.cells (ba nsg8) 23))) := by subst hS; exact (((Below.refl _ w).alloc (Nat.le_refl _) _).alloc (by simp) _).alloc (by simp; omega) _
  have C8 := Lib.hid (p8 (((w.alloc (Obj.cells (ba seed) 23)).alloc (Obj.cells (ba msg8) 23)).alloc (Obj.cells (ba nsg8) 23)) (KW.out _ B0.out))
  obtain ⟨K, hK⟩ : ∃ K, cat (keyF seed 3) 32 = K := ⟨_, rfl⟩
  have LK : Hid (K.length = 256) := by rw [← hK]; exact key_len seed 3
  obtain ⟨y1, hy1⟩ : ∃ y, cat (openF K msg8) 16 = y := ⟨_, rfl⟩
  obtain ⟨z1, hz1⟩ : ∃ z, cat (shutF K msg8) 16 = z := ⟨_, rfl⟩
  obtain ⟨y2, hy2⟩ : ∃ y, cat (openF K nsg8) 16 = y := ⟨_, rfl⟩
  obtain ⟨z2, hz2⟩ : ∃ z, cat (shutF K nsg8) 16 = z := ⟨_, rfl⟩
  have LY1 : Hid (y1.length = 128) := by rw [← hy1]; exact cat_open_len K msg8 LK.out
  have LZ1 : Hid (z1.length = 128) := by rw [← hz1]; exact cat_shut_len K msg8
  have LY2 : Hid (y2.length = 128) := by rw [← hy2]; exact cat_open_len K nsg8 LK.out
  have LZ2 : Hid (z2.length = 128) := by rw [← hz2]; exact cat_shut_len K nsg8
  have C9 : Hid (∀ w', Below S w w' → Calls Tryd.prog 9 #[.agg (ba seed), .int .i64 3] w' fun e w'' => ∃ T, e = .returned (.pointer (some ⟨T, 0, none⟩)) ∧ w'.heap.size ≤ T ∧ BA w'' T 48 K ∧ Below w'.heap.size w' w'') := fun w' hb => by
    have := p9 seed 3 3 w' (KW.out w' hb) hs (by decide)
    rw [hK] at this
    exact this
  have C10 : Hid (∀ (T : Nat) (m y z : List Int) (w' : World), (m.length = 8 ∧ Byt m ∧ cat (openF K m) 16 = y ∧ cat (shutF K m) 16 = z) → Below S w w' → BA w' T 48 K → Calls Tryd.prog 10 #[.pointer (some ⟨T, 0, none⟩), .agg (ba m)] w' fun e w'' => e = .returned (.tuple #[.agg (ba y), .agg (ba z)]) ∧ Below w'.heap.size w' w'') := fun T m y z w' h hb hT => by
    have := p10 K m T w' (KW.out w' hb) LK.out h.1 h.2.1 hT
    rw [h.2.2.1, h.2.2.2] at this
    exact this
  have HC1 : Hid (msg8.length = 8 ∧ Byt msg8 ∧ cat (openF K msg8) 16 = y1 ∧ cat (shutF K msg8) 16 = z1) := ⟨hm, hbm, hy1, hz1⟩
  have HC2 : Hid (nsg8.length = 8 ∧ Byt nsg8 ∧ cat (openF K nsg8) 16 = y2 ∧ cat (shutF K nsg8) 16 = z2) := ⟨hn, hbn, hy2, hz2⟩
  clear hk hs hm hbm hn hbn hK hy1 hz1 hy2 hz2
  go_enter Tryd.func5, Tryd.ntmps5
  go_wp2_with (first
    | (go_at_call 8
       refine C8.out.mono ?_
       rintro e w0 ⟨rfl, hb⟩
       have L0 : Hid (S + 2 < (((w.alloc (Obj.cells (ba seed) 23)).alloc (Obj.cells (ba msg8) 23)).alloc (Obj.cells (ba nsg8) 23)).heap.size) := lt_of_block O0.out
       have E1 : Hid (BA w0 S 23 seed) := (hb.block _ (by have := L0.out; omega)).trans E0.out
       have M1 : Hid (BA w0 (S + 1) 23 msg8) := (hb.block _ (by have := L0.out; omega)).trans M0.out
       have O1 : Hid (BA w0 (S + 2) 23 nsg8) := (hb.block _ L0.out).trans O0.out
       have B1 : Hid (Below S w w0) := B0.out.trans (hb.mono (by have := L0.out; omega))
       have L1 : Hid (S + 2 < w0.heap.size) := lt_of_block O1.out
       clear hb E0 M0 O0 B0 C8 L0 hS)
    | (refine wpList_load_row rfl 23 (.tmp 3) rfl S rfl 23 (ba seed) (0, 0) _ E1.out Tryd.underlying23 rfl (sz s27 (by rw [ba_size, HSL.out])) ?_)
    | (refine wpList_load_row rfl 23 (.tmp 4) rfl (S + 1) rfl 23 (ba msg8) (0, 0) _ M1.out Tryd.underlying23 rfl (sz s27 (by rw [ba_size, HML.out])) ?_)
    | (refine wpList_load_row rfl 23 (.tmp 5) rfl (S + 2) rfl 23 (ba nsg8) (0, 0) _ O1f.out Tryd.underlying23 rfl (sz s27 (by rw [ba_size, HNL.out])) ?_)
    | (go_at_call 9
       refine (C9.out w0 B1.out).mono ?_
       rintro e w1 ⟨T, rfl, hT, hb, hw1⟩
       have T1 := Lib.hid hb
       have TS : Hid (S + 2 < T) := by show _ < _; have := L1.out; omega
       have M2 : Hid (BA w1 (S + 1) 23 msg8) := (hw1.block _ (by have := L1.out; omega)).trans M1.out
       have O2 : Hid (BA w1 (S + 2) 23 nsg8) := (hw1.block _ L1.out).trans O1.out
       have B2 : Hid (Below S w w1) := B1.out.trans (hw1.mono (by have := L1.out; omega))
       have SVw1 : Hid (S ≤ w1.heap.size) := by show _ ≤ _; have := lt_of_block hb; have := TS.out; omega
       clear hT hb hw1 E1 M1 O1 B1 L1
       have M1 := M2
       have O1 := O2
       have B1 := B2
       clear M2 O2 B2)
    | (go_at_call 10
       refine (C10.out T msg8 y1 z1 w1 HC1.out B1.out T1.out).mono ?_
       rintro e v1 ⟨rfl, hb⟩
       have M1b : Hid (BA v1 (S + 1) 23 msg8) := (hb.block _ (lt_of_block M1.out)).trans M1.out
       have O1b : Hid (BA v1 (S + 2) 23 nsg8) := (hb.block _ (lt_of_block O1.out)).trans O1.out
       have T1b : Hid (BA v1 (T) 48 K) := (hb.block _ (lt_of_block T1.out)).trans T1.out
       have B1b : Hid (Below S w v1) := B1.out.trans (hb.mono SVw1.out)
       have SVbf : Hid (S ≤ v1.heap.size) := Nat.le_trans SVw1.out hb.size
       clear hb
       obtain ⟨A, hA⟩ : ∃ q, v1.heap.size = q := ⟨_, rfl⟩
       have M1l : Hid (S + 1 < A) := by show _ < _; rw [← hA]; exact lt_of_block M1b.out
       have O1l : Hid (S + 2 < A) := by show _ < _; rw [← hA]; exact lt_of_block O1b.out
       have T1l : Hid (T < A) := by show _ < _; rw [← hA]; exact lt_of_block T1b.out
       have M1c := Lib.hid (ba_old (ba_old M1b.out (Obj.cells (ba (zeros 128)) 27)) (Obj.cells (ba (zeros 128)) 27))
       have O1c := Lib.hid (ba_old (ba_old O1b.out (Obj.cells (ba (zeros 128)) 27)) (Obj.cells (ba (zeros 128)) 27))
       have T1c := Lib.hid (ba_old (ba_old T1b.out (Obj.cells (ba (zeros 128)) 27)) (Obj.cells (ba (zeros 128)) 27))
       have Y0f := Lib.hid (ba_old (ba_new hA (zeros 128) 27) (Obj.cells (ba (zeros 128)) 27))
       have Q0f := Lib.hid (ba_new (size_al hA (Obj.cells (ba (zeros 128)) 27)) (zeros 128) 27)
       have AS : Hid (S ≤ A) := by show _ ≤ _; rw [← hA]; exact SVbf.out
       have B1c : Hid (Below S w ((v1.alloc (Obj.cells (ba (zeros 128)) 27)).alloc (Obj.cells (ba (zeros 128)) 27))) := (B1b.out.alloc (by rw [hA]; exact AS.out) _).alloc (by rw [World.size_alloc, hA]; have := AS.out; omega) _)
    | (refine wpList_store_rowTo rfl 27 (.tmp 8) (.tmp 24) rfl rfl A (ba y1) rfl rfl 27 (ba (zeros 128)) Y0f.out (sz q27 (by rw [ba_size, LY1.out])) (by rw [ba_size, ba_size, LY1.out, zeros_len]) (ba_one _) ?_
       have Y1f : Hid (BA (((v1.alloc (Obj.cells (ba (zeros 128)) 27)).alloc (Obj.cells (ba (zeros 128)) 27)).setRow A (ba y1)) A 27 y1) := setRow_heap _ _ _ _ _ _ Y0f.out
       have Q1f : Hid (BA (((v1.alloc (Obj.cells (ba (zeros 128)) 27)).alloc (Obj.cells (ba (zeros 128)) 27)).setRow A (ba y1)) (A + 1) 27 (zeros 128)) := (setRow_other _ _ _ _ (by omega)).trans Q0f.out
       have M1d : Hid (BA (((v1.alloc (Obj.cells (ba (zeros 128)) 27)).alloc (Obj.cells (ba (zeros 128)) 27)).setRow A (ba y1)) (S + 1) 23 msg8) := (setRow_other _ _ _ _ (by have := M1l.out; omega)).trans M1c.out
       have O1d : Hid (BA (((v1.alloc (Obj.cells (ba (zeros 128)) 27)).alloc (Obj.cells (ba (zeros 128)) 27)).setRow A (ba y1)) (S + 2) 23 nsg8) := (setRow_other _ _ _ _ (by have := O1l.out; omega)).trans O1c.out
       have T1d : Hid (BA (((v1.alloc (Obj.cells (ba (zeros 128)) 27)).alloc (Obj.cells (ba (zeros 128)) 27)).setRow A (ba y1)) (T) 48 K) := (setRow_other _ _ _ _ (by have := T1l.out; omega)).trans T1c.out
       have B1d : Hid (Below S w (((v1.alloc (Obj.cells (ba (zeros 128)) 27)).alloc (Obj.cells (ba (zeros 128)) 27)).setRow A (ba y1))) := below_setRow B1c.out AS.out _)
    | (refine wpList_store_rowTo rfl 27 (.tmp 9) (.tmp 25) rfl rfl (A + 1) (ba z1) rfl rfl 27 (ba (zeros 128)) Q1f.out (sz q27 (by rw [ba_size, LZ1.out])) (by rw [ba_size, ba_size, LZ1.out, zeros_len]) (ba_one _) ?_
       have Qf : Hid (BA ((((v1.alloc (Obj.cells (ba (zeros 128)) 27)).alloc (Obj.cells (ba (zeros 128)) 27)).setRow A (ba y1)).setRow (A + 1) (ba z1)) (A + 1) 27 z1) := setRow_heap _ _ _ _ _ _ Q1f.out
       have Yf : Hid (BA ((((v1.alloc (Obj.cells (ba (zeros 128)) 27)).alloc (Obj.cells (ba (zeros 128)) 27)).setRow A (ba y1)).setRow (A + 1) (ba z1)) A 27 y1) := (setRow_other _ _ _ _ (by omega)).trans Y1f.out
       have M1f : Hid (BA ((((v1.alloc (Obj.cells (ba (zeros 128)) 27)).alloc (Obj.cells (ba (zeros 128)) 27)).setRow A (ba y1)).setRow (A + 1) (ba z1)) (S + 1) 23 msg8) := (setRow_other _ _ _ _ (by have := M1l.out; omega)).trans M1d.out
       have O1f : Hid (BA ((((v1.alloc (Obj.cells (ba (zeros 128)) 27)).alloc (Obj.cells (ba (zeros 128)) 27)).setRow A (ba y1)).setRow (A + 1) (ba z1)) (S + 2) 23 nsg8) := (setRow_other _ _ _ _ (by have := O1l.out; omega)).trans O1d.out
       have T1f : Hid (BA ((((v1.alloc (Obj.cells (ba (zeros 128)) 27)).alloc (Obj.cells (ba (zeros 128)) 27)).setRow A (ba y1)).setRow (A + 1) (ba z1)) (T) 48 K) := (setRow_other _ _ _ _ (by have := T1l.out; omega)).trans T1d.out
       have B1f : Hid (Below S w ((((v1.alloc (Obj.cells (ba (zeros 128)) 27)).alloc (Obj.cells (ba (zeros 128)) 27)).setRow A (ba y1)).setRow (A + 1) (ba z1))) := below_setRow B1d.out (by have := AS.out; omega) _
       have SVw2 : Hid (S ≤ ((((v1.alloc (Obj.cells (ba (zeros 128)) 27)).alloc (Obj.cells (ba (zeros 128)) 27)).setRow A (ba y1)).setRow (A + 1) (ba z1)).heap.size) := Nat.le_trans AS.out (Nat.le_of_lt (lt_of_block Yf.out))
       clear Y0f Q0f Y1f Q1f hA M1 M1b M1c M1d M1l O1 O1b O1c O1d O1l T1 T1b T1c T1d T1l B1b B1c B1d
       generalize ((((v1.alloc (Obj.cells (ba (zeros 128)) 27)).alloc (Obj.cells (ba (zeros 128)) 27)).setRow A (ba y1)).setRow (A + 1) (ba z1)) = w2 at *)
    | (go_at_call 10
       refine (C10.out T nsg8 y2 z2 w2 HC2.out B1f.out T1f.out).mono ?_
       rintro e v2 ⟨rfl, hb⟩
       have M1fb : Hid (BA v2 (S + 1) 23 msg8) := (hb.block _ (lt_of_block M1f.out)).trans M1f.out
       have O1fb : Hid (BA v2 (S + 2) 23 nsg8) := (hb.block _ (lt_of_block O1f.out)).trans O1f.out
       have T1fb : Hid (BA v2 (T) 48 K) := (hb.block _ (lt_of_block T1f.out)).trans T1f.out
       have Yfb : Hid (BA v2 (A) 27 y1) := (hb.block _ (lt_of_block Yf.out)).trans Yf.out
       have Qfb : Hid (BA v2 (A + 1) 27 z1) := (hb.block _ (lt_of_block Qf.out)).trans Qf.out
       have B1fb : Hid (Below S w v2) := B1f.out.trans (hb.mono SVw2.out)
       have SVbg : Hid (S ≤ v2.heap.size) := Nat.le_trans SVw2.out hb.size
       clear hb
       obtain ⟨G, hG⟩ : ∃ q, v2.heap.size = q := ⟨_, rfl⟩
       have M1fl : Hid (S + 1 < G) := by show _ < _; rw [← hG]; exact lt_of_block M1fb.out
       have O1fl : Hid (S + 2 < G) := by show _ < _; rw [← hG]; exact lt_of_block O1fb.out
       have T1fl : Hid (T < G) := by show _ < _; rw [← hG]; exact lt_of_block T1fb.out
       have Yfl : Hid (A < G) := by show _ < _; rw [← hG]; exact lt_of_block Yfb.out
       have Qfl : Hid (A + 1 < G) := by show _ < _; rw [← hG]; exact lt_of_block Qfb.out
       have M1fc := Lib.hid (ba_old (ba_old M1fb.out (Obj.cells (ba (zeros 128)) 27)) (Obj.cells (ba (zeros 128)) 27))
       have O1fc := Lib.hid (ba_old (ba_old O1fb.out (Obj.cells (ba (zeros 128)) 27)) (Obj.cells (ba (zeros 128)) 27))
       have T1fc := Lib.hid (ba_old (ba_old T1fb.out (Obj.cells (ba (zeros 128)) 27)) (Obj.cells (ba (zeros 128)) 27))
       have Yfc := Lib.hid (ba_old (ba_old Yfb.out (Obj.cells (ba (zeros 128)) 27)) (Obj.cells (ba (zeros 128)) 27))
       have Qfc := Lib.hid (ba_old (ba_old Qfb.out (Obj.cells (ba (zeros 128)) 27)) (Obj.cells (ba (zeros 128)) 27))
       have Y0g := Lib.hid (ba_old (ba_new hG (zeros 128) 27) (Obj.cells (ba (zeros 128)) 27))
       have Q0g := Lib.hid (ba_new (size_al hG (Obj.cells (ba (zeros 128)) 27)) (zeros 128) 27)
       have GS : Hid (S ≤ G) := by show _ ≤ _; rw [← hG]; exact SVbg.out
       have B1fc : Hid (Below S w ((v2.alloc (Obj.cells (ba (zeros 128)) 27)).alloc (Obj.cells (ba (zeros 128)) 27))) := (B1fb.out.alloc (by rw [hG]; exact GS.out) _).alloc (by rw [World.size_alloc, hG]; have := GS.out; omega) _)
    | (refine wpList_store_rowTo rfl 27 (.tmp 10) (.tmp 30) rfl rfl G (ba y2) rfl rfl 27 (ba (zeros 128)) Y0g.out (sz q27 (by rw [ba_size, LY2.out])) (by rw [ba_size, ba_size, LY2.out, zeros_len]) (ba_one _) ?_
       have Y1g : Hid (BA (((v2.alloc (Obj.cells (ba (zeros 128)) 27)).alloc (Obj.cells (ba (zeros 128)) 27)).setRow G (ba y2)) G 27 y2) := setRow_heap _ _ _ _ _ _ Y0g.out
       have Q1g : Hid (BA (((v2.alloc (Obj.cells (ba (zeros 128)) 27)).alloc (Obj.cells (ba (zeros 128)) 27)).setRow G (ba y2)) (G + 1) 27 (zeros 128)) := (setRow_other _ _ _ _ (by omega)).trans Q0g.out
       have M1fd : Hid (BA (((v2.alloc (Obj.cells (ba (zeros 128)) 27)).alloc (Obj.cells (ba (zeros 128)) 27)).setRow G (ba y2)) (S + 1) 23 msg8) := (setRow_other _ _ _ _ (by have := M1fl.out; omega)).trans M1fc.out
       have O1fd : Hid (BA (((v2.alloc (Obj.cells (ba (zeros 128)) 27)).alloc (Obj.cells (ba (zeros 128)) 27)).setRow G (ba y2)) (S + 2) 23 nsg8) := (setRow_other _ _ _ _ (by have := O1fl.out; omega)).trans O1fc.out
       have T1fd : Hid (BA (((v2.alloc (Obj.cells (ba (zeros 128)) 27)).alloc (Obj.cells (ba (zeros 128)) 27)).setRow G (ba y2)) (T) 48 K) := (setRow_other _ _ _ _ (by have := T1fl.out; omega)).trans T1fc.out
       have Yfd : Hid (BA (((v2.alloc (Obj.cells (ba (zeros 128)) 27)).alloc (Obj.cells (ba (zeros 128)) 27)).setRow G (ba y2)) (A) 27 y1) := (setRow_other _ _ _ _ (by have := Yfl.out; omega)).trans Yfc.out
       have Qfd : Hid (BA (((v2.alloc (Obj.cells (ba (zeros 128)) 27)).alloc (Obj.cells (ba (zeros 128)) 27)).setRow G (ba y2)) (A + 1) 27 z1) := (setRow_other _ _ _ _ (by have := Qfl.out; omega)).trans Qfc.out
       have B1fd : Hid (Below S w (((v2.alloc (Obj.cells (ba (zeros 128)) 27)).alloc (Obj.cells (ba (zeros 128)) 27)).setRow G (ba y2))) := below_setRow B1fc.out GS.out _)
    | (refine wpList_store_rowTo rfl 27 (.tmp 11) (.tmp 31) rfl rfl (G + 1) (ba z2) rfl rfl 27 (ba (zeros 128)) Q1g.out (sz q27 (by rw [ba_size, LZ2.out])) (by rw [ba_size, ba_size, LZ2.out, zeros_len]) (ba_one _) ?_
       have Qg : Hid (BA ((((v2.alloc (Obj.cells (ba (zeros 128)) 27)).alloc (Obj.cells (ba (zeros 128)) 27)).setRow G (ba y2)).setRow (G + 1) (ba z2)) (G + 1) 27 z2) := setRow_heap _ _ _ _ _ _ Q1g.out
       have Yg : Hid (BA ((((v2.alloc (Obj.cells (ba (zeros 128)) 27)).alloc (Obj.cells (ba (zeros 128)) 27)).setRow G (ba y2)).setRow (G + 1) (ba z2)) G 27 y2) := (setRow_other _ _ _ _ (by omega)).trans Y1g.out
       have M1fg : Hid (BA ((((v2.alloc (Obj.cells (ba (zeros 128)) 27)).alloc (Obj.cells (ba (zeros 128)) 27)).setRow G (ba y2)).setRow (G + 1) (ba z2)) (S + 1) 23 msg8) := (setRow_other _ _ _ _ (by have := M1fl.out; omega)).trans M1fd.out
       have O1fg : Hid (BA ((((v2.alloc (Obj.cells (ba (zeros 128)) 27)).alloc (Obj.cells (ba (zeros 128)) 27)).setRow G (ba y2)).setRow (G + 1) (ba z2)) (S + 2) 23 nsg8) := (setRow_other _ _ _ _ (by have := O1fl.out; omega)).trans O1fd.out
       have T1fg : Hid (BA ((((v2.alloc (Obj.cells (ba (zeros 128)) 27)).alloc (Obj.cells (ba (zeros 128)) 27)).setRow G (ba y2)).setRow (G + 1) (ba z2)) (T) 48 K) := (setRow_other _ _ _ _ (by have := T1fl.out; omega)).trans T1fd.out
       have Yfg : Hid (BA ((((v2.alloc (Obj.cells (ba (zeros 128)) 27)).alloc (Obj.cells (ba (zeros 128)) 27)).setRow G (ba y2)).setRow (G + 1) (ba z2)) (A) 27 y1) := (setRow_other _ _ _ _ (by have := Yfl.out; omega)).trans Yfd.out
       have Qfg : Hid (BA ((((v2.alloc (Obj.cells (ba (zeros 128)) 27)).alloc (Obj.cells (ba (zeros 128)) 27)).setRow G (ba y2)).setRow (G + 1) (ba z2)) (A + 1) 27 z1) := (setRow_other _ _ _ _ (by have := Qfl.out; omega)).trans Qfd.out
       have B1fg : Hid (Below S w ((((v2.alloc (Obj.cells (ba (zeros 128)) 27)).alloc (Obj.cells (ba (zeros 128)) 27)).setRow G (ba y2)).setRow (G + 1) (ba z2))) := below_setRow B1fd.out (by have := GS.out; omega) _
       have SVw3 : Hid (S ≤ ((((v2.alloc (Obj.cells (ba (zeros 128)) 27)).alloc (Obj.cells (ba (zeros 128)) 27)).setRow G (ba y2)).setRow (G + 1) (ba z2)).heap.size) := Nat.le_trans GS.out (Nat.le_of_lt (lt_of_block Yg.out))
       clear Y0g Q0g Y1g Q1g hG M1f M1fb M1fc M1fd M1fl O1f O1fb O1fc O1fd O1fl T1f T1fb T1fc T1fd T1fl Yf Yfb Yfc Yfd Yfl Qf Qfb Qfc Qfd Qfl B1fb B1fc B1fd
       generalize ((((v2.alloc (Obj.cells (ba (zeros 128)) 27)).alloc (Obj.cells (ba (zeros 128)) 27)).setRow G (ba y2)).setRow (G + 1) (ba z2)) = w3 at *)
    | fail)
  have YF : Hid (BA w3 A 27 y1) := Yfg.out
  have ZF : Hid (BA w3 (A + 1) 27 z1) := Qfg.out
  have YG : Hid (BA w3 G 27 y2) := Yg.out
  have ZG : Hid (BA w3 (G + 1) 27 z2) := Qg.out
  have MG : Hid (BA w3 (S + 1) 23 msg8) := M1fg.out
  have OG : Hid (BA w3 (S + 2) 23 nsg8) := O1fg.out
  have BG : Hid (Below S w w3) := B1fg.out
  obtain ⟨N, hN⟩ : ∃ N, w3.heap.size = N := ⟨_, rfl⟩
  have W3N : Hid (w3.heap.size = N) := hN
  have LN : Hid (S + 2 < N ∧ A + 1 < N ∧ G + 1 < N) := by show _ ∧ _; rw [← hN]; exact ⟨lt_of_block OG.out, lt_of_block ZF.out, lt_of_block ZG.out⟩
  clear hN Yfg Qfg Yg Qg M1fg O1fg B1fg T1fg
  go_loopw [12] (fun c wr => ∃ s : Nat, s ≤ 16 ∧ c = .int .i64 s ∧ Below N w3 wr) (fun c _ => 16 - (intOf c).toNat)
  case atStart => exact ⟨0, by omega, rfl, Below.refl _ _⟩
  case round =>
    obtain ⟨s, hs, rfl, hb⟩ := hrel
    have BR := Lib.hid hb
    clear hb
    by_cases hlt : s < 16
    · have s0 : (0 : Int) ≤ (s : Int) := by omega
      have s1 : (s : Int) < 16 := by omega
      have HS16 : Hid (s < 16) := hlt
      have NR : Hid (N ≤ wr.heap.size) := by show _ ≤ _; rw [← W3N.out]; exact BR.out.size
      obtain ⟨q, hq⟩ : ∃ q, s / 8 = q := ⟨_, rfl⟩
      obtain ⟨r, hr⟩ : ∃ r, s % 8 = r := ⟨_, rfl⟩
      have hxm := byt_getD HMB.out q (by rw [HML.out]; omega)
      have hxn := byt_getD HNB.out q (by rw [HNL.out]; omega)
      have cm := ba_cell MG.out q (by rw [HML.out]; omega)
      have cn := ba_cell OG.out q (by rw [HNL.out]; omega)
      obtain ⟨b1, hb1⟩ : ∃ b, bt msg8 s = b := ⟨_, rfl⟩
      obtain ⟨b2, hb2⟩ : ∃ b, bt nsg8 s = b := ⟨_, rfl⟩
      have hbm : bt msg8 s = (msg8.getD q 0).toNat / 2 ^ r % 2 := by unfold bt; rw [hq, hr]
      have hbn : bt nsg8 s = (nsg8.getD q 0).toNat / 2 ^ r % 2 := by unfold bt; rw [hq, hr]
      obtain ⟨xm, hxme⟩ : ∃ x, msg8.getD q 0 = x := ⟨_, rfl⟩
      obtain ⟨xn, hxne⟩ : ∃ x, nsg8.getD q 0 = x := ⟨_, rfl⟩
      rw [hxme] at hxm cm hbm
      rw [hxne] at hxn cn hbn
      obtain ⟨n1, rfl⟩ := Int.eq_ofNat_of_zero_le hxm.1
      obtain ⟨n2, rfl⟩ := Int.eq_ofNat_of_zero_le hxn.1
      rw [Int.toNat_natCast] at hbm hbn
      have CM : Hid (wr.drew.cell? ⟨S + 1, q, none⟩ = some (.int .u8 (n1 : Int))) := (BR.out.cell (p := ⟨S + 1, q, none⟩) (by have := LN.out; show S + 1 < N; omega)).trans cm
      have CN : Hid (wr.drew.cell? ⟨S + 2, q, none⟩ = some (.int .u8 (n2 : Int))) := (BR.out.cell (p := ⟨S + 2, q, none⟩) (by have := LN.out; show S + 2 < N; omega)).trans cn
      have e1 : Int.tdiv (s : Int) 8 = (q : Int) := by rw [Int.tdiv_eq_ediv_of_nonneg (by omega)]; omega
      have e2 : (s : Int) / 8 = (q : Int) := by omega
      have e3 : Int.tmod (s : Int) 8 = (r : Int) := by rw [Int.tmod_eq_emod_of_nonneg (by omega)]; omega
      have e4 : (s : Int) % 8 = (r : Int) := by omega
      have q0 : (0 : Int) ≤ (q : Int) := by omega
      have q1 : (q : Int) < 8 := by omega
      have r0 : (0 : Int) ≤ (r : Int) := by omega
      have r1 : (r : Int) < 8 := by omega
      have rt : (r : Int).toNat = r := by omega
      have rm : min r 8 = r := by omega
      have wq : IntKind.i64.wrap (q : Int) = (q : Int) := by rw [IntKind.wrap_i64]; omega
      have wrr : IntKind.i64.wrap (r : Int) = (r : Int) := by rw [IntKind.wrap_i64]; omega
      have wuu := wu r (by omega)
      obtain ⟨d1, hd1⟩ : ∃ d, n1 / 2 ^ r = d := ⟨_, rfl⟩
      obtain ⟨d2, hd2⟩ : ∃ d, n2 / 2 ^ r = d := ⟨_, rfl⟩
      have k1 : d1 < 256 := by rw [← hd1]; exact Nat.lt_of_le_of_lt (Nat.div_le_self _ _) (by omega)
      have k2 : d2 < 256 := by rw [← hd2]; exact Nat.lt_of_le_of_lt (Nat.div_le_self _ _) (by omega)
      have ed1 : (n1 : Int) / 2 ^ r = (d1 : Int) := by rw [← hd1]; simp
      have ed2 : (n2 : Int) / 2 ^ r = (d2 : Int) := by rw [← hd2]; simp
      have ea1 := and1u d1 k1
      have ea2 := and1u d2 k2
      rw [show d1 % 2 = b1 by rw [← hd1, ← hbm, hb1]] at ea1
      rw [show d2 % 2 = b2 by rw [← hd2, ← hbn, hb2]] at ea2
      obtain ⟨o1, ho1⟩ : ∃ o, openF K msg8 s = o := ⟨_, rfl⟩
      obtain ⟨u1, hu1⟩ : ∃ o, shutF K msg8 s = o := ⟨_, rfl⟩
      obtain ⟨o2, ho2⟩ : ∃ o, openF K nsg8 s = o := ⟨_, rfl⟩
      obtain ⟨u2, hu2⟩ : ∃ o, shutF K nsg8 s = o := ⟨_, rfl⟩
      have LO1 : Hid (o1.length = 8) := by rw [← ho1]; exact openF_len K msg8 LK.out s hlt
      have LO2 : Hid (o2.length = 8) := by rw [← ho2]; exact openF_len K nsg8 LK.out s hlt
      have LU1 : Hid (u1.length = 8) := by rw [← hu1]; exact shutF_len K msg8 s
      have LU2 : Hid (u2.length = 8) := by rw [← hu2]; exact shutF_len K nsg8 s
      have a1 : at8 y1 s = o1 := by rw [← HC1.out.2.2.1, at8_open K msg8 LK.out s hlt, ho1]
      have a2 : at8 z1 s = u1 := by rw [← HC1.out.2.2.2, at8_shut K msg8 s hlt, hu1]
      have a3 : at8 y2 s = o2 := by rw [← HC2.out.2.2.1, at8_open K nsg8 LK.out s hlt, ho2]
      have a4 : at8 z2 s = u2 := by rw [← HC2.out.2.2.2, at8_shut K nsg8 s hlt, hu2]
      have hio1 : (Tryd.prog.info? 23).map (·.size) = some (bvals o1).length := by rw [s27]; simp [bvals, LO1.out]
      have hio2 : (Tryd.prog.info? 23).map (·.size) = some (bvals o2).length := by rw [s27]; simp [bvals, LO2.out]
      have hiu1 : (Tryd.prog.info? 23).map (·.size) = some (bvals u1).length := by rw [s27]; simp [bvals, LU1.out]
      have hiu2 : (Tryd.prog.info? 23).map (·.size) = some (bvals u2).length := by rw [s27]; simp [bvals, LU2.out]
      have fo := fun w => eqh o1 o1 w LO1.out LO1.out
      rw [decide_eq_true rfl, ba_bvals o1] at fo
      have fu := fun w => eqh u1 u1 w LU1.out LU1.out
      rw [decide_eq_true rfl, ba_bvals u1] at fu
      have fv := fun w => eqh u2 u2 w LU2.out LU2.out
      rw [decide_eq_true rfl, ba_bvals u2] at fv
      have RA : Hid (∀ w' : World, w'.heap[A]? = wr.heap[A]? → w'.rangeAt A (s * 8) (bvals o1)) := fun w' h => by rw [← a1]; exact range8 (h.trans ((BR.out.block A (by have := LN.out; omega)).trans YF.out)) rfl (by rw [LY1.out]; have := HS16.out; omega)
      have RB : Hid (∀ w' : World, w'.heap[A + 1]? = wr.heap[A + 1]? → w'.rangeAt (A + 1) (s * 8) (bvals u1)) := fun w' h => by rw [← a2]; exact range8 (h.trans ((BR.out.block (A + 1) (by have := LN.out; omega)).trans ZF.out)) rfl (by rw [LZ1.out]; have := HS16.out; omega)
      have RG : Hid (∀ w' : World, w'.heap[G]? = wr.heap[G]? → w'.rangeAt G (s * 8) (bvals o2)) := fun w' h => by rw [← a3]; exact range8 (h.trans ((BR.out.block G (by have := LN.out; omega)).trans YG.out)) rfl (by rw [LY2.out]; have := HS16.out; omega)
      have RH : Hid (∀ w' : World, w'.heap[G + 1]? = wr.heap[G + 1]? → w'.rangeAt (G + 1) (s * 8) (bvals u2)) := fun w' h => by rw [← a4]; exact range8 (h.trans ((BR.out.block (G + 1) (by have := LN.out; omega)).trans ZG.out)) rfl (by rw [LZ2.out]; have := HS16.out; omega)
      by_cases hal : b1 = b2
      · have ho : o1 = o2 := by rw [← ho1, ← ho2]; exact alike_open (by rw [hb1, hb2, hal])
        have hu : u1 = u2 := by rw [← hu1, ← hu2]; exact alike_shut (by rw [hb1, hb2, hal])
        subst hal
        subst ho
        subst hu
        clear hlt hs hq hr hxm hxn cm cn hb1 hb2 hbm hbn hxme hxne hd1 hd2 k1 k2 ho1 ho2 hu1 hu2 a1 a2 a3 a4
        go_wp2_with fail
        refine wp_region_held_drew (S := (fun w' : World => w'.cell? ⟨S + 1, q, none⟩ = some (.int .u8 (n1 : Int)) ∧ w'.cell? ⟨S + 2, q, none⟩ = some (.int .u8 (n2 : Int)))) (by kernel_rfl) (by exact ⟨CM.out, CN.out⟩) (fun hHeld => ?_)
        refine wpAnyH_take (i := 0) (v := ?_) rfl (by kernel_rfl) (by kernel_rfl) (by kernel_rfl) (fun _ _ _ h => h) (Or.inl ⟨by rfl, ?_⟩) (by assumption) ?_
        rotate_left
        · (intro w hSw; (try dsimp only at hSw); go_simp; try with_reducible rfl)
        simp only [Act.put, List.getElem_toArray, List.getElem_cons_zero, List.setIfInBounds_toArray, List.set_cons_zero, List.set_cons_succ]
        refine wpAnyH_take (i := 1) (v := ?_) rfl (by kernel_rfl) (by kernel_rfl) (by kernel_rfl) (fun _ _ _ h => h) (Or.inl ⟨by rfl, ?_⟩) (by assumption) ?_
        rotate_left
        · (intro w hSw; (try dsimp only at hSw); go_simp; try with_reducible rfl)
        simp only [Act.put, List.getElem_toArray, List.getElem_cons_succ, List.getElem_cons_zero, List.setIfInBounds_toArray, List.set_cons_zero, List.set_cons_succ]
        refine wpAnyH_take (i := 2) (v := ?_) rfl (by kernel_rfl) (by kernel_rfl) (by kernel_rfl) (fun _ _ _ h => h) (Or.inl ⟨by rfl, ?_⟩) (by assumption) ?_
        rotate_left
        · (intro w hSw; (try dsimp only at hSw); go_simp; try with_reducible rfl)
        simp only [Act.put, List.getElem_toArray, List.getElem_cons_succ, List.getElem_cons_zero, List.setIfInBounds_toArray, List.set_cons_zero, List.set_cons_succ]
        refine wpAnyH_take (i := 3) (v := ?_) rfl (by kernel_rfl) (by kernel_rfl) (by kernel_rfl) (fun _ _ _ h => h) (Or.inl ⟨by rfl, ?_⟩) (by assumption) ?_
        rotate_left
        · (intro w hSw; (try dsimp only at hSw); go_simp; try with_reducible rfl)
        simp only [Act.put, List.getElem_toArray, List.getElem_cons_succ, List.getElem_cons_zero, List.setIfInBounds_toArray, List.set_cons_zero, List.set_cons_succ]
        refine wpAnyH_take (i := 4) (v := ?_) rfl (by kernel_rfl) (by kernel_rfl) (by kernel_rfl) (fun _ _ _ h => h) (Or.inl ⟨by rfl, ?_⟩) (by assumption) ?_
        rotate_left
        · (intro w hSw; (try dsimp only at hSw); go_simp; try with_reducible rfl)
        simp only [Act.put, List.getElem_toArray, List.getElem_cons_succ, List.getElem_cons_zero, List.setIfInBounds_toArray, List.set_cons_zero, List.set_cons_succ]
        refine wpAnyH_take (i := 5) (v := ?_) rfl (by kernel_rfl) (by kernel_rfl) (by kernel_rfl) (fun _ _ _ h => h) (Or.inl ⟨by rfl, ?_⟩) (by assumption) ?_
        rotate_left
        · (intro w hSw; (try dsimp only at hSw); go_simp; try with_reducible rfl)
        simp only [Act.put, List.getElem_toArray, List.getElem_cons_succ, List.getElem_cons_zero, List.setIfInBounds_toArray, List.set_cons_zero, List.set_cons_succ]
        refine wpAnyH_take (i := 6) (v := ?_) rfl (by kernel_rfl) (by kernel_rfl) (by kernel_rfl) (fun _ _ _ h => h) (Or.inl ⟨by rfl, ?_⟩) (by assumption) ?_
        rotate_left
        · (intro w hSw; (try dsimp only at hSw); go_simp; try with_reducible rfl)
        simp only [Act.put, List.getElem_toArray, List.getElem_cons_succ, List.getElem_cons_zero, List.setIfInBounds_toArray, List.set_cons_zero, List.set_cons_succ]
        refine wpAnyH_take (i := 7) (v := ?_) rfl (by kernel_rfl) (by kernel_rfl) (by kernel_rfl) (fun _ _ _ h => h) (Or.inl ⟨by rfl, ?_⟩) (by assumption) ?_
        rotate_left
        · (intro w hSw; (try dsimp only at hSw); go_simp; try with_reducible rfl)
        simp only [Act.put, List.getElem_toArray, List.getElem_cons_succ, List.getElem_cons_zero, List.setIfInBounds_toArray, List.set_cons_zero, List.set_cons_succ]
        refine wpAnyH_take (i := 8) (v := ?_) rfl (by kernel_rfl) (by kernel_rfl) (by kernel_rfl) (fun _ _ _ h => h) (Or.inl ⟨by rfl, ?_⟩) (by assumption) ?_
        rotate_left
        · (intro w hSw; (try dsimp only at hSw); go_simp; try with_reducible rfl)
        simp only [Act.put, List.getElem_toArray, List.getElem_cons_succ, List.getElem_cons_zero, List.setIfInBounds_toArray, List.set_cons_zero, List.set_cons_succ]
        refine wpAnyH_take (i := 9) (v := ?_) rfl (by kernel_rfl) (by kernel_rfl) (by kernel_rfl) (fun _ _ _ h => h) (Or.inl ⟨by rfl, ?_⟩) (by assumption) ?_
        rotate_left
        · (intro w hSw; (try dsimp only at hSw); go_simp; try with_reducible rfl)
        simp only [Act.put, List.getElem_toArray, List.getElem_cons_succ, List.getElem_cons_zero, List.setIfInBounds_toArray, List.set_cons_zero, List.set_cons_succ]
        refine wpAnyH_take (i := 10) (v := ?_) rfl (by kernel_rfl) (by kernel_rfl) (by kernel_rfl) (fun _ _ _ h => h) (Or.inl ⟨by rfl, ?_⟩) (by assumption) ?_
        rotate_left
        · (intro w hSw; (try dsimp only at hSw); go_simp; try with_reducible rfl)
        simp only [Act.put, List.getElem_toArray, List.getElem_cons_succ, List.getElem_cons_zero, List.setIfInBounds_toArray, List.set_cons_zero, List.set_cons_succ]
        refine wpAnyH_take (i := 11) (v := ?_) rfl (by kernel_rfl) (by kernel_rfl) (by kernel_rfl) (fun _ _ _ h => h) (Or.inl ⟨by rfl, ?_⟩) (by assumption) ?_
        rotate_left
        · (intro w hSw; (try dsimp only at hSw); go_simp; try with_reducible rfl)
        simp only [Act.put, List.getElem_toArray, List.getElem_cons_succ, List.getElem_cons_zero, List.setIfInBounds_toArray, List.set_cons_zero, List.set_cons_succ]
        refine wpAnyH_take (i := 12) (v := ?_) rfl (by kernel_rfl) (by kernel_rfl) (by kernel_rfl) (fun _ _ _ h => h) (Or.inl ⟨by rfl, ?_⟩) (by assumption) ?_
        rotate_left
        · (intro w hSw; (try dsimp only at hSw); go_simp; try with_reducible rfl)
        simp only [Act.put, List.getElem_toArray, List.getElem_cons_succ, List.getElem_cons_zero, List.setIfInBounds_toArray, List.set_cons_zero, List.set_cons_succ]
        refine wpAnyH_take (i := 13) (v := ?_) rfl (by kernel_rfl) (by kernel_rfl) (by kernel_rfl) (fun _ _ _ h => h) (Or.inl ⟨by rfl, ?_⟩) (by assumption) ?_
        rotate_left
        · (intro w hSw; (try dsimp only at hSw); go_simp; try with_reducible rfl)
        simp only [Act.put, List.getElem_toArray, List.getElem_cons_succ, List.getElem_cons_zero, List.setIfInBounds_toArray, List.set_cons_zero, List.set_cons_succ]
        refine wpAnyH_take (i := 14) (v := ?_) rfl (by kernel_rfl) (by kernel_rfl) (by kernel_rfl) (fun _ _ _ h => h) (Or.inl ⟨by rfl, ?_⟩) (by assumption) ?_
        rotate_left
        · (intro w hSw; (try dsimp only at hSw); go_simp; try with_reducible rfl)
        simp only [Act.put, List.getElem_toArray, List.getElem_cons_succ, List.getElem_cons_zero, List.setIfInBounds_toArray, List.set_cons_zero, List.set_cons_succ]
        refine wpAnyH_take (i := 15) (v := ?_) rfl (by kernel_rfl) (by kernel_rfl) (by kernel_rfl) (fun _ _ _ h => h) (Or.inl ⟨by rfl, ?_⟩) (by assumption) ?_
        rotate_left
        · (intro w hSw; (try dsimp only at hSw); go_simp; try with_reducible rfl)
        simp only [Act.put, List.getElem_toArray, List.getElem_cons_succ, List.getElem_cons_zero, List.setIfInBounds_toArray, List.set_cons_zero, List.set_cons_succ]
        refine wpAnyH_take (i := 16) (v := ?_) rfl (by kernel_rfl) (by kernel_rfl) (by kernel_rfl) (fun _ _ _ h => h) (Or.inl ⟨by rfl, ?_⟩) (by assumption) ?_
        rotate_left
        · (intro w hSw; (try dsimp only at hSw); go_simp; try with_reducible rfl)
        simp only [Act.put, List.getElem_toArray, List.getElem_cons_succ, List.getElem_cons_zero, List.setIfInBounds_toArray, List.set_cons_zero, List.set_cons_succ]
        refine wpAnyH_take (i := 17) (v := ?_) rfl (by kernel_rfl) (by kernel_rfl) (by kernel_rfl) (fun _ _ _ h => h) (Or.inl ⟨by rfl, ?_⟩) (by assumption) ?_
        rotate_left
        · (intro w hSw; (try dsimp only at hSw); go_simp; try with_reducible rfl)
        simp only [Act.put, List.getElem_toArray, List.getElem_cons_succ, List.getElem_cons_zero, List.setIfInBounds_toArray, List.set_cons_zero, List.set_cons_succ]
        refine wpAnyH_take (i := 18) (v := ?_) rfl (by kernel_rfl) (by kernel_rfl) (by kernel_rfl) (fun _ _ _ h => h) (Or.inl ⟨by rfl, ?_⟩) (by assumption) ?_
        rotate_left
        · (intro w hSw; (try dsimp only at hSw); go_simp; try with_reducible rfl)
        simp only [Act.put, List.getElem_toArray, List.getElem_cons_succ, List.getElem_cons_zero, List.setIfInBounds_toArray, List.set_cons_zero, List.set_cons_succ]
        refine wpAnyH_take (i := 19) (v := ?_) rfl (by kernel_rfl) (by kernel_rfl) (by kernel_rfl) (fun _ _ _ h => h) (Or.inl ⟨by rfl, ?_⟩) (by assumption) ?_
        rotate_left
        · (intro w hSw; (try dsimp only at hSw); go_simp; try with_reducible rfl)
        simp only [Act.put, List.getElem_toArray, List.getElem_cons_succ, List.getElem_cons_zero, List.setIfInBounds_toArray, List.set_cons_zero, List.set_cons_succ]
        refine wpAnyH_done (by kernel_rfl) ?_ _
        clear hHeld
        go_wp2_with fail
        have XX : Hid (Below N wr wr.drew) := (Below.refl _ _).drew
        refine wp_region_held_drew (S := (fun w' : World => ∀ q, q < N → w'.heap[q]? = wr.heap[q]?)) (by kernel_rfl) (by exact fun _ _ => rfl) (fun hHeld => ?_)
        refine wpAnyH_take (i := 0) (v := ?_) rfl (by kernel_rfl) (by kernel_rfl) (by kernel_rfl) (fun _ _ _ h => h) (Or.inl ⟨by rfl, ?_⟩) (by assumption) ?_
        rotate_left
        · (intro w hSw; (try dsimp only at hSw); go_simp; try with_reducible rfl)
        simp only [Act.put, List.getElem_toArray, List.getElem_cons_zero, List.setIfInBounds_toArray, List.set_cons_zero, List.set_cons_succ]
        refine wpAnyH_take (i := 1) (v := ?_) rfl (by kernel_rfl) (by kernel_rfl) (by kernel_rfl) (fun _ _ _ h => h) (Or.inl ⟨by rfl, ?_⟩) (by assumption) ?_
        rotate_left
        · (intro w hSw; (try dsimp only at hSw); go_simp; try with_reducible rfl)
        simp only [Act.put, List.getElem_toArray, List.getElem_cons_succ, List.getElem_cons_zero, List.setIfInBounds_toArray, List.set_cons_zero, List.set_cons_succ]
        refine wpAnyH_take (i := 2) (v := ?_) rfl (by kernel_rfl) (by kernel_rfl) (by kernel_rfl) (fun _ _ _ h => h) (Or.inl ⟨by rfl, ?_⟩) (by assumption) ?_
        rotate_left
        · (intro w hSw; (try dsimp only at hSw); go_simp; try with_reducible rfl)
        simp only [Act.put, List.getElem_toArray, List.getElem_cons_succ, List.getElem_cons_zero, List.setIfInBounds_toArray, List.set_cons_zero, List.set_cons_succ]
        refine wpAnyH_take (i := 3) (v := ?_) rfl (by kernel_rfl) (by kernel_rfl) (by kernel_rfl) (fun _ _ _ h => h) (Or.inl ⟨by rfl, ?_⟩) (by assumption) ?_
        rotate_left
        · (intro w hSw; (try dsimp only at hSw); go_simp; try with_reducible rfl)
        simp only [Act.put, List.getElem_toArray, List.getElem_cons_succ, List.getElem_cons_zero, List.setIfInBounds_toArray, List.set_cons_zero, List.set_cons_succ]
        refine wpAnyH_take (i := 4) rfl (by kernel_rfl) (by kernel_rfl) (by kernel_rfl) (fun _ _ _ h => h) (yieldsIf_load_mid (by rfl) 23 (.tmp 58) rfl (A) (s * 8) rfl (bvals o1) _ (fun w h => RA.out w (h _ (by have := LN.out; omega))) Tryd.underlying23 rfl hio1) (by assumption) ?_
        simp only [Act.put, List.getElem_toArray, List.getElem_cons_succ, List.getElem_cons_zero, List.setIfInBounds_toArray, List.set_cons_zero, List.set_cons_succ]
        refine wpAnyH_take (i := 5) (v := ?_) rfl (by kernel_rfl) (by kernel_rfl) (by kernel_rfl) (fun _ _ _ h => h) (Or.inl ⟨by rfl, ?_⟩) (by assumption) ?_
        rotate_left
        · (intro w hSw; (try dsimp only at hSw); go_simp; try with_reducible rfl)
        simp only [Act.put, List.getElem_toArray, List.getElem_cons_succ, List.getElem_cons_zero, List.setIfInBounds_toArray, List.set_cons_zero, List.set_cons_succ]
        refine wpAnyH_take (i := 6) (v := ?_) rfl (by kernel_rfl) (by kernel_rfl) (by kernel_rfl) (fun _ _ _ h => h) (Or.inl ⟨by rfl, ?_⟩) (by assumption) ?_
        rotate_left
        · (intro w hSw; (try dsimp only at hSw); go_simp; try with_reducible rfl)
        simp only [Act.put, List.getElem_toArray, List.getElem_cons_succ, List.getElem_cons_zero, List.setIfInBounds_toArray, List.set_cons_zero, List.set_cons_succ]
        refine wpAnyH_take (i := 7) rfl (by kernel_rfl) (by kernel_rfl) (by kernel_rfl) (fun _ _ _ h => h) (yieldsIf_load_mid (by rfl) 23 (.tmp 61) rfl (G) (s * 8) rfl (bvals o1) _ (fun w h => RG.out w (h _ (by have := LN.out; omega))) Tryd.underlying23 rfl hio1) (by assumption) ?_
        simp only [Act.put, List.getElem_toArray, List.getElem_cons_succ, List.getElem_cons_zero, List.setIfInBounds_toArray, List.set_cons_zero, List.set_cons_succ]
        refine wpAnyH_take (i := 8) (v := ?_) rfl (by kernel_rfl) (by kernel_rfl) (by kernel_rfl) (fun _ _ _ h => h) (Or.inl ⟨by rfl, ?_⟩) (by assumption) ?_
        rotate_left
        · (intro w hSw; (try dsimp only at hSw); go_simp; try with_reducible rfl)
        simp only [Act.put, List.getElem_toArray, List.getElem_cons_succ, List.getElem_cons_zero, List.setIfInBounds_toArray, List.set_cons_zero, List.set_cons_succ]
        refine wpAnyH_take (i := 9) (v := ?_) rfl (by kernel_rfl) (by kernel_rfl) (by kernel_rfl) (fun _ _ _ h => h) (Or.inl ⟨by rfl, ?_⟩) (by assumption) ?_
        rotate_left
        · (intro w hSw; (try dsimp only at hSw); go_simp; try with_reducible rfl)
        simp only [Act.put, List.getElem_toArray, List.getElem_cons_succ, List.getElem_cons_zero, List.setIfInBounds_toArray, List.set_cons_zero, List.set_cons_succ]
        refine wpAnyH_take (i := 10) (v := ?_) rfl (by kernel_rfl) (by kernel_rfl) (by kernel_rfl) (fun _ _ _ h => h) (Or.inl ⟨by rfl, ?_⟩) (by assumption) ?_
        rotate_left
        · (intro w hSw; (try dsimp only at hSw); go_simp; try with_reducible rfl)
        simp only [Act.put, List.getElem_toArray, List.getElem_cons_succ, List.getElem_cons_zero, List.setIfInBounds_toArray, List.set_cons_zero, List.set_cons_succ]
        refine wpAnyH_take (i := 11) (v := ?_) rfl (by kernel_rfl) (by kernel_rfl) (by kernel_rfl) (fun _ _ _ h => h) (Or.inl ⟨by rfl, ?_⟩) (by assumption) ?_
        rotate_left
        · (intro w hSw; (try dsimp only at hSw); go_simp; try with_reducible rfl)
        simp only [Act.put, List.getElem_toArray, List.getElem_cons_succ, List.getElem_cons_zero, List.setIfInBounds_toArray, List.set_cons_zero, List.set_cons_succ]
        refine wpAnyH_take (i := 12) rfl (by kernel_rfl) (by kernel_rfl) (by kernel_rfl) (fun _ _ _ h => h) (yieldsIf_load_mid (by rfl) 23 (.tmp 66) rfl (A + 1) (s * 8) rfl (bvals u1) _ (fun w h => RB.out w (h _ (by have := LN.out; omega))) Tryd.underlying23 rfl hiu1) (by assumption) ?_
        simp only [Act.put, List.getElem_toArray, List.getElem_cons_succ, List.getElem_cons_zero, List.setIfInBounds_toArray, List.set_cons_zero, List.set_cons_succ]
        refine wpAnyH_take (i := 13) (v := ?_) rfl (by kernel_rfl) (by kernel_rfl) (by kernel_rfl) (fun _ _ _ h => h) (Or.inl ⟨by rfl, ?_⟩) (by assumption) ?_
        rotate_left
        · (intro w hSw; (try dsimp only at hSw); go_simp; try with_reducible rfl)
        simp only [Act.put, List.getElem_toArray, List.getElem_cons_succ, List.getElem_cons_zero, List.setIfInBounds_toArray, List.set_cons_zero, List.set_cons_succ]
        refine wpAnyH_take (i := 14) (v := ?_) rfl (by kernel_rfl) (by kernel_rfl) (by kernel_rfl) (fun _ _ _ h => h) (Or.inl ⟨by rfl, ?_⟩) (by assumption) ?_
        rotate_left
        · (intro w hSw; (try dsimp only at hSw); go_simp; try with_reducible rfl)
        simp only [Act.put, List.getElem_toArray, List.getElem_cons_succ, List.getElem_cons_zero, List.setIfInBounds_toArray, List.set_cons_zero, List.set_cons_succ]
        refine wpAnyH_take (i := 15) rfl (by kernel_rfl) (by kernel_rfl) (by kernel_rfl) (fun _ _ _ h => h) (yieldsIf_load_mid (by rfl) 23 (.tmp 69) rfl (G + 1) (s * 8) rfl (bvals u1) _ (fun w h => RH.out w (h _ (by have := LN.out; omega))) Tryd.underlying23 rfl hiu1) (by assumption) ?_
        simp only [Act.put, List.getElem_toArray, List.getElem_cons_succ, List.getElem_cons_zero, List.setIfInBounds_toArray, List.set_cons_zero, List.set_cons_succ]
        refine wpAnyH_take (i := 16) (v := ?_) rfl (by kernel_rfl) (by kernel_rfl) (by kernel_rfl) (fun _ _ _ h => h) (Or.inl ⟨by rfl, ?_⟩) (by assumption) ?_
        rotate_left
        · (intro w hSw; (try dsimp only at hSw); go_simp; try with_reducible rfl)
        simp only [Act.put, List.getElem_toArray, List.getElem_cons_succ, List.getElem_cons_zero, List.setIfInBounds_toArray, List.set_cons_zero, List.set_cons_succ]
        refine wpAnyH_take (i := 17) (v := ?_) rfl (by kernel_rfl) (by kernel_rfl) (by kernel_rfl) (fun _ _ _ h => h) (Or.inl ⟨by rfl, ?_⟩) (by assumption) ?_
        rotate_left
        · (intro w hSw; (try dsimp only at hSw); go_simp; try with_reducible rfl)
        simp only [Act.put, List.getElem_toArray, List.getElem_cons_succ, List.getElem_cons_zero, List.setIfInBounds_toArray, List.set_cons_zero, List.set_cons_succ]
        refine wpAnyH_take (i := 18) (v := ?_) rfl (by kernel_rfl) (by kernel_rfl) (by kernel_rfl) (fun _ _ _ h => h) (Or.inl ⟨by rfl, ?_⟩) (by assumption) ?_
        rotate_left
        · (intro w hSw; (try dsimp only at hSw); go_simp; try with_reducible rfl)
        simp only [Act.put, List.getElem_toArray, List.getElem_cons_succ, List.getElem_cons_zero, List.setIfInBounds_toArray, List.set_cons_zero, List.set_cons_succ]
        refine wpAnyH_done (by kernel_rfl) ?_ _
        clear hHeld XX
        have DR : Hid (Below N w3 wr.drew.drew) := BR.out.drew.drew
        have HV : Hid (∀ q, q < N → wr.drew.drew.heap[q]? = wr.heap[q]?) := fun _ _ => rfl
        have WNb : Hid (N ≤ wr.drew.drew.heap.size) := NR.out
        generalize wr.drew.drew = wv at *
        go_wp2_with fail
        have XX : Hid (Below N wv wv.drew) := (Below.refl _ _).drew
        refine wp_region_held_drew (S := (fun w' : World => ∀ q, q < N → w'.heap[q]? = wv.heap[q]?)) (by kernel_rfl) (by exact fun _ _ => rfl) (fun hHeld => ?_)
        refine wpAnyH_take (i := 0) (v := ?_) rfl (by kernel_rfl) (by kernel_rfl) (by kernel_rfl) (fun _ _ _ h => h) (Or.inl ⟨by rfl, ?_⟩) (by assumption) ?_
        rotate_left
        · (intro w hSw; (try dsimp only at hSw); go_simp; try with_reducible rfl)
        simp only [Act.put, List.getElem_toArray, List.getElem_cons_zero, List.setIfInBounds_toArray, List.set_cons_zero, List.set_cons_succ]
        refine wpAnyH_take (i := 1) (v := ?_) rfl (by kernel_rfl) (by kernel_rfl) (by kernel_rfl) (fun _ _ _ h => h) (Or.inl ⟨by rfl, ?_⟩) (by assumption) ?_
        rotate_left
        · (intro w hSw; (try dsimp only at hSw); go_simp; try with_reducible rfl)
        simp only [Act.put, List.getElem_toArray, List.getElem_cons_succ, List.getElem_cons_zero, List.setIfInBounds_toArray, List.set_cons_zero, List.set_cons_succ]
        refine wpAnyH_take (i := 2) (v := ?_) rfl (by kernel_rfl) (by kernel_rfl) (by kernel_rfl) (fun _ _ _ h => h) (Or.inl ⟨by rfl, ?_⟩) (by assumption) ?_
        rotate_left
        · (intro w hSw; (try dsimp only at hSw); go_simp; try with_reducible rfl)
        simp only [Act.put, List.getElem_toArray, List.getElem_cons_succ, List.getElem_cons_zero, List.setIfInBounds_toArray, List.set_cons_zero, List.set_cons_succ]
        refine wpAnyH_take (i := 3) rfl (by kernel_rfl) (by kernel_rfl) (by kernel_rfl) (fun _ _ _ h => h) (Or.inr ⟨by rfl, rfl⟩) (by assumption) ?_
        simp only [Act.put, List.getElem_toArray, List.getElem_cons_succ, List.getElem_cons_zero, List.setIfInBounds_toArray, List.set_cons_zero, List.set_cons_succ]
        refine wpAnyH_take (i := 4) rfl (by kernel_rfl) (by kernel_rfl) (by kernel_rfl) (fun _ _ _ h => h) (Or.inr ⟨by rfl, rfl⟩) (by assumption) ?_
        simp only [Act.put, List.getElem_toArray, List.getElem_cons_succ, List.getElem_cons_zero, List.setIfInBounds_toArray, List.set_cons_zero, List.set_cons_succ]
        refine wpAnyH_take (i := 5) rfl (by kernel_rfl) (by kernel_rfl) (by kernel_rfl) (fun _ _ _ h => h) (Or.inr ⟨by rfl, rfl⟩) (by assumption) ?_
        simp only [Act.put, List.getElem_toArray, List.getElem_cons_succ, List.getElem_cons_zero, List.setIfInBounds_toArray, List.set_cons_zero, List.set_cons_succ]
        refine wpAnyH_take (i := 6) rfl (by kernel_rfl) (by kernel_rfl) (by kernel_rfl) (fun _ _ _ h => h) (Or.inr ⟨by rfl, rfl⟩) (by assumption) ?_
        simp only [Act.put, List.getElem_toArray, List.getElem_cons_succ, List.getElem_cons_zero, List.setIfInBounds_toArray, List.set_cons_zero, List.set_cons_succ]
        refine wpAnyH_take (i := 7) rfl (by kernel_rfl) (by kernel_rfl) (by kernel_rfl) (fun _ _ _ h => h) (Or.inr ⟨by rfl, rfl⟩) (by assumption) ?_
        simp only [Act.put, List.getElem_toArray, List.getElem_cons_succ, List.getElem_cons_zero, List.setIfInBounds_toArray, List.set_cons_zero, List.set_cons_succ]
        refine wpAnyH_take (i := 8) rfl (by kernel_rfl) (by kernel_rfl) (by kernel_rfl) (fun _ _ _ h => h) (Or.inr ⟨by rfl, rfl⟩) (by assumption) ?_
        simp only [Act.put, List.getElem_toArray, List.getElem_cons_succ, List.getElem_cons_zero, List.setIfInBounds_toArray, List.set_cons_zero, List.set_cons_succ]
        refine wpAnyH_take (i := 9) rfl (by kernel_rfl) (by kernel_rfl) (by kernel_rfl) (fun _ _ _ h => h) (Or.inr ⟨by rfl, rfl⟩) (by assumption) ?_
        simp only [Act.put, List.getElem_toArray, List.getElem_cons_succ, List.getElem_cons_zero, List.setIfInBounds_toArray, List.set_cons_zero, List.set_cons_succ]
        refine wpAnyH_take (i := 10) rfl (by kernel_rfl) (by kernel_rfl) (by kernel_rfl) (fun _ _ _ h => h) (Or.inr ⟨by rfl, rfl⟩) (by assumption) ?_
        simp only [Act.put, List.getElem_toArray, List.getElem_cons_succ, List.getElem_cons_zero, List.setIfInBounds_toArray, List.set_cons_zero, List.set_cons_succ]
        refine wpAnyH_take (i := 11) rfl (by kernel_rfl) (by kernel_rfl) (by kernel_rfl) (fun _ _ _ h => h) (Or.inr ⟨by rfl, rfl⟩) (by assumption) ?_
        simp only [Act.put, List.getElem_toArray, List.getElem_cons_succ, List.getElem_cons_zero, List.setIfInBounds_toArray, List.set_cons_zero, List.set_cons_succ]
        refine wpAnyH_take (i := 12) rfl (by kernel_rfl) (by kernel_rfl) (by kernel_rfl) (fun _ _ _ h => h) (Or.inr ⟨by rfl, rfl⟩) (by assumption) ?_
        simp only [Act.put, List.getElem_toArray, List.getElem_cons_succ, List.getElem_cons_zero, List.setIfInBounds_toArray, List.set_cons_zero, List.set_cons_succ]
        refine wpAnyH_take (i := 13) rfl (by kernel_rfl) (by kernel_rfl) (by kernel_rfl) (fun _ _ _ h => h) (Or.inr ⟨by rfl, rfl⟩) (by assumption) ?_
        simp only [Act.put, List.getElem_toArray, List.getElem_cons_succ, List.getElem_cons_zero, List.setIfInBounds_toArray, List.set_cons_zero, List.set_cons_succ]
        refine wpAnyH_take (i := 14) rfl (by kernel_rfl) (by kernel_rfl) (by kernel_rfl) (fun _ _ _ h => h) (Or.inr ⟨by rfl, rfl⟩) (by assumption) ?_
        simp only [Act.put, List.getElem_toArray, List.getElem_cons_succ, List.getElem_cons_zero, List.setIfInBounds_toArray, List.set_cons_zero, List.set_cons_succ]
        refine wpAnyH_take (i := 15) rfl (by kernel_rfl) (by kernel_rfl) (by kernel_rfl) (fun _ _ _ h => h) (Or.inr ⟨by rfl, rfl⟩) (by assumption) ?_
        simp only [Act.put, List.getElem_toArray, List.getElem_cons_succ, List.getElem_cons_zero, List.setIfInBounds_toArray, List.set_cons_zero, List.set_cons_succ]
        refine wpAnyH_take (i := 16) rfl (by kernel_rfl) (by kernel_rfl) (by kernel_rfl) (fun _ _ _ h => h) (Or.inr ⟨by rfl, rfl⟩) (by assumption) ?_
        simp only [Act.put, List.getElem_toArray, List.getElem_cons_succ, List.getElem_cons_zero, List.setIfInBounds_toArray, List.set_cons_zero, List.set_cons_succ]
        refine wpAnyH_take (i := 17) rfl (by kernel_rfl) (by kernel_rfl) (by kernel_rfl) (fun _ _ _ h => h) (Or.inr ⟨by rfl, rfl⟩) (by assumption) ?_
        simp only [Act.put, List.getElem_toArray, List.getElem_cons_succ, List.getElem_cons_zero, List.setIfInBounds_toArray, List.set_cons_zero, List.set_cons_succ]
        refine wpAnyH_take (i := 18) rfl (by kernel_rfl) (by kernel_rfl) (by kernel_rfl) (fun _ _ _ h => h) (Or.inr ⟨by rfl, rfl⟩) (by assumption) ?_
        simp only [Act.put, List.getElem_toArray, List.getElem_cons_succ, List.getElem_cons_zero, List.setIfInBounds_toArray, List.set_cons_zero, List.set_cons_succ]
        refine wpAnyH_take (i := 19) rfl (by kernel_rfl) (by kernel_rfl) (by kernel_rfl) (fun _ _ _ h => h) (Or.inr ⟨by rfl, rfl⟩) (by assumption) ?_
        simp only [Act.put, List.getElem_toArray, List.getElem_cons_succ, List.getElem_cons_zero, List.setIfInBounds_toArray, List.set_cons_zero, List.set_cons_succ]
        refine wpAnyH_take (i := 20) rfl (by kernel_rfl) (by kernel_rfl) (by kernel_rfl) (fun _ _ _ h => h) (Or.inr ⟨by rfl, rfl⟩) (by assumption) ?_
        simp only [Act.put, List.getElem_toArray, List.getElem_cons_succ, List.getElem_cons_zero, List.setIfInBounds_toArray, List.set_cons_zero, List.set_cons_succ]
        refine wpAnyH_take (i := 21) (v := ?_) rfl (by kernel_rfl) (by kernel_rfl) (by kernel_rfl) (fun _ _ _ h => h) (Or.inl ⟨by rfl, ?_⟩) (by assumption) ?_
        rotate_left
        · (intro w hSw; (try dsimp only at hSw); go_simp; try with_reducible rfl)
        simp only [Act.put, List.getElem_toArray, List.getElem_cons_succ, List.getElem_cons_zero, List.setIfInBounds_toArray, List.set_cons_zero, List.set_cons_succ]
        refine wpAnyH_done (by kernel_rfl) ?_ _
        clear hHeld XX
        go_wp2
        go_roundw
        case rel => exact ⟨s + 1, by have := HS16.out; omega, by go_num, DR.out.drew⟩
        case measure => have := HS16.out; simp [intOf]; omega
      · have hne : ¬ (b1 : Int) = (b2 : Int) := by omega
        have hbq : ((b1 : Int) == (b2 : Int)) = false := beq_eq_false_iff_ne.mpr hne
        have hm1 : mk o1 = u2 := by rw [← ho1, ← hu2]; exact other_shut (by rw [hb1, hb2]; exact hal)
        have hm2 : mk o2 = u1 := by rw [← ho2, ← hu1]; exact other_shut (by rw [hb1, hb2]; exact fun e => hal e.symm)
        have CO1 : Hid (∀ w', Calls Tryd.prog 15 #[.agg (bvals o1).toArray] w' fun e w'' => e = .returned (.agg (bvals u2).toArray) ∧ Below w'.heap.size w' w'') := fun w' => by
          have := r15 o1 w' LO1.out
          rw [hm1, ba_bvals o1, ba_bvals u2] at this
          exact this
        have CO2 : Hid (∀ w', Calls Tryd.prog 15 #[.agg (bvals o2).toArray] w' fun e w'' => e = .returned (.agg (bvals u1).toArray) ∧ Below w'.heap.size w' w'') := fun w' => by
          have := r15 o2 w' LO2.out
          rw [hm2, ba_bvals o2, ba_bvals u1] at this
          exact this
        clear hlt hs hq hr hxm hxn cm cn hb1 hb2 hbm hbn hxme hxne hd1 hd2 k1 k2 ho1 ho2 hu1 hu2 a1 a2 a3 a4 hm1 hm2 hal
        go_wp2_with fail
        refine wp_region_held_drew (S := (fun w' : World => w'.cell? ⟨S + 1, q, none⟩ = some (.int .u8 (n1 : Int)) ∧ w'.cell? ⟨S + 2, q, none⟩ = some (.int .u8 (n2 : Int)))) (by kernel_rfl) (by exact ⟨CM.out, CN.out⟩) (fun hHeld => ?_)
        refine wpAnyH_take (i := 0) (v := ?_) rfl (by kernel_rfl) (by kernel_rfl) (by kernel_rfl) (fun _ _ _ h => h) (Or.inl ⟨by rfl, ?_⟩) (by assumption) ?_
        rotate_left
        · (intro w hSw; (try dsimp only at hSw); go_simp; try with_reducible rfl)
        simp only [Act.put, List.getElem_toArray, List.getElem_cons_zero, List.setIfInBounds_toArray, List.set_cons_zero, List.set_cons_succ]
        refine wpAnyH_take (i := 1) (v := ?_) rfl (by kernel_rfl) (by kernel_rfl) (by kernel_rfl) (fun _ _ _ h => h) (Or.inl ⟨by rfl, ?_⟩) (by assumption) ?_
        rotate_left
        · (intro w hSw; (try dsimp only at hSw); go_simp; try with_reducible rfl)
        simp only [Act.put, List.getElem_toArray, List.getElem_cons_succ, List.getElem_cons_zero, List.setIfInBounds_toArray, List.set_cons_zero, List.set_cons_succ]
        refine wpAnyH_take (i := 2) (v := ?_) rfl (by kernel_rfl) (by kernel_rfl) (by kernel_rfl) (fun _ _ _ h => h) (Or.inl ⟨by rfl, ?_⟩) (by assumption) ?_
        rotate_left
        · (intro w hSw; (try dsimp only at hSw); go_simp; try with_reducible rfl)
        simp only [Act.put, List.getElem_toArray, List.getElem_cons_succ, List.getElem_cons_zero, List.setIfInBounds_toArray, List.set_cons_zero, List.set_cons_succ]
        refine wpAnyH_take (i := 3) (v := ?_) rfl (by kernel_rfl) (by kernel_rfl) (by kernel_rfl) (fun _ _ _ h => h) (Or.inl ⟨by rfl, ?_⟩) (by assumption) ?_
        rotate_left
        · (intro w hSw; (try dsimp only at hSw); go_simp; try with_reducible rfl)
        simp only [Act.put, List.getElem_toArray, List.getElem_cons_succ, List.getElem_cons_zero, List.setIfInBounds_toArray, List.set_cons_zero, List.set_cons_succ]
        refine wpAnyH_take (i := 4) (v := ?_) rfl (by kernel_rfl) (by kernel_rfl) (by kernel_rfl) (fun _ _ _ h => h) (Or.inl ⟨by rfl, ?_⟩) (by assumption) ?_
        rotate_left
        · (intro w hSw; (try dsimp only at hSw); go_simp; try with_reducible rfl)
        simp only [Act.put, List.getElem_toArray, List.getElem_cons_succ, List.getElem_cons_zero, List.setIfInBounds_toArray, List.set_cons_zero, List.set_cons_succ]
        refine wpAnyH_take (i := 5) (v := ?_) rfl (by kernel_rfl) (by kernel_rfl) (by kernel_rfl) (fun _ _ _ h => h) (Or.inl ⟨by rfl, ?_⟩) (by assumption) ?_
        rotate_left
        · (intro w hSw; (try dsimp only at hSw); go_simp; try with_reducible rfl)
        simp only [Act.put, List.getElem_toArray, List.getElem_cons_succ, List.getElem_cons_zero, List.setIfInBounds_toArray, List.set_cons_zero, List.set_cons_succ]
        refine wpAnyH_take (i := 6) (v := ?_) rfl (by kernel_rfl) (by kernel_rfl) (by kernel_rfl) (fun _ _ _ h => h) (Or.inl ⟨by rfl, ?_⟩) (by assumption) ?_
        rotate_left
        · (intro w hSw; (try dsimp only at hSw); go_simp; try with_reducible rfl)
        simp only [Act.put, List.getElem_toArray, List.getElem_cons_succ, List.getElem_cons_zero, List.setIfInBounds_toArray, List.set_cons_zero, List.set_cons_succ]
        refine wpAnyH_take (i := 7) (v := ?_) rfl (by kernel_rfl) (by kernel_rfl) (by kernel_rfl) (fun _ _ _ h => h) (Or.inl ⟨by rfl, ?_⟩) (by assumption) ?_
        rotate_left
        · (intro w hSw; (try dsimp only at hSw); go_simp; try with_reducible rfl)
        simp only [Act.put, List.getElem_toArray, List.getElem_cons_succ, List.getElem_cons_zero, List.setIfInBounds_toArray, List.set_cons_zero, List.set_cons_succ]
        refine wpAnyH_take (i := 8) (v := ?_) rfl (by kernel_rfl) (by kernel_rfl) (by kernel_rfl) (fun _ _ _ h => h) (Or.inl ⟨by rfl, ?_⟩) (by assumption) ?_
        rotate_left
        · (intro w hSw; (try dsimp only at hSw); go_simp; try with_reducible rfl)
        simp only [Act.put, List.getElem_toArray, List.getElem_cons_succ, List.getElem_cons_zero, List.setIfInBounds_toArray, List.set_cons_zero, List.set_cons_succ]
        refine wpAnyH_take (i := 9) (v := ?_) rfl (by kernel_rfl) (by kernel_rfl) (by kernel_rfl) (fun _ _ _ h => h) (Or.inl ⟨by rfl, ?_⟩) (by assumption) ?_
        rotate_left
        · (intro w hSw; (try dsimp only at hSw); go_simp; try with_reducible rfl)
        simp only [Act.put, List.getElem_toArray, List.getElem_cons_succ, List.getElem_cons_zero, List.setIfInBounds_toArray, List.set_cons_zero, List.set_cons_succ]
        refine wpAnyH_take (i := 10) (v := ?_) rfl (by kernel_rfl) (by kernel_rfl) (by kernel_rfl) (fun _ _ _ h => h) (Or.inl ⟨by rfl, ?_⟩) (by assumption) ?_
        rotate_left
        · (intro w hSw; (try dsimp only at hSw); go_simp; try with_reducible rfl)
        simp only [Act.put, List.getElem_toArray, List.getElem_cons_succ, List.getElem_cons_zero, List.setIfInBounds_toArray, List.set_cons_zero, List.set_cons_succ]
        refine wpAnyH_take (i := 11) (v := ?_) rfl (by kernel_rfl) (by kernel_rfl) (by kernel_rfl) (fun _ _ _ h => h) (Or.inl ⟨by rfl, ?_⟩) (by assumption) ?_
        rotate_left
        · (intro w hSw; (try dsimp only at hSw); go_simp; try with_reducible rfl)
        simp only [Act.put, List.getElem_toArray, List.getElem_cons_succ, List.getElem_cons_zero, List.setIfInBounds_toArray, List.set_cons_zero, List.set_cons_succ]
        refine wpAnyH_take (i := 12) (v := ?_) rfl (by kernel_rfl) (by kernel_rfl) (by kernel_rfl) (fun _ _ _ h => h) (Or.inl ⟨by rfl, ?_⟩) (by assumption) ?_
        rotate_left
        · (intro w hSw; (try dsimp only at hSw); go_simp; try with_reducible rfl)
        simp only [Act.put, List.getElem_toArray, List.getElem_cons_succ, List.getElem_cons_zero, List.setIfInBounds_toArray, List.set_cons_zero, List.set_cons_succ]
        refine wpAnyH_take (i := 13) (v := ?_) rfl (by kernel_rfl) (by kernel_rfl) (by kernel_rfl) (fun _ _ _ h => h) (Or.inl ⟨by rfl, ?_⟩) (by assumption) ?_
        rotate_left
        · (intro w hSw; (try dsimp only at hSw); go_simp; try with_reducible rfl)
        simp only [Act.put, List.getElem_toArray, List.getElem_cons_succ, List.getElem_cons_zero, List.setIfInBounds_toArray, List.set_cons_zero, List.set_cons_succ]
        refine wpAnyH_take (i := 14) (v := ?_) rfl (by kernel_rfl) (by kernel_rfl) (by kernel_rfl) (fun _ _ _ h => h) (Or.inl ⟨by rfl, ?_⟩) (by assumption) ?_
        rotate_left
        · (intro w hSw; (try dsimp only at hSw); go_simp; try with_reducible rfl)
        simp only [Act.put, List.getElem_toArray, List.getElem_cons_succ, List.getElem_cons_zero, List.setIfInBounds_toArray, List.set_cons_zero, List.set_cons_succ]
        refine wpAnyH_take (i := 15) (v := ?_) rfl (by kernel_rfl) (by kernel_rfl) (by kernel_rfl) (fun _ _ _ h => h) (Or.inl ⟨by rfl, ?_⟩) (by assumption) ?_
        rotate_left
        · (intro w hSw; (try dsimp only at hSw); go_simp; try with_reducible rfl)
        simp only [Act.put, List.getElem_toArray, List.getElem_cons_succ, List.getElem_cons_zero, List.setIfInBounds_toArray, List.set_cons_zero, List.set_cons_succ]
        refine wpAnyH_take (i := 16) (v := ?_) rfl (by kernel_rfl) (by kernel_rfl) (by kernel_rfl) (fun _ _ _ h => h) (Or.inl ⟨by rfl, ?_⟩) (by assumption) ?_
        rotate_left
        · (intro w hSw; (try dsimp only at hSw); go_simp; try with_reducible rfl)
        simp only [Act.put, List.getElem_toArray, List.getElem_cons_succ, List.getElem_cons_zero, List.setIfInBounds_toArray, List.set_cons_zero, List.set_cons_succ]
        refine wpAnyH_take (i := 17) (v := ?_) rfl (by kernel_rfl) (by kernel_rfl) (by kernel_rfl) (fun _ _ _ h => h) (Or.inl ⟨by rfl, ?_⟩) (by assumption) ?_
        rotate_left
        · (intro w hSw; (try dsimp only at hSw); go_simp; try with_reducible rfl)
        simp only [Act.put, List.getElem_toArray, List.getElem_cons_succ, List.getElem_cons_zero, List.setIfInBounds_toArray, List.set_cons_zero, List.set_cons_succ]
        refine wpAnyH_take (i := 18) (v := ?_) rfl (by kernel_rfl) (by kernel_rfl) (by kernel_rfl) (fun _ _ _ h => h) (Or.inl ⟨by rfl, ?_⟩) (by assumption) ?_
        rotate_left
        · (intro w hSw; (try dsimp only at hSw); go_simp; try with_reducible rfl)
        simp only [Act.put, List.getElem_toArray, List.getElem_cons_succ, List.getElem_cons_zero, List.setIfInBounds_toArray, List.set_cons_zero, List.set_cons_succ]
        refine wpAnyH_take (i := 19) (v := ?_) rfl (by kernel_rfl) (by kernel_rfl) (by kernel_rfl) (fun _ _ _ h => h) (Or.inl ⟨by rfl, ?_⟩) (by assumption) ?_
        rotate_left
        · (intro w hSw; (try dsimp only at hSw); go_simp; try with_reducible rfl)
        simp only [Act.put, List.getElem_toArray, List.getElem_cons_succ, List.getElem_cons_zero, List.setIfInBounds_toArray, List.set_cons_zero, List.set_cons_succ]
        refine wpAnyH_done (by kernel_rfl) ?_ _
        clear hHeld
        go_wp2_with fail
        have XX : Hid (Below N wr wr.drew) := (Below.refl _ _).drew
        refine wp_region_held_drew (S := (fun w' : World => ∀ q, q < N → w'.heap[q]? = wr.heap[q]?)) (by kernel_rfl) (by exact fun _ _ => rfl) (fun hHeld => ?_)
        refine wpAnyH_take (i := 0) (v := ?_) rfl (by kernel_rfl) (by kernel_rfl) (by kernel_rfl) (fun _ _ _ h => h) (Or.inl ⟨by rfl, ?_⟩) (by assumption) ?_
        rotate_left
        · (intro w hSw; (try dsimp only at hSw); go_simp; try with_reducible rfl)
        simp only [Act.put, List.getElem_toArray, List.getElem_cons_zero, List.setIfInBounds_toArray, List.set_cons_zero, List.set_cons_succ]
        refine wpAnyH_take (i := 1) (v := ?_) rfl (by kernel_rfl) (by kernel_rfl) (by kernel_rfl) (fun _ _ _ h => h) (Or.inl ⟨by rfl, ?_⟩) (by assumption) ?_
        rotate_left
        · (intro w hSw; (try dsimp only at hSw); go_simp; try with_reducible rfl)
        simp only [Act.put, List.getElem_toArray, List.getElem_cons_succ, List.getElem_cons_zero, List.setIfInBounds_toArray, List.set_cons_zero, List.set_cons_succ]
        refine wpAnyH_take (i := 2) rfl (by kernel_rfl) (by kernel_rfl) (by kernel_rfl) (fun _ _ _ h => h) (Or.inr ⟨by rfl, rfl⟩) (by assumption) ?_
        simp only [Act.put, List.getElem_toArray, List.getElem_cons_succ, List.getElem_cons_zero, List.setIfInBounds_toArray, List.set_cons_zero, List.set_cons_succ]
        refine wpAnyH_take (i := 3) rfl (by kernel_rfl) (by kernel_rfl) (by kernel_rfl) (fun _ _ _ h => h) (Or.inr ⟨by rfl, rfl⟩) (by assumption) ?_
        simp only [Act.put, List.getElem_toArray, List.getElem_cons_succ, List.getElem_cons_zero, List.setIfInBounds_toArray, List.set_cons_zero, List.set_cons_succ]
        refine wpAnyH_take (i := 4) rfl (by kernel_rfl) (by kernel_rfl) (by kernel_rfl) (fun _ _ _ h => h) (Or.inr ⟨by rfl, rfl⟩) (by assumption) ?_
        simp only [Act.put, List.getElem_toArray, List.getElem_cons_succ, List.getElem_cons_zero, List.setIfInBounds_toArray, List.set_cons_zero, List.set_cons_succ]
        refine wpAnyH_take (i := 5) rfl (by kernel_rfl) (by kernel_rfl) (by kernel_rfl) (fun _ _ _ h => h) (Or.inr ⟨by rfl, rfl⟩) (by assumption) ?_
        simp only [Act.put, List.getElem_toArray, List.getElem_cons_succ, List.getElem_cons_zero, List.setIfInBounds_toArray, List.set_cons_zero, List.set_cons_succ]
        refine wpAnyH_take (i := 6) rfl (by kernel_rfl) (by kernel_rfl) (by kernel_rfl) (fun _ _ _ h => h) (Or.inr ⟨by rfl, rfl⟩) (by assumption) ?_
        simp only [Act.put, List.getElem_toArray, List.getElem_cons_succ, List.getElem_cons_zero, List.setIfInBounds_toArray, List.set_cons_zero, List.set_cons_succ]
        refine wpAnyH_take (i := 7) rfl (by kernel_rfl) (by kernel_rfl) (by kernel_rfl) (fun _ _ _ h => h) (Or.inr ⟨by rfl, rfl⟩) (by assumption) ?_
        simp only [Act.put, List.getElem_toArray, List.getElem_cons_succ, List.getElem_cons_zero, List.setIfInBounds_toArray, List.set_cons_zero, List.set_cons_succ]
        refine wpAnyH_take (i := 8) rfl (by kernel_rfl) (by kernel_rfl) (by kernel_rfl) (fun _ _ _ h => h) (Or.inr ⟨by rfl, rfl⟩) (by assumption) ?_
        simp only [Act.put, List.getElem_toArray, List.getElem_cons_succ, List.getElem_cons_zero, List.setIfInBounds_toArray, List.set_cons_zero, List.set_cons_succ]
        refine wpAnyH_take (i := 9) rfl (by kernel_rfl) (by kernel_rfl) (by kernel_rfl) (fun _ _ _ h => h) (Or.inr ⟨by rfl, rfl⟩) (by assumption) ?_
        simp only [Act.put, List.getElem_toArray, List.getElem_cons_succ, List.getElem_cons_zero, List.setIfInBounds_toArray, List.set_cons_zero, List.set_cons_succ]
        refine wpAnyH_take (i := 10) rfl (by kernel_rfl) (by kernel_rfl) (by kernel_rfl) (fun _ _ _ h => h) (Or.inr ⟨by rfl, rfl⟩) (by assumption) ?_
        simp only [Act.put, List.getElem_toArray, List.getElem_cons_succ, List.getElem_cons_zero, List.setIfInBounds_toArray, List.set_cons_zero, List.set_cons_succ]
        refine wpAnyH_take (i := 11) rfl (by kernel_rfl) (by kernel_rfl) (by kernel_rfl) (fun _ _ _ h => h) (Or.inr ⟨by rfl, rfl⟩) (by assumption) ?_
        simp only [Act.put, List.getElem_toArray, List.getElem_cons_succ, List.getElem_cons_zero, List.setIfInBounds_toArray, List.set_cons_zero, List.set_cons_succ]
        refine wpAnyH_take (i := 12) rfl (by kernel_rfl) (by kernel_rfl) (by kernel_rfl) (fun _ _ _ h => h) (Or.inr ⟨by rfl, rfl⟩) (by assumption) ?_
        simp only [Act.put, List.getElem_toArray, List.getElem_cons_succ, List.getElem_cons_zero, List.setIfInBounds_toArray, List.set_cons_zero, List.set_cons_succ]
        refine wpAnyH_take (i := 13) rfl (by kernel_rfl) (by kernel_rfl) (by kernel_rfl) (fun _ _ _ h => h) (Or.inr ⟨by rfl, rfl⟩) (by assumption) ?_
        simp only [Act.put, List.getElem_toArray, List.getElem_cons_succ, List.getElem_cons_zero, List.setIfInBounds_toArray, List.set_cons_zero, List.set_cons_succ]
        refine wpAnyH_take (i := 14) rfl (by kernel_rfl) (by kernel_rfl) (by kernel_rfl) (fun _ _ _ h => h) (Or.inr ⟨by rfl, rfl⟩) (by assumption) ?_
        simp only [Act.put, List.getElem_toArray, List.getElem_cons_succ, List.getElem_cons_zero, List.setIfInBounds_toArray, List.set_cons_zero, List.set_cons_succ]
        refine wpAnyH_take (i := 15) rfl (by kernel_rfl) (by kernel_rfl) (by kernel_rfl) (fun _ _ _ h => h) (Or.inr ⟨by rfl, rfl⟩) (by assumption) ?_
        simp only [Act.put, List.getElem_toArray, List.getElem_cons_succ, List.getElem_cons_zero, List.setIfInBounds_toArray, List.set_cons_zero, List.set_cons_succ]
        refine wpAnyH_take (i := 16) rfl (by kernel_rfl) (by kernel_rfl) (by kernel_rfl) (fun _ _ _ h => h) (Or.inr ⟨by rfl, rfl⟩) (by assumption) ?_
        simp only [Act.put, List.getElem_toArray, List.getElem_cons_succ, List.getElem_cons_zero, List.setIfInBounds_toArray, List.set_cons_zero, List.set_cons_succ]
        refine wpAnyH_take (i := 17) rfl (by kernel_rfl) (by kernel_rfl) (by kernel_rfl) (fun _ _ _ h => h) (Or.inr ⟨by rfl, rfl⟩) (by assumption) ?_
        simp only [Act.put, List.getElem_toArray, List.getElem_cons_succ, List.getElem_cons_zero, List.setIfInBounds_toArray, List.set_cons_zero, List.set_cons_succ]
        refine wpAnyH_take (i := 18) (v := ?_) rfl (by kernel_rfl) (by kernel_rfl) (by kernel_rfl) (fun _ _ _ h => h) (Or.inl ⟨by rfl, ?_⟩) (by assumption) ?_
        rotate_left
        · (intro w hSw; (try dsimp only at hSw); go_simp; try with_reducible rfl)
        simp only [Act.put, List.getElem_toArray, List.getElem_cons_succ, List.getElem_cons_zero, List.setIfInBounds_toArray, List.set_cons_zero, List.set_cons_succ]
        refine wpAnyH_done (by kernel_rfl) ?_ _
        clear hHeld XX
        have DR : Hid (Below N w3 wr.drew.drew) := BR.out.drew.drew
        have HV : Hid (∀ q, q < N → wr.drew.drew.heap[q]? = wr.heap[q]?) := fun _ _ => rfl
        have WNb : Hid (N ≤ wr.drew.drew.heap.size) := NR.out
        generalize wr.drew.drew = wv at *
        go_wp2_with fail
        have XX : Hid (Below N wv wv.drew) := (Below.refl _ _).drew
        refine wp_region_held_drew (S := (fun w' : World => ∀ q, q < N → w'.heap[q]? = wv.heap[q]?)) (by kernel_rfl) (by exact fun _ _ => rfl) (fun hHeld => ?_)
        refine wpAnyH_take (i := 0) (v := ?_) rfl (by kernel_rfl) (by kernel_rfl) (by kernel_rfl) (fun _ _ _ h => h) (Or.inl ⟨by rfl, ?_⟩) (by assumption) ?_
        rotate_left
        · (intro w hSw; (try dsimp only at hSw); go_simp; try with_reducible rfl)
        simp only [Act.put, List.getElem_toArray, List.getElem_cons_zero, List.setIfInBounds_toArray, List.set_cons_zero, List.set_cons_succ]
        refine wpAnyH_take (i := 1) (v := ?_) rfl (by kernel_rfl) (by kernel_rfl) (by kernel_rfl) (fun _ _ _ h => h) (Or.inl ⟨by rfl, ?_⟩) (by assumption) ?_
        rotate_left
        · (intro w hSw; (try dsimp only at hSw); go_simp; try with_reducible rfl)
        simp only [Act.put, List.getElem_toArray, List.getElem_cons_succ, List.getElem_cons_zero, List.setIfInBounds_toArray, List.set_cons_zero, List.set_cons_succ]
        refine wpAnyH_take (i := 2) (v := ?_) rfl (by kernel_rfl) (by kernel_rfl) (by kernel_rfl) (fun _ _ _ h => h) (Or.inl ⟨by rfl, ?_⟩) (by assumption) ?_
        rotate_left
        · (intro w hSw; (try dsimp only at hSw); go_simp; try with_reducible rfl)
        simp only [Act.put, List.getElem_toArray, List.getElem_cons_succ, List.getElem_cons_zero, List.setIfInBounds_toArray, List.set_cons_zero, List.set_cons_succ]
        refine wpAnyH_take (i := 3) (v := ?_) rfl (by kernel_rfl) (by kernel_rfl) (by kernel_rfl) (fun _ _ _ h => h) (Or.inl ⟨by rfl, ?_⟩) (by assumption) ?_
        rotate_left
        · (intro w hSw; (try dsimp only at hSw); go_simp; try with_reducible rfl)
        simp only [Act.put, List.getElem_toArray, List.getElem_cons_succ, List.getElem_cons_zero, List.setIfInBounds_toArray, List.set_cons_zero, List.set_cons_succ]
        refine wpAnyH_take (i := 4) (v := ?_) rfl (by kernel_rfl) (by kernel_rfl) (by kernel_rfl) (fun _ _ _ h => h) (Or.inl ⟨by rfl, ?_⟩) (by assumption) ?_
        rotate_left
        · (intro w hSw; (try dsimp only at hSw); go_simp; try with_reducible rfl)
        simp only [Act.put, List.getElem_toArray, List.getElem_cons_succ, List.getElem_cons_zero, List.setIfInBounds_toArray, List.set_cons_zero, List.set_cons_succ]
        refine wpAnyH_take (i := 5) rfl (by kernel_rfl) (by kernel_rfl) (by kernel_rfl) (fun _ _ _ h => h) (yieldsIf_load_mid (by rfl) 23 (.tmp 78) rfl (A) (s * 8) rfl (bvals o1) _ (fun w h => RA.out w ((h _ (by have := LN.out; omega)).trans (HV.out _ (by have := LN.out; omega)))) Tryd.underlying23 rfl hio1) (by assumption) ?_
        simp only [Act.put, List.getElem_toArray, List.getElem_cons_succ, List.getElem_cons_zero, List.setIfInBounds_toArray, List.set_cons_zero, List.set_cons_succ]
        refine wpAnyH_take (i := 7) (v := ?_) rfl (by kernel_rfl) (by kernel_rfl) (by kernel_rfl) (fun _ _ _ h => h) (Or.inl ⟨by rfl, ?_⟩) (by assumption) ?_
        rotate_left
        · (intro w hSw; (try dsimp only at hSw); go_simp; try with_reducible rfl)
        simp only [Act.put, List.getElem_toArray, List.getElem_cons_succ, List.getElem_cons_zero, List.setIfInBounds_toArray, List.set_cons_zero, List.set_cons_succ]
        refine wpAnyH_take (i := 8) (v := ?_) rfl (by kernel_rfl) (by kernel_rfl) (by kernel_rfl) (fun _ _ _ h => h) (Or.inl ⟨by rfl, ?_⟩) (by assumption) ?_
        rotate_left
        · (intro w hSw; (try dsimp only at hSw); go_simp; try with_reducible rfl)
        simp only [Act.put, List.getElem_toArray, List.getElem_cons_succ, List.getElem_cons_zero, List.setIfInBounds_toArray, List.set_cons_zero, List.set_cons_succ]
        refine wpAnyH_take (i := 9) rfl (by kernel_rfl) (by kernel_rfl) (by kernel_rfl) (fun _ _ _ h => h) (yieldsIf_load_mid (by rfl) 23 (.tmp 82) rfl (G + 1) (s * 8) rfl (bvals u2) _ (fun w h => RH.out w ((h _ (by have := LN.out; omega)).trans (HV.out _ (by have := LN.out; omega)))) Tryd.underlying23 rfl hiu2) (by assumption) ?_
        simp only [Act.put, List.getElem_toArray, List.getElem_cons_succ, List.getElem_cons_zero, List.setIfInBounds_toArray, List.set_cons_zero, List.set_cons_succ]
        refine wpAnyH_ready (rs := [6]) (by kernel_rfl) (by simp) ?_
        refine AllReadyH.cons rfl (fun K hK => ?_) AllReadyH.nil
        go_simp
        go_at_call 15
        refine (CO1.out _).mono ?_
        rintro e wcb1 ⟨rfl, hba⟩
        have XN : Hid (Below N wv wcb1) := XX.out.trans (hba.mono (by have := XX.out.size; have := WNb.out; omega))
        clear XX hba hHeld
        have XX := XN
        clear XN
        (try go_wp2_with fail)
        refine hK.out _ _ (by exact fun q hq => XX.out.block q hq) (fun hHeld => ?_)
        clear hK K
        refine wpAnyH_take (i := 10) (v := ?_) rfl (by kernel_rfl) (by kernel_rfl) (by kernel_rfl) (fun _ _ _ h => h) (Or.inl ⟨by rfl, ?_⟩) (by assumption) ?_
        rotate_left
        · (intro w hSw; (try dsimp only at hSw); go_simp; try with_reducible rfl)
        simp only [Act.put, List.getElem_toArray, List.getElem_cons_succ, List.getElem_cons_zero, List.setIfInBounds_toArray, List.set_cons_zero, List.set_cons_succ]
        refine wpAnyH_take (i := 11) (v := ?_) rfl (by kernel_rfl) (by kernel_rfl) (by kernel_rfl) (fun _ _ _ h => h) (Or.inl ⟨by rfl, ?_⟩) (by assumption) ?_
        rotate_left
        · (intro w hSw; (try dsimp only at hSw); go_simp; try with_reducible rfl)
        simp only [Act.put, List.getElem_toArray, List.getElem_cons_succ, List.getElem_cons_zero, List.setIfInBounds_toArray, List.set_cons_zero, List.set_cons_succ]
        refine wpAnyH_take (i := 12) (v := ?_) rfl (by kernel_rfl) (by kernel_rfl) (by kernel_rfl) (fun _ _ _ h => h) (Or.inl ⟨by rfl, ?_⟩) (by assumption) ?_
        rotate_left
        · (intro w hSw; (try dsimp only at hSw); go_simp; try with_reducible rfl)
        simp only [Act.put, List.getElem_toArray, List.getElem_cons_succ, List.getElem_cons_zero, List.setIfInBounds_toArray, List.set_cons_zero, List.set_cons_succ]
        refine wpAnyH_take (i := 13) (v := ?_) rfl (by kernel_rfl) (by kernel_rfl) (by kernel_rfl) (fun _ _ _ h => h) (Or.inl ⟨by rfl, ?_⟩) (by assumption) ?_
        rotate_left
        · (intro w hSw; (try dsimp only at hSw); go_simp; try with_reducible rfl)
        simp only [Act.put, List.getElem_toArray, List.getElem_cons_succ, List.getElem_cons_zero, List.setIfInBounds_toArray, List.set_cons_zero, List.set_cons_succ]
        refine wpAnyH_take (i := 14) rfl (by kernel_rfl) (by kernel_rfl) (by kernel_rfl) (fun _ _ _ h => h) (yieldsIf_load_mid (by rfl) 23 (.tmp 87) rfl (G) (s * 8) rfl (bvals o2) _ (fun w h => RG.out w ((h _ (by have := LN.out; omega)).trans (HV.out _ (by have := LN.out; omega)))) Tryd.underlying23 rfl hio2) (by assumption) ?_
        simp only [Act.put, List.getElem_toArray, List.getElem_cons_succ, List.getElem_cons_zero, List.setIfInBounds_toArray, List.set_cons_zero, List.set_cons_succ]
        refine wpAnyH_take (i := 16) (v := ?_) rfl (by kernel_rfl) (by kernel_rfl) (by kernel_rfl) (fun _ _ _ h => h) (Or.inl ⟨by rfl, ?_⟩) (by assumption) ?_
        rotate_left
        · (intro w hSw; (try dsimp only at hSw); go_simp; try with_reducible rfl)
        simp only [Act.put, List.getElem_toArray, List.getElem_cons_succ, List.getElem_cons_zero, List.setIfInBounds_toArray, List.set_cons_zero, List.set_cons_succ]
        refine wpAnyH_take (i := 17) (v := ?_) rfl (by kernel_rfl) (by kernel_rfl) (by kernel_rfl) (fun _ _ _ h => h) (Or.inl ⟨by rfl, ?_⟩) (by assumption) ?_
        rotate_left
        · (intro w hSw; (try dsimp only at hSw); go_simp; try with_reducible rfl)
        simp only [Act.put, List.getElem_toArray, List.getElem_cons_succ, List.getElem_cons_zero, List.setIfInBounds_toArray, List.set_cons_zero, List.set_cons_succ]
        refine wpAnyH_take (i := 18) rfl (by kernel_rfl) (by kernel_rfl) (by kernel_rfl) (fun _ _ _ h => h) (yieldsIf_load_mid (by rfl) 23 (.tmp 91) rfl (A + 1) (s * 8) rfl (bvals u1) _ (fun w h => RB.out w ((h _ (by have := LN.out; omega)).trans (HV.out _ (by have := LN.out; omega)))) Tryd.underlying23 rfl hiu1) (by assumption) ?_
        simp only [Act.put, List.getElem_toArray, List.getElem_cons_succ, List.getElem_cons_zero, List.setIfInBounds_toArray, List.set_cons_zero, List.set_cons_succ]
        refine wpAnyH_ready (rs := [15]) (by kernel_rfl) (by simp) ?_
        refine AllReadyH.cons rfl (fun K hK => ?_) AllReadyH.nil
        go_simp
        go_at_call 15
        refine (CO2.out _).mono ?_
        rintro e wcb2 ⟨rfl, hba⟩
        have XN : Hid (Below N wv wcb2) := XX.out.trans (hba.mono (by have := XX.out.size; have := WNb.out; omega))
        clear XX hba hHeld
        have XX := XN
        clear XN
        (try go_wp2_with fail)
        refine hK.out _ _ (by exact fun q hq => XX.out.block q hq) (fun hHeld => ?_)
        clear hK K
        refine wpAnyH_take (i := 19) (v := ?_) rfl (by kernel_rfl) (by kernel_rfl) (by kernel_rfl) (fun _ _ _ h => h) (Or.inl ⟨by rfl, ?_⟩) (by assumption) ?_
        rotate_left
        · (intro w hSw; (try dsimp only at hSw); go_simp; try with_reducible rfl)
        simp only [Act.put, List.getElem_toArray, List.getElem_cons_succ, List.getElem_cons_zero, List.setIfInBounds_toArray, List.set_cons_zero, List.set_cons_succ]
        refine wpAnyH_take (i := 20) (v := ?_) rfl (by kernel_rfl) (by kernel_rfl) (by kernel_rfl) (fun _ _ _ h => h) (Or.inl ⟨by rfl, ?_⟩) (by assumption) ?_
        rotate_left
        · (intro w hSw; (try dsimp only at hSw); go_simp; try with_reducible rfl)
        simp only [Act.put, List.getElem_toArray, List.getElem_cons_succ, List.getElem_cons_zero, List.setIfInBounds_toArray, List.set_cons_zero, List.set_cons_succ]
        refine wpAnyH_take (i := 21) (v := ?_) rfl (by kernel_rfl) (by kernel_rfl) (by kernel_rfl) (fun _ _ _ h => h) (Or.inl ⟨by rfl, ?_⟩) (by assumption) ?_
        rotate_left
        · (intro w hSw; (try dsimp only at hSw); go_simp; try with_reducible rfl)
        simp only [Act.put, List.getElem_toArray, List.getElem_cons_succ, List.getElem_cons_zero, List.setIfInBounds_toArray, List.set_cons_zero, List.set_cons_succ]
        refine wpAnyH_done (by kernel_rfl) ?_ _
        go_wp2
        go_roundw
        case rel => exact ⟨s + 1, by have := HS16.out; omega, by go_num, DR.out.trans XX.out⟩
        case measure => have := HS16.out; simp [intOf]; omega
    · obtain rfl : s = 16 := by omega
      go_wp2
      go_ret
      exact ⟨rfl, by rw [HS.out]; exact BG.out.trans (BR.out.mono (by have := LN.out; omega))⟩
end Go.Proofs.YtimfinachecadaaDoor
