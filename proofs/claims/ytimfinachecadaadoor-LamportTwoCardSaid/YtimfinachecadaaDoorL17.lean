/-
  What each law asks first: what is signed gives the key.
-/
import Derived.Test.YtimfinachecadaaDoorL5
import Derived.Test.YtimfinachecadaaDoorL7
import Derived.Test.YtimfinachecadaaDoorL9
import Derived.Test.YtimfinachecadaaDoorL11
import Derived.Test.YtimfinachecadaaDoorL16
namespace Go.Proofs.YtimfinachecadaaDoor
open Go.RowKit
theorem ba_sd1 : ba sd1 = #[.int .u8 1, .int .u8 0, .int .u8 0, .int .u8 0, .int .u8 0, .int .u8 0, .int .u8 0, .int .u8 0] := rfl
theorem ba_ms1 : ba ms1 = #[.int .u8 5, .int .u8 6, .int .u8 0, .int .u8 0, .int .u8 0, .int .u8 0, .int .u8 0, .int .u8 0] := rfl
attribute [local irreducible] ua da ba kk sw S8.run rt hs comp splice outB sha msg bvals cat at8 at16 secM zeros sec keyF marksF mk pubk bt openF shutF readF splR sd1 ms1
set_option maxRecDepth 100000 in
set_option maxHeartbeats 8000000 in
theorem p8 (w : World) (hk : Keys w) : Calls Tryd.prog 8 #[] w fun e w' => e = .returned (.bool true) ∧ Below w.heap.size w w' := by
  have h4 := z27
  rw [ba8] at h4
  have h6 := z128
  have HK := Lib.hid hk
  have HP : Hid (0 < w.heap.size) := keys_pos hk
  obtain ⟨S, hS⟩ : ∃ S, w.heap.size = S := ⟨_, rfl⟩
  have HS := Lib.hid hS
  have KW : Hid (∀ w', Below S w w' → Keys w') := fun w' hb => keys_below HK.out hb (by rw [← HS.out]; exact HP.out)
  obtain ⟨K, hK⟩ : ∃ K, cat (keyF sd1 0) 32 = K := ⟨_, rfl⟩
  have LK : Hid (K.length = 256) := by rw [← hK]; exact key_len sd1 0
  have C9 : Hid (Calls Tryd.prog 9 #[.agg (ba sd1), .int .i64 0] w fun e w' => ∃ T, e = .returned (.pointer (some ⟨T, 0, none⟩)) ∧ S ≤ T ∧ BA w' T 48 K ∧ Below S w w') := by
    have := p9 sd1 0 0 w hk (by unfold sd1; rfl) (by decide)
    rw [hK, hS] at this
    exact this
  rw [ba_sd1] at C9
  obtain ⟨y, hy⟩ : ∃ y, cat (openF K ms1) 16 = y := ⟨_, rfl⟩
  obtain ⟨z, hz⟩ : ∃ z, cat (shutF K ms1) 16 = z := ⟨_, rfl⟩
  obtain ⟨P, hP⟩ : ∃ P, pubk (cat (marksF K) 32) = P := ⟨_, rfl⟩
  have LY : Hid (y.length = 128) := by rw [← hy]; exact cat_open_len K ms1 LK.out
  have LZ : Hid (z.length = 128) := by rw [← hz]; exact cat_shut_len K ms1
  have LP : Hid (P.length = 8) := by rw [← hP]; exact pubk_len _
  have lm : ms1.length = 8 := by unfold ms1; rfl
  have C10 : Hid (∀ (T : Nat) (w' : World), Below S w w' → BA w' T 48 K → Calls Tryd.prog 10 #[.pointer (some ⟨T, 0, none⟩), .agg (ba ms1)] w' fun e w'' => e = .returned (.tuple #[.agg (ba y), .agg (ba z)]) ∧ Below w'.heap.size w' w'') := fun T w' hb hT => by
    have := p10 K ms1 T w' (KW.out w' hb) LK.out lm byt_ms1 hT
    rw [hy, hz] at this
    exact this
  rw [ba_ms1] at C10
  have C14 : Hid (∀ w' : World, Below S w w' → Calls Tryd.prog 14 #[.agg (ba ms1), .agg (ba y), .agg (ba z)] w' fun e w'' => e = .returned (.agg (ba P)) ∧ Below w'.heap.size w' w'') := fun w' hb => by
    have := p14 ms1 y z w' (KW.out w' hb) lm byt_ms1 LY.out LZ.out
    rw [← hy, ← hz, read_own K ms1 LK.out, hP, hy, hz] at this
    exact this
  rw [ba_ms1] at C14
  have C12 : Hid (∀ (T : Nat) (w' : World), Below S w w' → BA w' T 48 K → Calls Tryd.prog 12 #[.pointer (some ⟨T, 0, none⟩)] w' fun e w'' => e = .returned (.agg (ba P)) ∧ Below w'.heap.size w' w'') := fun T w' hb hT => by
    have := p12 K T w' (KW.out w' hb) LK.out hT
    rw [hP] at this
    exact this
  obtain ⟨a0, a1, a2, a3, a4, a5, a6, a7, ha⟩ := c8cells (at8 y 0) (at8_len (n := 16) LY.out (by omega))
  obtain ⟨d0, d1, d2, d3, d4, d5, d6, d7, hd⟩ := c8cells (at8 z 0) (at8_len (n := 16) LZ.out (by omega))
  have hne : (decide ([a0, a1, a2, a3, a4, a5, a6, a7] = [d0, d1, d2, d3, d4, d5, d6, d7])) = false := by
    have h1 : at8 y 0 = sec sd1 0 0 1 := by rw [← hy, at8_open K ms1 LK.out 0 (by omega), ← hK, open_ms1]
    have h2 : at8 z 0 = mk (sec sd1 0 0 0) := by rw [← hz, at8_shut K ms1 0 (by omega), ← hK, shut_ms1]
    rw [← ha, ← hd, h1, h2]
    exact ms_other
  have f1 := fun w => eqh P P w LP.out LP.out
  rw [decide_eq_true rfl] at f1
  have f2 := fun w => eqh [a0, a1, a2, a3, a4, a5, a6, a7] [d0, d1, d2, d3, d4, d5, d6, d7] w rfl rfl
  rw [hne, ba_lit, ba_lit] at f2
  have HA := Lib.hid ha
  have HD := Lib.hid hd
  clear hk hK hy hz hP ha hd hne lm
  go_enter Tryd.func8, Tryd.ntmps8
  go_wp2_with (first
    | (go_at_call 9
       refine C9.out.mono ?_
       rintro e w1 ⟨T, rfl, hT, hb, hw1⟩
       have T1 := Lib.hid hb
       have B1 := Lib.hid hw1
       have TL : Hid (T < w1.heap.size) := lt_of_block hb
       have TS : Hid (S ≤ T) := hT
       clear hT hb hw1 C9)
    | (go_at_call 10
       refine (C10.out T w1 B1.out T1.out).mono ?_
       rintro e w2 ⟨rfl, hb⟩
       have T2 : Hid (BA w2 T 48 K) := (hb.block _ TL.out).trans T1.out
       have B2 : Hid (Below S w w2) := B1.out.trans (hb.mono (by have := TL.out; have := TS.out; omega))
       have TL2 : Hid (T < w2.heap.size) := lt_of_block T2.out
       clear hb
       obtain ⟨A, hA⟩ : ∃ A, w2.heap.size = A := ⟨_, rfl⟩
       have Y0 := Lib.hid (ba_old (ba_new hA (zeros 128) 27) (Obj.cells (ba (zeros 128)) 27))
       have Q0 := Lib.hid (ba_new (size_al hA (Obj.cells (ba (zeros 128)) 27)) (zeros 128) 27)
       have T3 := Lib.hid (ba_old (ba_old T2.out (Obj.cells (ba (zeros 128)) 27)) (Obj.cells (ba (zeros 128)) 27))
       have AS : Hid (S ≤ A) := by show _ ≤ _; rw [← hA]; have := TL2.out; have := TS.out; omega
       have B3 : Hid (Below S w ((w2.alloc (Obj.cells (ba (zeros 128)) 27)).alloc (Obj.cells (ba (zeros 128)) 27))) := (B2.out.alloc (by rw [hA]; exact AS.out) _).alloc (by rw [World.size_alloc, hA]; have := AS.out; omega) _
       have TA : Hid (T < A) := by show _ < _; rw [← hA]; exact TL2.out)
    | (refine wpList_store_rowTo rfl 27 (.tmp 2) (.tmp 12) rfl rfl A (ba y) rfl rfl 27 (ba (zeros 128)) Y0.out (sz q27 (by rw [ba_size, LY.out])) (by rw [ba_size, ba_size, LY.out, zeros_len]) (ba_one _) ?_
       have Y1 : Hid (BA (((w2.alloc (Obj.cells (ba (zeros 128)) 27)).alloc (Obj.cells (ba (zeros 128)) 27)).setRow A (ba y)) A 27 y) := setRow_heap _ _ _ _ _ _ Y0.out
       have Q1 : Hid (BA (((w2.alloc (Obj.cells (ba (zeros 128)) 27)).alloc (Obj.cells (ba (zeros 128)) 27)).setRow A (ba y)) (A + 1) 27 (zeros 128)) := (setRow_other _ _ _ _ (by omega)).trans Q0.out
       have T4 : Hid (BA (((w2.alloc (Obj.cells (ba (zeros 128)) 27)).alloc (Obj.cells (ba (zeros 128)) 27)).setRow A (ba y)) T 48 K) := (setRow_other _ _ _ _ (by have := TA.out; omega)).trans T3.out
       have B4 : Hid (Below S w (((w2.alloc (Obj.cells (ba (zeros 128)) 27)).alloc (Obj.cells (ba (zeros 128)) 27)).setRow A (ba y))) := below_setRow B3.out AS.out _
       clear Y0 Q0 T3 B3)
    | (refine wpList_store_rowTo rfl 27 (.tmp 3) (.tmp 13) rfl rfl (A + 1) (ba z) rfl rfl 27 (ba (zeros 128)) Q1.out (sz q27 (by rw [ba_size, LZ.out])) (by rw [ba_size, ba_size, LZ.out, zeros_len]) (ba_one _) ?_
       have Q2 : Hid (BA ((((w2.alloc (Obj.cells (ba (zeros 128)) 27)).alloc (Obj.cells (ba (zeros 128)) 27)).setRow A (ba y)).setRow (A + 1) (ba z)) (A + 1) 27 z) := setRow_heap _ _ _ _ _ _ Q1.out
       have Y2 : Hid (BA ((((w2.alloc (Obj.cells (ba (zeros 128)) 27)).alloc (Obj.cells (ba (zeros 128)) 27)).setRow A (ba y)).setRow (A + 1) (ba z)) A 27 y) := (setRow_other _ _ _ _ (by omega)).trans Y1.out
       have T5 : Hid (BA ((((w2.alloc (Obj.cells (ba (zeros 128)) 27)).alloc (Obj.cells (ba (zeros 128)) 27)).setRow A (ba y)).setRow (A + 1) (ba z)) T 48 K) := (setRow_other _ _ _ _ (by have := TA.out; omega)).trans T4.out
       have B5 : Hid (Below S w ((((w2.alloc (Obj.cells (ba (zeros 128)) 27)).alloc (Obj.cells (ba (zeros 128)) 27)).setRow A (ba y)).setRow (A + 1) (ba z))) := below_setRow B4.out (by have := AS.out; omega) _
       clear Q1 Y1 T4 B4 hA
       generalize (((w2.alloc (Obj.cells (ba (zeros 128)) 27)).alloc (Obj.cells (ba (zeros 128)) 27)).setRow A (ba y)).setRow (A + 1) (ba z) = w3 at *)
    | (refine wpList_load_row rfl 27 (.tmp 2) rfl A rfl 27 (ba y) (0, 0) _ Y2.out Tryd.underlying27 rfl (sz q27 (by rw [ba_size, LY.out])) ?_)
    | (refine wpList_load_row rfl 27 (.tmp 3) rfl (A + 1) rfl 27 (ba z) (0, 0) _ Q2.out Tryd.underlying27 rfl (sz q27 (by rw [ba_size, LZ.out])) ?_)
    | (go_at_call 14
       refine (C14.out w3 B5.out).mono ?_
       rintro e w4 ⟨rfl, hb⟩
       have L3 : Hid (A + 1 < w3.heap.size) := lt_of_block Q2.out
       have T6 : Hid (BA w4 T 48 K) := (hb.block _ (lt_of_block T5.out)).trans T5.out
       have Y3 : Hid (BA w4 A 27 y) := (hb.block _ (lt_of_block Y2.out)).trans Y2.out
       have Q3 : Hid (BA w4 (A + 1) 27 z) := (hb.block _ L3.out).trans Q2.out
       have B6 : Hid (Below S w w4) := B5.out.trans (hb.mono (by have := L3.out; have := AS.out; omega))
       clear hb)
    | (go_at_call 12
       refine (C12.out T w4 B6.out T6.out).mono ?_
       rintro e w5 ⟨rfl, hb⟩
       have L4 : Hid (A + 1 < w4.heap.size) := lt_of_block Q3.out
       have Y4 : Hid (BA w5 A 27 y) := (hb.block _ (lt_of_block Y3.out)).trans Y3.out
       have Q4 : Hid (BA w5 (A + 1) 27 z) := (hb.block _ L4.out).trans Q3.out
       have B7 : Hid (Below S w w5) := B6.out.trans (hb.mono (by have := L4.out; have := AS.out; omega))
       have ea : (w5.cell? ⟨A, 0, none⟩ = some (.int .u8 a0) ∧ w5.cell? ⟨A, 0 + 1, none⟩ = some (.int .u8 a1) ∧ w5.cell? ⟨A, 0 + 2, none⟩ = some (.int .u8 a2) ∧ w5.cell? ⟨A, 0 + 3, none⟩ = some (.int .u8 a3) ∧ w5.cell? ⟨A, 0 + 4, none⟩ = some (.int .u8 a4) ∧ w5.cell? ⟨A, 0 + 5, none⟩ = some (.int .u8 a5) ∧ w5.cell? ⟨A, 0 + 6, none⟩ = some (.int .u8 a6) ∧ w5.cell? ⟨A, 0 + 7, none⟩ = some (.int .u8 a7)) := cells8_at (o := 0) (k := 0) a0 a1 a2 a3 a4 a5 a6 a7 Y4.out HA.out rfl (by rw [LY.out]; omega)
       have ed : (w5.cell? ⟨A + 1, 0, none⟩ = some (.int .u8 d0) ∧ w5.cell? ⟨A + 1, 0 + 1, none⟩ = some (.int .u8 d1) ∧ w5.cell? ⟨A + 1, 0 + 2, none⟩ = some (.int .u8 d2) ∧ w5.cell? ⟨A + 1, 0 + 3, none⟩ = some (.int .u8 d3) ∧ w5.cell? ⟨A + 1, 0 + 4, none⟩ = some (.int .u8 d4) ∧ w5.cell? ⟨A + 1, 0 + 5, none⟩ = some (.int .u8 d5) ∧ w5.cell? ⟨A + 1, 0 + 6, none⟩ = some (.int .u8 d6) ∧ w5.cell? ⟨A + 1, 0 + 7, none⟩ = some (.int .u8 d7)) := cells8_at (o := 0) (k := 0) d0 d1 d2 d3 d4 d5 d6 d7 Q4.out HD.out rfl (by rw [LZ.out]; omega)
       simp only [Nat.zero_add] at ea ed
       obtain ⟨e0, e1, e2, e3, e4, e5, e6, e7⟩ := ea
       obtain ⟨f0, f1, f2, f3, f4, f5, f6, f7⟩ := ed
       clear hb)
    | fail)
  go_ret
  exact ⟨rfl, by rw [HS.out]; exact B7.out⟩
end Go.Proofs.YtimfinachecadaaDoor
