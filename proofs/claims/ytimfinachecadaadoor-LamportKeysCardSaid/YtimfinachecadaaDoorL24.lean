/-
  The walk of LamportKeys.
-/
import Derived.Test.YtimfinachecadaaDoorL19
import Derived.Deep.DeepCutAuto
namespace Go.Proofs.YtimfinachecadaaDoor
open Go.RowKit
theorem and255 (n : Int) : bits .and .i64 n 255 = n % 256 := by
  have h255 : (BitVec.ofInt 64 255).toNat = 2 ^ 8 - 1 := by decide
  have key : (BitVec.ofInt 64 n &&& BitVec.ofInt 64 255).toNat = (n % ((2 ^ 64 : Nat) : Int)).toNat % 2 ^ 8 := by
    rw [BitVec.toNat_and, BitVec.toNat_ofInt, h255, Nat.and_two_pow_sub_one_eq_mod]
  show IntKind.i64.wrap ((BitVec.ofInt 64 n &&& BitVec.ofInt 64 255).toNat : Nat) = n % 256
  rw [key, IntKind.wrap_i64]
  omega
theorem bt_zero (s : Nat) : bt (zeros 8) s = 0 := by
  unfold bt
  have : (zeros 8).getD (s / 8) 0 = 0 := by
    rw [List.getD_eq_getElem?_getD]
    unfold zeros
    rw [List.getElem?_replicate]
    split <;> rfl
  rw [this]
  simp
theorem byt_zeros : Byt (zeros 8) := fun x hx => by
  obtain rfl := List.eq_of_mem_replicate hx
  omega
theorem open_zero (seed : List Int) (x : Int) (s : Nat) (hs : s < 16) : openF (cat (keyF seed x) 32) (zeros 8) s = sec seed x s 0 := by
  unfold openF
  rw [bt_zero]
  exact at8_key seed x s 0 hs (by omega)
theorem open_zero8 (K : List Int) (s : Nat) : openF K (zeros 8) s = at8 K (2 * s) := by unfold openF; rw [bt_zero]; rfl
theorem shut_zero8 (K : List Int) (s : Nat) : shutF K (zeros 8) s = marksF K (2 * s + 1) := by unfold shutF marksF; rw [bt_zero]
theorem marks_two (K : List Int) (s : Nat) : cat (marksF K) (2 * (s + 1)) = cat (marksF K) (2 * s) ++ mk (openF K (zeros 8) s) ++ shutF K (zeros 8) s := by
  rw [show 2 * (s + 1) = 2 * s + 1 + 1 by omega, cat_succ, cat_succ, open_zero8, shut_zero8]
  rfl
theorem at8_def (l : List Int) (s : Nat) : at8 l s = (l.drop (8 * s)).take 8 := rfl
theorem mk_eq (a : List Int) : (sha (partM 112 8 a)).take 8 = mk a := rfl
attribute [local irreducible] ua da ba kk sw S8.run rt hs comp splice outB sha msg bvals cat at8 at16 secM zeros sec keyF marksF mk pubk bt openF shutF readF splR sd1 ms1 oF sF
set_option maxRecDepth 100000 in
set_option maxHeartbeats 16000000 in
theorem q6 (seed : List Int) (index : Int) (w : World) (hk : Keys w) (hs : seed.length = 8) :
    Calls Tryd.prog 6 #[.agg (ba seed), .int .i64 index] w fun e w' => e = .returned (.bool true) ∧ Below w.heap.size w w' := by
  obtain ⟨i0, hi, hz0, hz1, hz2⟩ := info_parts info5
  have HI := Lib.hid hi
  have HI0 := Lib.hid hz0
  have HI1 := Lib.hid hz1
  have HI2 := Lib.hid hz2
  clear hi hz0 hz1 hz2
  have h4 := z27
  have h6 := z128
  have HK := Lib.hid hk
  have HP : Hid (0 < w.heap.size) := keys_pos hk
  obtain ⟨S, hS⟩ : ∃ S, w.heap.size = S := ⟨_, rfl⟩
  have HS := Lib.hid hS
  have HSL := Lib.hid hs
  have KW : Hid (∀ w', Below S w w' → Keys w') := fun w' hb => keys_below HK.out hb (by rw [← HS.out]; exact HP.out)
  have E0 := Lib.hid (ba_new hS seed 23)
  have B0 : Hid (Below S w (w.alloc (Obj.cells (ba seed) 23))) := by subst hS; exact (Below.refl _ w).alloc (Nat.le_refl _) _
  have C8 := Lib.hid (p8 (w.alloc (Obj.cells (ba seed) 23)) (KW.out _ B0.out))
  obtain ⟨x, hx⟩ : ∃ x, index % 256 = x := ⟨_, rfl⟩
  have hw : IntKind.u8.wrap index = x := by rw [IntKind.wrap_u8']; exact hx
  have ea : bits .and .i64 index 255 = x := by rw [and255]; exact hx
  have hw2 : IntKind.u8.wrap x = x := by rw [IntKind.wrap_u8']; omega
  obtain ⟨K, hK⟩ : ∃ K, cat (keyF seed x) 32 = K := ⟨_, rfl⟩
  have LK : Hid (K.length = 256) := by rw [← hK]; exact key_len seed x
  obtain ⟨y, hy⟩ : ∃ y, cat (openF K (zeros 8)) 16 = y := ⟨_, rfl⟩
  obtain ⟨z, hz⟩ : ∃ z, cat (shutF K (zeros 8)) 16 = z := ⟨_, rfl⟩
  obtain ⟨P, hP⟩ : ∃ P, pubk (cat (marksF K) 32) = P := ⟨_, rfl⟩
  have LY : Hid (y.length = 128) := by rw [← hy]; exact cat_open_len K _ LK.out
  have LZ : Hid (z.length = 128) := by rw [← hz]; exact cat_shut_len K _
  have LP : Hid (P.length = 8) := by rw [← hP]; exact pubk_len _
  have HPP : Hid (pubk (cat (marksF K) 32) = P) := hP
  have HKK : Hid (cat (keyF seed x) 32 = K) := hK
  have HYY : Hid (cat (openF K (zeros 8)) 16 = y) := hy
  have HZZ : Hid (cat (shutF K (zeros 8)) 16 = z) := hz
  have C9 : Hid (∀ w', Below S w w' → Calls Tryd.prog 9 #[.agg (ba seed), .int .i64 index] w' fun e w'' => ∃ T, e = .returned (.pointer (some ⟨T, 0, none⟩)) ∧ w'.heap.size ≤ T ∧ BA w'' T 48 K ∧ Below w'.heap.size w' w'') := fun w' hb => by
    have := p9 seed index x w' (KW.out w' hb) hs hw
    rw [hK] at this
    exact this
  have D9 : Hid (∀ w', Below S w w' → Calls Tryd.prog 9 #[.agg (ba seed), .int .i64 x] w' fun e w'' => ∃ T, e = .returned (.pointer (some ⟨T, 0, none⟩)) ∧ w'.heap.size ≤ T ∧ BA w'' T 48 K ∧ Below w'.heap.size w' w'') := fun w' hb => by
    have := p9 seed x x w' (KW.out w' hb) hs hw2
    rw [hK] at this
    exact this
  have C10 : Hid (∀ (T : Nat) (w' : World), Below S w w' → BA w' T 48 K → Calls Tryd.prog 10 #[.pointer (some ⟨T, 0, none⟩), .agg (ba (zeros 8))] w' fun e w'' => e = .returned (.tuple #[.agg (ba y), .agg (ba z)]) ∧ Below w'.heap.size w' w'') := fun T w' hb hT => by
    have := p10 K (zeros 8) T w' (KW.out w' hb) LK.out (zeros_len 8) byt_zeros hT
    rw [hy, hz] at this
    exact this
  have C12 : Hid (∀ w' : World, Below S w w' → ∀ T, BA w' T 48 K → Calls Tryd.prog 12 #[.pointer (some ⟨T, 0, none⟩)] w' fun e w'' => e = .returned (.agg (ba P)) ∧ Below w'.heap.size w' w'') := fun w' hb T hT => by
    have := p12 K T w' (KW.out w' hb) LK.out hT
    rw [hP] at this
    exact this
  have f1 := fun w => eqh P P w LP.out LP.out
  rw [decide_eq_true rfl] at f1
  clear hk hs hx hK hy hz hP
  go_enter Tryd.func6, Tryd.ntmps6
  go_wp2_with (first
    | (go_at_call 8
       refine C8.out.mono ?_
       rintro e w0 ⟨rfl, hb⟩
       have L0 : Hid (S < (w.alloc (Obj.cells (ba seed) 23)).heap.size) := lt_of_block E0.out
       have E1 : Hid (BA w0 S 23 seed) := (hb.block _ L0.out).trans E0.out
       have B1 : Hid (Below S w w0) := B0.out.trans (hb.mono (by have := L0.out; omega))
       have L1 : Hid (S < w0.heap.size) := lt_of_block E1.out
       clear hb E0 B0 C8 L0 hS)
    | (refine wpList_load_row rfl 23 (.tmp 2) rfl S rfl 23 (ba seed) (0, 0) _ E1.out Tryd.underlying23 rfl (sz s27 (by rw [ba_size, HSL.out])) ?_)
    | (go_at_call 9
       refine (C9.out w0 B1.out).mono ?_
       rintro e w1 ⟨T, rfl, hT, hb, hw1⟩
       have T1 := Lib.hid hb
       have TS : Hid (S < T) := by show _ < _; have := L1.out; omega
       have E3 : Hid (BA w1 S 23 seed) := (hw1.block _ L1.out).trans E1.out
       have B3 : Hid (Below S w w1) := B1.out.trans (hw1.mono (by have := L1.out; omega))
       have L3 : Hid (S < w1.heap.size) := lt_of_block E3.out
       have TL : Hid (T < w1.heap.size) := lt_of_block hb
       clear hT hb hw1 E1 B1 L1 C9)
    | (refine wpList_load_row rfl 23 (.tmp 2) rfl S rfl 23 (ba seed) (0, 0) _ E3.out Tryd.underlying23 rfl (sz s27 (by rw [ba_size, HSL.out])) ?_)
    | (go_at_call 9
       refine (D9.out w1 B3.out).mono ?_
       rintro e w2 ⟨U, rfl, hT, hb, hw1⟩
       have U2 := Lib.hid hb
       have US : Hid (S < U) := by show _ < _; have := L3.out; omega
       have T2 : Hid (BA w2 T 48 K) := (hw1.block _ TL.out).trans T1.out
       have E2 : Hid (BA w2 S 23 seed) := (hw1.block _ L3.out).trans E3.out
       have B2 : Hid (Below S w w2) := B3.out.trans (hw1.mono (by have := L3.out; omega))
       have SVw2 : Hid (S ≤ w2.heap.size) := Nat.le_of_lt (lt_of_block E2.out)
       clear hT hb hw1 E3 B3 L3 T1 TL)
    | (go_at_call 10
       refine (C10.out T w2 B2.out T2.out).mono ?_
       rintro e v1 ⟨rfl, hb⟩
       have E2b : Hid (BA v1 (S) 23 seed) := (hb.block _ (lt_of_block E2.out)).trans E2.out
       have T2b : Hid (BA v1 (T) 48 K) := (hb.block _ (lt_of_block T2.out)).trans T2.out
       have U2b : Hid (BA v1 (U) 48 K) := (hb.block _ (lt_of_block U2.out)).trans U2.out
       have B2b : Hid (Below S w v1) := B2.out.trans (hb.mono SVw2.out)
       have SVbf : Hid (S ≤ v1.heap.size) := Nat.le_trans SVw2.out hb.size
       clear hb
       obtain ⟨A, hA⟩ : ∃ q, v1.heap.size = q := ⟨_, rfl⟩
       have E2l : Hid (S < A) := by show _ < _; rw [← hA]; exact lt_of_block E2b.out
       have T2l : Hid (T < A) := by show _ < _; rw [← hA]; exact lt_of_block T2b.out
       have U2l : Hid (U < A) := by show _ < _; rw [← hA]; exact lt_of_block U2b.out
       have E2c := Lib.hid (ba_old (ba_old E2b.out (Obj.cells (ba (zeros 128)) 27)) (Obj.cells (ba (zeros 128)) 27))
       have T2c := Lib.hid (ba_old (ba_old T2b.out (Obj.cells (ba (zeros 128)) 27)) (Obj.cells (ba (zeros 128)) 27))
       have U2c := Lib.hid (ba_old (ba_old U2b.out (Obj.cells (ba (zeros 128)) 27)) (Obj.cells (ba (zeros 128)) 27))
       have Y0f := Lib.hid (ba_old (ba_new hA (zeros 128) 27) (Obj.cells (ba (zeros 128)) 27))
       have Q0f := Lib.hid (ba_new (size_al hA (Obj.cells (ba (zeros 128)) 27)) (zeros 128) 27)
       have AS : Hid (S ≤ A) := by show _ ≤ _; rw [← hA]; exact SVbf.out
       have B2c : Hid (Below S w ((v1.alloc (Obj.cells (ba (zeros 128)) 27)).alloc (Obj.cells (ba (zeros 128)) 27))) := (B2b.out.alloc (by rw [hA]; exact AS.out) _).alloc (by rw [World.size_alloc, hA]; have := AS.out; omega) _)
    | (refine wpList_store_rowTo rfl 27 (.tmp 7) (.tmp 31) rfl rfl A (ba y) rfl rfl 27 (ba (zeros 128)) Y0f.out (sz q27 (by rw [ba_size, LY.out])) (by rw [ba_size, ba_size, LY.out, zeros_len]) (ba_one _) ?_
       have Y1f : Hid (BA (((v1.alloc (Obj.cells (ba (zeros 128)) 27)).alloc (Obj.cells (ba (zeros 128)) 27)).setRow A (ba y)) A 27 y) := setRow_heap _ _ _ _ _ _ Y0f.out
       have Q1f : Hid (BA (((v1.alloc (Obj.cells (ba (zeros 128)) 27)).alloc (Obj.cells (ba (zeros 128)) 27)).setRow A (ba y)) (A + 1) 27 (zeros 128)) := (setRow_other _ _ _ _ (by omega)).trans Q0f.out
       have E2d : Hid (BA (((v1.alloc (Obj.cells (ba (zeros 128)) 27)).alloc (Obj.cells (ba (zeros 128)) 27)).setRow A (ba y)) (S) 23 seed) := (setRow_other _ _ _ _ (by have := E2l.out; omega)).trans E2c.out
       have T2d : Hid (BA (((v1.alloc (Obj.cells (ba (zeros 128)) 27)).alloc (Obj.cells (ba (zeros 128)) 27)).setRow A (ba y)) (T) 48 K) := (setRow_other _ _ _ _ (by have := T2l.out; omega)).trans T2c.out
       have U2d : Hid (BA (((v1.alloc (Obj.cells (ba (zeros 128)) 27)).alloc (Obj.cells (ba (zeros 128)) 27)).setRow A (ba y)) (U) 48 K) := (setRow_other _ _ _ _ (by have := U2l.out; omega)).trans U2c.out
       have B2d : Hid (Below S w (((v1.alloc (Obj.cells (ba (zeros 128)) 27)).alloc (Obj.cells (ba (zeros 128)) 27)).setRow A (ba y))) := below_setRow B2c.out AS.out _)
    | (refine wpList_store_rowTo rfl 27 (.tmp 8) (.tmp 32) rfl rfl (A + 1) (ba z) rfl rfl 27 (ba (zeros 128)) Q1f.out (sz q27 (by rw [ba_size, LZ.out])) (by rw [ba_size, ba_size, LZ.out, zeros_len]) (ba_one _) ?_
       have Qf : Hid (BA ((((v1.alloc (Obj.cells (ba (zeros 128)) 27)).alloc (Obj.cells (ba (zeros 128)) 27)).setRow A (ba y)).setRow (A + 1) (ba z)) (A + 1) 27 z) := setRow_heap _ _ _ _ _ _ Q1f.out
       have Yf : Hid (BA ((((v1.alloc (Obj.cells (ba (zeros 128)) 27)).alloc (Obj.cells (ba (zeros 128)) 27)).setRow A (ba y)).setRow (A + 1) (ba z)) A 27 y) := (setRow_other _ _ _ _ (by omega)).trans Y1f.out
       have E2f : Hid (BA ((((v1.alloc (Obj.cells (ba (zeros 128)) 27)).alloc (Obj.cells (ba (zeros 128)) 27)).setRow A (ba y)).setRow (A + 1) (ba z)) (S) 23 seed) := (setRow_other _ _ _ _ (by have := E2l.out; omega)).trans E2d.out
       have T2f : Hid (BA ((((v1.alloc (Obj.cells (ba (zeros 128)) 27)).alloc (Obj.cells (ba (zeros 128)) 27)).setRow A (ba y)).setRow (A + 1) (ba z)) (T) 48 K) := (setRow_other _ _ _ _ (by have := T2l.out; omega)).trans T2d.out
       have U2f : Hid (BA ((((v1.alloc (Obj.cells (ba (zeros 128)) 27)).alloc (Obj.cells (ba (zeros 128)) 27)).setRow A (ba y)).setRow (A + 1) (ba z)) (U) 48 K) := (setRow_other _ _ _ _ (by have := U2l.out; omega)).trans U2d.out
       have B2f : Hid (Below S w ((((v1.alloc (Obj.cells (ba (zeros 128)) 27)).alloc (Obj.cells (ba (zeros 128)) 27)).setRow A (ba y)).setRow (A + 1) (ba z))) := below_setRow B2d.out (by have := AS.out; omega) _
       have SVw3 : Hid (S ≤ ((((v1.alloc (Obj.cells (ba (zeros 128)) 27)).alloc (Obj.cells (ba (zeros 128)) 27)).setRow A (ba y)).setRow (A + 1) (ba z)).heap.size) := Nat.le_trans AS.out (Nat.le_of_lt (lt_of_block Yf.out))
       clear Y0f Q0f Y1f Q1f hA E2 E2b E2c E2d E2l T2 T2b T2c T2d T2l U2 U2b U2c U2d U2l B2b B2c B2d
       generalize ((((v1.alloc (Obj.cells (ba (zeros 128)) 27)).alloc (Obj.cells (ba (zeros 128)) 27)).setRow A (ba y)).setRow (A + 1) (ba z)) = w3 at *)
    | fail)
  have YF : Hid (BA w3 A 27 y) := Yf.out
  have ZF : Hid (BA w3 (A + 1) 27 z) := Qf.out
  have EF : Hid (BA w3 S 23 seed) := E2f.out
  have TF : Hid (BA w3 T 48 K) := T2f.out
  have UF : Hid (BA w3 U 48 K) := U2f.out
  have BG : Hid (Below S w w3) := B2f.out
  obtain ⟨N, hN⟩ : ∃ N, w3.heap.size = N := ⟨_, rfl⟩
  have W3N : Hid (w3.heap.size = N) := hN
  have LN : Hid (S < N ∧ A + 1 < N ∧ T < N ∧ U < N) := by show _ ∧ _; rw [← hN]; exact ⟨lt_of_block EF.out, lt_of_block ZF.out, lt_of_block TF.out, lt_of_block UF.out⟩
  clear hN Yf Qf E2f T2f U2f B2f
  go_loopw [9, 10] (fun v c wr => ∃ (s l : Nat) (Ad : Option Addr) (cp : Nat), s ≤ 16 ∧ c = .int .i64 s ∧ v = .slice Ad l cp ∧ l = 16 * s ∧ wr.ownsRow N 5 1 (.slice Ad l cp) l (bvals (cat (marksF K) (2 * s))) ∧ Below N w3 wr) (fun _ c _ => 16 - (intOf c).toNat)
  case atStart => exact ⟨0, 0, none, 0, by omega, rfl, rfl, rfl, by rw [Nat.mul_zero, cat_zero]; exact own_nil _ _, Below.refl _ _⟩
  case round =>
    obtain ⟨s, l, Ad, cp, hs, rfl, rfl, hl, hown, hbel⟩ := hrel
    have OW := Lib.hid hown
    have BR := Lib.hid hbel
    have HL := Lib.hid hl
    clear hown hbel hl
    by_cases hlt : s < 16
    · have s0 : (0 : Int) ≤ (s : Int) := by omega
      have s1 : (s : Int) < 16 := by omega
      have HS16 : Hid (s < 16) := hlt
      have us : IntKind.u8.wrap (s : Int) = (s : Int) := by rw [IntKind.wrap_u8']; omega
      obtain ⟨a, ha⟩ : ∃ a, openF K (zeros 8) s = a := ⟨_, rfl⟩
      obtain ⟨u, hu⟩ : ∃ u, shutF K (zeros 8) s = u := ⟨_, rfl⟩
      obtain ⟨n, hn⟩ : ∃ n, mk a = n := ⟨_, rfl⟩
      have LA : Hid (a.length = 8) := by rw [← ha]; exact openF_len K _ LK.out s hlt
      have LU : Hid (u.length = 8) := by rw [← hu]; exact shutF_len K _ s
      have LM : Hid (n.length = 8) := by rw [← hn]; exact mk_len _
      have a1 : at8 y s = a := by rw [← HYY.out, at8_open K _ LK.out s hlt, ha]
      have a2 : at8 z s = u := by rw [← HZZ.out, at8_shut K _ s hlt, hu]
      have HA : Hid (sec seed x s 0 = a) := by show _ = _; rw [← ha, ← HKK.out, open_zero seed x s hlt]
      have HC : Hid (cat (marksF K) (2 * (s + 1)) = cat (marksF K) (2 * s) ++ n ++ u) := by show _ = _; rw [marks_two, ha, hu, hn]
      have HMN : Hid (mk a = n) := hn
      have hia : (Tryd.prog.info? 23).map (·.size) = some (bvals a).length := by rw [s27]; simp [bvals, LA.out]
      have fo := fun w => eqh a a w LA.out LA.out
      rw [decide_eq_true rfl, ba_bvals a] at fo
      have NR : Hid (N ≤ wr.heap.size) := by show _ ≤ _; rw [← W3N.out]; exact BR.out.size
      have YR : Hid (BA wr A 27 y) := (BR.out.block A (by have := LN.out; omega)).trans YF.out
      have ZR : Hid (BA wr (A + 1) 27 z) := (BR.out.block (A + 1) (by have := LN.out; omega)).trans ZF.out
      have ER : Hid (BA wr S 23 seed) := (BR.out.block S (by have := LN.out; omega)).trans EF.out
      have HA1 : Hid (at8 y s = a) := a1
      have HA2 : Hid (at8 z s = u) := a2
      have RA : Hid (∀ w' : World, w'.heap[A]? = wr.heap[A]? → w'.rangeAt A (s * 8) (bvals a)) := fun w' h => by rw [← a1]; exact range8 (h.trans YR.out) rfl (by rw [LY.out]; have := HS16.out; omega)
      obtain ⟨M, hM⟩ : ∃ M, wr.heap.size = M := ⟨_, rfl⟩
      have WM : Hid (wr.heap.size = M) := hM
      have WN : Hid (wr.heap.size = M) := hM
      have LM2 : Hid (S < M ∧ A + 1 < M) := by show _ ∧ _; have := NR.out; have := LN.out; omega
      have DG : Hid (∀ w' : World, w'.heap = ((wr.alloc (Obj.cells #[.int .u8 x, .int .u8 (s : Int), .int .u8 0, .int .u8 0] 5)).alloc (Obj.cells #[.slice (some ⟨S, 0, none⟩) 8 8, .slice (some ⟨M, 0, none⟩) 4 4] 38)).heap → Calls Tryd.prog 16 #[.int .u8 115, .slice (some ⟨M + 1, 0, none⟩) 2 2] w' fun e w'' => e = .returned (.agg (bvals a).toArray) ∧ Below w'.heap.size w' w'') := fun w' hh => by
        have z1 : (wr.alloc (Obj.cells #[.int .u8 x, .int .u8 (s : Int), .int .u8 0, .int .u8 0] 5)).heap.size = M + 1 := size_al hM _
        have g1 : w'.heap[M]? = some (.cells #[.int .u8 x, .int .u8 (s : Int), .int .u8 ((0 : Nat) : Int), .int .u8 0] 5 (0, 0)) := by
          rw [hh]
          exact (Below.heap_alloc _ _ _ (by rw [z1]; omega)).trans (by have := heap_alloc_last wr (Obj.cells #[.int .u8 x, .int .u8 (s : Int), .int .u8 0, .int .u8 0] 5); rw [hM] at this; exact this)
        have g2 : w'.heap[M + 1]? = some (.cells #[.slice (some ⟨S, 0, none⟩) 8 8, .slice (some ⟨M, 0, none⟩) 4 4] 38 (0, 0)) := by
          rw [hh]
          have := heap_alloc_last (wr.alloc (Obj.cells #[.int .u8 x, .int .u8 (s : Int), .int .u8 0, .int .u8 0] 5)) (Obj.cells #[.slice (some ⟨S, 0, none⟩) 8 8, .slice (some ⟨M, 0, none⟩) 4 4] 38)
          rw [z1] at this
          exact this
        have g3 : BA w' S 23 seed := by
          show w'.heap[S]? = _
          rw [hh]
          exact (Below.heap_alloc _ _ _ (by rw [z1]; have := LM2.out; omega)).trans ((Below.heap_alloc _ _ _ (by rw [hM]; exact LM2.out.1)).trans ER.out)
        have := dgSec seed x s 0 S M (M + 1) w' HSL.out g3 g1 g2
        rw [HA.out, ba_bvals a] at this
        exact this
      generalize cat (marksF K) (2 * s) = X at *
      clear ha hu hn a1 a2 hlt hs
      go_wp2_with fail
      have XX : Hid (Below M wr wr.drew) := (Below.refl _ _).drew
      refine wp_region_held_drew (S := (fun w' : World => ∀ q, q < M → w'.heap[q]? = wr.heap[q]?)) (by kernel_rfl) (by exact fun _ _ => rfl) (fun hHeld => ?_)
      refine wpAnyH_take (i := 0) (v := ?_) rfl (by kernel_rfl) (by kernel_rfl) (by kernel_rfl) (fun _ _ _ h => h) (Or.inl ⟨by rfl, ?_⟩) (by assumption) ?_
      rotate_left
      · (intro w hSw; (try dsimp only at hSw); go_simp; try with_reducible rfl)
      simp only [Act.put, List.getElem_toArray, List.getElem_cons_zero, List.setIfInBounds_toArray, List.set_cons_zero, List.set_cons_succ]
      refine wpAnyH_take (i := 1) (v := ?_) rfl (by kernel_rfl) (by kernel_rfl) (by kernel_rfl) (fun _ _ _ h => h) (Or.inl ⟨by rfl, ?_⟩) (by assumption) ?_
      rotate_left
      · (intro w hSw; (try dsimp only at hSw); go_simp; try with_reducible rfl)
      simp only [Act.put, List.getElem_toArray, List.getElem_cons_succ, List.getElem_cons_zero, List.setIfInBounds_toArray, List.set_cons_zero, List.set_cons_succ]
      refine wpAnyH_take (i := 2) rfl (by kernel_rfl) (by kernel_rfl) (by kernel_rfl) (fun _ _ _ h => h) (yieldsIf_load_mid (by rfl) 23 (.tmp 38) rfl (A) (s * 8) rfl (bvals a) _ (fun w h => RA.out w (h _ (by have := LM2.out; omega))) Tryd.underlying23 rfl hia) (by assumption) ?_
      simp only [Act.put, List.getElem_toArray, List.getElem_cons_succ, List.getElem_cons_zero, List.setIfInBounds_toArray, List.set_cons_zero, List.set_cons_succ]
      refine wpAnyH_take (i := 3) (v := ?_) rfl (by kernel_rfl) (by kernel_rfl) (by kernel_rfl) (fun _ _ _ h => h) (Or.inl ⟨by rfl, ?_⟩) (by assumption) ?_
      rotate_left
      · (intro w hSw; (try dsimp only at hSw); go_simp; try with_reducible rfl)
      simp only [Act.put, List.getElem_toArray, List.getElem_cons_succ, List.getElem_cons_zero, List.setIfInBounds_toArray, List.set_cons_zero, List.set_cons_succ]
      refine wpAnyH_take (i := 4) (v := ?_) rfl (by kernel_rfl) (by kernel_rfl) (by kernel_rfl) (fun _ _ _ h => h) (Or.inl ⟨by rfl, ?_⟩) (by assumption) ?_
      rotate_left
      · (intro w hSw; (try dsimp only at hSw); go_simp; try with_reducible rfl)
      simp only [Act.put, List.getElem_toArray, List.getElem_cons_succ, List.getElem_cons_zero, List.setIfInBounds_toArray, List.set_cons_zero, List.set_cons_succ]
      refine wpAnyH_take (i := 5) (v := ?_) rfl (by kernel_rfl) (by kernel_rfl) (by kernel_rfl) (fun _ _ _ h => h) (Or.inl ⟨by rfl, ?_⟩) (by assumption) ?_
      rotate_left
      · (intro w hSw; (try dsimp only at hSw); go_simp; try with_reducible rfl)
      simp only [Act.put, List.getElem_toArray, List.getElem_cons_succ, List.getElem_cons_zero, List.setIfInBounds_toArray, List.set_cons_zero, List.set_cons_succ]
      refine wpAnyH_take (i := 6) (v := ?_) rfl (by kernel_rfl) (by kernel_rfl) (by kernel_rfl) (fun _ _ _ h => h) (Or.inl ⟨by rfl, ?_⟩) (by assumption) ?_
      rotate_left
      · (intro w hSw; (try dsimp only at hSw); go_simp; try with_reducible rfl)
      simp only [Act.put, List.getElem_toArray, List.getElem_cons_succ, List.getElem_cons_zero, List.setIfInBounds_toArray, List.set_cons_zero, List.set_cons_succ]
      refine wpAnyH_take (i := 7) (v := ?_) rfl (by kernel_rfl) (by kernel_rfl) (by kernel_rfl) (fun _ _ _ h => h) (Or.inl ⟨by rfl, ?_⟩) (by assumption) ?_
      rotate_left
      · (intro w hSw; (try dsimp only at hSw); go_simp; try with_reducible rfl)
      simp only [Act.put, List.getElem_toArray, List.getElem_cons_succ, List.getElem_cons_zero, List.setIfInBounds_toArray, List.set_cons_zero, List.set_cons_succ]
      refine wpAnyH_ready (rs := [8]) (by kernel_rfl) (by simp) ?_
      refine AllReadyH.cons rfl (fun K hK => ?_) AllReadyH.nil
      go_simp
      have XN : Hid (Below M wr (wr.alloc (Obj.cells #[.int .u8 x, .int .u8 (s : Int), .int .u8 0, .int .u8 0] 5)).drew) := ((Below.refl M wr).alloc (Nat.le_of_eq hM.symm) _).drew
      clear XX hHeld
      refine hK.out _ _ (by exact fun q hq => XN.out.block q hq) (fun hHeld => ?_)
      clear hK K
      refine wpAnyH_ready (rs := [9]) (by kernel_rfl) (by simp) ?_
      refine AllReadyH.cons rfl (fun K hK => ?_) AllReadyH.nil
      go_simp
      have XX : Hid (Below M wr ((wr.alloc (Obj.cells #[.int .u8 x, .int .u8 (s : Int), .int .u8 0, .int .u8 0] 5)).alloc (Obj.cells #[.slice (some ⟨S, 0, none⟩) 8 8, .slice (some ⟨M, 0, none⟩) 4 4] 38)).drew) := (((Below.refl M wr).alloc (Nat.le_of_eq hM.symm) _).alloc (by rw [World.size_alloc, hM]; omega) _).drew
      clear XN hHeld
      refine hK.out _ _ (by exact fun q hq => XX.out.block q hq) (fun hHeld => ?_)
      clear hK K
      refine wpAnyH_ready (rs := [10]) (by kernel_rfl) (by simp) ?_
      refine AllReadyH.cons rfl (fun K hK => ?_) AllReadyH.nil
      go_simp
      go_at_call 16
      refine (DG.out _ (by rfl)).mono ?_
      rintro e wc1 ⟨rfl, hba⟩
      have XN : Hid (Below M wr wc1) := XX.out.trans (hba.mono (by have := XX.out.size; have := WN.out; omega))
      clear XX hba hHeld
      have XX := XN
      clear XN
      (try go_wp2_with fail)
      refine hK.out _ _ (by exact fun q hq => XX.out.block q hq) (fun hHeld => ?_)
      clear hK K
      refine wpAnyH_take (i := 11) (v := ?_) rfl (by kernel_rfl) (by kernel_rfl) (by kernel_rfl) (fun _ _ _ h => h) (Or.inl ⟨by rfl, ?_⟩) (by assumption) ?_
      rotate_left
      · (intro w hSw; (try dsimp only at hSw); go_simp; try with_reducible rfl)
      simp only [Act.put, List.getElem_toArray, List.getElem_cons_succ, List.getElem_cons_zero, List.setIfInBounds_toArray, List.set_cons_zero, List.set_cons_succ]
      refine wpAnyH_done (by kernel_rfl) ?_ _
      have BV : Hid (Below M wr wc1) := XX.out
      clear hHeld XX RA DG
      have YV : Hid (BA wc1 A 27 y) := (BV.out.block _ (by have := LM2.out; omega)).trans YR.out
      have ZV : Hid (BA wc1 (A + 1) 27 z) := (BV.out.block _ (by have := LM2.out; omega)).trans ZR.out
      have MV : Hid (M ≤ wc1.heap.size) := by show _ ≤ _; rw [← WM.out]; exact BV.out.size
      have OV : Hid (wc1.ownsRow N 5 1 (.slice Ad l cp) l (bvals X)) := own_keep OW.out fun q hq => BV.out.block q (Nat.lt_of_lt_of_le (own_lt OW.out q hq) (Nat.le_of_eq WM.out))
      have OLV : Hid (∀ q, (Value.slice Ad l cp).ownBlock = some q → q < M) := fun q hq => Nat.lt_of_lt_of_le (own_lt OW.out q hq) (Nat.le_of_eq WM.out)
      have BVN : Hid (Below N w3 wc1) := BR.out.trans (BV.out.mono (by rw [← WM.out]; exact NR.out))
      obtain ⟨Q, hQ⟩ : ∃ Q, wc1.heap.size = Q := ⟨_, rfl⟩
      have SA : Hid (Src wc1 (some ⟨A, s * 8, none⟩) 8 a) := by
        have := src_at YV.out (s * 8) 8 (by rw [LY.out]; have := HS16.out; omega)
        rw [show (y.drop (s * 8)).take 8 = a by rw [← HA1.out, at8_def, Nat.mul_comm]] at this
        exact this
      clear hM OW YR ZR ER
      go_wp2_with (first
        | (go_at_call 16
           have hG := heap_alloc_last wc1 (Obj.cells #[.slice (some ⟨A, s * 8, none⟩) 8 8] 38)
           have sx := SA.out.keep (W := wc1.alloc (Obj.cells #[.slice (some ⟨A, s * 8, none⟩) 8 8] 38)) fun k hk => Below.heap_alloc wc1 _ k hk
           have C := c12 sum13 112 (some ⟨wc1.heap.size, 0, none⟩) 1 1 _ _ _ _ _ (prtsN hG sx (Nat.le_refl _) (by decide)) (fun i hi h0 => by cases h0) (by rw [msg_one]; exact part_len 112 8 a LA.out (by omega))
           rw [msg_one, hQ, mk_eq, HMN.out] at C
           refine C.mono ?_
           rintro e w6 ⟨rfl, hb⟩
           have B6 : Hid (Below Q wc1 w6) := ((Below.refl Q wc1).alloc (Nat.le_of_eq hQ.symm) _).trans (hb.mono (by rw [World.size_alloc, hQ]; omega))
           have WQ : Hid (wc1.heap.size = Q) := hQ
           clear C sx hb hG hQ
           obtain ⟨H, hH⟩ : ∃ H, w6.heap.size = H := ⟨_, rfl⟩
           have QH : Hid (Q ≤ H) := by show _ ≤ _; rw [← hH, ← WQ.out]; exact B6.out.size
           have N0 := Lib.hid (ba_new hH (zeros 8) 23)
           have B7 : Hid (Below Q wc1 (w6.alloc (Obj.cells (ba (zeros 8)) 23))) := B6.out.alloc (by rw [hH]; exact QH.out) _)
        | (refine wpList_store_rowTo rfl 23 (.tmp 11) (.tmp 53) rfl rfl H (ba n) rfl rfl 23 (ba (zeros 8)) N0.out (sz s27 (by rw [ba_size, LM.out])) (by rw [ba_size, ba_size, LM.out, zeros_len]) (ba_one _) ?_
           have N1 : Hid (BA ((w6.alloc (Obj.cells (ba (zeros 8)) 23)).setRow H (ba n)) H 23 n) := setRow_heap _ _ _ _ _ _ N0.out
           have B8 : Hid (Below Q wc1 ((w6.alloc (Obj.cells (ba (zeros 8)) 23)).setRow H (ba n))) := below_setRow B7.out QH.out _
           clear hH N0 B7
           generalize (w6.alloc (Obj.cells (ba (zeros 8)) 23)).setRow H (ba n) = w7 at *)
        | fail)
      have MQ : Hid (M ≤ Q) := by show _ ≤ _; rw [← WQ.out]; exact MV.out
      have O7 : Hid (w7.ownsRow N 5 1 (.slice Ad l cp) l (bvals X)) := own_keep OV.out fun q hq => B8.out.block q (by have := OLV.out q hq; have := MQ.out; omega)
      have Z7 : Hid (BA w7 (A + 1) 27 z) := (B8.out.block _ (by have := LM2.out; have := MQ.out; omega)).trans ZV.out
      have B9 : Hid (Below N w3 w7) := BVN.out.trans (B8.out.mono (by have := MQ.out; have := NR.out; have := WM.out; omega))
      have L7 : Hid (H < w7.heap.size) := lt_of_block N1.out
      have L8 : Hid (A + 1 < w7.heap.size) := lt_of_block Z7.out
      have Z9 : Hid (N ≤ w7.heap.size) := by show _ ≤ _; have := MQ.out; have := NR.out; have := WM.out; have := QH.out; have := L7.out; omega
      have OD : Hid (w7.drew.ownsRow N 5 1 (.slice Ad l cp) l (bvals X)) := own_keep O7.out fun _ _ => rfl
      have SN : Hid (Src w7.drew (some ⟨H, 0, none⟩) 8 n) := (src_fst0 N1.out LM.out).keep fun _ _ => rfl
      have ZD : Hid (BA w7.drew (A + 1) 27 z) := Z7.out
      have BD : Hid (Below N w3 w7.drew) := B9.out.drew
      go_region_held3 (fun _ => True) (exact trivial)
        (first
          | (refine step_app rfl (.tmp 54) (.tmp 55) 38 rfl i0 Tryd.underlying38 HI.out HI0.out HI1.out HI2.out N l (.slice Ad l cp) X (by simp [Act.eval]) OD.out (some ⟨H, 0, none⟩) 8 8 n (by simp [Act.eval]) SN.out (by intro h; cases h) (by unfold maxLen; have := HL.out; have := HS16.out; omega) (by have := HL.out; have := HS16.out; omega) (by have := Z9.out; exact this) ?_; intro A1 c1 wb hown hg hob; have OB := Lib.hid hown; have BB1 : Hid (Below N w3 wb) := BD.out.grown hg (by have := Z9.out; exact this) (own_base OD.out); have ZB : Hid (BA wb (A + 1) 27 z) := (hg.block (A + 1) (by have := L8.out; exact this) (fun e => by have := own_base OD.out (A + 1) e.symm; have := LN.out; omega)).trans ZD.out; have SU : Hid (Src wb (some ⟨A + 1, s * 8, none⟩) 8 u) := (by have := src_at ZB.out (s * 8) 8 (by rw [LZ.out]; have := HS16.out; omega); rw [show (z.drop (s * 8)).take 8 = u by rw [← HA2.out, at8_def, Nat.mul_comm]] at this; exact this); have ZB2 : Hid (N ≤ wb.heap.size) := Nat.le_trans Z9.out hg.size; clear hown hg hob)
          | (refine step_app rfl (.tmp 56) (.tmp 59) 38 rfl i0 Tryd.underlying38 HI.out HI0.out HI1.out HI2.out N (l + 8) (.slice A1 (l + 8) c1) (X ++ n) (by simp [Act.eval]) OB.out (some ⟨A + 1, s * 8, none⟩) 8 8 u (by simp [Act.eval]) SU.out (by intro h; cases h) (by unfold maxLen; have := HL.out; have := HS16.out; omega) (by have := HL.out; have := HS16.out; omega) ZB2.out ?_; intro A2 c2 wc hown hg hob; have OC := Lib.hid hown; have BC1 : Hid (Below N w3 wc) := BB1.out.grown hg ZB2.out (own_base OB.out); clear hown hg hob))
      rename_i hHeld
      clear hHeld
      go_wp2
      go_roundw
      case rel => exact ⟨s + 1, l + 8 + 8, A2, c2, by have := HS16.out; omega, by go_num, rfl, by have := HL.out; omega, by rw [HC.out]; exact OC.out, BC1.out⟩
      case measure => have := HS16.out; simp [intOf]; omega
    · obtain rfl : s = 16 := by omega
      obtain ⟨D, hD⟩ : ∃ M, cat (marksF K) 32 = M := ⟨_, rfl⟩
      have LD : Hid (D.length = 256) := by rw [← hD]; exact cat_len _ (marksF_len K) 32
      have OM : Hid (wr.ownsRow N 5 1 (.slice Ad l cp) l (bvals D)) := by rw [← hD]; exact OW.out
      have HPD : Hid (pubk D = P) := by rw [← hD]; exact HPP.out
      have BW : Hid (Below S w wr) := BG.out.trans (BR.out.mono (by have := LN.out; omega))
      have TR : Hid (BA wr T 48 K) := (BR.out.block _ (by have := LN.out; omega)).trans TF.out
      have UR : Hid (BA wr U 48 K) := (BR.out.block _ (by have := LN.out; omega)).trans UF.out
      have SR : Hid (S ≤ wr.heap.size) := by show _ ≤ _; have := BR.out.size; have := W3N.out; have := LN.out; omega
      obtain rfl : l = 256 := by have := HL.out; omega
      clear OW hD
      go_wp2_with (first
        | (go_at_call 12
           refine (C12.out wr BW.out T TR.out).mono ?_
           rintro e w5 ⟨rfl, hb⟩
           have TR5 : Hid (BA w5 T 48 K) := (hb.block _ (lt_of_block TR.out)).trans TR.out
           have UR5 : Hid (BA w5 U 48 K) := (hb.block _ (lt_of_block UR.out)).trans UR.out
           have B5 : Hid (Below S w w5) := BW.out.trans (hb.mono SR.out)
           have S5 : Hid (S ≤ w5.heap.size) := Nat.le_trans SR.out hb.size
           have OM5 := Lib.hid (own_keepB OM.out hb)
           clear hb TR)
        | (go_at_call 12
           refine (C12.out w5 B5.out U UR5.out).mono ?_
           rintro e w6 ⟨rfl, hb⟩
           have TR6 : Hid (BA w6 T 48 K) := (hb.block _ (lt_of_block TR5.out)).trans TR5.out
           have B6 : Hid (Below S w w6) := B5.out.trans (hb.mono S5.out)
           have S6 : Hid (S ≤ w6.heap.size) := Nat.le_trans S5.out hb.size
           have OM6 := Lib.hid (own_keepB OM5.out hb)
           clear hb UR5)
        | (go_at_call 12
           refine (C12.out w6 B6.out T TR6.out).mono ?_
           rintro e w7 ⟨rfl, hb⟩
           have B7 : Hid (Below S w w7) := B6.out.trans (hb.mono S6.out)
           have S7 : Hid (S ≤ w7.heap.size) := Nat.le_trans S6.out hb.size
           have OM7 := Lib.hid (own_keepB OM6.out hb)
           clear hb
           obtain ⟨G, hG0⟩ : ∃ G, w7.heap.size = G := ⟨_, rfl⟩)
        | (go_at_call 16
           have hG := heap_alloc_last w7 (Obj.cells #[.slice Ad 256 cp] 38)
           have hso := src_own OM7.out
           have sx : Src (w7.alloc (Obj.cells #[.slice Ad 256 cp] 38)) Ad 256 D := hso.1.keep fun k hk => Below.heap_alloc w7 _ k hk
           have C := c12 sum13 107 (some ⟨w7.heap.size, 0, none⟩) 1 1 _ _ _ _ _ (prtsN hG sx hso.2.1 hso.2.2.2) (fun i hi h0 => hso.2.2.1 h0) (by rw [msg_one]; exact part_len 107 256 D LD.out (by omega))
           rw [msg_one, hG0, pubk_eq, HPD.out] at C
           refine C.mono ?_
           rintro e w8 ⟨rfl, hb⟩
           have B8 : Hid (Below S w w8) := (B7.out.alloc S7.out _).trans (hb.mono (by rw [World.size_alloc]; have := S7.out; omega))
           clear C sx hb hG hso hG0)
        | fail)
      go_ret
      exact ⟨rfl, by rw [HS.out]; exact B8.out⟩
end Go.Proofs.YtimfinachecadaaDoor
