/-
  The document's publics and root of a seed.
-/
import Derived.Test.YtmcmdpbdipgahaaK4
import Derived.Test.YtmcmdpbdipgahaaLF
namespace Go.Proofs.Ytmcmdpbdipgahaa
open Go.RowKit
theorem byt_zeros : Byt (zeros 8) := fun x hx => by
  obtain rfl := List.eq_of_mem_replicate hx
  omega
theorem b23 (w : World) : (Instr.build 31 #[]).run Try.prog w = .ok (.agg (ba (zeros 8))) w := by kernel_rfl
/-- the document's signature -/
theorem dSig8 (seed m : List Int) (j : Nat) (w : World) (hj : j < 256) (hs : seed.length = 8) (hm : m.length = 8) (hb : Byt m) :
    Calls Try.prog 60 #[.agg (ba seed), .int .i64 j, .agg (ba m)] w fun e w' => e = .returned (.tuple #[.agg (ba (opL seed j m)), .agg (ba (shL seed j m))]) ∧ Below w.heap.size w w' := by
  have := dSign seed m j j w hs (by rw [IntKind.wrap_u8']; omega) hm hb
  rw [open_doc, shut_doc] at this
  exact this
/-- the public of what is signed -/
theorem dPub8 (seed m : List Int) (j : Nat) (w : World) (hm : m.length = 8) (hb : Byt m) :
    Calls Try.prog 61 #[.agg (ba m), .agg (ba (opL seed j m)), .agg (ba (shL seed j m))] w fun e w' => e = .returned (.agg (ba (pubF seed j))) ∧ Below w.heap.size w w' := by
  have := dRead m (opL seed j m) (shL seed j m) w hm hb (opL_len seed j m) (shL_len seed j m)
  have e : cat (readF m (opL seed j m) (shL seed j m)) 32 = cat (marksF (keyL seed j)) 32 := read_own _ m (keyL_len seed j)
  rw [e] at this
  exact this
theorem pubs_eq (seed : List Int) : cat (pubF seed) 8 = pubs seed := rfl
theorem rootL_eq7 (seed : List Int) : rootV 8 (pubs seed) = rootL seed := rfl
attribute [local irreducible] ua da ba kk sw S8.run rt hs comp splice outB sha msg bvals cat at8 at16 secM zeros sec keyF marksF mk pubk bt openF shutF readF splR oF sF rootF leafH twoH stepsF cutN leadF provL rootV pubF pubs keyL opn sht way gives ckB chkB rootL sg opL shL

set_option maxRecDepth 100000 in
set_option maxHeartbeats 8000000 in
theorem dPubs (seed : List Int) (w : World) (hs : seed.length = 8) :
    Calls Try.prog 46 #[.agg (ba seed)] w fun e w' => ∃ A c, e = .returned (.slice A 8 c) ∧ w'.ownsRow w.heap.size 31 8 (.slice A 8 c) 8 (bvals (pubs seed)) ∧ Below w.heap.size w w' := by
  have h4 := b23
  have h6 := z128
  have HL := Lib.hid hs
  obtain ⟨S, hS⟩ : ∃ S, w.heap.size = S := ⟨_, rfl⟩
  have HS := Lib.hid hS
  have E0 := Lib.hid (ba_new hS seed 31)
  have B0 : Hid (Below S w (w.alloc (Obj.cells (ba seed) 31))) := by subst hS; exact (Below.refl _ w).alloc (Nat.le_refl _) _
  have Z0 : Hid (S + 1 ≤ (w.alloc (Obj.cells (ba seed) 31)).heap.size) := by show _ ≤ _; rw [size_al hS]; exact Nat.le_refl _
  obtain ⟨zz, hzz⟩ : ∃ z, zeros 8 = z := ⟨_, rfl⟩
  have C22 : Hid (∀ (j : Nat) (w' : World), j < 8 → Calls Try.prog 60 #[.agg (ba seed), .int .i64 j, .agg (ba (zeros 8))] w' fun e w'' => e = .returned (.tuple #[.agg (ba (opL seed j (zeros 8))), .agg (ba (shL seed j (zeros 8)))]) ∧ Below w'.heap.size w' w'') := fun j w' hj => dSig8 seed (zeros 8) j w' (by omega) hs (zeros_len 8) byt_zeros
  have C16 : Hid (∀ (j : Nat) (w' : World), Calls Try.prog 61 #[.agg (ba (zeros 8)), .agg (ba (opL seed j (zeros 8))), .agg (ba (shL seed j (zeros 8)))] w' fun e w'' => e = .returned (.agg (ba (pubF seed j))) ∧ Below w'.heap.size w' w'') := fun j w' => dPub8 seed (zeros 8) j w' (zeros_len 8) byt_zeros
  have PE : Hid (cat (pubF seed) 8 = pubs seed) := pubs_eq seed
  clear hs hzz zz
  go_enter Try.func46, Try.ntmps46
  go_wp2_with fail
  clear hS
  generalize (w.alloc (Obj.cells (ba seed) 31)) = w0 at *
  go_loopw [3, 4] (fun v c wr => ∃ (s : Nat) (A0 : Option Addr) (c0 : Nat), s ≤ 8 ∧ c = .int .i64 s ∧ v = .slice A0 s c0 ∧ wr.ownsRow (S + 1) 31 8 (.slice A0 s c0) s (bvals (cat (pubF seed) s)) ∧ BA wr S 31 seed ∧ Below S w wr ∧ S + 1 ≤ wr.heap.size) (fun _ c _ => 8 - (intOf c).toNat)
  case atStart => exact ⟨0, none, 0, by omega, rfl, rfl, by rw [cat_zero]; exact own8_nil _ _, E0.out, B0.out, Z0.out⟩
  case round =>
    clear E0 B0 Z0
    obtain ⟨s, A0, c0, hs, rfl, rfl, hO, hE, hb, hz⟩ := hrel
    have OW := Lib.hid hO
    have ER := Lib.hid hE
    have BR := Lib.hid hb
    have ZR := Lib.hid hz
    clear hO hE hb hz
    by_cases hlt : s < 8
    · have s0 : (0 : Int) ≤ (s : Int) := by omega
      have s1 : (s : Int) < 8 := by omega
      have HS8 : Hid (s < 8) := hlt
      obtain ⟨pz, hpz⟩ : ∃ p, pubF seed s = p := ⟨_, rfl⟩
      have LPZ : Hid (pz.length = 8) := by rw [← hpz]; exact pubF_len seed s
      have HC : Hid (cat (pubF seed) (s + 1) = cat (pubF seed) s ++ pz) := by show _ = _; rw [cat_succ, hpz]
      have HPZ : Hid (pubF seed s = pz) := hpz
      obtain ⟨y, hy⟩ : ∃ y, opL seed s (zeros 8) = y := ⟨_, rfl⟩
      obtain ⟨z, hz⟩ : ∃ z, shL seed s (zeros 8) = z := ⟨_, rfl⟩
      have LY : Hid (y.length = 128) := by rw [← hy]; exact opL_len seed s _
      have LZ : Hid (z.length = 128) := by rw [← hz]; exact shL_len seed s _
      have D22 : Hid (∀ (w' : World), Calls Try.prog 60 #[.agg (ba seed), .int .i64 s, .agg #[.int .u8 0, .int .u8 0, .int .u8 0, .int .u8 0, .int .u8 0, .int .u8 0, .int .u8 0, .int .u8 0]] w' fun e w'' => e = .returned (.tuple #[.agg (ba y), .agg (ba z)]) ∧ Below w'.heap.size w' w'') := fun w' => by
        have := C22.out s w' hlt
        rw [hy, hz, ba8] at this
        exact this
      have D16 : Hid (∀ (w' : World), Calls Try.prog 61 #[.agg #[.int .u8 0, .int .u8 0, .int .u8 0, .int .u8 0, .int .u8 0, .int .u8 0, .int .u8 0, .int .u8 0], .agg (ba y), .agg (ba z)] w' fun e w'' => e = .returned (.agg (ba pz)) ∧ Below w'.heap.size w' w'') := fun w' => by
        have := C16.out s w'
        rw [hy, hz, hpz, ba8] at this
        exact this
      obtain ⟨M, hM⟩ : ∃ M, wr.heap.size = M := ⟨_, rfl⟩
      have WM : Hid (wr.heap.size = M) := hM
      have BM : Hid (Below M wr wr) := Below.refl _ _
      have SVwr : Hid (M ≤ wr.heap.size) := Nat.le_of_eq hM.symm
      have LM : Hid (S + 1 ≤ M ∧ S < M) := by show _ ∧ _; rw [← hM]; exact ⟨ZR.out, lt_of_block ER.out⟩
      have EK := ER
      clear hs hlt hpz hy hz hM C22 C16
      go_wp2_with (first
        | (refine wpList_load_row rfl 31 (.tmp 1) rfl S rfl 31 (ba seed) (0, 0) _ ER.out Try.underlying31 rfl (sz s27 (by rw [ba_size, HL.out])) ?_)
        | (go_at_call 60
           refine (D22.out wr).mono ?_
           rintro e v1 ⟨rfl, hb⟩
           have ERb : Hid (BA v1 (S) 31 seed) := (hb.block _ (lt_of_block ER.out)).trans ER.out
           have BMb : Hid (Below M wr v1) := BM.out.trans (hb.mono SVwr.out)
           have SVbf : Hid (M ≤ v1.heap.size) := Nat.le_trans SVwr.out hb.size
           clear hb
           obtain ⟨A, hA⟩ : ∃ q, v1.heap.size = q := ⟨_, rfl⟩
           have ERl : Hid (S < A) := by show _ < _; rw [← hA]; exact lt_of_block ERb.out
           have ERc := Lib.hid (ba_old (ba_old ERb.out (Obj.cells (ba (zeros 128)) 95)) (Obj.cells (ba (zeros 128)) 95))
           have Y0f := Lib.hid (ba_old (ba_new hA (zeros 128) 95) (Obj.cells (ba (zeros 128)) 95))
           have Q0f := Lib.hid (ba_new (size_al hA (Obj.cells (ba (zeros 128)) 95)) (zeros 128) 95)
           have AS : Hid (M ≤ A) := by show _ ≤ _; rw [← hA]; exact SVbf.out
           have BMc : Hid (Below M wr ((v1.alloc (Obj.cells (ba (zeros 128)) 95)).alloc (Obj.cells (ba (zeros 128)) 95))) := (BMb.out.alloc (by rw [hA]; exact AS.out) _).alloc (by rw [World.size_alloc, hA]; have := AS.out; omega) _)
        | (refine wpList_store_rowTo rfl 95 (.tmp 5) (.tmp 16) rfl rfl A (ba y) rfl rfl 95 (ba (zeros 128)) Y0f.out (sz q27 (by rw [ba_size, LY.out])) (by rw [ba_size, ba_size, LY.out, zeros_len]) (ba_one _) ?_
           have Y1f : Hid (BA (((v1.alloc (Obj.cells (ba (zeros 128)) 95)).alloc (Obj.cells (ba (zeros 128)) 95)).setRow A (ba y)) A 95 y) := setRow_heap _ _ _ _ _ _ Y0f.out
           have Q1f : Hid (BA (((v1.alloc (Obj.cells (ba (zeros 128)) 95)).alloc (Obj.cells (ba (zeros 128)) 95)).setRow A (ba y)) (A + 1) 95 (zeros 128)) := (setRow_other _ _ _ _ (by omega)).trans Q0f.out
           have ERd : Hid (BA (((v1.alloc (Obj.cells (ba (zeros 128)) 95)).alloc (Obj.cells (ba (zeros 128)) 95)).setRow A (ba y)) (S) 31 seed) := (setRow_other _ _ _ _ (by have := ERl.out; omega)).trans ERc.out
           have BMd : Hid (Below M wr (((v1.alloc (Obj.cells (ba (zeros 128)) 95)).alloc (Obj.cells (ba (zeros 128)) 95)).setRow A (ba y))) := below_setRow BMc.out AS.out _)
        | (refine wpList_store_rowTo rfl 95 (.tmp 6) (.tmp 17) rfl rfl (A + 1) (ba z) rfl rfl 95 (ba (zeros 128)) Q1f.out (sz q27 (by rw [ba_size, LZ.out])) (by rw [ba_size, ba_size, LZ.out, zeros_len]) (ba_one _) ?_
           have Qf : Hid (BA ((((v1.alloc (Obj.cells (ba (zeros 128)) 95)).alloc (Obj.cells (ba (zeros 128)) 95)).setRow A (ba y)).setRow (A + 1) (ba z)) (A + 1) 95 z) := setRow_heap _ _ _ _ _ _ Q1f.out
           have Yf : Hid (BA ((((v1.alloc (Obj.cells (ba (zeros 128)) 95)).alloc (Obj.cells (ba (zeros 128)) 95)).setRow A (ba y)).setRow (A + 1) (ba z)) A 95 y) := (setRow_other _ _ _ _ (by omega)).trans Y1f.out
           have ERf : Hid (BA ((((v1.alloc (Obj.cells (ba (zeros 128)) 95)).alloc (Obj.cells (ba (zeros 128)) 95)).setRow A (ba y)).setRow (A + 1) (ba z)) (S) 31 seed) := (setRow_other _ _ _ _ (by have := ERl.out; omega)).trans ERd.out
           have BMf : Hid (Below M wr ((((v1.alloc (Obj.cells (ba (zeros 128)) 95)).alloc (Obj.cells (ba (zeros 128)) 95)).setRow A (ba y)).setRow (A + 1) (ba z))) := below_setRow BMd.out (by have := AS.out; omega) _
           have SVw3 : Hid (M ≤ ((((v1.alloc (Obj.cells (ba (zeros 128)) 95)).alloc (Obj.cells (ba (zeros 128)) 95)).setRow A (ba y)).setRow (A + 1) (ba z)).heap.size) := Nat.le_trans AS.out (Nat.le_of_lt (lt_of_block Yf.out))
           clear Y0f Q0f Y1f Q1f hA ER ERb ERc ERd ERl BMb BMc BMd
           generalize ((((v1.alloc (Obj.cells (ba (zeros 128)) 95)).alloc (Obj.cells (ba (zeros 128)) 95)).setRow A (ba y)).setRow (A + 1) (ba z)) = w3 at *)
        | (refine wpList_load_row rfl 95 (.tmp 5) rfl A rfl 95 (ba y) (0, 0) _ Yf.out Try.underlying95 rfl (sz q27 (by rw [ba_size, LY.out])) ?_)
        | (refine wpList_load_row rfl 95 (.tmp 6) rfl (A + 1) rfl 95 (ba z) (0, 0) _ Qf.out Try.underlying95 rfl (sz q27 (by rw [ba_size, LZ.out])) ?_)
        | (go_at_call 61
           refine (D16.out w3).mono ?_
           rintro e w4 ⟨rfl, hb⟩
           have B4 : Hid (Below M wr w4) := BMf.out.trans (hb.mono SVw3.out)
           clear hb)
        | (refine wpList_bs8 rfl (.tmp 22) rfl pz LPZ.out rfl ?_
           obtain ⟨G, hG⟩ : ∃ G, w4.heap.size = G := ⟨_, rfl⟩
           rw [hG]
           have MG : Hid (M ≤ G) := by show _ ≤ _; rw [← hG, ← WM.out]; exact B4.out.size
           have P5 := Lib.hid (ba_new hG pz 31)
           have B5 : Hid (Below M wr (w4.alloc (Obj.cells (ba pz) 31))) := B4.out.alloc (by rw [hG]; exact MG.out) _
           have O5 : Hid ((w4.alloc (Obj.cells (ba pz) 31)).ownsRow (S + 1) 31 8 (.slice A0 s c0) s (bvals (cat (pubF seed) s))) := own8_keepB OW.out (by rw [WM.out]; exact B5.out))
        | (at_builtin
           refine wpList_app8 rfl (.tmp 18) (.tmp 23) rfl (S + 1) s (.slice A0 s c0) (cat (pubF seed) s) rfl O5.out G 1 pz rfl P5.out LPZ.out (by have := HS8.out; omega) (by have := B5.out.size; have := WM.out; have := LM.out; omega) ?_
           intro A9 c9 w9 hown hg
           rw [← HC.out] at hown
           have O9 := Lib.hid hown
           have B9 : Hid (Below (S + 1) wr w9) := (B5.out.mono LM.out.1).grown hg (by have := B5.out.size; have := WM.out; have := LM.out; omega) (fun q hq => own8_base O5.out q hq)
           clear hown hg)
        | fail)
      go_roundw
      case rel => exact ⟨s + 1, A9, c9, by have := HS8.out; omega, by go_num, rfl, O9.out, (B9.out.block _ (by omega)).trans EK.out, BR.out.trans (B9.out.mono (by omega)), by have := B9.out.size; have := ZR.out; omega⟩
      case measure => have := HS8.out; simp [intOf]; omega
    · obtain rfl : s = 8 := by omega
      rw [PE.out] at OW
      have O8 : Hid (wr.ownsRow S 31 8 (.slice A0 8 c0) 8 (bvals (pubs seed))) := own8_mono OW.out (by omega)
      clear OW ER hlt hs
      go_wp2
      go_ret
      exact ⟨A0, c0, rfl, by rw [HS.out]; exact O8.out, by rw [HS.out]; exact BR.out⟩
set_option maxRecDepth 100000 in
set_option maxHeartbeats 4000000 in
/-- the document's root of a seed -/
theorem dTree (seed : List Int) (w : World) (hk : Keys w) (hs : seed.length = 8) :
    Calls Try.prog 31 #[.agg (ba seed)] w fun e w' => e = .returned (.agg (ba (rootL seed))) ∧ Below w.heap.size w w' := by
  have h4 := z27
  have HK := Lib.hid hk
  have HP : Hid (0 < w.heap.size) := keys_pos hk
  have HL := Lib.hid hs
  obtain ⟨S, hS⟩ : ∃ S, w.heap.size = S := ⟨_, rfl⟩
  have HS := Lib.hid hS
  have KW : Hid (∀ w', Below S w w' → Keys w') := fun w' hb => keys_below HK.out hb (by rw [← HS.out]; exact HP.out)
  have E0 := Lib.hid (ba_old (ba_new hS seed 31) (Obj.cells (ba (zeros 8)) 31))
  have T0 := Lib.hid (ba_new (size_al hS (Obj.cells (ba seed) 31)) (zeros 8) 31)
  have B0 : Hid (Below S w ((w.alloc (Obj.cells (ba seed) 31)).alloc (Obj.cells (ba (zeros 8)) 31))) := by subst hS; exact ((Below.refl _ w).alloc (Nat.le_refl _) _).alloc (by simp) _
  have C24 : Hid (∀ w', Calls Try.prog 46 #[.agg (ba seed)] w' fun e w'' => ∃ A c, e = .returned (.slice A 8 c) ∧ w''.ownsRow w'.heap.size 31 8 (.slice A 8 c) 8 (bvals (pubs seed)) ∧ Below w'.heap.size w' w'') := fun w' => dPubs seed w' hs
  have RL : Hid ((rootL seed).length = 8) := rootL_len seed
  clear hk hs
  go_enter Try.func31, Try.ntmps31
  go_wp2_with (first
    | (refine wpList_load_row rfl 31 (.tmp 1) rfl S rfl 31 (ba seed) (0, 0) _ E0.out Try.underlying31 rfl (sz s27 (by rw [ba_size, HL.out])) ?_)
    | (go_at_call 46
       refine (C24.out _).mono ?_
       rintro e w1 ⟨A, c, rfl, ho, hb⟩
       have T1 : Hid (BA w1 (S + 1) 31 (zeros 8)) := (hb.block _ (lt_of_block T0.out)).trans T0.out
       have Z1 : Hid (S + 1 < w1.heap.size) := lt_of_block T1.out
       have B1 : Hid (Below S w w1) := B0.out.trans (hb.mono (by have := lt_of_block T0.out; omega))
       have O1 := Lib.hid (own8_src ho)
       clear hb ho E0 T0 B0)
    | (go_at_call 45
       have C := r11 A 8 c (pubs seed) w1 (KW.out w1 B1.out) O1.out.1 O1.out.2.1 O1.out.2.2
       rw [rootL_eq7] at C
       refine C.mono ?_
       rintro e w2 ⟨rfl, hb⟩
       have T2 : Hid (BA w2 (S + 1) 31 (zeros 8)) := (hb.block _ (lt_of_block T1.out)).trans T1.out
       have B2 : Hid (Below S w w2) := B1.out.trans (hb.mono (by have := Z1.out; omega))
       clear hb C)
    | (refine wpList_store_rowTo rfl 31 (.tmp 2) (.tmp 5) rfl rfl (S + 1) (ba (rootL seed)) rfl rfl 31 (ba (zeros 8)) T2.out (sz s27 (by rw [ba_size, RL.out])) (by rw [ba_size, ba_size, RL.out, zeros_len]) (ba_one _) ?_)
    | fail)
  refine bodyPost_ret (v := .agg (ba (rootL seed))) (results_cell_row rfl _ _ (S + 1) 31 _ (0, 0) _ rfl (setRow_heap _ _ _ _ _ _ T2.out) Try.underlying31 rfl (sz s27 (by rw [ba_size, RL.out]))) rfl ⟨rfl, ?_⟩
  rw [HS.out]
  exact below_setRow B2.out (by omega) _
end Go.Proofs.Ytmcmdpbdipgahaa
