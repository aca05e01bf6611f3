/-
  The document's signature.
-/
import Derived.Test.YtfneopmgckejdaaDoorK7
import Derived.Test.YtfneopmgckejdaaDoorK8w
namespace Go.Proofs.YtfneopmgckejdaaDoor
open Go.RowKit
attribute [local irreducible] ua da ba kk sw S8.run rt hs comp splice outB sha msg bvals cat at8 at16 secM zeros sec keyF marksF mk pubk bt openF shutF readF splR oF sF rootF leafH twoH stepsF cutN leadF provL rootV pubF pubs keyL opn sht way gives ckB chkB rootL sg opL shL sigL wayP wayL
set_option maxRecDepth 100000 in
set_option maxHeartbeats 4000000 in
/-- where there is no such index -/
theorem dSignNo (seed m : List Int) (i : Int) (w : World) (hi : ¬ (0 ≤ i ∧ i < 8)) :
    Calls Tryd.prog 21 #[.agg (ba seed), .int .i64 i, .agg (ba m)] w fun e w' => e = .returned (.tuple #[.agg (sg 0 (zeros 280)).toArray, .bool false]) ∧ Below w.heap.size w w' := by
  have h4 := z30
  obtain ⟨S, hS⟩ : ∃ S, w.heap.size = S := ⟨_, rfl⟩
  have HS := Lib.hid hS
  have R0 := Lib.hid (sb_new (size_al (size_al hS (Obj.cells (ba seed) 32)) (Obj.cells (ba m) 32)) 0 (zeros 280))
  have B0 : Hid (Below S w (((w.alloc (Obj.cells (ba seed) 32)).alloc (Obj.cells (ba m) 32)).alloc (Obj.cells (sg 0 (zeros 280)).toArray 43))) := by subst hS; exact (((Below.refl _ w).alloc (Nat.le_refl _) _).alloc (by simp) _).alloc (by simp; omega) _
  have ZL : Hid ((zeros 280).length = 280) := zeros_len 280
  by_cases s2 : i < 0
  · clear hi
    go_enter Tryd.func21, Tryd.ntmps21
    go_wp2_with (first
      | (refine wpList_store_rowTo rfl 43 (.tmp 6) (.tmp 17) rfl rfl (S + 2) (sg 0 (zeros 280)).toArray rfl rfl 43 (sg 0 (zeros 280)).toArray R0.out (sg_infoA _ _ ZL.out) rfl (sg_ones _ _) ?_)
      | fail)
    refine bodyPost_ret (v := .tuple #[.agg (sg 0 (zeros 280)).toArray, .bool false]) (res2 rfl _ _ (S + 2) 43 _ (0, 0) _ rfl (setRow_heap _ _ _ _ _ _ R0.out) Tryd.underlying43 rfl (sg_infoA _ _ ZL.out) (.bool false) rfl) rfl ⟨rfl, ?_⟩
    (try rw [HS.out])
    exact below_setRow B0.out (by omega) _
  · have s3 : 8 ≤ i := by omega
    clear hi
    go_enter Tryd.func21, Tryd.ntmps21
    go_wp2_with (first
      | (refine wpList_store_rowTo rfl 43 (.tmp 6) (.tmp 17) rfl rfl (S + 2) (sg 0 (zeros 280)).toArray rfl rfl 43 (sg 0 (zeros 280)).toArray R0.out (sg_infoA _ _ ZL.out) rfl (sg_ones _ _) ?_)
      | fail)
    refine bodyPost_ret (v := .tuple #[.agg (sg 0 (zeros 280)).toArray, .bool false]) (res2 rfl _ _ (S + 2) 43 _ (0, 0) _ rfl (setRow_heap _ _ _ _ _ _ R0.out) Tryd.underlying43 rfl (sg_infoA _ _ ZL.out) (.bool false) rfl) rfl ⟨rfl, ?_⟩
    (try rw [HS.out])
    exact below_setRow B0.out (by omega) _
set_option maxRecDepth 100000 in
set_option maxHeartbeats 8000000 in
/-- the document's signature -/
theorem dSignT (seed m : List Int) (n : Nat) (w : World) (hk : Keys w) (hs : seed.length = 8) (hm : m.length = 8) (hbt : Byt m) (hn : n < 8) :
    Calls Tryd.prog 21 #[.agg (ba seed), .int .i64 n, .agg (ba m)] w fun e w' => e = .returned (.tuple #[.agg (sg n (sigL seed n m)).toArray, .bool true]) ∧ Below w.heap.size w w' := by
  have h4 := z30
  have HK := Lib.hid hk
  have HP : Hid (0 < w.heap.size) := keys_pos hk
  have HSL := Lib.hid hs
  have HML := Lib.hid hm
  obtain ⟨S, hS⟩ : ∃ S, w.heap.size = S := ⟨_, rfl⟩
  have HS := Lib.hid hS
  have KW : Hid (∀ w', Below S w w' → Keys w') := fun w' hb => keys_below HK.out hb (by rw [← HS.out]; exact HP.out)
  have E0 := Lib.hid (ba_old (ba_old (ba_new hS seed 32) (Obj.cells (ba m) 32)) (Obj.cells (sg 0 (zeros 280)).toArray 43))
  have M0 := Lib.hid (ba_old (ba_new (size_al hS (Obj.cells (ba seed) 32)) m 32) (Obj.cells (sg 0 (zeros 280)).toArray 43))
  have R0 := Lib.hid (sb_new (size_al (size_al hS (Obj.cells (ba seed) 32)) (Obj.cells (ba m) 32)) 0 (zeros 280))
  have B0 : Hid (Below S w (((w.alloc (Obj.cells (ba seed) 32)).alloc (Obj.cells (ba m) 32)).alloc (Obj.cells (sg 0 (zeros 280)).toArray 43))) := by subst hS; exact (((Below.refl _ w).alloc (Nat.le_refl _) _).alloc (by simp) _).alloc (by simp; omega) _
  have h3 : ((((w.alloc (Obj.cells (ba seed) 32)).alloc (Obj.cells (ba m) 32)).alloc (Obj.cells (sg 0 (zeros 280)).toArray 43))).heap.size = S + 3 := size_al (size_al (size_al hS _) _) _
  have G1 := Lib.hid (sb_new h3 0 (zeros 280))
  have EB : Hid (BA (((((w.alloc (Obj.cells (ba seed) 32)).alloc (Obj.cells (ba m) 32)).alloc (Obj.cells (sg 0 (zeros 280)).toArray 43)).alloc (Obj.cells (sg 0 (zeros 280)).toArray 43)).setRow (S + 3) (sg n (zeros 280)).toArray) S 32 seed) := (setRow_other _ _ _ _ (by omega)).trans (ba_old E0.out _)
  have MB : Hid (BA (((((w.alloc (Obj.cells (ba seed) 32)).alloc (Obj.cells (ba m) 32)).alloc (Obj.cells (sg 0 (zeros 280)).toArray 43)).alloc (Obj.cells (sg 0 (zeros 280)).toArray 43)).setRow (S + 3) (sg n (zeros 280)).toArray) (S + 1) 32 m) := (setRow_other _ _ _ _ (by omega)).trans (ba_old M0.out _)
  have RB : Hid (SB (((((w.alloc (Obj.cells (ba seed) 32)).alloc (Obj.cells (ba m) 32)).alloc (Obj.cells (sg 0 (zeros 280)).toArray 43)).alloc (Obj.cells (sg 0 (zeros 280)).toArray 43)).setRow (S + 3) (sg n (zeros 280)).toArray) (S + 2) 0 (zeros 280)) := (setRow_other _ _ _ _ (by omega)).trans (sb_old R0.out _)
  have GB : Hid (SB (((((w.alloc (Obj.cells (ba seed) 32)).alloc (Obj.cells (ba m) 32)).alloc (Obj.cells (sg 0 (zeros 280)).toArray 43)).alloc (Obj.cells (sg 0 (zeros 280)).toArray 43)).setRow (S + 3) (sg n (zeros 280)).toArray) (S + 3) n (zeros 280)) := setRow_heap _ _ _ _ _ _ G1.out
  have BB : Hid (Below S w (((((w.alloc (Obj.cells (ba seed) 32)).alloc (Obj.cells (ba m) 32)).alloc (Obj.cells (sg 0 (zeros 280)).toArray 43)).alloc (Obj.cells (sg 0 (zeros 280)).toArray 43)).setRow (S + 3) (sg n (zeros 280)).toArray)) := below_setRow (B0.out.alloc (by rw [h3]; omega) _) (by omega) _
  obtain ⟨y, hy⟩ : ∃ y, opL seed n m = y := ⟨_, rfl⟩
  obtain ⟨z, hz⟩ : ∃ z, shL seed n m = z := ⟨_, rfl⟩
  obtain ⟨p, hp⟩ : ∃ p, wayL seed n = p := ⟨_, rfl⟩
  obtain ⟨Z, hZ⟩ : ∃ Z, sigL seed n m = Z := ⟨_, rfl⟩
  have LY : Hid (y.length = 128) := by rw [← hy]; exact opL_len seed n m
  have LZ : Hid (z.length = 128) := by rw [← hz]; exact shL_len seed n m
  have LP : Hid (p.length = 24) := by rw [← hp]; exact wayL_len seed n
  have LS : Hid (Z.length = 280) := by rw [← hZ]; exact sigL_len seed n m
  have HZ : Hid (y ++ z ++ p = Z) := by show _ = _; rw [← hy, ← hz, ← hp, ← hZ]; exact sigL_eq seed m n
  have HZS : Hid (sigL seed n m = Z) := hZ
  have ZL : Hid ((zeros 280).length = 280) := zeros_len 280
  have C22 : Hid (∀ w', Calls Tryd.prog 28 #[.agg (ba seed), .int .i64 n, .agg (ba m)] w' fun e w'' => e = .returned (.tuple #[.agg (ba y), .agg (ba z)]) ∧ Below w'.heap.size w' w'') := fun w' => by
    have := dSig8 seed m n w' (by omega) hs hm hbt
    rw [hy, hz] at this
    exact this
  have C24 : Hid (∀ w', Calls Tryd.prog 27 #[.agg (ba seed)] w' fun e w'' => ∃ A c, e = .returned (.slice A 8 c) ∧ w''.ownsRow w'.heap.size 32 8 (.slice A 8 c) 8 (bvals (pubs seed)) ∧ Below w'.heap.size w' w'') := fun w' => dPubs seed w' hs
  have C23 : Hid (∀ (A : Option Addr) (c : Nat) (w' : World), Below S w w' → Src w' A (8 * 8) (pubs seed) → 8 ≤ c → c ≤ maxLen → Calls Tryd.prog 29 #[.slice A 8 c, .int .i64 n] w' fun e w'' => ∃ A2 c2, e = .returned (.tuple #[.slice A2 3 c2, .bool true]) ∧ Src w'' A2 (8 * 3) p ∧ Below w'.heap.size w' w'') := fun A c w' hb hsrc hc hm => by
    have := r9 8 A 8 c n (pubs seed) w' (KW.out w' hb) hsrc hn (Nat.le_refl _) (by omega) hc hm
    refine this.mono ?_
    rintro e w'' ⟨A2, c2, h1, h2, h3⟩
    have h2' := (own8_src h2).1
    rw [wayP_eq, wayP_len] at h1
    rw [wayP_eq, wayP_len, wayL_eq, hp] at h2'
    exact ⟨A2, c2, h1, h2', h3⟩
  have s0 : ¬ (n : Int) < 0 := by omega
  have s1 : ¬ (8 : Int) ≤ (n : Int) := by omega
  clear hk hs hm hbt hn hy hz hp hZ h3
  go_enter Tryd.func21, Tryd.ntmps21
  go_wp2_with (first
    | (refine wpList_b30 rfl (.tmp 18) rfl n rfl ?_)
    | (refine wpList_store_rowTo rfl 43 (.tmp 8) (.tmp 19) rfl rfl (S + 3) (sg n (zeros 280)).toArray rfl rfl 43 (sg 0 (zeros 280)).toArray G1.out (sg_infoA _ _ ZL.out) (by rw [sg_size _ _ ZL.out, sg_size _ _ ZL.out]) (sg_ones _ _) ?_
       clear E0 M0 R0 B0 G1
       generalize (((((w.alloc (Obj.cells (ba seed) 32)).alloc (Obj.cells (ba m) 32)).alloc (Obj.cells (sg 0 (zeros 280)).toArray 43)).alloc (Obj.cells (sg 0 (zeros 280)).toArray 43)).setRow (S + 3) (sg n (zeros 280)).toArray) = wB at *)
    | (refine wpList_load_row rfl 32 (.tmp 3) rfl S rfl 32 (ba seed) (0, 0) _ EB.out Tryd.underlying32 rfl (sz s27 (by rw [ba_size, HSL.out])) ?_)
    | (refine wpList_load_row rfl 32 (.tmp 5) rfl (S + 1) rfl 32 (ba m) (0, 0) _ MB.out Tryd.underlying32 rfl (sz s27 (by rw [ba_size, HML.out])) ?_)
    | (go_at_call 28
       refine (C22.out wB).mono ?_
       rintro e w5 ⟨rfl, hb⟩
       have E5 : Hid (BA w5 S 32 seed) := (hb.block _ (lt_of_block EB.out)).trans EB.out
       have R5 : Hid (SB w5 (S + 2) 0 (zeros 280)) := (hb.block _ (sb_lt RB.out)).trans RB.out
       have G5 : Hid (SB w5 (S + 3) n (zeros 280)) := (hb.block _ (sb_lt GB.out)).trans GB.out
       have B5 : Hid (Below S w w5) := BB.out.trans (hb.mono (by have := sb_lt GB.out; omega))
       clear hb EB MB RB GB BB C22)
    | (refine wpList_store_mid rfl 40 (.tmp 27) (.tmp 25) rfl (S + 3) 1 (ba y) rfl rfl (by rw [ba_size, LY.out]; exact sb_there G5.out 1 128 (by rw [zeros_len]; omega)) (sz q27 (by rw [ba_size, LY.out])) (ba_one _) ?_
       rw [ba_toList]
       have E6 : Hid (BA (w5.setCells (S + 3) 1 (bvals y)) S 32 seed) := (heap_setCells (by omega) _ _ _).trans E5.out
       have R6 : Hid (SB (w5.setCells (S + 3) 1 (bvals y)) (S + 2) 0 (zeros 280)) := (heap_setCells (by omega) _ _ _).trans R5.out
       have G6 : Hid (SB (w5.setCells (S + 3) 1 (bvals y)) (S + 3) n (y ++ zeros 152)) := sb_put1 G5.out LY.out
       have B6 : Hid (Below S w (w5.setCells (S + 3) 1 (bvals y))) := below_setCells (by omega) _ _ B5.out
       clear E5 R5 G5 B5
       generalize w5.setCells (S + 3) 1 (bvals y) = w6 at *)
    | (refine wpList_store_mid rfl 40 (.tmp 28) (.tmp 26) rfl (S + 3) 129 (ba z) rfl rfl (by rw [ba_size, LZ.out]; exact sb_there G6.out 129 128 (by rw [List.length_append, LY.out, zeros_len]; omega)) (sz q27 (by rw [ba_size, LZ.out])) (ba_one _) ?_
       rw [ba_toList]
       have E7 : Hid (BA (w6.setCells (S + 3) 129 (bvals z)) S 32 seed) := (heap_setCells (by omega) _ _ _).trans E6.out
       have R7 : Hid (SB (w6.setCells (S + 3) 129 (bvals z)) (S + 2) 0 (zeros 280)) := (heap_setCells (by omega) _ _ _).trans R6.out
       have G7 : Hid (SB (w6.setCells (S + 3) 129 (bvals z)) (S + 3) n (y ++ z ++ zeros 24)) := sb_put2 G6.out LY.out LZ.out
       have B7 : Hid (Below S w (w6.setCells (S + 3) 129 (bvals z))) := below_setCells (by omega) _ _ B6.out
       clear E6 R6 G6 B6
       generalize w6.setCells (S + 3) 129 (bvals z) = w7 at *)
    | (refine wpList_load_row rfl 32 (.tmp 3) rfl S rfl 32 (ba seed) (0, 0) _ E7.out Tryd.underlying32 rfl (sz s27 (by rw [ba_size, HSL.out])) ?_)
    | (go_at_call 27
       refine (C24.out w7).mono ?_
       rintro e w8 ⟨A, c, rfl, ho, hb⟩
       have O8 := Lib.hid (own8_src ho)
       have R8 : Hid (SB w8 (S + 2) 0 (zeros 280)) := (hb.block _ (sb_lt R7.out)).trans R7.out
       have G8 : Hid (SB w8 (S + 3) n (y ++ z ++ zeros 24)) := (hb.block _ (sb_lt G7.out)).trans G7.out
       have B8 : Hid (Below S w w8) := B7.out.trans (hb.mono (by have := sb_lt G7.out; omega))
       clear hb ho E7 R7 G7 B7 C24)
    | (go_at_call 29
       refine (C23.out A c w8 B8.out O8.out.1 O8.out.2.1 O8.out.2.2).mono ?_
       rintro e w9 ⟨A2, c2, rfl, hsrc, hb⟩
       have P9 := Lib.hid hsrc
       have R9 : Hid (SB w9 (S + 2) 0 (zeros 280)) := (hb.block _ (sb_lt R8.out)).trans R8.out
       have G9 : Hid (SB w9 (S + 3) n (y ++ z ++ zeros 24)) := (hb.block _ (sb_lt G8.out)).trans G8.out
       have B9 : Hid (Below S w w9) := B8.out.trans (hb.mono (by have := sb_lt G8.out; omega))
       clear hb hsrc R8 G8 B8 C23)
    | (refine wpList_copy3 rfl (.tmp 37) (.tmp 38) rfl (S + 3) 257 A2 c2 p rfl rfl P9.out (sb_there G9.out 257 24 (by rw [List.length_append, List.length_append, LY.out, LZ.out, zeros_len]; omega)) ?_
       have Ga : Hid (SB (w9.setCells (S + 3) 257 (bvals p)) (S + 3) n (y ++ z ++ p)) := sb_put3 G9.out LY.out LZ.out LP.out
       rw [HZ.out] at Ga
       have Ra : Hid (SB (w9.setCells (S + 3) 257 (bvals p)) (S + 2) 0 (zeros 280)) := (heap_setCells (by omega) _ _ _).trans R9.out
       have Ba : Hid (Below S w (w9.setCells (S + 3) 257 (bvals p))) := below_setCells (by omega) _ _ B9.out
       clear G9 R9 B9 P9
       generalize w9.setCells (S + 3) 257 (bvals p) = wa at *)
    | (refine wpList_load_row rfl 43 (.tmp 8) rfl (S + 3) rfl 43 (sg n Z).toArray (0, 0) _ Ga.out Tryd.underlying43 rfl (sg_infoA _ _ LS.out) ?_)
    | (refine wpList_store_rowTo rfl 43 (.tmp 6) (.tmp 40) rfl rfl (S + 2) (sg n Z).toArray rfl rfl 43 (sg 0 (zeros 280)).toArray Ra.out (sg_infoA _ _ LS.out) (by rw [sg_size _ _ ZL.out, sg_size _ _ LS.out]) (sg_ones _ _) ?_)
    | fail)
  refine bodyPost_ret (v := .tuple #[.agg (sg n Z).toArray, .bool true]) (res2 rfl _ _ (S + 2) 43 _ (0, 0) _ rfl (setRow_heap _ _ _ _ _ _ Ra.out) Tryd.underlying43 rfl (sg_infoA _ _ LS.out) (.bool true) rfl) rfl ⟨by rw [HZS.out], ?_⟩
  (try rw [HS.out])
  exact below_setRow Ba.out (by omega) _
end Go.Proofs.YtfneopmgckejdaaDoor
