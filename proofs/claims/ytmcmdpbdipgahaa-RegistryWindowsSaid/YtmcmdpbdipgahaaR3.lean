/-
  own: a record with rows of its own.
-/
import Derived.Test.YtmcmdpbdipgahaaR2
namespace Go.Proofs.Ytmcmdpbdipgahaa
open Go.RowKit
set_option maxRecDepth 100000
theorem RfAt.old {w : World} {P : Nat → Prop} {sz : Nat} {r : Rf} (h : RfAt w P sz r) : RfAt w (fun q => w.heap.size ≤ q) sz r := ⟨h.src, h.cap, h.big, fun a ha => ⟨(h.pl a ha).1, (h.pl a ha).2.1, by have := (h.pl a ha).2.1; omega⟩, h.nil⟩
theorem RfAt.at {w v : World} {P : Nat → Prop} {sz S : Nat} {r : Rf} (h : RfAt w P sz r) (hS : w.heap.size = S) (hb : Below S w v) : RfAt v (fun q => S ≤ q) sz r := by
  subst hS
  exact h.old.keep hb.size (fun q hq _ => hb.block q hq) fun q hq h => h
/-- what the call lays, from N on, while one below N is written -/
theorem RfAt.low {w v : World} {P : Nat → Prop} {sz N : Nat} {r : Rf} (h : RfAt w P sz r) (hP : ∀ q, q < N → P q) (hs : w.heap.size ≤ v.heap.size) (hb : ∀ q, q < w.heap.size → N ≤ q → v.heap[q]? = w.heap[q]?) : RfAt v (fun q => q < N) sz r := by
  have h1 : RfAt w (fun q => q < N) sz r := ⟨h.src, h.cap, h.big, fun a ha => ⟨(h.pl a ha).1, (h.pl a ha).2.1, fun hq => (h.pl a ha).2.2 (hP _ hq)⟩, h.nil⟩
  exact h1.keep hs (fun q hq hn => hb q hq (by omega)) fun q _ h => h
theorem SdAt.old {w v : World} {P : Nat → Prop} {S : Nat} {x : Sm} (h : SdAt w P x) (hS : w.heap.size = S) (hb : Below S w v) : SdAt v (fun q => S ≤ q) x := ⟨h.K.at hS hb, h.O.at hS hb, h.G.at hS hb, h.U.at hS hb⟩
theorem sz53 : (Try.prog.info? 53).map (·.size) = some 42 := by kernel_rfl
theorem sd_at {w : World} {b : Nat} {x : Sm} {T : TypeId} (h : BL w b (sdV x) T) {i : Nat} {v : Value} (hv : (sdV x)[i]? = some v) : w.cell? ⟨b, i, none⟩ = some v := by
  have := (range_of h) i v hv
  rwa [Nat.zero_add] at this
set_option maxHeartbeats 4000000 in
theorem kOwn (P : Nat → Prop) (x : Sm) (w : World) (h : SdAt w P x) :
    Calls Try.prog 38 #[.agg (sdV x).toArray] w fun e w' => ∃ x' : Sm, e = .returned (.agg (sdV x').toArray) ∧ x'.con = x.con ∧ SdAt w' (fun q => q < w.heap.size) x' ∧ Below w.heap.size w w' := by
  obtain ⟨S, hS⟩ : ∃ S, w.heap.size = S := ⟨_, rfl⟩
  have HS := Lib.hid hS
  have HA : Hid (∀ v, Below S w v → SdAt v (fun q => S ≤ q) x) := Lib.hid fun v hb => h.old hS hb
  clear h
  obtain ⟨sc, K, O, G, U⟩ := x
  obtain ⟨v, hv⟩ : ∃ v, ((w.alloc (Obj.cells (sdV ⟨sc, K, O, G, U⟩).toArray 53)).alloc (Obj.cells (sdV sm0).toArray 53)) = v := ⟨_, rfl⟩
  have RA : Hid (BL v S (sdV ⟨sc, K, O, G, U⟩) 53) := Lib.hid (by
    subst hv hS
    exact bl_keep (heap_alloc_last w _) (Below.heap_alloc _ _ _ (by simp)))
  have RB : Hid (BL v (S + 1) (sdV sm0) 53) := Lib.hid (by
    subst hv hS
    have := heap_alloc_last (w.alloc (Obj.cells (sdV ⟨sc, K, O, G, U⟩).toArray 53)) (Obj.cells (sdV sm0).toArray 53)
    rw [World.size_alloc] at this
    exact this)
  have BV : Hid (Below S w v) := Lib.hid (by subst hv hS; exact ((Below.refl _ w).alloc (Nat.le_refl _) _).alloc (by simp) _)
  have VS : Hid (v.heap.size = S + 2) := Lib.hid (by subst hv hS; show _ = _; rw [World.size_alloc, World.size_alloc])
  have SB : Hid (S + 1 < v.heap.size) := Lib.hid (by have := VS.out; omega)
  have c3 := sd_at RA.out (i := 3) rfl
  have hz := z53
  have NE : S ≠ S + 1 := by omega
  go_enter Try.func38, Try.ntmps38
  go_upto_region 1 with (fail)
  rw [hv] at *
  clear hv
  go_wp2_with fail
  refine (cloneH (fun q => S ≤ q) K v (HA.out _ BV.out).K).mono ?_
  rintro e w1 ⟨K', rfl, hn1, hy1, hr1, hb1⟩
  have F1 : Hid (K'.n = K.n ∧ K'.ys = K.ys) := Lib.hid ⟨hn1, hy1⟩
  have Q1 : Hid (Below v.heap.size v w1) := Lib.hid hb1
  have SA1 : Hid (S + 1 < w1.heap.size) := Lib.hid (Nat.lt_of_lt_of_le SB.out hb1.size)
  have Ra1 : Hid (BL w1 S (sdV ⟨sc, K, O, G, U⟩) 53) := Lib.hid (bl_keep RA.out (hb1.block S (by have := SB.out; omega)))
  have Rb1 : Hid (BL w1 (S + 1) (sdV sm0) 53) := Lib.hid (bl_keep RB.out (hb1.block (S + 1) SB.out))
  have Bw1 : Hid (Below S w w1) := Lib.hid (BV.out.trans (hb1.mono (by have := SB.out; omega)))
  have TK : Hid (RfAt w1 (fun q => q < S + 2) 8 K') := Lib.hid (hr1.low (fun q hq => by have := SB.out; omega) (Nat.le_refl _) fun _ _ _ => rfl)
  have fr1 : w1.frozen? ⟨S, 3, none⟩ = false := bl_free Ra1.out 3
  have d1 := sd_at Ra1.out (i := 39) rfl
  have ex1 := sd_at Ra1.out (i := 3) rfl
  have R1A : Hid (BL (w1.setCell ⟨S, 3, none⟩ (.slice K'.A K'.n K'.c)) S (sdV ⟨sc, K', O, G, U⟩) 53) := Lib.hid (bl_set Ra1.out 3 (.slice K'.A K'.n K'.c))
  have R1B : Hid (BL (w1.setCell ⟨S, 3, none⟩ (.slice K'.A K'.n K'.c)) (S + 1) (sdV sm0) 53) := Lib.hid (bl_keep Rb1.out (heap_set1 _ _ _ (by omega)))
  have B1 : Hid (Below S w (w1.setCell ⟨S, 3, none⟩ (.slice K'.A K'.n K'.c))) := Lib.hid (Bw1.out.setCell (Nat.le_refl _) _)
  have SZ1 : Hid (S + 1 < (w1.setCell ⟨S, 3, none⟩ (.slice K'.A K'.n K'.c)).heap.size) := Lib.hid (by have := SA1.out; simpa using this)
  have HK : Hid (RfAt (w1.setCell ⟨S, 3, none⟩ (.slice K'.A K'.n K'.c)) (fun q => q < S + 2) 8 K') := Lib.hid (TK.out.low (fun _ h => h) (by simp) fun q _ hq => heap_set1 _ _ _ (by omega))
  clear TK
  clear hn1 hy1 hr1 hb1 c3  Ra1 Rb1 Bw1 SA1 Q1
  go_wp2_with fail
  clear fr1 ex1 d1
  generalize w1.setCell ⟨S, 3, none⟩ (.slice K'.A K'.n K'.c) = v1 at *
  have c1 := sd_at R1A.out (i := 39) rfl
  refine (cloneO (fun q => S ≤ q) O v1 (HA.out _ B1.out).O).mono ?_
  rintro e w2 ⟨O', rfl, hn2, hy2, hr2, hb2⟩
  have F2 : Hid (O'.n = O.n ∧ O'.ys = O.ys) := Lib.hid ⟨hn2, hy2⟩
  have Q2 : Hid (Below v1.heap.size v1 w2) := Lib.hid hb2
  have SA2 : Hid (S + 1 < w2.heap.size) := Lib.hid (Nat.lt_of_lt_of_le SZ1.out hb2.size)
  have Ra2 : Hid (BL w2 S (sdV ⟨sc, K', O, G, U⟩) 53) := Lib.hid (bl_keep R1A.out (hb2.block S (by have := SZ1.out; omega)))
  have Rb2 : Hid (BL w2 (S + 1) (sdV sm0) 53) := Lib.hid (bl_keep R1B.out (hb2.block (S + 1) SZ1.out))
  have Bw2 : Hid (Below S w w2) := Lib.hid (B1.out.trans (hb2.mono (by have := SZ1.out; omega)))
  have TK : Hid (RfAt w2 (fun q => q < S + 2) 8 K') := Lib.hid (HK.out.low (fun _ h => h) hb2.size fun q hq _ => hb2.block q hq)
  clear HK
  have TO : Hid (RfAt w2 (fun q => q < S + 2) 9 O') := Lib.hid (hr2.low (fun q hq => by have := SZ1.out; omega) (Nat.le_refl _) fun _ _ _ => rfl)
  have fr2 : w2.frozen? ⟨S, 39, none⟩ = false := bl_free Ra2.out 39
  have d2 := sd_at Ra2.out (i := 40) rfl
  have ex2 := sd_at Ra2.out (i := 39) rfl
  have R2A : Hid (BL (w2.setCell ⟨S, 39, none⟩ (.slice O'.A O'.n O'.c)) S (sdV ⟨sc, K', O', G, U⟩) 53) := Lib.hid (bl_set Ra2.out 39 (.slice O'.A O'.n O'.c))
  have R2B : Hid (BL (w2.setCell ⟨S, 39, none⟩ (.slice O'.A O'.n O'.c)) (S + 1) (sdV sm0) 53) := Lib.hid (bl_keep Rb2.out (heap_set1 _ _ _ (by omega)))
  have B2 : Hid (Below S w (w2.setCell ⟨S, 39, none⟩ (.slice O'.A O'.n O'.c))) := Lib.hid (Bw2.out.setCell (Nat.le_refl _) _)
  have SZ2 : Hid (S + 1 < (w2.setCell ⟨S, 39, none⟩ (.slice O'.A O'.n O'.c)).heap.size) := Lib.hid (by have := SA2.out; simpa using this)
  have HK : Hid (RfAt (w2.setCell ⟨S, 39, none⟩ (.slice O'.A O'.n O'.c)) (fun q => q < S + 2) 8 K') := Lib.hid (TK.out.low (fun _ h => h) (by simp) fun q _ hq => heap_set1 _ _ _ (by omega))
  clear TK
  have HO : Hid (RfAt (w2.setCell ⟨S, 39, none⟩ (.slice O'.A O'.n O'.c)) (fun q => q < S + 2) 9 O') := Lib.hid (TO.out.low (fun _ h => h) (by simp) fun q _ hq => heap_set1 _ _ _ (by omega))
  clear TO
  clear hn2 hy2 hr2 hb2 c1  Ra2 Rb2 Bw2 SA2 Q2
  go_wp2_with fail
  clear fr2 ex2 d2
  generalize w2.setCell ⟨S, 39, none⟩ (.slice O'.A O'.n O'.c) = v2 at *
  have c2 := sd_at R2A.out (i := 40) rfl
  refine (cloneG (fun q => S ≤ q) G v2 (HA.out _ B2.out).G).mono ?_
  rintro e w3 ⟨G', rfl, hn3, hy3, hr3, hb3⟩
  have F3 : Hid (G'.n = G.n ∧ G'.ys = G.ys) := Lib.hid ⟨hn3, hy3⟩
  have Q3 : Hid (Below v2.heap.size v2 w3) := Lib.hid hb3
  have SA3 : Hid (S + 1 < w3.heap.size) := Lib.hid (Nat.lt_of_lt_of_le SZ2.out hb3.size)
  have Ra3 : Hid (BL w3 S (sdV ⟨sc, K', O', G, U⟩) 53) := Lib.hid (bl_keep R2A.out (hb3.block S (by have := SZ2.out; omega)))
  have Rb3 : Hid (BL w3 (S + 1) (sdV sm0) 53) := Lib.hid (bl_keep R2B.out (hb3.block (S + 1) SZ2.out))
  have Bw3 : Hid (Below S w w3) := Lib.hid (B2.out.trans (hb3.mono (by have := SZ2.out; omega)))
  have TK : Hid (RfAt w3 (fun q => q < S + 2) 8 K') := Lib.hid (HK.out.low (fun _ h => h) hb3.size fun q hq _ => hb3.block q hq)
  clear HK
  have TO : Hid (RfAt w3 (fun q => q < S + 2) 9 O') := Lib.hid (HO.out.low (fun _ h => h) hb3.size fun q hq _ => hb3.block q hq)
  clear HO
  have TG : Hid (RfAt w3 (fun q => q < S + 2) 282 G') := Lib.hid (hr3.low (fun q hq => by have := SZ2.out; omega) (Nat.le_refl _) fun _ _ _ => rfl)
  have fr3 : w3.frozen? ⟨S, 40, none⟩ = false := bl_free Ra3.out 40
  have d3 := sd_at Ra3.out (i := 41) rfl
  have ex3 := sd_at Ra3.out (i := 40) rfl
  have R3A : Hid (BL (w3.setCell ⟨S, 40, none⟩ (.slice G'.A G'.n G'.c)) S (sdV ⟨sc, K', O', G', U⟩) 53) := Lib.hid (bl_set Ra3.out 40 (.slice G'.A G'.n G'.c))
  have R3B : Hid (BL (w3.setCell ⟨S, 40, none⟩ (.slice G'.A G'.n G'.c)) (S + 1) (sdV sm0) 53) := Lib.hid (bl_keep Rb3.out (heap_set1 _ _ _ (by omega)))
  have B3 : Hid (Below S w (w3.setCell ⟨S, 40, none⟩ (.slice G'.A G'.n G'.c))) := Lib.hid (Bw3.out.setCell (Nat.le_refl _) _)
  have SZ3 : Hid (S + 1 < (w3.setCell ⟨S, 40, none⟩ (.slice G'.A G'.n G'.c)).heap.size) := Lib.hid (by have := SA3.out; simpa using this)
  have HK : Hid (RfAt (w3.setCell ⟨S, 40, none⟩ (.slice G'.A G'.n G'.c)) (fun q => q < S + 2) 8 K') := Lib.hid (TK.out.low (fun _ h => h) (by simp) fun q _ hq => heap_set1 _ _ _ (by omega))
  clear TK
  have HO : Hid (RfAt (w3.setCell ⟨S, 40, none⟩ (.slice G'.A G'.n G'.c)) (fun q => q < S + 2) 9 O') := Lib.hid (TO.out.low (fun _ h => h) (by simp) fun q _ hq => heap_set1 _ _ _ (by omega))
  clear TO
  have HG : Hid (RfAt (w3.setCell ⟨S, 40, none⟩ (.slice G'.A G'.n G'.c)) (fun q => q < S + 2) 282 G') := Lib.hid (TG.out.low (fun _ h => h) (by simp) fun q _ hq => heap_set1 _ _ _ (by omega))
  clear TG
  clear hn3 hy3 hr3 hb3 c2  Ra3 Rb3 Bw3 SA3 Q3
  go_wp2_with fail
  clear fr3 ex3 d3
  generalize w3.setCell ⟨S, 40, none⟩ (.slice G'.A G'.n G'.c) = v3 at *
  have c3 := sd_at R3A.out (i := 41) rfl
  refine (cloneI (fun q => S ≤ q) U v3 (HA.out _ B3.out).U).mono ?_
  rintro e w4 ⟨U', rfl, hn4, hy4, hr4, hb4⟩
  have F4 : Hid (U'.n = U.n ∧ U'.ys = U.ys) := Lib.hid ⟨hn4, hy4⟩
  have Q4 : Hid (Below v3.heap.size v3 w4) := Lib.hid hb4
  have SA4 : Hid (S + 1 < w4.heap.size) := Lib.hid (Nat.lt_of_lt_of_le SZ3.out hb4.size)
  have Ra4 : Hid (BL w4 S (sdV ⟨sc, K', O', G', U⟩) 53) := Lib.hid (bl_keep R3A.out (hb4.block S (by have := SZ3.out; omega)))
  have Rb4 : Hid (BL w4 (S + 1) (sdV sm0) 53) := Lib.hid (bl_keep R3B.out (hb4.block (S + 1) SZ3.out))
  have Bw4 : Hid (Below S w w4) := Lib.hid (B3.out.trans (hb4.mono (by have := SZ3.out; omega)))
  have TK : Hid (RfAt w4 (fun q => q < S + 2) 8 K') := Lib.hid (HK.out.low (fun _ h => h) hb4.size fun q hq _ => hb4.block q hq)
  clear HK
  have TO : Hid (RfAt w4 (fun q => q < S + 2) 9 O') := Lib.hid (HO.out.low (fun _ h => h) hb4.size fun q hq _ => hb4.block q hq)
  clear HO
  have TG : Hid (RfAt w4 (fun q => q < S + 2) 282 G') := Lib.hid (HG.out.low (fun _ h => h) hb4.size fun q hq _ => hb4.block q hq)
  clear HG
  have TU : Hid (RfAt w4 (fun q => q < S + 2) 1 U') := Lib.hid (hr4.low (fun q hq => by have := SZ3.out; omega) (Nat.le_refl _) fun _ _ _ => rfl)
  have fr4 : w4.frozen? ⟨S, 41, none⟩ = false := bl_free Ra4.out 41
  have ex4 := sd_at Ra4.out (i := 41) rfl
  have R4A : Hid (BL (w4.setCell ⟨S, 41, none⟩ (.slice U'.A U'.n U'.c)) S (sdV ⟨sc, K', O', G', U'⟩) 53) := Lib.hid (bl_set Ra4.out 41 (.slice U'.A U'.n U'.c))
  have R4B : Hid (BL (w4.setCell ⟨S, 41, none⟩ (.slice U'.A U'.n U'.c)) (S + 1) (sdV sm0) 53) := Lib.hid (bl_keep Rb4.out (heap_set1 _ _ _ (by omega)))
  have B4 : Hid (Below S w (w4.setCell ⟨S, 41, none⟩ (.slice U'.A U'.n U'.c))) := Lib.hid (Bw4.out.setCell (Nat.le_refl _) _)
  have SZ4 : Hid (S + 1 < (w4.setCell ⟨S, 41, none⟩ (.slice U'.A U'.n U'.c)).heap.size) := Lib.hid (by have := SA4.out; simpa using this)
  have HK : Hid (RfAt (w4.setCell ⟨S, 41, none⟩ (.slice U'.A U'.n U'.c)) (fun q => q < S + 2) 8 K') := Lib.hid (TK.out.low (fun _ h => h) (by simp) fun q _ hq => heap_set1 _ _ _ (by omega))
  clear TK
  have HO : Hid (RfAt (w4.setCell ⟨S, 41, none⟩ (.slice U'.A U'.n U'.c)) (fun q => q < S + 2) 9 O') := Lib.hid (TO.out.low (fun _ h => h) (by simp) fun q _ hq => heap_set1 _ _ _ (by omega))
  clear TO
  have HG : Hid (RfAt (w4.setCell ⟨S, 41, none⟩ (.slice U'.A U'.n U'.c)) (fun q => q < S + 2) 282 G') := Lib.hid (TG.out.low (fun _ h => h) (by simp) fun q _ hq => heap_set1 _ _ _ (by omega))
  clear TG
  have HU : Hid (RfAt (w4.setCell ⟨S, 41, none⟩ (.slice U'.A U'.n U'.c)) (fun q => q < S + 2) 1 U') := Lib.hid (TU.out.low (fun _ h => h) (by simp) fun q _ hq => heap_set1 _ _ _ (by omega))
  clear TU
  clear hn4 hy4 hr4 hb4 c3  Ra4 Rb4 Bw4 SA4 Q4
  generalize hv4 : w4.setCell ⟨S, 41, none⟩ (.slice U'.A U'.n U'.c) = v4 at *
  go_wp2_with (first
    | (refine wpList_load_midG (by rfl) 53 (.tmp 1) rfl S 0 rfl (sdV ⟨sc, K', O', G', U'⟩) _ (range_of R4A.out) Try.underlying53 rfl (szL sz53 rfl) ?_)
    | (refine wpList_store_rowTo rfl 53 (.tmp 2) (.tmp 25) rfl rfl (S + 1) (sdV ⟨sc, K', O', G', U'⟩).toArray rfl rfl 53 _ R4B.out (szA sz53 rfl) (show (sdV sm0).toArray.size = _ from rfl) (all_oneCell_toArray (sd_one _)) ?_)
    | fail)
  refine bodyPost_ret (v := .agg (sdV ⟨sc, K', O', G', U'⟩).toArray) (results_cell_row rfl _ _ (S + 1) 53 (sdV ⟨sc, K', O', G', U'⟩).toArray (0, 0) _ rfl (setRow_heap _ _ _ _ _ _ R4B.out) Try.underlying53 rfl (szA sz53 rfl)) rfl ?_
  rw [HS.out]
  have hp : ∀ q, q < S → q < S + 2 := fun q h => by omega
  have low : ∀ {sz : Nat} {r : Rf}, RfAt v4 (fun q => q < S + 2) sz r → RfAt (v4.setRow (S + 1) (sdV ⟨sc, K', O', G', U'⟩).toArray) (fun q => q < S) sz r := fun h => h.keep (by simp) (fun q _ hq => setRow_other _ _ _ _ (by omega)) fun q _ h => hp q h
  refine ⟨⟨sc, K', O', G', U'⟩, rfl, ?_, ⟨low HK.out, low HO.out, low HG.out, low HU.out⟩, below_setRow B4.out (by omega) _⟩
  unfold Sm.con
  simp only [F1.out.1, F1.out.2, F2.out.1, F2.out.2, F3.out.1, F3.out.2, F4.out.1, F4.out.2]
end Go.Proofs.Ytmcmdpbdipgahaa
