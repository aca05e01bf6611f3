/-
  TxDigests: what a transaction's id and an input's message are.
-/
import Derived.Test.YtffaddefnpkcgaaGreatDoorJY
namespace Go.Proofs.YtffaddefnpkcgaaGreatDoor
open Go.RowKit
set_option maxRecDepth 100000
/-- where it lies -/
structure V9 (S : Nat) (w0 : World) (t : TxP) (h : TxH) (w : World) : Prop where
  bel : Below S w0 w
  x : BL w S (txC t h) 39
  sz : S + 1 ≤ w.heap.size
theorem V9.step {S : Nat} {w0 : World} {t : TxP} {h : TxH} {w w' : World} (v : V9 S w0 t h w) (hb : Below w.heap.size w w') : V9 S w0 t h w' :=
  ⟨v.bel.trans (hb.mono (by have := v.sz; omega)), bl_keep v.x (hb.block S (by have := v.sz; omega)), Nat.le_trans v.sz hb.size⟩
structure C9 (S : Nat) (w0 : World) (t : TxP) (h : TxH) (c1 c2 : Bool) : Prop where
  aw : ∀ w, V9 S w0 t h w → Calls Tryz.prog 9 #[] w fun e w' => e = .returned (.bool true) ∧ Below w.heap.size w w'
  fx : ∀ w, V9 S w0 t h w → Calls Tryz.prog 10 #[.agg (txC t h).toArray] w fun e w' => e = .returned (.bool c1) ∧ Below w.heap.size w w'
  mx : c1 = true → ∀ w, V9 S w0 t h w → Calls Tryz.prog 16 #[.agg (txC t h).toArray] w fun e w' => e = .returned (.bool c2) ∧ Below w.heap.size w w'
theorem c9_of (w : World) (t : TxP) (h : TxH) (ht : WfT t) (hm : Mem w t h) (hk : Keys w) : C9 w.heap.size w t h (fewB t) (mayT t) := by
  have h0 := keys_pos hk
  have KX : ∀ w', V9 w.heap.size w t h w' → Mem w' t h := fun w' v => hm.keep fun q hq => v.bel.block q hq
  exact ⟨fun w' v => tAwake w' (keys_below hk v.bel h0) (by have := v.sz; omega), fun w' v => tFew t h w' ht (KX w' v), fun c w' v => dMayTx t h w' ht (KX w' v) (few_t c)⟩
theorem v9_0 (w : World) (t : TxP) (h : TxH) : V9 w.heap.size w t h (w.alloc (Obj.cells (txC t h).toArray 39)) :=
  ⟨(Below.refl _ w).alloc (Nat.le_refl _) _, heap_alloc_last w _, by simp⟩
/-- what the walk of TxDigests calls, once it may be -/
structure D9 (S : Nat) (w0 : World) (t : TxP) (h : TxH) : Prop where
  en : ∀ w, V9 S w0 t h w → Calls Tryz.prog 11 #[.agg (txC t h).toArray] w fun e w' => (∃ A c, e = .returned (.tuple #[.slice A (encT t).length c, .int .i64 0]) ∧ Row w' A (encT t) ∧ (encT t).length ≤ c ∧ (A = none → c = 0) ∧ c ≤ 9223372036854775807) ∧ Below w.heap.size w w'
  id : ∀ w, V9 S w0 t h w → Calls Tryz.prog 13 #[.agg (txC t h).toArray] w fun e w' => e = .returned (.tuple #[.agg (bvals (hash1 120 (encT t))).toArray, .bool true]) ∧ Below w.heap.size w w'
  mn : ¬ t.kind = 2 → ∀ w, V9 S w0 t h w → Calls Tryz.prog 22 #[.agg (txC t h).toArray, .int .i64 0] w fun e w' => e = .returned (.tuple #[.agg (bvals (zeros 8)).toArray, .bool false]) ∧ Below w.heap.size w w'
  my : t.kind = 2 → ∀ (i : Nat), i < t.ins.length → ∀ w, V9 S w0 t h w → Calls Tryz.prog 22 #[.agg (txC t h).toArray, .int .i64 (i : Int)] w fun e w' => e = .returned (.tuple #[.agg (bvals (hash2 105 (encT (blankT t)) [(i : Int)])).toArray, .bool true]) ∧ Below w.heap.size w w'
theorem d9_of (w : World) (t : TxP) (h : TxH) (ht : WfT t) (hm : Mem w t h) (hk : Keys w) (hc : mayT t = true) : D9 w.heap.size w t h := by
  have h0 := keys_pos hk
  have KX : ∀ w', V9 w.heap.size w t h w' → Mem w' t h := fun w' v => hm.keep fun q hq => v.bel.block q hq
  refine ⟨fun w' v => tEncY t h w' ht (KX w' v) hc, fun w' v => ?_, fun k2 w' _ => tMsgN t h 0 w' k2, fun k2 i hi w' v => tMsgY t h i w' ht (KX w' v) (keys_below hk v.bel h0) k2 hc hi⟩
  have := tID t h w' ht (KX w' v) (keys_below hk v.bel h0) (by have := v.sz; omega)
  unfold DigP at this
  rwa [if_pos hc, hc] at this
attribute [local irreducible] ua da ba kk sw S8.run rt hs comp splice outB sha msg zeros bvals vals parC cerC claC txC cel seg hash1 hash2 zsig flat encT mayT blankT win fewB
set_option maxHeartbeats 4000000 in
theorem n8_0 (t : TxP) (h : TxH) (u : Int) (w : World) (ht : WfT t) (hm : Mem w t h) (hk : Keys w) (e1 : fewB t = false) :
    Calls Tryz.prog 8 #[.agg (txC t h).toArray, .int .u8 u] w fun e w' => e = .returned (.bool true) ∧ Below w.heap.size w w' := by
  obtain ⟨S, hS⟩ : ∃ S, w.heap.size = S := ⟨_, rfl⟩
  have HS := Lib.hid hS
  have CC0 := c9_of w t h ht hm hk
  have V0 := v9_0 w t h
  rw [hS] at CC0 V0
  rw [e1] at CC0
  have CC := Lib.hid CC0
  have V := Lib.hid V0
  have HI : Hid ((Tryz.prog.info? 39).map (·.size) = some (txC t h).length) := szL i39 (txC_len h ht)
  clear ht hm hk CC0 V0
  go_enter Tryz.func8, Tryz.ntmps8
  go_upto_region 1 with (fail)
  generalize (w.alloc (Obj.cells (txC t h).toArray 39)) = v at *
  clear hS
  go_wp2_with (first
      | (refine wpList_load_midG (by rfl) 39 (.tmp 2) rfl S 0 rfl (txC t h) _ (range_of V.out.x) Tryz.underlying39 rfl HI.out ?_)
      | (go_at_call 9; refine (CC.out.aw _ V.out).mono ?_; rintro e w' ⟨rfl, hb⟩; have V := Lib.hid (V.out.step hb); clear hb)
      | (go_at_call 10; refine (CC.out.fx _ V.out).mono ?_; rintro e w' ⟨rfl, hb⟩; have V := Lib.hid (V.out.step hb); clear hb)
      | fail)
  go_ret
  exact ⟨rfl, by rw [HS.out]; exact V.out.bel⟩
set_option maxHeartbeats 4000000 in
theorem n8_1 (t : TxP) (h : TxH) (u : Int) (w : World) (ht : WfT t) (hm : Mem w t h) (hk : Keys w) (e1 : fewB t = true) (e2 : mayT t = false) :
    Calls Tryz.prog 8 #[.agg (txC t h).toArray, .int .u8 u] w fun e w' => e = .returned (.bool true) ∧ Below w.heap.size w w' := by
  obtain ⟨S, hS⟩ : ∃ S, w.heap.size = S := ⟨_, rfl⟩
  have HS := Lib.hid hS
  have CC0 := c9_of w t h ht hm hk
  have V0 := v9_0 w t h
  rw [hS] at CC0 V0
  rw [e1, e2] at CC0
  have CC := Lib.hid CC0
  have V := Lib.hid V0
  have HI : Hid ((Tryz.prog.info? 39).map (·.size) = some (txC t h).length) := szL i39 (txC_len h ht)
  clear ht hm hk CC0 V0
  go_enter Tryz.func8, Tryz.ntmps8
  go_upto_region 1 with (fail)
  generalize (w.alloc (Obj.cells (txC t h).toArray 39)) = v at *
  clear hS
  go_wp2_with (first
      | (refine wpList_load_midG (by rfl) 39 (.tmp 2) rfl S 0 rfl (txC t h) _ (range_of V.out.x) Tryz.underlying39 rfl HI.out ?_)
      | (go_at_call 9; refine (CC.out.aw _ V.out).mono ?_; rintro e w' ⟨rfl, hb⟩; have V := Lib.hid (V.out.step hb); clear hb)
      | (go_at_call 10; refine (CC.out.fx _ V.out).mono ?_; rintro e w' ⟨rfl, hb⟩; have V := Lib.hid (V.out.step hb); clear hb)
      | (go_at_call 16; refine (CC.out.mx rfl _ V.out).mono ?_; rintro e w' ⟨rfl, hb⟩; have V := Lib.hid (V.out.step hb); clear hb)
      | fail)
  go_ret
  exact ⟨rfl, by rw [HS.out]; exact V.out.bel⟩
end Go.Proofs.YtffaddefnpkcgaaGreatDoor

namespace Go.Proofs.YtffaddefnpkcgaaGreatDoor
open Go.RowKit
set_option maxRecDepth 100000
attribute [local irreducible] ua da ba kk sw S8.run rt hs comp splice outB sha msg zeros bvals vals parC cerC claC txC cel seg hash1 hash2 zsig flat encT mayT blankT win fewB
set_option maxHeartbeats 8000000 in
theorem n8_2 (t : TxP) (h : TxH) (u : Int) (w : World) (ht : WfT t) (hm : Mem w t h) (hk : Keys w) (e1 : fewB t = true) (e2 : mayT t = true) (e3 : ¬ t.kind = 2) :
    Calls Tryz.prog 8 #[.agg (txC t h).toArray, .int .u8 u] w fun e w' => e = .returned (.bool true) ∧ Below w.heap.size w w' := by
  obtain ⟨S, hS⟩ : ∃ S, w.heap.size = S := ⟨_, rfl⟩
  have HS := Lib.hid hS
  have CC0 := c9_of w t h ht hm hk
  have V0 := v9_0 w t h
  rw [hS] at CC0 V0
  rw [e1, e2] at CC0
  have CC := Lib.hid CC0
  have V := Lib.hid V0
  have HI : Hid ((Tryz.prog.info? 39).map (·.size) = some (txC t h).length) := szL i39 (txC_len h ht)
  have DD0 := d9_of w t h ht hm hk e2
  rw [hS] at DD0
  have DD := Lib.hid DD0
  have LE := Lib.hid (enc_le ht e2)
  have HE3 := Lib.hid e3
  clear ht hm hk CC0 V0 DD0 e1 e2
  go_enter Tryz.func8, Tryz.ntmps8
  go_upto_region 1 with (fail)
  generalize (w.alloc (Obj.cells (txC t h).toArray 39)) = v at *
  clear hS
  go_upto_region 5 with (first
      | (refine wpList_load_midG (by rfl) 39 (.tmp 2) rfl S 0 rfl (txC t h) _ (range_of V.out.x) Tryz.underlying39 rfl HI.out ?_)
      | (go_at_call 9; refine (CC.out.aw _ V.out).mono ?_; rintro e w' ⟨rfl, hb⟩; have V := Lib.hid (V.out.step hb); clear hb)
      | (go_at_call 10; refine (CC.out.fx _ V.out).mono ?_; rintro e w' ⟨rfl, hb⟩; have V := Lib.hid (V.out.step hb); clear hb)
      | (go_at_call 16; refine (CC.out.mx rfl _ V.out).mono ?_; rintro e w' ⟨rfl, hb⟩; have V := Lib.hid (V.out.step hb); clear hb)
      | fail)
  go_upto_region 6 with (first
    | (refine wpList_load_midG (by rfl) 39 (.tmp 2) rfl S 0 rfl (txC t h) _ (range_of V.out.x) Tryz.underlying39 rfl HI.out ?_)
    | (go_at_call 11; refine (DD.out.en _ V.out).mono ?_; rintro e w1 ⟨⟨A, c, rfl, hr, hl, hn, hx⟩, hb⟩; have V := Lib.hid (V.out.step hb); have R1 := Lib.hid hr; have L1 := Lib.hid hl; have N1 := Lib.hid hn; have M1 := Lib.hid hx; clear hb hr hl hn hx)
    | fail)
  have hz := z29b
  go_upto_region 7 with (first
    | (refine wpList_load_midG (by rfl) 39 (.tmp 2) rfl S 0 rfl (txC t h) _ (range_of V.out.x) Tryz.underlying39 rfl HI.out ?_)
    | (go_at_call 13; refine (DD.out.id _ V.out).mono ?_; rintro e w2 ⟨rfl, hb⟩; have V := Lib.hid (V.out.step hb); have R2 := Lib.hid (row_keep R1.out hb.block); have XE : Hid (BL (w2.alloc (Obj.cells (bvals (zeros 8)).toArray 29)) w2.heap.size (bvals (zeros 8)) 29) := Lib.hid (heap_alloc_last w2 _); clear hb)
    | (refine wpList_store_rowTo rfl 29 (.tmp 7) (.tmp 36) rfl rfl w2.heap.size (bvals (hash1 120 (encT t))).toArray rfl rfl 29 (bvals (zeros 8)).toArray XE.out (szA i29 (bv8s (hash1_len _ _))) (by rw [List.size_toArray, List.size_toArray, bv8s (hash1_len _ _), bv8s (zeros_len 8)]) (all_oneCell_toArray (bv_one _)) ?_)
    | fail)
  have hb2 : Below w2.heap.size w2 ((w2.alloc (Obj.cells (bvals (zeros 8)).toArray 29)).setRow w2.heap.size (bvals (hash1 120 (encT t))).toArray) := below_setRow ((Below.refl _ w2).alloc (Nat.le_refl _) (Obj.cells (bvals (zeros 8)).toArray 29)) (Nat.le_refl _) (bvals (hash1 120 (encT t))).toArray
  have V := Lib.hid (V.out.step hb2)
  have R3 := Lib.hid (row_keep R2.out hb2.block)
  have XD : Hid (BL ((w2.alloc (Obj.cells (bvals (zeros 8)).toArray 29)).setRow w2.heap.size (bvals (hash1 120 (encT t))).toArray) w2.heap.size (bvals (hash1 120 (encT t))) 29) := Lib.hid (setRow_heap _ _ _ _ _ _ XE.out)
  clear hz hb2 XE R1 R2
  generalize w2.heap.size = D at *
  generalize ((w2.alloc (Obj.cells (bvals (zeros 8)).toArray 29)).setRow D (bvals (hash1 120 (encT t))).toArray) = w3 at *
  have HD : Hid ((hash1 120 (encT t)).length = 8) := hash1_len _ _
  obtain ⟨n, hn⟩ : ∃ n, (encT t).length = n := ⟨_, rfl⟩
  have HN := Lib.hid hn
  rw [hn]
  obtain ⟨N, hN⟩ : ∃ N, w3.heap.size = N := ⟨_, rfl⟩
  have WN := Lib.hid hN
  have DN : Hid (D < N) := by show _ < _; rw [← hN]; exact bl_lt XD.out
  have SZ : Hid (S + 1 ≤ N) := by show _ ≤ _; rw [← hN]; exact V.out.sz
  have hneq := fun w => neqS (hash1 120 (encT t)) HD.out w
  have DG : Hid (∀ w' : World, w'.heap = (w3.alloc (Obj.cells #[.slice A n c] 42)).heap → Calls Tryz.prog 28 #[.int .u8 120, .slice (some ⟨N, 0, none⟩) 1 1] w' fun e w'' => e = .returned (.agg (bvals (hash1 120 (encT t))).toArray) ∧ Below w'.heap.size w' w'') := Lib.hid fun w' hh => by
    have c0 : w'.cell? ⟨N, 0, none⟩ = some (.slice A n c) := by
      simp only [World.cell?, hh]
      rw [← hN]
      have := cell_of_one (heap_alloc_last w3 (Obj.cells #[.slice A n c] 42))
      simpa only [World.cell?] using this
    exact dOne 120 A n c 1 N (encT t) w' c0 ((src_row hn R3.out).keep fun q hq => by rw [hh]; exact Below.heap_alloc w3 _ q hq) (by rw [← hn]; exact L1.out) M1.out (by have := LE.out; omega) N1.out
  clear hn
  rename_i K7 hK7
  have XX : Hid (Below N w3 w3.drew) := (Below.refl _ _).drew
  refine wp_region_held_drew (S := (fun w' : World => ∀ q, q < N → w'.heap[q]? = w3.heap[q]?)) (by kernel_rfl) (by exact fun _ _ => rfl) (fun hHeld => ?_)
  refine wpAnyH_take (i := 0) (v := ?_) rfl (by kernel_rfl) (by kernel_rfl) (by kernel_rfl) (fun _ _ _ h => h) (Or.inl ⟨by rfl, ?_⟩) (by assumption) ?_
  rotate_left
  · (intro w hSw; (try dsimp only at hSw); go_simp; try with_reducible rfl)
  simp only [Act.put, List.getElem_toArray, List.getElem_cons_zero, List.setIfInBounds_toArray, List.set_cons_zero, List.set_cons_succ]
  refine wpAnyH_take (i := 1) (v := ?_) rfl (by kernel_rfl) (by kernel_rfl) (by kernel_rfl) (fun _ _ _ h => h) (Or.inl ⟨by rfl, ?_⟩) (by assumption) ?_
  rotate_left
  · (intro w hSw; (try dsimp only at hSw); go_simp; try with_reducible rfl)
  simp only [Act.put, List.getElem_toArray, List.getElem_cons_succ, List.getElem_cons_zero, List.setIfInBounds_toArray, List.set_cons_zero, List.set_cons_succ]
  refine wpAnyH_take (i := 2) (v := ?_) rfl (by kernel_rfl) (by kernel_rfl) (by kernel_rfl) (fun _ _ _ h => h) (Or.inl ⟨by rfl, ?_⟩) (by assumption) ?_
  rotate_left
  · (intro w hSw; (try dsimp only at hSw); go_simp; try with_reducible rfl)
  simp only [Act.put, List.getElem_toArray, List.getElem_cons_succ, List.getElem_cons_zero, List.setIfInBounds_toArray, List.set_cons_zero, List.set_cons_succ]
  refine wpAnyH_take (i := 3) (v := ?_) rfl (by kernel_rfl) (by kernel_rfl) (by kernel_rfl) (fun _ _ _ h => h) (Or.inl ⟨by rfl, ?_⟩) (by assumption) ?_
  rotate_left
  · (intro w hSw; (try dsimp only at hSw); go_simp; try with_reducible rfl)
  simp only [Act.put, List.getElem_toArray, List.getElem_cons_succ, List.getElem_cons_zero, List.setIfInBounds_toArray, List.set_cons_zero, List.set_cons_succ]
  refine wpAnyH_take (i := 4) (v := ?_) rfl (by kernel_rfl) (by kernel_rfl) (by kernel_rfl) (fun _ _ _ h => h) (Or.inl ⟨by rfl, ?_⟩) (by assumption) ?_
  rotate_left
  · (intro w hSw; (try dsimp only at hSw); go_simp; try with_reducible rfl)
  simp only [Act.put, List.getElem_toArray, List.getElem_cons_succ, List.getElem_cons_zero, List.setIfInBounds_toArray, List.set_cons_zero, List.set_cons_succ]
  refine wpAnyH_take (i := 5) (v := ?_) rfl (by kernel_rfl) (by kernel_rfl) (by kernel_rfl) (fun _ _ _ h => h) (Or.inl ⟨by rfl, ?_⟩) (by assumption) ?_
  rotate_left
  · (intro w hSw; (try dsimp only at hSw); go_simp; try with_reducible rfl)
  simp only [Act.put, List.getElem_toArray, List.getElem_cons_succ, List.getElem_cons_zero, List.setIfInBounds_toArray, List.set_cons_zero, List.set_cons_succ]
  refine wpAnyH_take (i := 6) (v := ?_) rfl (by kernel_rfl) (by kernel_rfl) (by kernel_rfl) (fun _ _ _ h => h) (Or.inl ⟨by rfl, ?_⟩) (by assumption) ?_
  rotate_left
  · (intro w hSw; (try dsimp only at hSw); go_simp; try with_reducible rfl)
  simp only [Act.put, List.getElem_toArray, List.getElem_cons_succ, List.getElem_cons_zero, List.setIfInBounds_toArray, List.set_cons_zero, List.set_cons_succ]
  refine wpAnyH_take (i := 7) rfl (by kernel_rfl) (by kernel_rfl) (by kernel_rfl) (fun _ _ _ h => h) (yieldsIf_load_mid (by rfl) 29 (.tmp 7) rfl (D) (0) rfl (bvals (hash1 120 (encT t))) _ (fun w h => range_keep1 (range_of XD.out) (h D DN.out)) Tryz.underlying29 rfl (szL i29 (bv8s HD.out))) (by assumption) ?_
  simp only [Act.put, List.getElem_toArray, List.getElem_cons_succ, List.getElem_cons_zero, List.setIfInBounds_toArray, List.set_cons_zero, List.set_cons_succ]
  refine wpAnyH_take (i := 8) (v := ?_) rfl (by kernel_rfl) (by kernel_rfl) (by kernel_rfl) (fun _ _ _ h => h) (Or.inl ⟨by rfl, ?_⟩) (by assumption) ?_
  rotate_left
  · (intro w hSw; (try dsimp only at hSw); go_simp; try with_reducible rfl)
  simp only [Act.put, List.getElem_toArray, List.getElem_cons_succ, List.getElem_cons_zero, List.setIfInBounds_toArray, List.set_cons_zero, List.set_cons_succ]
  refine wpAnyH_ready (rs := [9]) (by kernel_rfl) (by simp) ?_
  refine AllReadyH.cons rfl (fun K hK => ?_) AllReadyH.nil
  go_simp
  have XY : Hid (Below N w3 (w3.alloc (Obj.cells #[.slice A n c] 42)).drew) := ((Below.refl N w3).alloc (Nat.le_of_eq hN.symm) _).drew
  clear XX hHeld
  refine hK.out _ _ (by exact fun q hq => XY.out.block q hq) (fun hHeld => ?_)
  clear hK K
  have XX := XY
  clear XY
  refine wpAnyH_ready (rs := [10]) (by kernel_rfl) (by simp) ?_
  refine AllReadyH.cons rfl (fun K hK => ?_) AllReadyH.nil
  go_simp
  go_at_call 28
  refine (DG.out _ (by rfl)).mono ?_
  rintro e w4 ⟨rfl, hba⟩
  have XN : Hid (Below N w3 w4) := XX.out.trans (hba.mono (by have := XX.out.size; have := WN.out; omega))
  clear XX hba hHeld
  have XX := XN
  clear XN
  (try go_wp2_with fail)
  refine hK.out _ _ (by exact fun q hq => XX.out.block q hq) (fun hHeld => ?_)
  clear hK K
  refine wpAnyH_take (i := 11) (v := ?_) rfl (by kernel_rfl) (by kernel_rfl) (by kernel_rfl) (fun _ _ _ h => h) (Or.inl ⟨by rfl, ?_⟩) (by assumption) ?_
  rotate_left
  · (intro w hSw; (try dsimp only at hSw); go_simp; try with_reducible rfl)
  simp only [Act.put, List.getElem_toArray, List.getElem_cons_succ, List.getElem_cons_zero, List.setIfInBounds_toArray, List.set_cons_zero, List.set_cons_succ]
  refine wpAnyH_take (i := 12) (v := ?_) rfl (by kernel_rfl) (by kernel_rfl) (by kernel_rfl) (fun _ _ _ h => h) (Or.inl ⟨by rfl, ?_⟩) (by assumption) ?_
  rotate_left
  · (intro w hSw; (try dsimp only at hSw); go_simp; try with_reducible rfl)
  simp only [Act.put, List.getElem_toArray, List.getElem_cons_succ, List.getElem_cons_zero, List.setIfInBounds_toArray, List.set_cons_zero, List.set_cons_succ]
  refine wpAnyH_done (by kernel_rfl) ?_ _
  show K7 _ _
  refine hK7 _ _ ?_
  clear hK7 K7 hHeld hneq DG
  have V := Lib.hid (V.out.step (by rw [hN]; exact XX.out))
  clear XX XD R3 WN hN
  have hz := z29b
  have k0 := txk0 V.out.x
  go_wp2_with (first
    | (refine wpList_load_midG (by rfl) 39 (.tmp 2) rfl S 0 rfl (txC t h) _ (range_of V.out.x) Tryz.underlying39 rfl HI.out ?_)
    | (go_at_call 22; refine (DD.out.mn HE3.out _ V.out).mono ?_; rintro e w5 ⟨rfl, hb⟩; have V := Lib.hid (V.out.step hb); have XE : Hid (BL (w5.alloc (Obj.cells (bvals (zeros 8)).toArray 29)) w5.heap.size (bvals (zeros 8)) 29) := Lib.hid (heap_alloc_last w5 _); clear hb k0)
    | (refine wpList_store_rowTo rfl 29 (.tmp 9) (.tmp 57) rfl rfl w5.heap.size (bvals (zeros 8)).toArray rfl rfl 29 (bvals (zeros 8)).toArray XE.out (szA i29 (bv8s (zeros_len 8))) rfl (all_oneCell_toArray (bv_one _)) ?_)
    | fail)
  go_ret
  have V := V.out.step (below_setRow ((Below.refl _ w5).alloc (Nat.le_refl _) (Obj.cells (bvals (zeros 8)).toArray 29)) (Nat.le_refl _) (bvals (zeros 8)).toArray)
  exact ⟨rfl, by rw [HS.out]; exact V.bel⟩
end Go.Proofs.YtffaddefnpkcgaaGreatDoor
