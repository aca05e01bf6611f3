/-
  TxMessages: what is signed of a transaction; no signature is part of it.
-/
import Derived.Test.YtffaddefnpkcgaaGreatDoorZ86
import Derived.Test.YtffaddefnpkcgaaGreatDoorZ83
import Derived.Test.YtffaddefnpkcgaaGreatDoorZR
import Derived.Test.YtffaddefnpkcgaaGreatDoorZW
namespace Go.Proofs.YtffaddefnpkcgaaGreatDoor
open Go.RowKit
set_option maxRecDepth 100000
structure V2 (S : Nat) (w0 : World) (x : TxP) (h : TxH) (sg : List Int) (w : World) : Prop where
  bel : Below S w0 w
  x : BL w S (txC x h) 39
  s : BL w (S + 1) (vals sigS sg) 58
  sz : S + 2 ≤ w.heap.size
theorem V2.from {S : Nat} {w0 : World} {x : TxP} {h : TxH} {sg : List Int} {w w' : World} (v : V2 S w0 x h sg w) {N : Nat} (hN : S + 2 ≤ N) (hb : Below N w w') : V2 S w0 x h sg w' :=
  ⟨v.bel.trans (hb.mono (by omega)), bl_keep v.x (hb.block S (by omega)), bl_keep v.s (hb.block (S + 1) (by omega)), Nat.le_trans v.sz hb.size⟩
theorem V2.step {S : Nat} {w0 : World} {x : TxP} {h : TxH} {sg : List Int} {w w' : World} (v : V2 S w0 x h sg w) (hb : Below w.heap.size w w') : V2 S w0 x h sg w' := v.from v.sz hb
theorem V2.set {S : Nat} {w0 : World} {x : TxP} {h : TxH} {sg : List Int} {w : World} (v : V2 S w0 x h sg w) {N : Nat} (hN : S + 2 ≤ N) (i : Nat) (u : Value) : V2 S w0 x h sg (w.setCell ⟨N, i, none⟩ u) :=
  v.from hN ((Below.refl N w).setCell (Nat.le_refl _) u)
theorem v2_0 (w : World) (x : TxP) (h : TxH) (sg : List Int) : V2 w.heap.size w x h sg ((w.alloc (Obj.cells (txC x h).toArray 39)).alloc (Obj.cells (vals sigS sg).toArray 58)) := by
  refine ⟨((Below.refl _ w).alloc (Nat.le_refl _) _).alloc (by simp) _, ?_, ?_, by simp⟩
  · exact bl_keep (heap_alloc_last w _) (Below.heap_alloc _ _ _ (by simp))
  · have := heap_alloc_last (w.alloc (Obj.cells (txC x h).toArray 39)) (Obj.cells (vals sigS sg).toArray 58)
    rwa [World.size_alloc] at this
structure C2 (S : Nat) (w0 : World) (x : TxP) (h : TxH) (sg : List Int) (i : Int) : Prop where
  aw : ∀ w, V2 S w0 x h sg w → Calls Tryz.prog 9 #[] w fun e w' => e = .returned (.bool true) ∧ Below w.heap.size w w'
  fx : ∀ w, V2 S w0 x h sg w → Calls Tryz.prog 10 #[.agg (txC x h).toArray] w fun e w' => e = .returned (.bool (fewB x)) ∧ Below w.heap.size w w'
  mt : fewB x = true → ∀ w, V2 S w0 x h sg w → Calls Tryz.prog 22 #[.agg (txC x h).toArray, .int .i64 i] w fun e w' => e = .returned (.tuple #[.agg (bvals (msgP x i)).toArray, .bool (msgB x i)]) ∧ Below w.heap.size w w'
  md : fewB x = true → ∀ w, V2 S w0 x h sg w → Calls Tryz.prog 23 #[.agg (txC x h).toArray, .int .i64 i] w fun e w' => e = .returned (.tuple #[.agg (bvals (msgP x i)).toArray, .bool (msgB x i)]) ∧ Below w.heap.size w w'
  ct : ∀ w, V2 S w0 x h sg w → Calls Tryz.prog 24 #[.agg (cerC x h).toArray] w fun e w' => e = .returned (.tuple #[.agg (bvals (DigP (certT x) (hash1 99))).toArray, .bool (mayT (certT x))]) ∧ Below w.heap.size w w'
  cd : fewB x = true → ∀ w, V2 S w0 x h sg w → Calls Tryz.prog 25 #[.agg (cerC x h).toArray] w fun e w' => e = .returned (.tuple #[.agg (bvals (DigP (certT x) (hash1 99))).toArray, .bool (mayT (certT x))]) ∧ Below w.heap.size w w'
  cs : ∀ w g, V2 S w0 x h sg w → w.rangeAt g 0 (vals sgnS (1 :: sg)) → Calls Tryz.prog 24 #[.agg (cerC (sgnT x sg) (sgnH h g)).toArray] w fun e w' => e = .returned (.tuple #[.agg (bvals (DigP (certT x) (hash1 99))).toArray, .bool (mayT (certT x))]) ∧ Below w.heap.size w w'
  ms : fewB x = true → ∀ (k : Nat), i = k → msgB x i = true → 0 ≤ cel sg 0 ∧ cel sg 0 ≤ 255 → ∀ w g c pad, V2 S w0 x h sg w → BL w g (flat inS (x.ins.set k ((rcd x.ins k).take 17 ++ sg)) ++ pad) 63 → x.ins.length ≤ c → c ≤ maxLen → Calls Tryz.prog 22 #[.agg (txC x (inAt h g c)).toArray, .int .i64 i] w fun e w' => e = .returned (.tuple #[.agg (bvals (msgP x i)).toArray, .bool true]) ∧ Below w.heap.size w w'
  pt : ∀ a b d w, d.length = 8 → V2 S w0 x h sg w → Calls Tryz.prog 26 #[.int .i64 a, .int .i64 b, .agg (bvals d).toArray] w fun e w' => e = .returned (.agg (bvals (hash3 119 (digs a 1) (digs b 4) d)).toArray) ∧ Below w.heap.size w w'
theorem c2_of (w : World) (x : TxP) (h : TxH) (sg : List Int) (i : Int) (hx : WfT x) (mx : Mem w x h) (hk : Keys w) (hs : okT okA sigS sg) : C2 w.heap.size w x h sg i := by
  have h0 := keys_pos hk
  have KX : ∀ w', V2 w.heap.size w x h sg w' → Mem w' x h := fun w' v => mx.keep fun q hq => v.bel.block q hq
  have KK : ∀ w', V2 w.heap.size w x h sg w' → Keys w' := fun w' v => keys_below hk v.bel h0
  refine ⟨fun w' v => tAwake w' (KK w' v) (by have := v.sz; omega), fun w' v => tFew x h w' hx (KX w' v), fun f w' v => tMsg x h i w' hx (KX w' v) (KK w' v) (few_t f), fun f w' v => dMsg x h i w' hx (KX w' v) (few_t f), fun w' v => tCertMsg x h w' hx (KX w' v) (KK w' v), fun f w' v => dCertMsg x h w' hx (KX w' v) (few_t f), fun w' g v hr => ?_, fun f k e hb h9 w' g c pad v hg hc hm => ?_, fun a b d w' hd v => tPaid a b d w' hd (KK w' v)⟩
  · exact tCertMsg (sgnT x sg) (sgnH h g) w' (sgnT_wf hx hs) (sgnT_mem (KX w' v) hr) (KK w' v)
  · subst e
    have hki : k < x.ins.length := by
      have hb' := hb
      unfold msgB at hb'
      rw [Bool.and_eq_true, Bool.and_eq_true] at hb'
      have := win_iff.1 hb'.2.2
      omega
    have M := sigT_msg hx hs hb h9
    have := tMsg (sigT x k sg) (inAt h g c) k w' (sigT_wf hx hs hki) (sigT_mem (KX w' v) hx hs hki hg hc hm) (KK w' v) (sigT_few (few_t f))
    rw [M.1, M.2, sigT_txC] at this
    exact this
theorem cer_rng {w : World} {S : Nat} {t : TxP} {h : TxH} (hw : WfT t) (hb : BL w S (txC t h) 39) : w.rangeAt S 9 (cerC t h) := (trng hw (range_of hb)).cer
theorem cer_ep {w : World} {S : Nat} {t : TxP} {h : TxH} (hw : WfT t) (hb : BL w S (txC t h) 39) : w.cell? ⟨S, 10, none⟩ = some (.int .i64 (cel t.cer 1)) ∧ w.rangeAt S 12 (bvals (seg t.cer 3 8)) := by
  have := cer_at (cer_rng hw hb) (okT_len hw.cer)
  exact ⟨this.2.1, this.2.2.2.1⟩
theorem sig_0 {w : World} {S : Nat} {sg : List Int} (h : BL w S (vals sigS sg) 58) (hs : okT okA sigS sg) : w.cell? ⟨S, 0, none⟩ = some (.int .i64 (cel sg 0)) := (sig_at (range_of h) ((okT_len hs).trans sgl281)).1
theorem egH : Tryz.prog.eqGuardType Tryz.prog.depth 29 = false := by kernel_rfl
theorem run_neqH {o : Oper} {ev : Operand → Value} {w : World} {d : List Int} {x y : Operand} (hd : d.length = 8) (ho : o.op = .binOp .neq 29 x y 29) (h0 : ev x = .agg (bvals d).toArray) (h1 : ev y = .agg (bvals d).toArray) : (execOp ev o).run Tryz.prog w = .ok (.value (.bool false)) w := by
  unfold execOp
  simp only [ho, h0, h1, Sem.run_bind, run_eqGuard_agg w .neq 29 x y _ _ egH, neqS d hd, Result.andThen_ok, Sem.run_pure]
theorem sgT_len {t : TxP} (hw : WfT t) : (seg t.cer 3 8).length = 8 := seg_len (by rw [okT_len hw.cer]; decide)
theorem flat_set {w : World} {g i : Nat} {rs : List (List Int)} {pad : List Value} {sg : List Int} (h : BL w g (flat inS rs ++ pad) 63) (ha : AllR inS rs) (hs : okT okA sigS sg) (hi : i < rs.length) : BL (w.setCells g (i * 298 + 17) (vals sigS sg)) g (flat inS (rs.set i ((rcd rs i).take 17 ++ sg)) ++ pad) 63 := by
  have hb := bl_sets (vals sigS sg) (i * 298 + 17) h (sig_room ha hs hi)
  rwa [(vals_len (okT_len hs)).trans sgl281, sig_step ha hi] at hb
theorem z32b (w : World) : (zeroValue 32).run Tryz.prog w = .ok (.agg (cerC tx0 hd0).toArray) w := by kernel_rfl
attribute [local irreducible] ua da ba kk sw S8.run rt hs comp splice outB sha msg zeros win bvals vals parC cerC claC txC cel seg hash1 hash2 hash3 encT mayT fewB DigP flat certT sgnT sgnH inAt msgB msgP digs rcd
set_option maxHeartbeats 4000000 in
theorem n9_0 (x : TxP) (h : TxH) (i : Int) (sg : List Int) (w : World) (hx : WfT x) (mx : Mem w x h) (hk : Keys w) (hs : okT okA sigS sg) (e1 : fewB x = false) :
    Calls Tryz.prog 6 #[.agg (txC x h).toArray, .int .i64 i, .agg (vals sigS sg).toArray] w fun e w' => e = .returned (.bool true) ∧ Below w.heap.size w w' := by
  obtain ⟨S, hS⟩ : ∃ S, w.heap.size = S := ⟨_, rfl⟩
  have HS := Lib.hid hS
  have CC0 := c2_of w x h sg i hx mx hk hs
  have V0 := v2_0 w x h sg
  rw [hS] at CC0 V0
  have AW := Lib.hid CC0.aw
  have FX := Lib.hid CC0.fx
  rw [e1] at FX
  have V := Lib.hid V0
  have HI : Hid ((Tryz.prog.info? 39).map (·.size) = some (txC x h).length) := szL i39 (txC_len h hx)
  have KS : Hid (∀ w', V2 S w x h sg w' → w'.cell? ⟨S + 1, 0, none⟩ = some (.int .i64 (cel sg 0))) := Lib.hid fun w' v => sig_0 v.s hs
  clear hx mx hk CC0 V0 hs
  go_enter Tryz.func6, Tryz.ntmps6
  go_upto_region 1 with (fail)
  generalize ((w.alloc (Obj.cells (txC x h).toArray 39)).alloc (Obj.cells (vals sigS sg).toArray 58)) = v at *
  clear hS
  go_wp2_with (first
      | (go_at_call 9; refine (AW.out _ V.out).mono ?_; rintro e w' ⟨rfl, hb⟩; have V := Lib.hid (V.out.step hb); clear hb)
      | (refine wpList_load_midG (by rfl) 39 (.tmp 3) rfl S 0 rfl (txC x h) _ (range_of V.out.x) Tryz.underlying39 rfl HI.out ?_)
      | (go_at_call 10; refine (FX.out _ V.out).mono ?_; rintro e w' ⟨rfl, hb⟩; have V := Lib.hid (V.out.step hb); clear hb)
      | fail)
  go_ret
  exact ⟨rfl, by rw [HS.out]; exact V.out.bel⟩
set_option maxHeartbeats 4000000 in
theorem n9_1 (x : TxP) (h : TxH) (i : Int) (sg : List Int) (w : World) (hx : WfT x) (mx : Mem w x h) (hk : Keys w) (hs : okT okA sigS sg) (e1 : fewB x = true) (hlo : cel sg 0 < 0) :
    Calls Tryz.prog 6 #[.agg (txC x h).toArray, .int .i64 i, .agg (vals sigS sg).toArray] w fun e w' => e = .returned (.bool true) ∧ Below w.heap.size w w' := by
  obtain ⟨S, hS⟩ : ∃ S, w.heap.size = S := ⟨_, rfl⟩
  have HS := Lib.hid hS
  have CC0 := c2_of w x h sg i hx mx hk hs
  have V0 := v2_0 w x h sg
  rw [hS] at CC0 V0
  have AW := Lib.hid CC0.aw
  have FX := Lib.hid CC0.fx
  rw [e1] at FX
  have V := Lib.hid V0
  have HI : Hid ((Tryz.prog.info? 39).map (·.size) = some (txC x h).length) := szL i39 (txC_len h hx)
  have KS : Hid (∀ w', V2 S w x h sg w' → w'.cell? ⟨S + 1, 0, none⟩ = some (.int .i64 (cel sg 0))) := Lib.hid fun w' v => sig_0 v.s hs
  clear hx mx hk CC0 V0 hs
  go_enter Tryz.func6, Tryz.ntmps6
  go_upto_region 1 with (fail)
  generalize ((w.alloc (Obj.cells (txC x h).toArray 39)).alloc (Obj.cells (vals sigS sg).toArray 58)) = v at *
  clear hS
  go_wp2_with (first
      | (go_at_call 9; refine (AW.out _ V.out).mono ?_; rintro e w' ⟨rfl, hb⟩; have V := Lib.hid (V.out.step hb); clear hb)
      | (refine wpList_load_midG (by rfl) 39 (.tmp 3) rfl S 0 rfl (txC x h) _ (range_of V.out.x) Tryz.underlying39 rfl HI.out ?_)
      | (go_at_call 10; refine (FX.out _ V.out).mono ?_; rintro e w' ⟨rfl, hb⟩; have V := Lib.hid (V.out.step hb); have ks := KS.out _ V.out; clear hb)
      | fail)
  go_ret
  exact ⟨rfl, by rw [HS.out]; exact V.out.bel⟩
set_option maxHeartbeats 4000000 in
theorem n9_2 (x : TxP) (h : TxH) (i : Int) (sg : List Int) (w : World) (hx : WfT x) (mx : Mem w x h) (hk : Keys w) (hs : okT okA sigS sg) (e1 : fewB x = true) (hlo : ¬ cel sg 0 < 0) (hhi : 255 < cel sg 0) :
    Calls Tryz.prog 6 #[.agg (txC x h).toArray, .int .i64 i, .agg (vals sigS sg).toArray] w fun e w' => e = .returned (.bool true) ∧ Below w.heap.size w w' := by
  obtain ⟨S, hS⟩ : ∃ S, w.heap.size = S := ⟨_, rfl⟩
  have HS := Lib.hid hS
  have CC0 := c2_of w x h sg i hx mx hk hs
  have V0 := v2_0 w x h sg
  rw [hS] at CC0 V0
  have AW := Lib.hid CC0.aw
  have FX := Lib.hid CC0.fx
  rw [e1] at FX
  have V := Lib.hid V0
  have HI : Hid ((Tryz.prog.info? 39).map (·.size) = some (txC x h).length) := szL i39 (txC_len h hx)
  have KS : Hid (∀ w', V2 S w x h sg w' → w'.cell? ⟨S + 1, 0, none⟩ = some (.int .i64 (cel sg 0))) := Lib.hid fun w' v => sig_0 v.s hs
  clear hx mx hk CC0 V0 hs
  go_enter Tryz.func6, Tryz.ntmps6
  go_upto_region 1 with (fail)
  generalize ((w.alloc (Obj.cells (txC x h).toArray 39)).alloc (Obj.cells (vals sigS sg).toArray 58)) = v at *
  clear hS
  go_wp2_with (first
      | (go_at_call 9; refine (AW.out _ V.out).mono ?_; rintro e w' ⟨rfl, hb⟩; have V := Lib.hid (V.out.step hb); clear hb)
      | (refine wpList_load_midG (by rfl) 39 (.tmp 3) rfl S 0 rfl (txC x h) _ (range_of V.out.x) Tryz.underlying39 rfl HI.out ?_)
      | (go_at_call 10; refine (FX.out _ V.out).mono ?_; rintro e w' ⟨rfl, hb⟩; have V := Lib.hid (V.out.step hb); have ks := KS.out _ V.out; clear hb)
      | fail)
  go_ret
  exact ⟨rfl, by rw [HS.out]; exact V.out.bel⟩
set_option maxHeartbeats 16000000 in
theorem p9_0 (x : TxP) (h : TxH) (i : Int) (sg : List Int) (w : World) (hx : WfT x) (mx : Mem w x h) (hk : Keys w) (hs : okT okA sigS sg) (e1 : fewB x = true) (hlo : ¬ cel sg 0 < 0) (hhi : ¬ 255 < cel sg 0) (e2 : msgB x i = false) :
    Calls Tryz.prog 6 #[.agg (txC x h).toArray, .int .i64 i, .agg (vals sigS sg).toArray] w fun e w' => e = .returned (.bool true) ∧ Below w.heap.size w w' := by
  obtain ⟨S, hS⟩ : ∃ S, w.heap.size = S := ⟨_, rfl⟩
  have HS := Lib.hid hS
  have CC0 := c2_of w x h sg i hx mx hk hs
  have V0 := v2_0 w x h sg
  rw [hS] at CC0 V0
  have AW := Lib.hid CC0.aw
  have FX := Lib.hid CC0.fx
  rw [e1] at FX
  have V := Lib.hid V0
  have HI : Hid ((Tryz.prog.info? 39).map (·.size) = some (txC x h).length) := szL i39 (txC_len h hx)
  have KS : Hid (∀ w', V2 S w x h sg w' → w'.cell? ⟨S + 1, 0, none⟩ = some (.int .i64 (cel sg 0))) := Lib.hid fun w' v => sig_0 v.s hs
  have MT := Lib.hid (CC0.mt e1)
  have MD := Lib.hid (CC0.md e1)
  rw [e2] at MT MD
  have CT := Lib.hid CC0.ct
  have CD := Lib.hid (CC0.cd e1)
  have CS := Lib.hid CC0.cs
  have PT := Lib.hid CC0.pt
  have HP : Hid ((msgP x i).length = 8) := Lib.hid (msgP_len x i)
  have HD : Hid ((DigP (certT x) (hash1 99)).length = 8) := digP_len (hash1_len _ _)
  have HT := Lib.hid hx
  have HSG := Lib.hid hs
  have HVS : Hid ((vals sigS sg).length = 281) := Lib.hid ((vals_len (okT_len hs)).trans sgl281)
  have ISG : Hid ((Tryz.prog.info? 58).map (·.size) = some (vals sigS sg).length) := szL i58 HVS.out
  have L21 : Hid ((cerC x h).length = 21) := cerC_len h hx
  have L20 : Hid ((cerC tx0 hd0).length = 21) := cerC_len _ wf_tx0
  have L22 : Hid (∀ g, (cerC (sgnT x sg) (sgnH h g)).length = 21) := Lib.hid fun g => cerC_len _ (sgnT_wf hx hs)
  have OC1 : Hid (∀ v ∈ cerC x h, v.oneCell' = true) := cerC_one x h
  have LSN : Hid ((vals sgnS (1 :: sg)).length = 282) := Lib.hid (vals_len (okT_len (sgn_ok hs)))
  have HS1 : Hid (sg.length = 281) := Lib.hid ((okT_len hs).trans sgl281)
  have HEN : Hid ((seg x.cer 3 8).length = 8) := Lib.hid (sgT_len hx)
  clear hx mx hk CC0 V0 e1 e2 hs
  generalize msgP x i = p at *
  generalize DigP (certT x) (hash1 99) = d at *
  generalize mayT (certT x) = cm at *
  go_enter Tryz.func6, Tryz.ntmps6
  go_upto_region 1 with (fail)
  generalize ((w.alloc (Obj.cells (txC x h).toArray 39)).alloc (Obj.cells (vals sigS sg).toArray 58)) = v at *
  clear hS
  go_upto_region 5 with (first
      | (go_at_call 9; refine (AW.out _ V.out).mono ?_; rintro e w' ⟨rfl, hb⟩; have V := Lib.hid (V.out.step hb); clear hb)
      | (refine wpList_load_midG (by rfl) 39 (.tmp 3) rfl S 0 rfl (txC x h) _ (range_of V.out.x) Tryz.underlying39 rfl HI.out ?_)
      | (go_at_call 10; refine (FX.out _ V.out).mono ?_; rintro e w' ⟨rfl, hb⟩; have V := Lib.hid (V.out.step hb); have ks := KS.out _ V.out; clear hb)
      | fail)
  have hz := z29b
  go_upto_region 6 with (first
      | (refine wpList_load_midG (by rfl) 39 (.tmp 3) rfl S 0 rfl (txC x h) _ (range_of V.out.x) Tryz.underlying39 rfl HI.out ?_)
      | (go_at_call 22; refine (MT.out _ V.out).mono ?_; rintro e w0 ⟨rfl, hb⟩; have V := Lib.hid (V.out.step hb); have XE : Hid (BL (w0.alloc (Obj.cells (bvals (zeros 8)).toArray 29)) w0.heap.size (bvals (zeros 8)) 29) := Lib.hid (heap_alloc_last w0 _); clear hb)
      | (refine wpList_store_rowTo rfl 29 (.tmp 7) (.tmp 40) rfl rfl w0.heap.size (bvals p).toArray rfl rfl 29 (bvals (zeros 8)).toArray XE.out (szA i29 (bv8s HP.out)) (by rw [List.size_toArray, List.size_toArray, bv8s HP.out, bv8s (zeros_len 8)]) (all_oneCell_toArray (bv_one _)) ?_)
      | fail)
  have hb2 : Below w0.heap.size w0 ((w0.alloc (Obj.cells (bvals (zeros 8)).toArray 29)).setRow w0.heap.size (bvals p).toArray) := below_setRow ((Below.refl _ w0).alloc (Nat.le_refl _) (Obj.cells (bvals (zeros 8)).toArray 29)) (Nat.le_refl _) (bvals p).toArray
  have V := Lib.hid (V.out.step hb2)
  have XA : Hid (BL ((w0.alloc (Obj.cells (bvals (zeros 8)).toArray 29)).setRow w0.heap.size (bvals p).toArray) w0.heap.size (bvals p) 29) := Lib.hid (setRow_heap _ _ _ _ _ _ XE.out)
  clear hz hb2 XE
  generalize w0.heap.size = DA at *
  generalize ((w0.alloc (Obj.cells (bvals (zeros 8)).toArray 29)).setRow DA (bvals p).toArray) = w1 at *
  have hz := z29b
  go_upto_region 7 with (first
      | (refine wpList_load_midG (by rfl) 39 (.tmp 3) rfl S 0 rfl (txC x h) _ (range_of V.out.x) Tryz.underlying39 rfl HI.out ?_)
      | (go_at_call 23; refine (MD.out _ V.out).mono ?_; rintro e w2 ⟨rfl, hb⟩; have V := Lib.hid (V.out.step hb); replace XA := Lib.hid (bl_keep XA.out (hb.block DA (bl_lt XA.out))); have XE : Hid (BL (w2.alloc (Obj.cells (bvals (zeros 8)).toArray 29)) w2.heap.size (bvals (zeros 8)) 29) := Lib.hid (heap_alloc_last w2 _); clear hb)
      | (refine wpList_store_rowTo rfl 29 (.tmp 9) (.tmp 46) rfl rfl w2.heap.size (bvals p).toArray rfl rfl 29 (bvals (zeros 8)).toArray XE.out (szA i29 (bv8s HP.out)) (by rw [List.size_toArray, List.size_toArray, bv8s HP.out, bv8s (zeros_len 8)]) (all_oneCell_toArray (bv_one _)) ?_)
      | fail)
  have hb2 : Below w2.heap.size w2 ((w2.alloc (Obj.cells (bvals (zeros 8)).toArray 29)).setRow w2.heap.size (bvals p).toArray) := below_setRow ((Below.refl _ w2).alloc (Nat.le_refl _) (Obj.cells (bvals (zeros 8)).toArray 29)) (Nat.le_refl _) (bvals p).toArray
  have V := Lib.hid (V.out.step hb2)
  replace XA := Lib.hid (bl_keep XA.out (hb2.block DA (bl_lt XA.out)))
  have XB : Hid (BL ((w2.alloc (Obj.cells (bvals (zeros 8)).toArray 29)).setRow w2.heap.size (bvals p).toArray) w2.heap.size (bvals p) 29) := Lib.hid (setRow_heap _ _ _ _ _ _ XE.out)
  clear hz hb2 XE
  generalize w2.heap.size = DB at *
  generalize ((w2.alloc (Obj.cells (bvals (zeros 8)).toArray 29)).setRow DB (bvals p).toArray) = w3 at *
  rename_i K7 hK7
  refine wp_region_lit ?_
  refine wpList_load_midG (by rfl) 29 (.tmp 7) rfl DA 0 rfl (bvals p) _ (range_of XA.out) Tryz.underlying29 rfl (szL i29 (bv8s HP.out)) ?_
  simp only [Act.put, ly4, ly5, ly6]
  refine wpList_load_midG (by rfl) 29 (.tmp 9) rfl DB 0 rfl (bvals p) _ (range_of XB.out) Tryz.underlying29 rfl (szL i29 (bv8s HP.out)) ?_
  simp only [Act.put, ly4, ly5, ly6]
  refine wpList_t (by rfl) (run_neqH HP.out rfl rfl rfl) ?_
  simp only [Act.put, ly4, ly5, ly6]
  go_upto_region 16 with fail
  have hz := z32b
  have RC := Lib.hid (cer_rng HT.out V.out.x)
  have XN : Hid (BL (w3.alloc (Obj.cells (cerC tx0 hd0).toArray 32)) w3.heap.size (cerC tx0 hd0) 32) := Lib.hid (heap_alloc_last w3 _)
  go_upto_region 17 with (first
      | (refine wpList_load_midG (by rfl) 32 (.tmp 82) rfl S 9 rfl (cerC x h) _ RC.out Tryz.underlying32 rfl (szL i32 L21.out) ?_)
      | (refine wpList_store_rowTo rfl 32 (.tmp 14) (.tmp 83) rfl rfl w3.heap.size (cerC x h).toArray rfl rfl 32 (cerC tx0 hd0).toArray XN.out (szA i32 L21.out) (by rw [List.size_toArray, List.size_toArray, L21.out, L20.out]) (all_oneCell_toArray OC1.out) ?_)
      | fail)
  have hb2 := below_setRow ((Below.refl _ w3).alloc (Nat.le_refl _) (Obj.cells (cerC tx0 hd0).toArray 32)) (Nat.le_refl _) (cerC x h).toArray
  have SC : Hid (S + 2 ≤ w3.heap.size) := Lib.hid V.out.sz
  have V := Lib.hid (V.out.step hb2)
  have XC : Hid (BL ((w3.alloc (Obj.cells (cerC tx0 hd0).toArray 32)).setRow w3.heap.size (cerC x h).toArray) w3.heap.size (cerC x h) 32) := Lib.hid (setRow_heap _ _ _ _ _ _ XN.out)
  clear hz hb2 XN RC XA XB
  generalize w3.heap.size = C at *
  generalize ((w3.alloc (Obj.cells (cerC tx0 hd0).toArray 32)).setRow C (cerC x h).toArray) = wf at *
  have hz := z29b
  go_upto_region 18 with (first
      | (refine wpList_load_midG (by rfl) 32 (.tmp 14) rfl C 0 rfl (cerC x h) _ (range_of XC.out) Tryz.underlying32 rfl (szL i32 L21.out) ?_)
      | (go_at_call 24; refine (CT.out _ V.out).mono ?_; rintro e w4 ⟨rfl, hb⟩; have V := Lib.hid (V.out.step hb); replace XC := Lib.hid (bl_keep XC.out (hb.block C (bl_lt XC.out))); have CX : Hid (C < w4.heap.size) := Lib.hid (bl_lt XC.out); have XE : Hid (BL (w4.alloc (Obj.cells (bvals (zeros 8)).toArray 29)) w4.heap.size (bvals (zeros 8)) 29) := Lib.hid (heap_alloc_last w4 _); clear hb)
      | (refine wpList_store_rowTo rfl 29 (.tmp 15) (.tmp 87) rfl rfl w4.heap.size (bvals d).toArray rfl rfl 29 (bvals (zeros 8)).toArray XE.out (szA i29 (bv8s HD.out)) (by rw [List.size_toArray, List.size_toArray, bv8s HD.out, bv8s (zeros_len 8)]) (all_oneCell_toArray (bv_one _)) ?_)
      | fail)
  have hb2 : Below w4.heap.size w4 ((w4.alloc (Obj.cells (bvals (zeros 8)).toArray 29)).setRow w4.heap.size (bvals d).toArray) := below_setRow ((Below.refl _ w4).alloc (Nat.le_refl _) (Obj.cells (bvals (zeros 8)).toArray 29)) (Nat.le_refl _) (bvals d).toArray
  have V := Lib.hid (V.out.step hb2)
  replace XC := Lib.hid (bl_keep XC.out (hb2.block C (bl_lt XC.out)))
  have XP : Hid (BL ((w4.alloc (Obj.cells (bvals (zeros 8)).toArray 29)).setRow w4.heap.size (bvals d).toArray) w4.heap.size (bvals d) 29) := Lib.hid (setRow_heap _ _ _ _ _ _ XE.out)
  clear hz hb2 XE
  have CP0 : Hid (C < w4.heap.size) := Lib.hid (by have := CX.out; exact this)
  clear CX
  generalize w4.heap.size = DP at *
  generalize ((w4.alloc (Obj.cells (bvals (zeros 8)).toArray 29)).setRow DP (bvals d).toArray) = w5 at *
  have hz := z29b
  go_upto_region 19 with (first
      | (refine wpList_load_midG (by rfl) 32 (.tmp 14) rfl C 0 rfl (cerC x h) _ (range_of XC.out) Tryz.underlying32 rfl (szL i32 L21.out) ?_)
      | (go_at_call 25; refine (CD.out _ V.out).mono ?_; rintro e w6 ⟨rfl, hb⟩; have V := Lib.hid (V.out.step hb); replace XC := Lib.hid (bl_keep XC.out (hb.block C (bl_lt XC.out))); replace XP := Lib.hid (bl_keep XP.out (hb.block DP (bl_lt XP.out))); have CX : Hid (C < w6.heap.size) := Lib.hid (bl_lt XC.out); have XE : Hid (BL (w6.alloc (Obj.cells (bvals (zeros 8)).toArray 29)) w6.heap.size (bvals (zeros 8)) 29) := Lib.hid (heap_alloc_last w6 _); clear hb)
      | (refine wpList_store_rowTo rfl 29 (.tmp 17) (.tmp 92) rfl rfl w6.heap.size (bvals d).toArray rfl rfl 29 (bvals (zeros 8)).toArray XE.out (szA i29 (bv8s HD.out)) (by rw [List.size_toArray, List.size_toArray, bv8s HD.out, bv8s (zeros_len 8)]) (all_oneCell_toArray (bv_one _)) ?_)
      | fail)
  have hb2 : Below w6.heap.size w6 ((w6.alloc (Obj.cells (bvals (zeros 8)).toArray 29)).setRow w6.heap.size (bvals d).toArray) := below_setRow ((Below.refl _ w6).alloc (Nat.le_refl _) (Obj.cells (bvals (zeros 8)).toArray 29)) (Nat.le_refl _) (bvals d).toArray
  have V := Lib.hid (V.out.step hb2)
  replace XC := Lib.hid (bl_keep XC.out (hb2.block C (bl_lt XC.out)))
  replace XP := Lib.hid (bl_keep XP.out (hb2.block DP (bl_lt XP.out)))
  have XQ : Hid (BL ((w6.alloc (Obj.cells (bvals (zeros 8)).toArray 29)).setRow w6.heap.size (bvals d).toArray) w6.heap.size (bvals d) 29) := Lib.hid (setRow_heap _ _ _ _ _ _ XE.out)
  clear hz hb2 XE
  have CQ0 : Hid (C < w6.heap.size) := Lib.hid (by have := CX.out; exact this)
  clear CX
  generalize w6.heap.size = DQ at *
  generalize ((w6.alloc (Obj.cells (bvals (zeros 8)).toArray 29)).setRow DQ (bvals d).toArray) = w7 at *
  have CP : Hid (C < DP) := Lib.hid CP0.out
  have CQ : Hid (C < DQ) := Lib.hid CQ0.out
  have XC2 : Hid (BL (w7.alloc (Obj.cells (vals sgnS (1 :: sg)).toArray 66)) C (cerC x h) 32) := Lib.hid (bl_keep XC.out (Below.heap_alloc _ _ _ (bl_lt XC.out)))
  have k2 : ∃ u, (w7.alloc (Obj.cells (vals sgnS (1 :: sg)).toArray 66)).cell? ⟨C, 20, none⟩ = some u := ⟨_, range_cell (range_of XC2.out) (i := 20) (List.getElem?_eq_getElem (by rw [L21.out]; omega))⟩
  have f2 : (w7.alloc (Obj.cells (vals sgnS (1 :: sg)).toArray 66)).frozen? ⟨C, 20, none⟩ = false := bl_free XC2.out 20
  obtain ⟨u3, k2⟩ := k2
  rename_i K6 hK6
  refine wp_region_lit ?_
  refine wpList_load_midG (by rfl) 58 (.tmp 5) rfl (S + 1) 0 rfl (vals sigS sg) _ (range_of V.out.s) Tryz.underlying58 rfl ISG.out ?_
  simp only [Act.put, ly4, ly5, ly6]
  refine wpList_t (by rfl) (run_bld66 HS1.out rfl rfl rfl) ?_
  simp only [Act.put, ly4, ly5, ly6]
  refine wpList_bs1 (by rfl) (t := 30) (.tmp 95) (vals sgnS (1 :: sg)) rfl rfl Tryz.underlying30 infoG LSN.out (by decide) (by decide) ?_
  simp only [Act.put, ly4, ly5, ly6]
  go_upto_region 20 with fail
  clear k2 f2
  have BG := Lib.hid ((Below.refl _ w7).alloc (Nat.le_refl _) (Obj.cells (vals sgnS (1 :: sg)).toArray 66))
  have RG0 : Hid ((w7.alloc (Obj.cells (vals sgnS (1 :: sg)).toArray 66)).rangeAt w7.heap.size 0 (vals sgnS (1 :: sg))) := Lib.hid (range_new _ _ _)
  have CG : Hid (C < w7.heap.size) := Lib.hid (bl_lt XC.out)
  have PG : Hid (C < DP ∧ C < DQ) := Lib.hid ⟨CP.out, CQ.out⟩
  have V := Lib.hid (V.out.step BG.out)
  replace XP := Lib.hid (bl_keep XP.out (BG.out.block DP (bl_lt XP.out)))
  replace XQ := Lib.hid (bl_keep XQ.out (BG.out.block DQ (bl_lt XQ.out)))
  clear BG XC
  generalize w7.heap.size = G at *
  generalize (w7.alloc (Obj.cells (vals sgnS (1 :: sg)).toArray 66)) = wg at *
  have V := Lib.hid (V.out.set SC.out 20 (.slice (some ⟨G, 0, none⟩) 1 1))
  replace XP := Lib.hid (bl_keep XP.out (heap_setCell_other _ (⟨C, 20, none⟩ : Addr) DP (.slice (some ⟨G, 0, none⟩) 1 1) (show DP ≠ C by have := PG.out; omega)))
  replace XQ := Lib.hid (bl_keep XQ.out (heap_setCell_other _ (⟨C, 20, none⟩ : Addr) DQ (.slice (some ⟨G, 0, none⟩) 1 1) (show DQ ≠ C by have := PG.out; omega)))
  have RG : Hid ((wg.setCell ⟨C, 20, none⟩ (.slice (some ⟨G, 0, none⟩) 1 1)).rangeAt G 0 (vals sgnS (1 :: sg))) := Lib.hid (range_keep1 RG0.out (heap_setCell_other _ _ _ _ (show G ≠ C by have := CG.out; omega)))
  have XC : Hid (BL (wg.setCell ⟨C, 20, none⟩ (.slice (some ⟨G, 0, none⟩) 1 1)) C (cerC (sgnT x sg) (sgnH h G)) 32) := Lib.hid (by have := bl_set XC2.out 20 (.slice (some ⟨G, 0, none⟩) 1 1); rwa [sgnT_set HT.out] at this)
  clear XC2 RG0
  generalize (wg.setCell ⟨C, 20, none⟩ (.slice (some ⟨G, 0, none⟩) 1 1)) = wh at *
  have hz := z29b
  go_upto_region 21 with (first
      | (refine wpList_load_midG (by rfl) 32 (.tmp 14) rfl C 0 rfl (cerC (sgnT x sg) (sgnH h G)) _ (range_of XC.out) Tryz.underlying32 rfl (szL i32 (L22.out G)) ?_)
      | (go_at_call 24; refine (CS.out _ G V.out RG.out).mono ?_; rintro e w8 ⟨rfl, hb⟩; have V := Lib.hid (V.out.step hb); replace XC := Lib.hid (bl_keep XC.out (hb.block C (bl_lt XC.out))); replace XP := Lib.hid (bl_keep XP.out (hb.block DP (bl_lt XP.out))); replace XQ := Lib.hid (bl_keep XQ.out (hb.block DQ (bl_lt XQ.out))); have XE : Hid (BL (w8.alloc (Obj.cells (bvals (zeros 8)).toArray 29)) w8.heap.size (bvals (zeros 8)) 29) := Lib.hid (heap_alloc_last w8 _); clear hb)
      | (refine wpList_store_rowTo rfl 29 (.tmp 19) (.tmp 101) rfl rfl w8.heap.size (bvals d).toArray rfl rfl 29 (bvals (zeros 8)).toArray XE.out (szA i29 (bv8s HD.out)) (by rw [List.size_toArray, List.size_toArray, bv8s HD.out, bv8s (zeros_len 8)]) (all_oneCell_toArray (bv_one _)) ?_)
      | fail)
  have hb2 : Below w8.heap.size w8 ((w8.alloc (Obj.cells (bvals (zeros 8)).toArray 29)).setRow w8.heap.size (bvals d).toArray) := below_setRow ((Below.refl _ w8).alloc (Nat.le_refl _) (Obj.cells (bvals (zeros 8)).toArray 29)) (Nat.le_refl _) (bvals d).toArray
  have V := Lib.hid (V.out.step hb2)
  replace XC := Lib.hid (bl_keep XC.out (hb2.block C (bl_lt XC.out)))
  replace XP := Lib.hid (bl_keep XP.out (hb2.block DP (bl_lt XP.out)))
  replace XQ := Lib.hid (bl_keep XQ.out (hb2.block DQ (bl_lt XQ.out)))
  have XR : Hid (BL ((w8.alloc (Obj.cells (bvals (zeros 8)).toArray 29)).setRow w8.heap.size (bvals d).toArray) w8.heap.size (bvals d) 29) := Lib.hid (setRow_heap _ _ _ _ _ _ XE.out)
  clear hz hb2 XE
  generalize w8.heap.size = DR at *
  generalize ((w8.alloc (Obj.cells (bvals (zeros 8)).toArray 29)).setRow DR (bvals d).toArray) = w9 at *
  clear RG
  obtain ⟨N, hN⟩ : ∃ N, w9.heap.size = N := ⟨_, rfl⟩
  have WN := Lib.hid hN
  have DPN : Hid (DP < N) := by show _ < _; rw [← hN]; exact bl_lt XP.out
  have DQN : Hid (DQ < N) := by show _ < _; rw [← hN]; exact bl_lt XQ.out
  have DRN : Hid (DR < N) := by show _ < _; rw [← hN]; exact bl_lt XR.out
  have SN : Hid (S + 2 ≤ N) := by show _ ≤ _; rw [← hN]; exact V.out.sz
  have EP : Hid (∀ w' : World, (∀ q, q < N → w'.heap[q]? = w9.heap[q]?) → w'.cell? ⟨S, 10, none⟩ = some (.int .i64 (cel x.cer 1)) ∧ w'.rangeAt S 12 (bvals (seg x.cer 3 8))) := Lib.hid fun w' hh => cer_ep HT.out (bl_keep V.out.x (hh S (by have := SN.out; omega)))
  obtain ⟨ep, hep⟩ : ∃ ep, cel x.cer 1 = ep := ⟨_, rfl⟩
  obtain ⟨en, hen⟩ : ∃ en, seg x.cer 3 8 = en := ⟨_, rfl⟩
  rw [hep, hen] at EP
  rw [hen] at HEN
  have heql := fun w => eqlS d HD.out w
  have heq3 := fun a b w => eqlS (hash3 119 (digs a 1) (digs b 4) en) (hash3_len _ _ _ _) w
  clear hN hep hen
  rename_i K9 hK9
  have XX : Hid (Below N w9 w9.drew) := (Below.refl _ _).drew
  refine wp_region_held_drew (S := (fun w' : World => ∀ q, q < N → w'.heap[q]? = w9.heap[q]?)) (by kernel_rfl) (by exact fun _ _ => rfl) (fun hHeld => ?_)
  refine tk (i := 0) rfl (yieldsIf_load_mid (by rfl) 29 (.tmp 15) rfl (DP) (0) rfl (bvals d) _ (fun w h => range_keep1 (range_of XP.out) (h DP DPN.out)) Tryz.underlying29 rfl (szL i29 (bv8s HD.out))) (by assumption) ?_
  simp only [Act.put, ly1, ly3, ly4, ly5, ly6]
  refine tk (i := 1) rfl (yieldsIf_load_mid (by rfl) 29 (.tmp 17) rfl (DQ) (0) rfl (bvals d) _ (fun w h => range_keep1 (range_of XQ.out) (h DQ DQN.out)) Tryz.underlying29 rfl (szL i29 (bv8s HD.out))) (by assumption) ?_
  simp only [Act.put, ly1, ly2, ly3, ly4, ly5, ly6]
  refine tk (i := 2) (v := ?_) rfl (Or.inl ⟨by rfl, ?_⟩) (by assumption) ?_
  rotate_left
  · (intro w hSw; (try dsimp only at hSw); go_simp; try with_reducible rfl)
  simp only [Act.put, ly1, ly2, ly3, ly4, ly5, ly6]
  refine tk (i := 3) (v := ?_) rfl (Or.inl ⟨by rfl, ?_⟩) (by assumption) ?_
  rotate_left
  · (intro w hSw; (try dsimp only at hSw); go_simp; try with_reducible rfl)
  simp only [Act.put, ly1, ly2, ly3, ly4, ly5, ly6]
  refine tk (i := 4) (v := ?_) rfl (Or.inl ⟨by rfl, ?_⟩) (by assumption) ?_
  rotate_left
  · (intro w hSw; (try dsimp only at hSw); go_simp; try with_reducible rfl)
  simp only [Act.put, ly1, ly2, ly3, ly4, ly5, ly6]
  refine tk (i := 5) (v := ?_) rfl (Or.inl ⟨by rfl, ?_⟩) (by assumption) ?_
  rotate_left
  · (intro w hSw; (try dsimp only at hSw); go_simp; try with_reducible rfl)
  simp only [Act.put, ly1, ly2, ly3, ly4, ly5, ly6]
  refine tk (i := 6) (v := ?_) rfl (Or.inl ⟨by rfl, ?_⟩) (by assumption) ?_
  rotate_left
  · (intro w hSw; (try dsimp only at hSw); go_simp; try with_reducible rfl)
  simp only [Act.put, ly1, ly2, ly3, ly4, ly5, ly6]
  refine tk (i := 7) (v := ?_) rfl (Or.inl ⟨by rfl, ?_⟩) (by assumption) ?_
  rotate_left
  · (intro w hSw; (try dsimp only at hSw); go_simp; try with_reducible rfl)
  simp only [Act.put, ly1, ly2, ly3, ly4, ly5, ly6]
  refine tk (i := 8) (v := ?_) rfl (Or.inl ⟨by rfl, ?_⟩) (by assumption) ?_
  rotate_left
  · (intro w hSw; (try dsimp only at hSw); go_simp; try with_reducible rfl)
  simp only [Act.put, ly1, ly2, ly3, ly4, ly5, ly6]
  refine tk (i := 9) rfl (yieldsIf_load_mid (by rfl) 29 (.tmp 19) rfl (DR) (0) rfl (bvals d) _ (fun w h => range_keep1 (range_of XR.out) (h DR DRN.out)) Tryz.underlying29 rfl (szL i29 (bv8s HD.out))) (by assumption) ?_
  simp only [Act.put, ly1, ly2, ly3, ly4, ly5, ly6]
  refine tk (i := 10) rfl (yieldsIf_load_mid (by rfl) 29 (.tmp 15) rfl (DP) (0) rfl (bvals d) _ (fun w h => range_keep1 (range_of XP.out) (h DP DPN.out)) Tryz.underlying29 rfl (szL i29 (bv8s HD.out))) (by assumption) ?_
  simp only [Act.put, ly1, ly2, ly3, ly4, ly5, ly6]
  refine tk (i := 11) (v := ?_) rfl (Or.inl ⟨by rfl, ?_⟩) (by assumption) ?_
  rotate_left
  · (intro w hSw; (try dsimp only at hSw); go_simp; try with_reducible rfl)
  simp only [Act.put, ly1, ly2, ly3, ly4, ly5, ly6]
  refine tk (i := 12) (v := ?_) rfl (Or.inl ⟨by rfl, ?_⟩) (by assumption) ?_
  rotate_left
  · (intro w hSw; (try dsimp only at hSw); go_simp; try with_reducible rfl)
  simp only [Act.put, ly1, ly2, ly3, ly4, ly5, ly6]
  refine tk (i := 13) (v := ?_) rfl (Or.inl ⟨by rfl, ?_⟩) (by assumption) ?_
  rotate_left
  · (intro w hSw; (try dsimp only at hSw); go_simp; try with_reducible rfl)
  simp only [Act.put, ly1, ly2, ly3, ly4, ly5, ly6]
  refine tk (i := 14) (v := ?_) rfl (Or.inl ⟨by rfl, ?_⟩) (by assumption) ?_
  rotate_left
  · (intro w hSw; (try dsimp only at hSw); go_simp; try with_reducible rfl)
  simp only [Act.put, ly1, ly2, ly3, ly4, ly5, ly6]
  refine tk (i := 15) (v := ?_) rfl (Or.inl ⟨by rfl, ?_⟩) (by assumption) ?_
  rotate_left
  · (intro w hSw; (try dsimp only at hSw); go_simp; try with_reducible rfl)
  simp only [Act.put, ly1, ly2, ly3, ly4, ly5, ly6]
  refine tk (i := 16) (v := ?_) rfl (Or.inl ⟨by rfl, ?_⟩) (by assumption) ?_
  rotate_left
  · (intro w hSw; (try dsimp only at hSw); go_simp; try with_reducible rfl)
  simp only [Act.put, ly1, ly2, ly3, ly4, ly5, ly6]
  refine tk (i := 17) (v := ?_) rfl (Or.inl ⟨by rfl, ?_⟩) (by assumption) ?_
  rotate_left
  · (intro w hSw; (try dsimp only at hSw); go_simp; try with_reducible rfl)
  simp only [Act.put, ly1, ly2, ly3, ly4, ly5, ly6]
  refine tk (i := 18) (v := ?_) rfl (Or.inl ⟨by rfl, ?_⟩) (by assumption) ?_
  rotate_left
  · (intro w hSw; (try dsimp only at hSw); go_simp; try with_reducible rfl)
  simp only [Act.put, ly1, ly2, ly3, ly4, ly5, ly6]
  refine tk (i := 19) (v := ?_) rfl (Or.inl ⟨by rfl, ?_⟩) (by assumption) ?_
  rotate_left
  · (intro w hSw; (try dsimp only at hSw); go_simp; try with_reducible rfl)
  simp only [Act.put, ly1, ly2, ly3, ly4, ly5, ly6]
  refine tk (i := 20) (v := ?_) rfl (Or.inl ⟨by rfl, ?_⟩) (by assumption) ?_
  rotate_left
  · (intro w hSw; (try dsimp only at hSw); go_simp; try with_reducible rfl)
  simp only [Act.put, ly1, ly2, ly3, ly4, ly5, ly6]
  refine tk (i := 21) (v := ?_) rfl (Or.inl ⟨by rfl, ?_⟩) (by assumption) ?_
  rotate_left
  · (intro w hSw; (try dsimp only at hSw); go_simp; try with_reducible rfl)
  simp only [Act.put, ly1, ly2, ly3, ly4, ly5, ly6]
  refine tk (i := 22) (v := ?_) rfl (Or.inl ⟨by rfl, ?_⟩) (by assumption) ?_
  rotate_left
  · (intro w hSw; (try dsimp only at hSw); go_simp; try with_reducible rfl)
  simp only [Act.put, ly1, ly2, ly3, ly4, ly5, ly6]
  refine tk (i := 23) (v := ?_) rfl (Or.inl ⟨by rfl, ?_⟩) (by assumption) ?_
  rotate_left
  · (intro w hSw; (try dsimp only at hSw); have c1 := (EP.out w hSw).1; go_simp; try with_reducible rfl)
  simp only [Act.put, ly1, ly2, ly3, ly4, ly5, ly6]
  refine tk (i := 24) (v := ?_) rfl (Or.inl ⟨by rfl, ?_⟩) (by assumption) ?_
  rotate_left
  · (intro w hSw; (try dsimp only at hSw); go_simp; try with_reducible rfl)
  simp only [Act.put, ly1, ly2, ly3, ly4, ly5, ly6]
  refine tk (i := 25) (v := ?_) rfl (Or.inl ⟨by rfl, ?_⟩) (by assumption) ?_
  rotate_left
  · (intro w hSw; (try dsimp only at hSw); go_simp; try with_reducible rfl)
  simp only [Act.put, ly1, ly2, ly3, ly4, ly5, ly6]
  refine tk (i := 26) (v := ?_) rfl (Or.inl ⟨by rfl, ?_⟩) (by assumption) ?_
  rotate_left
  · (intro w hSw; (try dsimp only at hSw); go_simp; try with_reducible rfl)
  simp only [Act.put, ly1, ly2, ly3, ly4, ly5, ly6]
  refine tk (i := 27) rfl (yieldsIf_load_mid (by rfl) 29 (.tmp 129) rfl (S) (12) rfl (bvals en) _ (fun w h => (EP.out w h).2) Tryz.underlying29 rfl (szL i29 (bv8s HEN.out))) (by assumption) ?_
  simp only [Act.put, ly1, ly2, ly3, ly4, ly5, ly6]
  refine tk (i := 29) (v := ?_) rfl (Or.inl ⟨by rfl, ?_⟩) (by assumption) ?_
  rotate_left
  · (intro w hSw; (try dsimp only at hSw); go_simp; try with_reducible rfl)
  simp only [Act.put, ly1, ly2, ly3, ly4, ly5, ly6]
  refine tk (i := 30) (v := ?_) rfl (Or.inl ⟨by rfl, ?_⟩) (by assumption) ?_
  rotate_left
  · (intro w hSw; (try dsimp only at hSw); go_simp; try with_reducible rfl)
  simp only [Act.put, ly1, ly2, ly3, ly4, ly5, ly6]
  refine tk (i := 31) (v := ?_) rfl (Or.inl ⟨by rfl, ?_⟩) (by assumption) ?_
  rotate_left
  · (intro w hSw; (try dsimp only at hSw); go_simp; try with_reducible rfl)
  simp only [Act.put, ly1, ly2, ly3, ly4, ly5, ly6]
  refine tk (i := 32) (v := ?_) rfl (Or.inl ⟨by rfl, ?_⟩) (by assumption) ?_
  rotate_left
  · (intro w hSw; (try dsimp only at hSw); go_simp; try with_reducible rfl)
  simp only [Act.put, ly1, ly2, ly3, ly4, ly5, ly6]
  refine tk (i := 33) (v := ?_) rfl (Or.inl ⟨by rfl, ?_⟩) (by assumption) ?_
  rotate_left
  · (intro w hSw; (try dsimp only at hSw); have c1 := (EP.out w hSw).1; go_simp; try with_reducible rfl)
  simp only [Act.put, ly1, ly2, ly3, ly4, ly5, ly6]
  refine tk (i := 34) (v := ?_) rfl (Or.inl ⟨by rfl, ?_⟩) (by assumption) ?_
  rotate_left
  · (intro w hSw; (try dsimp only at hSw); go_simp; try with_reducible rfl)
  simp only [Act.put, ly1, ly2, ly3, ly4, ly5, ly6]
  refine tk (i := 35) (v := ?_) rfl (Or.inl ⟨by rfl, ?_⟩) (by assumption) ?_
  rotate_left
  · (intro w hSw; (try dsimp only at hSw); go_simp; try with_reducible rfl)
  simp only [Act.put, ly1, ly2, ly3, ly4, ly5, ly6]
  refine tk (i := 36) (v := ?_) rfl (Or.inl ⟨by rfl, ?_⟩) (by assumption) ?_
  rotate_left
  · (intro w hSw; (try dsimp only at hSw); go_simp; try with_reducible rfl)
  simp only [Act.put, ly1, ly2, ly3, ly4, ly5, ly6]
  refine tk (i := 37) rfl (yieldsIf_load_mid (by rfl) 29 (.tmp 139) rfl (S) (12) rfl (bvals en) _ (fun w h => (EP.out w h).2) Tryz.underlying29 rfl (szL i29 (bv8s HEN.out))) (by assumption) ?_
  simp only [Act.put, ly1, ly2, ly3, ly4, ly5, ly6]
  refine wpAnyH_ready (rs := [28]) (by kernel_rfl) (by simp) ?_
  refine AllReadyH.cons rfl (fun K hK => ?_) AllReadyH.nil
  go_simp
  go_at_call 26
  refine (PT.out _ _ en _ HEN.out (V.out.step (by rw [WN.out]; exact XX.out))).mono ?_
  rintro e wy ⟨rfl, hba⟩
  have XN : Hid (Below N w9 wy) := XX.out.trans (hba.mono (by have := XX.out.size; have := WN.out; omega))
  clear XX hba hHeld
  have XX := XN
  clear XN
  (try go_wp2_with fail)
  refine hK.out _ _ (by exact fun q hq => XX.out.block q hq) (fun hHeld => ?_)
  clear hK K
  refine wpAnyH_ready (rs := [38]) (by kernel_rfl) (by simp) ?_
  refine AllReadyH.cons rfl (fun K hK => ?_) AllReadyH.nil
  go_simp
  go_at_call 27
  refine (dPaid _ _ en _ HEN.out).mono ?_
  rintro e wz ⟨rfl, hba⟩
  have XN : Hid (Below N w9 wz) := XX.out.trans (hba.mono (by have := XX.out.size; have := WN.out; omega))
  clear XX hba hHeld
  have XX := XN
  clear XN
  (try go_wp2_with fail)
  refine hK.out _ _ (by exact fun q hq => XX.out.block q hq) (fun hHeld => ?_)
  clear hK K
  refine tk (i := 39) (v := ?_) rfl (Or.inl ⟨by rfl, ?_⟩) (by assumption) ?_
  rotate_left
  · (intro w hSw; (try dsimp only at hSw); go_simp; try with_reducible rfl)
  simp only [Act.put, ly1, ly2, ly3, ly4, ly5, ly6]
  refine tk (i := 40) (v := ?_) rfl (Or.inl ⟨by rfl, ?_⟩) (by assumption) ?_
  rotate_left
  · (intro w hSw; (try dsimp only at hSw); go_simp; try with_reducible rfl)
  simp only [Act.put, ly1, ly2, ly3, ly4, ly5, ly6]
  refine tk (i := 41) (v := ?_) rfl (Or.inl ⟨by rfl, ?_⟩) (by assumption) ?_
  rotate_left
  · (intro w hSw; (try dsimp only at hSw); go_simp; try with_reducible rfl)
  simp only [Act.put, ly1, ly2, ly3, ly4, ly5, ly6]
  refine wpAnyH_done (by kernel_rfl) ?_ _
  show K9 _ _
  refine hK9 _ _ ?_
  clear hK9 K9 hHeld
  go_wp2
  go_ret
  exact ⟨rfl, by rw [HS.out]; exact (V.out.step (by rw [WN.out]; exact XX.out)).bel⟩
end Go.Proofs.YtffaddefnpkcgaaGreatDoor

