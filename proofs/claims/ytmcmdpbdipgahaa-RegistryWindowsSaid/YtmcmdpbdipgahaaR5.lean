/-
  put: a record is laid.
-/
import Derived.Test.YtmcmdpbdipgahaaR4
import Derived.WalkSpells
namespace Go.Proofs.Ytmcmdpbdipgahaa
open Go.RowKit Go.Maps
set_option maxRecDepth 100000
theorem wp_mputV {w : World} {o : Oper} {a : Act} {K : Act → World → Prop} {Q : Exit → Act → World → Prop} (m x v : Operand) (hop : o.op = Op.mapUpdate 74 m x v)
    (b n : Nat) (F : Int → Option (List Value)) (k : Int) (y : List Value) (hm : a.eval m = .map (some b)) (hx : a.eval x = .int .i64 k) (hv : a.eval v = .agg y.toArray) (h : MapV w b n F) (hn : n < maxLen) (hk : wfI k) (hy : plain 42 y)
    (hK : ∀ w', MapV w' b (if (F k).isSome then n else n + 1) (updV F k y) → w.mapTurned w' b → K (a.put o.dst undef) w') : Oper.wp Try.prog o a w K Q := by
  obtain ⟨w', hrun, r1, r2⟩ := h.put hn hk hy
  unfold Oper.wp
  simp [execOp, hop, hm, hx, hv, hrun, Result.andThen]
  exact hK w' r1 r2
/-- the registry behind a put -/
theorem put_doneV {S b : Nat} {xs : List Sm} {i : Nat} {x : Sm} {w w1 w2 : World} (h : RegM w S (some b) xs) (hi : i ≤ xs.length) (hb : Below w.heap.size w w1) (hx : SdAt w1 (fun q => q < w.heap.size) x) (hm : MapV w2 b (if (fnS xs (i : Int)).isSome then xs.length else xs.length + 1) (updV (fnS xs) (i : Int) (sdV x))) (ht : w1.mapTurned w2 b) :
    RegM w2 S (some b) (putS xs i x) ∧ Fr w w2 (isP S (some b)) := by
  have t := turned_fr ht
  have hlt := h.lt
  have hSb : S ≠ b := map_neV h.map h.blk
  have f : Fr w w2 (isP S (some b)) := ⟨t.1.trans hb.os, t.2.1.trans hb.tape, t.2.2.1.trans hb.output, by rw [t.2.2.2.1]; exact hb.size, fun q hq hn => (t.2.2.2.2 q fun e => hn (.inr (by rw [e]))).trans (hb.block q hq)⟩
  refine ⟨⟨?_, ?_, fun y hy => ?_⟩, f⟩
  · exact bl_keep h.blk ((t.2.2.2.2 S hSb).trans (hb.block S (hlt S (.inl rfl))))
  · show MapV w2 b (putS xs i x).length (fnS (putS xs i x))
    rw [putS_len, ← fn_put xs i x hi]
    rw [fn_some] at hm
    by_cases h2 : i < xs.length
    · rw [if_pos h2]
      rw [if_pos (by simpa using h2)] at hm
      exact hm
    · rw [if_neg h2]
      rw [if_neg (by simpa using h2)] at hm
      exact hm
  · rcases putS_mem hy with hy | rfl
    · exact (h.rows y hy).keep f.size (fun q hq hn => f.block q hq hn) fun _ _ h => h
    · exact hx.keep (by rw [t.2.2.2.1]; exact Nat.le_refl _) (fun q _ hn => t.2.2.2.2 q fun e => hn (by rw [e]; exact hlt b (.inr rfl))) fun q _ hq => hlt q hq
attribute [local irreducible] sdV MapV z0 fnS
set_option maxHeartbeats 4000000 in
theorem kPut (S : Nat) (m : Option Nat) (xs : List Sm) (i : Nat) (x : Sm) (w : World) (h : RegM w S m xs) (hi : i ≤ xs.length) (hn : xs.length ≤ 100) (hx : SdAt w (isP S m) x) :
    Calls Try.prog 34 #[.pointer (some ⟨S, 0, none⟩), .int .i64 i, .agg (sdV x).toArray] w fun e w' => e = .returned (.tuple #[]) ∧ ∃ m' x', x'.con = x.con ∧ RegM w' S m' (putS xs i x') ∧ (∀ b, m' = some b → m = some b ∨ w.heap.size ≤ b) ∧ Fr w w' (isP S m) := by
  obtain ⟨N, hN⟩ : ∃ N, w.heap.size = N := ⟨_, rfl⟩
  have HN := Lib.hid hN
  obtain ⟨v, hv⟩ : ∃ v, w.alloc (Obj.cells (sdV x).toArray 53) = v := ⟨_, rfl⟩
  have RX : Hid (BL v N (sdV x) 53) := Lib.hid (by subst hv hN; exact heap_alloc_last w _)
  have BV : Hid (Below N w v) := Lib.hid (by subst hv hN; exact (Below.refl _ w).alloc (Nat.le_refl _) _)
  have VS : Hid (v.heap.size = N + 1) := Lib.hid (by subst hv hN; show _ = _; rw [World.size_alloc])
  have HV : Hid (RegM v S m xs) := Lib.hid (h.grow (by rw [hN]; exact BV.out))
  have HX : Hid (SdAt v (isP S m) x) := Lib.hid (hx.grow (by rw [hN]; exact BV.out))
  have LX : Hid ((sdV x).length = 42) := Lib.hid (sd_len x)
  have HI := Lib.hid hi
  have HL := Lib.hid hn
  have SN : Hid (∀ q, isP S m q → q < N) := Lib.hid fun q hq => by rw [← hN]; exact h.lt q hq
  have qT : ∀ (w : World) (r : Option Nat), (binOp .eql 74 (.map r) (.map none)).run Try.prog w = .ok (.bool r.isNone) w := fun w r => run_eql_map_nil w _ _ _ r Try.underlying74
  have c0 : v.cell? ⟨S, 0, none⟩ = some (.map m) := HV.out.c0
  have WI : Hid (wfI (i : Int)) := Lib.hid (by unfold wfI; omega)
  have ML : Hid (xs.length < maxLen) := Lib.hid (by unfold maxLen; omega)
  clear h hi hn hx
  cases m with
  | none =>
    have hxs : xs = [] := HV.out.map
    obtain ⟨b, hb⟩ : ∃ b, v.heap.size = b := ⟨_, rfl⟩
    have HB := Lib.hid hb
    have mk := fun w => run_makeMap (P := Try.prog) 74 w
    have KA : Hid (∀ q, q < b → (v.alloc (.map #[] 0)).heap[q]? = v.heap[q]?) := Lib.hid fun q hq => Below.heap_alloc v _ q (by rw [HB.out]; exact hq)
    have SB : Hid (S < b) := Lib.hid (by rw [← hb]; exact HV.out.lt S (.inl rfl))
    have cA : (v.alloc (.map #[] 0)).cell? ⟨S, 0, none⟩ = some (.map none) := (World.cell?_of_block (w := v) (a := ⟨S, 0, none⟩) (KA.out S SB.out)).trans HV.out.c0
    have fA : (v.alloc (.map #[] 0)).frozen? ⟨S, 0, none⟩ = false := bl_free (bl_keep HV.out.blk (KA.out S SB.out)) 0
    have FV : Hid (Fr v ((v.alloc (.map #[] 0)).setCell ⟨S, 0, none⟩ (.map (some b))) (isP S none)) := Lib.hid
      ⟨rfl, rfl, rfl, by simp, fun q hq hn => (heap_set1 _ _ _ (show q ≠ S from fun e => hn (.inl e))).trans (KA.out q (by rw [HB.out] at hq; exact hq))⟩
    have HW : Hid (RegM ((v.alloc (.map #[] 0)).setCell ⟨S, 0, none⟩ (.map (some b))) S (some b) xs) := Lib.hid (by
      refine ⟨bl_set (bl_keep HV.out.blk (KA.out S SB.out)) 0 (.map (some b)), ?_, fun y hy => by rw [hxs] at hy; cases hy⟩
      rw [hxs]
      have h1 := MapV_made v
      rw [hb] at h1
      have e : (fun _ => none : Int → Option (List Value)) = fnS [] := by
        funext k
        unfold fnS
        rw [if_neg (by simp)]
      rw [e] at h1
      exact h1.keep (heap_set1 _ _ _ (by have := SB.out; omega)))
    have RX2 : Hid (BL ((v.alloc (.map #[] 0)).setCell ⟨S, 0, none⟩ (.map (some b))) N (sdV x) 53) := Lib.hid (bl_keep RX.out (FV.out.block N (bl_lt RX.out) fun hp => by have := SN.out N hp; omega))
    obtain ⟨u, hu⟩ : ∃ u, (v.alloc (.map #[] 0)).setCell ⟨S, 0, none⟩ (.map (some b)) = u := ⟨_, rfl⟩
    go_enter Try.func34, Try.ntmps34
    have UZ : Hid (b < u.heap.size) := Lib.hid (by rw [← hu]; simp; omega)
    rw [hu] at FV HW RX2
    have HX2 : Hid (SdAt u (isP S none) x) := Lib.hid (HX.out.keep FV.out.size (fun q hq hn => FV.out.block q hq hn) fun q _ h => h)
    go_upto_region 3 with (fail)
    (try rw [hv]); (try rw [hu])
    clear hu mk cA fA qT c0
    have C0 : ∀ w', Below u.heap.size u w' → w'.cell? ⟨S, 0, none⟩ = some (.map (some b)) := fun w' hb => (HW.out.grow hb).c0
    refine wp_region_end 7 (S := fun w' => Below u.heap.size u w') (by kernel_rfl) (by kernel_rfl) (Below.refl _ u).drew (fun hHeld => ?_)
    refine wpAnyH_take (i := 0) (v := ?_) rfl (by kernel_rfl) (by kernel_rfl) (by kernel_rfl) (fun _ _ _ h => h) (Or.inl ⟨by rfl, ?_⟩) (by assumption) ?_
    rotate_left
    · (intro w hSw; (try dsimp only at hSw); go_simp; try with_reducible rfl)
    simp only [Act.put, List.getElem_toArray, List.getElem_cons_zero, List.setIfInBounds_toArray, List.set_cons_zero, List.set_cons_succ]
    refine wpAnyH_take (i := 1) (v := ?_) rfl (by kernel_rfl) (by kernel_rfl) (by kernel_rfl) (fun _ _ _ h => h) (Or.inl ⟨by rfl, ?_⟩) (by assumption) ?_
    rotate_left
    · (intro w hSw; (try dsimp only at hSw); go_simp; try with_reducible rfl)
    simp only [Act.put, List.getElem_toArray, List.getElem_cons_succ, List.getElem_cons_zero, List.setIfInBounds_toArray, List.set_cons_zero, List.set_cons_succ]
    refine wpAnyH_take (i := 2) (v := ?_) rfl (by kernel_rfl) (by kernel_rfl) (by kernel_rfl) (fun _ _ _ h => h) (Or.inl ⟨by rfl, ?_⟩) (by assumption) ?_
    rotate_left
    · (intro w hSw; (try dsimp only at hSw); go_simp; try with_reducible rfl)
    simp only [Act.put, List.getElem_toArray, List.getElem_cons_succ, List.getElem_cons_zero, List.setIfInBounds_toArray, List.set_cons_zero, List.set_cons_succ]
    refine wpAnyH_take (i := 3) (v := ?_) rfl (by kernel_rfl) (by kernel_rfl) (by kernel_rfl) (fun _ _ _ h => h) (Or.inl ⟨by rfl, ?_⟩) (by assumption) ?_
    rotate_left
    · (intro w hSw; have z := C0 w hSw; go_simp; try with_reducible rfl)
    simp only [Act.put, List.getElem_toArray, List.getElem_cons_succ, List.getElem_cons_zero, List.setIfInBounds_toArray, List.set_cons_zero, List.set_cons_succ]
    refine wpAnyH_take (i := 4) (v := ?_) rfl (by kernel_rfl) (by kernel_rfl) (by kernel_rfl) (fun _ _ _ h => h) (Or.inl ⟨by rfl, ?_⟩) (by assumption) ?_
    rotate_left
    · (intro w hSw; (try dsimp only at hSw); go_simp; try with_reducible rfl)
    simp only [Act.put, List.getElem_toArray, List.getElem_cons_succ, List.getElem_cons_zero, List.setIfInBounds_toArray, List.set_cons_zero, List.set_cons_succ]
    refine wpAnyH_take (i := 5) rfl (by kernel_rfl) (by kernel_rfl) (by kernel_rfl) (fun _ _ _ h => h) (yieldsIf_load_mid (by rfl) 53 (.tmp 5) rfl N (0) rfl (sdV x) _ (fun w h => range_keep1 (range_of RX2.out) (h.block N (bl_lt RX2.out))) Try.underlying53 rfl (szL sz53 LX.out)) (by assumption) ?_
    simp only [Act.put, List.getElem_toArray, List.getElem_cons_succ, List.getElem_cons_zero, List.setIfInBounds_toArray, List.set_cons_zero, List.set_cons_succ]
    refine wpAnyH_ready (rs := [6]) (by kernel_rfl) (by simp) ?_
    refine AllReadyH.cons rfl (fun K hK => ?_) AllReadyH.nil
    go_simp
    go_at_call 38
    refine (kOwn _ x _ (HX2.out.grow (Below.refl _ _).drew)).mono ?_
    rintro e w1 ⟨x', rfl, o1, o2, o3⟩
    have O1 := Lib.hid o1
    have O2 := Lib.hid o2
    have O3 : Hid (Below u.heap.size u w1) := Lib.hid ((Below.refl _ u).drew.trans (o3.mono (Nat.le_refl _)))
    clear o1 o2 o3
    (try go_wp2_with fail)
    refine hK.out _ _ O3.out (fun hHeld => ?_)
    clear hK K
    clear hHeld
    refine wpAnyH_done (by kernel_rfl) ?_ _
    refine qn_last rfl (by rfl) ?_
    have hm1 : MapV w1 b xs.length (fnS xs) := (HW.out.grow O3.out).map
    refine wp_mputV (.tmp 18) (.tmp 19) (.tmp 21) rfl b xs.length (fnS xs) (i : Int) (sdV x') rfl rfl rfl hm1 ML.out WI.out (sd_plain O2.out) ?_
    intro w2 hm2 ht2
    obtain ⟨d1, d2⟩ := put_doneV HW.out HI.out O3.out O2.out hm2 ht2
    have D1 := Lib.hid d1
    have D2 := Lib.hid d2
    clear d1 d2 hm1 hm2 ht2
    go_wp2
    refine bodyPost_end (v := .tuple #[]) (by simp [results, Try.results34, go_sem]) rfl ⟨rfl, some b, x', O1.out, D1.out, fun b' e => .inr (by cases e; have := VS.out; have := HB.out; have := HN.out; omega), (Fr.of_below (by rw [HN.out]; exact BV.out)).trans (FV.out.trans (P' := isP S (some b)) D2.out fun q hq => hq.elim (fun e => .inl (.inl e)) fun e => .inr (by cases e; rw [HB.out]; exact Nat.le_refl _)) fun q hq => .inl hq⟩
  | some b =>
    have HB : Hid (b < v.heap.size) := Lib.hid (HV.out.lt b (.inr rfl))
    obtain ⟨u, hu⟩ : ∃ u, v = u := ⟨_, rfl⟩
    subst hu
    have HW := HV
    have RX2 := RX
    have HX2 := HX
    go_enter Try.func34, Try.ntmps34
    go_upto_region 3 with (fail)
    clear qT c0
    try rw [hv]
    have C0 : ∀ w', Below v.heap.size v w' → w'.cell? ⟨S, 0, none⟩ = some (.map (some b)) := fun w' hb => (HW.out.grow hb).c0
    refine wp_region_end 7 (S := fun w' => Below v.heap.size v w') (by kernel_rfl) (by kernel_rfl) (Below.refl _ v).drew (fun hHeld => ?_)
    refine wpAnyH_take (i := 0) (v := ?_) rfl (by kernel_rfl) (by kernel_rfl) (by kernel_rfl) (fun _ _ _ h => h) (Or.inl ⟨by rfl, ?_⟩) (by assumption) ?_
    rotate_left
    · (intro w hSw; (try dsimp only at hSw); go_simp; try with_reducible rfl)
    simp only [Act.put, List.getElem_toArray, List.getElem_cons_zero, List.setIfInBounds_toArray, List.set_cons_zero, List.set_cons_succ]
    refine wpAnyH_take (i := 1) (v := ?_) rfl (by kernel_rfl) (by kernel_rfl) (by kernel_rfl) (fun _ _ _ h => h) (Or.inl ⟨by rfl, ?_⟩) (by assumption) ?_
    rotate_left
    · (intro w hSw; (try dsimp only at hSw); go_simp; try with_reducible rfl)
    simp only [Act.put, List.getElem_toArray, List.getElem_cons_succ, List.getElem_cons_zero, List.setIfInBounds_toArray, List.set_cons_zero, List.set_cons_succ]
    refine wpAnyH_take (i := 2) (v := ?_) rfl (by kernel_rfl) (by kernel_rfl) (by kernel_rfl) (fun _ _ _ h => h) (Or.inl ⟨by rfl, ?_⟩) (by assumption) ?_
    rotate_left
    · (intro w hSw; (try dsimp only at hSw); go_simp; try with_reducible rfl)
    simp only [Act.put, List.getElem_toArray, List.getElem_cons_succ, List.getElem_cons_zero, List.setIfInBounds_toArray, List.set_cons_zero, List.set_cons_succ]
    refine wpAnyH_take (i := 3) (v := ?_) rfl (by kernel_rfl) (by kernel_rfl) (by kernel_rfl) (fun _ _ _ h => h) (Or.inl ⟨by rfl, ?_⟩) (by assumption) ?_
    rotate_left
    · (intro w hSw; have z := C0 w hSw; go_simp; try with_reducible rfl)
    simp only [Act.put, List.getElem_toArray, List.getElem_cons_succ, List.getElem_cons_zero, List.setIfInBounds_toArray, List.set_cons_zero, List.set_cons_succ]
    refine wpAnyH_take (i := 4) (v := ?_) rfl (by kernel_rfl) (by kernel_rfl) (by kernel_rfl) (fun _ _ _ h => h) (Or.inl ⟨by rfl, ?_⟩) (by assumption) ?_
    rotate_left
    · (intro w hSw; (try dsimp only at hSw); go_simp; try with_reducible rfl)
    simp only [Act.put, List.getElem_toArray, List.getElem_cons_succ, List.getElem_cons_zero, List.setIfInBounds_toArray, List.set_cons_zero, List.set_cons_succ]
    refine wpAnyH_take (i := 5) rfl (by kernel_rfl) (by kernel_rfl) (by kernel_rfl) (fun _ _ _ h => h) (yieldsIf_load_mid (by rfl) 53 (.tmp 5) rfl N (0) rfl (sdV x) _ (fun w h => range_keep1 (range_of RX2.out) (h.block N (bl_lt RX2.out))) Try.underlying53 rfl (szL sz53 LX.out)) (by assumption) ?_
    simp only [Act.put, List.getElem_toArray, List.getElem_cons_succ, List.getElem_cons_zero, List.setIfInBounds_toArray, List.set_cons_zero, List.set_cons_succ]
    refine wpAnyH_ready (rs := [6]) (by kernel_rfl) (by simp) ?_
    refine AllReadyH.cons rfl (fun K hK => ?_) AllReadyH.nil
    go_simp
    go_at_call 38
    refine (kOwn _ x _ (HX2.out.grow (Below.refl _ _).drew)).mono ?_
    rintro e w1 ⟨x', rfl, o1, o2, o3⟩
    have O1 := Lib.hid o1
    have O2 := Lib.hid o2
    have O3 : Hid (Below v.heap.size v w1) := Lib.hid ((Below.refl _ v).drew.trans (o3.mono (Nat.le_refl _)))
    clear o1 o2 o3
    (try go_wp2_with fail)
    refine hK.out _ _ O3.out (fun hHeld => ?_)
    clear hK K
    clear hHeld
    refine wpAnyH_done (by kernel_rfl) ?_ _
    refine qn_last rfl (by rfl) ?_
    have hm1 : MapV w1 b xs.length (fnS xs) := (HW.out.grow O3.out).map
    refine wp_mputV (.tmp 18) (.tmp 19) (.tmp 21) rfl b xs.length (fnS xs) (i : Int) (sdV x') rfl rfl rfl hm1 ML.out WI.out (sd_plain O2.out) ?_
    intro w2 hm2 ht2
    obtain ⟨d1, d2⟩ := put_doneV HW.out HI.out O3.out O2.out hm2 ht2
    have D1 := Lib.hid d1
    have D2 := Lib.hid d2
    clear d1 d2 hm1 hm2 ht2
    go_wp2
    refine bodyPost_end (v := .tuple #[]) (by simp [results, Try.results34, go_sem]) rfl ⟨rfl, some b, x', O1.out, D1.out, fun b' e => .inl (by cases e; rfl), (Fr.of_below (by rw [HN.out]; exact BV.out)).trans D2.out fun q hq => .inl hq⟩
end Go.Proofs.Ytmcmdpbdipgahaa
