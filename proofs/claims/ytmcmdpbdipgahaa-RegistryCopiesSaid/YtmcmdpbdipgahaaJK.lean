/-
  Joined: R17, R18, R17b.
-/
import Derived.Test.YtmcmdpbdipgahaaJF
import Derived.WalkSpells
/-
  Set.
-/
namespace Go.Proofs.Ytmcmdpbdipgahaa
open Go.RowKit Go.Maps
set_option maxRecDepth 100000
/-- the registry behind a put -/
theorem put_done2 {S b : Nat} {xs : List Sm} {i : Nat} {x : Sm} {w w1 w2 : World} (h : RegM w S (some b) xs) (hi : i ≤ xs.length) (hb : Below w.heap.size w w1) (hx : SdAt w1 (fun q => q < w.heap.size) x) (hm : MapV w2 b (if (fnS xs (i : Int)).isSome then xs.length else xs.length + 1) (updV (fnS xs) (i : Int) (sdV x))) (ht : w1.mapTurned w2 b) :
    RegM w2 S (some b) (putS xs i x) ∧ Fr w w2 (isP S (some b)) ∧ SdAt w2 (fun q => q < w.heap.size) x := by
  have t := turned_fr ht
  have hlt := h.lt
  have hSb : S ≠ b := map_neV h.map h.blk
  have f : Fr w w2 (isP S (some b)) := ⟨t.1.trans hb.os, t.2.1.trans hb.tape, t.2.2.1.trans hb.output, by rw [t.2.2.2.1]; exact hb.size, fun q hq hn => (t.2.2.2.2 q fun e => hn (.inr (by rw [e]))).trans (hb.block q hq)⟩
  refine ⟨⟨?_, ?_, fun y hy => ?_⟩, f, hx.keep (by rw [t.2.2.2.1]; exact Nat.le_refl _) (fun q _ hn => t.2.2.2.2 q fun e => hn (by rw [e]; exact hlt b (.inr rfl))) fun q _ hq => hq⟩
  · exact bl_keep h.blk ((t.2.2.2.2 S hSb).trans (hb.block S (hlt S (.inl rfl))))
  · show MapV w2 b (putS xs i x).length (fnS (putS xs i x))
    rw [putS_len, ← fn_put xs i x hi]
    rw [fn_some] at hm
    by_cases h2 : i < xs.length
    · rw [if_pos h2]
      rw [if_pos (by simpa using h2)] at hm
      exact hm
    · rw [if_neg h2]
      rw [if_neg (by simpa using h2)] at hm
      exact hm
  · rcases putS_mem hy with hy | rfl
    · exact (h.rows y hy).keep f.size (fun q hq hn => f.block q hq hn) fun _ _ h => h
    · exact hx.keep (by rw [t.2.2.2.1]; exact Nat.le_refl _) (fun q _ hn => t.2.2.2.2 q fun e => hn (by rw [e]; exact hlt b (.inr rfl))) fun q _ hq => hlt q hq
attribute [local irreducible] sdV MapV z0 fnS
set_option maxHeartbeats 4000000 in
theorem kPut2 (S : Nat) (m : Option Nat) (xs : List Sm) (i : Nat) (x : Sm) (w : World) (h : RegM w S m xs) (hi : i ≤ xs.length) (hn : xs.length ≤ 100) (hx : SdAt w (isP S m) x) :
    Calls Try.prog 34 #[.pointer (some ⟨S, 0, none⟩), .int .i64 i, .agg (sdV x).toArray] w fun e w' => e = .returned (.tuple #[]) ∧ ∃ m' x', x'.con = x.con ∧ RegM w' S m' (putS xs i x') ∧ (∀ b, m' = some b → m = some b ∨ w.heap.size ≤ b) ∧ Fr w w' (isP S m) ∧ SdAt w' (fun q => q < w.heap.size) x' := by
  obtain ⟨N, hN⟩ : ∃ N, w.heap.size = N := ⟨_, rfl⟩
  have HN := Lib.hid hN
  obtain ⟨v, hv⟩ : ∃ v, w.alloc (Obj.cells (sdV x).toArray 53) = v := ⟨_, rfl⟩
  have RX : Hid (BL v N (sdV x) 53) := Lib.hid (by subst hv hN; exact heap_alloc_last w _)
  have BV : Hid (Below N w v) := Lib.hid (by subst hv hN; exact (Below.refl _ w).alloc (Nat.le_refl _) _)
  have VS : Hid (v.heap.size = N + 1) := Lib.hid (by subst hv hN; show _ = _; rw [World.size_alloc])
  have HV : Hid (RegM v S m xs) := Lib.hid (h.grow (by rw [hN]; exact BV.out))
  have HX : Hid (SdAt v (isP S m) x) := Lib.hid (hx.grow (by rw [hN]; exact BV.out))
  have LX : Hid ((sdV x).length = 42) := Lib.hid (sd_len x)
  have HI := Lib.hid hi
  have HL := Lib.hid hn
  have SN : Hid (∀ q, isP S m q → q < N) := Lib.hid fun q hq => by rw [← hN]; exact h.lt q hq
  have qT : ∀ (w : World) (r : Option Nat), (binOp .eql 74 (.map r) (.map none)).run Try.prog w = .ok (.bool r.isNone) w := fun w r => run_eql_map_nil w _ _ _ r Try.underlying74
  have c0 : v.cell? ⟨S, 0, none⟩ = some (.map m) := HV.out.c0
  have WI : Hid (wfI (i : Int)) := Lib.hid (by unfold wfI; omega)
  have ML : Hid (xs.length < maxLen) := Lib.hid (by unfold maxLen; omega)
  clear h hi hn hx
  cases m with
  | none =>
    have hxs : xs = [] := HV.out.map
    obtain ⟨b, hb⟩ : ∃ b, v.heap.size = b := ⟨_, rfl⟩
    have HB := Lib.hid hb
    have mk := fun w => run_makeMap (P := Try.prog) 74 w
    have KA : Hid (∀ q, q < b → (v.alloc (.map #[] 0)).heap[q]? = v.heap[q]?) := Lib.hid fun q hq => Below.heap_alloc v _ q (by rw [HB.out]; exact hq)
    have SB : Hid (S < b) := Lib.hid (by rw [← hb]; exact HV.out.lt S (.inl rfl))
    have cA : (v.alloc (.map #[] 0)).cell? ⟨S, 0, none⟩ = some (.map none) := (World.cell?_of_block (w := v) (a := ⟨S, 0, none⟩) (KA.out S SB.out)).trans HV.out.c0
    have fA : (v.alloc (.map #[] 0)).frozen? ⟨S, 0, none⟩ = false := bl_free (bl_keep HV.out.blk (KA.out S SB.out)) 0
    have FV : Hid (Fr v ((v.alloc (.map #[] 0)).setCell ⟨S, 0, none⟩ (.map (some b))) (isP S none)) := Lib.hid
      ⟨rfl, rfl, rfl, by simp, fun q hq hn => (heap_set1 _ _ _ (show q ≠ S from fun e => hn (.inl e))).trans (KA.out q (by rw [HB.out] at hq; exact hq))⟩
    have HW : Hid (RegM ((v.alloc (.map #[] 0)).setCell ⟨S, 0, none⟩ (.map (some b))) S (some b) xs) := Lib.hid (by
      refine ⟨bl_set (bl_keep HV.out.blk (KA.out S SB.out)) 0 (.map (some b)), ?_, fun y hy => by rw [hxs] at hy; cases hy⟩
      rw [hxs]
      have h1 := MapV_made v
      rw [hb] at h1
      have e : (fun _ => none : Int → Option (List Value)) = fnS [] := by
        funext k
        unfold fnS
        rw [if_neg (by simp)]
      rw [e] at h1
      exact h1.keep (heap_set1 _ _ _ (by have := SB.out; omega)))
    have RX2 : Hid (BL ((v.alloc (.map #[] 0)).setCell ⟨S, 0, none⟩ (.map (some b))) N (sdV x) 53) := Lib.hid (bl_keep RX.out (FV.out.block N (bl_lt RX.out) fun hp => by have := SN.out N hp; omega))
    obtain ⟨u, hu⟩ : ∃ u, (v.alloc (.map #[] 0)).setCell ⟨S, 0, none⟩ (.map (some b)) = u := ⟨_, rfl⟩
    go_enter Try.func34, Try.ntmps34
    have UZ : Hid (b < u.heap.size) := Lib.hid (by rw [← hu]; simp; omega)
    rw [hu] at FV HW RX2
    have HX2 : Hid (SdAt u (isP S none) x) := Lib.hid (HX.out.keep FV.out.size (fun q hq hn => FV.out.block q hq hn) fun q _ h => h)
    go_upto_region 3 with (fail)
    (try rw [hv]); (try rw [hu])
    clear hu mk cA fA qT c0
    have C0 : ∀ w', Below u.heap.size u w' → w'.cell? ⟨S, 0, none⟩ = some (.map (some b)) := fun w' hb => (HW.out.grow hb).c0
    refine wp_region_end 7 (S := fun w' => Below u.heap.size u w') (by kernel_rfl) (by kernel_rfl) (Below.refl _ u).drew (fun hHeld => ?_)
    refine wpAnyH_take (i := 0) (v := ?_) rfl (by kernel_rfl) (by kernel_rfl) (by kernel_rfl) (fun _ _ _ h => h) (Or.inl ⟨by rfl, ?_⟩) (by assumption) ?_
    rotate_left
    · (intro w hSw; (try dsimp only at hSw); go_simp; try with_reducible rfl)
    simp only [Act.put, List.getElem_toArray, List.getElem_cons_zero, List.setIfInBounds_toArray, List.set_cons_zero, List.set_cons_succ]
    refine wpAnyH_take (i := 1) (v := ?_) rfl (by kernel_rfl) (by kernel_rfl) (by kernel_rfl) (fun _ _ _ h => h) (Or.inl ⟨by rfl, ?_⟩) (by assumption) ?_
    rotate_left
    · (intro w hSw; (try dsimp only at hSw); go_simp; try with_reducible rfl)
    simp only [Act.put, List.getElem_toArray, List.getElem_cons_succ, List.getElem_cons_zero, List.setIfInBounds_toArray, List.set_cons_zero, List.set_cons_succ]
    refine wpAnyH_take (i := 2) (v := ?_) rfl (by kernel_rfl) (by kernel_rfl) (by kernel_rfl) (fun _ _ _ h => h) (Or.inl ⟨by rfl, ?_⟩) (by assumption) ?_
    rotate_left
    · (intro w hSw; (try dsimp only at hSw); go_simp; try with_reducible rfl)
    simp only [Act.put, List.getElem_toArray, List.getElem_cons_succ, List.getElem_cons_zero, List.setIfInBounds_toArray, List.set_cons_zero, List.set_cons_succ]
    refine wpAnyH_take (i := 3) (v := ?_) rfl (by kernel_rfl) (by kernel_rfl) (by kernel_rfl) (fun _ _ _ h => h) (Or.inl ⟨by rfl, ?_⟩) (by assumption) ?_
    rotate_left
    · (intro w hSw; have z := C0 w hSw; go_simp; try with_reducible rfl)
    simp only [Act.put, List.getElem_toArray, List.getElem_cons_succ, List.getElem_cons_zero, List.setIfInBounds_toArray, List.set_cons_zero, List.set_cons_succ]
    refine wpAnyH_take (i := 4) (v := ?_) rfl (by kernel_rfl) (by kernel_rfl) (by kernel_rfl) (fun _ _ _ h => h) (Or.inl ⟨by rfl, ?_⟩) (by assumption) ?_
    rotate_left
    · (intro w hSw; (try dsimp only at hSw); go_simp; try with_reducible rfl)
    simp only [Act.put, List.getElem_toArray, List.getElem_cons_succ, List.getElem_cons_zero, List.setIfInBounds_toArray, List.set_cons_zero, List.set_cons_succ]
    refine wpAnyH_take (i := 5) rfl (by kernel_rfl) (by kernel_rfl) (by kernel_rfl) (fun _ _ _ h => h) (yieldsIf_load_mid (by rfl) 53 (.tmp 5) rfl N (0) rfl (sdV x) _ (fun w h => range_keep1 (range_of RX2.out) (h.block N (bl_lt RX2.out))) Try.underlying53 rfl (szL sz53 LX.out)) (by assumption) ?_
    simp only [Act.put, List.getElem_toArray, List.getElem_cons_succ, List.getElem_cons_zero, List.setIfInBounds_toArray, List.set_cons_zero, List.set_cons_succ]
    refine wpAnyH_ready (rs := [6]) (by kernel_rfl) (by simp) ?_
    refine AllReadyH.cons rfl (fun K hK => ?_) AllReadyH.nil
    go_simp
    go_at_call 38
    refine (kOwn _ x _ (HX2.out.grow (Below.refl _ _).drew)).mono ?_
    rintro e w1 ⟨x', rfl, o1, o2, o3⟩
    have O1 := Lib.hid o1
    have O2 := Lib.hid o2
    have O3 : Hid (Below u.heap.size u w1) := Lib.hid ((Below.refl _ u).drew.trans (o3.mono (Nat.le_refl _)))
    clear o1 o2 o3
    (try go_wp2_with fail)
    refine hK.out _ _ O3.out (fun hHeld => ?_)
    clear hK K
    clear hHeld
    refine wpAnyH_done (by kernel_rfl) ?_ _
    refine qn_last rfl (by rfl) ?_
    have hm1 : MapV w1 b xs.length (fnS xs) := (HW.out.grow O3.out).map
    refine wp_mputV (.tmp 18) (.tmp 19) (.tmp 21) rfl b xs.length (fnS xs) (i : Int) (sdV x') rfl rfl rfl hm1 ML.out WI.out (sd_plain O2.out) ?_
    intro w2 hm2 ht2
    obtain ⟨d1, d2, d3⟩ := put_done2 HW.out HI.out O3.out O2.out hm2 ht2
    have D1 := Lib.hid d1
    have D2 := Lib.hid d2
    have D3 := Lib.hid d3
    clear d1 d2 d3 hm1 hm2 ht2
    go_wp2
    refine bodyPost_end (v := .tuple #[]) (by simp [results, Try.results34, go_sem]) rfl ⟨rfl, some b, x', O1.out, D1.out, fun b' e => .inr (by cases e; have := VS.out; have := HB.out; have := HN.out; omega), (Fr.of_below (by rw [HN.out]; exact BV.out)).trans (FV.out.trans (P' := isP S (some b)) D2.out fun q hq => hq.elim (fun e => .inl (.inl e)) fun e => .inr (by cases e; rw [HB.out]; exact Nat.le_refl _)) fun q hq => .inl hq, D3.out.keep (Nat.le_refl _) (fun _ _ _ => rfl) fun q _ hq => by have := HN.out; have := VS.out; have := HB.out; have := UZ.out; omega⟩
  | some b =>
    have HB : Hid (b < v.heap.size) := Lib.hid (HV.out.lt b (.inr rfl))
    obtain ⟨u, hu⟩ : ∃ u, v = u := ⟨_, rfl⟩
    subst hu
    have HW := HV
    have RX2 := RX
    have HX2 := HX
    go_enter Try.func34, Try.ntmps34
    go_upto_region 3 with (fail)
    clear qT c0
    try rw [hv]
    have C0 : ∀ w', Below v.heap.size v w' → w'.cell? ⟨S, 0, none⟩ = some (.map (some b)) := fun w' hb => (HW.out.grow hb).c0
    refine wp_region_end 7 (S := fun w' => Below v.heap.size v w') (by kernel_rfl) (by kernel_rfl) (Below.refl _ v).drew (fun hHeld => ?_)
    refine wpAnyH_take (i := 0) (v := ?_) rfl (by kernel_rfl) (by kernel_rfl) (by kernel_rfl) (fun _ _ _ h => h) (Or.inl ⟨by rfl, ?_⟩) (by assumption) ?_
    rotate_left
    · (intro w hSw; (try dsimp only at hSw); go_simp; try with_reducible rfl)
    simp only [Act.put, List.getElem_toArray, List.getElem_cons_zero, List.setIfInBounds_toArray, List.set_cons_zero, List.set_cons_succ]
    refine wpAnyH_take (i := 1) (v := ?_) rfl (by kernel_rfl) (by kernel_rfl) (by kernel_rfl) (fun _ _ _ h => h) (Or.inl ⟨by rfl, ?_⟩) (by assumption) ?_
    rotate_left
    · (intro w hSw; (try dsimp only at hSw); go_simp; try with_reducible rfl)
    simp only [Act.put, List.getElem_toArray, List.getElem_cons_succ, List.getElem_cons_zero, List.setIfInBounds_toArray, List.set_cons_zero, List.set_cons_succ]
    refine wpAnyH_take (i := 2) (v := ?_) rfl (by kernel_rfl) (by kernel_rfl) (by kernel_rfl) (fun _ _ _ h => h) (Or.inl ⟨by rfl, ?_⟩) (by assumption) ?_
    rotate_left
    · (intro w hSw; (try dsimp only at hSw); go_simp; try with_reducible rfl)
    simp only [Act.put, List.getElem_toArray, List.getElem_cons_succ, List.getElem_cons_zero, List.setIfInBounds_toArray, List.set_cons_zero, List.set_cons_succ]
    refine wpAnyH_take (i := 3) (v := ?_) rfl (by kernel_rfl) (by kernel_rfl) (by kernel_rfl) (fun _ _ _ h => h) (Or.inl ⟨by rfl, ?_⟩) (by assumption) ?_
    rotate_left
    · (intro w hSw; have z := C0 w hSw; go_simp; try with_reducible rfl)
    simp only [Act.put, List.getElem_toArray, List.getElem_cons_succ, List.getElem_cons_zero, List.setIfInBounds_toArray, List.set_cons_zero, List.set_cons_succ]
    refine wpAnyH_take (i := 4) (v := ?_) rfl (by kernel_rfl) (by kernel_rfl) (by kernel_rfl) (fun _ _ _ h => h) (Or.inl ⟨by rfl, ?_⟩) (by assumption) ?_
    rotate_left
    · (intro w hSw; (try dsimp only at hSw); go_simp; try with_reducible rfl)
    simp only [Act.put, List.getElem_toArray, List.getElem_cons_succ, List.getElem_cons_zero, List.setIfInBounds_toArray, List.set_cons_zero, List.set_cons_succ]
    refine wpAnyH_take (i := 5) rfl (by kernel_rfl) (by kernel_rfl) (by kernel_rfl) (fun _ _ _ h => h) (yieldsIf_load_mid (by rfl) 53 (.tmp 5) rfl N (0) rfl (sdV x) _ (fun w h => range_keep1 (range_of RX2.out) (h.block N (bl_lt RX2.out))) Try.underlying53 rfl (szL sz53 LX.out)) (by assumption) ?_
    simp only [Act.put, List.getElem_toArray, List.getElem_cons_succ, List.getElem_cons_zero, List.setIfInBounds_toArray, List.set_cons_zero, List.set_cons_succ]
    refine wpAnyH_ready (rs := [6]) (by kernel_rfl) (by simp) ?_
    refine AllReadyH.cons rfl (fun K hK => ?_) AllReadyH.nil
    go_simp
    go_at_call 38
    refine (kOwn _ x _ (HX2.out.grow (Below.refl _ _).drew)).mono ?_
    rintro e w1 ⟨x', rfl, o1, o2, o3⟩
    have O1 := Lib.hid o1
    have O2 := Lib.hid o2
    have O3 : Hid (Below v.heap.size v w1) := Lib.hid ((Below.refl _ v).drew.trans (o3.mono (Nat.le_refl _)))
    clear o1 o2 o3
    (try go_wp2_with fail)
    refine hK.out _ _ O3.out (fun hHeld => ?_)
    clear hK K
    clear hHeld
    refine wpAnyH_done (by kernel_rfl) ?_ _
    refine qn_last rfl (by rfl) ?_
    have hm1 : MapV w1 b xs.length (fnS xs) := (HW.out.grow O3.out).map
    refine wp_mputV (.tmp 18) (.tmp 19) (.tmp 21) rfl b xs.length (fnS xs) (i : Int) (sdV x') rfl rfl rfl hm1 ML.out WI.out (sd_plain O2.out) ?_
    intro w2 hm2 ht2
    obtain ⟨d1, d2, d3⟩ := put_done2 HW.out HI.out O3.out O2.out hm2 ht2
    have D1 := Lib.hid d1
    have D2 := Lib.hid d2
    have D3 := Lib.hid d3
    clear d1 d2 d3 hm1 hm2 ht2
    go_wp2
    refine bodyPost_end (v := .tuple #[]) (by simp [results, Try.results34, go_sem]) rfl ⟨rfl, some b, x', O1.out, D1.out, fun b' e => .inl (by cases e; rfl), (Fr.of_below (by rw [HN.out]; exact BV.out)).trans D2.out fun q hq => .inl hq, D3.out.keep (Nat.le_refl _) (fun _ _ _ => rfl) fun q _ hq => by have := HN.out; have := VS.out; omega⟩
theorem rSetNo (S : Nat) (m : Option Nat) (xs : List Sm) (i : Int) (x : Sm) (w : World) (h : RegM w S m xs) (hl : xs.length ≤ 100) (hi : ¬ (0 ≤ i ∧ i < xs.length)) :
    Calls Try.prog 17 #[.pointer (some ⟨S, 0, none⟩), .int .i64 i, .agg (sdV x).toArray] w fun e w' => e = .returned (.bool false) ∧ Below w.heap.size w w' := by
  have hg := h.grow (below_alloc0 w (Obj.cells (sdV x).toArray 53))
  obtain ⟨L, hL⟩ : ∃ L, xs.length = L := ⟨_, rfl⟩
  have CL : Hid (Calls Try.prog 28 #[.pointer (some ⟨S, 0, none⟩)] (w.alloc (Obj.cells (sdV x).toArray 53)) fun e w' => e = .returned (.int .i64 L) ∧ w.alloc (Obj.cells (sdV x).toArray 53) = w') := Lib.hid (by rw [← hL]; exact rLen S m xs _ hg)
  have w1 : wrap64 ((L : Int) - 1) = (L : Int) - 1 := by unfold wrap64; omega
  have CW : Hid (∀ w, Calls Try.prog 39 #[.int .i64 i, .int .i64 0, .int .i64 ((L : Int) - 1)] w fun e1 w' => e1 = .returned (.bool false) ∧ w = w') := Lib.hid fun w => by
    have := rWithin i 0 ((L : Int) - 1) w
    rw [show (decide (0 ≤ i) && decide (i ≤ (L : Int) - 1)) = false by simp; omega] at this
    exact this
  have BV := Lib.hid (below_alloc0 w (Obj.cells (sdV x).toArray 53))
  clear h hg hi hl hL
  go_enter Try.func17, Try.ntmps17
  go_wp2_with (first
    | (go_at_call 28; refine CL.out.mono ?_; rintro e1 w2 ⟨rfl, rfl⟩)
    | (go_at_call 39; refine (CW.out _).mono ?_; rintro e2 w' ⟨rfl, rfl⟩)
    | fail)
  go_ret
  exact ⟨rfl, BV.out⟩
set_option maxHeartbeats 4000000 in
theorem rSetYes (S : Nat) (m : Option Nat) (xs : List Sm) (i : Nat) (x : Sm) (w : World) (h : RegM w S m xs) (hl : xs.length ≤ 100) (hi : i < xs.length) (hx : SdAt w (isP S m) x) :
    Calls Try.prog 17 #[.pointer (some ⟨S, 0, none⟩), .int .i64 i, .agg (sdV x).toArray] w fun e w' => e = .returned (.bool true) ∧ ∃ m' x', x'.con = x.con ∧ RegM w' S m' (putS xs i x') ∧ (∀ b, m' = some b → m = some b ∨ w.heap.size ≤ b) ∧ Fr w w' (isP S m) ∧ SdAt w' (fun q => q < w.heap.size) x' := by
  obtain ⟨v, hv⟩ : ∃ v, w.alloc (Obj.cells (sdV x).toArray 53) = v := ⟨_, rfl⟩
  have BV : Hid (Below w.heap.size w v) := Lib.hid (by subst hv; exact below_alloc0 w _)
  have RX : Hid (BL v w.heap.size (sdV x) 53) := Lib.hid (by subst hv; exact heap_alloc_last w _)
  have sx : Hid ((sdV x).length = 42) := Lib.hid (sd_len x)
  obtain ⟨L, hL⟩ : ∃ L, xs.length = L := ⟨_, rfl⟩
  have CL : Hid (Calls Try.prog 28 #[.pointer (some ⟨S, 0, none⟩)] v fun e w' => e = .returned (.int .i64 L) ∧ v = w') := Lib.hid (by rw [← hL]; exact rLen S m xs _ (h.grow BV.out))
  have w1 : wrap64 ((L : Int) - 1) = (L : Int) - 1 := by unfold wrap64; omega
  have CW : Hid (∀ w, Calls Try.prog 39 #[.int .i64 (i : Int), .int .i64 0, .int .i64 ((L : Int) - 1)] w fun e1 w' => e1 = .returned (.bool true) ∧ w = w') := Lib.hid fun w => by
    have := rWithin (i : Int) 0 ((L : Int) - 1) w
    rw [show (decide ((0 : Int) ≤ (i : Int)) && decide ((i : Int) ≤ (L : Int) - 1)) = true by simp; omega] at this
    exact this
  have CP : Hid (Calls Try.prog 34 #[.pointer (some ⟨S, 0, none⟩), .int .i64 i, .agg (sdV x).toArray] v fun e w' => e = .returned (.tuple #[]) ∧ ∃ m' x', x'.con = x.con ∧ RegM w' S m' (putS xs i x') ∧ (∀ b, m' = some b → m = some b ∨ v.heap.size ≤ b) ∧ Fr v w' (isP S m) ∧ SdAt w' (fun q => q < v.heap.size) x') := Lib.hid (kPut2 S m xs i x v (h.grow BV.out) (Nat.le_of_lt hi) hl (hx.grow BV.out))
  clear h hi hl hL hx
  go_enter Try.func17, Try.ntmps17
  go_upto_region 1 with (fail)
  (try rw [hv])
  clear hv
  go_wp2_with (first
    | (go_at_call 28; refine CL.out.mono ?_; rintro e1 w2 ⟨rfl, rfl⟩)
    | (go_at_call 39; refine (CW.out _).mono ?_; rintro e2 w' ⟨rfl, rfl⟩)
    | (refine wpList_load_midG (by rfl) 53 (.tmp 5) rfl w.heap.size 0 rfl (sdV x) _ (range_of RX.out) Try.underlying53 rfl (szL sz53 sx.out) ?_)
    | (go_at_call 34; refine CP.out.mono ?_; rintro e3 w3 ⟨rfl, m', x', k1, k2, k3, k4, k5⟩; have K1 := Lib.hid k1; have K2 := Lib.hid k2; have K3 := Lib.hid k3; have K4 := Lib.hid k4; have K5 := Lib.hid k5; clear k1 k2 k3 k4 k5)
    | fail)
  go_ret
  have hs := BV.out.size
  exact ⟨rfl, m', x', K1.out, K2.out, fun b e => (K3.out b e).imp id fun h => Nat.le_trans hs h, (Fr.of_below BV.out).trans K4.out fun q hq => .inl hq, K5.out.keep (Nat.le_refl _) (fun _ _ _ => rfl) fun q _ hq => Nat.lt_of_lt_of_le hq hs⟩
end Go.Proofs.Ytmcmdpbdipgahaa

/-
  RegistryFull without the walk: eight sides are made; parameters that lie beside the registry.
-/
namespace Go.Proofs.Ytmcmdpbdipgahaa
open Go.RowKit Go.Maps
set_option maxRecDepth 100000
theorem notP_cells {w : World} {S : Nat} {m : Option Nat} {xs : List Sm} {q : Nat} {cs : Array Value} {T : TypeId} (h : RegM w S m xs) (hq : w.heap[q]? = some (.cells cs T (0, 0))) (hT : T ≠ 76) : ¬ isP S m q := by
  rintro (rfl | rfl)
  · have hb := h.blk
    unfold BL at hb
    rw [hq] at hb
    exact hT (Obj.cells.inj (Option.some.inj hb)).2.1
  · obtain ⟨D, ⟨es, clock, hb, _⟩, _⟩ := h.map
    rw [hq] at hb
    cases hb
structure FI (N : Nat) (w0 w : World) (S : Nat) (m : Option Nat) (cs : List Con) : Prop where
  reg : Reg w S m cs
  bel : Below N w0 w
  lo : ∀ q, isP S m q → N ≤ q
  sz : N ≤ w.heap.size
theorem FI.grow {N : Nat} {w0 w w' : World} {S : Nat} {m : Option Nat} {cs : List Con} (h : FI N w0 w S m cs) (hb : Below w.heap.size w w') : FI N w0 w' S m cs :=
  ⟨h.reg.grow hb, h.bel.trans (hb.mono h.sz), h.lo, Nat.le_trans h.sz hb.size⟩
theorem FI.turn {N : Nat} {w0 w w' : World} {S : Nat} {m m' : Option Nat} {cs cs' : List Con} (h : FI N w0 w S m cs) (hr : Reg w' S m' cs') (hm : ∀ b, m' = some b → m = some b ∨ w.heap.size ≤ b) (hf : Fr w w' (isP S m)) : FI N w0 w' S m' cs' :=
  ⟨hr, h.bel.trans (hf.below h.sz h.lo), fun q hq => hq.elim (fun e => h.lo q (.inl e)) fun e => (hm q e).elim (fun e => h.lo q (.inr e)) fun e => Nat.le_trans h.sz e, Nat.le_trans h.sz hf.size⟩
/-- parameters in a block, their keys -/
structure PS (w : World) (B : Nat) (A : Option Addr) (c : Nat) : Prop where
  pb : PB w B 4 2 1 (.slice A 2 c)
  src : Src w A (8 * 2) (cat rootS 2)
  c2 : 2 ≤ c
  cm : c ≤ maxLen
theorem PS.lt {w : World} {B : Nat} {A : Option Addr} {c : Nat} (h : PS w B A c) : B < w.heap.size := lt_of_block h.pb
theorem PS.grow {w w' : World} {B : Nat} {A : Option Addr} {c : Nat} (h : PS w B A c) (hb : Below w.heap.size w w') : PS w' B A c := ⟨(hb.block B h.lt).trans h.pb, h.src.keep hb.block, h.c2, h.cm⟩
theorem src_fr {w w' : World} {A : Option Addr} {n : Nat} {l : List Int} {P : Nat → Prop} (h : Src w A n l) (hf : Fr w w' P) (hA : ∀ g o, A = some ⟨g, o, none⟩ → ¬ P g) : Src w' A n l := by
  refine ⟨h.1, h.2.imp id ?_⟩
  rintro ⟨g, o, e, hr⟩
  refine ⟨g, o, e, fun i hi => ?_⟩
  have := hr i hi
  exact (World.cell?_of_block (w := w) (a := ⟨g, o + i, none⟩) (hf.block g (World.block_lt_of_cell? w ⟨g, o + i, none⟩ this) (hA g o e))).trans this
theorem PS.turn {w w' : World} {B : Nat} {A : Option Addr} {c : Nat} {S : Nat} {m : Option Nat} {cs : List Con} (h : PS w B A c) (hr : Reg w S m cs) (hf : Fr w w' (isP S m)) : PS w' B A c := by
  obtain ⟨xs, h1, _⟩ := hr
  refine ⟨(hf.block B h.lt (notP_cells h1 h.pb (by decide))).trans h.pb, src_fr h.src hf fun g o e => ?_, h.c2, h.cm⟩
  have := (src_rf h1 h.src (by decide) h.c2 (by decide)).pl _ e
  exact this.2.2
def c0F : Con := cM 2 1 4
theorem crN (k : Nat) : creC (List.replicate k c0F) (mayP (at8 (cat rootS 2)) 2 4 2 1) (con0 4 2 1 2 (cat rootS 2) 4) = if 8 ≤ k then (List.replicate k c0F, 0, 18) else (List.replicate (k + 1) c0F, (k : Int), 0) := by
  rw [may_two 2 1 (by decide) (by decide) (by decide) (by decide)]
  unfold creC
  rw [if_neg (by decide), List.length_replicate]
  by_cases h : 8 ≤ k
  · rw [if_pos h, if_pos h]
  · rw [if_neg h, if_neg h, List.replicate_succ']
    rfl
theorem crStep {N : Nat} {w0 w : World} {S : Nat} {m : Option Nat} {k B : Nat} {A : Option Addr} {c : Nat} (h : FI N w0 w S m (List.replicate k c0F)) (p : PS w B A c) (hk : k ≤ 8) :
    Calls Try.prog 12 #[.pointer (some ⟨S, 0, none⟩), .agg #[.int .i64 4, .int .i64 2, .int .i64 1, .slice A 2 c], .int .i64 4] w fun e w' => e = .returned (.tuple #[.int .i64 (if 8 ≤ k then 0 else (k : Int)), .int .i64 (if 8 ≤ k then 18 else 0)]) ∧ ∃ m', FI N w0 w' S m' (List.replicate (if 8 ≤ k then k else k + 1) c0F) ∧ PS w' B A c := by
  refine (kCreate S m _ 4 2 1 A 2 c (cat rootS 2) 4 w h.reg (by rw [List.length_replicate]; exact hk) p.src p.c2 p.cm).mono ?_
  rintro e w' ⟨r, m', hr, rfl, k2, k3, k4⟩
  rw [crN] at hr
  by_cases h8 : 8 ≤ k
  · rw [if_pos h8] at hr
    subst hr
    rw [if_pos h8, if_pos h8, if_pos h8]
    exact ⟨rfl, m', h.turn k2 k3 k4, p.turn h.reg k4⟩
  · rw [if_neg h8] at hr
    subst hr
    rw [if_neg h8, if_neg h8, if_neg h8]
    exact ⟨rfl, m', h.turn k2 k3 k4, p.turn h.reg k4⟩
theorem may_zero : mayP (at8 []) 0 0 0 0 = false := by
  unfold mayP mayK
  rw [show win 1 5 ((0 : Nat) : Int) = false from win_no1 (by decide)]
  rfl
theorem crZero {N : Nat} {w0 w : World} {S : Nat} {m : Option Nat} {cs : List Con} {B : Nat} {A : Option Addr} {c : Nat} (h : FI N w0 w S m cs) (p : PS w B A c) (hk : cs.length ≤ 8) :
    Calls Try.prog 12 #[.pointer (some ⟨S, 0, none⟩), .agg #[.int .i64 0, .int .i64 0, .int .i64 0, .slice none 0 0], .int .i64 4] w fun e w' => e = .returned (.tuple #[.int .i64 0, .int .i64 4]) ∧ ∃ m', FI N w0 w' S m' cs ∧ PS w' B A c := by
  refine (kCreate S m cs 0 0 0 none 0 0 [] 4 w h.reg hk ⟨rfl, .inl rfl⟩ (Nat.le_refl _) (Nat.zero_le _)).mono ?_
  rintro e w' ⟨r, m', hr, rfl, k2, k3, k4⟩
  rw [may_zero] at hr
  have hr : r = (cs, 0, 4) := hr
  subst hr
  exact ⟨rfl, m', h.turn k2 k3 k4, p.turn h.reg k4⟩
/-- the record of a number that there is -/
theorem sideM (S : Nat) (m : Option Nat) (xs : List Sm) (i : Nat) (w : World) (h : RegM w S m xs) (hi : i < xs.length) (h100 : xs.length ≤ 100) :
    Calls Try.prog 16 #[.pointer (some ⟨S, 0, none⟩), .int .i64 i] w fun e w' => ∃ x', e = .returned (.tuple #[.agg (sdV x').toArray, .bool true]) ∧ x'.con = (xs.getD i sm0).con ∧ SdAt w' (fun q => q < w.heap.size) x' ∧ Below w.heap.size w w' := by
  refine (rSide S m xs i w h (by unfold wfI; omega)).mono ?_
  rintro e w' ⟨x', rfl, k1, k2, k3⟩
  have ha : atS xs (i : Int) = xs.getD i sm0 := by
    unfold atS
    rw [if_pos (by omega), Int.toNat_natCast]
  rw [ha] at k1
  exact ⟨x', by rw [decide_eq_true (by omega)], k1, k2, k3⟩
end Go.Proofs.Ytmcmdpbdipgahaa

/-
  Rows of one's own may be written: copies, own, Side once more.
-/
namespace Go.Proofs.Ytmcmdpbdipgahaa
open Go.RowKit Go.Maps
set_option maxRecDepth 100000
/-- the row's block may be written -/
def Soft (w : World) (r : Rf) : Prop := ∀ a, r.A = some a → ∃ cs T, w.heap[a.block]? = some (.cells cs T (0, 0))
theorem own_soft {w : World} {base n c sz : Nat} {t : TypeId} {A : Option Addr} {ys xs : List Value} (h : w.ownsRow base t sz (.slice A n c) n ys) : Soft w ⟨A, n, c, xs⟩ := by
  intro a ha
  have ha : A = some a := ha
  subst ha
  rcases h.2 with ⟨e, _⟩ | ⟨g, c', cur, e, _, h3, _⟩
  · cases e
  · injection e with e1
    cases e1
    exact ⟨cur, t, h3⟩
structure RfS (w : World) (P : Nat → Prop) (sz : Nat) (r : Rf) : Prop where
  a : RfAt w P sz r
  s : Soft w r
theorem RfS.keep {w w' : World} {P P' : Nat → Prop} {sz : Nat} {r : Rf} (h : RfS w P sz r) (hs : w.heap.size ≤ w'.heap.size) (hb : ∀ q, q < w.heap.size → ¬ P q → w'.heap[q]? = w.heap[q]?) (hp : ∀ q, q < w.heap.size → P' q → P q) : RfS w' P' sz r := by
  refine ⟨h.a.keep hs hb hp, fun a ha => ?_⟩
  obtain ⟨cs, T, e⟩ := h.s a ha
  have := h.a.pl a ha
  exact ⟨cs, T, (hb _ this.2.1 this.2.2).trans e⟩
theorem RfS.low {w v : World} {P : Nat → Prop} {sz N : Nat} {r : Rf} (h : RfS w P sz r) (hP : ∀ q, q < N → P q) (hs : w.heap.size ≤ v.heap.size) (hb : ∀ q, q < w.heap.size → N ≤ q → v.heap[q]? = w.heap[q]?) : RfS v (fun q => q < N) sz r := by
  refine ⟨h.a.low hP hs hb, fun a ha => ?_⟩
  obtain ⟨cs, T, e⟩ := h.s a ha
  have := h.a.pl a ha
  exact ⟨cs, T, (hb _ this.2.1 (Nat.le_of_not_lt fun g => this.2.2 (hP _ g))).trans e⟩
structure SoftS (w : World) (x : Sm) : Prop where
  K : Soft w x.K
  U : Soft w x.U
theorem SoftS.keep {w w' : World} {P : Nat → Prop} {x : Sm} (h : SoftS w x) (hK : RfAt w P 8 x.K) (hU : RfAt w P 1 x.U) (hb : ∀ q, q < w.heap.size → ¬ P q → w'.heap[q]? = w.heap[q]?) : SoftS w' x :=
  ⟨fun a ha => by obtain ⟨cs, T, e⟩ := h.K a ha; have := hK.pl a ha; exact ⟨cs, T, (hb _ this.2.1 this.2.2).trans e⟩, fun a ha => by obtain ⟨cs, T, e⟩ := h.U a ha; have := hU.pl a ha; exact ⟨cs, T, (hb _ this.2.1 this.2.2).trans e⟩⟩
set_option maxHeartbeats 1000000 in
theorem cloneH2 (P : Nat → Prop) (r : Rf) (w : World) (h : RfAt w P 8 r) :
    Calls Try.prog 50 #[.slice r.A r.n r.c] w fun e w' => ∃ r' : Rf, e = .returned (.slice r'.A r'.n r'.c) ∧ r'.n = r.n ∧ r'.ys = r.ys ∧ RfAt w' (fun q => q < w.heap.size) 8 r' ∧ Soft w' r' ∧ Below w.heap.size w w' := by
  obtain ⟨A, n, c, ys⟩ := r
  cases A with
  | none =>
    obtain ⟨h1, h2⟩ := h.nil rfl
    have h3 := h.src.1
    have h1 : n = 0 := h1
    have h2 : c = 0 := h2
    subst h1 h2
    have h3 : ys = [] := List.eq_nil_of_length_eq_zero (by simpa using h3)
    subst h3
    have hnil : ∀ w : World, (binOp BinOp.eql 36 (.slice none 0 0) (.slice none 0 0)).run Try.prog w = .ok (.bool true) w := fun _ => by kernel_rfl
    show Calls Try.prog 50 #[.slice none 0 0] w _
    clear h
    go_enter Try.func50, Try.ntmps50
    go_wp2
    go_ret
    exact ⟨rf0, rfl, rfl, rfl, rf0_at _ _ _, fun a h => (by cases h), Below.refl _ _⟩
  | some ad =>
    obtain ⟨z, by', g1, g2, g3⟩ := ziH
    have hnil : ∀ w : World, (binOp BinOp.eql 36 (.slice (some ad) n c) (.slice none 0 0)).run Try.prog w = .ok (.bool false) w := fun _ => rfl
    have HS : Hid (SrcG (w.alloc (Obj.cells #[] 31)) 8 (some ad) n ys) := Lib.hid (h.src.keep (below_alloc0 w _))
    have H100 : Hid (n ≤ 100) := Lib.hid h.big
    have H1 : Hid (∀ u ∈ ys, u.oneCell' = true) := Lib.hid h.src.2.1
    have G1 := Lib.hid g1
    have G2 := Lib.hid g2
    have G3 := Lib.hid g3
    show Calls Try.prog 50 #[.slice (some ad) n c] w _
    clear h g1 g2 g3
    go_enter Try.func50, Try.ntmps50
    go_wp2_with (at_builtin; refine wpList_appG Try.underlying36 G1.out G2.out (by decide) G3.out rfl (.tmp 5) (.tmp 6) rfl w.heap.size 0 n c (.slice (some ⟨w.heap.size, 0, none⟩) 0 0) [] ys (some ad) rfl rfl (own_noneG w 31 8) HS.out (by omega) (by have := H100.out; omega) (by simp) ?_; intro A2 c2 w2 hown2 hb2; rw [Nat.zero_add, List.nil_append] at hown2; have O2 := Lib.hid hown2; have B2 := Lib.hid hb2; clear hown2 hb2)
    go_ret
    exact ⟨⟨A2, n, c2, ys⟩, by first | rfl | (simp; done), rfl, rfl, rf_own O2.out H1.out H100.out _ fun q hq => hq, own_soft O2.out, (below_alloc0 w _).trans B2.out⟩
set_option maxHeartbeats 1000000 in
theorem cloneO2 (P : Nat → Prop) (r : Rf) (w : World) (h : RfAt w P 9 r) :
    Calls Try.prog 51 #[.slice r.A r.n r.c] w fun e w' => ∃ r' : Rf, e = .returned (.slice r'.A r'.n r'.c) ∧ r'.n = r.n ∧ r'.ys = r.ys ∧ RfAt w' (fun q => q < w.heap.size) 9 r' ∧ Soft w' r' ∧ Below w.heap.size w w' := by
  obtain ⟨A, n, c, ys⟩ := r
  cases A with
  | none =>
    obtain ⟨h1, h2⟩ := h.nil rfl
    have h3 := h.src.1
    have h1 : n = 0 := h1
    have h2 : c = 0 := h2
    subst h1 h2
    have h3 : ys = [] := List.eq_nil_of_length_eq_zero (by simpa using h3)
    subst h3
    have hnil : ∀ w : World, (binOp BinOp.eql 47 (.slice none 0 0) (.slice none 0 0)).run Try.prog w = .ok (.bool true) w := fun _ => by kernel_rfl
    show Calls Try.prog 51 #[.slice none 0 0] w _
    clear h
    go_enter Try.func51, Try.ntmps51
    go_wp2
    go_ret
    exact ⟨rf0, rfl, rfl, rfl, rf0_at _ _ _, fun a h => (by cases h), Below.refl _ _⟩
  | some ad =>
    obtain ⟨z, by', g1, g2, g3⟩ := ziO
    have hnil : ∀ w : World, (binOp BinOp.eql 47 (.slice (some ad) n c) (.slice none 0 0)).run Try.prog w = .ok (.bool false) w := fun _ => rfl
    have HS : Hid (SrcG (w.alloc (Obj.cells #[] 93)) 9 (some ad) n ys) := Lib.hid (h.src.keep (below_alloc0 w _))
    have H100 : Hid (n ≤ 100) := Lib.hid h.big
    have H1 : Hid (∀ u ∈ ys, u.oneCell' = true) := Lib.hid h.src.2.1
    have G1 := Lib.hid g1
    have G2 := Lib.hid g2
    have G3 := Lib.hid g3
    show Calls Try.prog 51 #[.slice (some ad) n c] w _
    clear h g1 g2 g3
    go_enter Try.func51, Try.ntmps51
    go_wp2_with (at_builtin; refine wpList_appG Try.underlying47 G1.out G2.out (by decide) G3.out rfl (.tmp 5) (.tmp 6) rfl w.heap.size 0 n c (.slice (some ⟨w.heap.size, 0, none⟩) 0 0) [] ys (some ad) rfl rfl (own_noneG w 93 9) HS.out (by omega) (by have := H100.out; omega) (by simp) ?_; intro A2 c2 w2 hown2 hb2; rw [Nat.zero_add, List.nil_append] at hown2; have O2 := Lib.hid hown2; have B2 := Lib.hid hb2; clear hown2 hb2)
    go_ret
    exact ⟨⟨A2, n, c2, ys⟩, by first | rfl | (simp; done), rfl, rfl, rf_own O2.out H1.out H100.out _ fun q hq => hq, own_soft O2.out, (below_alloc0 w _).trans B2.out⟩
set_option maxHeartbeats 1000000 in
theorem cloneG2 (P : Nat → Prop) (r : Rf) (w : World) (h : RfAt w P 282 r) :
    Calls Try.prog 52 #[.slice r.A r.n r.c] w fun e w' => ∃ r' : Rf, e = .returned (.slice r'.A r'.n r'.c) ∧ r'.n = r.n ∧ r'.ys = r.ys ∧ RfAt w' (fun q => q < w.heap.size) 282 r' ∧ Soft w' r' ∧ Below w.heap.size w w' := by
  obtain ⟨A, n, c, ys⟩ := r
  cases A with
  | none =>
    obtain ⟨h1, h2⟩ := h.nil rfl
    have h3 := h.src.1
    have h1 : n = 0 := h1
    have h2 : c = 0 := h2
    subst h1 h2
    have h3 : ys = [] := List.eq_nil_of_length_eq_zero (by simpa using h3)
    subst h3
    have hnil : ∀ w : World, (binOp BinOp.eql 48 (.slice none 0 0) (.slice none 0 0)).run Try.prog w = .ok (.bool true) w := fun _ => by kernel_rfl
    show Calls Try.prog 52 #[.slice none 0 0] w _
    clear h
    go_enter Try.func52, Try.ntmps52
    go_wp2
    go_ret
    exact ⟨rf0, rfl, rfl, rfl, rf0_at _ _ _, fun a h => (by cases h), Below.refl _ _⟩
  | some ad =>
    obtain ⟨z, by', g1, g2, g3⟩ := ziG
    have hnil : ∀ w : World, (binOp BinOp.eql 48 (.slice (some ad) n c) (.slice none 0 0)).run Try.prog w = .ok (.bool false) w := fun _ => rfl
    have HS : Hid (SrcG (w.alloc (Obj.cells #[] 100)) 282 (some ad) n ys) := Lib.hid (h.src.keep (below_alloc0 w _))
    have H100 : Hid (n ≤ 100) := Lib.hid h.big
    have H1 : Hid (∀ u ∈ ys, u.oneCell' = true) := Lib.hid h.src.2.1
    have G1 := Lib.hid g1
    have G2 := Lib.hid g2
    have G3 := Lib.hid g3
    show Calls Try.prog 52 #[.slice (some ad) n c] w _
    clear h g1 g2 g3
    go_enter Try.func52, Try.ntmps52
    go_wp2_with (at_builtin; refine wpList_appG Try.underlying48 G1.out G2.out (by decide) G3.out rfl (.tmp 5) (.tmp 6) rfl w.heap.size 0 n c (.slice (some ⟨w.heap.size, 0, none⟩) 0 0) [] ys (some ad) rfl rfl (own_noneG w 100 282) HS.out (by omega) (by have := H100.out; omega) (by simp) ?_; intro A2 c2 w2 hown2 hb2; rw [Nat.zero_add, List.nil_append] at hown2; have O2 := Lib.hid hown2; have B2 := Lib.hid hb2; clear hown2 hb2)
    go_ret
    exact ⟨⟨A2, n, c2, ys⟩, by first | rfl | (simp; done), rfl, rfl, rf_own O2.out H1.out H100.out _ fun q hq => hq, own_soft O2.out, (below_alloc0 w _).trans B2.out⟩
set_option maxHeartbeats 1000000 in
theorem cloneI2 (P : Nat → Prop) (r : Rf) (w : World) (h : RfAt w P 1 r) :
    Calls Try.prog 53 #[.slice r.A r.n r.c] w fun e w' => ∃ r' : Rf, e = .returned (.slice r'.A r'.n r'.c) ∧ r'.n = r.n ∧ r'.ys = r.ys ∧ RfAt w' (fun q => q < w.heap.size) 1 r' ∧ Soft w' r' ∧ Below w.heap.size w w' := by
  obtain ⟨A, n, c, ys⟩ := r
  cases A with
  | none =>
    obtain ⟨h1, h2⟩ := h.nil rfl
    have h3 := h.src.1
    have h1 : n = 0 := h1
    have h2 : c = 0 := h2
    subst h1 h2
    have h3 : ys = [] := List.eq_nil_of_length_eq_zero (by simpa using h3)
    subst h3
    have hnil : ∀ w : World, (binOp BinOp.eql 51 (.slice none 0 0) (.slice none 0 0)).run Try.prog w = .ok (.bool true) w := fun _ => by kernel_rfl
    show Calls Try.prog 53 #[.slice none 0 0] w _
    clear h
    go_enter Try.func53, Try.ntmps53
    go_wp2
    go_ret
    exact ⟨rf0, rfl, rfl, rfl, rf0_at _ _ _, fun a h => (by cases h), Below.refl _ _⟩
  | some ad =>
    obtain ⟨z, by', g1, g2, g3⟩ := ziI
    have hnil : ∀ w : World, (binOp BinOp.eql 51 (.slice (some ad) n c) (.slice none 0 0)).run Try.prog w = .ok (.bool false) w := fun _ => rfl
    have HS : Hid (SrcG (w.alloc (Obj.cells #[] 3)) 1 (some ad) n ys) := Lib.hid (h.src.keep (below_alloc0 w _))
    have H100 : Hid (n ≤ 100) := Lib.hid h.big
    have H1 : Hid (∀ u ∈ ys, u.oneCell' = true) := Lib.hid h.src.2.1
    have G1 := Lib.hid g1
    have G2 := Lib.hid g2
    have G3 := Lib.hid g3
    show Calls Try.prog 53 #[.slice (some ad) n c] w _
    clear h g1 g2 g3
    go_enter Try.func53, Try.ntmps53
    go_wp2_with (at_builtin; refine wpList_appG Try.underlying51 G1.out G2.out (by decide) G3.out rfl (.tmp 5) (.tmp 6) rfl w.heap.size 0 n c (.slice (some ⟨w.heap.size, 0, none⟩) 0 0) [] ys (some ad) rfl rfl (own_noneG w 3 1) HS.out (by omega) (by have := H100.out; omega) (by simp) ?_; intro A2 c2 w2 hown2 hb2; rw [Nat.zero_add, List.nil_append] at hown2; have O2 := Lib.hid hown2; have B2 := Lib.hid hb2; clear hown2 hb2)
    go_ret
    exact ⟨⟨A2, n, c2, ys⟩, by first | rfl | (simp; done), rfl, rfl, rf_own O2.out H1.out H100.out _ fun q hq => hq, own_soft O2.out, (below_alloc0 w _).trans B2.out⟩
set_option maxHeartbeats 4000000 in
theorem kOwn2 (P : Nat → Prop) (x : Sm) (w : World) (h : SdAt w P x) :
    Calls Try.prog 38 #[.agg (sdV x).toArray] w fun e w' => ∃ x' : Sm, e = .returned (.agg (sdV x').toArray) ∧ x'.con = x.con ∧ SdAt w' (fun q => q < w.heap.size) x' ∧ SoftS w' x' ∧ Below w.heap.size w w' := by
  obtain ⟨S, hS⟩ : ∃ S, w.heap.size = S := ⟨_, rfl⟩
  have HS := Lib.hid hS
  have HA : Hid (∀ v, Below S w v → SdAt v (fun q => S ≤ q) x) := Lib.hid fun v hb => h.old hS hb
  clear h
  obtain ⟨sc, K, O, G, U⟩ := x
  obtain ⟨v, hv⟩ : ∃ v, ((w.alloc (Obj.cells (sdV ⟨sc, K, O, G, U⟩).toArray 53)).alloc (Obj.cells (sdV sm0).toArray 53)) = v := ⟨_, rfl⟩
  have RA : Hid (BL v S (sdV ⟨sc, K, O, G, U⟩) 53) := Lib.hid (by
    subst hv hS
    exact bl_keep (heap_alloc_last w _) (Below.heap_alloc _ _ _ (by simp)))
  have RB : Hid (BL v (S + 1) (sdV sm0) 53) := Lib.hid (by
    subst hv hS
    have := heap_alloc_last (w.alloc (Obj.cells (sdV ⟨sc, K, O, G, U⟩).toArray 53)) (Obj.cells (sdV sm0).toArray 53)
    rw [World.size_alloc] at this
    exact this)
  have BV : Hid (Below S w v) := Lib.hid (by subst hv hS; exact ((Below.refl _ w).alloc (Nat.le_refl _) _).alloc (by simp) _)
  have VS : Hid (v.heap.size = S + 2) := Lib.hid (by subst hv hS; show _ = _; rw [World.size_alloc, World.size_alloc])
  have SB : Hid (S + 1 < v.heap.size) := Lib.hid (by have := VS.out; omega)
  have c3 := sd_at RA.out (i := 3) rfl
  have hz := z53
  have NE : S ≠ S + 1 := by omega
  go_enter Try.func38, Try.ntmps38
  go_upto_region 1 with (fail)
  rw [hv] at *
  clear hv
  go_wp2_with fail
  refine (cloneH2 (fun q => S ≤ q) K v (HA.out _ BV.out).K).mono ?_
  rintro e w1 ⟨K', rfl, hn1, hy1, hr1a, hr1b, hb1⟩
  have F1 : Hid (K'.n = K.n ∧ K'.ys = K.ys) := Lib.hid ⟨hn1, hy1⟩
  have hr1 := RfS.mk hr1a hr1b
  have Q1 : Hid (Below v.heap.size v w1) := Lib.hid hb1
  have SA1 : Hid (S + 1 < w1.heap.size) := Lib.hid (Nat.lt_of_lt_of_le SB.out hb1.size)
  have Ra1 : Hid (BL w1 S (sdV ⟨sc, K, O, G, U⟩) 53) := Lib.hid (bl_keep RA.out (hb1.block S (by have := SB.out; omega)))
  have Rb1 : Hid (BL w1 (S + 1) (sdV sm0) 53) := Lib.hid (bl_keep RB.out (hb1.block (S + 1) SB.out))
  have Bw1 : Hid (Below S w w1) := Lib.hid (BV.out.trans (hb1.mono (by have := SB.out; omega)))
  have TK : Hid (RfS w1 (fun q => q < S + 2) 8 K') := Lib.hid (hr1.low (fun q hq => by have := SB.out; omega) (Nat.le_refl _) fun _ _ _ => rfl)
  have fr1 : w1.frozen? ⟨S, 3, none⟩ = false := bl_free Ra1.out 3
  have d1 := sd_at Ra1.out (i := 39) rfl
  have ex1 := sd_at Ra1.out (i := 3) rfl
  have R1A : Hid (BL (w1.setCell ⟨S, 3, none⟩ (.slice K'.A K'.n K'.c)) S (sdV ⟨sc, K', O, G, U⟩) 53) := Lib.hid (bl_set Ra1.out 3 (.slice K'.A K'.n K'.c))
  have R1B : Hid (BL (w1.setCell ⟨S, 3, none⟩ (.slice K'.A K'.n K'.c)) (S + 1) (sdV sm0) 53) := Lib.hid (bl_keep Rb1.out (heap_set1 _ _ _ (by omega)))
  have B1 : Hid (Below S w (w1.setCell ⟨S, 3, none⟩ (.slice K'.A K'.n K'.c))) := Lib.hid (Bw1.out.setCell (Nat.le_refl _) _)
  have SZ1 : Hid (S + 1 < (w1.setCell ⟨S, 3, none⟩ (.slice K'.A K'.n K'.c)).heap.size) := Lib.hid (by have := SA1.out; simpa using this)
  have HK : Hid (RfS (w1.setCell ⟨S, 3, none⟩ (.slice K'.A K'.n K'.c)) (fun q => q < S + 2) 8 K') := Lib.hid (TK.out.low (fun _ h => h) (by simp) fun q _ hq => heap_set1 _ _ _ (by omega))
  clear TK
  clear hn1 hy1 hr1a hr1b hr1 hb1 c3  Ra1 Rb1 Bw1 SA1 Q1
  go_wp2_with fail
  clear fr1 ex1 d1
  generalize w1.setCell ⟨S, 3, none⟩ (.slice K'.A K'.n K'.c) = v1 at *
  have c1 := sd_at R1A.out (i := 39) rfl
  refine (cloneO2 (fun q => S ≤ q) O v1 (HA.out _ B1.out).O).mono ?_
  rintro e w2 ⟨O', rfl, hn2, hy2, hr2a, hr2b, hb2⟩
  have F2 : Hid (O'.n = O.n ∧ O'.ys = O.ys) := Lib.hid ⟨hn2, hy2⟩
  have hr2 := RfS.mk hr2a hr2b
  have Q2 : Hid (Below v1.heap.size v1 w2) := Lib.hid hb2
  have SA2 : Hid (S + 1 < w2.heap.size) := Lib.hid (Nat.lt_of_lt_of_le SZ1.out hb2.size)
  have Ra2 : Hid (BL w2 S (sdV ⟨sc, K', O, G, U⟩) 53) := Lib.hid (bl_keep R1A.out (hb2.block S (by have := SZ1.out; omega)))
  have Rb2 : Hid (BL w2 (S + 1) (sdV sm0) 53) := Lib.hid (bl_keep R1B.out (hb2.block (S + 1) SZ1.out))
  have Bw2 : Hid (Below S w w2) := Lib.hid (B1.out.trans (hb2.mono (by have := SZ1.out; omega)))
  have TK : Hid (RfS w2 (fun q => q < S + 2) 8 K') := Lib.hid (HK.out.low (fun _ h => h) hb2.size fun q hq _ => hb2.block q hq)
  clear HK
  have TO : Hid (RfS w2 (fun q => q < S + 2) 9 O') := Lib.hid (hr2.low (fun q hq => by have := SZ1.out; omega) (Nat.le_refl _) fun _ _ _ => rfl)
  have fr2 : w2.frozen? ⟨S, 39, none⟩ = false := bl_free Ra2.out 39
  have d2 := sd_at Ra2.out (i := 40) rfl
  have ex2 := sd_at Ra2.out (i := 39) rfl
  have R2A : Hid (BL (w2.setCell ⟨S, 39, none⟩ (.slice O'.A O'.n O'.c)) S (sdV ⟨sc, K', O', G, U⟩) 53) := Lib.hid (bl_set Ra2.out 39 (.slice O'.A O'.n O'.c))
  have R2B : Hid (BL (w2.setCell ⟨S, 39, none⟩ (.slice O'.A O'.n O'.c)) (S + 1) (sdV sm0) 53) := Lib.hid (bl_keep Rb2.out (heap_set1 _ _ _ (by omega)))
  have B2 : Hid (Below S w (w2.setCell ⟨S, 39, none⟩ (.slice O'.A O'.n O'.c))) := Lib.hid (Bw2.out.setCell (Nat.le_refl _) _)
  have SZ2 : Hid (S + 1 < (w2.setCell ⟨S, 39, none⟩ (.slice O'.A O'.n O'.c)).heap.size) := Lib.hid (by have := SA2.out; simpa using this)
  have HK : Hid (RfS (w2.setCell ⟨S, 39, none⟩ (.slice O'.A O'.n O'.c)) (fun q => q < S + 2) 8 K') := Lib.hid (TK.out.low (fun _ h => h) (by simp) fun q _ hq => heap_set1 _ _ _ (by omega))
  clear TK
  have HO : Hid (RfS (w2.setCell ⟨S, 39, none⟩ (.slice O'.A O'.n O'.c)) (fun q => q < S + 2) 9 O') := Lib.hid (TO.out.low (fun _ h => h) (by simp) fun q _ hq => heap_set1 _ _ _ (by omega))
  clear TO
  clear hn2 hy2 hr2a hr2b hr2 hb2 c1  Ra2 Rb2 Bw2 SA2 Q2
  go_wp2_with fail
  clear fr2 ex2 d2
  generalize w2.setCell ⟨S, 39, none⟩ (.slice O'.A O'.n O'.c) = v2 at *
  have c2 := sd_at R2A.out (i := 40) rfl
  refine (cloneG2 (fun q => S ≤ q) G v2 (HA.out _ B2.out).G).mono ?_
  rintro e w3 ⟨G', rfl, hn3, hy3, hr3a, hr3b, hb3⟩
  have F3 : Hid (G'.n = G.n ∧ G'.ys = G.ys) := Lib.hid ⟨hn3, hy3⟩
  have hr3 := RfS.mk hr3a hr3b
  have Q3 : Hid (Below v2.heap.size v2 w3) := Lib.hid hb3
  have SA3 : Hid (S + 1 < w3.heap.size) := Lib.hid (Nat.lt_of_lt_of_le SZ2.out hb3.size)
  have Ra3 : Hid (BL w3 S (sdV ⟨sc, K', O', G, U⟩) 53) := Lib.hid (bl_keep R2A.out (hb3.block S (by have := SZ2.out; omega)))
  have Rb3 : Hid (BL w3 (S + 1) (sdV sm0) 53) := Lib.hid (bl_keep R2B.out (hb3.block (S + 1) SZ2.out))
  have Bw3 : Hid (Below S w w3) := Lib.hid (B2.out.trans (hb3.mono (by have := SZ2.out; omega)))
  have TK : Hid (RfS w3 (fun q => q < S + 2) 8 K') := Lib.hid (HK.out.low (fun _ h => h) hb3.size fun q hq _ => hb3.block q hq)
  clear HK
  have TO : Hid (RfS w3 (fun q => q < S + 2) 9 O') := Lib.hid (HO.out.low (fun _ h => h) hb3.size fun q hq _ => hb3.block q hq)
  clear HO
  have TG : Hid (RfS w3 (fun q => q < S + 2) 282 G') := Lib.hid (hr3.low (fun q hq => by have := SZ2.out; omega) (Nat.le_refl _) fun _ _ _ => rfl)
  have fr3 : w3.frozen? ⟨S, 40, none⟩ = false := bl_free Ra3.out 40
  have d3 := sd_at Ra3.out (i := 41) rfl
  have ex3 := sd_at Ra3.out (i := 40) rfl
  have R3A : Hid (BL (w3.setCell ⟨S, 40, none⟩ (.slice G'.A G'.n G'.c)) S (sdV ⟨sc, K', O', G', U⟩) 53) := Lib.hid (bl_set Ra3.out 40 (.slice G'.A G'.n G'.c))
  have R3B : Hid (BL (w3.setCell ⟨S, 40, none⟩ (.slice G'.A G'.n G'.c)) (S + 1) (sdV sm0) 53) := Lib.hid (bl_keep Rb3.out (heap_set1 _ _ _ (by omega)))
  have B3 : Hid (Below S w (w3.setCell ⟨S, 40, none⟩ (.slice G'.A G'.n G'.c))) := Lib.hid (Bw3.out.setCell (Nat.le_refl _) _)
  have SZ3 : Hid (S + 1 < (w3.setCell ⟨S, 40, none⟩ (.slice G'.A G'.n G'.c)).heap.size) := Lib.hid (by have := SA3.out; simpa using this)
  have HK : Hid (RfS (w3.setCell ⟨S, 40, none⟩ (.slice G'.A G'.n G'.c)) (fun q => q < S + 2) 8 K') := Lib.hid (TK.out.low (fun _ h => h) (by simp) fun q _ hq => heap_set1 _ _ _ (by omega))
  clear TK
  have HO : Hid (RfS (w3.setCell ⟨S, 40, none⟩ (.slice G'.A G'.n G'.c)) (fun q => q < S + 2) 9 O') := Lib.hid (TO.out.low (fun _ h => h) (by simp) fun q _ hq => heap_set1 _ _ _ (by omega))
  clear TO
  have HG : Hid (RfS (w3.setCell ⟨S, 40, none⟩ (.slice G'.A G'.n G'.c)) (fun q => q < S + 2) 282 G') := Lib.hid (TG.out.low (fun _ h => h) (by simp) fun q _ hq => heap_set1 _ _ _ (by omega))
  clear TG
  clear hn3 hy3 hr3a hr3b hr3 hb3 c2  Ra3 Rb3 Bw3 SA3 Q3
  go_wp2_with fail
  clear fr3 ex3 d3
  generalize w3.setCell ⟨S, 40, none⟩ (.slice G'.A G'.n G'.c) = v3 at *
  have c3 := sd_at R3A.out (i := 41) rfl
  refine (cloneI2 (fun q => S ≤ q) U v3 (HA.out _ B3.out).U).mono ?_
  rintro e w4 ⟨U', rfl, hn4, hy4, hr4a, hr4b, hb4⟩
  have F4 : Hid (U'.n = U.n ∧ U'.ys = U.ys) := Lib.hid ⟨hn4, hy4⟩
  have hr4 := RfS.mk hr4a hr4b
  have Q4 : Hid (Below v3.heap.size v3 w4) := Lib.hid hb4
  have SA4 : Hid (S + 1 < w4.heap.size) := Lib.hid (Nat.lt_of_lt_of_le SZ3.out hb4.size)
  have Ra4 : Hid (BL w4 S (sdV ⟨sc, K', O', G', U⟩) 53) := Lib.hid (bl_keep R3A.out (hb4.block S (by have := SZ3.out; omega)))
  have Rb4 : Hid (BL w4 (S + 1) (sdV sm0) 53) := Lib.hid (bl_keep R3B.out (hb4.block (S + 1) SZ3.out))
  have Bw4 : Hid (Below S w w4) := Lib.hid (B3.out.trans (hb4.mono (by have := SZ3.out; omega)))
  have TK : Hid (RfS w4 (fun q => q < S + 2) 8 K') := Lib.hid (HK.out.low (fun _ h => h) hb4.size fun q hq _ => hb4.block q hq)
  clear HK
  have TO : Hid (RfS w4 (fun q => q < S + 2) 9 O') := Lib.hid (HO.out.low (fun _ h => h) hb4.size fun q hq _ => hb4.block q hq)
  clear HO
  have TG : Hid (RfS w4 (fun q => q < S + 2) 282 G') := Lib.hid (HG.out.low (fun _ h => h) hb4.size fun q hq _ => hb4.block q hq)
  clear HG
  have TU : Hid (RfS w4 (fun q => q < S + 2) 1 U') := Lib.hid (hr4.low (fun q hq => by have := SZ3.out; omega) (Nat.le_refl _) fun _ _ _ => rfl)
  have fr4 : w4.frozen? ⟨S, 41, none⟩ = false := bl_free Ra4.out 41
  have ex4 := sd_at Ra4.out (i := 41) rfl
  have R4A : Hid (BL (w4.setCell ⟨S, 41, none⟩ (.slice U'.A U'.n U'.c)) S (sdV ⟨sc, K', O', G', U'⟩) 53) := Lib.hid (bl_set Ra4.out 41 (.slice U'.A U'.n U'.c))
  have R4B : Hid (BL (w4.setCell ⟨S, 41, none⟩ (.slice U'.A U'.n U'.c)) (S + 1) (sdV sm0) 53) := Lib.hid (bl_keep Rb4.out (heap_set1 _ _ _ (by omega)))
  have B4 : Hid (Below S w (w4.setCell ⟨S, 41, none⟩ (.slice U'.A U'.n U'.c))) := Lib.hid (Bw4.out.setCell (Nat.le_refl _) _)
  have SZ4 : Hid (S + 1 < (w4.setCell ⟨S, 41, none⟩ (.slice U'.A U'.n U'.c)).heap.size) := Lib.hid (by have := SA4.out; simpa using this)
  have HK : Hid (RfS (w4.setCell ⟨S, 41, none⟩ (.slice U'.A U'.n U'.c)) (fun q => q < S + 2) 8 K') := Lib.hid (TK.out.low (fun _ h => h) (by simp) fun q _ hq => heap_set1 _ _ _ (by omega))
  clear TK
  have HO : Hid (RfS (w4.setCell ⟨S, 41, none⟩ (.slice U'.A U'.n U'.c)) (fun q => q < S + 2) 9 O') := Lib.hid (TO.out.low (fun _ h => h) (by simp) fun q _ hq => heap_set1 _ _ _ (by omega))
  clear TO
  have HG : Hid (RfS (w4.setCell ⟨S, 41, none⟩ (.slice U'.A U'.n U'.c)) (fun q => q < S + 2) 282 G') := Lib.hid (TG.out.low (fun _ h => h) (by simp) fun q _ hq => heap_set1 _ _ _ (by omega))
  clear TG
  have HU : Hid (RfS (w4.setCell ⟨S, 41, none⟩ (.slice U'.A U'.n U'.c)) (fun q => q < S + 2) 1 U') := Lib.hid (TU.out.low (fun _ h => h) (by simp) fun q _ hq => heap_set1 _ _ _ (by omega))
  clear TU
  clear hn4 hy4 hr4a hr4b hr4 hb4 c3  Ra4 Rb4 Bw4 SA4 Q4
  generalize hv4 : w4.setCell ⟨S, 41, none⟩ (.slice U'.A U'.n U'.c) = v4 at *
  go_wp2_with (first
    | (refine wpList_load_midG (by rfl) 53 (.tmp 1) rfl S 0 rfl (sdV ⟨sc, K', O', G', U'⟩) _ (range_of R4A.out) Try.underlying53 rfl (szL sz53 rfl) ?_)
    | (refine wpList_store_rowTo rfl 53 (.tmp 2) (.tmp 25) rfl rfl (S + 1) (sdV ⟨sc, K', O', G', U'⟩).toArray rfl rfl 53 _ R4B.out (szA sz53 rfl) (show (sdV sm0).toArray.size = _ from rfl) (all_oneCell_toArray (sd_one _)) ?_)
    | fail)
  refine bodyPost_ret (v := .agg (sdV ⟨sc, K', O', G', U'⟩).toArray) (results_cell_row rfl _ _ (S + 1) 53 (sdV ⟨sc, K', O', G', U'⟩).toArray (0, 0) _ rfl (setRow_heap _ _ _ _ _ _ R4B.out) Try.underlying53 rfl (szA sz53 rfl)) rfl ?_
  rw [HS.out]
  have hp : ∀ q, q < S → q < S + 2 := fun q h => by omega
  have low : ∀ {sz : Nat} {r : Rf}, RfS v4 (fun q => q < S + 2) sz r → RfS (v4.setRow (S + 1) (sdV ⟨sc, K', O', G', U'⟩).toArray) (fun q => q < S) sz r := fun h => h.keep (by simp) (fun q _ hq => setRow_other _ _ _ _ (by omega)) fun q _ h => hp q h
  refine ⟨⟨sc, K', O', G', U'⟩, rfl, ?_, ⟨(low HK.out).1, (low HO.out).1, (low HG.out).1, (low HU.out).1⟩, ⟨(low HK.out).2, (low HU.out).2⟩, below_setRow B4.out (by omega) _⟩
  unfold Sm.con
  simp only [F1.out.1, F1.out.2, F2.out.1, F2.out.2, F3.out.1, F3.out.2, F4.out.1, F4.out.2]
attribute [local irreducible] sdV MapV z0 fnS atS
set_option maxHeartbeats 4000000 in
theorem rSide2 (S : Nat) (m : Option Nat) (xs : List Sm) (i : Int) (w : World) (h : RegM w S m xs) (hi : wfI i) :
    Calls Try.prog 16 #[.pointer (some ⟨S, 0, none⟩), .int .i64 i] w fun e w' => ∃ x', e = .returned (.tuple #[.agg (sdV x').toArray, .bool (decide (0 ≤ i ∧ i < xs.length))]) ∧ x'.con = (atS xs i).con ∧ SdAt w' (fun q => q < w.heap.size) x' ∧ SoftS w' x' ∧ Below w.heap.size w w' := by
  obtain ⟨N, hN⟩ : ∃ N, w.heap.size = N := ⟨_, rfl⟩
  have HN := Lib.hid hN
  obtain ⟨v, hv⟩ : ∃ v, w.alloc (Obj.cells (sdV sm0).toArray 53) = v := ⟨_, rfl⟩
  have RC : Hid (BL v N (sdV sm0) 53) := Lib.hid (by subst hv hN; exact heap_alloc_last w _)
  have BV : Hid (Below N w v) := Lib.hid (by subst hv hN; exact (Below.refl _ w).alloc (Nat.le_refl _) _)
  have VS : Hid (v.heap.size = N + 1) := Lib.hid (by subst hv hN; show _ = _; rw [World.size_alloc])
  have hg := h.grow (show Below w.heap.size w v by rw [hN]; exact BV.out)
  have lk := hg.look hi
  have c0 := hg.c0
  have HA : Hid (SdAt v (isP S m) (atS xs i)) := Lib.hid (hg.at i)
  generalize decide (0 ≤ i ∧ i < xs.length) = D at *
  obtain ⟨x, hx⟩ : ∃ x, atS xs i = x := ⟨_, rfl⟩
  rw [hx] at lk HA ⊢
  have hz : ∀ w, (zeroValue 53).run Try.prog w = .ok (.agg (sdV sm0).toArray) w := z53
  clear h hg hi hx
  go_enter Try.func16, Try.ntmps16
  go_upto_region 3 with (fail)
  (try rw [hv])
  clear hv
  have sx : Hid ((sdV x).length = 42) := Lib.hid (sd_len x)
  have s0 : Hid ((sdV sm0).length = 42) := Lib.hid (sd_len sm0)
  go_upto_region 4 with (first
    | (refine wpList_store_rowTo rfl 53 (.tmp 6) (.tmp 18) rfl rfl v.heap.size (sdV x).toArray rfl rfl 53 _ (heap_alloc_last v _) (szA sz53 sx.out) (by rw [List.size_toArray, List.size_toArray, sx.out, s0.out]) (all_oneCell_toArray (sd_one x)) ?_)
    | fail)
  obtain ⟨M, hM⟩ : ∃ M, v.heap.size = M := ⟨_, rfl⟩
  have R1 : Hid (BL ((v.alloc (Obj.cells (sdV sm0).toArray 53)).setRow v.heap.size (sdV x).toArray) v.heap.size (sdV x) 53) := Lib.hid (setRow_heap _ _ _ _ _ _ (heap_alloc_last v _))
  have B1 : Hid (Below M v ((v.alloc (Obj.cells (sdV sm0).toArray 53)).setRow M (sdV x).toArray)) := Lib.hid (by subst hM; exact below_setRow ((Below.refl _ v).alloc (Nat.le_refl _) _) (Nat.le_refl _) _)
  rw [hM] at R1 ⊢
  generalize (v.alloc (Obj.cells (sdV sm0).toArray 53)).setRow M (sdV x).toArray = u at *
  have B1 : Hid (Below v.heap.size v u) := Lib.hid (by rw [hM]; exact B1.out)
  have HU : Hid (SdAt u (isP S m) x) := Lib.hid (HA.out.grow B1.out)
  have BU : Hid (Below N w u) := Lib.hid (BV.out.trans (B1.out.mono (by have := VS.out; omega)))
  have RU : Hid (BL u N (sdV sm0) 53) := Lib.hid (bl_keep RC.out (B1.out.block N (by have := VS.out; omega)))
  have NU : Hid (N < u.heap.size) := Lib.hid (bl_lt RU.out)
  clear lk c0 HA hM
  go_wp2_with (first
    | (refine wpList_load_midG (by rfl) 53 (.tmp 6) rfl M 0 rfl (sdV x) _ (range_of R1.out) Try.underlying53 rfl (szL sz53 sx.out) ?_)
    | fail)
  refine (kOwn2 _ x u HU.out).mono ?_
  rintro e w1 ⟨x', rfl, o1, o2, o4, o3⟩
  have O1 := Lib.hid o1
  have O2 := Lib.hid o2
  have O3 := Lib.hid o3
  have O4 := Lib.hid o4
  have RW : Hid (BL w1 N (sdV sm0) 53) := Lib.hid (bl_keep RU.out (o3.block N NU.out))
  have sx' : Hid ((sdV x').length = 42) := Lib.hid (sd_len x')
  clear o1 o2 o3 o4
  go_wp2_with (first
    | (refine wpList_store_rowTo rfl 53 (.tmp 4) (.tmp 21) rfl rfl N (sdV x').toArray rfl rfl 53 _ RW.out (szA sz53 sx'.out) (by rw [List.size_toArray, List.size_toArray, sx'.out, s0.out]) (all_oneCell_toArray (sd_one x')) ?_)
    | fail)
  refine bodyPost_ret (v := .tuple #[.agg (sdV x').toArray, .bool D]) (results_sd rfl _ _ N _ _ rfl (range_of (setRow_heap _ _ _ _ _ _ RW.out)) (szL sz53 sx'.out) rfl) rfl ⟨x', rfl, O1.out, ?_, ?_, ?_⟩
  · rw [HN.out]
    exact O2.out.keep (by simp) (fun q _ hq => setRow_other _ _ _ _ fun e => hq (by rw [e]; exact NU.out)) fun q _ hq => by have := NU.out; omega
  · exact O4.out.keep O2.out.K O2.out.U fun q hq hn => setRow_other _ _ _ _ fun e => hn (by rw [e]; exact NU.out)
  · rw [HN.out]
    exact below_setRow (BU.out.trans (O3.out.mono (Nat.le_of_lt NU.out))) (Nat.le_refl _) _
end Go.Proofs.Ytmcmdpbdipgahaa
