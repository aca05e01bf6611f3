/-
  Joined: R17, R18, R17b, R19.
-/
import Derived.Test.YtmcmdpbdipgahaaJF
import Derived.WalkSpells
/-
  Set.
-/
namespace Go.Proofs.Ytmcmdpbdipgahaa
open Go.RowKit Go.Maps
set_option maxRecDepth 100000
/-- the registry behind a put -/
theorem put_done2 {S b : Nat} {xs : List Sm} {i : Nat} {x : Sm} {w w1 w2 : World} (h : RegM w S (some b) xs) (hi : i ≤ xs.length) (hb : Below w.heap.size w w1) (hx : SdAt w1 (fun q => q < w.heap.size) x) (hm : MapV w2 b (if (fnS xs (i : Int)).isSome then xs.length else xs.length + 1) (updV (fnS xs) (i : Int) (sdV x))) (ht : w1.mapTurned w2 b) :
    RegM w2 S (some b) (putS xs i x) ∧ Fr w w2 (isP S (some b)) ∧ SdAt w2 (fun q => q < w.heap.size) x := by
  have t := turned_fr ht
  have hlt := h.lt
  have hSb : S ≠ b := map_neV h.map h.blk
  have f : Fr w w2 (isP S (some b)) := ⟨t.1.trans hb.os, t.2.1.trans hb.tape, t.2.2.1.trans hb.output, by rw [t.2.2.2.1]; exact hb.size, fun q hq hn => (t.2.2.2.2 q fun e => hn (.inr (by rw [e]))).trans (hb.block q hq)⟩
  refine ⟨⟨?_, ?_, fun y hy => ?_⟩, f, hx.keep (by rw [t.2.2.2.1]; exact Nat.le_refl _) (fun q _ hn => t.2.2.2.2 q fun e => hn (by rw [e]; exact hlt b (.inr rfl))) fun q _ hq => hq⟩
  · exact bl_keep h.blk ((t.2.2.2.2 S hSb).trans (hb.block S (hlt S (.inl rfl))))
  · show MapV w2 b (putS xs i x).length (fnS (putS xs i x))
    rw [putS_len, ← fn_put xs i x hi]
    rw [fn_some] at hm
    by_cases h2 : i < xs.length
    · rw [if_pos h2]
      rw [if_pos (by simpa using h2)] at hm
      exact hm
    · rw [if_neg h2]
      rw [if_neg (by simpa using h2)] at hm
      exact hm
  · rcases putS_mem hy with hy | rfl
    · exact (h.rows y hy).keep f.size (fun q hq hn => f.block q hq hn) fun _ _ h => h
    · exact hx.keep (by rw [t.2.2.2.1]; exact Nat.le_refl _) (fun q _ hn => t.2.2.2.2 q fun e => hn (by rw [e]; exact hlt b (.inr rfl))) fun q _ hq => hlt q hq
attribute [local irreducible] sdV MapV z0 fnS
set_option maxHeartbeats 4000000 in
theorem kPut2 (S : Nat) (m : Option Nat) (xs : List Sm) (i : Nat) (x : Sm) (w : World) (h : RegM w S m xs) (hi : i ≤ xs.length) (hn : xs.length ≤ 100) (hx : SdAt w (isP S m) x) :
    Calls Try.prog 34 #[.pointer (some ⟨S, 0, none⟩), .int .i64 i, .agg (sdV x).toArray] w fun e w' => e = .returned (.tuple #[]) ∧ ∃ m' x', x'.con = x.con ∧ RegM w' S m' (putS xs i x') ∧ (∀ b, m' = some b → m = some b ∨ w.heap.size ≤ b) ∧ Fr w w' (isP S m) ∧ SdAt w' (fun q => q < w.heap.size) x' := by
  obtain ⟨N, hN⟩ : ∃ N, w.heap.size = N := ⟨_, rfl⟩
  have HN := Lib.hid hN
  obtain ⟨v, hv⟩ : ∃ v, w.alloc (Obj.cells (sdV x).toArray 53) = v := ⟨_, rfl⟩
  have RX : Hid (BL v N (sdV x) 53) := Lib.hid (by subst hv hN; exact heap_alloc_last w _)
  have BV : Hid (Below N w v) := Lib.hid (by subst hv hN; exact (Below.refl _ w).alloc (Nat.le_refl _) _)
  have VS : Hid (v.heap.size = N + 1) := Lib.hid (by subst hv hN; show _ = _; rw [World.size_alloc])
  have HV : Hid (RegM v S m xs) := Lib.hid (h.grow (by rw [hN]; exact BV.out))
  have HX : Hid (SdAt v (isP S m) x) := Lib.hid (hx.grow (by rw [hN]; exact BV.out))
  have LX : Hid ((sdV x).length = 42) := Lib.hid (sd_len x)
  have HI := Lib.hid hi
  have HL := Lib.hid hn
  have SN : Hid (∀ q, isP S m q → q < N) := Lib.hid fun q hq => by rw [← hN]; exact h.lt q hq
  have qT : ∀ (w : World) (r : Option Nat), (binOp .eql 74 (.map r) (.map none)).run Try.prog w = .ok (.bool r.isNone) w := fun w r => run_eql_map_nil w _ _ _ r Try.underlying74
  have c0 : v.cell? ⟨S, 0, none⟩ = some (.map m) := HV.out.c0
  have WI : Hid (wfI (i : Int)) := Lib.hid (by unfold wfI; omega)
  have ML : Hid (xs.length < maxLen) := Lib.hid (by unfold maxLen; omega)
  clear h hi hn hx
  cases m with
  | none =>
    have hxs : xs = [] := HV.out.map
    obtain ⟨b, hb⟩ : ∃ b, v.heap.size = b := ⟨_, rfl⟩
    have HB := Lib.hid hb
    have mk := fun w => run_makeMap (P := Try.prog) 74 w
    have KA : Hid (∀ q, q < b → (v.alloc (.map #[] 0)).heap[q]? = v.heap[q]?) := Lib.hid fun q hq => Below.heap_alloc v _ q (by rw [HB.out]; exact hq)
    have SB : Hid (S < b) := Lib.hid (by rw [← hb]; exact HV.out.lt S (.inl rfl))
    have cA : (v.alloc (.map #[] 0)).cell? ⟨S, 0, none⟩ = some (.map none) := (World.cell?_of_block (w := v) (a := ⟨S, 0, none⟩) (KA.out S SB.out)).trans HV.out.c0
    have fA : (v.alloc (.map #[] 0)).frozen? ⟨S, 0, none⟩ = false := bl_free (bl_keep HV.out.blk (KA.out S SB.out)) 0
    have FV : Hid (Fr v ((v.alloc (.map #[] 0)).setCell ⟨S, 0, none⟩ (.map (some b))) (isP S none)) := Lib.hid
      ⟨rfl, rfl, rfl, by simp, fun q hq hn => (heap_set1 _ _ _ (show q ≠ S from fun e => hn (.inl e))).trans (KA.out q (by rw [HB.out] at hq; exact hq))⟩
    have HW : Hid (RegM ((v.alloc (.map #[] 0)).setCell ⟨S, 0, none⟩ (.map (some b))) S (some b) xs) := Lib.hid (by
      refine ⟨bl_set (bl_keep HV.out.blk (KA.out S SB.out)) 0 (.map (some b)), ?_, fun y hy => by rw [hxs] at hy; cases hy⟩
      rw [hxs]
      have h1 := MapV_made v
      rw [hb] at h1
      have e : (fun _ => none : Int → Option (List Value)) = fnS [] := by
        funext k
        unfold fnS
        rw [if_neg (by simp)]
      rw [e] at h1
      exact h1.keep (heap_set1 _ _ _ (by have := SB.out; omega)))
    have RX2 : Hid (BL ((v.alloc (.map #[] 0)).setCell ⟨S, 0, none⟩ (.map (some b))) N (sdV x) 53) := Lib.hid (bl_keep RX.out (FV.out.block N (bl_lt RX.out) fun hp => by have := SN.out N hp; omega))
    obtain ⟨u, hu⟩ : ∃ u, (v.alloc (.map #[] 0)).setCell ⟨S, 0, none⟩ (.map (some b)) = u := ⟨_, rfl⟩
    go_enter Try.func34, Try.ntmps34
    have UZ : Hid (b < u.heap.size) := Lib.hid (by rw [← hu]; simp; omega)
    rw [hu] at FV HW RX2
    have HX2 : Hid (SdAt u (isP S none) x) := Lib.hid (HX.out.keep FV.out.size (fun q hq hn => FV.out.block q hq hn) fun q _ h => h)
    go_upto_region 3 with (fail)
    (try rw [hv]); (try rw [hu])
    clear hu mk cA fA qT c0
    have C0 : ∀ w', Below u.heap.size u w' → w'.cell? ⟨S, 0, none⟩ = some (.map (some b)) := fun w' hb => (HW.out.grow hb).c0
    refine wp_region_end 7 (S := fun w' => Below u.heap.size u w') (by kernel_rfl) (by kernel_rfl) (Below.refl _ u).drew (fun hHeld => ?_)
    refine wpAnyH_take (i := 0) (v := ?_) rfl (by kernel_rfl) (by kernel_rfl) (by kernel_rfl) (fun _ _ _ h => h) (Or.inl ⟨by rfl, ?_⟩) (by assumption) ?_
    rotate_left
    · (intro w hSw; (try dsimp only at hSw); go_simp; try with_reducible rfl)
    simp only [Act.put, List.getElem_toArray, List.getElem_cons_zero, List.setIfInBounds_toArray, List.set_cons_zero, List.set_cons_succ]
    refine wpAnyH_take (i := 1) (v := ?_) rfl (by kernel_rfl) (by kernel_rfl) (by kernel_rfl) (fun _ _ _ h => h) (Or.inl ⟨by rfl, ?_⟩) (by assumption) ?_
    rotate_left
    · (intro w hSw; (try dsimp only at hSw); go_simp; try with_reducible rfl)
    simp only [Act.put, List.getElem_toArray, List.getElem_cons_succ, List.getElem_cons_zero, List.setIfInBounds_toArray, List.set_cons_zero, List.set_cons_succ]
    refine wpAnyH_take (i := 2) (v := ?_) rfl (by kernel_rfl) (by kernel_rfl) (by kernel_rfl) (fun _ _ _ h => h) (Or.inl ⟨by rfl, ?_⟩) (by assumption) ?_
    rotate_left
    · (intro w hSw; (try dsimp only at hSw); go_simp; try with_reducible rfl)
    simp only [Act.put, List.getElem_toArray, List.getElem_cons_succ, List.getElem_cons_zero, List.setIfInBounds_toArray, List.set_cons_zero, List.set_cons_succ]
    refine wpAnyH_take (i := 3) (v := ?_) rfl (by kernel_rfl) (by kernel_rfl) (by kernel_rfl) (fun _ _ _ h => h) (Or.inl ⟨by rfl, ?_⟩) (by assumption) ?_
    rotate_left
    · (intro w hSw; have z := C0 w hSw; go_simp; try with_reducible rfl)
    simp only [Act.put, List.getElem_toArray, List.getElem_cons_succ, List.getElem_cons_zero, List.setIfInBounds_toArray, List.set_cons_zero, List.set_cons_succ]
    refine wpAnyH_take (i := 4) (v := ?_) rfl (by kernel_rfl) (by kernel_rfl) (by kernel_rfl) (fun _ _ _ h => h) (Or.inl ⟨by rfl, ?_⟩) (by assumption) ?_
    rotate_left
    · (intro w hSw; (try dsimp only at hSw); go_simp; try with_reducible rfl)
    simp only [Act.put, List.getElem_toArray, List.getElem_cons_succ, List.getElem_cons_zero, List.setIfInBounds_toArray, List.set_cons_zero, List.set_cons_succ]
    refine wpAnyH_take (i := 5) rfl (by kernel_rfl) (by kernel_rfl) (by kernel_rfl) (fun _ _ _ h => h) (yieldsIf_load_mid (by rfl) 53 (.tmp 5) rfl N (0) rfl (sdV x) _ (fun w h => range_keep1 (range_of RX2.out) (h.block N (bl_lt RX2.out))) Try.underlying53 rfl (szL sz53 LX.out)) (by assumption) ?_
    simp only [Act.put, List.getElem_toArray, List.getElem_cons_succ, List.getElem_cons_zero, List.setIfInBounds_toArray, List.set_cons_zero, List.set_cons_succ]
    refine wpAnyH_ready (rs := [6]) (by kernel_rfl) (by simp) ?_
    refine AllReadyH.cons rfl (fun K hK => ?_) AllReadyH.nil
    go_simp
    go_at_call 38
    refine (kOwn _ x _ (HX2.out.grow (Below.refl _ _).drew)).mono ?_
    rintro e w1 ⟨x', rfl, o1, o2, o3⟩
    have O1 := Lib.hid o1
    have O2 := Lib.hid o2
    have O3 : Hid (Below u.heap.size u w1) := Lib.hid ((Below.refl _ u).drew.trans (o3.mono (Nat.le_refl _)))
    clear o1 o2 o3
    (try go_wp2_with fail)
    refine hK.out _ _ O3.out (fun hHeld => ?_)
    clear hK K
    clear hHeld
    refine wpAnyH_done (by kernel_rfl) ?_ _
    refine qn_last rfl (by rfl) ?_
    have hm1 : MapV w1 b xs.length (fnS xs) := (HW.out.grow O3.out).map
    refine wp_mputV (.tmp 18) (.tmp 19) (.tmp 21) rfl b xs.length (fnS xs) (i : Int) (sdV x') rfl rfl rfl hm1 ML.out WI.out (sd_plain O2.out) ?_
    intro w2 hm2 ht2
    obtain ⟨d1, d2, d3⟩ := put_done2 HW.out HI.out O3.out O2.out hm2 ht2
    have D1 := Lib.hid d1
    have D2 := Lib.hid d2
    have D3 := Lib.hid d3
    clear d1 d2 d3 hm1 hm2 ht2
    go_wp2
    refine bodyPost_end (v := .tuple #[]) (by simp [results, Try.results34, go_sem]) rfl ⟨rfl, some b, x', O1.out, D1.out, fun b' e => .inr (by cases e; have := VS.out; have := HB.out; have := HN.out; omega), (Fr.of_below (by rw [HN.out]; exact BV.out)).trans (FV.out.trans (P' := isP S (some b)) D2.out fun q hq => hq.elim (fun e => .inl (.inl e)) fun e => .inr (by cases e; rw [HB.out]; exact Nat.le_refl _)) fun q hq => .inl hq, D3.out.keep (Nat.le_refl _) (fun _ _ _ => rfl) fun q _ hq => by have := HN.out; have := VS.out; have := HB.out; have := UZ.out; omega⟩
  | some b =>
    have HB : Hid (b < v.heap.size) := Lib.hid (HV.out.lt b (.inr rfl))
    obtain ⟨u, hu⟩ : ∃ u, v = u := ⟨_, rfl⟩
    subst hu
    have HW := HV
    have RX2 := RX
    have HX2 := HX
    go_enter Try.func34, Try.ntmps34
    go_upto_region 3 with (fail)
    clear qT c0
    try rw [hv]
    have C0 : ∀ w', Below v.heap.size v w' → w'.cell? ⟨S, 0, none⟩ = some (.map (some b)) := fun w' hb => (HW.out.grow hb).c0
    refine wp_region_end 7 (S := fun w' => Below v.heap.size v w') (by kernel_rfl) (by kernel_rfl) (Below.refl _ v).drew (fun hHeld => ?_)
    refine wpAnyH_take (i := 0) (v := ?_) rfl (by kernel_rfl) (by kernel_rfl) (by kernel_rfl) (fun _ _ _ h => h) (Or.inl ⟨by rfl, ?_⟩) (by assumption) ?_
    rotate_left
    · (intro w hSw; (try dsimp only at hSw); go_simp; try with_reducible rfl)
    simp only [Act.put, List.getElem_toArray, List.getElem_cons_zero, List.setIfInBounds_toArray, List.set_cons_zero, List.set_cons_succ]
    refine wpAnyH_take (i := 1) (v := ?_) rfl (by kernel_rfl) (by kernel_rfl) (by kernel_rfl) (fun _ _ _ h => h) (Or.inl ⟨by rfl, ?_⟩) (by assumption) ?_
    rotate_left
    · (intro w hSw; (try dsimp only at hSw); go_simp; try with_reducible rfl)
    simp only [Act.put, List.getElem_toArray, List.getElem_cons_succ, List.getElem_cons_zero, List.setIfInBounds_toArray, List.set_cons_zero, List.set_cons_succ]
    refine wpAnyH_take (i := 2) (v := ?_) rfl (by kernel_rfl) (by kernel_rfl) (by kernel_rfl) (fun _ _ _ h => h) (Or.inl ⟨by rfl, ?_⟩) (by assumption) ?_
    rotate_left
    · (intro w hSw; (try dsimp only at hSw); go_simp; try with_reducible rfl)
    simp only [Act.put, List.getElem_toArray, List.getElem_cons_succ, List.getElem_cons_zero, List.setIfInBounds_toArray, List.set_cons_zero, List.set_cons_succ]
    refine wpAnyH_take (i := 3) (v := ?_) rfl (by kernel_rfl) (by kernel_rfl) (by kernel_rfl) (fun _ _ _ h => h) (Or.inl ⟨by rfl, ?_⟩) (by assumption) ?_
    rotate_left
    · (intro w hSw; have z := C0 w hSw; go_simp; try with_reducible rfl)
    simp only [Act.put, List.getElem_toArray, List.getElem_cons_succ, List.getElem_cons_zero, List.setIfInBounds_toArray, List.set_cons_zero, List.set_cons_succ]
    refine wpAnyH_take (i := 4) (v := ?_) rfl (by kernel_rfl) (by kernel_rfl) (by kernel_rfl) (fun _ _ _ h => h) (Or.inl ⟨by rfl, ?_⟩) (by assumption) ?_
    rotate_left
    · (intro w hSw; (try dsimp only at hSw); go_simp; try with_reducible rfl)
    simp only [Act.put, List.getElem_toArray, List.getElem_cons_succ, List.getElem_cons_zero, List.setIfInBounds_toArray, List.set_cons_zero, List.set_cons_succ]
    refine wpAnyH_take (i := 5) rfl (by kernel_rfl) (by kernel_rfl) (by kernel_rfl) (fun _ _ _ h => h) (yieldsIf_load_mid (by rfl) 53 (.tmp 5) rfl N (0) rfl (sdV x) _ (fun w h => range_keep1 (range_of RX2.out) (h.block N (bl_lt RX2.out))) Try.underlying53 rfl (szL sz53 LX.out)) (by assumption) ?_
    simp only [Act.put, List.getElem_toArray, List.getElem_cons_succ, List.getElem_cons_zero, List.setIfInBounds_toArray, List.set_cons_zero, List.set_cons_succ]
    refine wpAnyH_ready (rs := [6]) (by kernel_rfl) (by simp) ?_
    refine AllReadyH.cons rfl (fun K hK => ?_) AllReadyH.nil
    go_simp
    go_at_call 38
    refine (kOwn _ x _ (HX2.out.grow (Below.refl _ _).drew)).mono ?_
    rintro e w1 ⟨x', rfl, o1, o2, o3⟩
    have O1 := Lib.hid o1
    have O2 := Lib.hid o2
    have O3 : Hid (Below v.heap.size v w1) := Lib.hid ((Below.refl _ v).drew.trans (o3.mono (Nat.le_refl _)))
    clear o1 o2 o3
    (try go_wp2_with fail)
    refine hK.out _ _ O3.out (fun hHeld => ?_)
    clear hK K
    clear hHeld
    refine wpAnyH_done (by kernel_rfl) ?_ _
    refine qn_last rfl (by rfl) ?_
    have hm1 : MapV w1 b xs.length (fnS xs) := (HW.out.grow O3.out).map
    refine wp_mputV (.tmp 18) (.tmp 19) (.tmp 21) rfl b xs.length (fnS xs) (i : Int) (sdV x') rfl rfl rfl hm1 ML.out WI.out (sd_plain O2.out) ?_
    intro w2 hm2 ht2
    obtain ⟨d1, d2, d3⟩ := put_done2 HW.out HI.out O3.out O2.out hm2 ht2
    have D1 := Lib.hid d1
    have D2 := Lib.hid d2
    have D3 := Lib.hid d3
    clear d1 d2 d3 hm1 hm2 ht2
    go_wp2
    refine bodyPost_end (v := .tuple #[]) (by simp [results, Try.results34, go_sem]) rfl ⟨rfl, some b, x', O1.out, D1.out, fun b' e => .inl (by cases e; rfl), (Fr.of_below (by rw [HN.out]; exact BV.out)).trans D2.out fun q hq => .inl hq, D3.out.keep (Nat.le_refl _) (fun _ _ _ => rfl) fun q _ hq => by have := HN.out; have := VS.out; omega⟩
theorem rSetNo (S : Nat) (m : Option Nat) (xs : List Sm) (i : Int) (x : Sm) (w : World) (h : RegM w S m xs) (hl : xs.length ≤ 100) (hi : ¬ (0 ≤ i ∧ i < xs.length)) :
    Calls Try.prog 17 #[.pointer (some ⟨S, 0, none⟩), .int .i64 i, .agg (sdV x).toArray] w fun e w' => e = .returned (.bool false) ∧ Below w.heap.size w w' := by
  have hg := h.grow (below_alloc0 w (Obj.cells (sdV x).toArray 53))
  obtain ⟨L, hL⟩ : ∃ L, xs.length = L := ⟨_, rfl⟩
  have CL : Hid (Calls Try.prog 28 #[.pointer (some ⟨S, 0, none⟩)] (w.alloc (Obj.cells (sdV x).toArray 53)) fun e w' => e = .returned (.int .i64 L) ∧ w.alloc (Obj.cells (sdV x).toArray 53) = w') := Lib.hid (by rw [← hL]; exact rLen S m xs _ hg)
  have w1 : wrap64 ((L : Int) - 1) = (L : Int) - 1 := by unfold wrap64; omega
  have CW : Hid (∀ w, Calls Try.prog 39 #[.int .i64 i, .int .i64 0, .int .i64 ((L : Int) - 1)] w fun e1 w' => e1 = .returned (.bool false) ∧ w = w') := Lib.hid fun w => by
    have := rWithin i 0 ((L : Int) - 1) w
    rw [show (decide (0 ≤ i) && decide (i ≤ (L : Int) - 1)) = false by simp; omega] at this
    exact this
  have BV := Lib.hid (below_alloc0 w (Obj.cells (sdV x).toArray 53))
  clear h hg hi hl hL
  go_enter Try.func17, Try.ntmps17
  go_wp2_with (first
    | (go_at_call 28; refine CL.out.mono ?_; rintro e1 w2 ⟨rfl, rfl⟩)
    | (go_at_call 39; refine (CW.out _).mono ?_; rintro e2 w' ⟨rfl, rfl⟩)
    | fail)
  go_ret
  exact ⟨rfl, BV.out⟩
set_option maxHeartbeats 4000000 in
theorem rSetYes (S : Nat) (m : Option Nat) (xs : List Sm) (i : Nat) (x : Sm) (w : World) (h : RegM w S m xs) (hl : xs.length ≤ 100) (hi : i < xs.length) (hx : SdAt w (isP S m) x) :
    Calls Try.prog 17 #[.pointer (some ⟨S, 0, none⟩), .int .i64 i, .agg (sdV x).toArray] w fun e w' => e = .returned (.bool true) ∧ ∃ m' x', x'.con = x.con ∧ RegM w' S m' (putS xs i x') ∧ (∀ b, m' = some b → m = some b ∨ w.heap.size ≤ b) ∧ Fr w w' (isP S m) ∧ SdAt w' (fun q => q < w.heap.size) x' := by
  obtain ⟨v, hv⟩ : ∃ v, w.alloc (Obj.cells (sdV x).toArray 53) = v := ⟨_, rfl⟩
  have BV : Hid (Below w.heap.size w v) := Lib.hid (by subst hv; exact below_alloc0 w _)
  have RX : Hid (BL v w.heap.size (sdV x) 53) := Lib.hid (by subst hv; exact heap_alloc_last w _)
  have sx : Hid ((sdV x).length = 42) := Lib.hid (sd_len x)
  obtain ⟨L, hL⟩ : ∃ L, xs.length = L := ⟨_, rfl⟩
  have CL : Hid (Calls Try.prog 28 #[.pointer (some ⟨S, 0, none⟩)] v fun e w' => e = .returned (.int .i64 L) ∧ v = w') := Lib.hid (by rw [← hL]; exact rLen S m xs _ (h.grow BV.out))
  have w1 : wrap64 ((L : Int) - 1) = (L : Int) - 1 := by unfold wrap64; omega
  have CW : Hid (∀ w, Calls Try.prog 39 #[.int .i64 (i : Int), .int .i64 0, .int .i64 ((L : Int) - 1)] w fun e1 w' => e1 = .returned (.bool true) ∧ w = w') := Lib.hid fun w => by
    have := rWithin (i : Int) 0 ((L : Int) - 1) w
    rw [show (decide ((0 : Int) ≤ (i : Int)) && decide ((i : Int) ≤ (L : Int) - 1)) = true by simp; omega] at this
    exact this
  have CP : Hid (Calls Try.prog 34 #[.pointer (some ⟨S, 0, none⟩), .int .i64 i, .agg (sdV x).toArray] v fun e w' => e = .returned (.tuple #[]) ∧ ∃ m' x', x'.con = x.con ∧ RegM w' S m' (putS xs i x') ∧ (∀ b, m' = some b → m = some b ∨ v.heap.size ≤ b) ∧ Fr v w' (isP S m) ∧ SdAt w' (fun q => q < v.heap.size) x') := Lib.hid (kPut2 S m xs i x v (h.grow BV.out) (Nat.le_of_lt hi) hl (hx.grow BV.out))
  clear h hi hl hL hx
  go_enter Try.func17, Try.ntmps17
  go_upto_region 1 with (fail)
  (try rw [hv])
  clear hv
  go_wp2_with (first
    | (go_at_call 28; refine CL.out.mono ?_; rintro e1 w2 ⟨rfl, rfl⟩)
    | (go_at_call 39; refine (CW.out _).mono ?_; rintro e2 w' ⟨rfl, rfl⟩)
    | (refine wpList_load_midG (by rfl) 53 (.tmp 5) rfl w.heap.size 0 rfl (sdV x) _ (range_of RX.out) Try.underlying53 rfl (szL sz53 sx.out) ?_)
    | (go_at_call 34; refine CP.out.mono ?_; rintro e3 w3 ⟨rfl, m', x', k1, k2, k3, k4, k5⟩; have K1 := Lib.hid k1; have K2 := Lib.hid k2; have K3 := Lib.hid k3; have K4 := Lib.hid k4; have K5 := Lib.hid k5; clear k1 k2 k3 k4 k5)
    | fail)
  go_ret
  have hs := BV.out.size
  exact ⟨rfl, m', x', K1.out, K2.out, fun b e => (K3.out b e).imp id fun h => Nat.le_trans hs h, (Fr.of_below BV.out).trans K4.out fun q hq => .inl hq, K5.out.keep (Nat.le_refl _) (fun _ _ _ => rfl) fun q _ hq => Nat.lt_of_lt_of_le hq hs⟩
end Go.Proofs.Ytmcmdpbdipgahaa

/-
  RegistryFull without the walk: eight sides are made; parameters that lie beside the registry.
-/
namespace Go.Proofs.Ytmcmdpbdipgahaa
open Go.RowKit Go.Maps
set_option maxRecDepth 100000
theorem notP_cells {w : World} {S : Nat} {m : Option Nat} {xs : List Sm} {q : Nat} {cs : Array Value} {T : TypeId} (h : RegM w S m xs) (hq : w.heap[q]? = some (.cells cs T (0, 0))) (hT : T ≠ 76) : ¬ isP S m q := by
  rintro (rfl | rfl)
  · have hb := h.blk
    unfold BL at hb
    rw [hq] at hb
    exact hT (Obj.cells.inj (Option.some.inj hb)).2.1
  · obtain ⟨D, ⟨es, clock, hb, _⟩, _⟩ := h.map
    rw [hq] at hb
    cases hb
structure FI (N : Nat) (w0 w : World) (S : Nat) (m : Option Nat) (cs : List Con) : Prop where
  reg : Reg w S m cs
  bel : Below N w0 w
  lo : ∀ q, isP S m q → N ≤ q
  sz : N ≤ w.heap.size
theorem FI.grow {N : Nat} {w0 w w' : World} {S : Nat} {m : Option Nat} {cs : List Con} (h : FI N w0 w S m cs) (hb : Below w.heap.size w w') : FI N w0 w' S m cs :=
  ⟨h.reg.grow hb, h.bel.trans (hb.mono h.sz), h.lo, Nat.le_trans h.sz hb.size⟩
theorem FI.turn {N : Nat} {w0 w w' : World} {S : Nat} {m m' : Option Nat} {cs cs' : List Con} (h : FI N w0 w S m cs) (hr : Reg w' S m' cs') (hm : ∀ b, m' = some b → m = some b ∨ w.heap.size ≤ b) (hf : Fr w w' (isP S m)) : FI N w0 w' S m' cs' :=
  ⟨hr, h.bel.trans (hf.below h.sz h.lo), fun q hq => hq.elim (fun e => h.lo q (.inl e)) fun e => (hm q e).elim (fun e => h.lo q (.inr e)) fun e => Nat.le_trans h.sz e, Nat.le_trans h.sz hf.size⟩
/-- parameters in a block, their keys -/
structure PS (w : World) (B : Nat) (A : Option Addr) (c : Nat) : Prop where
  pb : PB w B 4 2 1 (.slice A 2 c)
  src : Src w A (8 * 2) (cat rootS 2)
  c2 : 2 ≤ c
  cm : c ≤ maxLen
theorem PS.lt {w : World} {B : Nat} {A : Option Addr} {c : Nat} (h : PS w B A c) : B < w.heap.size := lt_of_block h.pb
theorem PS.grow {w w' : World} {B : Nat} {A : Option Addr} {c : Nat} (h : PS w B A c) (hb : Below w.heap.size w w') : PS w' B A c := ⟨(hb.block B h.lt).trans h.pb, h.src.keep hb.block, h.c2, h.cm⟩
theorem src_fr {w w' : World} {A : Option Addr} {n : Nat} {l : List Int} {P : Nat → Prop} (h : Src w A n l) (hf : Fr w w' P) (hA : ∀ g o, A = some ⟨g, o, none⟩ → ¬ P g) : Src w' A n l := by
  refine ⟨h.1, h.2.imp id ?_⟩
  rintro ⟨g, o, e, hr⟩
  refine ⟨g, o, e, fun i hi => ?_⟩
  have := hr i hi
  exact (World.cell?_of_block (w := w) (a := ⟨g, o + i, none⟩) (hf.block g (World.block_lt_of_cell? w ⟨g, o + i, none⟩ this) (hA g o e))).trans this
theorem PS.turn {w w' : World} {B : Nat} {A : Option Addr} {c : Nat} {S : Nat} {m : Option Nat} {cs : List Con} (h : PS w B A c) (hr : Reg w S m cs) (hf : Fr w w' (isP S m)) : PS w' B A c := by
  obtain ⟨xs, h1, _⟩ := hr
  refine ⟨(hf.block B h.lt (notP_cells h1 h.pb (by decide))).trans h.pb, src_fr h.src hf fun g o e => ?_, h.c2, h.cm⟩
  have := (src_rf h1 h.src (by decide) h.c2 (by decide)).pl _ e
  exact this.2.2
def c0F : Con := cM 2 1 4
theorem crN (k : Nat) : creC (List.replicate k c0F) (mayP (at8 (cat rootS 2)) 2 4 2 1) (con0 4 2 1 2 (cat rootS 2) 4) = if 8 ≤ k then (List.replicate k c0F, 0, 18) else (List.replicate (k + 1) c0F, (k : Int), 0) := by
  rw [may_two 2 1 (by decide) (by decide) (by decide) (by decide)]
  unfold creC
  rw [if_neg (by decide), List.length_replicate]
  by_cases h : 8 ≤ k
  · rw [if_pos h, if_pos h]
  · rw [if_neg h, if_neg h, List.replicate_succ']
    rfl
theorem crStep {N : Nat} {w0 w : World} {S : Nat} {m : Option Nat} {k B : Nat} {A : Option Addr} {c : Nat} (h : FI N w0 w S m (List.replicate k c0F)) (p : PS w B A c) (hk : k ≤ 8) :
    Calls Try.prog 12 #[.pointer (some ⟨S, 0, none⟩), .agg #[.int .i64 4, .int .i64 2, .int .i64 1, .slice A 2 c], .int .i64 4] w fun e w' => e = .returned (.tuple #[.int .i64 (if 8 ≤ k then 0 else (k : Int)), .int .i64 (if 8 ≤ k then 18 else 0)]) ∧ ∃ m', FI N w0 w' S m' (List.replicate (if 8 ≤ k then k else k + 1) c0F) ∧ PS w' B A c := by
  refine (kCreate S m _ 4 2 1 A 2 c (cat rootS 2) 4 w h.reg (by rw [List.length_replicate]; exact hk) p.src p.c2 p.cm).mono ?_
  rintro e w' ⟨r, m', hr, rfl, k2, k3, k4⟩
  rw [crN] at hr
  by_cases h8 : 8 ≤ k
  · rw [if_pos h8] at hr
    subst hr
    rw [if_pos h8, if_pos h8, if_pos h8]
    exact ⟨rfl, m', h.turn k2 k3 k4, p.turn h.reg k4⟩
  · rw [if_neg h8] at hr
    subst hr
    rw [if_neg h8, if_neg h8, if_neg h8]
    exact ⟨rfl, m', h.turn k2 k3 k4, p.turn h.reg k4⟩
theorem may_zero : mayP (at8 []) 0 0 0 0 = false := by
  unfold mayP mayK
  rw [show win 1 5 ((0 : Nat) : Int) = false from win_no1 (by decide)]
  rfl
theorem crZero {N : Nat} {w0 w : World} {S : Nat} {m : Option Nat} {cs : List Con} {B : Nat} {A : Option Addr} {c : Nat} (h : FI N w0 w S m cs) (p : PS w B A c) (hk : cs.length ≤ 8) :
    Calls Try.prog 12 #[.pointer (some ⟨S, 0, none⟩), .agg #[.int .i64 0, .int .i64 0, .int .i64 0, .slice none 0 0], .int .i64 4] w fun e w' => e = .returned (.tuple #[.int .i64 0, .int .i64 4]) ∧ ∃ m', FI N w0 w' S m' cs ∧ PS w' B A c := by
  refine (kCreate S m cs 0 0 0 none 0 0 [] 4 w h.reg hk ⟨rfl, .inl rfl⟩ (Nat.le_refl _) (Nat.zero_le _)).mono ?_
  rintro e w' ⟨r, m', hr, rfl, k2, k3, k4⟩
  rw [may_zero] at hr
  have hr : r = (cs, 0, 4) := hr
  subst hr
  exact ⟨rfl, m', h.turn k2 k3 k4, p.turn h.reg k4⟩
/-- the record of a number that there is -/
theorem sideM (S : Nat) (m : Option Nat) (xs : List Sm) (i : Nat) (w : World) (h : RegM w S m xs) (hi : i < xs.length) (h100 : xs.length ≤ 100) :
    Calls Try.prog 16 #[.pointer (some ⟨S, 0, none⟩), .int .i64 i] w fun e w' => ∃ x', e = .returned (.tuple #[.agg (sdV x').toArray, .bool true]) ∧ x'.con = (xs.getD i sm0).con ∧ SdAt w' (fun q => q < w.heap.size) x' ∧ Below w.heap.size w w' := by
  refine (rSide S m xs i w h (by unfold wfI; omega)).mono ?_
  rintro e w' ⟨x', rfl, k1, k2, k3⟩
  have ha : atS xs (i : Int) = xs.getD i sm0 := by
    unfold atS
    rw [if_pos (by omega), Int.toNat_natCast]
  rw [ha] at k1
  exact ⟨x', by rw [decide_eq_true (by omega)], k1, k2, k3⟩
end Go.Proofs.Ytmcmdpbdipgahaa

/-
  Rows of one's own may be written: copies, own, Side once more.
-/
namespace Go.Proofs.Ytmcmdpbdipgahaa
open Go.RowKit Go.Maps
set_option maxRecDepth 100000
/-- the row's block may be written -/
def Soft (w : World) (r : Rf) : Prop := ∀ a, r.A = some a → ∃ cs T, w.heap[a.block]? = some (.cells cs T (0, 0))
theorem own_soft {w : World} {base n c sz : Nat} {t : TypeId} {A : Option Addr} {ys xs : List Value} (h : w.ownsRow base t sz (.slice A n c) n ys) : Soft w ⟨A, n, c, xs⟩ := by
  intro a ha
  have ha : A = some a := ha
  subst ha
  rcases h.2 with ⟨e, _⟩ | ⟨g, c', cur, e, _, h3, _⟩
  · cases e
  · injection e with e1
    cases e1
    exact ⟨cur, t, h3⟩
structure RfS (w : World) (P : Nat → Prop) (sz : Nat) (r : Rf) : Prop where
  a : RfAt w P sz r
  s : Soft w r
theorem RfS.keep {w w' : World} {P P' : Nat → Prop} {sz : Nat} {r : Rf} (h : RfS w P sz r) (hs : w.heap.size ≤ w'.heap.size) (hb : ∀ q, q < w.heap.size → ¬ P q → w'.heap[q]? = w.heap[q]?) (hp : ∀ q, q < w.heap.size → P' q → P q) : RfS w' P' sz r := by
  refine ⟨h.a.keep hs hb hp, fun a ha => ?_⟩
  obtain ⟨cs, T, e⟩ := h.s a ha
  have := h.a.pl a ha
  exact ⟨cs, T, (hb _ this.2.1 this.2.2).trans e⟩
theorem RfS.low {w v : World} {P : Nat → Prop} {sz N : Nat} {r : Rf} (h : RfS w P sz r) (hP : ∀ q, q < N → P q) (hs : w.heap.size ≤ v.heap.size) (hb : ∀ q, q < w.heap.size → N ≤ q → v.heap[q]? = w.heap[q]?) : RfS v (fun q => q < N) sz r := by
  refine ⟨h.a.low hP hs hb, fun a ha => ?_⟩
  obtain ⟨cs, T, e⟩ := h.s a ha
  have := h.a.pl a ha
  exact ⟨cs, T, (hb _ this.2.1 (Nat.le_of_not_lt fun g => this.2.2 (hP _ g))).trans e⟩
structure SoftS (w : World) (x : Sm) : Prop where
  K : Soft w x.K
  U : Soft w x.U
theorem SoftS.keep {w w' : World} {P : Nat → Prop} {x : Sm} (h : SoftS w x) (hK : RfAt w P 8 x.K) (hU : RfAt w P 1 x.U) (hb : ∀ q, q < w.heap.size → ¬ P q → w'.heap[q]? = w.heap[q]?) : SoftS w' x :=
  ⟨fun a ha => by obtain ⟨cs, T, e⟩ := h.K a ha; have := hK.pl a ha; exact ⟨cs, T, (hb _ this.2.1 this.2.2).trans e⟩, fun a ha => by obtain ⟨cs, T, e⟩ := h.U a ha; have := hU.pl a ha; exact ⟨cs, T, (hb _ this.2.1 this.2.2).trans e⟩⟩
set_option maxHeartbeats 1000000 in
theorem cloneH2 (P : Nat → Prop) (r : Rf) (w : World) (h : RfAt w P 8 r) :
    Calls Try.prog 50 #[.slice r.A r.n r.c] w fun e w' => ∃ r' : Rf, e = .returned (.slice r'.A r'.n r'.c) ∧ r'.n = r.n ∧ r'.ys = r.ys ∧ RfAt w' (fun q => q < w.heap.size) 8 r' ∧ Soft w' r' ∧ Below w.heap.size w w' := by
  obtain ⟨A, n, c, ys⟩ := r
  cases A with
  | none =>
    obtain ⟨h1, h2⟩ := h.nil rfl
    have h3 := h.src.1
    have h1 : n = 0 := h1
    have h2 : c = 0 := h2
    subst h1 h2
    have h3 : ys = [] := List.eq_nil_of_length_eq_zero (by simpa using h3)
    subst h3
    have hnil : ∀ w : World, (binOp BinOp.eql 36 (.slice none 0 0) (.slice none 0 0)).run Try.prog w = .ok (.bool true) w := fun _ => by kernel_rfl
    show Calls Try.prog 50 #[.slice none 0 0] w _
    clear h
    go_enter Try.func50, Try.ntmps50
    go_wp2
    go_ret
    exact ⟨rf0, rfl, rfl, rfl, rf0_at _ _ _, fun a h => (by cases h), Below.refl _ _⟩
  | some ad =>
    obtain ⟨z, by', g1, g2, g3⟩ := ziH
    have hnil : ∀ w : World, (binOp BinOp.eql 36 (.slice (some ad) n c) (.slice none 0 0)).run Try.prog w = .ok (.bool false) w := fun _ => rfl
    have HS : Hid (SrcG (w.alloc (Obj.cells #[] 31)) 8 (some ad) n ys) := Lib.hid (h.src.keep (below_alloc0 w _))
    have H100 : Hid (n ≤ 100) := Lib.hid h.big
    have H1 : Hid (∀ u ∈ ys, u.oneCell' = true) := Lib.hid h.src.2.1
    have G1 := Lib.hid g1
    have G2 := Lib.hid g2
    have G3 := Lib.hid g3
    show Calls Try.prog 50 #[.slice (some ad) n c] w _
    clear h g1 g2 g3
    go_enter Try.func50, Try.ntmps50
    go_wp2_with (at_builtin; refine wpList_appG Try.underlying36 G1.out G2.out (by decide) G3.out rfl (.tmp 5) (.tmp 6) rfl w.heap.size 0 n c (.slice (some ⟨w.heap.size, 0, none⟩) 0 0) [] ys (some ad) rfl rfl (own_noneG w 31 8) HS.out (by omega) (by have := H100.out; omega) (by simp) ?_; intro A2 c2 w2 hown2 hb2; rw [Nat.zero_add, List.nil_append] at hown2; have O2 := Lib.hid hown2; have B2 := Lib.hid hb2; clear hown2 hb2)
    go_ret
    exact ⟨⟨A2, n, c2, ys⟩, by first | rfl | (simp; done), rfl, rfl, rf_own O2.out H1.out H100.out _ fun q hq => hq, own_soft O2.out, (below_alloc0 w _).trans B2.out⟩
set_option maxHeartbeats 1000000 in
theorem cloneO2 (P : Nat → Prop) (r : Rf) (w : World) (h : RfAt w P 9 r) :
    Calls Try.prog 51 #[.slice r.A r.n r.c] w fun e w' => ∃ r' : Rf, e = .returned (.slice r'.A r'.n r'.c) ∧ r'.n = r.n ∧ r'.ys = r.ys ∧ RfAt w' (fun q => q < w.heap.size) 9 r' ∧ Soft w' r' ∧ Below w.heap.size w w' := by
  obtain ⟨A, n, c, ys⟩ := r
  cases A with
  | none =>
    obtain ⟨h1, h2⟩ := h.nil rfl
    have h3 := h.src.1
    have h1 : n = 0 := h1
    have h2 : c = 0 := h2
    subst h1 h2
    have h3 : ys = [] := List.eq_nil_of_length_eq_zero (by simpa using h3)
    subst h3
    have hnil : ∀ w : World, (binOp BinOp.eql 47 (.slice none 0 0) (.slice none 0 0)).run Try.prog w = .ok (.bool true) w := fun _ => by kernel_rfl
    show Calls Try.prog 51 #[.slice none 0 0] w _
    clear h
    go_enter Try.func51, Try.ntmps51
    go_wp2
    go_ret
    exact ⟨rf0, rfl, rfl, rfl, rf0_at _ _ _, fun a h => (by cases h), Below.refl _ _⟩
  | some ad =>
    obtain ⟨z, by', g1, g2, g3⟩ := ziO
    have hnil : ∀ w : World, (binOp BinOp.eql 47 (.slice (some ad) n c) (.slice none 0 0)).run Try.prog w = .ok (.bool false) w := fun _ => rfl
    have HS : Hid (SrcG (w.alloc (Obj.cells #[] 93)) 9 (some ad) n ys) := Lib.hid (h.src.keep (below_alloc0 w _))
    have H100 : Hid (n ≤ 100) := Lib.hid h.big
    have H1 : Hid (∀ u ∈ ys, u.oneCell' = true) := Lib.hid h.src.2.1
    have G1 := Lib.hid g1
    have G2 := Lib.hid g2
    have G3 := Lib.hid g3
    show Calls Try.prog 51 #[.slice (some ad) n c] w _
    clear h g1 g2 g3
    go_enter Try.func51, Try.ntmps51
    go_wp2_with (at_builtin; refine wpList_appG Try.underlying47 G1.out G2.out (by decide) G3.out rfl (.tmp 5) (.tmp 6) rfl w.heap.size 0 n c (.slice (some ⟨w.heap.size, 0, none⟩) 0 0) [] ys (some ad) rfl rfl (own_noneG w 93 9) HS.out (by omega) (by have := H100.out; omega) (by simp) ?_; intro A2 c2 w2 hown2 hb2; rw [Nat.zero_add, List.nil_append] at hown2; have O2 := Lib.hid hown2; have B2 := Lib.hid hb2; clear hown2 hb2)
    go_ret
    exact ⟨⟨A2, n, c2, ys⟩, by first | rfl | (simp; done), rfl, rfl, rf_own O2.out H1.out H100.out _ fun q hq => hq, own_soft O2.out, (below_alloc0 w _).trans B2.out⟩
set_option maxHeartbeats 1000000 in
theorem cloneG2 (P : Nat → Prop) (r : Rf) (w : World) (h : RfAt w P 282 r) :
    Calls Try.prog 52 #[.slice r.A r.n r.c] w fun e w' => ∃ r' : Rf, e = .returned (.slice r'.A r'.n r'.c) ∧ r'.n = r.n ∧ r'.ys = r.ys ∧ RfAt w' (fun q => q < w.heap.size) 282 r' ∧ Soft w' r' ∧ Below w.heap.size w w' := by
  obtain ⟨A, n, c, ys⟩ := r
  cases A with
  | none =>
    obtain ⟨h1, h2⟩ := h.nil rfl
    have h3 := h.src.1
    have h1 : n = 0 := h1
    have h2 : c = 0 := h2
    subst h1 h2
    have h3 : ys = [] := List.eq_nil_of_length_eq_zero (by simpa using h3)
    subst h3
    have hnil : ∀ w : World, (binOp BinOp.eql 48 (.slice none 0 0) (.slice none 0 0)).run Try.prog w = .ok (.bool true) w := fun _ => by kernel_rfl
    show Calls Try.prog 52 #[.slice none 0 0] w _
    clear h
    go_enter Try.func52, Try.ntmps52
    go_wp2
    go_ret
    exact ⟨rf0, rfl, rfl, rfl, rf0_at _ _ _, fun a h => (by cases h), Below.refl _ _⟩
  | some ad =>
    obtain ⟨z, by', g1, g2, g3⟩ := ziG
    have hnil : ∀ w : World, (binOp BinOp.eql 48 (.slice (some ad) n c) (.slice none 0 0)).run Try.prog w = .ok (.bool false) w := fun _ => rfl
    have HS : Hid (SrcG (w.alloc (Obj.cells #[] 100)) 282 (some ad) n ys) := Lib.hid (h.src.keep (below_alloc0 w _))
    have H100 : Hid (n ≤ 100) := Lib.hid h.big
    have H1 : Hid (∀ u ∈ ys, u.oneCell' = true) := Lib.hid h.src.2.1
    have G1 := Lib.hid g1
    have G2 := Lib.hid g2
    have G3 := Lib.hid g3
    show Calls Try.prog 52 #[.slice (some ad) n c] w _
    clear h g1 g2 g3
    go_enter Try.func52, Try.ntmps52
    go_wp2_with (at_builtin; refine wpList_appG Try.underlying48 G1.out G2.out (by decide) G3.out rfl (.tmp 5) (.tmp 6) rfl w.heap.size 0 n c (.slice (some ⟨w.heap.size, 0, none⟩) 0 0) [] ys (some ad) rfl rfl (own_noneG w 100 282) HS.out (by omega) (by have := H100.out; omega) (by simp) ?_; intro A2 c2 w2 hown2 hb2; rw [Nat.zero_add, List.nil_append] at hown2; have O2 := Lib.hid hown2; have B2 := Lib.hid hb2; clear hown2 hb2)
    go_ret
    exact ⟨⟨A2, n, c2, ys⟩, by first | rfl | (simp; done), rfl, rfl, rf_own O2.out H1.out H100.out _ fun q hq => hq, own_soft O2.out, (below_alloc0 w _).trans B2.out⟩
set_option maxHeartbeats 1000000 in
theorem cloneI2 (P : Nat → Prop) (r : Rf) (w : World) (h : RfAt w P 1 r) :
    Calls Try.prog 53 #[.slice r.A r.n r.c] w fun e w' => ∃ r' : Rf, e = .returned (.slice r'.A r'.n r'.c) ∧ r'.n = r.n ∧ r'.ys = r.ys ∧ RfAt w' (fun q => q < w.heap.size) 1 r' ∧ Soft w' r' ∧ Below w.heap.size w w' := by
  obtain ⟨A, n, c, ys⟩ := r
  cases A with
  | none =>
    obtain ⟨h1, h2⟩ := h.nil rfl
    have h3 := h.src.1
    have h1 : n = 0 := h1
    have h2 : c = 0 := h2
    subst h1 h2
    have h3 : ys = [] := List.eq_nil_of_length_eq_zero (by simpa using h3)
    subst h3
    have hnil : ∀ w : World, (binOp BinOp.eql 51 (.slice none 0 0) (.slice none 0 0)).run Try.prog w = .ok (.bool true) w := fun _ => by kernel_rfl
    show Calls Try.prog 53 #[.slice none 0 0] w _
    clear h
    go_enter Try.func53, Try.ntmps53
    go_wp2
    go_ret
    exact ⟨rf0, rfl, rfl, rfl, rf0_at _ _ _, fun a h => (by cases h), Below.refl _ _⟩
  | some ad =>
    obtain ⟨z, by', g1, g2, g3⟩ := ziI
    have hnil : ∀ w : World, (binOp BinOp.eql 51 (.slice (some ad) n c) (.slice none 0 0)).run Try.prog w = .ok (.bool false) w := fun _ => rfl
    have HS : Hid (SrcG (w.alloc (Obj.cells #[] 3)) 1 (some ad) n ys) := Lib.hid (h.src.keep (below_alloc0 w _))
    have H100 : Hid (n ≤ 100) := Lib.hid h.big
    have H1 : Hid (∀ u ∈ ys, u.oneCell' = true) := Lib.hid h.src.2.1
    have G1 := Lib.hid g1
    have G2 := Lib.hid g2
    have G3 := Lib.hid g3
    show Calls Try.prog 53 #[.slice (some ad) n c] w _
    clear h g1 g2 g3
    go_enter Try.func53, Try.ntmps53
    go_wp2_with (at_builtin; refine wpList_appG Try.underlying51 G1.out G2.out (by decide) G3.out rfl (.tmp 5) (.tmp 6) rfl w.heap.size 0 n c (.slice (some ⟨w.heap.size, 0, none⟩) 0 0) [] ys (some ad) rfl rfl (own_noneG w 3 1) HS.out (by omega) (by have := H100.out; omega) (by simp) ?_; intro A2 c2 w2 hown2 hb2; rw [Nat.zero_add, List.nil_append] at hown2; have O2 := Lib.hid hown2; have B2 := Lib.hid hb2; clear hown2 hb2)
    go_ret
    exact ⟨⟨A2, n, c2, ys⟩, by first | rfl | (simp; done), rfl, rfl, rf_own O2.out H1.out H100.out _ fun q hq => hq, own_soft O2.out, (below_alloc0 w _).trans B2.out⟩
set_option maxHeartbeats 4000000 in
theorem kOwn2 (P : Nat → Prop) (x : Sm) (w : World) (h : SdAt w P x) :
    Calls Try.prog 38 #[.agg (sdV x).toArray] w fun e w' => ∃ x' : Sm, e = .returned (.agg (sdV x').toArray) ∧ x'.con = x.con ∧ SdAt w' (fun q => q < w.heap.size) x' ∧ SoftS w' x' ∧ Below w.heap.size w w' := by
  obtain ⟨S, hS⟩ : ∃ S, w.heap.size = S := ⟨_, rfl⟩
  have HS := Lib.hid hS
  have HA : Hid (∀ v, Below S w v → SdAt v (fun q => S ≤ q) x) := Lib.hid fun v hb => h.old hS hb
  clear h
  obtain ⟨sc, K, O, G, U⟩ := x
  obtain ⟨v, hv⟩ : ∃ v, ((w.alloc (Obj.cells (sdV ⟨sc, K, O, G, U⟩).toArray 53)).alloc (Obj.cells (sdV sm0).toArray 53)) = v := ⟨_, rfl⟩
  have RA : Hid (BL v S (sdV ⟨sc, K, O, G, U⟩) 53) := Lib.hid (by
    subst hv hS
    exact bl_keep (heap_alloc_last w _) (Below.heap_alloc _ _ _ (by simp)))
  have RB : Hid (BL v (S + 1) (sdV sm0) 53) := Lib.hid (by
    subst hv hS
    have := heap_alloc_last (w.alloc (Obj.cells (sdV ⟨sc, K, O, G, U⟩).toArray 53)) (Obj.cells (sdV sm0).toArray 53)
    rw [World.size_alloc] at this
    exact this)
  have BV : Hid (Below S w v) := Lib.hid (by subst hv hS; exact ((Below.refl _ w).alloc (Nat.le_refl _) _).alloc (by simp) _)
  have VS : Hid (v.heap.size = S + 2) := Lib.hid (by subst hv hS; show _ = _; rw [World.size_alloc, World.size_alloc])
  have SB : Hid (S + 1 < v.heap.size) := Lib.hid (by have := VS.out; omega)
  have c3 := sd_at RA.out (i := 3) rfl
  have hz := z53
  have NE : S ≠ S + 1 := by omega
  go_enter Try.func38, Try.ntmps38
  go_upto_region 1 with (fail)
  rw [hv] at *
  clear hv
  go_wp2_with fail
  refine (cloneH2 (fun q => S ≤ q) K v (HA.out _ BV.out).K).mono ?_
  rintro e w1 ⟨K', rfl, hn1, hy1, hr1a, hr1b, hb1⟩
  have F1 : Hid (K'.n = K.n ∧ K'.ys = K.ys) := Lib.hid ⟨hn1, hy1⟩
  have hr1 := RfS.mk hr1a hr1b
  have Q1 : Hid (Below v.heap.size v w1) := Lib.hid hb1
  have SA1 : Hid (S + 1 < w1.heap.size) := Lib.hid (Nat.lt_of_lt_of_le SB.out hb1.size)
  have Ra1 : Hid (BL w1 S (sdV ⟨sc, K, O, G, U⟩) 53) := Lib.hid (bl_keep RA.out (hb1.block S (by have := SB.out; omega)))
  have Rb1 : Hid (BL w1 (S + 1) (sdV sm0) 53) := Lib.hid (bl_keep RB.out (hb1.block (S + 1) SB.out))
  have Bw1 : Hid (Below S w w1) := Lib.hid (BV.out.trans (hb1.mono (by have := SB.out; omega)))
  have TK : Hid (RfS w1 (fun q => q < S + 2) 8 K') := Lib.hid (hr1.low (fun q hq => by have := SB.out; omega) (Nat.le_refl _) fun _ _ _ => rfl)
  have fr1 : w1.frozen? ⟨S, 3, none⟩ = false := bl_free Ra1.out 3
  have d1 := sd_at Ra1.out (i := 39) rfl
  have ex1 := sd_at Ra1.out (i := 3) rfl
  have R1A : Hid (BL (w1.setCell ⟨S, 3, none⟩ (.slice K'.A K'.n K'.c)) S (sdV ⟨sc, K', O, G, U⟩) 53) := Lib.hid (bl_set Ra1.out 3 (.slice K'.A K'.n K'.c))
  have R1B : Hid (BL (w1.setCell ⟨S, 3, none⟩ (.slice K'.A K'.n K'.c)) (S + 1) (sdV sm0) 53) := Lib.hid (bl_keep Rb1.out (heap_set1 _ _ _ (by omega)))
  have B1 : Hid (Below S w (w1.setCell ⟨S, 3, none⟩ (.slice K'.A K'.n K'.c))) := Lib.hid (Bw1.out.setCell (Nat.le_refl _) _)
  have SZ1 : Hid (S + 1 < (w1.setCell ⟨S, 3, none⟩ (.slice K'.A K'.n K'.c)).heap.size) := Lib.hid (by have := SA1.out; simpa using this)
  have HK : Hid (RfS (w1.setCell ⟨S, 3, none⟩ (.slice K'.A K'.n K'.c)) (fun q => q < S + 2) 8 K') := Lib.hid (TK.out.low (fun _ h => h) (by simp) fun q _ hq => heap_set1 _ _ _ (by omega))
  clear TK
  clear hn1 hy1 hr1a hr1b hr1 hb1 c3  Ra1 Rb1 Bw1 SA1 Q1
  go_wp2_with fail
  clear fr1 ex1 d1
  generalize w1.setCell ⟨S, 3, none⟩ (.slice K'.A K'.n K'.c) = v1 at *
  have c1 := sd_at R1A.out (i := 39) rfl
  refine (cloneO2 (fun q => S ≤ q) O v1 (HA.out _ B1.out).O).mono ?_
  rintro e w2 ⟨O', rfl, hn2, hy2, hr2a, hr2b, hb2⟩
  have F2 : Hid (O'.n = O.n ∧ O'.ys = O.ys) := Lib.hid ⟨hn2, hy2⟩
  have hr2 := RfS.mk hr2a hr2b
  have Q2 : Hid (Below v1.heap.size v1 w2) := Lib.hid hb2
  have SA2 : Hid (S + 1 < w2.heap.size) := Lib.hid (Nat.lt_of_lt_of_le SZ1.out hb2.size)
  have Ra2 : Hid (BL w2 S (sdV ⟨sc, K', O, G, U⟩) 53) := Lib.hid (bl_keep R1A.out (hb2.block S (by have := SZ1.out; omega)))
  have Rb2 : Hid (BL w2 (S + 1) (sdV sm0) 53) := Lib.hid (bl_keep R1B.out (hb2.block (S + 1) SZ1.out))
  have Bw2 : Hid (Below S w w2) := Lib.hid (B1.out.trans (hb2.mono (by have := SZ1.out; omega)))
  have TK : Hid (RfS w2 (fun q => q < S + 2) 8 K') := Lib.hid (HK.out.low (fun _ h => h) hb2.size fun q hq _ => hb2.block q hq)
  clear HK
  have TO : Hid (RfS w2 (fun q => q < S + 2) 9 O') := Lib.hid (hr2.low (fun q hq => by have := SZ1.out; omega) (Nat.le_refl _) fun _ _ _ => rfl)
  have fr2 : w2.frozen? ⟨S, 39, none⟩ = false := bl_free Ra2.out 39
  have d2 := sd_at Ra2.out (i := 40) rfl
  have ex2 := sd_at Ra2.out (i := 39) rfl
  have R2A : Hid (BL (w2.setCell ⟨S, 39, none⟩ (.slice O'.A O'.n O'.c)) S (sdV ⟨sc, K', O', G, U⟩) 53) := Lib.hid (bl_set Ra2.out 39 (.slice O'.A O'.n O'.c))
  have R2B : Hid (BL (w2.setCell ⟨S, 39, none⟩ (.slice O'.A O'.n O'.c)) (S + 1) (sdV sm0) 53) := Lib.hid (bl_keep Rb2.out (heap_set1 _ _ _ (by omega)))
  have B2 : Hid (Below S w (w2.setCell ⟨S, 39, none⟩ (.slice O'.A O'.n O'.c))) := Lib.hid (Bw2.out.setCell (Nat.le_refl _) _)
  have SZ2 : Hid (S + 1 < (w2.setCell ⟨S, 39, none⟩ (.slice O'.A O'.n O'.c)).heap.size) := Lib.hid (by have := SA2.out; simpa using this)
  have HK : Hid (RfS (w2.setCell ⟨S, 39, none⟩ (.slice O'.A O'.n O'.c)) (fun q => q < S + 2) 8 K') := Lib.hid (TK.out.low (fun _ h => h) (by simp) fun q _ hq => heap_set1 _ _ _ (by omega))
  clear TK
  have HO : Hid (RfS (w2.setCell ⟨S, 39, none⟩ (.slice O'.A O'.n O'.c)) (fun q => q < S + 2) 9 O') := Lib.hid (TO.out.low (fun _ h => h) (by simp) fun q _ hq => heap_set1 _ _ _ (by omega))
  clear TO
  clear hn2 hy2 hr2a hr2b hr2 hb2 c1  Ra2 Rb2 Bw2 SA2 Q2
  go_wp2_with fail
  clear fr2 ex2 d2
  generalize w2.setCell ⟨S, 39, none⟩ (.slice O'.A O'.n O'.c) = v2 at *
  have c2 := sd_at R2A.out (i := 40) rfl
  refine (cloneG2 (fun q => S ≤ q) G v2 (HA.out _ B2.out).G).mono ?_
  rintro e w3 ⟨G', rfl, hn3, hy3, hr3a, hr3b, hb3⟩
  have F3 : Hid (G'.n = G.n ∧ G'.ys = G.ys) := Lib.hid ⟨hn3, hy3⟩
  have hr3 := RfS.mk hr3a hr3b
  have Q3 : Hid (Below v2.heap.size v2 w3) := Lib.hid hb3
  have SA3 : Hid (S + 1 < w3.heap.size) := Lib.hid (Nat.lt_of_lt_of_le SZ2.out hb3.size)
  have Ra3 : Hid (BL w3 S (sdV ⟨sc, K', O', G, U⟩) 53) := Lib.hid (bl_keep R2A.out (hb3.block S (by have := SZ2.out; omega)))
  have Rb3 : Hid (BL w3 (S + 1) (sdV sm0) 53) := Lib.hid (bl_keep R2B.out (hb3.block (S + 1) SZ2.out))
  have Bw3 : Hid (Below S w w3) := Lib.hid (B2.out.trans (hb3.mono (by have := SZ2.out; omega)))
  have TK : Hid (RfS w3 (fun q => q < S + 2) 8 K') := Lib.hid (HK.out.low (fun _ h => h) hb3.size fun q hq _ => hb3.block q hq)
  clear HK
  have TO : Hid (RfS w3 (fun q => q < S + 2) 9 O') := Lib.hid (HO.out.low (fun _ h => h) hb3.size fun q hq _ => hb3.block q hq)
  clear HO
  have TG : Hid (RfS w3 (fun q => q < S + 2) 282 G') := Lib.hid (hr3.low (fun q hq => by have := SZ2.out; omega) (Nat.le_refl _) fun _ _ _ => rfl)
  have fr3 : w3.frozen? ⟨S, 40, none⟩ = false := bl_free Ra3.out 40
  have d3 := sd_at Ra3.out (i := 41) rfl
  have ex3 := sd_at Ra3.out (i := 40) rfl
  have R3A : Hid (BL (w3.setCell ⟨S, 40, none⟩ (.slice G'.A G'.n G'.c)) S (sdV ⟨sc, K', O', G', U⟩) 53) := Lib.hid (bl_set Ra3.out 40 (.slice G'.A G'.n G'.c))
  have R3B : Hid (BL (w3.setCell ⟨S, 40, none⟩ (.slice G'.A G'.n G'.c)) (S + 1) (sdV sm0) 53) := Lib.hid (bl_keep Rb3.out (heap_set1 _ _ _ (by omega)))
  have B3 : Hid (Below S w (w3.setCell ⟨S, 40, none⟩ (.slice G'.A G'.n G'.c))) := Lib.hid (Bw3.out.setCell (Nat.le_refl _) _)
  have SZ3 : Hid (S + 1 < (w3.setCell ⟨S, 40, none⟩ (.slice G'.A G'.n G'.c)).heap.size) := Lib.hid (by have := SA3.out; simpa using this)
  have HK : Hid (RfS (w3.setCell ⟨S, 40, none⟩ (.slice G'.A G'.n G'.c)) (fun q => q < S + 2) 8 K') := Lib.hid (TK.out.low (fun _ h => h) (by simp) fun q _ hq => heap_set1 _ _ _ (by omega))
  clear TK
  have HO : Hid (RfS (w3.setCell ⟨S, 40, none⟩ (.slice G'.A G'.n G'.c)) (fun q => q < S + 2) 9 O') := Lib.hid (TO.out.low (fun _ h => h) (by simp) fun q _ hq => heap_set1 _ _ _ (by omega))
  clear TO
  have HG : Hid (RfS (w3.setCell ⟨S, 40, none⟩ (.slice G'.A G'.n G'.c)) (fun q => q < S + 2) 282 G') := Lib.hid (TG.out.low (fun _ h => h) (by simp) fun q _ hq => heap_set1 _ _ _ (by omega))
  clear TG
  clear hn3 hy3 hr3a hr3b hr3 hb3 c2  Ra3 Rb3 Bw3 SA3 Q3
  go_wp2_with fail
  clear fr3 ex3 d3
  generalize w3.setCell ⟨S, 40, none⟩ (.slice G'.A G'.n G'.c) = v3 at *
  have c3 := sd_at R3A.out (i := 41) rfl
  refine (cloneI2 (fun q => S ≤ q) U v3 (HA.out _ B3.out).U).mono ?_
  rintro e w4 ⟨U', rfl, hn4, hy4, hr4a, hr4b, hb4⟩
  have F4 : Hid (U'.n = U.n ∧ U'.ys = U.ys) := Lib.hid ⟨hn4, hy4⟩
  have hr4 := RfS.mk hr4a hr4b
  have Q4 : Hid (Below v3.heap.size v3 w4) := Lib.hid hb4
  have SA4 : Hid (S + 1 < w4.heap.size) := Lib.hid (Nat.lt_of_lt_of_le SZ3.out hb4.size)
  have Ra4 : Hid (BL w4 S (sdV ⟨sc, K', O', G', U⟩) 53) := Lib.hid (bl_keep R3A.out (hb4.block S (by have := SZ3.out; omega)))
  have Rb4 : Hid (BL w4 (S + 1) (sdV sm0) 53) := Lib.hid (bl_keep R3B.out (hb4.block (S + 1) SZ3.out))
  have Bw4 : Hid (Below S w w4) := Lib.hid (B3.out.trans (hb4.mono (by have := SZ3.out; omega)))
  have TK : Hid (RfS w4 (fun q => q < S + 2) 8 K') := Lib.hid (HK.out.low (fun _ h => h) hb4.size fun q hq _ => hb4.block q hq)
  clear HK
  have TO : Hid (RfS w4 (fun q => q < S + 2) 9 O') := Lib.hid (HO.out.low (fun _ h => h) hb4.size fun q hq _ => hb4.block q hq)
  clear HO
  have TG : Hid (RfS w4 (fun q => q < S + 2) 282 G') := Lib.hid (HG.out.low (fun _ h => h) hb4.size fun q hq _ => hb4.block q hq)
  clear HG
  have TU : Hid (RfS w4 (fun q => q < S + 2) 1 U') := Lib.hid (hr4.low (fun q hq => by have := SZ3.out; omega) (Nat.le_refl _) fun _ _ _ => rfl)
  have fr4 : w4.frozen? ⟨S, 41, none⟩ = false := bl_free Ra4.out 41
  have ex4 := sd_at Ra4.out (i := 41) rfl
  have R4A : Hid (BL (w4.setCell ⟨S, 41, none⟩ (.slice U'.A U'.n U'.c)) S (sdV ⟨sc, K', O', G', U'⟩) 53) := Lib.hid (bl_set Ra4.out 41 (.slice U'.A U'.n U'.c))
  have R4B : Hid (BL (w4.setCell ⟨S, 41, none⟩ (.slice U'.A U'.n U'.c)) (S + 1) (sdV sm0) 53) := Lib.hid (bl_keep Rb4.out (heap_set1 _ _ _ (by omega)))
  have B4 : Hid (Below S w (w4.setCell ⟨S, 41, none⟩ (.slice U'.A U'.n U'.c))) := Lib.hid (Bw4.out.setCell (Nat.le_refl _) _)
  have SZ4 : Hid (S + 1 < (w4.setCell ⟨S, 41, none⟩ (.slice U'.A U'.n U'.c)).heap.size) := Lib.hid (by have := SA4.out; simpa using this)
  have HK : Hid (RfS (w4.setCell ⟨S, 41, none⟩ (.slice U'.A U'.n U'.c)) (fun q => q < S + 2) 8 K') := Lib.hid (TK.out.low (fun _ h => h) (by simp) fun q _ hq => heap_set1 _ _ _ (by omega))
  clear TK
  have HO : Hid (RfS (w4.setCell ⟨S, 41, none⟩ (.slice U'.A U'.n U'.c)) (fun q => q < S + 2) 9 O') := Lib.hid (TO.out.low (fun _ h => h) (by simp) fun q _ hq => heap_set1 _ _ _ (by omega))
  clear TO
  have HG : Hid (RfS (w4.setCell ⟨S, 41, none⟩ (.slice U'.A U'.n U'.c)) (fun q => q < S + 2) 282 G') := Lib.hid (TG.out.low (fun _ h => h) (by simp) fun q _ hq => heap_set1 _ _ _ (by omega))
  clear TG
  have HU : Hid (RfS (w4.setCell ⟨S, 41, none⟩ (.slice U'.A U'.n U'.c)) (fun q => q < S + 2) 1 U') := Lib.hid (TU.out.low (fun _ h => h) (by simp) fun q _ hq => heap_set1 _ _ _ (by omega))
  clear TU
  clear hn4 hy4 hr4a hr4b hr4 hb4 c3  Ra4 Rb4 Bw4 SA4 Q4
  generalize hv4 : w4.setCell ⟨S, 41, none⟩ (.slice U'.A U'.n U'.c) = v4 at *
  go_wp2_with (first
    | (refine wpList_load_midG (by rfl) 53 (.tmp 1) rfl S 0 rfl (sdV ⟨sc, K', O', G', U'⟩) _ (range_of R4A.out) Try.underlying53 rfl (szL sz53 rfl) ?_)
    | (refine wpList_store_rowTo rfl 53 (.tmp 2) (.tmp 25) rfl rfl (S + 1) (sdV ⟨sc, K', O', G', U'⟩).toArray rfl rfl 53 _ R4B.out (szA sz53 rfl) (show (sdV sm0).toArray.size = _ from rfl) (all_oneCell_toArray (sd_one _)) ?_)
    | fail)
  refine bodyPost_ret (v := .agg (sdV ⟨sc, K', O', G', U'⟩).toArray) (results_cell_row rfl _ _ (S + 1) 53 (sdV ⟨sc, K', O', G', U'⟩).toArray (0, 0) _ rfl (setRow_heap _ _ _ _ _ _ R4B.out) Try.underlying53 rfl (szA sz53 rfl)) rfl ?_
  rw [HS.out]
  have hp : ∀ q, q < S → q < S + 2 := fun q h => by omega
  have low : ∀ {sz : Nat} {r : Rf}, RfS v4 (fun q => q < S + 2) sz r → RfS (v4.setRow (S + 1) (sdV ⟨sc, K', O', G', U'⟩).toArray) (fun q => q < S) sz r := fun h => h.keep (by simp) (fun q _ hq => setRow_other _ _ _ _ (by omega)) fun q _ h => hp q h
  refine ⟨⟨sc, K', O', G', U'⟩, rfl, ?_, ⟨(low HK.out).1, (low HO.out).1, (low HG.out).1, (low HU.out).1⟩, ⟨(low HK.out).2, (low HU.out).2⟩, below_setRow B4.out (by omega) _⟩
  unfold Sm.con
  simp only [F1.out.1, F1.out.2, F2.out.1, F2.out.2, F3.out.1, F3.out.2, F4.out.1, F4.out.2]
attribute [local irreducible] sdV MapV z0 fnS atS
set_option maxHeartbeats 4000000 in
theorem rSide2 (S : Nat) (m : Option Nat) (xs : List Sm) (i : Int) (w : World) (h : RegM w S m xs) (hi : wfI i) :
    Calls Try.prog 16 #[.pointer (some ⟨S, 0, none⟩), .int .i64 i] w fun e w' => ∃ x', e = .returned (.tuple #[.agg (sdV x').toArray, .bool (decide (0 ≤ i ∧ i < xs.length))]) ∧ x'.con = (atS xs i).con ∧ SdAt w' (fun q => q < w.heap.size) x' ∧ SoftS w' x' ∧ Below w.heap.size w w' := by
  obtain ⟨N, hN⟩ : ∃ N, w.heap.size = N := ⟨_, rfl⟩
  have HN := Lib.hid hN
  obtain ⟨v, hv⟩ : ∃ v, w.alloc (Obj.cells (sdV sm0).toArray 53) = v := ⟨_, rfl⟩
  have RC : Hid (BL v N (sdV sm0) 53) := Lib.hid (by subst hv hN; exact heap_alloc_last w _)
  have BV : Hid (Below N w v) := Lib.hid (by subst hv hN; exact (Below.refl _ w).alloc (Nat.le_refl _) _)
  have VS : Hid (v.heap.size = N + 1) := Lib.hid (by subst hv hN; show _ = _; rw [World.size_alloc])
  have hg := h.grow (show Below w.heap.size w v by rw [hN]; exact BV.out)
  have lk := hg.look hi
  have c0 := hg.c0
  have HA : Hid (SdAt v (isP S m) (atS xs i)) := Lib.hid (hg.at i)
  generalize decide (0 ≤ i ∧ i < xs.length) = D at *
  obtain ⟨x, hx⟩ : ∃ x, atS xs i = x := ⟨_, rfl⟩
  rw [hx] at lk HA ⊢
  have hz : ∀ w, (zeroValue 53).run Try.prog w = .ok (.agg (sdV sm0).toArray) w := z53
  clear h hg hi hx
  go_enter Try.func16, Try.ntmps16
  go_upto_region 3 with (fail)
  (try rw [hv])
  clear hv
  have sx : Hid ((sdV x).length = 42) := Lib.hid (sd_len x)
  have s0 : Hid ((sdV sm0).length = 42) := Lib.hid (sd_len sm0)
  go_upto_region 4 with (first
    | (refine wpList_store_rowTo rfl 53 (.tmp 6) (.tmp 18) rfl rfl v.heap.size (sdV x).toArray rfl rfl 53 _ (heap_alloc_last v _) (szA sz53 sx.out) (by rw [List.size_toArray, List.size_toArray, sx.out, s0.out]) (all_oneCell_toArray (sd_one x)) ?_)
    | fail)
  obtain ⟨M, hM⟩ : ∃ M, v.heap.size = M := ⟨_, rfl⟩
  have R1 : Hid (BL ((v.alloc (Obj.cells (sdV sm0).toArray 53)).setRow v.heap.size (sdV x).toArray) v.heap.size (sdV x) 53) := Lib.hid (setRow_heap _ _ _ _ _ _ (heap_alloc_last v _))
  have B1 : Hid (Below M v ((v.alloc (Obj.cells (sdV sm0).toArray 53)).setRow M (sdV x).toArray)) := Lib.hid (by subst hM; exact below_setRow ((Below.refl _ v).alloc (Nat.le_refl _) _) (Nat.le_refl _) _)
  rw [hM] at R1 ⊢
  generalize (v.alloc (Obj.cells (sdV sm0).toArray 53)).setRow M (sdV x).toArray = u at *
  have B1 : Hid (Below v.heap.size v u) := Lib.hid (by rw [hM]; exact B1.out)
  have HU : Hid (SdAt u (isP S m) x) := Lib.hid (HA.out.grow B1.out)
  have BU : Hid (Below N w u) := Lib.hid (BV.out.trans (B1.out.mono (by have := VS.out; omega)))
  have RU : Hid (BL u N (sdV sm0) 53) := Lib.hid (bl_keep RC.out (B1.out.block N (by have := VS.out; omega)))
  have NU : Hid (N < u.heap.size) := Lib.hid (bl_lt RU.out)
  clear lk c0 HA hM
  go_wp2_with (first
    | (refine wpList_load_midG (by rfl) 53 (.tmp 6) rfl M 0 rfl (sdV x) _ (range_of R1.out) Try.underlying53 rfl (szL sz53 sx.out) ?_)
    | fail)
  refine (kOwn2 _ x u HU.out).mono ?_
  rintro e w1 ⟨x', rfl, o1, o2, o4, o3⟩
  have O1 := Lib.hid o1
  have O2 := Lib.hid o2
  have O3 := Lib.hid o3
  have O4 := Lib.hid o4
  have RW : Hid (BL w1 N (sdV sm0) 53) := Lib.hid (bl_keep RU.out (o3.block N NU.out))
  have sx' : Hid ((sdV x').length = 42) := Lib.hid (sd_len x')
  clear o1 o2 o3 o4
  go_wp2_with (first
    | (refine wpList_store_rowTo rfl 53 (.tmp 4) (.tmp 21) rfl rfl N (sdV x').toArray rfl rfl 53 _ RW.out (szA sz53 sx'.out) (by rw [List.size_toArray, List.size_toArray, sx'.out, s0.out]) (all_oneCell_toArray (sd_one x')) ?_)
    | fail)
  refine bodyPost_ret (v := .tuple #[.agg (sdV x').toArray, .bool D]) (results_sd rfl _ _ N _ _ rfl (range_of (setRow_heap _ _ _ _ _ _ RW.out)) (szL sz53 sx'.out) rfl) rfl ⟨x', rfl, O1.out, ?_, ?_, ?_⟩
  · rw [HN.out]
    exact O2.out.keep (by simp) (fun q _ hq => setRow_other _ _ _ _ fun e => hq (by rw [e]; exact NU.out)) fun q _ hq => by have := NU.out; omega
  · exact O4.out.keep O2.out.K O2.out.U fun q hq hn => setRow_other _ _ _ _ fun e => hn (by rw [e]; exact NU.out)
  · rw [HN.out]
    exact below_setRow (BU.out.trans (O3.out.mono (Nat.le_of_lt NU.out))) (Nat.le_refl _) _
end Go.Proofs.Ytmcmdpbdipgahaa

/-
  RegistryFull: the walk.
-/
namespace Go.Proofs.Ytmcmdpbdipgahaa
open Go.RowKit Go.Maps
set_option maxRecDepth 100000
/-- a record with other numbers that are used -/
def Sm.withU (x : Sm) (r : Rf) : Sm := ⟨x.s, x.K, x.O, x.G, r⟩
theorem sd_withU (x : Sm) (r : Rf) : (sdV x).set 41 (.slice r.A r.n r.c) = sdV (x.withU r) := rfl
theorem sd_c41 {w : World} {b : Nat} {x : Sm} {T : TypeId} (h : BL w b (sdV x) T) : w.cell? ⟨b, 41, none⟩ = some (.slice x.U.A x.U.n x.U.c) := sd_at h (i := 41) rfl
theorem sd_c3 {w : World} {b : Nat} {x : Sm} {T : TypeId} (h : BL w b (sdV x) T) : w.cell? ⟨b, 3, none⟩ = some (.slice x.K.A x.K.n x.K.c) := sd_at h (i := 3) rfl
theorem sideM2 (S : Nat) (m : Option Nat) (xs : List Sm) (i : Nat) (w : World) (h : RegM w S m xs) (hi : i < xs.length) (h100 : xs.length ≤ 100) :
    Calls Try.prog 16 #[.pointer (some ⟨S, 0, none⟩), .int .i64 i] w fun e w' => ∃ x', e = .returned (.tuple #[.agg (sdV x').toArray, .bool true]) ∧ x'.con = (xs.getD i sm0).con ∧ SdAt w' (fun q => q < w.heap.size) x' ∧ SoftS w' x' ∧ Below w.heap.size w w' := by
  refine (rSide2 S m xs i w h (by unfold wfI; omega)).mono ?_
  rintro e w' ⟨x', rfl, k1, k2, k3, k4⟩
  have ha : atS xs (i : Int) = xs.getD i sm0 := by
    unfold atS
    rw [if_pos (by omega), Int.toNat_natCast]
  rw [ha] at k1
  exact ⟨x', by rw [decide_eq_true (by omega)], k1, k2, k3, k4⟩
theorem RfAt.both {w : World} {P P' : Nat → Prop} {sz : Nat} {r : Rf} (h : RfAt w P sz r) (h' : RfAt w P' sz r) : RfAt w (fun q => P q ∨ P' q) sz r := ⟨h.src, h.cap, h.big, fun a ha => ⟨(h.pl a ha).1, (h.pl a ha).2.1, fun hq => hq.elim (h.pl a ha).2.2 (h'.pl a ha).2.2⟩, h.nil⟩
theorem SdAt.both {w : World} {P P' : Nat → Prop} {x : Sm} (h : SdAt w P x) (h' : SdAt w P' x) : SdAt w (fun q => P q ∨ P' q) x := ⟨h.K.both h'.K, h.O.both h'.O, h.G.both h'.G, h.U.both h'.U⟩
theorem SdAt.weak {w : World} {P P' : Nat → Prop} {x : Sm} (h : SdAt w P x) (hp : ∀ q, q < w.heap.size → P' q → P q) : SdAt w P' x := h.keep (Nat.le_refl _) (fun _ _ _ => rfl) hp
/-- a row that is not empty, where it lies -/
theorem rf_at {w : World} {P : Nat → Prop} {sz : Nat} {r : Rf} (h : RfAt w P sz r) (hn : 1 ≤ r.n) : ∃ b o, r.A = some ⟨b, o, none⟩ ∧ b < w.heap.size ∧ ¬ P b ∧ w.rangeAt b o r.ys := by
  rcases h.src.2.2 with h0 | ⟨b, o, e, hl, hr⟩
  · omega
  · exact ⟨b, o, e, hl, (h.pl _ e).2.2, hr⟩
theorem frozen_soft {w : World} {r : Rf} {b o i : Nat} (h : Soft w r) (e : r.A = some ⟨b, o, none⟩) : w.frozen? ⟨b, i, none⟩ = false := by
  obtain ⟨cs, T, hq⟩ := h _ e
  exact free_of hq i
theorem one12 : ∀ u ∈ [Value.int .i64 1, Value.int .i64 2], u.oneCell' = true := by decide
theorem cat8 : (bvals (cat rootS 2)).take 8 = bvals (rootS 0) := by
  rw [cat_succ, cat_succ, cat_zero, List.nil_append]
  unfold bvals
  rw [List.map_append, List.take_left' (by rw [List.length_map, rootS_len])]
theorem c0F_n : c0F.2.1.1 = 2 := rfl
theorem c0F_K : c0F.2.1.2 = bvals (cat rootS 2) := rfl
theorem rf_pair {w : World} {P : Nat → Prop} {G : Nat} {T : TypeId} (h : BL w G [.int .i64 1, .int .i64 2] T) (hp : ¬ P G) : RfAt w P 1 ⟨some ⟨G, 0, none⟩, 2, 2, [.int .i64 1, .int .i64 2]⟩ :=
  ⟨⟨rfl, one12, .inr ⟨G, 0, rfl, bl_lt h, range_of h⟩⟩, Nat.le_refl _, (show (2 : Nat) ≤ 100 by decide), fun a ha => by cases ha; exact ⟨rfl, bl_lt h, hp⟩, fun e => by cases e⟩
theorem reg_away {w6 u8 w9 w10 : World} {S : Nat} {m6 m9 : Option Nat} {xs : List Sm} {x2 : Sm} {i G : Nat} (h6 : RegM w6 S m6 xs) (hb : Below w6.heap.size w6 u8) (hG : w6.heap.size ≤ G) (hG2 : G < u8.heap.size) (h9 : RegM w9 S m9 (putS xs i x2)) (hm : ∀ b, m9 = some b → m6 = some b ∨ u8.heap.size ≤ b) (hf : Fr u8 w9 (isP S m6)) (h5 : SdAt w9 (fun q => q < u8.heap.size) x2) (hw : Fr w9 w10 (fun q => q = G)) :
    RegM w10 S m9 (putS xs i x2) ∧ Fr w6 w10 (isP S m6) ∧ ∀ b, m9 = some b → m6 = some b ∨ w6.heap.size ≤ b := by
  refine ⟨h9.keep hw (fun q hq => ?_) (fun y hy => (h9.rows y hy).both ?_), ?_, fun b e => (hm b e).imp id fun h => Nat.le_trans hb.size h⟩
  · rintro rfl
    rcases hq with e | e
    · have := h6.lt S (.inl rfl); omega
    · rcases hm _ e with e' | e'
      · have := h6.lt _ (.inr e'); omega
      · omega
  · rcases putS_mem hy with hy | rfl
    · exact (h6.rows y hy).keep (Nat.le_trans hb.size hf.size) (fun q hq hn => (hf.block q (Nat.lt_of_lt_of_le hq hb.size) hn).trans (hb.block q hq)) (fun q hq (e : q = G) => by omega)
    · exact h5.weak fun q _ (e : q = G) => by omega
  · exact ((Fr.of_below (P := isP S m6) hb).trans hf (fun q h => .inl h)).trans hw (fun q (e : q = G) => .inr (by omega))
theorem fr_cell (w : World) (G i : Nat) (v : Value) : Fr w (w.setCell ⟨G, i, none⟩ v) (fun q => q = G) := ⟨rfl, rfl, rfl, by rw [World.size_setCell]; exact Nat.le_refl _, fun q _ hn => heap_set1 v w q hn⟩
theorem hid_tail {A B C : Prop} (h : A ∧ B ∧ C) : Hid A ∧ Hid B ∧ Hid C := ⟨Lib.hid h.1, Lib.hid h.2.1, Lib.hid h.2.2⟩
attribute [local irreducible] sdV MapV z0 fnS cat rootS mayP creC fwC con0 cM wpQuiet
set_option maxHeartbeats 16000000 in
theorem q7 (w : World) : Calls Try.prog 7 #[] w fun e w' => e = .returned (.bool true) ∧ Below w.heap.size w w' := by
  obtain ⟨N, hN⟩ : ∃ N, w.heap.size = N := ⟨_, rfl⟩
  have HN := Lib.hid hN
  have AW := Lib.hid rAwake
  have CM : Hid (∀ w, Keys w → Calls Try.prog 11 #[.int .i64 2, .int .i64 1] w fun e w' => ∃ A c, e = .returned (.agg #[.int .i64 4, .int .i64 2, .int .i64 1, .slice A 2 c]) ∧ Src w' A (8 * 2) (cat rootS 2) ∧ 2 ≤ c ∧ c ≤ maxLen ∧ Below w.heap.size w w') := Lib.hid fun w hk => kMade 2 1 w hk (by decide)
  have hz : ∀ w, (zeroValue 53).run Try.prog w = .ok (.agg (sdV sm0).toArray) w := z53
  rw [hN]
  go_enter Try.func7, Try.ntmps7
  go_upto_region 6 with (first
    | (go_at_call 9; refine (AW.out _).mono ?_; clear AW; rintro e w1 ⟨rfl, hb⟩; have B1 := Lib.hid hb; clear hb)
    | (go_at_call 10; refine (rNew _).mono ?_; rintro e w2 ⟨rfl, r1, r2⟩; have R2 := Lib.hid r1; have B2 := Lib.hid r2; clear r1 r2)
    | fail)
  obtain ⟨S, hS⟩ : ∃ S, w1.heap.size = S := ⟨_, rfl⟩
  rw [hS] at R2 B2 ⊢
  have HS : Hid (N ≤ S) := Lib.hid (by rw [← hS, ← HN.out]; exact B1.out.size)
  have F2 : Hid (FI N w w2 S none []) := Lib.hid ⟨⟨[], R2.out, rfl⟩, (show Below N w w1 by rw [← HN.out]; exact B1.out).trans (B2.out.mono HS.out), fun q hq => hq.elim (fun e => by rw [e]; exact HS.out) fun e => (by cases e), by have := R2.out.lt S (.inl rfl); have := HS.out; omega⟩
  have K2 : Hid (Keys w2) := Lib.hid (by have := R2.out.lt S (.inl rfl); unfold Keys; omega)
  clear hS R2 B1 B2
  go_upto_region 7 with (first
    | (go_at_call 11; refine (CM.out _ K2.out).mono ?_; clear CM; rintro e w3 ⟨A, c, rfl, s1, s2, s3, s4⟩; have S1 := Lib.hid s1; have S2 := Lib.hid s2; have S3 := Lib.hid s3; have B3 := Lib.hid s4; clear s1 s2 s3 s4)
    | fail)
  have F4 : Hid (FI N w (w3.alloc (Obj.cells #[.int .i64 4, .int .i64 2, .int .i64 1, .slice A 2 c] 38)) S none []) := Lib.hid ((F2.out.grow B3.out).grow (below_alloc0 w3 _))
  have P4 : Hid (PS (w3.alloc (Obj.cells #[.int .i64 4, .int .i64 2, .int .i64 1, .slice A 2 c] 38)) w3.heap.size A c) := Lib.hid ⟨pb_new rfl 4 2 1 (.slice A 2 c), S1.out.keep (below_alloc0 w3 _).block, S2.out, S3.out⟩
  obtain ⟨B, hB⟩ : ∃ B, w3.heap.size = B := ⟨_, rfl⟩
  rw [hB] at P4 ⊢
  generalize w3.alloc (Obj.cells #[.int .i64 4, .int .i64 2, .int .i64 1, .slice A 2 c] 38) = w4 at *
  clear hB F2 K2 S1 S2 S3 B3
  have F4 : Hid (FI N w w4 S none (List.replicate 0 c0F)) := F4
  go_wp2
  go_loopw [3] (fun iv wr => ∃ (k : Nat) (m : Option Nat), k ≤ 8 ∧ iv = .int .i64 k ∧ FI N w wr S m (List.replicate k c0F) ∧ PS wr B A c) (fun iv _ => 8 - (intOf iv).toNat)
  case atStart => exact ⟨0, none, by decide, rfl, F4.out, P4.out⟩
  case round =>
    clear F4 P4
    obtain ⟨k, m, hk, rfl, hf, hp⟩ := hrel
    have FR := Lib.hid hf
    have PR := Lib.hid hp
    clear hf hp
    by_cases hlt : k < 8
    · have k8 : (k : Int) < 8 := by omega
      have KW : Hid (wrap64 ((k : Int) + 1) = ((k + 1 : Nat) : Int)) := Lib.hid (by unfold wrap64; omega)
      have KW2 : Hid ((k : Int) + 1 = ((k + 1 : Nat) : Int)) := Lib.hid (by omega)
      have CR := crStep FR.out PR.out hk
      rw [if_neg (by omega), if_neg (by omega), if_neg (by omega)] at CR
      have CR := Lib.hid CR
      have HLT := Lib.hid hlt
      clear hk hlt
      go_wp2_with (first
        | (refine wpList_load_midG (by rfl) 38 (.tmp 2) rfl B 0 rfl [.int .i64 4, .int .i64 2, .int .i64 1, .slice A 2 c] _ (pb_range PR.out.pb) Try.underlying38 rfl (pb_info 4 2 1 _) ?_)
        | (go_at_call 12; refine CR.out.mono ?_; clear CR; rintro e w5 ⟨rfl, m5, k1, k2⟩; have F5 := Lib.hid k1; have P5 := Lib.hid k2; clear k1 k2)
        | fail)
      go_roundw
      case rel => exact ⟨k + 1, m5, HLT.out, by first | exact congrArg _ KW.out | exact congrArg _ KW2.out, F5.out, P5.out⟩
      case measure => first | exact meas_up KW.out HLT.out | exact meas_up KW2.out HLT.out
    · have k00 : k = 8 := by omega
      have FR : Hid (FI N w wr S m (List.replicate 8 c0F)) := Lib.hid (by have := FR.out; rwa [k00] at this)
      have k8 : ¬ (k : Int) < 8 := by omega
      have CR := Lib.hid (crStep FR.out PR.out (by decide))
      clear hlt hk k00
      go_upto_region 14 with (first
        | (refine wpList_load_midG (by rfl) 38 (.tmp 2) rfl B 0 rfl [.int .i64 4, .int .i64 2, .int .i64 1, .slice A 2 c] _ (pb_range PR.out.pb) Try.underlying38 rfl (pb_info 4 2 1 _) ?_)
        | (go_at_call 12; refine CR.out.mono ?_; clear CR; rintro e w5 ⟨rfl, m5, k1, k2⟩; have F5 : Hid (FI N w w5 S m5 (List.replicate 8 c0F)) := Lib.hid k1; have P5 := Lib.hid k2; clear k1 k2)
        | fail)
      have CZ := Lib.hid (crZero F5.out P5.out (by rw [List.length_replicate]; decide))
      clear FR PR
      go_upto_region 15 with (first
        | (go_at_call 12; refine CZ.out.mono ?_; clear CZ; rintro e w6 ⟨rfl, m6, k1, k2⟩; have F6 := Lib.hid k1; have P6 := Lib.hid k2; clear k1 k2)
        | fail)
      obtain ⟨xs, hr6, hx6⟩ := F6.out.reg
      have hl6 : xs.length = 8 := by have := congrArg List.length hx6; rw [List.length_map, List.length_replicate] at this; exact this
      have hc6 : (xs.getD 2 sm0).con = c0F := by
        rw [← getD_con, hx6]
        rfl
      have L6 := Lib.hid hl6
      have R6 := Lib.hid hr6
      have C6 := Lib.hid hc6
      have CS2 : Hid (Calls Try.prog 16 #[.pointer (some ⟨S, 0, none⟩), .int .i64 2] w6 fun e w' => ∃ x', e = .returned (.tuple #[.agg (sdV x').toArray, .bool true]) ∧ x'.con = (xs.getD 2 sm0).con ∧ SdAt w' (fun q => q < w6.heap.size) x' ∧ SoftS w' x' ∧ Below w6.heap.size w6 w') := Lib.hid (sideM2 S m6 xs 2 w6 hr6 (by omega) (by omega))
      have s0 : Hid ((sdV sm0).length = 42) := Lib.hid (sd_len sm0)
      clear hr6 hl6 hc6 hx6 F5 P5
      go_wp2_with fail
      refine CS2.out.mono ?_
      rintro e w7 ⟨x, rfl, x1, x2, x3, hb7⟩
      have XC := Lib.hid x1
      have XA := Lib.hid x2
      have B7 := Lib.hid hb7
      have sx : Hid ((sdV x).length = 42) := Lib.hid (sd_len x)
      clear x1 x2 x3 hb7 CS2
      go_upto_region 16 with (first
        | (refine wpList_store_rowTo rfl 53 (.tmp 10) (.tmp 50) rfl rfl w7.heap.size (sdV x).toArray rfl rfl 53 _ (heap_alloc_last w7 _) (szA sz53 sx.out) (by rw [List.size_toArray, List.size_toArray, sx.out, s0.out]) (all_oneCell_toArray (sd_one x)) ?_)
        | fail)
      have RX : Hid (BL ((w7.alloc (Obj.cells (sdV sm0).toArray 53)).setRow w7.heap.size (sdV x).toArray) w7.heap.size (sdV x) 53) := Lib.hid (setRow_heap _ _ _ _ _ _ (heap_alloc_last w7 _))
      have BX : Hid (Below w7.heap.size w7 ((w7.alloc (Obj.cells (sdV sm0).toArray 53)).setRow w7.heap.size (sdV x).toArray)) := Lib.hid (below_setRow ((Below.refl _ w7).alloc (Nat.le_refl _) _) (Nat.le_refl _) _)
      generalize (w7.alloc (Obj.cells (sdV sm0).toArray 53)).setRow w7.heap.size (sdV x).toArray = u7 at *
      obtain ⟨X1, hX1⟩ : ∃ X1, w7.heap.size = X1 := ⟨_, rfl⟩
      rw [hX1] at RX BX ⊢
      have HX1 := Lib.hid hX1
      obtain ⟨G, hG⟩ : ∃ G, u7.heap.size = G := ⟨_, rfl⟩
      have HG := Lib.hid hG
      have XG : Hid (X1 < G) := Lib.hid (by rw [← hG]; exact bl_lt RX.out)
      have q41 := sd_c41 RX.out
      have a41 : (u7.alloc (Obj.cells #[.int .i64 1, .int .i64 2] 3)).cell? ⟨X1, 41, none⟩ = some (.slice x.U.A x.U.n x.U.c) := (World.cell?_of_block (w := u7) (a := ⟨X1, 41, none⟩) (Below.heap_alloc _ _ _ (by rw [hG]; exact XG.out))).trans q41
      have f41 : (u7.alloc (Obj.cells #[.int .i64 1, .int .i64 2] 3)).frozen? ⟨X1, 41, none⟩ = false := bl_free (bl_keep RX.out (Below.heap_alloc _ _ _ (by rw [hG]; exact XG.out))) 41
      have RU : Hid (BL ((u7.alloc (Obj.cells #[.int .i64 1, .int .i64 2] 3)).setCell ⟨X1, 41, none⟩ (.slice (some ⟨G, 0, none⟩) 2 2)) X1 (sdV (x.withU ⟨some ⟨G, 0, none⟩, 2, 2, [.int .i64 1, .int .i64 2]⟩)) 53) := Lib.hid (by
        have := bl_set (bl_keep RX.out (Below.heap_alloc u7 (Obj.cells #[.int .i64 1, .int .i64 2] 3) X1 (by rw [hG]; exact XG.out))) 41 (.slice (some ⟨G, 0, none⟩) 2 2)
        rw [show (Value.slice (some ⟨G, 0, none⟩) 2 2) = .slice (⟨some ⟨G, 0, none⟩, 2, 2, [.int .i64 1, .int .i64 2]⟩ : Rf).A 2 2 from rfl] at this
        exact (sd_withU x ⟨some ⟨G, 0, none⟩, 2, 2, [.int .i64 1, .int .i64 2]⟩) ▸ this)
      have RG : Hid (((u7.alloc (Obj.cells #[.int .i64 1, .int .i64 2] 3)).setCell ⟨X1, 41, none⟩ (.slice (some ⟨G, 0, none⟩) 2 2)).heap[G]? = some (.cells #[.int .i64 1, .int .i64 2] 3 (0, 0))) := Lib.hid ((heap_set1 _ _ _ (by have := XG.out; omega)).trans (by rw [← hG]; exact heap_alloc_last u7 _))
      have BU : Hid (Below X1 u7 ((u7.alloc (Obj.cells #[.int .i64 1, .int .i64 2] 3)).setCell ⟨X1, 41, none⟩ (.slice (some ⟨G, 0, none⟩) 2 2))) := Lib.hid (((Below.refl X1 u7).alloc (by rw [hG]; exact Nat.le_of_lt XG.out) _).setCell (Nat.le_refl _) _)
      have SU : Hid (((u7.alloc (Obj.cells #[.int .i64 1, .int .i64 2] 3)).setCell ⟨X1, 41, none⟩ (.slice (some ⟨G, 0, none⟩) 2 2)).heap.size = G + 1) := Lib.hid (by rw [World.size_setCell, World.size_alloc, hG])
      clear hX1
      go_upto_region 17 with (fail)
      generalize ((u7.alloc (Obj.cells #[.int .i64 1, .int .i64 2] 3)).setCell ⟨X1, 41, none⟩ (.slice (some ⟨G, 0, none⟩) 2 2)) = u8 at *
      clear q41 a41 f41 hG
      have W76 : Hid (w6.heap.size ≤ X1) := Lib.hid (by rw [← HX1.out]; exact B7.out.size)
      have BW8 : Hid (Below w6.heap.size w6 u8) := Lib.hid (B7.out.trans ((BX.out.mono W76.out).trans (BU.out.mono W76.out)))
      have XA8 : SdAt u8 (isP S m6) x := (XA.out.grow (by rw [HX1.out]; exact BX.out.trans BU.out)).weak fun q _ hq => R6.out.lt q hq
      obtain ⟨xU, hxU⟩ : ∃ y, x.withU ⟨some ⟨G, 0, none⟩, 2, 2, [.int .i64 1, .int .i64 2]⟩ = y := ⟨_, rfl⟩
      have hcU : xU.con = (c0F.1, c0F.2.1, c0F.2.2.1, c0F.2.2.2.1, (2, [.int .i64 1, .int .i64 2])) := by
        rw [← hxU, ← (XC.out.trans C6.out)]
        rfl
      have hUU : xU.U = ⟨some ⟨G, 0, none⟩, 2, 2, [.int .i64 1, .int .i64 2]⟩ := by rw [← hxU]; rfl
      have XU : SdAt u8 (isP S m6) xU := by
        rw [← hxU]
        exact ⟨XA8.K, XA8.O, XA8.G, rf_pair RG.out fun hp => by have := R6.out.lt G hp; have := W76.out; have := XG.out; omega⟩
      rw [hxU] at RU
      have CU := Lib.hid hcU
      have UU := Lib.hid hUU
      have sU : Hid ((sdV xU).length = 42) := Lib.hid (sd_len xU)
      have CST : Hid (Calls Try.prog 17 #[.pointer (some ⟨S, 0, none⟩), .int .i64 2, .agg (sdV xU).toArray] u8 fun e w' => e = .returned (.bool true) ∧ ∃ m' x', x'.con = xU.con ∧ RegM w' S m' (putS xs 2 x') ∧ (∀ b, m' = some b → m6 = some b ∨ u8.heap.size ≤ b) ∧ Fr u8 w' (isP S m6) ∧ SdAt w' (fun q => q < u8.heap.size) x') := Lib.hid (rSetYes S m6 xs 2 xU u8 (R6.out.grow BW8.out) (by have := L6.out; omega) (by have := L6.out; omega) XU)
      clear XA8 hxU hcU hUU XU BX BU RX B7 XA
      go_upto_region 18 with (first
        | (refine wpList_load_midG (by rfl) 53 (.tmp 10) rfl X1 0 rfl (sdV xU) _ (range_of RU.out) Try.underlying53 rfl (szL sz53 sU.out) ?_)
        | (go_at_call 17; refine CST.out.mono ?_; clear CST; rintro e w9 ⟨rfl, m9, x2, k1, k2, k3, k4, k5⟩; have Y1 := Lib.hid k1; have Y2 := Lib.hid k2; have Y3 := Lib.hid k3; have Y4 := Lib.hid k4; have Y5 := Lib.hid k5; clear k1 k2 k3 k4 k5)
        | fail)
      have nX : ¬ isP S m6 X1 := fun hp => by have := R6.out.lt X1 hp; have := W76.out; omega
      have nG : ¬ isP S m6 G := fun hp => by have := R6.out.lt G hp; have := W76.out; have := XG.out; omega
      have RU9 : Hid (BL w9 X1 (sdV xU) 53) := Lib.hid (bl_keep RU.out (Y4.out.block X1 (bl_lt RU.out) nX))
      have RG9 : Hid (BL w9 G [.int .i64 1, .int .i64 2] 3) := Lib.hid (bl_keep RG.out (Y4.out.block G (lt_of_block RG.out) nG))
      have q41 := sd_c41 RU9.out
      rw [UU.out] at q41
      have f0 := bl_free RG9.out 0
      have g0 : w9.cell? ⟨G, 0, none⟩ = some (.int .i64 1) := by have := range_of RG9.out 0 _ rfl; rwa [Nat.zero_add] at this
      clear nX nG
      go_upto_region 19 with (fail)
      have AW9 := reg_away R6.out BW8.out (by have := W76.out; have := XG.out; omega) (lt_of_block RG.out) Y2.out Y3.out Y4.out Y5.out (fr_cell w9 G 0 (.int .i64 9))
      obtain ⟨AW1, AW2, AW3⟩ := hid_tail AW9
      clear AW9
      have RU10 : Hid (BL (w9.setCell ⟨G, 0, none⟩ (.int .i64 9)) X1 (sdV xU) 53) := Lib.hid (bl_keep RU9.out (heap_set1 _ _ _ (by have := XG.out; omega)))
      have P10 : Hid (PS (w9.setCell ⟨G, 0, none⟩ (.int .i64 9)) B A c) := Lib.hid (P6.out.turn ⟨xs, R6.out, rfl⟩ AW2.out)
      have F10 : Hid (FI N w (w9.setCell ⟨G, 0, none⟩ (.int .i64 9)) S m9 ((putS xs 2 x2).map Sm.con)) := Lib.hid (F6.out.turn ⟨_, AW1.out, rfl⟩ AW3.out AW2.out)
      generalize w9.setCell ⟨G, 0, none⟩ (.int .i64 9) = w10 at *
      clear q41 f0 g0 RU9 RG9 AW2 AW3 Y2 Y3 Y4 Y5 RU RG BW8 HX1 HG SU R6 F6 P6
      have hl8 : (putS xs 2 x2).length = 8 := by rw [putS_len, if_pos (by have := L6.out; omega)]; exact L6.out
      have hg2 : (putS xs 2 x2).getD 2 sm0 = x2 := by rw [putS_getD xs 2 2 x2 sm0 (by have := L6.out; omega), if_pos rfl]
      obtain ⟨ys, hys⟩ : ∃ ys, putS xs 2 x2 = ys := ⟨_, rfl⟩
      rw [hys] at hl8 hg2 AW1 F10
      have L8 := Lib.hid hl8
      have SD : Hid (∀ W, Below w10.heap.size w10 W → Calls Try.prog 16 #[.pointer (some ⟨S, 0, none⟩), .int .i64 2] W fun e w' => ∃ x', e = .returned (.tuple #[.agg (sdV x').toArray, .bool true]) ∧ x'.con = (c0F.1, c0F.2.1, c0F.2.2.1, c0F.2.2.2.1, (2, [.int .i64 1, .int .i64 2])) ∧ SdAt w' (fun q => q < W.heap.size) x' ∧ SoftS w' x' ∧ Below W.heap.size W w') := Lib.hid fun W hb => by
        have := sideM2 S m9 ys 2 W (AW1.out.grow hb) (by have := L8.out; omega) (by have := L8.out; omega)
        rw [hg2, Y1.out, CU.out] at this
        exact this
      have B10 : Hid (Below w10.heap.size w10 w10) := Lib.hid (Below.refl _ _)
      clear hl8 hg2 hys
      go_wp2_with fail
      refine (SD.out _ B10.out).mono ?_
      rintro e w11 ⟨y, rfl, y1, y2, y3, hb11⟩
      have YC := Lib.hid y1
      have YA := Lib.hid y2
      have YS := Lib.hid y3
      have B11 := Lib.hid hb11
      have sy : Hid ((sdV y).length = 42) := Lib.hid (sd_len y)
      clear y1 y2 y3 hb11 B10
      go_upto_region 20 with (first
        | (refine wpList_store_rowTo rfl 53 (.tmp 13) (.tmp 63) rfl rfl w11.heap.size (sdV y).toArray rfl rfl 53 _ (heap_alloc_last w11 _) (szA sz53 sy.out) (by rw [List.size_toArray, List.size_toArray, sy.out, s0.out]) (all_oneCell_toArray (sd_one y)) ?_)
        | fail)
      have RY : Hid (BL ((w11.alloc (Obj.cells (sdV sm0).toArray 53)).setRow w11.heap.size (sdV y).toArray) w11.heap.size (sdV y) 53) := Lib.hid (setRow_heap _ _ _ _ _ _ (heap_alloc_last w11 _))
      have BY : Hid (Below w11.heap.size w11 ((w11.alloc (Obj.cells (sdV sm0).toArray 53)).setRow w11.heap.size (sdV y).toArray)) := Lib.hid (below_setRow ((Below.refl _ w11).alloc (Nat.le_refl _) _) (Nat.le_refl _) _)
      generalize (w11.alloc (Obj.cells (sdV sm0).toArray 53)).setRow w11.heap.size (sdV y).toArray = u11 at *
      have hnU : y.U.n = 2 := congrArg (fun c : Con => c.2.2.2.2.1) YC.out
      have hnK : y.K.n = 2 := (congrArg (fun c : Con => c.2.1.1) YC.out).trans c0F_n
      obtain ⟨bU, oU, eU, ltU, geU, rgU⟩ := rf_at YA.out.U (by omega)
      obtain ⟨bK, oK, eK, ltK, geK, rgK⟩ := rf_at YA.out.K (by omega)
      have yU : y.U.ys = [.int .i64 1, .int .i64 2] := congrArg (fun c : Con => c.2.2.2.2.2) YC.out
      have yK : y.K.ys = bvals (cat rootS 2) := (congrArg (fun c : Con => c.2.1.2) YC.out).trans c0F_K
      have q41 := sd_c41 RY.out
      rw [eU, hnU] at q41
      have q3 := sd_c3 RY.out
      rw [eK, hnK] at q3
      obtain ⟨csU, TU, hsU⟩ := YS.out.U _ eU
      obtain ⟨csK, TK, hsK⟩ := YS.out.K _ eK
      have hsU : u11.heap[bU]? = some (.cells csU TU (0, 0)) := (BY.out.block bU ltU).trans hsU
      have hsK : u11.heap[bK]? = some (.cells csK TK (0, 0)) := (BY.out.block bK ltK).trans hsK
      have rgU : u11.rangeAt bU oU y.U.ys := range_keep1 rgU (BY.out.block bU ltU)
      have rgK : u11.rangeAt bK oK y.K.ys := range_keep1 rgK (BY.out.block bK ltK)
      have RgK := Lib.hid rgK
      have fK : Hid (∀ i, u11.frozen? ⟨bK, i, none⟩ = false) := Lib.hid (free_of hsK)
      have fU : u11.frozen? ⟨bU, oU + 1, none⟩ = false := free_of hsU _
      rw [yU] at rgU
      have cU : u11.cell? ⟨bU, oU + 1, none⟩ = some (.int .i64 2) := rgU 1 _ rfl
      have GE : Hid (w10.heap.size ≤ bU ∧ w10.heap.size ≤ bK ∧ bU < w11.heap.size ∧ bK < w11.heap.size) := Lib.hid ⟨by omega, by omega, ltU, ltK⟩
      clear hsU hsK rgK rgU ltU geU ltK geK eU eK hnU hnK yU
      have YK := Lib.hid yK
      clear yK
      go_upto_region 21 with (fail)
      have nb : w11.heap.size ≠ bU := by have := GE.out; omega
      have RY12 : Hid (BL (u11.setCell ⟨bU, oU + 1, none⟩ (.int .i64 9)) w11.heap.size (sdV y) 53) := Lib.hid (bl_keep RY.out (heap_set1 _ _ _ nb))
      have T12 : Hid ((u11.setCell ⟨bU, oU + 1, none⟩ (.int .i64 9)).there bK oK 8) := Lib.hid fun j hj => by
        refine ⟨World.isSome_setCells bU [.int .i64 9] (oU + 1) u11 _ (RgK.out.isSome j ?_), (World.frozen?_setCell _ _ _ _).trans (fK.out _)⟩
        rw [YK.out, bvals_len, cat_len rootS rootS_len]
        omega
      have B12 : Hid (Below w10.heap.size w10 (u11.setCell ⟨bU, oU + 1, none⟩ (.int .i64 9))) := Lib.hid ((B11.out.trans (BY.out.mono B11.out.size)).setCell GE.out.1 _)
      have q3' : (u11.setCell ⟨bU, oU + 1, none⟩ (.int .i64 9)).cell? ⟨w11.heap.size, 3, none⟩ = some (.slice (some ⟨bK, oK, none⟩) 2 y.K.c) := by
        rw [← q3]
        exact World.cell?_of_block (w := u11) (a := ⟨w11.heap.size, 3, none⟩) (heap_set1 _ _ _ nb)
      generalize u11.setCell ⟨bU, oU + 1, none⟩ (.int .i64 9) = u12 at *
      clear q41 q3 fU cU nb RY BY RgK fK YS YA
      go_upto_region 22 with (first
        | (refine wpList_store_mid rfl 31 (.tmp 72) (.tmp 71) rfl bK oK #[.int .u8 0, .int .u8 0, .int .u8 0, .int .u8 0, .int .u8 0, .int .u8 0, .int .u8 0, .int .u8 0] rfl rfl T12.out (sz s27 rfl) (by kernel_rfl) ?_)
        | fail)
      have B13 : Hid (Below w10.heap.size w10 (u12.setCells bK oK (#[.int .u8 0, .int .u8 0, .int .u8 0, .int .u8 0, .int .u8 0, .int .u8 0, .int .u8 0, .int .u8 0] : Array Value).toList)) := Lib.hid (below_setCells GE.out.2.1 _ _ B12.out)
      generalize u12.setCells bK oK (#[.int .u8 0, .int .u8 0, .int .u8 0, .int .u8 0, .int .u8 0, .int .u8 0, .int .u8 0, .int .u8 0] : Array Value).toList = u13 at *
      clear B12 T12 q3' RY12 YK GE B11 YC
      go_wp2_with fail
      refine (SD.out _ B13.out).mono ?_
      rintro e w14 ⟨z, rfl, z1, z2, z3, hb14⟩
      have ZC := Lib.hid z1
      have ZA := Lib.hid z2
      have B14 := Lib.hid hb14
      have sz' : Hid ((sdV z).length = 42) := Lib.hid (sd_len z)
      clear z1 z2 z3 hb14 SD
      go_upto_region 23 with (first
        | (refine wpList_store_rowTo rfl 53 (.tmp 15) (.tmp 76) rfl rfl w14.heap.size (sdV z).toArray rfl rfl 53 _ (heap_alloc_last w14 _) (szA sz53 sz'.out) (by rw [List.size_toArray, List.size_toArray, sz'.out, s0.out]) (all_oneCell_toArray (sd_one z)) ?_)
        | fail)
      have RZ : Hid (BL ((w14.alloc (Obj.cells (sdV sm0).toArray 53)).setRow w14.heap.size (sdV z).toArray) w14.heap.size (sdV z) 53) := Lib.hid (setRow_heap _ _ _ _ _ _ (heap_alloc_last w14 _))
      have BZ0 : Hid (Below w14.heap.size w14 ((w14.alloc (Obj.cells (sdV sm0).toArray 53)).setRow w14.heap.size (sdV z).toArray)) := Lib.hid (below_setRow ((Below.refl _ w14).alloc (Nat.le_refl _) _) (Nat.le_refl _) _)
      generalize (w14.alloc (Obj.cells (sdV sm0).toArray 53)).setRow w14.heap.size (sdV z).toArray = wz at *
      have B1z : Hid (Below w10.heap.size w10 wz) := Lib.hid (B13.out.trans ((B14.out.mono B13.out.size).trans (BZ0.out.mono (Nat.le_trans B13.out.size B14.out.size))))
      have RXz : Hid (BL wz X1 (sdV xU) 53) := Lib.hid (bl_keep RU10.out (B1z.out.block X1 (bl_lt RU10.out)))
      have AWz := Lib.hid (AW1.out.grow B1z.out)
      have Pz := Lib.hid (P10.out.grow B1z.out)
      have BFz : Hid (Below N w wz) := Lib.hid (F10.out.bel.trans (B1z.out.mono F10.out.sz))
      have NZ : Hid (N ≤ wz.heap.size) := Lib.hid (Nat.le_trans F10.out.sz B1z.out.size)
      have hnU : z.U.n = 2 := congrArg (fun c : Con => c.2.2.2.2.1) ZC.out
      have hnK : z.K.n = 2 := (congrArg (fun c : Con => c.2.1.1) ZC.out).trans c0F_n
      obtain ⟨bU, oU, eU, ltU, geU, rgU⟩ := rf_at ZA.out.U (by omega)
      obtain ⟨bK, oK, eK, ltK, geK, rgK⟩ := rf_at ZA.out.K (by omega)
      have zU : z.U.ys = [.int .i64 1, .int .i64 2] := congrArg (fun c : Con => c.2.2.2.2.2) ZC.out
      have zK : z.K.ys = bvals (cat rootS 2) := (congrArg (fun c : Con => c.2.1.2) ZC.out).trans c0F_K
      rw [zU] at rgU
      rw [zK] at rgK
      obtain ⟨gP, oP, eP, ltP, geP, rgP⟩ := rf_at (src_rf AWz.out Pz.out.src (by decide) Pz.out.c2 (by decide)) (show (1 : Nat) ≤ 2 by decide)
      have eP : A = some ⟨gP, oP, none⟩ := eP
      have rgP : wz.rangeAt gP oP (bvals (cat rootS 2)) := rgP
      have rgU : wz.rangeAt bU oU [.int .i64 1, .int .i64 2] := range_keep1 rgU (BZ0.out.block bU ltU)
      have rgK : wz.rangeAt bK oK (bvals (cat rootS 2)) := range_keep1 rgK (BZ0.out.block bK ltK)
      have hU : bU < wz.heap.size := Nat.lt_of_lt_of_le ltU BZ0.out.size
      have hK : bK < wz.heap.size := Nat.lt_of_lt_of_le ltK BZ0.out.size
      generalize w14.heap.size = X3 at *
      obtain ⟨Z, hZ⟩ : ∃ Z, wz.heap.size = Z := ⟨_, rfl⟩
      rw [hZ] at hU hK ltP NZ
      obtain ⟨r0, hr0⟩ : ∃ r, rootS 0 = r := ⟨_, rfl⟩
      have lr0 : Hid (r0.length = 8) := Lib.hid (by rw [← hr0]; exact rootS_len 0)
      have rgK8 : wz.rangeAt bK oK (bvals r0) := by rw [← hr0, ← cat8]; exact rng_take rgK
      have rgP8 : wz.rangeAt gP oP (bvals r0) := by rw [← hr0, ← cat8]; exact rng_take rgP
      have BZ : Hid (Below Z wz wz) := Lib.hid (Below.refl _ _)
      have CX1 : ∀ W, Below Z wz W → W.rangeAt X1 0 (sdV xU) := fun W hb => range_keep1 (range_of RXz.out) (hb.block X1 (by rw [← hZ]; exact bl_lt RXz.out))
      have kz : ∀ W, Below Z wz W → BL W X3 (sdV z) 53 := fun W hb => bl_keep RZ.out (hb.block X3 (by rw [← hZ]; exact bl_lt RZ.out))
      have CZ41 : ∀ W, Below Z wz W → W.cell? ⟨X3, 41, none⟩ = some (.slice (some ⟨bU, oU, none⟩) 2 z.U.c) := fun W hb => by
        have := sd_c41 (kz W hb)
        rwa [eU, hnU] at this
      have CZ3 : ∀ W, Below Z wz W → W.cell? ⟨X3, 3, none⟩ = some (.slice (some ⟨bK, oK, none⟩) 2 z.K.c) := fun W hb => by
        have := sd_c3 (kz W hb)
        rwa [eK, hnK] at this
      have CZU : ∀ W, Below Z wz W → W.rangeAt bU oU [.int .i64 1, .int .i64 2] := fun W hb => range_keep1 rgU (hb.block bU hU)
      have CZ0 : ∀ W, Below Z wz W → W.cell? ⟨bU, oU, none⟩ = some (.int .i64 1) := fun W hb => CZU W hb 0 _ rfl
      have CZ1 : ∀ W, Below Z wz W → W.cell? ⟨bU, oU + 1, none⟩ = some (.int .i64 2) := fun W hb => CZU W hb 1 _ rfl
      have CZK : ∀ W, Below Z wz W → W.rangeAt bK oK (bvals r0) := fun W hb => range_keep1 rgK8 (hb.block bK hK)
      have CPK : ∀ W, Below Z wz W → W.rangeAt gP oP (bvals r0) := fun W hb => range_keep1 rgP8 (hb.block gP ltP)
      have CB3 : ∀ W, Below Z wz W → W.cell? ⟨B, 3, none⟩ = some (.slice (some ⟨gP, oP, none⟩) 2 c) := fun W hb => by
        have hp := pb_range Pz.out.pb
        rw [eP] at hp
        exact range_keep1 hp (hb.block B (by rw [← hZ]; exact Pz.out.lt)) 3 _ rfl
      have up : ∀ {W w' : World}, Below Z wz W → Below W.heap.size W w' → Below Z wz w' := fun hb g => hb.trans (g.mono (by have := hb.size; rw [hZ] at this; exact this))
      have K8 : Hid (∀ W, Below Z wz W → Calls Try.prog 17 #[.pointer (some ⟨S, 0, none⟩), .int .i64 8, .agg (sdV xU).toArray] W fun e1 w' => e1 = .returned (.bool false) ∧ Below Z wz w') := Lib.hid fun W hb => (rSetNo S m9 ys 8 xU W (AWz.out.grow (by rw [hZ]; exact hb)) (by have := L8.out; omega) (by have := L8.out; omega)).mono fun e1 w' g => ⟨g.1, up hb g.2⟩
      have KM : Hid (∀ W, Below Z wz W → Calls Try.prog 17 #[.pointer (some ⟨S, 0, none⟩), .int .i64 (-1), .agg (sdV xU).toArray] W fun e1 w' => e1 = .returned (.bool false) ∧ Below Z wz w') := Lib.hid fun W hb => (rSetNo S m9 ys (-1) xU W (AWz.out.grow (by rw [hZ]; exact hb)) (by have := L8.out; omega) (by omega)).mono fun e1 w' g => ⟨g.1, up hb g.2⟩
      clear up kz CZU rgU rgK rgP rgK8 rgP8 hZ hr0 eP eU eK hnU hnK ltU geU ltK geK geP zU zK AWz Pz RXz B1z AW1 L8 F10 P10 RU10 B13 B14 BZ0 RZ ZA ZC
      refine wp_region_class (C := fun W => Below Z wz W) (by kernel_rfl) (by kernel_rfl) (BZ.out.drew) ?_
      refine wpQuiet_step (fun K hK => ?_)
      refine quiet_val (by rfl) (v := ?_) ?_ (hK _ ?_)
      rotate_left
      · (intro w hSw; go_simp; try with_reducible rfl)
      clear hK K
      simp only [Act.put, List.setIfInBounds_toArray, List.set_cons_zero, List.set_cons_succ]
      refine wpQuiet_step (fun K hK => ?_)
      refine quiet_val (by rfl) (v := .bool true) (fun w hSw => ?_) (hK _ ?_)
      · (go_simp; first | done | (simp; done))
      clear hK K
      simp only [Act.put, List.setIfInBounds_toArray, List.set_cons_zero, List.set_cons_succ]
      refine wpQuiet_step (fun K hK => ?_)
      refine quiet_val (by rfl) (v := ?_) ?_ (hK _ ?_)
      rotate_left
      · (intro w hSw; go_simp; try with_reducible rfl)
      clear hK K
      simp only [Act.put, List.setIfInBounds_toArray, List.set_cons_zero, List.set_cons_succ]
      refine wpQuiet_step (fun K hK => ?_)
      refine quiet_val (by rfl) (v := ?_) ?_ (hK _ ?_)
      rotate_left
      · (intro w hSw; go_simp; try with_reducible rfl)
      clear hK K
      simp only [Act.put, List.setIfInBounds_toArray, List.set_cons_zero, List.set_cons_succ]
      refine wpQuiet_step (fun K hK => ?_)
      refine quiet_val (by rfl) (v := .bool true) (fun w hSw => ?_) (hK _ ?_)
      · (go_simp; first | done | (simp; done))
      clear hK K
      simp only [Act.put, List.setIfInBounds_toArray, List.set_cons_zero, List.set_cons_succ]
      refine wpQuiet_step (fun K hK => ?_)
      refine quiet_val (by rfl) (v := ?_) ?_ (hK _ ?_)
      rotate_left
      · (intro w hSw; go_simp; try with_reducible rfl)
      clear hK K
      simp only [Act.put, List.setIfInBounds_toArray, List.set_cons_zero, List.set_cons_succ]
      refine wpQuiet_step (fun K hK => ?_)
      refine quiet_val (by rfl) (v := ?_) ?_ (hK _ ?_)
      rotate_left
      · (intro w hSw; go_simp; try with_reducible rfl)
      clear hK K
      simp only [Act.put, List.setIfInBounds_toArray, List.set_cons_zero, List.set_cons_succ]
      refine wpQuiet_step (fun K hK => ?_)
      refine quiet_val (by rfl) (v := ?_) ?_ (hK _ ?_)
      rotate_left
      · (intro w hSw; go_simp; try with_reducible rfl)
      clear hK K
      simp only [Act.put, List.setIfInBounds_toArray, List.set_cons_zero, List.set_cons_succ]
      refine wpQuiet_step (fun K hK => ?_)
      refine quiet_val (by rfl) (v := ?_) ?_ (hK _ ?_)
      rotate_left
      · (intro w hSw; go_simp; try with_reducible rfl)
      clear hK K
      simp only [Act.put, List.setIfInBounds_toArray, List.set_cons_zero, List.set_cons_succ]
      refine wpQuiet_step (fun K hK => ?_)
      refine quiet_val (by rfl) (v := ?_) ?_ (hK _ ?_)
      rotate_left
      · (intro w hSw; go_simp; try with_reducible rfl)
      clear hK K
      simp only [Act.put, List.setIfInBounds_toArray, List.set_cons_zero, List.set_cons_succ]
      refine wpQuiet_step (fun K hK => ?_)
      refine quiet_val (by rfl) (v := ?_) ?_ (hK _ ?_)
      rotate_left
      · (intro w hSw; go_simp; try with_reducible rfl)
      clear hK K
      simp only [Act.put, List.setIfInBounds_toArray, List.set_cons_zero, List.set_cons_succ]
      refine wpQuiet_step (fun K hK => ?_)
      refine quiet_load (by rfl) 53 (.tmp 10) rfl X1 (0) rfl (sdV xU) _ (fun w h => CX1 w h) Try.underlying53 rfl (szL sz53 sU.out) (hK _ ?_)
      clear hK K
      simp only [Act.put, List.setIfInBounds_toArray, List.set_cons_zero, List.set_cons_succ]
      refine wpQuiet_step (fun K hK => ?_)
      refine quiet_call (by rfl) 17 #[.pointer (some ⟨S, 0, none⟩), .int .i64 8, .agg (sdV xU).toArray] ?_ (fun w hw => K8.out w hw) (hK _ ?_)
      · (intro w hSw; go_simp; try with_reducible rfl)
      clear hK K
      simp only [Act.put, List.setIfInBounds_toArray, List.set_cons_zero, List.set_cons_succ]
      refine wpQuiet_step (fun K hK => ?_)
      refine quiet_val (by rfl) (v := ?_) ?_ (hK _ ?_)
      rotate_left
      · (intro w hSw; go_simp; try with_reducible rfl)
      clear hK K
      simp only [Act.put, List.setIfInBounds_toArray, List.set_cons_zero, List.set_cons_succ]
      refine wpQuiet_step (fun K hK => ?_)
      refine quiet_val (by rfl) (v := ?_) ?_ (hK _ ?_)
      rotate_left
      · (intro w hSw; go_simp; try with_reducible rfl)
      clear hK K
      simp only [Act.put, List.setIfInBounds_toArray, List.set_cons_zero, List.set_cons_succ]
      refine wpQuiet_step (fun K hK => ?_)
      refine quiet_val (by rfl) (v := ?_) ?_ (hK _ ?_)
      rotate_left
      · (intro w hSw; go_simp; try with_reducible rfl)
      clear hK K
      simp only [Act.put, List.setIfInBounds_toArray, List.set_cons_zero, List.set_cons_succ]
      refine wpQuiet_step (fun K hK => ?_)
      refine quiet_val (by rfl) (v := ?_) ?_ (hK _ ?_)
      rotate_left
      · (intro w hSw; go_simp; try with_reducible rfl)
      clear hK K
      simp only [Act.put, List.setIfInBounds_toArray, List.set_cons_zero, List.set_cons_succ]
      refine wpQuiet_step (fun K hK => ?_)
      refine quiet_load (by rfl) 53 (.tmp 10) rfl X1 (0) rfl (sdV xU) _ (fun w h => CX1 w h) Try.underlying53 rfl (szL sz53 sU.out) (hK _ ?_)
      clear hK K
      simp only [Act.put, List.setIfInBounds_toArray, List.set_cons_zero, List.set_cons_succ]
      refine wpQuiet_step (fun K hK => ?_)
      refine quiet_call (by rfl) 17 #[.pointer (some ⟨S, 0, none⟩), .int .i64 (-1), .agg (sdV xU).toArray] ?_ (fun w hw => KM.out w hw) (hK _ ?_)
      · (intro w hSw; go_simp; try with_reducible rfl)
      clear hK K
      simp only [Act.put, List.setIfInBounds_toArray, List.set_cons_zero, List.set_cons_succ]
      refine wpQuiet_step (fun K hK => ?_)
      refine quiet_val (by rfl) (v := ?_) ?_ (hK _ ?_)
      rotate_left
      · (intro w hSw; go_simp; try with_reducible rfl)
      clear hK K
      simp only [Act.put, List.setIfInBounds_toArray, List.set_cons_zero, List.set_cons_succ]
      refine wpQuiet_step (fun K hK => ?_)
      refine quiet_val (by rfl) (v := ?_) ?_ (hK _ ?_)
      rotate_left
      · (intro w hSw; go_simp; try with_reducible rfl)
      clear hK K
      simp only [Act.put, List.setIfInBounds_toArray, List.set_cons_zero, List.set_cons_succ]
      refine wpQuiet_step (fun K hK => ?_)
      refine quiet_val (by rfl) (v := ?_) ?_ (hK _ ?_)
      rotate_left
      · (intro w hSw; go_simp; try with_reducible rfl)
      clear hK K
      simp only [Act.put, List.setIfInBounds_toArray, List.set_cons_zero, List.set_cons_succ]
      refine wpQuiet_step (fun K hK => ?_)
      refine quiet_val (by rfl) (v := ?_) ?_ (hK _ ?_)
      rotate_left
      · (intro w hSw; go_simp; try with_reducible rfl)
      clear hK K
      simp only [Act.put, List.setIfInBounds_toArray, List.set_cons_zero, List.set_cons_succ]
      refine wpQuiet_step (fun K hK => ?_)
      refine quiet_val (by rfl) (v := ?_) ?_ (hK _ ?_)
      rotate_left
      · (intro w hSw; have z := CZ41 w hSw; go_simp; try with_reducible rfl)
      clear hK K
      simp only [Act.put, List.setIfInBounds_toArray, List.set_cons_zero, List.set_cons_succ]
      refine wpQuiet_step (fun K hK => ?_)
      refine quiet_val (by rfl) (v := ?_) ?_ (hK _ ?_)
      rotate_left
      · (intro w hSw; go_simp; try with_reducible rfl)
      clear hK K
      simp only [Act.put, List.setIfInBounds_toArray, List.set_cons_zero, List.set_cons_succ]
      refine wpQuiet_step (fun K hK => ?_)
      refine quiet_val (by rfl) (v := .bool true) (fun w hSw => ?_) (hK _ ?_)
      · (go_simp; first | done | (simp; done))
      clear hK K
      simp only [Act.put, List.setIfInBounds_toArray, List.set_cons_zero, List.set_cons_succ]
      refine wpQuiet_step (fun K hK => ?_)
      refine quiet_val (by rfl) (v := ?_) ?_ (hK _ ?_)
      rotate_left
      · (intro w hSw; go_simp; try with_reducible rfl)
      clear hK K
      simp only [Act.put, List.setIfInBounds_toArray, List.set_cons_zero, List.set_cons_succ]
      refine wpQuiet_step (fun K hK => ?_)
      refine quiet_val (by rfl) (v := ?_) ?_ (hK _ ?_)
      rotate_left
      · (intro w hSw; go_simp; try with_reducible rfl)
      clear hK K
      simp only [Act.put, List.setIfInBounds_toArray, List.set_cons_zero, List.set_cons_succ]
      refine wpQuiet_step (fun K hK => ?_)
      refine quiet_val (by rfl) (v := ?_) ?_ (hK _ ?_)
      rotate_left
      · (intro w hSw; go_simp; try with_reducible rfl)
      clear hK K
      simp only [Act.put, List.setIfInBounds_toArray, List.set_cons_zero, List.set_cons_succ]
      refine wpQuiet_step (fun K hK => ?_)
      refine quiet_val (by rfl) (v := ?_) ?_ (hK _ ?_)
      rotate_left
      · (intro w hSw; have z := CZ41 w hSw; go_simp; try with_reducible rfl)
      clear hK K
      simp only [Act.put, List.setIfInBounds_toArray, List.set_cons_zero, List.set_cons_succ]
      refine wpQuiet_step (fun K hK => ?_)
      refine quiet_val (by rfl) (v := ?_) ?_ (hK _ ?_)
      rotate_left
      · (intro w hSw; go_simp; try with_reducible rfl)
      clear hK K
      simp only [Act.put, List.setIfInBounds_toArray, List.set_cons_zero, List.set_cons_succ]
      refine wpQuiet_step (fun K hK => ?_)
      refine quiet_val (by rfl) (v := ?_) ?_ (hK _ ?_)
      rotate_left
      · (intro w hSw; have z := CZ0 w hSw; go_simp; try with_reducible rfl)
      clear hK K
      simp only [Act.put, List.setIfInBounds_toArray, List.set_cons_zero, List.set_cons_succ]
      refine wpQuiet_step (fun K hK => ?_)
      refine quiet_val (by rfl) (v := .bool true) (fun w hSw => ?_) (hK _ ?_)
      · (go_simp; first | done | (simp; done))
      clear hK K
      simp only [Act.put, List.setIfInBounds_toArray, List.set_cons_zero, List.set_cons_succ]
      refine wpQuiet_step (fun K hK => ?_)
      refine quiet_val (by rfl) (v := ?_) ?_ (hK _ ?_)
      rotate_left
      · (intro w hSw; go_simp; try with_reducible rfl)
      clear hK K
      simp only [Act.put, List.setIfInBounds_toArray, List.set_cons_zero, List.set_cons_succ]
      refine wpQuiet_step (fun K hK => ?_)
      refine quiet_val (by rfl) (v := ?_) ?_ (hK _ ?_)
      rotate_left
      · (intro w hSw; go_simp; try with_reducible rfl)
      clear hK K
      simp only [Act.put, List.setIfInBounds_toArray, List.set_cons_zero, List.set_cons_succ]
      refine wpQuiet_step (fun K hK => ?_)
      refine quiet_val (by rfl) (v := ?_) ?_ (hK _ ?_)
      rotate_left
      · (intro w hSw; go_simp; try with_reducible rfl)
      clear hK K
      simp only [Act.put, List.setIfInBounds_toArray, List.set_cons_zero, List.set_cons_succ]
      refine wpQuiet_step (fun K hK => ?_)
      refine quiet_val (by rfl) (v := ?_) ?_ (hK _ ?_)
      rotate_left
      · (intro w hSw; have z := CZ41 w hSw; go_simp; try with_reducible rfl)
      clear hK K
      simp only [Act.put, List.setIfInBounds_toArray, List.set_cons_zero, List.set_cons_succ]
      refine wpQuiet_step (fun K hK => ?_)
      refine quiet_val (by rfl) (v := ?_) ?_ (hK _ ?_)
      rotate_left
      · (intro w hSw; go_simp; try with_reducible rfl)
      clear hK K
      simp only [Act.put, List.setIfInBounds_toArray, List.set_cons_zero, List.set_cons_succ]
      refine wpQuiet_step (fun K hK => ?_)
      refine quiet_val (by rfl) (v := ?_) ?_ (hK _ ?_)
      rotate_left
      · (intro w hSw; have z := CZ1 w hSw; go_simp; try with_reducible rfl)
      clear hK K
      simp only [Act.put, List.setIfInBounds_toArray, List.set_cons_zero, List.set_cons_succ]
      refine wpQuiet_step (fun K hK => ?_)
      refine quiet_val (by rfl) (v := .bool true) (fun w hSw => ?_) (hK _ ?_)
      · (go_simp; first | done | (simp; done))
      clear hK K
      simp only [Act.put, List.setIfInBounds_toArray, List.set_cons_zero, List.set_cons_succ]
      refine wpQuiet_step (fun K hK => ?_)
      refine quiet_val (by rfl) (v := ?_) ?_ (hK _ ?_)
      rotate_left
      · (intro w hSw; go_simp; try with_reducible rfl)
      clear hK K
      simp only [Act.put, List.setIfInBounds_toArray, List.set_cons_zero, List.set_cons_succ]
      refine wpQuiet_step (fun K hK => ?_)
      refine quiet_val (by rfl) (v := ?_) ?_ (hK _ ?_)
      rotate_left
      · (intro w hSw; go_simp; try with_reducible rfl)
      clear hK K
      simp only [Act.put, List.setIfInBounds_toArray, List.set_cons_zero, List.set_cons_succ]
      refine wpQuiet_step (fun K hK => ?_)
      refine quiet_val (by rfl) (v := ?_) ?_ (hK _ ?_)
      rotate_left
      · (intro w hSw; go_simp; try with_reducible rfl)
      clear hK K
      simp only [Act.put, List.setIfInBounds_toArray, List.set_cons_zero, List.set_cons_succ]
      refine wpQuiet_step (fun K hK => ?_)
      refine quiet_val (by rfl) (v := ?_) ?_ (hK _ ?_)
      rotate_left
      · (intro w hSw; go_simp; try with_reducible rfl)
      clear hK K
      simp only [Act.put, List.setIfInBounds_toArray, List.set_cons_zero, List.set_cons_succ]
      refine wpQuiet_step (fun K hK => ?_)
      refine quiet_val (by rfl) (v := ?_) ?_ (hK _ ?_)
      rotate_left
      · (intro w hSw; have z := CZ3 w hSw; go_simp; try with_reducible rfl)
      clear hK K
      simp only [Act.put, List.setIfInBounds_toArray, List.set_cons_zero, List.set_cons_succ]
      refine wpQuiet_step (fun K hK => ?_)
      refine quiet_val (by rfl) (v := ?_) ?_ (hK _ ?_)
      rotate_left
      · (intro w hSw; go_simp; try with_reducible rfl)
      clear hK K
      simp only [Act.put, List.setIfInBounds_toArray, List.set_cons_zero, List.set_cons_succ]
      refine wpQuiet_step (fun K hK => ?_)
      refine quiet_load (by rfl) 31 (.tmp 123) rfl bK (oK) rfl (bvals r0) _ (fun w h => CZK w h) Try.underlying31 rfl (szL s27 (by rw [bvals_len]; exact lr0.out)) (hK _ ?_)
      clear hK K
      simp only [Act.put, List.setIfInBounds_toArray, List.set_cons_zero, List.set_cons_succ]
      refine wpQuiet_step (fun K hK => ?_)
      refine quiet_val (by rfl) (v := ?_) ?_ (hK _ ?_)
      rotate_left
      · (intro w hSw; go_simp; try with_reducible rfl)
      clear hK K
      simp only [Act.put, List.setIfInBounds_toArray, List.set_cons_zero, List.set_cons_succ]
      refine wpQuiet_step (fun K hK => ?_)
      refine quiet_val (by rfl) (v := ?_) ?_ (hK _ ?_)
      rotate_left
      · (intro w hSw; have z := CB3 w hSw; go_simp; try with_reducible rfl)
      clear hK K
      simp only [Act.put, List.setIfInBounds_toArray, List.set_cons_zero, List.set_cons_succ]
      refine wpQuiet_step (fun K hK => ?_)
      refine quiet_val (by rfl) (v := ?_) ?_ (hK _ ?_)
      rotate_left
      · (intro w hSw; go_simp; try with_reducible rfl)
      clear hK K
      simp only [Act.put, List.setIfInBounds_toArray, List.set_cons_zero, List.set_cons_succ]
      refine wpQuiet_step (fun K hK => ?_)
      refine quiet_load (by rfl) 31 (.tmp 127) rfl gP (oP) rfl (bvals r0) _ (fun w h => CPK w h) Try.underlying31 rfl (szL s27 (by rw [bvals_len]; exact lr0.out)) (hK _ ?_)
      clear hK K
      simp only [Act.put, List.setIfInBounds_toArray, List.set_cons_zero, List.set_cons_succ]
      refine wpQuiet_step (fun K hK => ?_)
      refine quiet_val (by rfl) (v := .bool true) (fun w hSw => ?_) (hK _ ?_)
      · (have z := eqhL r0 r0 w lr0.out lr0.out; rw [decide_eq_true rfl] at z; unfold ba at z; go_simp)
      clear hK K
      simp only [Act.put, List.setIfInBounds_toArray, List.set_cons_zero, List.set_cons_succ]
      refine wpQuiet_step (fun K hK => ?_)
      refine quiet_val (by rfl) (v := ?_) ?_ (hK _ ?_)
      rotate_left
      · (intro w hSw; go_simp; try with_reducible rfl)
      clear hK K
      simp only [Act.put, List.setIfInBounds_toArray, List.set_cons_zero, List.set_cons_succ]
      refine wpQuiet_step (fun K hK => ?_)
      refine quiet_val (by rfl) (v := ?_) ?_ (hK _ ?_)
      rotate_left
      · (intro w hSw; go_simp; try with_reducible rfl)
      clear hK K
      simp only [Act.put, List.setIfInBounds_toArray, List.set_cons_zero]
      refine wpQuiet_nil ?_
      intro wq hq
      have BQ : Hid (Below Z wz wq) := Lib.hid hq
      clear hq
      go_wp2
      go_ret
      exact ⟨rfl, BFz.out.trans (BQ.out.mono NZ.out)⟩
end Go.Proofs.Ytmcmdpbdipgahaa
