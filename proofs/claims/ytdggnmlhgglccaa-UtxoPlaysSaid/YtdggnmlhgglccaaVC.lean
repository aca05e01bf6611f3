/-
  Joined: U55, U56.
-/
import Derived.Test.YtdggnmlhgglccaaU45
import Derived.Test.YtdggnmlhgglccaaVA
import Derived.Deep.DeepCutAuto
/-
  The document's Coins: Copy.
-/
namespace Go.Proofs.Ytdggnmlhgglccaa
open Go.RowKit
set_option maxRecDepth 100000
theorem own_srcG {w : World} {base n c sz : Nat} {t : TypeId} {A : Option Addr} {xs : List Value} (h : w.ownsRow base t sz (.slice A n c) n xs) (h1 : ∀ u ∈ xs, u.oneCell' = true) : SrcG w sz A n xs := by
  refine ⟨h.1, h1, ?_⟩
  rcases own_addr h with ⟨_, e, _⟩ | ⟨g, rfl⟩
  · exact .inl e
  · exact .inr ⟨g, 0, rfl, (ownG_rng h).1, (ownG_rng h).2.2⟩
theorem copy_done {w u : World} {B Z : Nat} {ps : List (List Int)} {cs : List Cn} {Q : Nat → Prop} {A A2 A7 A9 : Option Addr} {c c2 c7 c9 : Nat} (hZ : w.heap.size = Z) (d : CoAt w B ps cs Q A A2 c c2) (hb : Below Z w u)
    (r1 : u.ownsRow Z 38 9 (.slice A7 ps.length c7) ps.length (ptsV ps)) (r2 : u.ownsRow Z 42 11 (.slice A9 cs.length c9) cs.length (csV cs)) :
    ∃ B' Q', Ending.returned (.pointer (some ⟨u.heap.size, 0, none⟩)) = Ending.returned (.pointer (some ⟨B', 0, none⟩)) ∧ CoIs (u.alloc (Obj.cells #[.slice A7 ps.length c7, .slice A9 cs.length c9] 30)) B' ps cs Q' ∧ Below Z w (u.alloc (Obj.cells #[.slice A7 ps.length c7, .slice A9 cs.length c9] 30)) ∧ ∀ q, Q' q → Z ≤ q := by
  have zu : Z ≤ u.heap.size := by rw [← hZ]; exact hb.size
  have b3 : Below u.heap.size u (u.alloc (Obj.cells #[.slice A7 ps.length c7, .slice A9 cs.length c9] 30)) := (Below.refl _ u).alloc (Nat.le_refl _) _
  have hs : (u.alloc (Obj.cells #[.slice A7 ps.length c7, .slice A9 cs.length c9] 30)).heap.size = u.heap.size + 1 := by rw [World.size_alloc]
  refine ⟨u.heap.size, fun q => q = u.heap.size ∨ (Value.slice A7 ps.length c7).ownBlock = some q ∨ (Value.slice A9 cs.length c9).ownBlock = some q, rfl, ⟨A7, A9, c7, c9, heap_alloc_last u _, d.len, ?_, ?_, d.okp, d.okc, fun q hq => .inr (.inl hq), fun q hq => .inr (.inr hq), .inl rfl, ?_⟩, hb.trans (b3.mono zu), ?_⟩
  · exact row_keepO (own_le r1 (Nat.zero_le _)) fun g hg => b3.block g (own_blk r1 hg).2
  · exact row_keepO (own_le r2 (Nat.zero_le _)) fun g hg => b3.block g (own_blk r2 hg).2
  · rintro q (rfl | e | e)
    · omega
    · have := (own_blk r1 e).2; omega
    · have := (own_blk r2 e).2; omega
  · rintro q (rfl | e | e)
    · exact zu
    · exact (own_blk r1 e).1
    · exact (own_blk r2 e).1
attribute [local irreducible] ptV cnV zeros ptsV csV
set_option maxHeartbeats 4000000 in
theorem cCopy (B : Nat) (ps : List (List Int)) (cs : List Cn) (Q : Nat → Prop) (w : World) (h : CoIs w B ps cs Q) (hl : ps.length ≤ 1000) :
    Calls Try.prog 9 #[.pointer (some ⟨B, 0, none⟩)] w fun e w' => ∃ B' Q', e = .returned (.pointer (some ⟨B', 0, none⟩)) ∧ CoIs w' B' ps cs Q' ∧ Below w.heap.size w w' ∧ ∀ q, Q' q → w.heap.size ≤ q := by
  obtain ⟨A, A2, c, c2, h⟩ := h
  obtain ⟨Z, hZ⟩ : ∃ Z, w.heap.size = Z := ⟨_, rfl⟩
  have HZ := Lib.hid hZ
  have HD := Lib.hid h
  have HL := Lib.hid hl
  have HE : Hid (cs.length = ps.length) := Lib.hid h.len
  have B0 : Hid (Below Z w w) := Lib.hid (Below.refl _ _)
  have gr : ∀ W, Below Z w W → CoAt W B ps cs Q A A2 c c2 := fun W hb => h.grow (by rw [hZ]; exact hb)
  have C0 : ∀ W, Below Z w W → W.cell? ⟨B, 0, none⟩ = some (.slice A ps.length c) := fun W hb => (gr W hb).c0
  have C1 : ∀ W, Below Z w W → W.cell? ⟨B, 1, none⟩ = some (.slice A2 cs.length c2) := fun W hb => (gr W hb).c1
  have B1z : ∀ {W : World}, Below Z w W → Z ≤ W.heap.size := fun hb => by have := hb.size; omega
  have SRCP : Hid (∀ W, Below Z w W → SrcG W 9 A ps.length (ptsV ps)) := Lib.hid fun W hb => own_srcG (gr W hb).rp (pts_one ps)
  have SRCC : Hid (∀ W, Below Z w W → SrcG W 11 A2 cs.length (csV cs)) := Lib.hid fun W hb => own_srcG (gr W hb).rc (cs_one cs)
  rw [hZ]
  clear h gr hl hZ
  go_enter Try.func9, Try.ntmps9
  go_upto_region 1 with (fail)
  refine wp_region_held_drew (S := fun W : World => Below Z w W) (by kernel_rfl) (B0.out.drew) (fun hHeld => ?_)
  refine wpAnyH_take (i := 0) (v := ?_) rfl (by kernel_rfl) (by kernel_rfl) (by kernel_rfl) (fun _ _ _ h => h) (Or.inl ⟨by rfl, ?_⟩) (by assumption) ?_
  rotate_left
  · (intro w hSw; (try dsimp only at hSw); go_simp; try with_reducible rfl)
  simp only [Act.put, List.getElem_toArray, List.getElem_cons_zero, List.setIfInBounds_toArray, List.set_cons_zero, List.set_cons_succ]
  refine wpAnyH_take (i := 1) (v := ?_) rfl (by kernel_rfl) (by kernel_rfl) (by kernel_rfl) (fun _ _ _ h => h) (Or.inl ⟨by rfl, ?_⟩) (by assumption) ?_
  rotate_left
  · (intro w hSw; (try dsimp only at hSw); go_simp; try with_reducible rfl)
  simp only [Act.put, List.getElem_toArray, List.getElem_cons_succ, List.getElem_cons_zero, List.setIfInBounds_toArray, List.set_cons_zero, List.set_cons_succ]
  refine wpAnyH_take (i := 2) (v := ?_) rfl (by kernel_rfl) (by kernel_rfl) (by kernel_rfl) (fun _ _ _ h => h) (Or.inl ⟨by rfl, ?_⟩) (by assumption) ?_
  rotate_left
  · (intro w hSw; (try dsimp only at hSw); go_simp; try with_reducible rfl)
  simp only [Act.put, List.getElem_toArray, List.getElem_cons_succ, List.getElem_cons_zero, List.setIfInBounds_toArray, List.set_cons_zero, List.set_cons_succ]
  refine wpAnyH_take (i := 3) (v := ?_) rfl (by kernel_rfl) (by kernel_rfl) (by kernel_rfl) (fun _ _ _ h => h) (Or.inl ⟨by rfl, ?_⟩) (by assumption) ?_
  rotate_left
  · (intro w hSw; have z := C0 w hSw; go_simp; try with_reducible rfl)
  simp only [Act.put, List.getElem_toArray, List.getElem_cons_succ, List.getElem_cons_zero, List.setIfInBounds_toArray, List.set_cons_zero, List.set_cons_succ]
  refine wpAnyH_take (i := 5) (v := ?_) rfl (by kernel_rfl) (by kernel_rfl) (by kernel_rfl) (fun _ _ _ h => h) (Or.inl ⟨by rfl, ?_⟩) (by assumption) ?_
  rotate_left
  · (intro w hSw; (try dsimp only at hSw); go_simp; try with_reducible rfl)
  simp only [Act.put, List.getElem_toArray, List.getElem_cons_succ, List.getElem_cons_zero, List.setIfInBounds_toArray, List.set_cons_zero, List.set_cons_succ]
  refine wpAnyH_take (i := 6) (v := ?_) rfl (by kernel_rfl) (by kernel_rfl) (by kernel_rfl) (fun _ _ _ h => h) (Or.inl ⟨by rfl, ?_⟩) (by assumption) ?_
  rotate_left
  · (intro w hSw; (try dsimp only at hSw); go_simp; try with_reducible rfl)
  simp only [Act.put, List.getElem_toArray, List.getElem_cons_succ, List.getElem_cons_zero, List.setIfInBounds_toArray, List.set_cons_zero, List.set_cons_succ]
  refine wpAnyH_take (i := 7) (v := ?_) rfl (by kernel_rfl) (by kernel_rfl) (by kernel_rfl) (fun _ _ _ h => h) (Or.inl ⟨by rfl, ?_⟩) (by assumption) ?_
  rotate_left
  · (intro w hSw; (try dsimp only at hSw); go_simp; try with_reducible rfl)
  simp only [Act.put, List.getElem_toArray, List.getElem_cons_succ, List.getElem_cons_zero, List.setIfInBounds_toArray, List.set_cons_zero, List.set_cons_succ]
  refine wpAnyH_take (i := 8) (v := ?_) rfl (by kernel_rfl) (by kernel_rfl) (by kernel_rfl) (fun _ _ _ h => h) (Or.inl ⟨by rfl, ?_⟩) (by assumption) ?_
  rotate_left
  · (intro w hSw; have z := C1 w hSw; go_simp; try with_reducible rfl)
  simp only [Act.put, List.getElem_toArray, List.getElem_cons_succ, List.getElem_cons_zero, List.setIfInBounds_toArray, List.set_cons_zero, List.set_cons_succ]
  refine wpAnyH_ready (rs := [4]) (by kernel_rfl) (by simp) ?_
  refine AllReadyH.cons rfl (fun K hK => ?_) AllReadyH.nil
  refine step_app0 Try.underlying27 infoPt zPt (by decide) (by decide) rfl (.const (.slice none 0 0)) (.tmp 6) rfl w.drew.heap.size ps.length c (ptsV ps) A rfl rfl (SRCP.out _ (B0.out.drew)) (by have := HL.out; omega) (Nat.le_refl _) ?_
  intro A7 c7 u7 o7 b7
  have B7 : Hid (Below Z w u7) := Lib.hid (B0.out.drew.trans (b7.mono (B1z B0.out.drew)))
  have O7 := Lib.hid o7
  clear o7 b7
  refine hK.out _ _ B7.out (fun hHeld => ?_)
  clear hK K
  (try simp only [Act.put, List.getElem_toArray, List.getElem_cons_succ, List.getElem_cons_zero, List.setIfInBounds_toArray, List.set_cons_zero, List.set_cons_succ])
  refine wpAnyH_ready (rs := [9]) (by kernel_rfl) (by simp) ?_
  refine AllReadyH.cons rfl (fun K hK => ?_) AllReadyH.nil
  refine step_app0 Try.underlying28 infoCn zCn (by decide) (by decide) rfl (.const (.slice none 0 0)) (.tmp 11) rfl u7.heap.size cs.length c2 (csV cs) A2 rfl rfl (SRCC.out _ (B7.out)) (by have := HL.out; have := HE.out; omega) (Nat.le_refl _) ?_
  intro A9 c9 u9 o9 b9
  have BU : Hid (Below Z w u9) := Lib.hid (B7.out.trans (b9.mono (B1z B7.out)))
  have O9 := Lib.hid (own_le o9 (B1z B7.out))
  have O7b : Hid (u9.ownsRow Z 38 9 (.slice A7 ps.length c7) ps.length (ptsV ps)) := Lib.hid (row_keepO (own_le O7.out (B1z B0.out.drew)) fun g hg => b9.block g (own_blk O7.out hg).2)
  clear o9 b9
  refine hK.out _ _ BU.out (fun hHeld => ?_)
  clear hK K
  (try simp only [Act.put, List.getElem_toArray, List.getElem_cons_succ, List.getElem_cons_zero, List.setIfInBounds_toArray, List.set_cons_zero, List.set_cons_succ])
  refine wpAnyH_take (i := 10) (v := ?_) rfl (by kernel_rfl) (by kernel_rfl) (by kernel_rfl) (fun _ _ _ h => h) (Or.inl ⟨by rfl, ?_⟩) (by assumption) ?_
  rotate_left
  · (intro w hSw; (try dsimp only at hSw); go_simp; try with_reducible rfl)
  simp only [Act.put, List.getElem_toArray, List.getElem_cons_succ, List.getElem_cons_zero, List.setIfInBounds_toArray, List.set_cons_zero, List.set_cons_succ]
  refine wpAnyH_ready (rs := [11]) (by kernel_rfl) (by simp) ?_
  refine AllReadyH.cons rfl (fun K hK => ?_) AllReadyH.nil
  go_simp
  have B3 : Hid (Below Z w (u9.alloc (Obj.cells #[.slice A7 ps.length c7, .slice A9 cs.length c9] 30))) := Lib.hid (BU.out.alloc (B1z BU.out) _)
  refine hK.out _ _ B3.out (fun hHeld => ?_)
  clear hK K
  (try simp only [Act.put, List.getElem_toArray, List.getElem_cons_succ, List.getElem_cons_zero, List.setIfInBounds_toArray, List.set_cons_zero, List.set_cons_succ])
  refine wpAnyH_take (i := 12) (v := ?_) rfl (by kernel_rfl) (by kernel_rfl) (by kernel_rfl) (fun _ _ _ h => h) (Or.inl ⟨by rfl, ?_⟩) (by assumption) ?_
  rotate_left
  · (intro w hSw; (try dsimp only at hSw); go_simp; try with_reducible rfl)
  simp only [Act.put, List.getElem_toArray, List.getElem_cons_succ, List.getElem_cons_zero, List.setIfInBounds_toArray, List.set_cons_zero, List.set_cons_succ]
  clear hHeld
  refine wpAnyH_done (by kernel_rfl) ?_ _
  clear C0 C1
  go_wp2
  go_ret
  exact copy_done HZ.out HD.out BU.out O7b.out O9.out
end Go.Proofs.Ytdggnmlhgglccaa

/-
  The document's Coins: Spend.
-/
namespace Go.Proofs.Ytdggnmlhgglccaa
open Go.RowKit
set_option maxRecDepth 100000
def delP (ps : List (List Int)) (p : List Int) : List (List Int) := ps.take (idxP ps p) ++ ps.drop (idxP ps p + 1)
def delC (ps : List (List Int)) (cs : List Cn) (p : List Int) : List Cn := cs.take (idxP ps p) ++ cs.drop (idxP ps p + 1)
theorem has_lt {ps : List (List Int)} {p : List Int} (hp : okP p) (h : hasP ps p = true) : idxP ps p < ps.length := by
  unfold hasP at h
  rw [decide_eq_true_eq] at h
  rcases Nat.lt_or_ge (idxP ps p) ps.length with g | g
  · exact g
  · rw [List.getD_eq_getElem?_getD, List.getElem?_eq_none g] at h
    have h9 := okT_len hp
    rw [← h] at h9
    cases h9
theorem delP_len {ps : List (List Int)} {p : List Int} (h : idxP ps p < ps.length) : (delP ps p).length = idxP ps p + (ps.length - (idxP ps p + 1)) := by
  unfold delP
  rw [List.length_append, List.length_take, List.length_drop]; omega
theorem delC_len {ps : List (List Int)} {cs : List Cn} {p : List Int} (h : idxP ps p < ps.length) (hl : cs.length = ps.length) : (delC ps cs p).length = idxP ps p + (cs.length - (idxP ps p + 1)) := by
  unfold delC
  rw [List.length_append, List.length_take, List.length_drop]; omega
theorem delP_v (ps : List (List Int)) (p : List Int) : ptsV (ps.take (idxP ps p)) ++ ptsV (ps.drop (idxP ps p + 1)) = ptsV (delP ps p) := by simp [delP, ptsV]
theorem delC_v (ps : List (List Int)) (cs : List Cn) (p : List Int) : csV (cs.take (idxP ps p)) ++ csV (cs.drop (idxP ps p + 1)) = csV (delC ps cs p) := by simp [delC, csV]
theorem b42 (w : World) : (Instr.build 42 #[]).run Try.prog w = .ok (.agg (cnV cn0).toArray) w := by kernel_rfl
theorem z42 (w : World) : (zeroValue 42).run Try.prog w = .ok (.agg (cnV cn0).toArray) w := by kernel_rfl
theorem szCA2 {c : Cn} (h : c.r.length = 10) : (Try.prog.info? 42).map (·.size) = some (cnV c).toArray.size := by rw [List.size_toArray, cnV_len h]; exact i42c
theorem wpList_bldC {ops : Array Oper} {rest : List Oper} {o : Oper} {a : Act} {w : World} {Q : Exit → Act → World → Prop} (hw : Region.wanted o (yielded ops a.tmps) = true) (T : TypeId) (v : Value) (ho : o.op = .build T #[]) (hr : ∀ w, (Instr.build T #[]).run Try.prog w = .ok v w)
    (hK : wpList Try.prog ops Q rest (a.put o.dst v) w) : wpList Try.prog ops Q (o :: rest) a w := by
  unfold wpList
  rw [if_pos hw]
  refine .inl ?_
  unfold Oper.wp execOp
  simp only [ho, List.map_toArray, List.map_nil, Sem.run_bind, hr, Result.andThen_ok]
  exact hK
theorem results_cn {fn : Func} {p u : Tmp} (h : fn.results = #[.cell p 42, .tmp u]) (tmps : Array Value) (w : World) (g : Nat) (cs : List Value) (v : Value) (hp : tmps.getD p undef = .pointer (some ⟨g, 0, none⟩)) (hr : w.rangeAt g 0 cs) (hi : (Try.prog.info? 42).map (·.size) = some cs.length) (hu : tmps.getD u undef = v) :
    (results fn tmps).run Try.prog w = .ok (.tuple #[.agg cs.toArray, v]) w := by
  rw [results_cell_tmp h, hp, hu]
  simp only [asAddr, Sem.run_pure, Result.andThen_ok, run_loadVar_mid w g 0 42 cs _ hr Try.underlying42 rfl hi]
attribute [local irreducible] ptV cnV zeros ptsV csV
section
variable {B : Nat} {ps : List (List Int)} {cs : List Cn} {Q : Nat → Prop} {p : List Int} {w : World}
set_option maxHeartbeats 4000000 in
theorem cSpendNo (h : CoIs w B ps cs Q) (hp : okP p) (hl : ps.length ≤ 1000) (g1 : hasP ps p = false) :
    Calls Try.prog 13 #[.pointer (some ⟨B, 0, none⟩), .agg (ptV p).toArray] w fun e w' => e = .returned (.tuple #[.agg (cnV cn0).toArray, .bool false]) ∧ Below w.heap.size w w' := by
  obtain ⟨N, hN⟩ : ∃ N, w.heap.size = N := ⟨_, rfl⟩
  have HN := Lib.hid hN
  have HP := Lib.hid hp
  have HL := Lib.hid hl
  obtain ⟨v, hv⟩ : ∃ v, ((w.alloc (Obj.cells (ptV p).toArray 38)).alloc (Obj.cells (cnV cn0).toArray 42)) = v := ⟨_, rfl⟩
  have RP : Hid (BL v N (ptV p) 38) := by
    subst hv hN
    exact bl_keep (heap_alloc_last w _) (Below.heap_alloc _ _ _ (by simp))
  have RZ : Hid (BL v (N + 1) (cnV cn0) 42) := by
    subst hv hN
    have := heap_alloc_last (w.alloc (Obj.cells (ptV p).toArray 38)) (Obj.cells (cnV cn0).toArray 42)
    rw [World.size_alloc] at this
    exact this
  have BV : Hid (Below N w v) := by subst hv hN; exact ((Below.refl _ w).alloc (Nat.le_refl _) _).alloc (by simp) _
  have VS : Hid (v.heap.size = N + 2) := by subst hv hN; show _ = _; rw [World.size_alloc, World.size_alloc]
  have QN : Hid (∀ q, Q q → q < N) := Lib.hid fun q hq => by obtain ⟨A, A2, c, c2, h⟩ := h; rw [← hN]; exact h.lt q hq
  have HCO : Hid (∀ W, Below v.heap.size v W → CoIs W B ps cs Q) := Lib.hid fun W hb => by
    obtain ⟨A, A2, c, c2, h⟩ := h
    exact ⟨A, A2, c, c2, (h.grow (by rw [hN]; exact BV.out)).grow hb⟩
  have CA := Lib.hid (cAt B ps cs Q p v (HCO.out v (Below.refl _ v)) hp hl)
  have HLC : Hid (cs.length ≤ 1000) := Lib.hid (by obtain ⟨A, A2, c, c2, h⟩ := h; have := h.len; omega)
  have hz42a := z42
  rw [g1] at CA
  have SB := b42
  clear h hp hl g1
  go_enter Try.func13, Try.ntmps13
  go_upto_region 1 with (fail)
  (try rw [hv])
  clear hv
  go_wp2_with (first
    | (refine wpList_load_midG (by rfl) 38 (.tmp 3) rfl N 0 rfl (ptV p) _ (range_of RP.out) Try.underlying38 rfl (szP HP.out) ?_)
    | (go_at_call 25; refine CA.out.mono ?_; rintro e w1 ⟨rfl, hb1⟩; have B1 := Lib.hid hb1; have RZ1 : Hid (BL w1 (N + 1) (cnV cn0) 42) := Lib.hid (bl_keep RZ.out (hb1.block (N + 1) (by rw [VS.out]; omega))); clear hb1)
    | (refine wpList_bldC (by rfl) 42 _ rfl SB ?_)
    | (refine wpList_store_rowTo rfl 42 (.tmp 4) (.tmp 17) rfl rfl (N + 1) (cnV cn0).toArray rfl rfl 42 _ RZ1.out (szCA2 cn0_len) rfl (all_oneCell_toArray (cn_one cn0)) ?_)
    | fail)
  refine bodyPost_ret (v := .tuple #[.agg (cnV cn0).toArray, .bool false]) (results_cn rfl _ _ (N + 1) _ _ rfl (range_of (setRow_heap _ _ _ _ _ _ RZ1.out)) (szL i42c (cnV_len cn0_len)) rfl) rfl ⟨rfl, ?_⟩
  rw [HN.out]
  exact below_setRow (BV.out.trans (B1.out.mono (by rw [VS.out]; omega))) (by omega) _
set_option maxHeartbeats 8000000 in
theorem cSpendYes (h : CoIs w B ps cs Q) (hp : okP p) (hl : ps.length ≤ 1000) (g1 : hasP ps p = true) :
    Calls Try.prog 13 #[.pointer (some ⟨B, 0, none⟩), .agg (ptV p).toArray] w fun e w' => e = .returned (.tuple #[.agg (cnV (cs.getD (idxP ps p) cn0)).toArray, .bool true]) ∧ ∃ Q', CoIs w' B (delP ps p) (delC ps cs p) Q' ∧ (∀ q, Q' q → Q q ∨ w.heap.size ≤ q) ∧ Fr w w' Q := by
  have hlt := has_lt hp g1
  obtain ⟨N, hN⟩ : ∃ N, w.heap.size = N := ⟨_, rfl⟩
  have HN := Lib.hid hN
  have HP := Lib.hid hp
  have HL := Lib.hid hl
  obtain ⟨v, hv⟩ : ∃ v, ((w.alloc (Obj.cells (ptV p).toArray 38)).alloc (Obj.cells (cnV cn0).toArray 42)) = v := ⟨_, rfl⟩
  have RP : Hid (BL v N (ptV p) 38) := by
    subst hv hN
    exact bl_keep (heap_alloc_last w _) (Below.heap_alloc _ _ _ (by simp))
  have RZ : Hid (BL v (N + 1) (cnV cn0) 42) := by
    subst hv hN
    have := heap_alloc_last (w.alloc (Obj.cells (ptV p).toArray 38)) (Obj.cells (cnV cn0).toArray 42)
    rw [World.size_alloc] at this
    exact this
  have BV : Hid (Below N w v) := by subst hv hN; exact ((Below.refl _ w).alloc (Nat.le_refl _) _).alloc (by simp) _
  have VS : Hid (v.heap.size = N + 2) := by subst hv hN; show _ = _; rw [World.size_alloc, World.size_alloc]
  have QN : Hid (∀ q, Q q → q < N) := Lib.hid fun q hq => by obtain ⟨A, A2, c, c2, h⟩ := h; rw [← hN]; exact h.lt q hq
  have HCO : Hid (∀ W, Below v.heap.size v W → CoIs W B ps cs Q) := Lib.hid fun W hb => by
    obtain ⟨A, A2, c, c2, h⟩ := h
    exact ⟨A, A2, c, c2, (h.grow (by rw [hN]; exact BV.out)).grow hb⟩
  have CA := Lib.hid (cAt B ps cs Q p v (HCO.out v (Below.refl _ v)) hp hl)
  have HLC : Hid (cs.length ≤ 1000) := Lib.hid (by obtain ⟨A, A2, c, c2, h⟩ := h; have := h.len; omega)
  have hz42a := z42
  rw [g1] at CA
  obtain ⟨k, hk⟩ : ∃ k, idxP ps p = k := ⟨_, rfl⟩
  rw [hk] at CA hlt
  have HKL : Hid (k ≤ ps.length) := Lib.hid (Nat.le_of_lt hlt)
  have HKK : Hid (k + 1 ≤ ps.length) := Lib.hid hlt
  have HLEN : Hid (cs.length = ps.length) := Lib.hid (by obtain ⟨A, A2, c, c2, h⟩ := h; exact h.len)
  obtain ⟨ps2, hps2⟩ : ∃ l, delP ps p = l := ⟨_, rfl⟩
  obtain ⟨cs2, hcs2⟩ : ∃ l, delC ps cs p = l := ⟨_, rfl⟩
  have P2 : Hid (ps2.length = k + (ps.length - (k + 1)) ∧ ptsV (ps.take k) ++ ptsV (ps.drop (k + 1)) = ptsV ps2) := Lib.hid (by subst hps2; subst hk; exact ⟨delP_len hlt, delP_v ps p⟩)
  have C2 : Hid (cs2.length = k + (cs.length - (k + 1)) ∧ csV (cs.take k) ++ csV (cs.drop (k + 1)) = csV cs2) := Lib.hid (by subst hcs2; subst hk; exact ⟨delC_len hlt HLEN.out, delC_v ps cs p⟩)
  have OKS : Hid ((∀ q ∈ ps2, okP q) ∧ ∀ y ∈ cs2, y.ok) := Lib.hid (by
    obtain ⟨A, A2, c, c2, h⟩ := h
    subst hps2 hcs2
    refine ⟨fun q hq => ?_, fun y hy => ?_⟩
    · rcases List.mem_append.1 hq with hq | hq
      · exact h.okp q (List.mem_of_mem_take hq)
      · exact h.okp q (List.mem_of_mem_drop hq)
    · rcases List.mem_append.1 hy with hy | hy
      · exact h.okc y (List.mem_of_mem_take hy)
      · exact h.okc y (List.mem_of_mem_drop hy))
  have BN : Hid (B < N) := Lib.hid (by obtain ⟨A, A2, c, c2, h⟩ := h; rw [← hN]; exact h.lt B h.inB)
  rw [hps2, hcs2, hk]
  obtain ⟨x, hx⟩ : ∃ x, cs.getD k cn0 = x := ⟨_, rfl⟩
  have HX := Lib.hid hx
  have XOK : Hid x.ok := Lib.hid (by obtain ⟨A, A2, c, c2, h⟩ := h; rw [← hx]; exact (h.cn (i := k) (by rw [h.len]; omega)).1)
  rw [hx]
  have hz42 := z42
  have wk : wrap64 ((k : Int) + 1) = ((k + 1 : Nat) : Int) := by unfold wrap64; omega
  have wki : IntKind.i64.wrap ((k : Int) + 1) = ((k + 1 : Nat) : Int) := by rw [IntKind.wrap_i64]; omega
  have k0 : (0 : Int) ≤ (k : Int) := by omega
  have k1 : (k : Int) < (cs.length : Int) := by rw [HLEN.out]; omega
  clear h hp hl hk g1 hps2 hcs2 hx hlt
  go_enter Try.func13, Try.ntmps13
  go_upto_region 1 with (fail)
  (try rw [hv])
  clear hv
  go_upto_region 4 with (first
    | (refine wpList_load_midG (by rfl) 38 (.tmp 3) rfl N 0 rfl (ptV p) _ (range_of RP.out) Try.underlying38 rfl (szP HP.out) ?_)
    | (go_at_call 25; refine CA.out.mono ?_; rintro e w1 ⟨rfl, hb1⟩; have B1 := Lib.hid hb1; clear hb1)
    | fail)
  obtain ⟨A, A2, c, c2, hco⟩ := HCO.out w1 B1.out
  have HO1 := Lib.hid hco
  have b1 := hco.c1
  obtain ⟨_, gc, e2, hgc, hrc⟩ := hco.cn (i := k) (by rw [HLEN.out]; have := HKK.out; omega)
  rw [HX.out] at hrc
  have RCC := Lib.hid hrc
  rw [e2] at b1
  clear hco hgc hrc
  go_upto_region 5 with (first
    | (refine wpList_load_midG (by rfl) 42 (.tmp 23) rfl gc (k * 11) rfl (cnV x) _ RCC.out Try.underlying42 rfl (szL i42c (cnV_len XOK.out.len)) ?_)
    | (refine wpList_store_rowTo rfl 42 (.tmp 8) (.tmp 24) rfl rfl w1.heap.size (cnV x).toArray rfl rfl 42 _ (heap_alloc_last w1 _) (szCA2 XOK.out.len) (szCC cn0_len XOK.out.len) (all_oneCell_toArray (cn_one x)) ?_)
    | fail)
  have RX : Hid (BL ((w1.alloc (Obj.cells (cnV cn0).toArray 42)).setRow w1.heap.size (cnV x).toArray) w1.heap.size (cnV x) 42) := Lib.hid (setRow_heap _ _ _ _ _ _ (heap_alloc_last w1 _))
  have BX : Hid (Below w1.heap.size w1 ((w1.alloc (Obj.cells (cnV cn0).toArray 42)).setRow w1.heap.size (cnV x).toArray)) := Lib.hid (below_setRow ((Below.refl _ w1).alloc (Nat.le_refl _) _) (Nat.le_refl _) _)
  generalize (w1.alloc (Obj.cells (cnV cn0).toArray 42)).setRow w1.heap.size (cnV x).toArray = wa at *
  have W1N : Hid (N + 2 ≤ w1.heap.size) := Lib.hid (by have := B1.out.size; rw [VS.out] at this; exact this)
  have BA : Hid (Below N w wa) := Lib.hid (BV.out.trans ((B1.out.mono (by rw [VS.out]; omega)).trans (BX.out.mono (by have := W1N.out; omega))))
  have HO : Hid (CoAt wa B ps cs Q A A2 c c2) := Lib.hid (HO1.out.grow BX.out)
  have RZ : Hid (BL wa (N + 1) (cnV cn0) 42) := Lib.hid (bl_keep RZ.out ((BX.out.block (N + 1) (by have := W1N.out; omega)).trans (B1.out.block (N + 1) (by rw [VS.out]; omega))))
  obtain ⟨XB, hXB⟩ : ∃ q, w1.heap.size = q := ⟨_, rfl⟩
  rw [hXB] at RX ⊢
  have XN : Hid (XB < wa.heap.size) := Lib.hid (bl_lt RX.out)
  have ZN : Hid (N + 1 < wa.heap.size) := Lib.hid (bl_lt RZ.out)
  have XB2 : Hid (N + 2 ≤ XB) := Lib.hid (by rw [← hXB]; exact W1N.out)
  clear b1 hXB RCC B1 BX HO1 HCO CA k1 W1N e2
  go_cut [] (fun wc => ∃ A3 c3 u, wc = u.setCell ⟨B, 0, none⟩ (.slice A3 ps2.length c3) ∧ Below wa.heap.size wa u ∧ u.ownsRow wa.heap.size 38 9 (.slice A3 ps2.length c3) ps2.length (ptsV ps2))
  case first =>
    have C0 : ∀ W, Below wa.heap.size wa W → W.cell? ⟨B, 0, none⟩ = some (.slice A ps.length c) := fun W hb => (HO.out.grow hb).c0
    obtain ⟨_, _, s1, _, src1, _⟩ := own_parts el27 Try.underlying27 sz27 HO.out.rp (pts_one ps) HKL.out
    obtain ⟨Bp, bcp, _, s2, _, src2⟩ := own_parts el27 Try.underlying27 sz27 HO.out.rp (pts_one ps) HKK.out
    rw [(ptsV_cut HO.out.okp k).1] at src1
    rw [(ptsV_cut HO.out.okp (k + 1)).2] at src2
    rw [show ((k + 1 : Nat) : Int) = (k : Int) + 1 from rfl] at s2
    have SRC1 := Lib.hid src1
    have SRC2 := Lib.hid src2
    clear src1 src2
    refine wp_region_end 18 (S := fun w' => Below wa.heap.size wa w') (by kernel_rfl) (by kernel_rfl) (Below.refl _ wa).drew (fun hHeld => ?_)
    refine wpAnyH_take (i := 0) (v := ?_) rfl (by kernel_rfl) (by kernel_rfl) (by kernel_rfl) (fun _ _ _ h => h) (Or.inl ⟨by rfl, ?_⟩) (by assumption) ?_
    rotate_left
    · (intro w hSw; (try dsimp only at hSw); go_simp; try with_reducible rfl)
    simp only [Act.put, List.getElem_toArray, List.getElem_cons_zero, List.setIfInBounds_toArray, List.set_cons_zero, List.set_cons_succ]
    refine wpAnyH_take (i := 1) (v := ?_) rfl (by kernel_rfl) (by kernel_rfl) (by kernel_rfl) (fun _ _ _ h => h) (Or.inl ⟨by rfl, ?_⟩) (by assumption) ?_
    rotate_left
    · (intro w hSw; (try dsimp only at hSw); go_simp; try with_reducible rfl)
    simp only [Act.put, List.getElem_toArray, List.getElem_cons_succ, List.getElem_cons_zero, List.setIfInBounds_toArray, List.set_cons_zero, List.set_cons_succ]
    refine wpAnyH_take (i := 2) (v := ?_) rfl (by kernel_rfl) (by kernel_rfl) (by kernel_rfl) (fun _ _ _ h => h) (Or.inl ⟨by rfl, ?_⟩) (by assumption) ?_
    rotate_left
    · (intro w hSw; (try dsimp only at hSw); go_simp; try with_reducible rfl)
    simp only [Act.put, List.getElem_toArray, List.getElem_cons_succ, List.getElem_cons_zero, List.setIfInBounds_toArray, List.set_cons_zero, List.set_cons_succ]
    refine wpAnyH_take (i := 3) (v := ?_) rfl (by kernel_rfl) (by kernel_rfl) (by kernel_rfl) (fun _ _ _ h => h) (Or.inl ⟨by rfl, ?_⟩) (by assumption) ?_
    rotate_left
    · (intro w hSw; (try dsimp only at hSw); go_simp; try with_reducible rfl)
    simp only [Act.put, List.getElem_toArray, List.getElem_cons_succ, List.getElem_cons_zero, List.setIfInBounds_toArray, List.set_cons_zero, List.set_cons_succ]
    refine wpAnyH_take (i := 4) (v := ?_) rfl (by kernel_rfl) (by kernel_rfl) (by kernel_rfl) (fun _ _ _ h => h) (Or.inl ⟨by rfl, ?_⟩) (by assumption) ?_
    rotate_left
    · (intro w hSw; have z := C0 w hSw; go_simp; try with_reducible rfl)
    simp only [Act.put, List.getElem_toArray, List.getElem_cons_succ, List.getElem_cons_zero, List.setIfInBounds_toArray, List.set_cons_zero, List.set_cons_succ]
    refine wpAnyH_take (i := 5) (v := ?_) rfl (by kernel_rfl) (by kernel_rfl) (by kernel_rfl) (fun _ _ _ h => h) (Or.inl ⟨by rfl, ?_⟩) (by assumption) ?_
    rotate_left
    · (intro w hSw; (try dsimp only at hSw); go_simp; try with_reducible rfl)
    simp only [Act.put, List.getElem_toArray, List.getElem_cons_succ, List.getElem_cons_zero, List.setIfInBounds_toArray, List.set_cons_zero, List.set_cons_succ]
    refine wpAnyH_take (i := 6) (v := ?_) rfl (by kernel_rfl) (by kernel_rfl) (by kernel_rfl) (fun _ _ _ h => h) (Or.inl ⟨by rfl, ?_⟩) (by assumption) ?_
    rotate_left
    · (intro w hSw; (try dsimp only at hSw); go_simp; try with_reducible rfl)
    simp only [Act.put, List.getElem_toArray, List.getElem_cons_succ, List.getElem_cons_zero, List.setIfInBounds_toArray, List.set_cons_zero, List.set_cons_succ]
    refine wpAnyH_take (i := 8) (v := ?_) rfl (by kernel_rfl) (by kernel_rfl) (by kernel_rfl) (fun _ _ _ h => h) (Or.inl ⟨by rfl, ?_⟩) (by assumption) ?_
    rotate_left
    · (intro w hSw; (try dsimp only at hSw); go_simp; try with_reducible rfl)
    simp only [Act.put, List.getElem_toArray, List.getElem_cons_succ, List.getElem_cons_zero, List.setIfInBounds_toArray, List.set_cons_zero, List.set_cons_succ]
    refine wpAnyH_take (i := 9) (v := ?_) rfl (by kernel_rfl) (by kernel_rfl) (by kernel_rfl) (fun _ _ _ h => h) (Or.inl ⟨by rfl, ?_⟩) (by assumption) ?_
    rotate_left
    · (intro w hSw; (try dsimp only at hSw); go_simp; try with_reducible rfl)
    simp only [Act.put, List.getElem_toArray, List.getElem_cons_succ, List.getElem_cons_zero, List.setIfInBounds_toArray, List.set_cons_zero, List.set_cons_succ]
    refine wpAnyH_take (i := 10) (v := ?_) rfl (by kernel_rfl) (by kernel_rfl) (by kernel_rfl) (fun _ _ _ h => h) (Or.inl ⟨by rfl, ?_⟩) (by assumption) ?_
    rotate_left
    · (intro w hSw; (try dsimp only at hSw); go_simp; try with_reducible rfl)
    simp only [Act.put, List.getElem_toArray, List.getElem_cons_succ, List.getElem_cons_zero, List.setIfInBounds_toArray, List.set_cons_zero, List.set_cons_succ]
    refine wpAnyH_take (i := 11) (v := ?_) rfl (by kernel_rfl) (by kernel_rfl) (by kernel_rfl) (fun _ _ _ h => h) (Or.inl ⟨by rfl, ?_⟩) (by assumption) ?_
    rotate_left
    · (intro w hSw; have z := C0 w hSw; go_simp; try with_reducible rfl)
    simp only [Act.put, List.getElem_toArray, List.getElem_cons_succ, List.getElem_cons_zero, List.setIfInBounds_toArray, List.set_cons_zero, List.set_cons_succ]
    refine wpAnyH_take (i := 12) (v := ?_) rfl (by kernel_rfl) (by kernel_rfl) (by kernel_rfl) (fun _ _ _ h => h) (Or.inl ⟨by rfl, ?_⟩) (by assumption) ?_
    rotate_left
    · (intro w hSw; (try dsimp only at hSw); go_simp; try with_reducible rfl)
    simp only [Act.put, List.getElem_toArray, List.getElem_cons_succ, List.getElem_cons_zero, List.setIfInBounds_toArray, List.set_cons_zero, List.set_cons_succ]
    refine wpAnyH_take (i := 13) (v := ?_) rfl (by kernel_rfl) (by kernel_rfl) (by kernel_rfl) (fun _ _ _ h => h) (Or.inl ⟨by rfl, ?_⟩) (by assumption) ?_
    rotate_left
    · (intro w hSw; (try dsimp only at hSw); go_simp; try with_reducible rfl)
    simp only [Act.put, List.getElem_toArray, List.getElem_cons_succ, List.getElem_cons_zero, List.setIfInBounds_toArray, List.set_cons_zero, List.set_cons_succ]
    refine wpAnyH_take (i := 14) (v := ?_) rfl (by kernel_rfl) (by kernel_rfl) (by kernel_rfl) (fun _ _ _ h => h) (Or.inl ⟨by rfl, ?_⟩) (by assumption) ?_
    rotate_left
    · (intro w hSw; (try dsimp only at hSw); go_simp; try with_reducible rfl)
    simp only [Act.put, List.getElem_toArray, List.getElem_cons_succ, List.getElem_cons_zero, List.setIfInBounds_toArray, List.set_cons_zero, List.set_cons_succ]
    refine wpAnyH_ready (rs := [7]) (by kernel_rfl) (by simp) ?_
    refine AllReadyH.cons rfl (fun K hK => ?_) AllReadyH.nil
    refine step_app0 Try.underlying27 infoPt zPt (by decide) (by decide) rfl (.const (.slice none 0 0)) (.tmp 31) rfl wa.heap.size k c (ptsV (ps.take k)) A rfl rfl (SRC1.out.keep (Below.refl _ wa).drew) (by have := HKL.out; have := HL.out; omega) (Nat.le_refl _) ?_
    intro A7 c7 u7 o7 b7
    have B7 : Hid (Below wa.heap.size wa u7) := Lib.hid ((Below.refl _ wa).drew.trans b7)
    have O7 := Lib.hid o7
    clear o7 b7
    refine hK.out _ _ B7.out (fun hHeld => ?_)
    clear hK K
    (try simp only [Act.put, List.getElem_toArray, List.getElem_cons_succ, List.getElem_cons_zero, List.setIfInBounds_toArray, List.set_cons_zero, List.set_cons_succ])
    refine wpAnyH_ready (rs := [15]) (by kernel_rfl) (by simp) ?_
    refine AllReadyH.cons rfl (fun K hK => ?_) AllReadyH.nil
    refine step_appG Try.underlying27 infoPt zPt (by decide) (by decide) rfl (.tmp 32) (.tmp 39) rfl wa.heap.size k (ps.length - (k + 1)) bcp (.slice A7 k c7) (ptsV (ps.take k)) (ptsV (ps.drop (k + 1))) Bp rfl rfl O7.out (SRC2.out.keep B7.out) (by have := HKL.out; have := HL.out; omega) (by have := HLC.out; have := HL.out; omega) B7.out.size ?_
    intro A17 c17 u17 o17 b17
    have B17 := Lib.hid (B7.out.trans b17)
    have O17 := Lib.hid o17
    clear o17 b17
    refine hK.out _ _ B17.out (fun hHeld => ?_)
    clear hK K
    (try simp only [Act.put, List.getElem_toArray, List.getElem_cons_succ, List.getElem_cons_zero, List.setIfInBounds_toArray, List.set_cons_zero, List.set_cons_succ])
    refine wpAnyH_take (i := 16) (v := ?_) rfl (by kernel_rfl) (by kernel_rfl) (by kernel_rfl) (fun _ _ _ h => h) (Or.inl ⟨by rfl, ?_⟩) (by assumption) ?_
    rotate_left
    · (intro w hSw; (try dsimp only at hSw); go_simp; try with_reducible rfl)
    simp only [Act.put, List.getElem_toArray, List.getElem_cons_succ, List.getElem_cons_zero, List.setIfInBounds_toArray, List.set_cons_zero, List.set_cons_succ]
    refine wpAnyH_take (i := 17) (v := ?_) rfl (by kernel_rfl) (by kernel_rfl) (by kernel_rfl) (fun _ _ _ h => h) (Or.inl ⟨by rfl, ?_⟩) (by assumption) ?_
    rotate_left
    · (intro w hSw; (try dsimp only at hSw); go_simp; try with_reducible rfl)
    simp only [Act.put, List.getElem_toArray, List.getElem_cons_succ, List.getElem_cons_zero, List.setIfInBounds_toArray, List.set_cons_zero, List.set_cons_succ]
    clear hHeld
    refine wpAnyH_done (by kernel_rfl) ?_ _
    refine qn_last rfl (by rfl) ?_
    have cB : u17.cell? ⟨B, 0, none⟩ = some (.slice A ps.length c) := C0 u17 B17.out
    have fB : u17.frozen? ⟨B, 0, none⟩ = false := bl_free (bl_keep HO.out.blk (B17.out.block B (HO.out.lt B HO.out.inB))) 0
    go_simp
    clear cB fB
    go_wp2
    go_meet
    case rel => exact ⟨A17, c17, u17, by rw [P2.out.1], B17.out, by rw [P2.out.1, ← P2.out.2]; exact O17.out⟩
  case rest =>
    obtain ⟨A3, c3, u3, e3, hb3, ho3⟩ := hcut
    obtain ⟨k1, k2, k3⟩ := co_storeP HO.out hb3 ho3
    rw [← e3] at k1 k2 k3
    have BLK := Lib.hid k1
    have RC5 := Lib.hid k2
    have HB3 := Lib.hid hb3
    have HO3 := Lib.hid ho3
    have E3 := Lib.hid e3
    clear hb3 ho3 k1 k2 k3 e3
    go_wp2
    (try change Code.wp _ _ _ _ wc)
    go_cut [] (fun wx => ∃ Q', CoIs wx B ps2 cs2 Q' ∧ (∀ q, Q' q → Q q ∨ wa.heap.size ≤ q) ∧ Fr w wx Q ∧ BL wx XB (cnV x) 42 ∧ BL wx (N + 1) (cnV cn0) 42)
    case first =>
      have C0 : ∀ W, Below wc.heap.size wc W → W.cell? ⟨B, 1, none⟩ = some (.slice A2 cs.length c2) := fun W hb => by
        rw [cell_of_row W B 1 _ _ _ (bl_keep BLK.out (hb.block B (bl_lt BLK.out)))]; rfl
      obtain ⟨_, _, s1, _, src1, _⟩ := own_parts el28 Try.underlying28 sz28 RC5.out (cs_one cs) (show k ≤ cs.length by rw [HLEN.out]; exact HKL.out)
      obtain ⟨Bp, bcp, _, s2, _, src2⟩ := own_parts el28 Try.underlying28 sz28 RC5.out (cs_one cs) (show k + 1 ≤ cs.length by rw [HLEN.out]; exact HKK.out)
      rw [(csV_cut HO.out.okc k).1] at src1
      rw [(csV_cut HO.out.okc (k + 1)).2] at src2
      rw [show ((k + 1 : Nat) : Int) = (k : Int) + 1 from rfl] at s2
      have SRC1 := Lib.hid src1
      have SRC2 := Lib.hid src2
      clear src1 src2
      refine wp_region_end 18 (S := fun w' => Below wc.heap.size wc w') (by kernel_rfl) (by kernel_rfl) (Below.refl _ wc).drew (fun hHeld => ?_)
      refine wpAnyH_take (i := 0) (v := ?_) rfl (by kernel_rfl) (by kernel_rfl) (by kernel_rfl) (fun _ _ _ h => h) (Or.inl ⟨by rfl, ?_⟩) (by assumption) ?_
      rotate_left
      · (intro w hSw; (try dsimp only at hSw); go_simp; try with_reducible rfl)
      simp only [Act.put, List.getElem_toArray, List.getElem_cons_zero, List.setIfInBounds_toArray, List.set_cons_zero, List.set_cons_succ]
      refine wpAnyH_take (i := 1) (v := ?_) rfl (by kernel_rfl) (by kernel_rfl) (by kernel_rfl) (fun _ _ _ h => h) (Or.inl ⟨by rfl, ?_⟩) (by assumption) ?_
      rotate_left
      · (intro w hSw; (try dsimp only at hSw); go_simp; try with_reducible rfl)
      simp only [Act.put, List.getElem_toArray, List.getElem_cons_succ, List.getElem_cons_zero, List.setIfInBounds_toArray, List.set_cons_zero, List.set_cons_succ]
      refine wpAnyH_take (i := 2) (v := ?_) rfl (by kernel_rfl) (by kernel_rfl) (by kernel_rfl) (fun _ _ _ h => h) (Or.inl ⟨by rfl, ?_⟩) (by assumption) ?_
      rotate_left
      · (intro w hSw; (try dsimp only at hSw); go_simp; try with_reducible rfl)
      simp only [Act.put, List.getElem_toArray, List.getElem_cons_succ, List.getElem_cons_zero, List.setIfInBounds_toArray, List.set_cons_zero, List.set_cons_succ]
      refine wpAnyH_take (i := 3) (v := ?_) rfl (by kernel_rfl) (by kernel_rfl) (by kernel_rfl) (fun _ _ _ h => h) (Or.inl ⟨by rfl, ?_⟩) (by assumption) ?_
      rotate_left
      · (intro w hSw; (try dsimp only at hSw); go_simp; try with_reducible rfl)
      simp only [Act.put, List.getElem_toArray, List.getElem_cons_succ, List.getElem_cons_zero, List.setIfInBounds_toArray, List.set_cons_zero, List.set_cons_succ]
      refine wpAnyH_take (i := 4) (v := ?_) rfl (by kernel_rfl) (by kernel_rfl) (by kernel_rfl) (fun _ _ _ h => h) (Or.inl ⟨by rfl, ?_⟩) (by assumption) ?_
      rotate_left
      · (intro w hSw; have z := C0 w hSw; go_simp; try with_reducible rfl)
      simp only [Act.put, List.getElem_toArray, List.getElem_cons_succ, List.getElem_cons_zero, List.setIfInBounds_toArray, List.set_cons_zero, List.set_cons_succ]
      refine wpAnyH_take (i := 5) (v := ?_) rfl (by kernel_rfl) (by kernel_rfl) (by kernel_rfl) (fun _ _ _ h => h) (Or.inl ⟨by rfl, ?_⟩) (by assumption) ?_
      rotate_left
      · (intro w hSw; (try dsimp only at hSw); go_simp; try with_reducible rfl)
      simp only [Act.put, List.getElem_toArray, List.getElem_cons_succ, List.getElem_cons_zero, List.setIfInBounds_toArray, List.set_cons_zero, List.set_cons_succ]
      refine wpAnyH_take (i := 6) (v := ?_) rfl (by kernel_rfl) (by kernel_rfl) (by kernel_rfl) (fun _ _ _ h => h) (Or.inl ⟨by rfl, ?_⟩) (by assumption) ?_
      rotate_left
      · (intro w hSw; (try dsimp only at hSw); go_simp; try with_reducible rfl)
      simp only [Act.put, List.getElem_toArray, List.getElem_cons_succ, List.getElem_cons_zero, List.setIfInBounds_toArray, List.set_cons_zero, List.set_cons_succ]
      refine wpAnyH_take (i := 8) (v := ?_) rfl (by kernel_rfl) (by kernel_rfl) (by kernel_rfl) (fun _ _ _ h => h) (Or.inl ⟨by rfl, ?_⟩) (by assumption) ?_
      rotate_left
      · (intro w hSw; (try dsimp only at hSw); go_simp; try with_reducible rfl)
      simp only [Act.put, List.getElem_toArray, List.getElem_cons_succ, List.getElem_cons_zero, List.setIfInBounds_toArray, List.set_cons_zero, List.set_cons_succ]
      refine wpAnyH_take (i := 9) (v := ?_) rfl (by kernel_rfl) (by kernel_rfl) (by kernel_rfl) (fun _ _ _ h => h) (Or.inl ⟨by rfl, ?_⟩) (by assumption) ?_
      rotate_left
      · (intro w hSw; (try dsimp only at hSw); go_simp; try with_reducible rfl)
      simp only [Act.put, List.getElem_toArray, List.getElem_cons_succ, List.getElem_cons_zero, List.setIfInBounds_toArray, List.set_cons_zero, List.set_cons_succ]
      refine wpAnyH_take (i := 10) (v := ?_) rfl (by kernel_rfl) (by kernel_rfl) (by kernel_rfl) (fun _ _ _ h => h) (Or.inl ⟨by rfl, ?_⟩) (by assumption) ?_
      rotate_left
      · (intro w hSw; (try dsimp only at hSw); go_simp; try with_reducible rfl)
      simp only [Act.put, List.getElem_toArray, List.getElem_cons_succ, List.getElem_cons_zero, List.setIfInBounds_toArray, List.set_cons_zero, List.set_cons_succ]
      refine wpAnyH_take (i := 11) (v := ?_) rfl (by kernel_rfl) (by kernel_rfl) (by kernel_rfl) (fun _ _ _ h => h) (Or.inl ⟨by rfl, ?_⟩) (by assumption) ?_
      rotate_left
      · (intro w hSw; have z := C0 w hSw; go_simp; try with_reducible rfl)
      simp only [Act.put, List.getElem_toArray, List.getElem_cons_succ, List.getElem_cons_zero, List.setIfInBounds_toArray, List.set_cons_zero, List.set_cons_succ]
      refine wpAnyH_take (i := 12) (v := ?_) rfl (by kernel_rfl) (by kernel_rfl) (by kernel_rfl) (fun _ _ _ h => h) (Or.inl ⟨by rfl, ?_⟩) (by assumption) ?_
      rotate_left
      · (intro w hSw; (try dsimp only at hSw); go_simp; try with_reducible rfl)
      simp only [Act.put, List.getElem_toArray, List.getElem_cons_succ, List.getElem_cons_zero, List.setIfInBounds_toArray, List.set_cons_zero, List.set_cons_succ]
      refine wpAnyH_take (i := 13) (v := ?_) rfl (by kernel_rfl) (by kernel_rfl) (by kernel_rfl) (fun _ _ _ h => h) (Or.inl ⟨by rfl, ?_⟩) (by assumption) ?_
      rotate_left
      · (intro w hSw; (try dsimp only at hSw); go_simp; try with_reducible rfl)
      simp only [Act.put, List.getElem_toArray, List.getElem_cons_succ, List.getElem_cons_zero, List.setIfInBounds_toArray, List.set_cons_zero, List.set_cons_succ]
      refine wpAnyH_take (i := 14) (v := ?_) rfl (by kernel_rfl) (by kernel_rfl) (by kernel_rfl) (fun _ _ _ h => h) (Or.inl ⟨by rfl, ?_⟩) (by assumption) ?_
      rotate_left
      · (intro w hSw; (try dsimp only at hSw); go_simp; try with_reducible rfl)
      simp only [Act.put, List.getElem_toArray, List.getElem_cons_succ, List.getElem_cons_zero, List.setIfInBounds_toArray, List.set_cons_zero, List.set_cons_succ]
      refine wpAnyH_ready (rs := [7]) (by kernel_rfl) (by simp) ?_
      refine AllReadyH.cons rfl (fun K hK => ?_) AllReadyH.nil
      refine step_app0 Try.underlying28 infoCn zCn (by decide) (by decide) rfl (.const (.slice none 0 0)) (.tmp 49) rfl wc.heap.size k c2 (csV (cs.take k)) A2 rfl rfl (SRC1.out.keep (Below.refl _ wc).drew) (by have := HKL.out; have := HL.out; omega) (Nat.le_refl _) ?_
      intro A7 c7 u7 o7 b7
      have B7 : Hid (Below wc.heap.size wc u7) := Lib.hid ((Below.refl _ wc).drew.trans b7)
      have O7 := Lib.hid o7
      clear o7 b7
      refine hK.out _ _ B7.out (fun hHeld => ?_)
      clear hK K
      (try simp only [Act.put, List.getElem_toArray, List.getElem_cons_succ, List.getElem_cons_zero, List.setIfInBounds_toArray, List.set_cons_zero, List.set_cons_succ])
      refine wpAnyH_ready (rs := [15]) (by kernel_rfl) (by simp) ?_
      refine AllReadyH.cons rfl (fun K hK => ?_) AllReadyH.nil
      refine step_appG Try.underlying28 infoCn zCn (by decide) (by decide) rfl (.tmp 50) (.tmp 57) rfl wc.heap.size k (cs.length - (k + 1)) bcp (.slice A7 k c7) (csV (cs.take k)) (csV (cs.drop (k + 1))) Bp rfl rfl O7.out (SRC2.out.keep B7.out) (by have := HKL.out; have := HL.out; omega) (by have := HLC.out; have := HL.out; omega) B7.out.size ?_
      intro A17 c17 u17 o17 b17
      have B17 := Lib.hid (B7.out.trans b17)
      have O17 := Lib.hid o17
      clear o17 b17
      refine hK.out _ _ B17.out (fun hHeld => ?_)
      clear hK K
      (try simp only [Act.put, List.getElem_toArray, List.getElem_cons_succ, List.getElem_cons_zero, List.setIfInBounds_toArray, List.set_cons_zero, List.set_cons_succ])
      refine wpAnyH_take (i := 16) (v := ?_) rfl (by kernel_rfl) (by kernel_rfl) (by kernel_rfl) (fun _ _ _ h => h) (Or.inl ⟨by rfl, ?_⟩) (by assumption) ?_
      rotate_left
      · (intro w hSw; (try dsimp only at hSw); go_simp; try with_reducible rfl)
      simp only [Act.put, List.getElem_toArray, List.getElem_cons_succ, List.getElem_cons_zero, List.setIfInBounds_toArray, List.set_cons_zero, List.set_cons_succ]
      refine wpAnyH_take (i := 17) (v := ?_) rfl (by kernel_rfl) (by kernel_rfl) (by kernel_rfl) (fun _ _ _ h => h) (Or.inl ⟨by rfl, ?_⟩) (by assumption) ?_
      rotate_left
      · (intro w hSw; (try dsimp only at hSw); go_simp; try with_reducible rfl)
      simp only [Act.put, List.getElem_toArray, List.getElem_cons_succ, List.getElem_cons_zero, List.setIfInBounds_toArray, List.set_cons_zero, List.set_cons_succ]
      clear hHeld
      refine wpAnyH_done (by kernel_rfl) ?_ _
      refine qn_last rfl (by rfl) ?_
      have cB : u17.cell? ⟨B, 1, none⟩ = some (.slice A2 cs.length c2) := C0 u17 B17.out
      have fB : u17.frozen? ⟨B, 1, none⟩ = false := bl_free (bl_keep BLK.out (B17.out.block B (bl_lt BLK.out))) 1
      go_simp
      clear cB fB
      go_wp2
      go_meet
      case rel =>
        have D := co_done (x := u17) (A4 := A17) (c4 := c17) (cs' := cs2) HO.out HB3.out HO3.out (by rw [← E3.out]; exact B17.out) (by rw [← E3.out, C2.out.1, ← C2.out.2]; exact O17.out) (by rw [P2.out.1, C2.out.1, HLEN.out]) OKS.out.1 OKS.out.2
        obtain ⟨Q', d1, d2, d3⟩ := D
        rw [C2.out.1] at d1 d3
        have f0 : Fr w wa Q := Fr.of_below (by rw [HN.out]; exact BA.out)
        exact ⟨Q', d1, d2, f0.trans d3 fun q hq => .inl hq, bl_keep RX.out (by
          have h1 := XN.out
          have h4 := XB2.out
          have h2 : wa.heap.size ≤ wc.heap.size := by rw [E3.out, World.size_setCell]; exact HB3.out.size
          have h3 := BN.out
          refine (heap_set1 _ _ _ (by omega)).trans ((B17.out.block XB (by omega)).trans ?_)
          rw [E3.out]
          exact (heap_set1 _ _ _ (by omega)).trans (HB3.out.block XB h1)), bl_keep RZ.out (by
          have h1 := ZN.out
          have h2 : wa.heap.size ≤ wc.heap.size := by rw [E3.out, World.size_setCell]; exact HB3.out.size
          have h3 := BN.out
          refine (heap_set1 _ _ _ (by omega)).trans ((B17.out.block (N + 1) (by omega)).trans ?_)
          rw [E3.out]
          exact (heap_set1 _ _ _ (by omega)).trans (HB3.out.block (N + 1) h1))⟩
    case rest =>
      rename World => wx
      obtain ⟨Q', h1, h2, h3, h4, h5⟩ := hcut
      have H1 := Lib.hid h1
      have H2 := Lib.hid h2
      have H3 := Lib.hid h3
      have R4 := Lib.hid h4
      have R5 := Lib.hid h5
      clear h1 h2 h3 h4 h5
      go_wp2_with (first
        | (refine wpList_load_midG (by rfl) 42 (.tmp 8) rfl XB 0 rfl (cnV x) _ (range_of R4.out) Try.underlying42 rfl (szL i42c (cnV_len XOK.out.len)) ?_)
        | (refine wpList_store_rowTo rfl 42 (.tmp 4) (.tmp 61) rfl rfl (N + 1) (cnV x).toArray rfl rfl 42 _ R5.out (szCA2 XOK.out.len) (szCC cn0_len XOK.out.len) (all_oneCell_toArray (cn_one x)) ?_)
        | fail)
      refine bodyPost_ret (v := .tuple #[.agg (cnV x).toArray, .bool true]) (results_cn rfl _ _ (N + 1) _ _ rfl (range_of (setRow_heap _ _ _ _ _ _ R5.out)) (szL i42c (cnV_len XOK.out.len)) rfl) rfl ⟨rfl, Q', ?_, fun q hq => (H2.out q hq).imp id fun e => by have := BA.out.size; omega, ?_⟩
      · refine H1.out.keep (fun q hq => setRow_other _ _ _ _ ?_) (by simp)
        rintro rfl
        rcases H2.out _ hq with e | e
        · have h0 := QN.out _ e; omega
        · have h0 := ZN.out; omega
      · exact H3.out.trans (Fr.of_below2 wx (N + 1) _) fun q e => .inr (by have := HN.out; omega)
end
end Go.Proofs.Ytdggnmlhgglccaa
