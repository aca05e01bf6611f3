/-
  Sign; the document's.
-/
import Derived.Test.YtkmfmkonejdjiaaDoorK4
import Derived.Test.YtkmfmkonejdjiaaDoorL14
import Derived.Test.YtkmfmkonejdjiaaDoorLF
namespace Go.Proofs.YtkmfmkonejdjiaaDoor
open Go.RowKit
theorem wayP_eq (seed : List Int) (n : Nat) : provL 8 (pubs seed) n 8 = wayP seed n := rfl
theorem wayL_eq (seed : List Int) (n : Nat) : (wayP seed n).flatten = wayL seed n := rfl
theorem sigL_eq (seed m : List Int) (n : Nat) : opL seed n m ++ shL seed n m ++ wayL seed n = sigL seed n m := rfl
theorem opL_eq (seed m : List Int) (n : Nat) : cat (openF (keyL seed n) m) 16 = opL seed n m := rfl
theorem shL_eq (seed m : List Int) (n : Nat) : cat (shutF (keyL seed n) m) 16 = shL seed n m := rfl
theorem sb_put1 {w : World} {G : Nat} {n : Int} {y : List Int} (h : SB w G n (zeros 280)) (hy : y.length = 128) : SB (w.setCells G 1 (bvals y)) G n (y ++ zeros 152) := by
  have h1 := sb_sets y 0 h
  have h2 := splR_app y [] (zeros 280) (by rw [zeros_len]; omega)
  rw [List.nil_append, List.nil_append, List.length_nil, zeros_drop, hy] at h2
  rw [h2] at h1
  exact h1
theorem sb_put2 {w : World} {G : Nat} {n : Int} {y z : List Int} (h : SB w G n (y ++ zeros 152)) (hy : y.length = 128) (hz : z.length = 128) : SB (w.setCells G 129 (bvals z)) G n (y ++ z ++ zeros 24) := by
  have h1 := sb_sets z 128 h
  have h2 := splR_app z y (zeros 152) (by rw [zeros_len]; omega)
  rw [zeros_drop, hy, hz, ← List.append_assoc] at h2
  rw [h2] at h1
  exact h1
theorem sb_put3 {w : World} {G : Nat} {n : Int} {y z p : List Int} (h : SB w G n (y ++ z ++ zeros 24)) (hy : y.length = 128) (hz : z.length = 128) (hp : p.length = 24) : SB (w.setCells G 257 (bvals p)) G n (y ++ z ++ p) := by
  have h1 := sb_sets p 256 h
  have h2 := splR_app p (y ++ z) (zeros 24) (by rw [zeros_len]; omega)
  rw [zeros_drop, hp, List.length_append, hy, hz, List.eq_nil_of_length_eq_zero (zeros_len (24 - 24)), List.append_nil] at h2
  rw [h2] at h1
  exact h1
theorem wpList_b30 {ops : Array Oper} {rest : List Oper} {o : Oper} {a : Act} {w : World} {Q : Exit → Act → World → Prop} (hg : o.guard = none) (x : Operand) (ho : o.op = .build 30 #[(0, x)]) (i : Int) (hx : a.eval x = .int .i64 i)
    (hK : wpList Tryd.prog ops Q rest (a.put o.dst (.agg (sg i (zeros 280)).toArray)) w) : wpList Tryd.prog ops Q (o :: rest) a w := by
  refine wpList_plain hg fun K hK' => ?_
  unfold Oper.wp execOp
  have hp : (#[(0, x)] : Array (Nat × Operand)).map (fun (i, x) => (i, a.eval x)) = #[(0, .int .i64 i)] := by simp [hx]
  simp only [ho, hp, Sem.run_bind, b30i i w, Result.andThen_ok]
  exact hK' _ _ hK
theorem sg_size (i : Int) (L : List Int) (h : L.length = 280) : (sg i L).toArray.size = 281 := by rw [List.size_toArray, sg_len, h]
attribute [local irreducible] ua da ba kk sw S8.run rt hs comp splice outB sha msg bvals cat at8 at16 secM zeros sec keyF marksF mk pubk bt openF shutF readF splR oF sF rootF leafH twoH stepsF cutN leadF provL rootV pubF pubs keyL opn sht way gives ckB chkB rootL sg opL shL sigL wayP wayL
set_option maxRecDepth 100000 in
set_option maxHeartbeats 4000000 in
/-- Sign where there is no such index -/
theorem kSignNo (seed m : List Int) (i : Int) (T gk ck gp cp : Nat) (ks : Nat → Nat) (w : World) (hT : TA w T seed gk ck gp cp ks) (hi : ¬ (0 ≤ i ∧ i < 8)) :
    Calls Tryd.prog 9 #[.pointer (some ⟨T, 0, none⟩), .int .i64 i, .agg (ba m)] w fun e w' => e = .returned (.tuple #[.agg (sg 0 (zeros 280)).toArray, .bool false]) ∧ Below w.heap.size w w' := by
  have h4 := z30
  obtain ⟨S, hS⟩ : ∃ S, w.heap.size = S := ⟨_, rfl⟩
  have HS := Lib.hid hS
  have R0 := Lib.hid (sb_new (size_al hS (Obj.cells (ba m) 23)) 0 (zeros 280))
  have B0 : Hid (Below S w ((w.alloc (Obj.cells (ba m) 23)).alloc (Obj.cells (sg 0 (zeros 280)).toArray 30))) := by subst hS; exact ((Below.refl _ w).alloc (Nat.le_refl _) _).alloc (by simp) _
  have hTA := hT.keep (W := ((w.alloc (Obj.cells (ba m) 23)).alloc (Obj.cells (sg 0 (zeros 280)).toArray 30))) (by rw [hS]; exact B0.out)
  have c1 : (((w.alloc (Obj.cells (ba m) 23)).alloc (Obj.cells (sg 0 (zeros 280)).toArray 30))).cell? ⟨T, 1, none⟩ = some (.slice (some ⟨gp, 0, none⟩) 8 cp) := by rw [cell_of_row _ T 1 _ 48 (0, 0) hTA.t]; rfl
  have C := Lib.hid (p8no (some ⟨gp, 0, none⟩) 8 cp i ((w.alloc (Obj.cells (ba m) 23)).alloc (Obj.cells (sg 0 (zeros 280)).toArray 30)) (by
    rcases Int.lt_or_le i 0 with h1 | h1
    · rw [decide_eq_false (by omega : ¬ 0 ≤ i), Bool.false_and]
    · rw [decide_eq_false (by omega : ¬ i < ((8 : Nat) : Int)), Bool.false_and, Bool.and_false]))
  have ZL : Hid ((zeros 280).length = 280) := zeros_len 280
  clear hT hTA hi
  go_enter Tryd.func9, Tryd.ntmps9
  go_wp2_with (first
    | (go_at_call 20
       refine C.out.mono ?_
       rintro e w1 ⟨rfl, hb⟩
       have R1 : Hid (SB w1 (S + 1) 0 (zeros 280)) := (hb.block _ (sb_lt R0.out)).trans R0.out
       have B1 : Hid (Below S w w1) := B0.out.trans (hb.mono (by have := sb_lt R0.out; omega))
       clear hb c1)
    | (refine wpList_store_rowTo rfl 30 (.tmp 6) (.tmp 25) rfl rfl (S + 1) (sg 0 (zeros 280)).toArray rfl rfl 30 (sg 0 (zeros 280)).toArray R1.out (sg_infoA _ _ ZL.out) rfl (sg_ones _ _) ?_)
    | fail)
  refine bodyPost_ret (v := .tuple #[.agg (sg 0 (zeros 280)).toArray, .bool false]) (res2 rfl _ _ (S + 1) 30 _ (0, 0) _ rfl (setRow_heap _ _ _ _ _ _ R1.out) Tryd.underlying30 rfl (sg_infoA _ _ ZL.out) (.bool false) rfl) rfl ⟨rfl, ?_⟩
  rw [HS.out]
  exact below_setRow B1.out (by omega) _
set_option maxRecDepth 100000 in
set_option maxHeartbeats 8000000 in
/-- Sign -/
theorem kSign (seed m : List Int) (n : Nat) (T gk ck gp cp : Nat) (ks : Nat → Nat) (w : World) (hk : Keys w) (hT : TA w T seed gk ck gp cp ks) (hm : m.length = 8) (hbt : Byt m) (hn : n < 8) :
    Calls Tryd.prog 9 #[.pointer (some ⟨T, 0, none⟩), .int .i64 n, .agg (ba m)] w fun e w' => e = .returned (.tuple #[.agg (sg n (sigL seed n m)).toArray, .bool true]) ∧ Below w.heap.size w w' := by
  have h4 := z30
  have HK := Lib.hid hk
  have HP : Hid (0 < w.heap.size) := keys_pos hk
  have HT := Lib.hid hT
  obtain ⟨S, hS⟩ : ∃ S, w.heap.size = S := ⟨_, rfl⟩
  have HS := Lib.hid hS
  have KW : Hid (∀ w', Below S w w' → Keys w') := fun w' hb => keys_below HK.out hb (by rw [← HS.out]; exact HP.out)
  have TW : Hid (∀ w', Below S w w' → TA w' T seed gk ck gp cp ks) := fun w' hb => HT.out.keep (by rw [HS.out]; exact hb)
  have LT : Hid (T < S ∧ gk < S ∧ ks n < S) := by
    show _ ∧ _
    rw [← hS]
    exact ⟨lt_of_block hT.t, World.block_lt_of_cell? w ⟨gk, n, none⟩ (hT.k n hn), lt_of_block (hT.m n hn)⟩
  have M0 := Lib.hid (ba_old (ba_new hS m 23) (Obj.cells (sg 0 (zeros 280)).toArray 30))
  have R0 := Lib.hid (sb_new (size_al hS (Obj.cells (ba m) 23)) 0 (zeros 280))
  have B0 : Hid (Below S w ((w.alloc (Obj.cells (ba m) 23)).alloc (Obj.cells (sg 0 (zeros 280)).toArray 30))) := by subst hS; exact ((Below.refl _ w).alloc (Nat.le_refl _) _).alloc (by simp) _
  have c1 : (((w.alloc (Obj.cells (ba m) 23)).alloc (Obj.cells (sg 0 (zeros 280)).toArray 30))).cell? ⟨T, 1, none⟩ = some (.slice (some ⟨gp, 0, none⟩) 8 cp) := by rw [cell_of_row _ T 1 _ 48 (0, 0) (TW.out _ B0.out).t]; rfl
  obtain ⟨y, hy⟩ : ∃ y, opL seed n m = y := ⟨_, rfl⟩
  obtain ⟨z, hz⟩ : ∃ z, shL seed n m = z := ⟨_, rfl⟩
  obtain ⟨p, hp⟩ : ∃ p, wayL seed n = p := ⟨_, rfl⟩
  obtain ⟨Z, hZ⟩ : ∃ Z, sigL seed n m = Z := ⟨_, rfl⟩
  have LY : Hid (y.length = 128) := by rw [← hy]; exact opL_len seed n m
  have LZ : Hid (z.length = 128) := by rw [← hz]; exact shL_len seed n m
  have LP : Hid (p.length = 24) := by rw [← hp]; exact wayL_len seed n
  have LS : Hid (Z.length = 280) := by rw [← hZ]; exact sigL_len seed n m
  have HZ : Hid (y ++ z ++ p = Z) := by show _ = _; rw [← hy, ← hz, ← hp, ← hZ]; exact sigL_eq seed m n
  have HZS : Hid (sigL seed n m = Z) := hZ
  have ZL : Hid ((zeros 280).length = 280) := zeros_len 280
  have C20 : Hid (∀ w', Below S w w' → Calls Tryd.prog 20 #[.slice (some ⟨gp, 0, none⟩) 8 cp, .int .i64 n] w' fun e w'' => ∃ A c, e = .returned (.tuple #[.slice A 3 c, .bool true]) ∧ Src w'' A (8 * 3) p ∧ Below w'.heap.size w' w'') := fun w' hb => by
    have hta := TW.out w' hb
    have := p8 (some ⟨gp, 0, none⟩) 8 cp n (pubs seed) w' (KW.out w' hb) hta.p hn (by omega) hta.c.2.1 hta.c.2.2
    refine this.mono ?_
    rintro e w'' ⟨A, c, h1, h2, _, _, h3⟩
    rw [wayP_eq, wayP_len] at h1
    rw [wayP_eq, wayP_len, wayL_eq, hp] at h2
    exact ⟨A, c, h1, h2, h3⟩
  have C21 : Hid (∀ w', Below S w w' → BA w' (ks n) 67 (keyL seed n) → Calls Tryd.prog 21 #[.pointer (some ⟨ks n, 0, none⟩), .agg (bvals m).toArray] w' fun e w'' => e = .returned (.tuple #[.agg (ba y), .agg (ba z)]) ∧ Below w'.heap.size w' w'') := fun w' hb hT => by
    have := lSign (keyL seed n) m (ks n) w' (KW.out w' hb) (keyL_len seed n) hm hbt hT
    rw [opL_eq, shL_eq, hy, hz, ba_bvals m] at this
    exact this
  have KT : Hid (∀ w', Below S w w' → BA w' (ks n) 67 (keyL seed n) ∧ w'.cell? ⟨gk, n, none⟩ = some (.pointer (some ⟨ks n, 0, none⟩))) := fun w' hb => ⟨(TW.out w' hb).m n hn, (TW.out w' hb).k n hn⟩
  generalize ks n = kb at *
  have s0 : (0 : Int) ≤ (n : Int) := by omega
  have s1 : (n : Int) < 8 := by omega
  have him := inf23 m hm
  clear hk hT hm hbt hn hy hz hp hZ HT
  go_enter Tryd.func9, Tryd.ntmps9
  go_wp2_with (first
    | (go_at_call 20
       refine (C20.out _ B0.out).mono ?_
       rintro e w1 ⟨A, c, rfl, hsrc, hb⟩
       have P1 := Lib.hid hsrc
       have M1 : Hid (BA w1 S 23 m) := (hb.block _ (lt_of_block M0.out)).trans M0.out
       have R1 : Hid (SB w1 (S + 1) 0 (zeros 280)) := (hb.block _ (sb_lt R0.out)).trans R0.out
       have B1 : Hid (Below S w w1) := B0.out.trans (hb.mono (by have := sb_lt R0.out; omega))
       obtain ⟨G, hG⟩ : ∃ G, w1.heap.size = G := ⟨_, rfl⟩
       have WG : Hid (w1.heap.size = G) := hG
       have LG : Hid (S + 1 < G) := by show _ < _; rw [← hG]; exact sb_lt R1.out
       have G1 := Lib.hid (sb_new hG 0 (zeros 280))
       clear hb c1 hsrc M0 R0 B0 C20)
    | (refine wpList_b30 rfl (.tmp 26) rfl n rfl ?_)
    | (refine wpList_store_rowTo rfl 30 (.tmp 10) (.tmp 27) rfl rfl G (sg n (zeros 280)).toArray rfl rfl 30 (sg 0 (zeros 280)).toArray G1.out (sg_infoA _ _ ZL.out) (by rw [sg_size _ _ ZL.out, sg_size _ _ ZL.out]) (sg_ones _ _) ?_
       have GB : Hid (SB ((w1.alloc (Obj.cells (sg 0 (zeros 280)).toArray 30)).setRow G (sg n (zeros 280)).toArray) G n (zeros 280)) := setRow_heap _ _ _ _ _ _ G1.out
       have BW : Hid (Below G w1 ((w1.alloc (Obj.cells (sg 0 (zeros 280)).toArray 30)).setRow G (sg n (zeros 280)).toArray)) := below_setRow ((Below.refl G w1).alloc (by rw [hG]; exact Nat.le_refl _) _) (Nat.le_refl _) _
       have WN : Hid (((w1.alloc (Obj.cells (sg 0 (zeros 280)).toArray 30)).setRow G (sg n (zeros 280)).toArray).heap.size = G + 1) := by
         show _ = _
         have := size_al hG (Obj.cells (sg 0 (zeros 280)).toArray 30)
         simpa [World.setRow] using this
       clear G1 hG
       generalize (w1.alloc (Obj.cells (sg 0 (zeros 280)).toArray 30)).setRow G (sg n (zeros 280)).toArray = wB at *)
    | fail)
  have MB : Hid (BA wB S 23 m) := (BW.out.block _ (by have := LG.out; omega)).trans M1.out
  have RB : Hid (SB wB (S + 1) 0 (zeros 280)) := (BW.out.block _ LG.out).trans R1.out
  have PB : Hid (Src wB A (8 * 3) p) := P1.out.keep fun q hq => BW.out.block q (by rw [← WG.out]; exact hq)
  have PL : Hid (∀ w', Below G wB w' → Src w' A (8 * 3) p) := fun w' hb => P1.out.keep fun q hq => (BW.out.trans hb).block q (by rw [← WG.out]; exact hq)
  have BB : Hid (Below S w wB) := B1.out.trans (BW.out.mono (by have := LG.out; omega))
  have KN : Hid (∀ w', Below G wB w' → Below S w w') := fun w' hb => BB.out.trans (hb.mono (by have := LG.out; omega))
  have LN : Hid (S + 1 < G ∧ T < G ∧ gk < G ∧ kb < G) := by show _ ∧ _; have := LG.out; have := LT.out; omega
  have KB : Hid (BA wB kb 67 (keyL seed n)) := (KT.out _ BB.out).1
  have CT : Hid (∀ w' : World, w'.heap[T]? = wB.heap[T]? → w'.cell? ⟨T, 0, none⟩ = some (.slice (some ⟨gk, 0, none⟩) 8 ck)) := fun w' h => by rw [cell_of_row w' T 0 _ 48 (0, 0) (h.trans (TW.out _ BB.out).t)]; rfl
  have CK : Hid (∀ w' : World, w'.heap[gk]? = wB.heap[gk]? → w'.cell? ⟨gk, n, none⟩ = some (.pointer (some ⟨kb, 0, none⟩))) := fun w' h => by rw [World.cell?_of_block (w := wB) (w' := w') (a := ⟨gk, n, none⟩) h]; exact (KT.out _ BB.out).2
  clear M1 R1 P1 B1 BW hS
  have XX : Hid (Below G wB wB.drew) := (Below.refl _ _).drew
  refine wp_region_held_drew (S := (fun w' : World => ∀ q, q < G → w'.heap[q]? = wB.heap[q]?)) (by kernel_rfl) (by exact fun _ _ => rfl) (fun hHeld => ?_)
  refine wpAnyH_take (i := 0) (v := ?_) rfl (by kernel_rfl) (by kernel_rfl) (by kernel_rfl) (fun _ _ _ h => h) (Or.inl ⟨by rfl, ?_⟩) (by assumption) ?_
  rotate_left
  · (intro w hSw; (try dsimp only at hSw); go_simp; try with_reducible rfl)
  simp only [Act.put, List.getElem_toArray, List.getElem_cons_zero, List.setIfInBounds_toArray, List.set_cons_zero, List.set_cons_succ]
  refine wpAnyH_take (i := 1) (v := ?_) rfl (by kernel_rfl) (by kernel_rfl) (by kernel_rfl) (fun _ _ _ h => h) (Or.inl ⟨by rfl, ?_⟩) (by assumption) ?_
  rotate_left
  · (intro w hSw; (try dsimp only at hSw); go_simp; try with_reducible rfl)
  simp only [Act.put, List.getElem_toArray, List.getElem_cons_succ, List.getElem_cons_zero, List.setIfInBounds_toArray, List.set_cons_zero, List.set_cons_succ]
  refine wpAnyH_take (i := 2) (v := ?_) rfl (by kernel_rfl) (by kernel_rfl) (by kernel_rfl) (fun _ _ _ h => h) (Or.inl ⟨by rfl, ?_⟩) (by assumption) ?_
  rotate_left
  · (intro w hSw; (try dsimp only at hSw); go_simp; try with_reducible rfl)
  simp only [Act.put, List.getElem_toArray, List.getElem_cons_succ, List.getElem_cons_zero, List.setIfInBounds_toArray, List.set_cons_zero, List.set_cons_succ]
  refine wpAnyH_take (i := 3) (v := ?_) rfl (by kernel_rfl) (by kernel_rfl) (by kernel_rfl) (fun _ _ _ h => h) (Or.inl ⟨by rfl, ?_⟩) (by assumption) ?_
  rotate_left
  · (intro w hSw; (try dsimp only at hSw); have c0 := CT.out w (hSw _ (by have := LN.out; omega)); go_simp; try with_reducible rfl)
  simp only [Act.put, List.getElem_toArray, List.getElem_cons_succ, List.getElem_cons_zero, List.setIfInBounds_toArray, List.set_cons_zero, List.set_cons_succ]
  refine wpAnyH_take (i := 4) (v := ?_) rfl (by kernel_rfl) (by kernel_rfl) (by kernel_rfl) (fun _ _ _ h => h) (Or.inl ⟨by rfl, ?_⟩) (by assumption) ?_
  rotate_left
  · (intro w hSw; (try dsimp only at hSw); go_simp; try with_reducible rfl)
  simp only [Act.put, List.getElem_toArray, List.getElem_cons_succ, List.getElem_cons_zero, List.setIfInBounds_toArray, List.set_cons_zero, List.set_cons_succ]
  refine wpAnyH_take (i := 5) (v := ?_) rfl (by kernel_rfl) (by kernel_rfl) (by kernel_rfl) (fun _ _ _ h => h) (Or.inl ⟨by rfl, ?_⟩) (by assumption) ?_
  rotate_left
  · (intro w hSw; (try dsimp only at hSw); go_simp; try with_reducible rfl)
  simp only [Act.put, List.getElem_toArray, List.getElem_cons_succ, List.getElem_cons_zero, List.setIfInBounds_toArray, List.set_cons_zero, List.set_cons_succ]
  refine wpAnyH_take (i := 6) (v := ?_) rfl (by kernel_rfl) (by kernel_rfl) (by kernel_rfl) (fun _ _ _ h => h) (Or.inl ⟨by rfl, ?_⟩) (by assumption) ?_
  rotate_left
  · (intro w hSw; (try dsimp only at hSw); have c0 := CK.out w (hSw _ (by have := LN.out; omega)); go_simp; try with_reducible rfl)
  simp only [Act.put, List.getElem_toArray, List.getElem_cons_succ, List.getElem_cons_zero, List.setIfInBounds_toArray, List.set_cons_zero, List.set_cons_succ]
  refine wpAnyH_take (i := 7) rfl (by kernel_rfl) (by kernel_rfl) (by kernel_rfl) (fun _ _ _ h => h) (yieldsIf_load_mid (by rfl) 23 (.tmp 5) rfl (S) (0) rfl (bvals m) _ (fun w h => ba_range (t := 23) ((h _ (by have := LN.out; omega)).trans MB.out)) Tryd.underlying23 rfl him) (by assumption) ?_
  simp only [Act.put, List.getElem_toArray, List.getElem_cons_succ, List.getElem_cons_zero, List.setIfInBounds_toArray, List.set_cons_zero, List.set_cons_succ]
  refine wpAnyH_ready (rs := [8]) (by kernel_rfl) (by simp) ?_
  refine AllReadyH.cons rfl (fun K hK => ?_) AllReadyH.nil
  go_simp
  go_at_call 21
  refine (C21.out _ (KN.out _ XX.out) ((XX.out.block _ (by have := LN.out; omega)).trans KB.out)).mono ?_
  rintro e wc1 ⟨rfl, hba⟩
  have XN : Hid (Below G wB wc1) := XX.out.trans (hba.mono (by have := XX.out.size; have := WN.out; omega))
  have G1 : Hid (SB wc1 G n (zeros 280)) := (hba.block G (by show G < wB.heap.size; have := WN.out; omega)).trans GB.out
  clear XX hba hHeld
  have XX := XN
  clear XN
  (try go_wp2_with fail)
  refine hK.out _ _ (by exact fun q hq => XX.out.block q hq) (fun hHeld => ?_)
  clear hK K
  refine wpAnyH_take (i := 9) (v := ?_) rfl (by kernel_rfl) (by kernel_rfl) (by kernel_rfl) (fun _ _ _ h => h) (Or.inl ⟨by rfl, ?_⟩) (by assumption) ?_
  rotate_left
  · (intro w hSw; (try dsimp only at hSw); go_simp; try with_reducible rfl)
  simp only [Act.put, List.getElem_toArray, List.getElem_cons_succ, List.getElem_cons_zero, List.setIfInBounds_toArray, List.set_cons_zero, List.set_cons_succ]
  refine wpAnyH_take (i := 10) (v := ?_) rfl (by kernel_rfl) (by kernel_rfl) (by kernel_rfl) (fun _ _ _ h => h) (Or.inl ⟨by rfl, ?_⟩) (by assumption) ?_
  rotate_left
  · (intro w hSw; (try dsimp only at hSw); go_simp; try with_reducible rfl)
  simp only [Act.put, List.getElem_toArray, List.getElem_cons_succ, List.getElem_cons_zero, List.setIfInBounds_toArray, List.set_cons_zero, List.set_cons_succ]
  refine wpAnyH_take (i := 11) (v := ?_) rfl (by kernel_rfl) (by kernel_rfl) (by kernel_rfl) (fun _ _ _ h => h) (Or.inl ⟨by rfl, ?_⟩) (by assumption) ?_
  rotate_left
  · (intro w hSw; (try dsimp only at hSw); go_simp; try with_reducible rfl)
  simp only [Act.put, List.getElem_toArray, List.getElem_cons_succ, List.getElem_cons_zero, List.setIfInBounds_toArray, List.set_cons_zero, List.set_cons_succ]
  refine wpAnyH_take (i := 12) (v := ?_) rfl (by kernel_rfl) (by kernel_rfl) (by kernel_rfl) (fun _ _ _ h => h) (Or.inl ⟨by rfl, ?_⟩) (by assumption) ?_
  rotate_left
  · (intro w hSw; (try dsimp only at hSw); go_simp; try with_reducible rfl)
  simp only [Act.put, List.getElem_toArray, List.getElem_cons_succ, List.getElem_cons_zero, List.setIfInBounds_toArray, List.set_cons_zero, List.set_cons_succ]
  refine wpAnyH_ready (rs := [13]) (by kernel_rfl) (by simp) ?_
  refine AllReadyH.cons rfl (fun Kq hKq => ?_) AllReadyH.nil
  refine step_at rfl 27 (.tmp 40) (.tmp 38) rfl G 1 y rfl rfl (by rw [ba_size, LY.out]; exact sb_there G1.out 1 128 (by rw [zeros_len]; omega)) (sz q27 (by rw [ba_size, LY.out])) ?_
  have G2 : Hid (SB (wc1.setCells G 1 (bvals y)) G n (y ++ zeros 152)) := sb_put1 G1.out LY.out
  have X2 : Hid (Below G wB (wc1.setCells G 1 (bvals y))) := below_setCells (Nat.le_refl _) _ _ XX.out
  clear XX G1 hHeld
  generalize wc1.setCells G 1 (bvals y) = w2 at *
  refine hKq.out _ _ (by exact fun q hq => X2.out.block q hq) (fun hHeld => ?_)
  clear hKq Kq
  simp only [Act.put, List.getElem_toArray, List.getElem_cons_succ, List.getElem_cons_zero]
  refine wpAnyH_take (i := 14) (v := ?_) rfl (by kernel_rfl) (by kernel_rfl) (by kernel_rfl) (fun _ _ _ h => h) (Or.inl ⟨by rfl, ?_⟩) (by assumption) ?_
  rotate_left
  · (intro w hSw; (try dsimp only at hSw); go_simp; try with_reducible rfl)
  simp only [Act.put, List.getElem_toArray, List.getElem_cons_succ, List.getElem_cons_zero, List.setIfInBounds_toArray, List.set_cons_zero, List.set_cons_succ]
  refine wpAnyH_ready (rs := [15]) (by kernel_rfl) (by simp) ?_
  refine AllReadyH.cons rfl (fun Kq hKq => ?_) AllReadyH.nil
  refine step_at rfl 27 (.tmp 41) (.tmp 39) rfl G 129 z rfl rfl (by rw [ba_size, LZ.out]; exact sb_there G2.out 129 128 (by rw [List.length_append, LY.out, zeros_len]; omega)) (sz q27 (by rw [ba_size, LZ.out])) ?_
  have G3 : Hid (SB (w2.setCells G 129 (bvals z)) G n (y ++ z ++ zeros 24)) := sb_put2 G2.out LY.out LZ.out
  have X3 : Hid (Below G wB (w2.setCells G 129 (bvals z))) := below_setCells (Nat.le_refl _) _ _ X2.out
  clear X2 G2 hHeld
  generalize w2.setCells G 129 (bvals z) = w3 at *
  refine hKq.out _ _ (by exact fun q hq => X3.out.block q hq) (fun hHeld => ?_)
  clear hKq Kq
  simp only [Act.put, List.getElem_toArray, List.getElem_cons_succ, List.getElem_cons_zero]
  refine wpAnyH_done (by kernel_rfl) ?_ _
  have R3 : Hid (SB w3 (S + 1) 0 (zeros 280)) := (X3.out.block _ (by have := LN.out; omega)).trans RB.out
  have B3 : Hid (Below S w w3) := KN.out _ X3.out
  have P3 : Hid (Src w3 A (8 * 3) p) := PL.out _ X3.out
  clear X3 RB hHeld
  go_wp2_with (first
    | (refine wpList_copy3 rfl (.tmp 43) (.tmp 44) rfl G 257 A c p rfl rfl P3.out (sb_there G3.out 257 24 (by rw [List.length_append, List.length_append, LY.out, LZ.out, zeros_len]; omega)) ?_
       have G4 : Hid (SB (w3.setCells G 257 (bvals p)) G n (y ++ z ++ p)) := sb_put3 G3.out LY.out LZ.out LP.out
       rw [HZ.out] at G4
       have R4 : Hid (SB (w3.setCells G 257 (bvals p)) (S + 1) 0 (zeros 280)) := (heap_setCells (by have := LN.out; omega) _ _ _).trans R3.out
       have B4 : Hid (Below S w (w3.setCells G 257 (bvals p))) := below_setCells (by have := LN.out; omega) _ _ B3.out
       clear G3 R3 B3
       generalize w3.setCells G 257 (bvals p) = w4 at *)
    | (refine wpList_load_row rfl 30 (.tmp 10) rfl G rfl 30 (sg n Z).toArray (0, 0) _ G4.out Tryd.underlying30 rfl (sg_infoA _ _ LS.out) ?_)
    | (refine wpList_store_rowTo rfl 30 (.tmp 6) (.tmp 46) rfl rfl (S + 1) (sg n Z).toArray rfl rfl 30 (sg 0 (zeros 280)).toArray R4.out (sg_infoA _ _ LS.out) (by rw [sg_size _ _ ZL.out, sg_size _ _ LS.out]) (sg_ones _ _) ?_)
    | fail)
  refine bodyPost_ret (v := .tuple #[.agg (sg n Z).toArray, .bool true]) (res2 rfl _ _ (S + 1) 30 _ (0, 0) _ rfl (setRow_heap _ _ _ _ _ _ R4.out) Tryd.underlying30 rfl (sg_infoA _ _ LS.out) (.bool true) rfl) rfl ⟨by rw [HZS.out], ?_⟩
  rw [HS.out]
  exact below_setRow B4.out (by omega) _
end Go.Proofs.YtkmfmkonejdjiaaDoor
