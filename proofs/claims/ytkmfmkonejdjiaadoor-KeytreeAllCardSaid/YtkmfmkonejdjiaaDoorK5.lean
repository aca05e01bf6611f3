/-
  New: eight keys, their publics.
-/
import Derived.Test.YtkmfmkonejdjiaaDoorK4
import Derived.Test.YtkmfmkonejdjiaaDoorL5
namespace Go.Proofs.YtkmfmkonejdjiaaDoor
open Go.RowKit
theorem b48t (w : World) : (Instr.build 48 #[]).run Tryd.prog w = .ok (.agg #[.slice none 0 0, .slice none 0 0]) w := by kernel_rfl
theorem keyL_eq (seed : List Int) (i : Nat) : cat (keyF seed (i : Int)) 32 = keyL seed i := rfl
theorem pubF_eq (seed : List Int) (i : Nat) : pubk (cat (marksF (keyL seed i)) 32) = pubF seed i := rfl
attribute [local irreducible] ua da ba kk sw S8.run rt hs comp splice outB sha msg bvals cat at8 at16 secM zeros sec keyF marksF mk pubk bt openF shutF readF splR rootF leafH twoH stepsF cutN leadF provL rootV pubF pubs keyL
set_option maxRecDepth 100000 in
set_option maxHeartbeats 8000000 in
theorem kNew (seed : List Int) (w : World) (hk : Keys w) (hs : seed.length = 8) :
    Calls Tryd.prog 8 #[.agg (ba seed)] w fun e w' => ∃ T gk ck gp cp ks, e = .returned (.pointer (some ⟨T, 0, none⟩)) ∧ w.heap.size ≤ T ∧ TA w' T seed gk ck gp cp ks ∧ Below w.heap.size w w' := by
  have h4 := b48t
  have HK := Lib.hid hk
  have HP : Hid (0 < w.heap.size) := keys_pos hk
  have HL := Lib.hid hs
  obtain ⟨S, hS⟩ : ∃ S, w.heap.size = S := ⟨_, rfl⟩
  have HS := Lib.hid hS
  have KW : Hid (∀ w', Below S w w' → Keys w') := fun w' hb => keys_below HK.out hb (by rw [← HS.out]; exact HP.out)
  have E0 := Lib.hid (ba_old (ba_new hS seed 23) (Obj.cells #[.slice none 0 0, .slice none 0 0] 48))
  have T0 : Hid (Tre ((w.alloc (Obj.cells (ba seed) 23)).alloc (Obj.cells #[.slice none 0 0, .slice none 0 0] 48)) (S + 2) (S + 1) seed 0 0 (.slice none 0 0) (.slice none 0 0) []) := by
    refine ⟨?_, ⟨rfl, .inl ⟨rfl, rfl⟩⟩, by rw [cat_zero]; exact own8_nil _ _, rfl, fun j hj => by omega, by omega⟩
    have := heap_alloc_last (w.alloc (Obj.cells (ba seed) 23)) (Obj.cells #[.slice none 0 0, .slice none 0 0] 48)
    rw [World.size_alloc, hS] at this
    exact this
  have B0 : Hid (Below S w ((w.alloc (Obj.cells (ba seed) 23)).alloc (Obj.cells #[.slice none 0 0, .slice none 0 0] 48))) := by subst hS; exact ((Below.refl _ w).alloc (Nat.le_refl _) _).alloc (by simp) _
  have Z0 : Hid (S + 2 ≤ ((w.alloc (Obj.cells (ba seed) 23)).alloc (Obj.cells #[.slice none 0 0, .slice none 0 0] 48)).heap.size) := by show _ ≤ _; rw [World.size_alloc, World.size_alloc, hS]; exact Nat.le_refl _
  have C18 : Hid (∀ (j : Nat) (w' : World), j < 8 → Below S w w' → Calls Tryd.prog 18 #[.agg (ba seed), .int .i64 j] w' fun e w'' => ∃ D, e = .returned (.pointer (some ⟨D, 0, none⟩)) ∧ w'.heap.size ≤ D ∧ BA w'' D 67 (keyL seed j) ∧ Below w'.heap.size w' w'') := fun j w' hj hb => by
    have := lMake seed j j w' (KW.out w' hb) hs (by rw [IntKind.wrap_u8']; omega)
    rw [keyL_eq] at this
    exact this
  have C19 : Hid (∀ (K j : Nat) (w' : World), Below S w w' → BA w' K 67 (keyL seed j) → Calls Tryd.prog 19 #[.pointer (some ⟨K, 0, none⟩)] w' fun e w'' => e = .returned (.agg (ba (pubF seed j))) ∧ Below w'.heap.size w' w'') := fun K j w' hb hT => by
    have := lPub (keyL seed j) K w' (KW.out w' hb) (keyL_len seed j) hT
    rw [pubF_eq] at this
    exact this
  clear hk hs
  go_enter Tryd.func8, Tryd.ntmps8
  go_wp2_with fail
  clear hS
  generalize ((w.alloc (Obj.cells (ba seed) 23)).alloc (Obj.cells #[.slice none 0 0, .slice none 0 0] 48)) = w0 at *
  go_loopw [8] (fun c wr => ∃ (s : Nat) (A : Option Addr) (c1 : Nat) (B : Option Addr) (d1 : Nat) (ks : List Nat), s ≤ 8 ∧ c = .int .i64 s ∧ Tre wr (S + 2) (S + 1) seed s s (.slice A s c1) (.slice B s d1) ks ∧ BA wr S 23 seed ∧ Below S w wr ∧ S + 2 ≤ wr.heap.size) (fun c _ => 8 - (intOf c).toNat)
  case atStart => exact ⟨0, none, 0, none, 0, [], by omega, rfl, T0.out, E0.out, B0.out, Z0.out⟩
  case round =>
    clear T0 E0 B0 Z0
    obtain ⟨s, A, c1, B, d1, ks, hs, rfl, hT, hE, hb, hz⟩ := hrel
    have TR := Lib.hid hT
    have ER := Lib.hid hE
    have BR := Lib.hid hb
    have ZR := Lib.hid hz
    clear hT hE hb hz
    by_cases hlt : s < 8
    · have s0 : (0 : Int) ≤ (s : Int) := by omega
      have s1 : (s : Int) < 8 := by omega
      have HS8 : Hid (s < 8) := hlt
      obtain ⟨v, hv⟩ : ∃ v, Value.slice A s c1 = v := ⟨_, rfl⟩
      obtain ⟨u, hu⟩ : ∃ u, Value.slice B s d1 = u := ⟨_, rfl⟩
      rw [hv, hu] at TR
      clear hv
      obtain ⟨pz, hpz⟩ : ∃ p, pubF seed s = p := ⟨_, rfl⟩
      have LPZ : Hid (pz.length = 8) := by rw [← hpz]; exact pubF_len seed s
      have HC : Hid (cat (pubF seed) (s + 1) = cat (pubF seed) s ++ pz) := by show _ = _; rw [cat_succ, hpz]
      have HPZ : Hid (pubF seed s = pz) := hpz
      clear hs hlt hpz
      go_wp2_with (first
        | (refine wpList_load_row rfl 23 (.tmp 1) rfl S rfl 23 (ba seed) (0, 0) _ ER.out Tryd.underlying23 rfl (sz s27 (by rw [ba_size, HL.out])) ?_)
        | (go_at_call 18
           refine (C18.out s wr HS8.out BR.out).mono ?_
           rintro e w1 ⟨D, rfl, hK1, hK2, hb⟩
           have K1 := Lib.hid hK2
           have E1 : Hid (BA w1 S 23 seed) := (hb.block _ (lt_of_block ER.out)).trans ER.out
           have B1 : Hid (Below S w w1) := BR.out.trans (hb.mono (by have := ZR.out; omega))
           have Z1 : Hid (S + 2 ≤ w1.heap.size) := Nat.le_trans ZR.out hb.size
           have T1 := Lib.hid (TR.out.below hb)
           have c0 := T1.out.cell0
           have f0 : w1.frozen? ⟨S + 1, 0, none⟩ = false := free_of T1.out.t 0
           obtain ⟨G, hG⟩ : ∃ G, w1.heap.size = G := ⟨_, rfl⟩
           have WG : Hid (w1.heap.size = G) := hG
           clear hK1 hK2 hb)
        | (at_builtin
           have P2 : (w1.alloc (Obj.cells #[ptr D] 49)).heap[G]? = some (.cells #[ptr D] 49 (0, 0)) := by rw [← hG]; exact heap_alloc_last w1 _
           have T2 := Lib.hid (T1.out.below ((Below.refl _ w1).alloc (Nat.le_refl _) (Obj.cells #[ptr D] 49)))
           have B2 : Hid (Below S w (w1.alloc (Obj.cells #[ptr D] 49))) := B1.out.alloc (by have := Z1.out; omega) _
           have Z2 : Hid (S + 2 ≤ (w1.alloc (Obj.cells #[ptr D] 49)).heap.size) := by show _ ≤ _; rw [World.size_alloc]; have := Z1.out; omega
           have K2 : Hid (BA (w1.alloc (Obj.cells #[ptr D] 49)) D 67 (keyL seed s)) := ba_old K1.out _
           have E2 : Hid (BA (w1.alloc (Obj.cells #[ptr D] 49)) S 23 seed) := ba_old E1.out _
           refine wpList_app1 rfl (.tmp 18) (.tmp 20) rfl (S + 2) s v ks rfl T2.out.k G D 1 rfl P2 (by have := HS8.out; omega) Z2.out ?_
           intro A2 c2 w2 hown hg
           have R2 := Lib.hid (T2.out.key K2.out hg hown)
           have N1 : some (S + 1) ≠ v.ownBlock := fun e => by have := own1_base T2.out.k _ e.symm; omega
           have N0 : some S ≠ v.ownBlock := fun e => by have := own1_base T2.out.k _ e.symm; omega
           have E3 : Hid (BA (w2.setCell ⟨S + 1, 0, none⟩ (.slice A2 (s + 1) c2)) S 23 seed) := (heap_setCell_other _ ⟨S + 1, 0, none⟩ S _ (by show S ≠ S + 1; omega)).trans ((hg.block S (lt_of_block E2.out) N0).trans E2.out)
           have BK : Hid (Below (S + 2) (w1.alloc (Obj.cells #[ptr D] 49)) w2) := (Below.refl _ _).grown hg Z2.out (fun q hq => own1_base T2.out.k q hq)
           have B3 : Hid (Below S w (w2.setCell ⟨S + 1, 0, none⟩ (.slice A2 (s + 1) c2))) := (B2.out.trans (BK.out.mono (by omega))).setCell (by show S ≤ S + 1; omega) _
           have K3 : Hid (BA (w2.setCell ⟨S + 1, 0, none⟩ (.slice A2 (s + 1) c2)) D 67 (keyL seed s)) := by
             have := R2.out.m s (by omega)
             have e : (ks ++ [D]).getD s 0 = D := by have := T2.out.n; rw [← this]; simp [List.getD]
             rw [e] at this
             exact this
           have Z3 : Hid (S + 2 ≤ (w2.setCell ⟨S + 1, 0, none⟩ (.slice A2 (s + 1) c2)).heap.size) := by show _ ≤ _; rw [World.size_setCell]; exact Nat.le_trans Z2.out hg.size
           have g2 : w2.heap[S + 1]? = some (.cells #[v, u] 48 (0, 0)) := (hg.block _ (lt_of_block T2.out.t) N1).trans T2.out.t
           have c2' : w2.cell? ⟨S + 1, 0, none⟩ = some v := by rw [cell_of_row w2 (S + 1) 0 _ 48 (0, 0) g2]; rfl
           have f2' : w2.frozen? ⟨S + 1, 0, none⟩ = false := free_of g2 0
           clear hown hg N1 N0 g2 P2 T2 B2 Z2 K2 E2 BK c0 f0 hG T1 B1 Z1 K1 E1)
        | fail)
      generalize w2.setCell ⟨S + 1, 0, none⟩ (.slice A2 (s + 1) c2) = wB at *
      have RB := R2
      have EB := E3
      have BB := B3
      have KB := K3
      obtain ⟨M, hM⟩ : ∃ M, wB.heap.size = M := ⟨_, rfl⟩
      have WN : Hid (wB.heap.size = M) := hM
      have LM : Hid (S + 1 < M ∧ D < M ∧ S + 2 ≤ M) := by show _ ∧ _; rw [← hM]; exact ⟨lt_of_block RB.out.t, lt_of_block KB.out, Z3.out⟩
      have KN : Hid (∀ w', Below M wB w' → Below S w w') := fun w' hb => BB.out.trans (hb.mono (by have := LM.out; omega))
      have C19s : Hid (∀ (D : Nat) (w' : World), Below S w w' → BA w' D 67 (keyL seed s) → Calls Tryd.prog 19 #[.pointer (some ⟨D, 0, none⟩)] w' fun e w'' => e = .returned (.agg (ba pz)) ∧ Below w'.heap.size w' w'') := fun D w' hb hT => by
        have := C19.out D s w' hb hT
        rw [HPZ.out] at this
        exact this
      clear hM R2 E3 B3 K3 Z3 c2' f2' C18 C19 TR ER BR ZR hu
      refine wp_region_held_drew (S := (fun w' : World => True)) (by kernel_rfl) trivial (fun hHeld => ?_)
      refine wpAnyH_take (i := 0) (v := ?_) rfl (by kernel_rfl) (by kernel_rfl) (by kernel_rfl) (fun _ _ _ h => h) (Or.inl ⟨by rfl, ?_⟩) (by assumption) ?_
      rotate_left
      · (intro w hSw; (try dsimp only at hSw); go_simp; try with_reducible rfl)
      simp only [Act.put, List.getElem_toArray, List.getElem_cons_zero, List.setIfInBounds_toArray, List.set_cons_zero, List.set_cons_succ]
      refine wpAnyH_take (i := 1) (v := ?_) rfl (by kernel_rfl) (by kernel_rfl) (by kernel_rfl) (fun _ _ _ h => h) (Or.inl ⟨by rfl, ?_⟩) (by assumption) ?_
      rotate_left
      · (intro w hSw; (try dsimp only at hSw); go_simp; try with_reducible rfl)
      simp only [Act.put, List.getElem_toArray, List.getElem_cons_succ, List.getElem_cons_zero, List.setIfInBounds_toArray, List.set_cons_zero, List.set_cons_succ]
      refine wpAnyH_take (i := 2) (v := ?_) rfl (by kernel_rfl) (by kernel_rfl) (by kernel_rfl) (fun _ _ _ h => h) (Or.inl ⟨by rfl, ?_⟩) (by assumption) ?_
      rotate_left
      · (intro w hSw; (try dsimp only at hSw); go_simp; try with_reducible rfl)
      simp only [Act.put, List.getElem_toArray, List.getElem_cons_succ, List.getElem_cons_zero, List.setIfInBounds_toArray, List.set_cons_zero, List.set_cons_succ]
      refine wpAnyH_take (i := 3) (v := ?_) rfl (by kernel_rfl) (by kernel_rfl) (by kernel_rfl) (fun _ _ _ h => h) (Or.inl ⟨by rfl, ?_⟩) (by assumption) ?_
      rotate_left
      · (intro w hSw; (try dsimp only at hSw); go_simp; try with_reducible rfl)
      simp only [Act.put, List.getElem_toArray, List.getElem_cons_succ, List.getElem_cons_zero, List.setIfInBounds_toArray, List.set_cons_zero, List.set_cons_succ]
      refine wpAnyH_take (i := 5) (v := ?_) rfl (by kernel_rfl) (by kernel_rfl) (by kernel_rfl) (fun _ _ _ h => h) (Or.inl ⟨by rfl, ?_⟩) (by assumption) ?_
      rotate_left
      · (intro w hSw; (try dsimp only at hSw); go_simp; try with_reducible rfl)
      simp only [Act.put, List.getElem_toArray, List.getElem_cons_succ, List.getElem_cons_zero, List.setIfInBounds_toArray, List.set_cons_zero, List.set_cons_succ]
      have XX : Hid (Below M wB wB.drew) := (Below.refl _ _).drew
      have R7 : Hid (Tre wB.drew (S + 2) (S + 1) seed (s + 1) s (.slice A2 (s + 1) c2) u (ks ++ [D])) := RB.out.below (Below.refl _ _).drew
      clear hHeld
      generalize wB.drew = wc at *
      refine wpAnyH_ready (rs := [4, 6]) (by kernel_rfl) (by simp) ?_
      refine AllReadyH.cons rfl (fun Kq hKq => ?_) (AllReadyH.cons rfl (fun Kq hKq => ?_) AllReadyH.nil)
      · have c1 := R7.out.cell1
        go_simp
        clear c1
        refine hKq.out _ _ trivial (fun _ => ?_)
        clear hKq Kq
        (try simp only [Act.put, List.getElem_toArray, List.getElem_cons_succ, List.getElem_cons_zero, List.setIfInBounds_toArray, List.set_cons_zero, List.set_cons_succ])
        refine wpAnyH_ready (rs := [6]) (by kernel_rfl) (by simp) ?_
        refine AllReadyH.cons rfl (fun Kq hKq => ?_) AllReadyH.nil
        go_simp
        go_at_call 19
        refine (C19s.out D _ (KN.out _ XX.out) ((XX.out.block _ LM.out.2.1).trans KB.out)).mono ?_
        rintro e wd ⟨rfl, hba⟩
        have XN : Hid (Below M wB wd) := XX.out.trans (hba.mono (by have := XX.out.size; have := WN.out; omega))
        have RN : Hid (Tre wd (S + 2) (S + 1) seed (s + 1) s (.slice A2 (s + 1) c2) u (ks ++ [D])) := R7.out.below hba
        clear XX R7 hba
        have XX := XN
        have R7 := RN
        clear XN RN
        (try go_wp2_with fail)
        refine hKq.out _ _ trivial (fun _ => ?_)
        clear hKq Kq
        (try simp only [Act.put, List.getElem_toArray, List.getElem_cons_succ, List.getElem_cons_zero, List.setIfInBounds_toArray, List.set_cons_zero, List.set_cons_succ])
        refine wpAnyH_ready (rs := [7]) (by kernel_rfl) (by simp) ?_
        refine AllReadyH.cons rfl (fun Kq hKq => ?_) AllReadyH.nil
        obtain ⟨G, hG⟩ : ∃ G, wd.heap.size = G := ⟨_, rfl⟩
        refine step_bs8 rfl (.tmp 30) rfl pz LPZ.out rfl ?_
        rw [hG]
        have P8 := Lib.hid (ba_new hG pz 23)
        have MG : Hid (M ≤ G) := by show _ ≤ _; rw [← hG, ← WN.out]; exact XX.out.size
        have XN : Hid (Below M wB (wd.alloc (Obj.cells (ba pz) 23))) := XX.out.alloc (by rw [hG]; exact MG.out) _
        have RN : Hid (Tre (wd.alloc (Obj.cells (ba pz) 23)) (S + 2) (S + 1) seed (s + 1) s (.slice A2 (s + 1) c2) u (ks ++ [D])) := R7.out.below ((Below.refl _ _).alloc (Nat.le_refl _) _)
        clear XX R7
        have XX := XN
        have R7 := RN
        clear XN RN hG
        generalize wd.alloc (Obj.cells (ba pz) 23) = we at *
        refine hKq.out _ _ trivial (fun _ => ?_)
        clear hKq Kq
        simp only [Act.put, List.getElem_toArray, List.getElem_cons_succ, List.getElem_cons_zero, List.setIfInBounds_toArray, List.set_cons_zero, List.set_cons_succ]
        refine wpAnyH_ready (rs := [8]) (by kernel_rfl) (by simp) ?_
        refine AllReadyH.cons rfl (fun Kq hKq => ?_) AllReadyH.nil
        refine step_app8 rfl (.tmp 28) (.tmp 31) rfl (S + 2) s u (cat (pubF seed) s) rfl R7.out.p G 1 pz rfl P8.out LPZ.out (by have := HS8.out; omega) (by have := XX.out.size; have := WN.out; have := LM.out; omega) ?_
        intro A9 c9 w9 hown hg
        rw [← HC.out] at hown
        have R9 := Lib.hid (R7.out.pub hg hown)
        have NS : some S ≠ u.ownBlock := fun e => by have := own8_base R7.out.p _ e.symm; omega
        have E9 : Hid (BA (w9.setCell ⟨S + 1, 1, none⟩ (.slice A9 (s + 1) c9)) S 23 seed) := (heap_setCell_other _ ⟨S + 1, 1, none⟩ S _ (by show S ≠ S + 1; omega)).trans ((hg.block S (by have := XX.out.size; have := WN.out; have := LM.out; omega) NS).trans ((XX.out.block S (by have := LM.out; omega)).trans EB.out))
        have Z9 : Hid (S + 2 ≤ (w9.setCell ⟨S + 1, 1, none⟩ (.slice A9 (s + 1) c9)).heap.size) := by show _ ≤ _; rw [World.size_setCell]; have := hg.size; have := XX.out.size; have := WN.out; have := LM.out; omega
        have B9 : Hid (Below S w (w9.setCell ⟨S + 1, 1, none⟩ (.slice A9 (s + 1) c9))) := ((KN.out _ XX.out).grown hg (by have := XX.out.size; have := WN.out; have := LM.out; omega) (fun q hq => by have := own8_base R7.out.p q hq; omega)).setCell (by show S ≤ S + 1; omega) _
        have g9 : w9.heap[S + 1]? = some (.cells #[.slice A2 (s + 1) c2, u] 48 (0, 0)) := (hg.block _ (lt_of_block R7.out.t) (fun e => by have := own8_base R7.out.p _ e.symm; omega)).trans R7.out.t
        have c9' : w9.cell? ⟨S + 1, 1, none⟩ = some u := by rw [cell_of_row w9 (S + 1) 1 _ 48 (0, 0) g9]; rfl
        have f9' : w9.frozen? ⟨S + 1, 1, none⟩ = false := free_of g9 1
        clear g9 hown hg NS
        refine hKq.out _ _ trivial (fun _ => ?_)
        clear hKq Kq
        (try simp only [Act.put, List.getElem_toArray, List.getElem_cons_succ, List.getElem_cons_zero, List.setIfInBounds_toArray, List.set_cons_zero, List.set_cons_succ])
        refine wpAnyH_take (i := 9) (v := ?_) rfl (by kernel_rfl) (by kernel_rfl) (by kernel_rfl) (fun _ _ _ h => h) (Or.inl ⟨by rfl, ?_⟩) (by assumption) ?_
        rotate_left
        · (intro w hSw; (try dsimp only at hSw); go_simp; try with_reducible rfl)
        simp only [Act.put, List.getElem_toArray, List.getElem_cons_succ, List.getElem_cons_zero, List.setIfInBounds_toArray, List.set_cons_zero, List.set_cons_succ]
        refine wpAnyH_take (i := 10) (v := ?_) rfl (by kernel_rfl) (by kernel_rfl) (by kernel_rfl) (fun _ _ _ h => h) (Or.inl ⟨by rfl, ?_⟩) (by assumption) ?_
        rotate_left
        · (intro w hSw; (try dsimp only at hSw); go_simp; try with_reducible rfl)
        simp only [Act.put, List.getElem_toArray, List.getElem_cons_succ, List.getElem_cons_zero, List.setIfInBounds_toArray, List.set_cons_zero, List.set_cons_succ]
        refine wpAnyH_ready (rs := [11]) (by kernel_rfl) (by simp) ?_
        refine AllReadyH.cons rfl (fun Kq hKq => ?_) AllReadyH.nil
        go_simp
        clear c9' f9'
        refine hKq.out _ _ trivial (fun _ => ?_)
        clear hKq Kq
        (try simp only [Act.put, List.getElem_toArray, List.getElem_cons_succ, List.getElem_cons_zero, List.setIfInBounds_toArray, List.set_cons_zero, List.set_cons_succ])
        refine wpAnyH_done (by kernel_rfl) ?_ _
        go_wp2
        go_roundw
        case rel => exact ⟨s + 1, A2, c2, A9, c9, ks ++ [D], by have := HS8.out; omega, by go_num, R9.out, E9.out, B9.out, Z9.out⟩
        case measure => have := HS8.out; simp [intOf]; omega
      · go_simp
        go_at_call 19
        refine (C19s.out D _ (KN.out _ XX.out) ((XX.out.block _ LM.out.2.1).trans KB.out)).mono ?_
        rintro e wd ⟨rfl, hba⟩
        have XN : Hid (Below M wB wd) := XX.out.trans (hba.mono (by have := XX.out.size; have := WN.out; omega))
        have RN : Hid (Tre wd (S + 2) (S + 1) seed (s + 1) s (.slice A2 (s + 1) c2) u (ks ++ [D])) := R7.out.below hba
        clear XX R7 hba
        have XX := XN
        have R7 := RN
        clear XN RN
        (try go_wp2_with fail)
        refine hKq.out _ _ trivial (fun _ => ?_)
        clear hKq Kq
        (try simp only [Act.put, List.getElem_toArray, List.getElem_cons_succ, List.getElem_cons_zero, List.setIfInBounds_toArray, List.set_cons_zero, List.set_cons_succ])
        refine wpAnyH_ready (rs := [4, 7]) (by kernel_rfl) (by simp) ?_
        refine AllReadyH.cons rfl (fun Kq hKq => ?_) (AllReadyH.cons rfl (fun Kq hKq => ?_) AllReadyH.nil)
        · have c1 := R7.out.cell1
          go_simp
          clear c1
          refine hKq.out _ _ trivial (fun _ => ?_)
          clear hKq Kq
          (try simp only [Act.put, List.getElem_toArray, List.getElem_cons_succ, List.getElem_cons_zero, List.setIfInBounds_toArray, List.set_cons_zero, List.set_cons_succ])
          refine wpAnyH_ready (rs := [7]) (by kernel_rfl) (by simp) ?_
          refine AllReadyH.cons rfl (fun Kq hKq => ?_) AllReadyH.nil
          obtain ⟨G, hG⟩ : ∃ G, wd.heap.size = G := ⟨_, rfl⟩
          refine step_bs8 rfl (.tmp 30) rfl pz LPZ.out rfl ?_
          rw [hG]
          have P8 := Lib.hid (ba_new hG pz 23)
          have MG : Hid (M ≤ G) := by show _ ≤ _; rw [← hG, ← WN.out]; exact XX.out.size
          have XN : Hid (Below M wB (wd.alloc (Obj.cells (ba pz) 23))) := XX.out.alloc (by rw [hG]; exact MG.out) _
          have RN : Hid (Tre (wd.alloc (Obj.cells (ba pz) 23)) (S + 2) (S + 1) seed (s + 1) s (.slice A2 (s + 1) c2) u (ks ++ [D])) := R7.out.below ((Below.refl _ _).alloc (Nat.le_refl _) _)
          clear XX R7
          have XX := XN
          have R7 := RN
          clear XN RN hG
          generalize wd.alloc (Obj.cells (ba pz) 23) = we at *
          refine hKq.out _ _ trivial (fun _ => ?_)
          clear hKq Kq
          simp only [Act.put, List.getElem_toArray, List.getElem_cons_succ, List.getElem_cons_zero, List.setIfInBounds_toArray, List.set_cons_zero, List.set_cons_succ]
          refine wpAnyH_ready (rs := [8]) (by kernel_rfl) (by simp) ?_
          refine AllReadyH.cons rfl (fun Kq hKq => ?_) AllReadyH.nil
          refine step_app8 rfl (.tmp 28) (.tmp 31) rfl (S + 2) s u (cat (pubF seed) s) rfl R7.out.p G 1 pz rfl P8.out LPZ.out (by have := HS8.out; omega) (by have := XX.out.size; have := WN.out; have := LM.out; omega) ?_
          intro A9 c9 w9 hown hg
          rw [← HC.out] at hown
          have R9 := Lib.hid (R7.out.pub hg hown)
          have NS : some S ≠ u.ownBlock := fun e => by have := own8_base R7.out.p _ e.symm; omega
          have E9 : Hid (BA (w9.setCell ⟨S + 1, 1, none⟩ (.slice A9 (s + 1) c9)) S 23 seed) := (heap_setCell_other _ ⟨S + 1, 1, none⟩ S _ (by show S ≠ S + 1; omega)).trans ((hg.block S (by have := XX.out.size; have := WN.out; have := LM.out; omega) NS).trans ((XX.out.block S (by have := LM.out; omega)).trans EB.out))
          have Z9 : Hid (S + 2 ≤ (w9.setCell ⟨S + 1, 1, none⟩ (.slice A9 (s + 1) c9)).heap.size) := by show _ ≤ _; rw [World.size_setCell]; have := hg.size; have := XX.out.size; have := WN.out; have := LM.out; omega
          have B9 : Hid (Below S w (w9.setCell ⟨S + 1, 1, none⟩ (.slice A9 (s + 1) c9))) := ((KN.out _ XX.out).grown hg (by have := XX.out.size; have := WN.out; have := LM.out; omega) (fun q hq => by have := own8_base R7.out.p q hq; omega)).setCell (by show S ≤ S + 1; omega) _
          have g9 : w9.heap[S + 1]? = some (.cells #[.slice A2 (s + 1) c2, u] 48 (0, 0)) := (hg.block _ (lt_of_block R7.out.t) (fun e => by have := own8_base R7.out.p _ e.symm; omega)).trans R7.out.t
          have c9' : w9.cell? ⟨S + 1, 1, none⟩ = some u := by rw [cell_of_row w9 (S + 1) 1 _ 48 (0, 0) g9]; rfl
          have f9' : w9.frozen? ⟨S + 1, 1, none⟩ = false := free_of g9 1
          clear g9 hown hg NS
          refine hKq.out _ _ trivial (fun _ => ?_)
          clear hKq Kq
          (try simp only [Act.put, List.getElem_toArray, List.getElem_cons_succ, List.getElem_cons_zero, List.setIfInBounds_toArray, List.set_cons_zero, List.set_cons_succ])
          refine wpAnyH_take (i := 9) (v := ?_) rfl (by kernel_rfl) (by kernel_rfl) (by kernel_rfl) (fun _ _ _ h => h) (Or.inl ⟨by rfl, ?_⟩) (by assumption) ?_
          rotate_left
          · (intro w hSw; (try dsimp only at hSw); go_simp; try with_reducible rfl)
          simp only [Act.put, List.getElem_toArray, List.getElem_cons_succ, List.getElem_cons_zero, List.setIfInBounds_toArray, List.set_cons_zero, List.set_cons_succ]
          refine wpAnyH_take (i := 10) (v := ?_) rfl (by kernel_rfl) (by kernel_rfl) (by kernel_rfl) (fun _ _ _ h => h) (Or.inl ⟨by rfl, ?_⟩) (by assumption) ?_
          rotate_left
          · (intro w hSw; (try dsimp only at hSw); go_simp; try with_reducible rfl)
          simp only [Act.put, List.getElem_toArray, List.getElem_cons_succ, List.getElem_cons_zero, List.setIfInBounds_toArray, List.set_cons_zero, List.set_cons_succ]
          refine wpAnyH_ready (rs := [11]) (by kernel_rfl) (by simp) ?_
          refine AllReadyH.cons rfl (fun Kq hKq => ?_) AllReadyH.nil
          go_simp
          clear c9' f9'
          refine hKq.out _ _ trivial (fun _ => ?_)
          clear hKq Kq
          (try simp only [Act.put, List.getElem_toArray, List.getElem_cons_succ, List.getElem_cons_zero, List.setIfInBounds_toArray, List.set_cons_zero, List.set_cons_succ])
          refine wpAnyH_done (by kernel_rfl) ?_ _
          go_wp2
          go_roundw
          case rel => exact ⟨s + 1, A2, c2, A9, c9, ks ++ [D], by have := HS8.out; omega, by go_num, R9.out, E9.out, B9.out, Z9.out⟩
          case measure => have := HS8.out; simp [intOf]; omega
        · obtain ⟨G, hG⟩ : ∃ G, wd.heap.size = G := ⟨_, rfl⟩
          refine step_bs8 rfl (.tmp 30) rfl pz LPZ.out rfl ?_
          rw [hG]
          have P8 := Lib.hid (ba_new hG pz 23)
          have MG : Hid (M ≤ G) := by show _ ≤ _; rw [← hG, ← WN.out]; exact XX.out.size
          have XN : Hid (Below M wB (wd.alloc (Obj.cells (ba pz) 23))) := XX.out.alloc (by rw [hG]; exact MG.out) _
          have RN : Hid (Tre (wd.alloc (Obj.cells (ba pz) 23)) (S + 2) (S + 1) seed (s + 1) s (.slice A2 (s + 1) c2) u (ks ++ [D])) := R7.out.below ((Below.refl _ _).alloc (Nat.le_refl _) _)
          clear XX R7
          have XX := XN
          have R7 := RN
          clear XN RN hG
          generalize wd.alloc (Obj.cells (ba pz) 23) = we at *
          refine hKq.out _ _ trivial (fun _ => ?_)
          clear hKq Kq
          simp only [Act.put, List.getElem_toArray, List.getElem_cons_succ, List.getElem_cons_zero, List.setIfInBounds_toArray, List.set_cons_zero, List.set_cons_succ]
          refine wpAnyH_ready (rs := [4]) (by kernel_rfl) (by simp) ?_
          refine AllReadyH.cons rfl (fun Kq hKq => ?_) AllReadyH.nil
          have c1 := R7.out.cell1
          go_simp
          clear c1
          refine hKq.out _ _ trivial (fun _ => ?_)
          clear hKq Kq
          (try simp only [Act.put, List.getElem_toArray, List.getElem_cons_succ, List.getElem_cons_zero, List.setIfInBounds_toArray, List.set_cons_zero, List.set_cons_succ])
          refine wpAnyH_ready (rs := [8]) (by kernel_rfl) (by simp) ?_
          refine AllReadyH.cons rfl (fun Kq hKq => ?_) AllReadyH.nil
          refine step_app8 rfl (.tmp 28) (.tmp 31) rfl (S + 2) s u (cat (pubF seed) s) rfl R7.out.p G 1 pz rfl P8.out LPZ.out (by have := HS8.out; omega) (by have := XX.out.size; have := WN.out; have := LM.out; omega) ?_
          intro A9 c9 w9 hown hg
          rw [← HC.out] at hown
          have R9 := Lib.hid (R7.out.pub hg hown)
          have NS : some S ≠ u.ownBlock := fun e => by have := own8_base R7.out.p _ e.symm; omega
          have E9 : Hid (BA (w9.setCell ⟨S + 1, 1, none⟩ (.slice A9 (s + 1) c9)) S 23 seed) := (heap_setCell_other _ ⟨S + 1, 1, none⟩ S _ (by show S ≠ S + 1; omega)).trans ((hg.block S (by have := XX.out.size; have := WN.out; have := LM.out; omega) NS).trans ((XX.out.block S (by have := LM.out; omega)).trans EB.out))
          have Z9 : Hid (S + 2 ≤ (w9.setCell ⟨S + 1, 1, none⟩ (.slice A9 (s + 1) c9)).heap.size) := by show _ ≤ _; rw [World.size_setCell]; have := hg.size; have := XX.out.size; have := WN.out; have := LM.out; omega
          have B9 : Hid (Below S w (w9.setCell ⟨S + 1, 1, none⟩ (.slice A9 (s + 1) c9))) := ((KN.out _ XX.out).grown hg (by have := XX.out.size; have := WN.out; have := LM.out; omega) (fun q hq => by have := own8_base R7.out.p q hq; omega)).setCell (by show S ≤ S + 1; omega) _
          have g9 : w9.heap[S + 1]? = some (.cells #[.slice A2 (s + 1) c2, u] 48 (0, 0)) := (hg.block _ (lt_of_block R7.out.t) (fun e => by have := own8_base R7.out.p _ e.symm; omega)).trans R7.out.t
          have c9' : w9.cell? ⟨S + 1, 1, none⟩ = some u := by rw [cell_of_row w9 (S + 1) 1 _ 48 (0, 0) g9]; rfl
          have f9' : w9.frozen? ⟨S + 1, 1, none⟩ = false := free_of g9 1
          clear g9 hown hg NS
          refine hKq.out _ _ trivial (fun _ => ?_)
          clear hKq Kq
          (try simp only [Act.put, List.getElem_toArray, List.getElem_cons_succ, List.getElem_cons_zero, List.setIfInBounds_toArray, List.set_cons_zero, List.set_cons_succ])
          refine wpAnyH_take (i := 9) (v := ?_) rfl (by kernel_rfl) (by kernel_rfl) (by kernel_rfl) (fun _ _ _ h => h) (Or.inl ⟨by rfl, ?_⟩) (by assumption) ?_
          rotate_left
          · (intro w hSw; (try dsimp only at hSw); go_simp; try with_reducible rfl)
          simp only [Act.put, List.getElem_toArray, List.getElem_cons_succ, List.getElem_cons_zero, List.setIfInBounds_toArray, List.set_cons_zero, List.set_cons_succ]
          refine wpAnyH_take (i := 10) (v := ?_) rfl (by kernel_rfl) (by kernel_rfl) (by kernel_rfl) (fun _ _ _ h => h) (Or.inl ⟨by rfl, ?_⟩) (by assumption) ?_
          rotate_left
          · (intro w hSw; (try dsimp only at hSw); go_simp; try with_reducible rfl)
          simp only [Act.put, List.getElem_toArray, List.getElem_cons_succ, List.getElem_cons_zero, List.setIfInBounds_toArray, List.set_cons_zero, List.set_cons_succ]
          refine wpAnyH_ready (rs := [11]) (by kernel_rfl) (by simp) ?_
          refine AllReadyH.cons rfl (fun Kq hKq => ?_) AllReadyH.nil
          go_simp
          clear c9' f9'
          refine hKq.out _ _ trivial (fun _ => ?_)
          clear hKq Kq
          (try simp only [Act.put, List.getElem_toArray, List.getElem_cons_succ, List.getElem_cons_zero, List.setIfInBounds_toArray, List.set_cons_zero, List.set_cons_succ])
          refine wpAnyH_done (by kernel_rfl) ?_ _
          go_wp2
          go_roundw
          case rel => exact ⟨s + 1, A2, c2, A9, c9, ks ++ [D], by have := HS8.out; omega, by go_num, R9.out, E9.out, B9.out, Z9.out⟩
          case measure => have := HS8.out; simp [intOf]; omega
    · obtain rfl : s = 8 := by omega
      obtain ⟨gk, ck, gp, cp, hTA⟩ := TR.out.done
      have HTA := Lib.hid hTA
      clear hTA TR ER hlt hs
      go_wp2
      go_ret
      exact ⟨S + 1, gk, ck, gp, cp, _, rfl, by rw [HS.out]; omega, HTA.out, by rw [HS.out]; exact BR.out⟩
end Go.Proofs.YtkmfmkonejdjiaaDoor
