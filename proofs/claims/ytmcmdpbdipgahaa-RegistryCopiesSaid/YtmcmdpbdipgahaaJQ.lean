/-
  Joined: R36k, R37, R38, R39.
-/
import Derived.Test.YtmcmdpbdipgahaaQ11
import Derived.Test.YtmcmdpbdipgahaaJA
import Derived.Test.YtmcmdpbdipgahaaJO
import Derived.Deep.DeepCutAuto
import Derived.Test.YtmcmdpbdipgahaaJM
import Derived.Shelf.SlMaps.Clone
/-
  Made: its keys lie in a new block.
-/
namespace Go.Proofs.Ytmcmdpbdipgahaa
open Go.RowKit
attribute [local irreducible] ua da ba kk sw S8.run rt hs comp splice outB sha msg bvals at8 secM zeros sec keyF marksF mk pubk bt rootF leafH twoH stepsF cutN leadF provL rootV pubF pubs keyL opn sht way gives ckB chkB rootL sg eS fineP mayK win  cat opL shL sigL wayP wayL rootS seedL
set_option maxRecDepth 100000 in
set_option maxHeartbeats 8000000 in
/-- Made -/
theorem kMade2 (n : Nat) (need : Int) (w : World) (hk : Keys w) (hn : n ≤ 8) :
    Calls Try.prog 11 #[.int .i64 n, .int .i64 need] w fun e w' => ∃ A c, e = .returned (.agg #[.int .i64 4, .int .i64 2, .int .i64 need, .slice A n c]) ∧ Src w' A (8 * n) (cat rootS n) ∧ n ≤ c ∧ c ≤ maxLen ∧ Below w.heap.size w w' ∧ ∀ g o, A = some ⟨g, o, none⟩ → w.heap.size ≤ g := by
  have h4 := z24
  have HK := Lib.hid hk
  have HP : Hid (0 < w.heap.size) := keys_pos hk
  obtain ⟨S, hS⟩ : ∃ S, w.heap.size = S := ⟨_, rfl⟩
  have HS := Lib.hid hS
  have KW : Hid (∀ w', Below S w w' → Keys w') := fun w' hb => keys_below HK.out hb (by rw [← HS.out]; exact HP.out)
  have R0 := Lib.hid (pb_new hS 0 0 0 (.slice none 0 0))
  have P1 := Lib.hid (pb_new (size_al hS (Obj.cells #[.int .i64 0, .int .i64 0, .int .i64 0, .slice none 0 0] 38)) 4 2 need (.slice none 0 0))
  have B0 : Hid (Below S w (w.alloc (Obj.cells #[.int .i64 0, .int .i64 0, .int .i64 0, .slice none 0 0] 38))) := by subst hS; exact (Below.refl _ w).alloc (Nat.le_refl _) _
  have B2 : Hid (Below (S + 1) (w.alloc (Obj.cells #[.int .i64 0, .int .i64 0, .int .i64 0, .slice none 0 0] 38)) ((w.alloc (Obj.cells #[.int .i64 0, .int .i64 0, .int .i64 0, .slice none 0 0] 38)).alloc (Obj.cells #[.int .i64 4, .int .i64 2, .int .i64 need, .slice none 0 0] 38))) := (Below.refl _ _).alloc (by rw [size_al hS]; exact Nat.le_refl _) _
  have Z2 : Hid (S + 2 ≤ ((w.alloc (Obj.cells #[.int .i64 0, .int .i64 0, .int .i64 0, .slice none 0 0] 38)).alloc (Obj.cells #[.int .i64 4, .int .i64 2, .int .i64 need, .slice none 0 0] 38)).heap.size) := Nat.le_of_eq (size_al (size_al hS _) _).symm
  have C20 : Hid (∀ (j : Nat) (w' : World), Calls Try.prog 32 #[.int .i64 j] w' fun e w'' => e = .returned (.agg (ba (seedL j))) ∧ Below w'.heap.size w' w'') := fun j w' => kSeedL j w'
  have C19A : Hid (∀ (j : Nat) (w' : World), Below S w w' → Calls Try.prog 31 #[.agg (ba (seedL j))] w' fun e w'' => e = .returned (.agg (ba (rootS j))) ∧ Below w'.heap.size w' w'') := fun j w' hb => dTreeS j w' (KW.out w' hb)
  clear hk
  go_enter Try.func11, Try.ntmps11
  go_wp2_with fail
  clear hS
  generalize ((w.alloc (Obj.cells #[.int .i64 0, .int .i64 0, .int .i64 0, .slice none 0 0] 38)).alloc (Obj.cells #[.int .i64 4, .int .i64 2, .int .i64 need, .slice none 0 0] 38)) = w2 at *
  generalize (w.alloc (Obj.cells #[.int .i64 0, .int .i64 0, .int .i64 0, .slice none 0 0] 38)) = w1 at *
  go_loopw [6] (fun i wr => ∃ (k : Nat) (A : Option Addr) (c : Nat), k ≤ n ∧ i = .int .i64 k ∧ PB wr (S + 1) 4 2 need (.slice A k c) ∧ wr.ownsRow (S + 2) 31 8 (.slice A k c) k (bvals (cat rootS k)) ∧ Below (S + 1) w1 wr ∧ S + 2 ≤ wr.heap.size) (fun i _ => n - (intOf i).toNat)
  case atStart => exact ⟨0, none, 0, Nat.zero_le _, rfl, P1.out, by rw [cat_zero]; exact own8_nil _ _, B2.out, Z2.out⟩
  case round =>
    clear P1 B2 Z2
    obtain ⟨k, A, c, hkn, rfl, hp, ho, hb, hz⟩ := hrel
    have PR := Lib.hid hp
    have OR := Lib.hid ho
    have BR := Lib.hid hb
    have ZR := Lib.hid hz
    clear hp ho hb hz
    by_cases hlt : k < n
    · have s0 : (0 : Int) ≤ (k : Int) := by omega
      have s1 : (k : Int) < (n : Int) := by omega
      have s2 : (k : Int) < 8 := by omega
      have HKN := Lib.hid hlt
      have HK8 : Hid (k < 8) := by show _ < _; omega
      obtain ⟨v, hv⟩ : ∃ v, Value.slice A k c = v := ⟨_, rfl⟩
      rw [hv] at PR OR
      obtain ⟨y, hy⟩ : ∃ y, rootS k = y := ⟨_, rfl⟩
      have LY : Hid (y.length = 8) := by rw [← hy]; exact rootS_len k
      have HC : Hid (cat rootS (k + 1) = cat rootS k ++ y) := by show _ = _; rw [cat_succ, hy]
      have C19 : Hid (∀ (w' : World), Below S w w' → Calls Try.prog 31 #[.agg (ba (seedL k))] w' fun e w'' => e = .returned (.agg (ba y)) ∧ Below w'.heap.size w' w'') := fun w' hb => by rw [← hy]; exact C19A.out k w' hb
      clear hv hy
      go_wp2_with fail
      generalize wr = wB at *
      obtain ⟨M, hM⟩ : ∃ M, wB.heap.size = M := ⟨_, rfl⟩
      have WN : Hid (wB.heap.size = M) := hM
      have LM : Hid (S + 2 ≤ M) := by show _ ≤ _; rw [← hM]; exact ZR.out
      have KN : Hid (∀ w', Below M wB w' → Below S w w') := fun w' hb => B0.out.trans ((BR.out.trans (hb.mono (by have := LM.out; omega))).mono (by omega))
      clear hM hlt hkn
      refine wp_region_held_drew (S := (fun w' : World => True)) (by kernel_rfl) trivial (fun hHeld => ?_)
      refine wpAnyH_take (i := 0) (v := ?_) rfl (by kernel_rfl) (by kernel_rfl) (by kernel_rfl) (fun _ _ _ h => h) (Or.inl ⟨by rfl, ?_⟩) (by assumption) ?_
      rotate_left
      · (intro w hSw; (try dsimp only at hSw); go_simp; try with_reducible rfl)
      simp only [Act.put, List.getElem_toArray, List.getElem_cons_zero, List.setIfInBounds_toArray, List.set_cons_zero, List.set_cons_succ]
      refine wpAnyH_take (i := 2) (v := ?_) rfl (by kernel_rfl) (by kernel_rfl) (by kernel_rfl) (fun _ _ _ h => h) (Or.inl ⟨by rfl, ?_⟩) (by assumption) ?_
      rotate_left
      · (intro w hSw; (try dsimp only at hSw); go_simp; try with_reducible rfl)
      simp only [Act.put, List.getElem_toArray, List.getElem_cons_succ, List.getElem_cons_zero, List.setIfInBounds_toArray, List.set_cons_zero, List.set_cons_succ]
      have XX : Hid (Below M wB wB.drew) := (Below.refl _ _).drew
      have P7 : Hid (PB wB.drew (S + 1) 4 2 need v) := PR.out
      have O7 : Hid (wB.drew.ownsRow (S + 2) 31 8 v k (bvals (cat rootS k))) := own8_keepB OR.out (Below.refl _ _).drew
      clear hHeld
      generalize wB.drew = wc at *
      refine wpAnyH_ready (rs := [1, 3]) (by kernel_rfl) (by simp) ?_
      refine AllReadyH.cons rfl (fun Kq hKq => ?_) (AllReadyH.cons rfl (fun Kq hKq => ?_) AllReadyH.nil)
      · obtain ⟨c0, c1, c2, c3⟩ := pb_cells P7.out
        go_simp
        clear c0 c1 c2 c3
        refine hKq.out _ _ trivial (fun _ => ?_)
        clear hKq Kq
        (try simp only [Act.put, List.getElem_toArray, List.getElem_cons_succ, List.getElem_cons_zero, List.setIfInBounds_toArray, List.set_cons_zero, List.set_cons_succ])
        refine wpAnyH_ready (rs := [3]) (by kernel_rfl) (by simp) ?_
        refine AllReadyH.cons rfl (fun Kq hKq => ?_) AllReadyH.nil
        go_simp
        go_at_call 32
        refine (C20.out k _).mono ?_
        rintro e wd ⟨rfl, hba⟩
        have XN : Hid (Below M wB wd) := XX.out.trans (hba.mono (by have := XX.out.size; have := WN.out; omega))
        have PN : Hid (PB wd (S + 1) 4 2 need v) := (hba.block _ (lt_of_block P7.out)).trans P7.out
        have ON : Hid (wd.ownsRow (S + 2) 31 8 v k (bvals (cat rootS k))) := own8_keepB O7.out hba
        clear XX P7 O7 hba
        have XX := XN
        have P7 := PN
        have O7 := ON
        clear XN PN ON
        (try go_wp2_with fail)
        refine hKq.out _ _ trivial (fun _ => ?_)
        clear hKq Kq
        (try simp only [Act.put, List.getElem_toArray, List.getElem_cons_succ, List.getElem_cons_zero, List.setIfInBounds_toArray, List.set_cons_zero, List.set_cons_succ])
        refine wpAnyH_ready (rs := [4]) (by kernel_rfl) (by simp) ?_
        refine AllReadyH.cons rfl (fun Kq hKq => ?_) AllReadyH.nil
        go_simp
        go_at_call 31
        refine (C19.out _ (KN.out _ XX.out)).mono ?_
        rintro e wf ⟨rfl, hba⟩
        have XN : Hid (Below M wB wf) := XX.out.trans (hba.mono (by have := XX.out.size; have := WN.out; omega))
        have PN : Hid (PB wf (S + 1) 4 2 need v) := (hba.block _ (lt_of_block P7.out)).trans P7.out
        have ON : Hid (wf.ownsRow (S + 2) 31 8 v k (bvals (cat rootS k))) := own8_keepB O7.out hba
        clear XX P7 O7 hba
        have XX := XN
        have P7 := PN
        have O7 := ON
        clear XN PN ON
        (try go_wp2_with fail)
        refine hKq.out _ _ trivial (fun _ => ?_)
        clear hKq Kq
        (try simp only [Act.put, List.getElem_toArray, List.getElem_cons_succ, List.getElem_cons_zero, List.setIfInBounds_toArray, List.set_cons_zero, List.set_cons_succ])
        refine wpAnyH_ready (rs := [5]) (by kernel_rfl) (by simp) ?_
        refine AllReadyH.cons rfl (fun Kq hKq => ?_) AllReadyH.nil
        obtain ⟨G, hG⟩ : ∃ G, wf.heap.size = G := ⟨_, rfl⟩
        refine step_bs8 rfl (.tmp 22) rfl y LY.out rfl ?_
        rw [hG]
        have P8 := Lib.hid (ba_new hG y 31)
        have MG : Hid (M ≤ G) := by show _ ≤ _; rw [← hG, ← WN.out]; exact XX.out.size
        have XN : Hid (Below M wB (wf.alloc (Obj.cells (ba y) 31))) := XX.out.alloc (by rw [hG]; exact MG.out) _
        have PN : Hid (PB (wf.alloc (Obj.cells (ba y) 31)) (S + 1) 4 2 need v) := (Below.heap_alloc _ _ _ (lt_of_block P7.out)).trans P7.out
        have ON : Hid ((wf.alloc (Obj.cells (ba y) 31)).ownsRow (S + 2) 31 8 v k (bvals (cat rootS k))) := own8_keepB O7.out ((Below.refl _ _).alloc (Nat.le_refl _) _)
        clear XX P7 O7
        have XX := XN
        have P7 := PN
        have O7 := ON
        clear XN PN ON hG
        generalize wf.alloc (Obj.cells (ba y) 31) = we at *
        refine hKq.out _ _ trivial (fun _ => ?_)
        clear hKq Kq
        simp only [Act.put, List.getElem_toArray, List.getElem_cons_succ, List.getElem_cons_zero, List.setIfInBounds_toArray, List.set_cons_zero, List.set_cons_succ]
        refine wpAnyH_ready (rs := [6]) (by kernel_rfl) (by simp) ?_
        refine AllReadyH.cons rfl (fun Kq hKq => ?_) AllReadyH.nil
        refine step_app8 rfl (.tmp 19) (.tmp 23) rfl (S + 2) k v (cat rootS k) rfl O7.out G 1 y rfl P8.out LY.out (by have := HK8.out; omega) (by have := XX.out.size; have := WN.out; have := LM.out; omega) ?_
        intro A9 c9 w9 hown hg
        rw [← HC.out] at hown
        have NS : some (S + 1) ≠ v.ownBlock := fun e => by have := own8_base O7.out _ e.symm; omega
        have P9 : Hid (PB w9 (S + 1) 4 2 need v) := (hg.block _ (by have := lt_of_block P7.out; omega) NS).trans P7.out
        have O9 : Hid ((w9.setCell ⟨S + 1, 3, none⟩ (.slice A9 (k + 1) c9)).ownsRow (S + 2) 31 8 (.slice A9 (k + 1) c9) (k + 1) (bvals (cat rootS (k + 1)))) := own_sameQ hown (fun q hq => heap_setCell_other w9 ⟨S + 1, 3, none⟩ q _ (by have := own8_base hown q hq; show q ≠ S + 1; omega))
        have Z9 : Hid (S + 2 ≤ (w9.setCell ⟨S + 1, 3, none⟩ (.slice A9 (k + 1) c9)).heap.size) := by show _ ≤ _; rw [World.size_setCell]; have := hg.size; have := XX.out.size; have := WN.out; have := LM.out; omega
        have B9 : Hid (Below (S + 1) w1 (w9.setCell ⟨S + 1, 3, none⟩ (.slice A9 (k + 1) c9))) := ((BR.out.trans (XX.out.mono (by have := LM.out; omega))).grown hg (by have := XX.out.size; have := WN.out; have := LM.out; omega) (fun q hq => by have := own8_base O7.out q hq; omega)).setCell (p := ⟨S + 1, 3, none⟩) (Nat.le_refl _) _
        have Q9 : Hid (PB (w9.setCell ⟨S + 1, 3, none⟩ (.slice A9 (k + 1) c9)) (S + 1) 4 2 need (.slice A9 (k + 1) c9)) := pb_set P9.out _
        have c9' := (pb_cells P9.out).2.2.2
        have f9' : w9.frozen? ⟨S + 1, 3, none⟩ = false := free_of P9.out 3
        clear hown hg NS
        refine hKq.out _ _ trivial (fun _ => ?_)
        clear hKq Kq
        (try simp only [Act.put, List.getElem_toArray, List.getElem_cons_succ, List.getElem_cons_zero, List.setIfInBounds_toArray, List.set_cons_zero, List.set_cons_succ])
        refine wpAnyH_take (i := 7) (v := ?_) rfl (by kernel_rfl) (by kernel_rfl) (by kernel_rfl) (fun _ _ _ h => h) (Or.inl ⟨by rfl, ?_⟩) (by assumption) ?_
        rotate_left
        · (intro w hSw; (try dsimp only at hSw); go_simp; try with_reducible rfl)
        simp only [Act.put, List.getElem_toArray, List.getElem_cons_succ, List.getElem_cons_zero, List.setIfInBounds_toArray, List.set_cons_zero, List.set_cons_succ]
        refine wpAnyH_ready (rs := [8]) (by kernel_rfl) (by simp) ?_
        refine AllReadyH.cons rfl (fun Kq hKq => ?_) AllReadyH.nil
        go_simp
        clear c9' f9'
        refine hKq.out _ _ trivial (fun _ => ?_)
        clear hKq Kq
        (try simp only [Act.put, List.getElem_toArray, List.getElem_cons_succ, List.getElem_cons_zero, List.setIfInBounds_toArray, List.set_cons_zero, List.set_cons_succ])
        refine wpAnyH_done (by kernel_rfl) ?_ _
        go_wp2
        go_roundw
        case rel => exact ⟨k + 1, A9, c9, by have := HKN.out; omega, by go_num, Q9.out, O9.out, B9.out, Z9.out⟩
        case measure => have := HKN.out; simp [intOf]; omega
      · go_simp
        go_at_call 32
        refine (C20.out k _).mono ?_
        rintro e wd ⟨rfl, hba⟩
        have XN : Hid (Below M wB wd) := XX.out.trans (hba.mono (by have := XX.out.size; have := WN.out; omega))
        have PN : Hid (PB wd (S + 1) 4 2 need v) := (hba.block _ (lt_of_block P7.out)).trans P7.out
        have ON : Hid (wd.ownsRow (S + 2) 31 8 v k (bvals (cat rootS k))) := own8_keepB O7.out hba
        clear XX P7 O7 hba
        have XX := XN
        have P7 := PN
        have O7 := ON
        clear XN PN ON
        (try go_wp2_with fail)
        refine hKq.out _ _ trivial (fun _ => ?_)
        clear hKq Kq
        (try simp only [Act.put, List.getElem_toArray, List.getElem_cons_succ, List.getElem_cons_zero, List.setIfInBounds_toArray, List.set_cons_zero, List.set_cons_succ])
        refine wpAnyH_ready (rs := [1, 4]) (by kernel_rfl) (by simp) ?_
        refine AllReadyH.cons rfl (fun Kq hKq => ?_) (AllReadyH.cons rfl (fun Kq hKq => ?_) AllReadyH.nil)
        · obtain ⟨c0, c1, c2, c3⟩ := pb_cells P7.out
          go_simp
          clear c0 c1 c2 c3
          refine hKq.out _ _ trivial (fun _ => ?_)
          clear hKq Kq
          (try simp only [Act.put, List.getElem_toArray, List.getElem_cons_succ, List.getElem_cons_zero, List.setIfInBounds_toArray, List.set_cons_zero, List.set_cons_succ])
          refine wpAnyH_ready (rs := [4]) (by kernel_rfl) (by simp) ?_
          refine AllReadyH.cons rfl (fun Kq hKq => ?_) AllReadyH.nil
          go_simp
          go_at_call 31
          refine (C19.out _ (KN.out _ XX.out)).mono ?_
          rintro e wf ⟨rfl, hba⟩
          have XN : Hid (Below M wB wf) := XX.out.trans (hba.mono (by have := XX.out.size; have := WN.out; omega))
          have PN : Hid (PB wf (S + 1) 4 2 need v) := (hba.block _ (lt_of_block P7.out)).trans P7.out
          have ON : Hid (wf.ownsRow (S + 2) 31 8 v k (bvals (cat rootS k))) := own8_keepB O7.out hba
          clear XX P7 O7 hba
          have XX := XN
          have P7 := PN
          have O7 := ON
          clear XN PN ON
          (try go_wp2_with fail)
          refine hKq.out _ _ trivial (fun _ => ?_)
          clear hKq Kq
          (try simp only [Act.put, List.getElem_toArray, List.getElem_cons_succ, List.getElem_cons_zero, List.setIfInBounds_toArray, List.set_cons_zero, List.set_cons_succ])
          refine wpAnyH_ready (rs := [5]) (by kernel_rfl) (by simp) ?_
          refine AllReadyH.cons rfl (fun Kq hKq => ?_) AllReadyH.nil
          obtain ⟨G, hG⟩ : ∃ G, wf.heap.size = G := ⟨_, rfl⟩
          refine step_bs8 rfl (.tmp 22) rfl y LY.out rfl ?_
          rw [hG]
          have P8 := Lib.hid (ba_new hG y 31)
          have MG : Hid (M ≤ G) := by show _ ≤ _; rw [← hG, ← WN.out]; exact XX.out.size
          have XN : Hid (Below M wB (wf.alloc (Obj.cells (ba y) 31))) := XX.out.alloc (by rw [hG]; exact MG.out) _
          have PN : Hid (PB (wf.alloc (Obj.cells (ba y) 31)) (S + 1) 4 2 need v) := (Below.heap_alloc _ _ _ (lt_of_block P7.out)).trans P7.out
          have ON : Hid ((wf.alloc (Obj.cells (ba y) 31)).ownsRow (S + 2) 31 8 v k (bvals (cat rootS k))) := own8_keepB O7.out ((Below.refl _ _).alloc (Nat.le_refl _) _)
          clear XX P7 O7
          have XX := XN
          have P7 := PN
          have O7 := ON
          clear XN PN ON hG
          generalize wf.alloc (Obj.cells (ba y) 31) = we at *
          refine hKq.out _ _ trivial (fun _ => ?_)
          clear hKq Kq
          simp only [Act.put, List.getElem_toArray, List.getElem_cons_succ, List.getElem_cons_zero, List.setIfInBounds_toArray, List.set_cons_zero, List.set_cons_succ]
          refine wpAnyH_ready (rs := [6]) (by kernel_rfl) (by simp) ?_
          refine AllReadyH.cons rfl (fun Kq hKq => ?_) AllReadyH.nil
          refine step_app8 rfl (.tmp 19) (.tmp 23) rfl (S + 2) k v (cat rootS k) rfl O7.out G 1 y rfl P8.out LY.out (by have := HK8.out; omega) (by have := XX.out.size; have := WN.out; have := LM.out; omega) ?_
          intro A9 c9 w9 hown hg
          rw [← HC.out] at hown
          have NS : some (S + 1) ≠ v.ownBlock := fun e => by have := own8_base O7.out _ e.symm; omega
          have P9 : Hid (PB w9 (S + 1) 4 2 need v) := (hg.block _ (by have := lt_of_block P7.out; omega) NS).trans P7.out
          have O9 : Hid ((w9.setCell ⟨S + 1, 3, none⟩ (.slice A9 (k + 1) c9)).ownsRow (S + 2) 31 8 (.slice A9 (k + 1) c9) (k + 1) (bvals (cat rootS (k + 1)))) := own_sameQ hown (fun q hq => heap_setCell_other w9 ⟨S + 1, 3, none⟩ q _ (by have := own8_base hown q hq; show q ≠ S + 1; omega))
          have Z9 : Hid (S + 2 ≤ (w9.setCell ⟨S + 1, 3, none⟩ (.slice A9 (k + 1) c9)).heap.size) := by show _ ≤ _; rw [World.size_setCell]; have := hg.size; have := XX.out.size; have := WN.out; have := LM.out; omega
          have B9 : Hid (Below (S + 1) w1 (w9.setCell ⟨S + 1, 3, none⟩ (.slice A9 (k + 1) c9))) := ((BR.out.trans (XX.out.mono (by have := LM.out; omega))).grown hg (by have := XX.out.size; have := WN.out; have := LM.out; omega) (fun q hq => by have := own8_base O7.out q hq; omega)).setCell (p := ⟨S + 1, 3, none⟩) (Nat.le_refl _) _
          have Q9 : Hid (PB (w9.setCell ⟨S + 1, 3, none⟩ (.slice A9 (k + 1) c9)) (S + 1) 4 2 need (.slice A9 (k + 1) c9)) := pb_set P9.out _
          have c9' := (pb_cells P9.out).2.2.2
          have f9' : w9.frozen? ⟨S + 1, 3, none⟩ = false := free_of P9.out 3
          clear hown hg NS
          refine hKq.out _ _ trivial (fun _ => ?_)
          clear hKq Kq
          (try simp only [Act.put, List.getElem_toArray, List.getElem_cons_succ, List.getElem_cons_zero, List.setIfInBounds_toArray, List.set_cons_zero, List.set_cons_succ])
          refine wpAnyH_take (i := 7) (v := ?_) rfl (by kernel_rfl) (by kernel_rfl) (by kernel_rfl) (fun _ _ _ h => h) (Or.inl ⟨by rfl, ?_⟩) (by assumption) ?_
          rotate_left
          · (intro w hSw; (try dsimp only at hSw); go_simp; try with_reducible rfl)
          simp only [Act.put, List.getElem_toArray, List.getElem_cons_succ, List.getElem_cons_zero, List.setIfInBounds_toArray, List.set_cons_zero, List.set_cons_succ]
          refine wpAnyH_ready (rs := [8]) (by kernel_rfl) (by simp) ?_
          refine AllReadyH.cons rfl (fun Kq hKq => ?_) AllReadyH.nil
          go_simp
          clear c9' f9'
          refine hKq.out _ _ trivial (fun _ => ?_)
          clear hKq Kq
          (try simp only [Act.put, List.getElem_toArray, List.getElem_cons_succ, List.getElem_cons_zero, List.setIfInBounds_toArray, List.set_cons_zero, List.set_cons_succ])
          refine wpAnyH_done (by kernel_rfl) ?_ _
          go_wp2
          go_roundw
          case rel => exact ⟨k + 1, A9, c9, by have := HKN.out; omega, by go_num, Q9.out, O9.out, B9.out, Z9.out⟩
          case measure => have := HKN.out; simp [intOf]; omega
        · go_simp
          go_at_call 31
          refine (C19.out _ (KN.out _ XX.out)).mono ?_
          rintro e wf ⟨rfl, hba⟩
          have XN : Hid (Below M wB wf) := XX.out.trans (hba.mono (by have := XX.out.size; have := WN.out; omega))
          have PN : Hid (PB wf (S + 1) 4 2 need v) := (hba.block _ (lt_of_block P7.out)).trans P7.out
          have ON : Hid (wf.ownsRow (S + 2) 31 8 v k (bvals (cat rootS k))) := own8_keepB O7.out hba
          clear XX P7 O7 hba
          have XX := XN
          have P7 := PN
          have O7 := ON
          clear XN PN ON
          (try go_wp2_with fail)
          refine hKq.out _ _ trivial (fun _ => ?_)
          clear hKq Kq
          (try simp only [Act.put, List.getElem_toArray, List.getElem_cons_succ, List.getElem_cons_zero, List.setIfInBounds_toArray, List.set_cons_zero, List.set_cons_succ])
          refine wpAnyH_ready (rs := [1, 5]) (by kernel_rfl) (by simp) ?_
          refine AllReadyH.cons rfl (fun Kq hKq => ?_) (AllReadyH.cons rfl (fun Kq hKq => ?_) AllReadyH.nil)
          · obtain ⟨c0, c1, c2, c3⟩ := pb_cells P7.out
            go_simp
            clear c0 c1 c2 c3
            refine hKq.out _ _ trivial (fun _ => ?_)
            clear hKq Kq
            (try simp only [Act.put, List.getElem_toArray, List.getElem_cons_succ, List.getElem_cons_zero, List.setIfInBounds_toArray, List.set_cons_zero, List.set_cons_succ])
            refine wpAnyH_ready (rs := [5]) (by kernel_rfl) (by simp) ?_
            refine AllReadyH.cons rfl (fun Kq hKq => ?_) AllReadyH.nil
            obtain ⟨G, hG⟩ : ∃ G, wf.heap.size = G := ⟨_, rfl⟩
            refine step_bs8 rfl (.tmp 22) rfl y LY.out rfl ?_
            rw [hG]
            have P8 := Lib.hid (ba_new hG y 31)
            have MG : Hid (M ≤ G) := by show _ ≤ _; rw [← hG, ← WN.out]; exact XX.out.size
            have XN : Hid (Below M wB (wf.alloc (Obj.cells (ba y) 31))) := XX.out.alloc (by rw [hG]; exact MG.out) _
            have PN : Hid (PB (wf.alloc (Obj.cells (ba y) 31)) (S + 1) 4 2 need v) := (Below.heap_alloc _ _ _ (lt_of_block P7.out)).trans P7.out
            have ON : Hid ((wf.alloc (Obj.cells (ba y) 31)).ownsRow (S + 2) 31 8 v k (bvals (cat rootS k))) := own8_keepB O7.out ((Below.refl _ _).alloc (Nat.le_refl _) _)
            clear XX P7 O7
            have XX := XN
            have P7 := PN
            have O7 := ON
            clear XN PN ON hG
            generalize wf.alloc (Obj.cells (ba y) 31) = we at *
            refine hKq.out _ _ trivial (fun _ => ?_)
            clear hKq Kq
            simp only [Act.put, List.getElem_toArray, List.getElem_cons_succ, List.getElem_cons_zero, List.setIfInBounds_toArray, List.set_cons_zero, List.set_cons_succ]
            refine wpAnyH_ready (rs := [6]) (by kernel_rfl) (by simp) ?_
            refine AllReadyH.cons rfl (fun Kq hKq => ?_) AllReadyH.nil
            refine step_app8 rfl (.tmp 19) (.tmp 23) rfl (S + 2) k v (cat rootS k) rfl O7.out G 1 y rfl P8.out LY.out (by have := HK8.out; omega) (by have := XX.out.size; have := WN.out; have := LM.out; omega) ?_
            intro A9 c9 w9 hown hg
            rw [← HC.out] at hown
            have NS : some (S + 1) ≠ v.ownBlock := fun e => by have := own8_base O7.out _ e.symm; omega
            have P9 : Hid (PB w9 (S + 1) 4 2 need v) := (hg.block _ (by have := lt_of_block P7.out; omega) NS).trans P7.out
            have O9 : Hid ((w9.setCell ⟨S + 1, 3, none⟩ (.slice A9 (k + 1) c9)).ownsRow (S + 2) 31 8 (.slice A9 (k + 1) c9) (k + 1) (bvals (cat rootS (k + 1)))) := own_sameQ hown (fun q hq => heap_setCell_other w9 ⟨S + 1, 3, none⟩ q _ (by have := own8_base hown q hq; show q ≠ S + 1; omega))
            have Z9 : Hid (S + 2 ≤ (w9.setCell ⟨S + 1, 3, none⟩ (.slice A9 (k + 1) c9)).heap.size) := by show _ ≤ _; rw [World.size_setCell]; have := hg.size; have := XX.out.size; have := WN.out; have := LM.out; omega
            have B9 : Hid (Below (S + 1) w1 (w9.setCell ⟨S + 1, 3, none⟩ (.slice A9 (k + 1) c9))) := ((BR.out.trans (XX.out.mono (by have := LM.out; omega))).grown hg (by have := XX.out.size; have := WN.out; have := LM.out; omega) (fun q hq => by have := own8_base O7.out q hq; omega)).setCell (p := ⟨S + 1, 3, none⟩) (Nat.le_refl _) _
            have Q9 : Hid (PB (w9.setCell ⟨S + 1, 3, none⟩ (.slice A9 (k + 1) c9)) (S + 1) 4 2 need (.slice A9 (k + 1) c9)) := pb_set P9.out _
            have c9' := (pb_cells P9.out).2.2.2
            have f9' : w9.frozen? ⟨S + 1, 3, none⟩ = false := free_of P9.out 3
            clear hown hg NS
            refine hKq.out _ _ trivial (fun _ => ?_)
            clear hKq Kq
            (try simp only [Act.put, List.getElem_toArray, List.getElem_cons_succ, List.getElem_cons_zero, List.setIfInBounds_toArray, List.set_cons_zero, List.set_cons_succ])
            refine wpAnyH_take (i := 7) (v := ?_) rfl (by kernel_rfl) (by kernel_rfl) (by kernel_rfl) (fun _ _ _ h => h) (Or.inl ⟨by rfl, ?_⟩) (by assumption) ?_
            rotate_left
            · (intro w hSw; (try dsimp only at hSw); go_simp; try with_reducible rfl)
            simp only [Act.put, List.getElem_toArray, List.getElem_cons_succ, List.getElem_cons_zero, List.setIfInBounds_toArray, List.set_cons_zero, List.set_cons_succ]
            refine wpAnyH_ready (rs := [8]) (by kernel_rfl) (by simp) ?_
            refine AllReadyH.cons rfl (fun Kq hKq => ?_) AllReadyH.nil
            go_simp
            clear c9' f9'
            refine hKq.out _ _ trivial (fun _ => ?_)
            clear hKq Kq
            (try simp only [Act.put, List.getElem_toArray, List.getElem_cons_succ, List.getElem_cons_zero, List.setIfInBounds_toArray, List.set_cons_zero, List.set_cons_succ])
            refine wpAnyH_done (by kernel_rfl) ?_ _
            go_wp2
            go_roundw
            case rel => exact ⟨k + 1, A9, c9, by have := HKN.out; omega, by go_num, Q9.out, O9.out, B9.out, Z9.out⟩
            case measure => have := HKN.out; simp [intOf]; omega
          · obtain ⟨G, hG⟩ : ∃ G, wf.heap.size = G := ⟨_, rfl⟩
            refine step_bs8 rfl (.tmp 22) rfl y LY.out rfl ?_
            rw [hG]
            have P8 := Lib.hid (ba_new hG y 31)
            have MG : Hid (M ≤ G) := by show _ ≤ _; rw [← hG, ← WN.out]; exact XX.out.size
            have XN : Hid (Below M wB (wf.alloc (Obj.cells (ba y) 31))) := XX.out.alloc (by rw [hG]; exact MG.out) _
            have PN : Hid (PB (wf.alloc (Obj.cells (ba y) 31)) (S + 1) 4 2 need v) := (Below.heap_alloc _ _ _ (lt_of_block P7.out)).trans P7.out
            have ON : Hid ((wf.alloc (Obj.cells (ba y) 31)).ownsRow (S + 2) 31 8 v k (bvals (cat rootS k))) := own8_keepB O7.out ((Below.refl _ _).alloc (Nat.le_refl _) _)
            clear XX P7 O7
            have XX := XN
            have P7 := PN
            have O7 := ON
            clear XN PN ON hG
            generalize wf.alloc (Obj.cells (ba y) 31) = we at *
            refine hKq.out _ _ trivial (fun _ => ?_)
            clear hKq Kq
            simp only [Act.put, List.getElem_toArray, List.getElem_cons_succ, List.getElem_cons_zero, List.setIfInBounds_toArray, List.set_cons_zero, List.set_cons_succ]
            refine wpAnyH_ready (rs := [1]) (by kernel_rfl) (by simp) ?_
            refine AllReadyH.cons rfl (fun Kq hKq => ?_) AllReadyH.nil
            obtain ⟨c0, c1, c2, c3⟩ := pb_cells P7.out
            go_simp
            clear c0 c1 c2 c3
            refine hKq.out _ _ trivial (fun _ => ?_)
            clear hKq Kq
            (try simp only [Act.put, List.getElem_toArray, List.getElem_cons_succ, List.getElem_cons_zero, List.setIfInBounds_toArray, List.set_cons_zero, List.set_cons_succ])
            refine wpAnyH_ready (rs := [6]) (by kernel_rfl) (by simp) ?_
            refine AllReadyH.cons rfl (fun Kq hKq => ?_) AllReadyH.nil
            refine step_app8 rfl (.tmp 19) (.tmp 23) rfl (S + 2) k v (cat rootS k) rfl O7.out G 1 y rfl P8.out LY.out (by have := HK8.out; omega) (by have := XX.out.size; have := WN.out; have := LM.out; omega) ?_
            intro A9 c9 w9 hown hg
            rw [← HC.out] at hown
            have NS : some (S + 1) ≠ v.ownBlock := fun e => by have := own8_base O7.out _ e.symm; omega
            have P9 : Hid (PB w9 (S + 1) 4 2 need v) := (hg.block _ (by have := lt_of_block P7.out; omega) NS).trans P7.out
            have O9 : Hid ((w9.setCell ⟨S + 1, 3, none⟩ (.slice A9 (k + 1) c9)).ownsRow (S + 2) 31 8 (.slice A9 (k + 1) c9) (k + 1) (bvals (cat rootS (k + 1)))) := own_sameQ hown (fun q hq => heap_setCell_other w9 ⟨S + 1, 3, none⟩ q _ (by have := own8_base hown q hq; show q ≠ S + 1; omega))
            have Z9 : Hid (S + 2 ≤ (w9.setCell ⟨S + 1, 3, none⟩ (.slice A9 (k + 1) c9)).heap.size) := by show _ ≤ _; rw [World.size_setCell]; have := hg.size; have := XX.out.size; have := WN.out; have := LM.out; omega
            have B9 : Hid (Below (S + 1) w1 (w9.setCell ⟨S + 1, 3, none⟩ (.slice A9 (k + 1) c9))) := ((BR.out.trans (XX.out.mono (by have := LM.out; omega))).grown hg (by have := XX.out.size; have := WN.out; have := LM.out; omega) (fun q hq => by have := own8_base O7.out q hq; omega)).setCell (p := ⟨S + 1, 3, none⟩) (Nat.le_refl _) _
            have Q9 : Hid (PB (w9.setCell ⟨S + 1, 3, none⟩ (.slice A9 (k + 1) c9)) (S + 1) 4 2 need (.slice A9 (k + 1) c9)) := pb_set P9.out _
            have c9' := (pb_cells P9.out).2.2.2
            have f9' : w9.frozen? ⟨S + 1, 3, none⟩ = false := free_of P9.out 3
            clear hown hg NS
            refine hKq.out _ _ trivial (fun _ => ?_)
            clear hKq Kq
            (try simp only [Act.put, List.getElem_toArray, List.getElem_cons_succ, List.getElem_cons_zero, List.setIfInBounds_toArray, List.set_cons_zero, List.set_cons_succ])
            refine wpAnyH_take (i := 7) (v := ?_) rfl (by kernel_rfl) (by kernel_rfl) (by kernel_rfl) (fun _ _ _ h => h) (Or.inl ⟨by rfl, ?_⟩) (by assumption) ?_
            rotate_left
            · (intro w hSw; (try dsimp only at hSw); go_simp; try with_reducible rfl)
            simp only [Act.put, List.getElem_toArray, List.getElem_cons_succ, List.getElem_cons_zero, List.setIfInBounds_toArray, List.set_cons_zero, List.set_cons_succ]
            refine wpAnyH_ready (rs := [8]) (by kernel_rfl) (by simp) ?_
            refine AllReadyH.cons rfl (fun Kq hKq => ?_) AllReadyH.nil
            go_simp
            clear c9' f9'
            refine hKq.out _ _ trivial (fun _ => ?_)
            clear hKq Kq
            (try simp only [Act.put, List.getElem_toArray, List.getElem_cons_succ, List.getElem_cons_zero, List.setIfInBounds_toArray, List.set_cons_zero, List.set_cons_succ])
            refine wpAnyH_done (by kernel_rfl) ?_ _
            go_wp2
            go_roundw
            case rel => exact ⟨k + 1, A9, c9, by have := HKN.out; omega, by go_num, Q9.out, O9.out, B9.out, Z9.out⟩
            case measure => have := HKN.out; simp [intOf]; omega
    · obtain rfl : k = n := by omega
      obtain ⟨c0, c1, c2, c3⟩ := pb_cells PR.out
      have RB : Hid (PB wr S 0 0 0 (.slice none 0 0)) := (BR.out.block _ (by omega)).trans R0.out
      have OS := Lib.hid (own8_src OR.out)
      go_wp2_with (first
        | (refine wpList_store_rowTo rfl 38 (.tmp 4) (.tmp 26) rfl rfl S #[.int .i64 4, .int .i64 2, .int .i64 need, .slice A k c] rfl rfl 38 #[.int .i64 0, .int .i64 0, .int .i64 0, .slice none 0 0] RB.out (pb_infoA _ _ _ _) rfl (pb_one _ _ _ _ _ _) ?_)
        | fail)
      refine bodyPost_ret (v := .agg #[.int .i64 4, .int .i64 2, .int .i64 need, .slice A k c]) (results_cell_row rfl _ _ S 38 _ (0, 0) _ rfl (setRow_heap _ _ _ _ _ _ RB.out) Try.underlying38 rfl (pb_infoA _ _ _ _)) rfl ⟨A, c, rfl, ?_, OS.out.2.1, OS.out.2.2, ?_, ?_⟩
      · exact own8_src (own_sameQ OR.out (fun q hq => setRow_other _ _ _ _ (by have := own8_base OR.out q hq; omega))) |>.1
      · rw [HS.out]
        exact below_setRow (B0.out.trans (BR.out.mono (by omega))) (Nat.le_refl _) _
      · rintro g o rfl
        rw [HS.out]
        rcases own_addr OR.out with ⟨e, _⟩ | ⟨g', e⟩
        · cases e
        · cases e
          have := own8_base OR.out g rfl
          omega
end Go.Proofs.Ytmcmdpbdipgahaa

/-
  A registry and the document's, apart from each other.
-/
namespace Go.Proofs.Ytmcmdpbdipgahaa
open Go.RowKit Go.Maps
set_option maxRecDepth 100000
/-- what either may write -/
def apP (S : Nat) (m : Option Nat) (M : Nat) (A : Option Addr) (q : Nat) : Prop := isP S m q ∨ q = M ∨ onB A q
structure DJ (N : Nat) (w0 w : World) (S : Nat) (m : Option Nat) (M : Nat) (A : Option Addr) (n c : Nat) (cs ds : List Con) : Prop where
  reg : ∃ xs, RegM w S m xs ∧ xs.map Sm.con = cs ∧ ∀ x ∈ xs, SdAt w (apP S m M A) x
  doc : ∃ ys, DocAt w M A n c ys ∧ ys.map Sm.con = ds ∧ ∀ y ∈ ys, SdAt w (apP S m M A) y
  bel : Below N w0 w
  lo : ∀ q, apP S m M A q → N ≤ q
  sz : N ≤ w.heap.size
  nil : n = 0 → A = none
  len : n ≤ 8
theorem DocAt.lt {w : World} {M : Nat} {A : Option Addr} {n c : Nat} {ys : List Sm} (h : DocAt w M A n c ys) (hn : n = 0 → A = none) : ∀ q, q = M ∨ onB A q → q < w.heap.size := by
  rintro q (rfl | ⟨o, e⟩)
  · exact bl_lt h.blk
  · by_cases h0 : n = 0
    · rw [hn h0] at e; cases e
    · obtain ⟨b, o', e', hl, _⟩ := h.row.resolve_left h0
      rw [e'] at e
      cases e
      exact hl
theorem DocAt.notP {w : World} {S : Nat} {m : Option Nat} {xs : List Sm} {M : Nat} {A : Option Addr} {n c : Nat} {ys : List Sm} (h : RegM w S m xs) (d : DocAt w M A n c ys) (hn : n = 0 → A = none) : ∀ q, isP S m q → ¬ (q = M ∨ onB A q) := by
  rintro q hq (rfl | ⟨o, e⟩)
  · exact notP_cells h d.blk (by decide) hq
  · by_cases h0 : n = 0
    · rw [hn h0] at e; cases e
    · obtain ⟨cs, hc⟩ := d.soft q o e h0
      exact notP_cells h hc (by decide) hq
theorem DocAt.keep {w w' : World} {M : Nat} {A : Option Addr} {n c : Nat} {ys : List Sm} (h : DocAt w M A n c ys) (_ : n = 0 → A = none) (hs : w.heap.size ≤ w'.heap.size) (hb : ∀ q, q = M ∨ onB A q → w'.heap[q]? = w.heap[q]?) : DocAt w' M A n c ys := by
  refine ⟨bl_keep h.blk (hb M (.inl rfl)), h.len, h.cap, h.row.imp id ?_, fun b o e h0 => ?_⟩
  · rintro ⟨b, o, e, hl, hr⟩
    exact ⟨b, o, e, by omega, fun i hi => range_keep1 (hr i hi) (hb b (.inr ⟨o, e⟩))⟩
  · obtain ⟨cs, hc⟩ := h.soft b o e h0
    exact ⟨cs, (hb b (.inr ⟨o, e⟩)).trans hc⟩
theorem DJ.len2 {N : Nat} {w0 w : World} {S : Nat} {m : Option Nat} {M : Nat} {A : Option Addr} {n c : Nat} {cs ds : List Con} (h : DJ N w0 w S m M A n c cs ds) : ds.length = n := by
  obtain ⟨ys, d, rfl, _⟩ := h.doc
  rw [List.length_map]; exact d.len
theorem DJ.ltP {N : Nat} {w0 w : World} {S : Nat} {m : Option Nat} {M : Nat} {A : Option Addr} {n c : Nat} {cs ds : List Con} (h : DJ N w0 w S m M A n c cs ds) : ∀ q, apP S m M A q → q < w.heap.size := by
  obtain ⟨xs, hr, _, _⟩ := h.reg
  obtain ⟨ys, d, _, _⟩ := h.doc
  rintro q (hq | hq)
  · exact hr.lt q hq
  · exact d.lt h.nil q hq
theorem DJ.grow {N : Nat} {w0 w w' : World} {S : Nat} {m : Option Nat} {M : Nat} {A : Option Addr} {n c : Nat} {cs ds : List Con} (h : DJ N w0 w S m M A n c cs ds) (hb : Below w.heap.size w w') : DJ N w0 w' S m M A n c cs ds := by
  obtain ⟨xs, h1, h2, h3⟩ := h.reg
  obtain ⟨ys, d1, d2, d3⟩ := h.doc
  exact ⟨⟨xs, h1.grow hb, h2, fun y hy => (h3 y hy).grow hb⟩, ⟨ys, d1.grow hb, d2, fun y hy => (d3 y hy).grow hb⟩, h.bel.trans (hb.mono h.sz), h.lo, Nat.le_trans h.sz hb.size, h.nil, h.len⟩
/-- the registry goes on -/
theorem DJ.regStep {N : Nat} {w0 w w' : World} {S : Nat} {m m' : Option Nat} {M : Nat} {A : Option Addr} {n c : Nat} {ds : List Con} {xs xs' : List Sm} (h : DJ N w0 w S m M A n c (xs.map Sm.con) ds) (hx : RegM w S m xs) (hxr : ∀ x ∈ xs, SdAt w (apP S m M A) x)
    (hr : RegM w' S m' xs') (hy : ∀ y ∈ xs', y ∈ xs ∨ SdAt w' (fun q => q < w.heap.size) y) (hm : ∀ b, m' = some b → m = some b ∨ w.heap.size ≤ b) (hf : Fr w w' (isP S m)) : DJ N w0 w' S m' M A n c (xs'.map Sm.con) ds ∧ ∀ x ∈ xs', SdAt w' (apP S m' M A) x := by
  obtain ⟨ys, d1, d2, d3⟩ := h.doc
  have hn := DocAt.notP hx d1 h.nil
  have hlt := d1.lt h.nil
  have up : ∀ q, q < w.heap.size → apP S m' M A q → apP S m M A q := by
    rintro q hq ((e | e) | e)
    · exact .inl (.inl e)
    · rcases hm q e with e' | e'
      · exact .inl (.inr e')
      · omega
    · exact .inr e
  have st : ∀ q, q < w.heap.size → ¬ apP S m M A q → w'.heap[q]? = w.heap[q]? := fun q hq hn => hf.block q hq fun e => hn (.inl e)
  have hxs : ∀ x ∈ xs', SdAt w' (apP S m' M A) x := by
    intro y hy'
    rcases hy y hy' with g | g
    · exact (hxr y g).keep hf.size st up
    · refine ((hr.rows y hy').bothF g).weakF ?_
      rintro q _ (e | e)
      · exact .inl e
      · exact .inr (hlt q e)
  refine ⟨⟨⟨xs', hr, rfl, hxs⟩, ⟨ys, d1.keep h.nil hf.size (fun q hq => hf.block q (hlt q hq) fun e => hn q e hq), d2, fun y hy => (d3 y hy).keep hf.size st up⟩, h.bel.trans (hf.below h.sz fun q hq => h.lo q (.inl hq)), ?_, Nat.le_trans h.sz hf.size, h.nil, h.len⟩, hxs⟩
  rintro q ((e | e) | e)
  · exact h.lo q (.inl (.inl e))
  · rcases hm q e with e' | e'
    · exact h.lo q (.inl (.inr e'))
    · exact Nat.le_trans h.sz e'
  · exact h.lo q (.inr e)
def sameR (y y0 : Sm) : Prop := y.K = y0.K ∧ y.O = y0.O ∧ y.G = y0.G ∧ y.U = y0.U
theorem SdAt.rows {w : World} {P : Nat → Prop} {y y0 : Sm} (h : SdAt w P y0) (e : sameR y y0) : SdAt w P y := ⟨e.1 ▸ h.K, e.2.1 ▸ h.O, e.2.2.1 ▸ h.G, e.2.2.2 ▸ h.U⟩
/-- the document's goes on -/
theorem DJ.docStep {N : Nat} {w0 w w' : World} {S : Nat} {m : Option Nat} {M : Nat} {A A' : Option Addr} {n c n' c' : Nat} {cs : List Con} {ys ys' : List Sm} (h : DJ N w0 w S m M A n c cs (ys.map Sm.con)) (hd : DocAt w M A n c ys) (hyr : ∀ y ∈ ys, SdAt w (apP S m M A) y)
    (d' : DocAt w' M A' n' c' ys') (h0 : n' = 0 → A' = none) (h8 : n' ≤ 8) (hy : ∀ y ∈ ys', (∃ y0 ∈ ys, sameR y y0) ∨ SdAt w' (apP S m M A') y) (hA : ∀ q, onB A' q → onB A q ∨ w.heap.size ≤ q) (hf : Fr w w' (fun q => q = M ∨ onB A q)) : DJ N w0 w' S m M A' n' c' cs (ys'.map Sm.con) := by
  obtain ⟨xs, h1, h2, h3⟩ := h.reg
  have hn := DocAt.notP h1 hd h.nil
  have up : ∀ q, q < w.heap.size → apP S m M A' q → apP S m M A q := by
    rintro q hq (e | e | e)
    · exact .inl e
    · exact .inr (.inl e)
    · rcases hA q e with e' | e'
      · exact .inr (.inr e')
      · omega
  have st : ∀ q, q < w.heap.size → ¬ apP S m M A q → w'.heap[q]? = w.heap[q]? := fun q hq hn => hf.block q hq fun e => hn (.inr e)
  refine ⟨⟨xs, ?_, h2, fun y hy => (h3 y hy).keep hf.size st up⟩, ⟨ys', d', rfl, fun y hy' => ?_⟩, h.bel.trans (hf.below h.sz fun q hq => h.lo q (.inr hq)), ?_, Nat.le_trans h.sz hf.size, h0, h8⟩
  · exact h1.keep hf hn fun x hx => (h3 x hx).weakF fun q _ e => e
  · rcases hy y hy' with ⟨y0, g, e⟩ | g
    · exact ((hyr y0 g).keep hf.size st up).rows e
    · exact g
  · rintro q (e | e | e)
    · exact h.lo q (.inl e)
    · exact h.lo q (.inr (.inl e))
    · rcases hA q e with e' | e'
      · exact h.lo q (.inr (.inr e'))
      · exact Nat.le_trans h.sz e'
/-- records as they come up -/
def goodL (cs : List Con) : Prop := ∀ c ∈ cs, simC c ∧ okC c
theorem djForward {N : Nat} {w0 w : World} {S : Nat} {m : Option Nat} {M : Nat} {A : Option Addr} {n c : Nat} {cs ds : List Con} (h : DJ N w0 w S m M A n c cs ds) (hl : cs.length ≤ 8) (hg : goodL cs) (s a k : Int) (o : List Int) (hs : wfI s) (hk : wfI k) :
    Calls Try.prog 14 #[.pointer (some ⟨S, 0, none⟩), .agg (fwV s a o k).toArray] w fun e w' => e = .returned (.int .i64 (fwC cs s k).2) ∧ ∃ m', DJ N w0 w' S m' M A n c (fwC cs s k).1 ds ∧ Fr w w' (isP S m) := by
  obtain ⟨xs, h1, rfl, h3⟩ := h.reg
  rw [List.length_map] at hl
  refine (kForward2 S m xs s a k o w h1 (by omega) hs hk fun c hc => (hg c hc).2).mono ?_
  rintro e w' ⟨r, m', rfl, rfl, ⟨xs', r1, r2, r3⟩, r4, r5⟩
  exact ⟨rfl, m', by rw [← r2]; exact (h.regStep h1 h3 r1 r3 r4 r5).1, r5⟩
theorem djForwardD {N : Nat} {w0 w : World} {S : Nat} {m : Option Nat} {M : Nat} {A : Option Addr} {n c : Nat} {cs ds : List Con} (h : DJ N w0 w S m M A n c cs ds) (hg : goodL ds) (s a k : Int) (o : List Int) (hs : wfI s) (hk : wfI k) :
    Calls Try.prog 15 #[.pointer (some ⟨M, 0, none⟩), .agg (fwV s a o k).toArray] w fun e w' => e = .returned (.int .i64 (fwC ds s k).2) ∧ DJ N w0 w' S m M A n c cs (fwC ds s k).1 ∧ Fr w w' (onB A) := by
  obtain ⟨ys, d1, rfl, d3⟩ := h.doc
  refine (dForward M A n c ys s a k o w d1 h.len hs hk fun c hc => (hg c hc).2).mono ?_
  rintro e w' ⟨rfl, ys', r1, r2, r3, r4⟩
  exact ⟨rfl, by rw [← r2]; exact h.docStep d1 d3 r1 h.nil h.len (fun y hy => .inl (r4 y hy)) (fun q e => .inl e) (r3.mono fun q e => .inr e), r3⟩
theorem djSame {N : Nat} {w0 w : World} {S : Nat} {m : Option Nat} {M : Nat} {A : Option Addr} {n c : Nat} {cs : List Con} (h : DJ N w0 w S m M A n c cs cs) (hg : goodL cs) :
    Calls Try.prog 19 #[.pointer (some ⟨S, 0, none⟩), .pointer (some ⟨M, 0, none⟩)] w fun e w' => e = .returned (.bool true) ∧ Below w.heap.size w w' := by
  obtain ⟨xs, h1, h2, h3⟩ := h.reg
  obtain ⟨ys, d1, d2, d3⟩ := h.doc
  exact lSameR S m xs M A n c ys w h1 d1 d3 (h2.trans d2.symm) h.len (by rw [d2]; exact hg)
theorem good_set {cs : List Con} {i : Nat} {x : Con} (h : goodL cs) (hx : simC x ∧ okC x) : goodL (putS cs i x) := fun c hc => by
  rcases putS_mem hc with e | rfl
  · exact h c e
  · exact hx
theorem good_at {cs : List Con} (h : goodL cs) {i : Nat} (hi : i < cs.length) : simC (cs.getD i con00) ∧ okC (cs.getD i con00) := h _ (by
  rw [List.getD_eq_getElem?_getD, List.getElem?_eq_getElem hi]
  exact List.getElem_mem _)
theorem good_fw {cs : List Con} (s k : Int) (h : goodL cs) : goodL (fwC cs s k).1 := by
  unfold fwC
  split
  · rename_i hi
    have g := good_at h (i := s.toNat) (by omega)
    split
    · exact h
    · split
      · rename_i ok
        refine good_set h ⟨g.1, ?_⟩
        obtain ⟨o1, o2, o3, o4⟩ := g.2
        obtain ⟨k1, k2, k3, k4⟩ := ok
        unfold okC moreC
        refine ⟨?_, ?_, ?_, ?_⟩ <;> dsimp only <;> omega
      · exact h
  · exact h
theorem fw_len' (cs : List Con) (s k : Int) : (fwC cs s k).1.length = cs.length := by
  unfold fwC
  split
  · rename_i hi
    split
    · rfl
    · split
      · show (putS _ _ _).length = _
        rw [putS_len, if_pos (by omega)]
      · rfl
  · rfl
theorem good_cre {cs : List Con} (ok : Bool) (a b c : Int) (n : Nat) (flat : List Int) (ht : Int) (h : goodL cs) : goodL (creC cs ok (con0 a b c n flat ht)).1 := by
  unfold creC
  split
  · exact h
  · split
    · exact h
    · intro x hx
      rcases List.mem_append.1 hx with e | e
      · exact h x e
      · rw [List.mem_singleton.1 e]
        exact ⟨⟨rfl, rfl, ⟨flat, rfl⟩, ⟨[], rfl⟩⟩, by unfold okC con0; refine ⟨?_, ?_, ?_, ?_⟩ <;> dsimp only <;> omega⟩
end Go.Proofs.Ytmcmdpbdipgahaa

/-
  The document's Create.
-/
namespace Go.Proofs.Ytmcmdpbdipgahaa
open Go.RowKit Go.Maps
set_option maxRecDepth 100000
/-- the cells of a row of records -/
def rwV (ys : List Sm) : List Value := ys.flatMap sdV
theorem rwV_len : ∀ ys : List Sm, (rwV ys).length = ys.length * 42
  | [] => rfl
  | y :: ys => by
    unfold rwV
    rw [List.flatMap_cons, List.length_append, sd_len, List.length_cons]
    have := rwV_len ys
    unfold rwV at this
    rw [this]; omega
theorem rwV_one (ys : List Sm) : ∀ v ∈ rwV ys, v.oneCell' = true := fun v hv => by
  unfold rwV at hv
  obtain ⟨y, _, hv⟩ := List.mem_flatMap.1 hv
  exact sd_one y v hv
theorem rwV_snoc (ys : List Sm) (y : Sm) : rwV (ys ++ [y]) = rwV ys ++ sdV y := by unfold rwV; simp
theorem rw_cell (ys : List Sm) (i j : Nat) (hi : i < ys.length) (hj : j < 42) : (rwV ys)[i * 42 + j]? = (sdV (ys.getD i sm0))[j]? := by
  induction ys generalizing i with
  | nil => simp at hi
  | cons y ys ih =>
    have e : rwV (y :: ys) = sdV y ++ rwV ys := by unfold rwV; rw [List.flatMap_cons]
    rw [e]
    cases i with
    | zero =>
      rw [Nat.zero_mul, Nat.zero_add, List.getElem?_append_left (by rw [sd_len]; exact hj)]
      rfl
    | succ i =>
      rw [List.getElem?_append_right (by rw [sd_len]; omega), sd_len, show (i + 1) * 42 + j - 42 = i * 42 + j by omega, ih i (by simpa using hi)]
      rfl
theorem rw_range {w : World} {b o : Nat} {ys : List Sm} (h : w.rangeAt b o (rwV ys)) (i : Nat) (hi : i < ys.length) : w.rangeAt b (o + i * 42) (sdV (ys.getD i sm0)) := fun j v hv => by
  have hj : j < 42 := by have := (List.getElem?_eq_some_iff.1 hv).1; rwa [sd_len] at this
  have := h (i * 42 + j) v (by rw [rw_cell ys i j hi hj]; exact hv)
  rwa [← Nat.add_assoc] at this
theorem range_rw {w : World} {b o : Nat} {ys : List Sm} (h : ∀ i, i < ys.length → w.rangeAt b (o + i * 42) (sdV (ys.getD i sm0))) : w.rangeAt b o (rwV ys) := fun k v hv => by
  have hk := (List.getElem?_eq_some_iff.1 hv).1
  rw [rwV_len] at hk
  have h1 : k / 42 < ys.length := by omega
  have h2 : k % 42 < 42 := by omega
  have e : k / 42 * 42 + k % 42 = k := by omega
  have hv2 : (sdV (ys.getD (k / 42) sm0))[k % 42]? = some v := by rw [← rw_cell ys _ _ h1 h2, e]; exact hv
  have := h _ h1 _ v hv2
  rwa [Nat.add_assoc, e] at this
theorem DocAt.src {w : World} {M : Nat} {A : Option Addr} {n c : Nat} {ys : List Sm} (h : DocAt w M A n c ys) : SrcG w 42 A n (rwV ys) := by
  refine ⟨by rw [rwV_len, h.len], rwV_one ys, h.row.imp id ?_⟩
  rintro ⟨b, o, e, hl, hr⟩
  exact ⟨b, o, e, hl, range_rw fun i hi => hr i (by rw [← h.len]; exact hi)⟩
theorem infoS57 : (Try.prog.info? 57).map (fun i => (i.zero, i.size, i.bytes)) = some (some (.agg (sdV sm0).toArray), 42, (Try.prog.info? 57).elim 0 (·.bytes)) := by kernel_rfl
theorem byS57 : (Try.prog.info? 57).elim 0 (·.bytes) ≤ 1000 := by decide +kernel
theorem szS57 : (Value.agg (sdV sm0).toArray).cells.size = 42 := by kernel_rfl
theorem b57 (a b c : Int) (A : Option Addr) (n cap : Nat) (flat : List Int) (h : Int) (w : World) : (Instr.build 57 #[(0, .agg #[.int .i64 a, .int .i64 b, .int .i64 c, .slice A n cap]), (1, .int .i64 h)]).run Try.prog w = .ok (.agg (sdV (sm1 a b c A n cap flat h)).toArray) w := by kernel_rfl
theorem srcG_of {w : World} {A : Option Addr} {n : Nat} {flat : List Int} (h : Src w A (8 * n) flat) : SrcG w 8 A n (bvals flat) := by
  obtain ⟨h1, h2⟩ := h
  have hl : (bvals flat).length = 8 * n := by unfold bvals; rw [List.length_map, h1]
  refine ⟨by rw [hl]; omega, bvals_one flat, ?_⟩
  by_cases h0 : n = 0
  · exact .inl h0
  · obtain ⟨b, off, e, hc⟩ := h2.resolve_left (by omega)
    refine .inr ⟨b, off, e, cell_lt (hc 0 (by omega)), fun j v hv => ?_⟩
    have hj := (List.getElem?_eq_some_iff.1 hv).1
    rw [hc j (by omega), ← hv]
    unfold bvals
    rw [List.getElem?_map, List.getD_eq_getElem?_getD, List.getElem?_eq_getElem (by omega)]
    rfl
/-- the document's behind a new row -/
theorem doc_new {w w5 u : World} {M : Nat} {A A3 : Option Addr} {n c c3 : Nat} {ys : List Sm} {nx : Sm} (d : DocAt w5 M A n c ys) (_ : w.heap.size ≤ w5.heap.size) (hf : Fr w w5 (fun q => q = M)) (hb : Below w5.heap.size w5 u) (ho : u.ownsRow w5.heap.size 57 42 (.slice A3 (n + 1) c3) (n + 1) (rwV ys ++ sdV nx)) :
    DocAt (u.setCell ⟨M, 0, none⟩ (.slice A3 (n + 1) c3)) M A3 (n + 1) c3 (ys ++ [nx]) ∧ Fr w (u.setCell ⟨M, 0, none⟩ (.slice A3 (n + 1) c3)) (fun q => q = M) ∧ ∀ q, onB A3 q → w5.heap.size ≤ q := by
  have hM := bl_lt d.blk
  rcases own_addr ho with ⟨_, e, _⟩ | ⟨g, rfl⟩
  · omega
  have hg := ownG_base ho g rfl
  have r := ownG_rng ho
  obtain ⟨cur, hcur⟩ := own_cells ho (g := g) rfl
  have hne : g ≠ M := by omega
  refine ⟨⟨?_, by rw [List.length_append, d.len]; rfl, r.2.1, .inr ⟨g, 0, rfl, ?_, fun i hi => ?_⟩, fun b o e _ => ?_⟩, ?_, ?_⟩
  · have := bl_set (bl_keep d.blk (hb.block M hM)) 0 (.slice (some ⟨g, 0, none⟩) (n + 1) c3)
    exact this
  · rw [World.size_setCell]; exact r.1
  · have h1 : u.rangeAt g 0 (rwV (ys ++ [nx])) := by rw [rwV_snoc]; exact r.2.2
    exact range_keep1 (rw_range h1 i (by rw [List.length_append, d.len]; exact hi)) (heap_set1 _ _ _ hne)
  · cases e
    exact ⟨cur, (heap_set1 _ _ _ hne).trans hcur⟩
  · exact (hf.trans (Fr.of_below (P := fun q => q = M) hb) fun q h => .inl h).trans (fr_cellF u M 0 _) fun q h => .inl h
  · rintro q ⟨o, e⟩
    cases e
    exact hg
theorem exec_bld2 {o : Oper} {a : Act} {w : World} (T : TypeId) (x y : Operand) (i j : Nat) (u v z : Value) (ho : o.op = .build T #[(i, x), (j, y)]) (hx : a.eval x = u) (hy : a.eval y = z) (hr : (Instr.build T #[(i, u), (j, z)]).run Try.prog w = .ok v w) : (execOp a.eval o).run Try.prog w = .ok (.value v) w := by
  unfold execOp
  simp only [ho, List.map_toArray, List.map_cons, List.map_nil, hx, hy, Sem.run_bind, hr, Result.andThen_ok, Sem.run_pure]
attribute [local irreducible] sdV sumN wpQuiet bvals mayP sm1 rwV
set_option maxHeartbeats 8000000 in
theorem dCreate (M : Nat) (A : Option Addr) (n c : Nat) (ys : List Sm) (a b cc : Int) (K : Option Addr) (kn cap : Nat) (flat : List Int) (ht : Int) (w : World) (d : DocAt w M A n c ys) (h0 : n = 0 → A = none) (hn : n ≤ 8) (hs : Src w K (8 * kn) flat) (hc : kn ≤ cap) (hc2 : cap ≤ maxLen) :
    Calls Try.prog 13 #[.pointer (some ⟨M, 0, none⟩), .agg #[.int .i64 a, .int .i64 b, .int .i64 cc, .slice K kn cap], .int .i64 ht] w fun e w' => e = .returned (.tuple #[.int .i64 (creC (ys.map Sm.con) (mayP (at8 flat) kn a b cc) (con0 a b cc kn flat ht)).2.1, .int .i64 (creC (ys.map Sm.con) (mayP (at8 flat) kn a b cc) (con0 a b cc kn flat ht)).2.2]) ∧
      ∃ A' n' c' ys', DocAt w' M A' n' c' ys' ∧ ys'.map Sm.con = (creC (ys.map Sm.con) (mayP (at8 flat) kn a b cc) (con0 a b cc kn flat ht)).1 ∧ (n' = 0 → A' = none) ∧ n' ≤ 8 ∧ (∀ q, onB A' q → onB A q ∨ w.heap.size ≤ q) ∧ Fr w w' (fun q => q = M) ∧ ∀ y ∈ ys', y ∈ ys ∨ SdAt w' (fun q => q < w.heap.size ∨ q = M ∨ onB A' q) y := by
  obtain ⟨N, hN⟩ : ∃ N, w.heap.size = N := ⟨_, rfl⟩
  have HN := Lib.hid hN
  obtain ⟨v, hv⟩ : ∃ v, w.alloc (Obj.cells #[.int .i64 a, .int .i64 b, .int .i64 cc, .slice K kn cap] 38) = v := ⟨_, rfl⟩
  have P0 : Hid (PB v N a b cc (.slice K kn cap)) := Lib.hid (by subst hv; exact pb_new hN a b cc (.slice K kn cap))
  have BV : Hid (Below N w v) := Lib.hid (by subst hv hN; exact (Below.refl _ w).alloc (Nat.le_refl _) _)
  have VS : Hid (v.heap.size = N + 1) := Lib.hid (by subst hv hN; show _ = _; rw [World.size_alloc])
  have DV : Hid (DocAt v M A n c ys) := Lib.hid (d.grow (by rw [hN]; exact BV.out))
  have HSR : Hid (Src v K (8 * kn) flat) := Lib.hid (hs.keep fun k hk => BV.out.block k (by rw [← hN]; exact hk))
  have CY : Hid (Calls Try.prog 35 #[.agg #[.int .i64 a, .int .i64 b, .int .i64 cc, .slice K kn cap]] v fun e w' => e = .returned (.bool (mayP (at8 flat) kn a b cc)) ∧ Below v.heap.size v w') := Lib.hid (dMay K kn cap flat a b cc v HSR.out hc hc2)
  have LEN : Hid ((ys.map Sm.con).length = n) := Lib.hid (by rw [List.length_map]; exact d.len)
  have HC := Lib.hid hc
  have HN8 := Lib.hid hn
  have H0 := Lib.hid h0
  have MN : Hid (M < N) := Lib.hid (by rw [← hN]; exact bl_lt d.blk)
  have NOTN : Hid (∀ q, onB A q → q ≠ N) := Lib.hid fun q e h => by have := d.lt h0 q (.inr e); omega
  have STAY : Hid (∀ W, Below v.heap.size v W → Fr w W (fun q => q = M) ∧ DocAt W M A n c ys) := Lib.hid fun W hb => ⟨(Fr.of_below (P := fun q => q = M) (by rw [HN.out]; exact BV.out)).trans (Fr.of_below (P := fun q => q = M) hb) fun q h => .inl h, DV.out.grow hb⟩
  clear d hs hc hc2 hn h0
  obtain ⟨ok, hok⟩ : ∃ ok, mayP (at8 flat) kn a b cc = ok := ⟨_, rfl⟩
  rw [hok] at CY ⊢
  have HOK := Lib.hid hok
  clear hok
  cases ok
  · go_enter Try.func13, Try.ntmps13
    go_upto_region 1 with (fail)
    (try rw [hv])
    go_wp2_with (first
      | (refine wpList_load_midG (by rfl) 38 (.tmp 4) rfl N 0 rfl [.int .i64 a, .int .i64 b, .int .i64 cc, .slice K kn cap] _ (pb_range P0.out) Try.underlying38 rfl (pb_info a b cc _) ?_)
      | (go_at_call 35; refine CY.out.mono ?_; rintro e w1 ⟨rfl, hb⟩; have B1 := Lib.hid hb; clear hb)
      | fail)
    go_ret2
    have S1 := STAY.out _ B1.out
    exact ⟨rfl, A, n, c, ys, S1.2, rfl, H0.out, HN8.out, fun q e => .inl e, S1.1, fun y hy => .inl hy⟩
  by_cases h8 : 8 ≤ n
  · have h8' : decide ((8 : Int) ≤ (n : Int)) = true := decide_eq_true (by omega)
    have CR : Hid (creC (ys.map Sm.con) true (con0 a b cc kn flat ht) = (ys.map Sm.con, 0, 18)) := Lib.hid (by unfold creC; rw [if_neg (by decide), LEN.out, if_pos h8])
    rw [CR.out]
    go_enter Try.func13, Try.ntmps13
    go_upto_region 1 with (fail)
    (try rw [hv])
    go_upto_region 3 with (first
      | (refine wpList_load_midG (by rfl) 38 (.tmp 4) rfl N 0 rfl [.int .i64 a, .int .i64 b, .int .i64 cc, .slice K kn cap] _ (pb_range P0.out) Try.underlying38 rfl (pb_info a b cc _) ?_)
      | (go_at_call 35; refine CY.out.mono ?_; rintro e w1 ⟨rfl, hb⟩; have B1 := Lib.hid hb; clear hb)
      | fail)
    have S1 := Lib.hid (STAY.out _ B1.out)
    have c0 := S1.out.2.c0
    go_wp2
    go_ret2
    exact ⟨rfl, A, n, c, ys, S1.out.2, rfl, H0.out, HN8.out, fun q e => .inl e, S1.out.1, fun y hy => .inl hy⟩
  · have h8' : decide ((8 : Int) ≤ (n : Int)) = false := decide_eq_false (by omega)
    have H8 : Hid (n < 8) := Lib.hid (by omega)
    have CR : Hid (creC (ys.map Sm.con) true (con0 a b cc kn flat ht) = (ys.map Sm.con ++ [con0 a b cc kn flat ht], (n : Int), 0)) := Lib.hid (by unfold creC; rw [if_neg (by decide), LEN.out, if_neg h8])
    rw [CR.out]
    have H1 := may_n HOK.out
    have HKN : Hid (1 ≤ kn ∧ kn ≤ 5) := Lib.hid H1
    clear H1 h8
    go_enter Try.func13, Try.ntmps13
    go_upto_region 1 with (fail)
    (try rw [hv])
    clear hv
    go_upto_region 3 with (first
      | (refine wpList_load_midG (by rfl) 38 (.tmp 4) rfl N 0 rfl [.int .i64 a, .int .i64 b, .int .i64 cc, .slice K kn cap] _ (pb_range P0.out) Try.underlying38 rfl (pb_info a b cc _) ?_)
      | (go_at_call 35; refine CY.out.mono ?_; rintro e w1 ⟨rfl, hb⟩; have B1 := Lib.hid hb; clear hb)
      | fail)
    have P1 : Hid (PB w1 N a b cc (.slice K kn cap)) := Lib.hid ((B1.out.block N (by have := VS.out; omega)).trans P0.out)
    have S1 := Lib.hid (STAY.out _ B1.out)
    have c0 := S1.out.2.c0
    go_upto_region 5 with (fail)
    have SK : Hid (SrcG w1 8 K kn (bvals flat)) := Lib.hid (srcG_of (HSR.out.keep B1.out.block))
    obtain ⟨zH, byH, iH1, iH2, iH3⟩ := ziH
    have p3 := (pb_cells P1.out).2.2.2
    go_upto_region 6 with (first
      | (at_builtin; refine wpList_appG Try.underlying36 iH1 iH2 (by decide) iH3 rfl (.const (.slice none 0 0)) (.tmp 18) rfl w1.heap.size 0 kn cap (.slice none 0 0) [] (bvals flat) K rfl rfl (World.ownsRow_nil w1 _ _ _) SK.out (by omega) (by have := HKN.out; omega) (Nat.le_refl _) ?_; intro K2 c2 w4 hown hb4; rw [Nat.zero_add, List.nil_append] at hown; have OK2 := Lib.hid hown; have B4 := Lib.hid hb4; have P4 : Hid (PB w4 N a b cc (.slice K kn cap)) := Lib.hid ((hb4.block N (lt_of_block P1.out)).trans P1.out); have q3 := (pb_cells P4.out).2.2.2; have f3 : w4.frozen? ⟨N, 3, none⟩ = false := free_of P4.out 3; clear hown hb4)
      | fail)
    have P5 : Hid (PB (w4.setCell ⟨N, 3, none⟩ (.slice K2 kn c2)) N a b cc (.slice K2 kn c2)) := Lib.hid (pb_set P4.out _)
    have B5 : Hid (Below N w (w4.setCell ⟨N, 3, none⟩ (.slice K2 kn c2))) := Lib.hid ((BV.out.trans ((B1.out.trans (B4.out.mono B1.out.size)).mono (by rw [VS.out]; omega))).setCell (Nat.le_refl _) _)
    have NW1 : Hid (N < w1.heap.size) := Lib.hid (lt_of_block P1.out)
    have OK5 : Hid ((w4.setCell ⟨N, 3, none⟩ (.slice K2 kn c2)).ownsRow w1.heap.size 31 8 (.slice K2 kn c2) kn (bvals flat)) := Lib.hid (row_keepO OK2.out fun g hg => heap_set1 _ _ _ (by have := (own_blk OK2.out hg).1; have := NW1.out; omega))
    generalize w4.setCell ⟨N, 3, none⟩ (.slice K2 kn c2) = w5 at *
    clear q3 f3 p3 P4 OK2 c0 iH1 iH2 iH3 h8'
    have D5 : Hid (DocAt w5 M A n c ys) := Lib.hid (DV.out.keep H0.out (by have := B5.out.size; have := VS.out; have := lt_of_block P5.out; omega) fun q hq => by
      have hlt := DV.out.lt H0.out q hq
      have : q ≠ N := by
        rintro rfl
        rcases hq with e | e
        · have := MN.out; omega
        · exact NOTN.out _ e rfl
      have h1 := VS.out
      rw [B5.out.block q (by omega), BV.out.block q (by omega)])
    have F5 : Hid (Fr w w5 (fun q => q = M)) := Lib.hid (Fr.of_below (by rw [HN.out]; exact B5.out))
    have S5 : Hid (w.heap.size ≤ w5.heap.size) := Lib.hid B5.out.size
    obtain ⟨nx, hnx⟩ : ∃ nx, sm1 a b cc K2 kn c2 flat ht = nx := ⟨_, rfl⟩
    have NXC : Hid (nx.con = con0 a b cc kn flat ht) := Lib.hid (by rw [← hnx]; exact sm1_con a b cc K2 kn c2 flat ht)
    have NXR : Hid (nx.K = ⟨K2, kn, c2, bvals flat⟩ ∧ nx.O = rf0 ∧ nx.G = rf0 ∧ nx.U = rf0) := Lib.hid (by rw [← hnx]; unfold sm1; exact ⟨rfl, rfl, rfl, rfl⟩)
    have SB : ∀ W, (Instr.build 57 #[(0, .agg #[.int .i64 a, .int .i64 b, .int .i64 cc, .slice K2 kn c2]), (1, .int .i64 ht)]).run Try.prog W = .ok (.agg (sdV nx).toArray) W := fun W => by rw [← hnx]; exact b57 a b cc K2 kn c2 flat ht W
    clear hnx
    have CM5 : ∀ W, Below w5.heap.size w5 W → W.cell? ⟨M, 0, none⟩ = some (.slice A n c) := fun W hb => (D5.out.grow hb).c0
    have PB5 : ∀ W, Below w5.heap.size w5 W → PB W N a b cc (.slice K2 kn c2) := fun W hb => (hb.block N (lt_of_block P5.out)).trans P5.out
    have SRC := Lib.hid D5.out.src
    go_cut [] (fun wc => ∃ A3 c3 u, wc = u.setCell ⟨M, 0, none⟩ (.slice A3 (n + 1) c3) ∧ Below w5.heap.size w5 u ∧ u.ownsRow w5.heap.size 57 42 (.slice A3 (n + 1) c3) (n + 1) (rwV ys ++ sdV nx))
    case first =>
      refine wp_region_end 13 (S := fun W => Below w5.heap.size w5 W) (by kernel_rfl) (by kernel_rfl) (Below.refl _ w5).drew (fun hHeld => ?_)
      refine wpAnyH_take (i := 0) (v := ?_) rfl (by kernel_rfl) (by kernel_rfl) (by kernel_rfl) (fun _ _ _ h => h) (Or.inl ⟨by rfl, ?_⟩) (by assumption) ?_
      rotate_left
      · (intro w hSw; (try dsimp only at hSw); go_simp; try with_reducible rfl)
      simp only [Act.put, List.getElem_toArray, List.getElem_cons_zero, List.setIfInBounds_toArray, List.set_cons_zero, List.set_cons_succ]
      refine wpAnyH_take (i := 1) (v := ?_) rfl (by kernel_rfl) (by kernel_rfl) (by kernel_rfl) (fun _ _ _ h => h) (Or.inl ⟨by rfl, ?_⟩) (by assumption) ?_
      rotate_left
      · (intro w hSw; (try dsimp only at hSw); go_simp; try with_reducible rfl)
      simp only [Act.put, List.getElem_toArray, List.getElem_cons_succ, List.getElem_cons_zero, List.setIfInBounds_toArray, List.set_cons_zero, List.set_cons_succ]
      refine wpAnyH_take (i := 2) (v := ?_) rfl (by kernel_rfl) (by kernel_rfl) (by kernel_rfl) (fun _ _ _ h => h) (Or.inl ⟨by rfl, ?_⟩) (by assumption) ?_
      rotate_left
      · (intro w hSw; (try dsimp only at hSw); go_simp; try with_reducible rfl)
      simp only [Act.put, List.getElem_toArray, List.getElem_cons_succ, List.getElem_cons_zero, List.setIfInBounds_toArray, List.set_cons_zero, List.set_cons_succ]
      refine wpAnyH_take (i := 3) (v := ?_) rfl (by kernel_rfl) (by kernel_rfl) (by kernel_rfl) (fun _ _ _ h => h) (Or.inl ⟨by rfl, ?_⟩) (by assumption) ?_
      rotate_left
      · (intro w hSw; (try dsimp only at hSw); go_simp; try with_reducible rfl)
      simp only [Act.put, List.getElem_toArray, List.getElem_cons_succ, List.getElem_cons_zero, List.setIfInBounds_toArray, List.set_cons_zero, List.set_cons_succ]
      refine wpAnyH_take (i := 4) (v := ?_) rfl (by kernel_rfl) (by kernel_rfl) (by kernel_rfl) (fun _ _ _ h => h) (Or.inl ⟨by rfl, ?_⟩) (by assumption) ?_
      rotate_left
      · (intro w hSw; have z := CM5 w hSw; go_simp; try with_reducible rfl)
      simp only [Act.put, List.getElem_toArray, List.getElem_cons_succ, List.getElem_cons_zero, List.setIfInBounds_toArray, List.set_cons_zero, List.set_cons_succ]
      refine wpAnyH_take (i := 6) rfl (by kernel_rfl) (by kernel_rfl) (by kernel_rfl) (fun _ _ _ h => h) (yieldsIf_load_mid (by rfl) 38 (.tmp 4) rfl N (0) rfl [.int .i64 a, .int .i64 b, .int .i64 cc, .slice K2 kn c2] _ (fun w h => pb_range (PB5 w h)) Try.underlying38 rfl (pb_info a b cc _)) (by assumption) ?_
      simp only [Act.put, List.getElem_toArray, List.getElem_cons_succ, List.getElem_cons_zero, List.setIfInBounds_toArray, List.set_cons_zero, List.set_cons_succ]
      refine wpAnyH_take (i := 7) (v := ?_) rfl (by kernel_rfl) (by kernel_rfl) (by kernel_rfl) (fun _ _ _ h => h) (Or.inl ⟨by rfl, ?_⟩) (by assumption) ?_
      rotate_left
      · (intro w hSw; (try dsimp only at hSw); go_simp; try with_reducible rfl)
      simp only [Act.put, List.getElem_toArray, List.getElem_cons_succ, List.getElem_cons_zero, List.setIfInBounds_toArray, List.set_cons_zero, List.set_cons_succ]
      refine wpAnyH_take (i := 8) (v := .agg (sdV nx).toArray) rfl (by kernel_rfl) (by kernel_rfl) (by kernel_rfl) (fun _ _ _ h => h) (Or.inl ⟨by rfl, fun w _ => exec_bld2 57 (.tmp 27) (.tmp 28) 0 1 (.agg #[.int .i64 a, .int .i64 b, .int .i64 cc, .slice K2 kn c2]) (.agg (sdV nx).toArray) (.int .i64 ht) rfl rfl rfl (SB w)⟩) (by assumption) ?_
      simp only [Act.put, List.getElem_toArray, List.getElem_cons_succ, List.getElem_cons_zero, List.setIfInBounds_toArray, List.set_cons_zero, List.set_cons_succ]
      refine wpAnyH_ready (rs := [5, 9]) (by kernel_rfl) (by simp) ?_
      refine AllReadyH.cons rfl (fun K hK => ?_) (AllReadyH.cons rfl (fun K hK => ?_) AllReadyH.nil)
      · refine step_app0 Try.underlying27 infoS57 szS57 (by decide) byS57 rfl (.const (.slice none 0 0)) (.tmp 25) rfl w5.drew.heap.size n c (rwV ys) A rfl rfl (SRC.out.keep ((Below.refl _ w5).drew)) (by have := HN8.out; omega) (Nat.le_refl _) ?_
        intro A7 c7 u7 o7 b7
        have B7 := Lib.hid ((Below.refl _ w5).drew.trans (b7.mono (Nat.le_refl _)))
        have O7 := Lib.hid (own_le o7 (show w5.heap.size ≤ w5.drew.heap.size from Nat.le_refl _))
        clear o7 b7
        refine hK.out _ _ B7.out (fun hHeld => ?_)
        clear hK K
        refine wpAnyH_ready (rs := [9]) (by kernel_rfl) (by simp) ?_
        refine AllReadyH.cons rfl (fun K hK => ?_) AllReadyH.nil
        refine step_bs1 (by rfl) (.tmp 29) (sdV nx) rfl rfl Try.underlying27 infoS57 (sd_len nx) (by decide) (by decide) ?_
        have b9 := (B7.out).alloc (B7.out).size (.cells (sdV nx).toArray 57)
        have n9 := heap_alloc_last u7 (.cells (sdV nx).toArray 57)
        have k9 := fun q (hq : q < u7.heap.size) => Below.heap_alloc u7 (.cells (sdV nx).toArray 57) q hq
        obtain ⟨u9, e9⟩ : ∃ u, u7.alloc (.cells (sdV nx).toArray 57) = u := ⟨_, rfl⟩
        obtain ⟨g9, eg9⟩ : ∃ g, u7.heap.size = g := ⟨_, rfl⟩
        rw [e9, eg9] at n9 ⊢
        rw [e9] at b9 k9
        have SRC9 : Hid (SrcG u9 42 (some ⟨g9, 0, none⟩) 1 (sdV nx)) := Lib.hid ⟨by rw [sd_len], sd_one nx, .inr ⟨g9, 0, rfl, lt_of_block n9, range_of n9⟩⟩
        have O7b : Hid (u9.ownsRow w5.heap.size 57 42 (.slice A7 n c7) n (rwV ys)) := Lib.hid (row_keepO O7.out fun g hg => k9 g (own_blk O7.out hg).2)
        have B9 := Lib.hid b9
        clear b9 n9 k9 e9
        refine hK.out _ _ B9.out (fun hHeld => ?_)
        clear hK K
        refine wpAnyH_ready (rs := [10]) (by kernel_rfl) (by simp) ?_
        refine AllReadyH.cons rfl (fun K hK => ?_) AllReadyH.nil
        refine step_appG Try.underlying27 infoS57 szS57 (by decide) byS57 rfl (.tmp 26) (.tmp 30) rfl w5.heap.size n 1 1 (.slice A7 n c7) (rwV ys) (sdV nx) (some ⟨g9, 0, none⟩) rfl rfl O7b.out SRC9.out (by have := HN8.out; omega) (by decide) (B9.out).size ?_
        intro A10 c10 u10 o10 b10
        have B10 := Lib.hid (B9.out.trans b10)
        have O10 := Lib.hid o10
        clear o10 b10
        refine hK.out _ _ B10.out (fun hHeld => ?_)
        clear hK K
        refine wpAnyH_take (i := 11) (v := ?_) rfl (by kernel_rfl) (by kernel_rfl) (by kernel_rfl) (fun _ _ _ h => h) (Or.inl ⟨by rfl, ?_⟩) (by assumption) ?_
        rotate_left
        · (intro w hSw; (try dsimp only at hSw); go_simp; try with_reducible rfl)
        simp only [Act.put, List.getElem_toArray, List.getElem_cons_succ, List.getElem_cons_zero, List.setIfInBounds_toArray, List.set_cons_zero, List.set_cons_succ]
        refine wpAnyH_take (i := 12) (v := ?_) rfl (by kernel_rfl) (by kernel_rfl) (by kernel_rfl) (fun _ _ _ h => h) (Or.inl ⟨by rfl, ?_⟩) (by assumption) ?_
        rotate_left
        · (intro w hSw; (try dsimp only at hSw); go_simp; try with_reducible rfl)
        simp only [Act.put, List.getElem_toArray, List.getElem_cons_succ, List.getElem_cons_zero, List.setIfInBounds_toArray, List.set_cons_zero, List.set_cons_succ]
        clear hHeld
        refine wpAnyH_done (by kernel_rfl) ?_ _
        refine qn_last rfl (by rfl) ?_
        have cB : u10.cell? ⟨M, 0, none⟩ = some (.slice A n c) := CM5 u10 B10.out
        have fB : u10.frozen? ⟨M, 0, none⟩ = false := bl_free (bl_keep D5.out.blk (B10.out.block M (bl_lt D5.out.blk))) 0
        go_simp
        clear cB fB
        go_wp2
        go_meet
        case rel => exact ⟨A10, c10, u10, rfl, B10.out, O10.out⟩
      · refine step_bs1 (by rfl) (.tmp 29) (sdV nx) rfl rfl Try.underlying27 infoS57 (sd_len nx) (by decide) (by decide) ?_
        have b9 := ((Below.refl w5.heap.size w5).drew).alloc ((Below.refl w5.heap.size w5).drew).size (.cells (sdV nx).toArray 57)
        have n9 := heap_alloc_last w5.drew (.cells (sdV nx).toArray 57)
        have k9 := fun q (hq : q < w5.drew.heap.size) => Below.heap_alloc w5.drew (.cells (sdV nx).toArray 57) q hq
        obtain ⟨u9, e9⟩ : ∃ u, w5.drew.alloc (.cells (sdV nx).toArray 57) = u := ⟨_, rfl⟩
        obtain ⟨g9, eg9⟩ : ∃ g, w5.drew.heap.size = g := ⟨_, rfl⟩
        rw [e9, eg9] at n9 ⊢
        rw [e9] at b9 k9
        have SRC9 : Hid (SrcG u9 42 (some ⟨g9, 0, none⟩) 1 (sdV nx)) := Lib.hid ⟨by rw [sd_len], sd_one nx, .inr ⟨g9, 0, rfl, lt_of_block n9, range_of n9⟩⟩
        have B9 := Lib.hid b9
        clear b9 n9 k9 e9 eg9
        refine hK.out _ _ B9.out (fun hHeld => ?_)
        clear hK K
        refine wpAnyH_ready (rs := [5]) (by kernel_rfl) (by simp) ?_
        refine AllReadyH.cons rfl (fun K hK => ?_) AllReadyH.nil
        refine step_app0 Try.underlying27 infoS57 szS57 (by decide) byS57 rfl (.const (.slice none 0 0)) (.tmp 25) rfl u9.heap.size n c (rwV ys) A rfl rfl (SRC.out.keep (B9.out)) (by have := HN8.out; omega) (Nat.le_refl _) ?_
        intro A7 c7 u7 o7 b7
        have B7 := Lib.hid (B9.out.trans (b7.mono B9.out.size))
        have O7 := Lib.hid (own_le o7 B9.out.size)
        have SRC9 : Hid (SrcG u7 42 (some ⟨g9, 0, none⟩) 1 (sdV nx)) := Lib.hid (SRC9.out.keep b7)
        clear o7 b7
        refine hK.out _ _ B7.out (fun hHeld => ?_)
        clear hK K
        refine wpAnyH_ready (rs := [10]) (by kernel_rfl) (by simp) ?_
        refine AllReadyH.cons rfl (fun K hK => ?_) AllReadyH.nil
        refine step_appG Try.underlying27 infoS57 szS57 (by decide) byS57 rfl (.tmp 26) (.tmp 30) rfl w5.heap.size n 1 1 (.slice A7 n c7) (rwV ys) (sdV nx) (some ⟨g9, 0, none⟩) rfl rfl O7.out SRC9.out (by have := HN8.out; omega) (by decide) (B7.out).size ?_
        intro A10 c10 u10 o10 b10
        have B10 := Lib.hid (B7.out.trans b10)
        have O10 := Lib.hid o10
        clear o10 b10
        refine hK.out _ _ B10.out (fun hHeld => ?_)
        clear hK K
        refine wpAnyH_take (i := 11) (v := ?_) rfl (by kernel_rfl) (by kernel_rfl) (by kernel_rfl) (fun _ _ _ h => h) (Or.inl ⟨by rfl, ?_⟩) (by assumption) ?_
        rotate_left
        · (intro w hSw; (try dsimp only at hSw); go_simp; try with_reducible rfl)
        simp only [Act.put, List.getElem_toArray, List.getElem_cons_succ, List.getElem_cons_zero, List.setIfInBounds_toArray, List.set_cons_zero, List.set_cons_succ]
        refine wpAnyH_take (i := 12) (v := ?_) rfl (by kernel_rfl) (by kernel_rfl) (by kernel_rfl) (fun _ _ _ h => h) (Or.inl ⟨by rfl, ?_⟩) (by assumption) ?_
        rotate_left
        · (intro w hSw; (try dsimp only at hSw); go_simp; try with_reducible rfl)
        simp only [Act.put, List.getElem_toArray, List.getElem_cons_succ, List.getElem_cons_zero, List.setIfInBounds_toArray, List.set_cons_zero, List.set_cons_succ]
        clear hHeld
        refine wpAnyH_done (by kernel_rfl) ?_ _
        refine qn_last rfl (by rfl) ?_
        have cB : u10.cell? ⟨M, 0, none⟩ = some (.slice A n c) := CM5 u10 B10.out
        have fB : u10.frozen? ⟨M, 0, none⟩ = false := bl_free (bl_keep D5.out.blk (B10.out.block M (bl_lt D5.out.blk))) 0
        go_simp
        clear cB fB
        go_wp2
        go_meet
        case rel => exact ⟨A10, c10, u10, rfl, B10.out, O10.out⟩
    case rest =>
      rename World => wc
      obtain ⟨A3, c3, u3, e3, hb3, ho3⟩ := hcut
      have DN := doc_new D5.out S5.out F5.out hb3 ho3
      rw [← e3] at DN
      have W5 : Hid (∀ q, q < w5.heap.size → q ≠ M → wc.heap[q]? = w5.heap[q]?) := Lib.hid fun q hq hne => by rw [e3]; exact (heap_set1 _ _ _ hne).trans (hb3.block q hq)
      have ZC : Hid (w5.heap.size ≤ wc.heap.size) := Lib.hid (by rw [e3, World.size_setCell]; exact hb3.size)
      have DN := Lib.hid DN
      clear e3 hb3 ho3 CM5 PB5
      have c0 := DN.out.1.c0
      have wn : wrap64 (n : Int) = (n : Int) := by have := H8.out; unfold wrap64; omega
      go_wp2
      go_ret2
      refine ⟨congrArg (fun z => Ending.returned (.tuple #[.int .i64 z, .int .i64 0])) wn, A3, n + 1, c3, ys ++ [nx], DN.out.1, by rw [List.map_append, List.map_cons, List.map_nil, NXC.out], fun e => (by cases e), H8.out, fun q e => .inr (Nat.le_trans S5.out (DN.out.2.2 q e)), DN.out.2.1, fun y hy => ?_⟩
      rcases List.mem_append.1 hy with hy | hy
      · exact .inl hy
      · rw [List.mem_singleton.1 hy]
        refine .inr ?_
        obtain ⟨r1, r2, r3, r4⟩ := NXR.out
        have rk : RfAt w5 (fun q => q < w.heap.size ∨ q = M ∨ onB A3 q) 8 ⟨K2, kn, c2, bvals flat⟩ := by
          have h1 := HKN.out
          have := rf_own OK5.out (bvals_one flat) (by omega) (fun q => q < w1.heap.size) (fun q h => h)
          refine ⟨this.src, this.cap, this.big, fun a' ha => ⟨(this.pl a' ha).1, (this.pl a' ha).2.1, ?_⟩, this.nil⟩
          have g1 := (this.pl a' ha).2.1
          have g2 := (this.pl a' ha).2.2
          have g3 := NW1.out
          have g4 := HN.out
          have g5 := MN.out
          rintro (e | e | e)
          · exact g2 (by omega)
          · exact g2 (by omega)
          · have := DN.out.2.2 _ e
            omega
        have rk2 : RfAt wc (fun q => q < w.heap.size ∨ q = M ∨ onB A3 q) 8 ⟨K2, kn, c2, bvals flat⟩ := rk.keep ZC.out (fun q hq hne => W5.out q hq fun e => hne (.inr (.inl e))) fun _ _ h => h
        exact ⟨by rw [r1]; exact rk2, by rw [r2]; exact rf0_at _ _ _, by rw [r3]; exact rf0_at _ _ _, by rw [r4]; exact rf0_at _ _ _⟩
end Go.Proofs.Ytmcmdpbdipgahaa

/-
  A registry and the document's: made, set as ceased, copied.
-/
namespace Go.Proofs.Ytmcmdpbdipgahaa
open Go.RowKit Go.Maps
set_option maxRecDepth 100000
theorem DJ.notP {N : Nat} {w0 w : World} {S : Nat} {m : Option Nat} {M : Nat} {A : Option Addr} {n c : Nat} {cs ds : List Con} {q : Nat} {l : Array Value} {T : TypeId} (h : DJ N w0 w S m M A n c cs ds) (hq : w.heap[q]? = some (.cells l T (0, 0))) (h1 : T ≠ 76) (h2 : T ≠ 29) (h3 : T ≠ 57) : ¬ apP S m M A q := by
  obtain ⟨xs, r, _, _⟩ := h.reg
  obtain ⟨ys, d, _, _⟩ := h.doc
  rintro (e | rfl | ⟨o, e⟩)
  · exact notP_cells r hq h1 e
  · have hb := d.blk
    unfold BL at hb
    rw [hq] at hb
    exact h2 (Obj.cells.inj (Option.some.inj hb)).2.1
  · by_cases h0 : n = 0
    · rw [h.nil h0] at e; cases e
    · obtain ⟨cs', hc⟩ := d.soft q o e h0
      rw [hq] at hc
      exact h3 (Obj.cells.inj (Option.some.inj hc)).2.1
theorem djCreate {N : Nat} {w0 w : World} {S : Nat} {m : Option Nat} {M : Nat} {A : Option Addr} {n c : Nat} {cs ds : List Con} (h : DJ N w0 w S m M A n c cs ds) (hl : cs.length ≤ 8) (a b cc : Int) (K : Option Addr) (kn cap : Nat) (flat : List Int) (ht : Int) (hs : Src w K (8 * kn) flat) (hc : kn ≤ cap) (hc2 : cap ≤ maxLen) :
    Calls Try.prog 12 #[.pointer (some ⟨S, 0, none⟩), .agg #[.int .i64 a, .int .i64 b, .int .i64 cc, .slice K kn cap], .int .i64 ht] w fun e w' => e = .returned (.tuple #[.int .i64 (creC cs (mayP (at8 flat) kn a b cc) (con0 a b cc kn flat ht)).2.1, .int .i64 (creC cs (mayP (at8 flat) kn a b cc) (con0 a b cc kn flat ht)).2.2]) ∧ ∃ m', DJ N w0 w' S m' M A n c (creC cs (mayP (at8 flat) kn a b cc) (con0 a b cc kn flat ht)).1 ds ∧ Fr w w' (isP S m) := by
  obtain ⟨xs, h1, rfl, h3⟩ := h.reg
  rw [List.length_map] at hl
  refine (kCreate2 S m xs a b cc K kn cap flat ht w h1 hl hs hc hc2).mono ?_
  rintro e w' ⟨r, m', rfl, rfl, ⟨xs', r1, r2, r3⟩, r4, r5⟩
  exact ⟨rfl, m', by rw [← r2]; exact (h.regStep h1 h3 r1 r3 r4 r5).1, r5⟩
theorem djCreateD {N : Nat} {w0 w : World} {S : Nat} {m : Option Nat} {M : Nat} {A : Option Addr} {n c : Nat} {cs ds : List Con} (h : DJ N w0 w S m M A n c cs ds) (a b cc : Int) (K : Option Addr) (kn cap : Nat) (flat : List Int) (ht : Int) (hs : Src w K (8 * kn) flat) (hc : kn ≤ cap) (hc2 : cap ≤ maxLen) :
    Calls Try.prog 13 #[.pointer (some ⟨M, 0, none⟩), .agg #[.int .i64 a, .int .i64 b, .int .i64 cc, .slice K kn cap], .int .i64 ht] w fun e w' => e = .returned (.tuple #[.int .i64 (creC ds (mayP (at8 flat) kn a b cc) (con0 a b cc kn flat ht)).2.1, .int .i64 (creC ds (mayP (at8 flat) kn a b cc) (con0 a b cc kn flat ht)).2.2]) ∧ ∃ A' n' c', DJ N w0 w' S m M A' n' c' cs (creC ds (mayP (at8 flat) kn a b cc) (con0 a b cc kn flat ht)).1 ∧ Fr w w' (fun q => q = M) := by
  obtain ⟨ys, d1, rfl, d3⟩ := h.doc
  have hlt : ∀ q, isP S m q → q < w.heap.size := fun q hq => h.ltP q (.inl hq)
  refine (dCreate M A n c ys a b cc K kn cap flat ht w d1 h.nil h.len hs hc hc2).mono ?_
  rintro e w' ⟨rfl, A', n', c', ys', r1, r2, r3, r4, r5, r6, r7⟩
  refine ⟨rfl, A', n', c', ?_, r6⟩
  rw [← r2]
  exact h.docStep d1 d3 r1 r3 r4 (fun y hy => (r7 y hy).imp (fun g => ⟨y, g, rfl, rfl, rfl, rfl⟩) fun g => g.weakF fun q _ e => e.elim (fun e => .inl (hlt q e)) fun e => .inr e) r5 (r6.mono fun q e => .inl e)
theorem cre_len (cs : List Con) (ok : Bool) (c : Con) (h : cs.length ≤ 8) : (creC cs ok c).1.length ≤ 8 := by
  unfold creC
  split
  · exact h
  · split
    · exact h
    · rw [List.length_append, List.length_singleton]; omega
def rw14 : Rf := ⟨none, 2, 2, [.int .i64 1, .int .i64 4]⟩
/-- a record that is set as ceased -/
def ceC (c : Con) : Con := ({ c.1 with ce := true, at' := 9 }, c.2.1, c.2.2.1, c.2.2.2.1, (2, [.int .i64 1, .int .i64 4]))
def Sm.ceased (x : Sm) (r : Rf) : Sm := ⟨{ x.s with ce := true, at' := 9 }, x.K, x.O, x.G, r⟩
theorem ceased_con (x : Sm) (G : Nat) : (x.ceased ⟨some ⟨G, 0, none⟩, 2, 2, [.int .i64 1, .int .i64 4]⟩).con = ceC x.con := rfl
theorem sd_ceased (x : Sm) (r : Rf) : (((sdV x).set 9 (.bool true)).set 10 (.int .i64 9)).set 41 (.slice r.A r.n r.c) = sdV (x.ceased r) := rfl
theorem good_ce {c : Con} (h : simC c ∧ okC c) : simC (ceC c) ∧ okC (ceC c) := ⟨⟨h.1.1, h.1.2.1, h.1.2.2.1, [1, 4], rfl⟩, h.2⟩
theorem one14 : ∀ u ∈ [Value.int .i64 1, Value.int .i64 4], u.oneCell' = true := by decide
theorem rf_14 {w : World} {P : Nat → Prop} {G : Nat} {T : TypeId} (h : BL w G [.int .i64 1, .int .i64 4] T) (hp : ¬ P G) : RfAt w P 1 ⟨some ⟨G, 0, none⟩, 2, 2, [.int .i64 1, .int .i64 4]⟩ :=
  ⟨⟨rfl, one14, .inr ⟨G, 0, rfl, bl_lt h, range_of h⟩⟩, Nat.le_refl _, (show (2 : Nat) ≤ 100 by decide), fun a ha => by cases ha; exact ⟨rfl, bl_lt h, hp⟩, fun e => by cases e⟩
/-- Set of a record that is there -/
theorem djSet {N : Nat} {w0 w : World} {S : Nat} {m : Option Nat} {M : Nat} {A : Option Addr} {n c : Nat} {cs ds : List Con} (h : DJ N w0 w S m M A n c cs ds) (hl : cs.length ≤ 8) (i : Nat) (hi : i < cs.length) (x : Sm) (hx : SdAt w (apP S m M A) x) :
    Calls Try.prog 17 #[.pointer (some ⟨S, 0, none⟩), .int .i64 i, .agg (sdV x).toArray] w fun e w' => e = .returned (.bool true) ∧ ∃ m', DJ N w0 w' S m' M A n c (putS cs i x.con) ds ∧ Fr w w' (isP S m) := by
  obtain ⟨xs, h1, rfl, h3⟩ := h.reg
  rw [List.length_map] at hl hi
  refine (rSetYes S m xs i x w h1 (by omega) hi (hx.weakF fun q _ e => .inl e)).mono ?_
  rintro e w' ⟨rfl, m', x', r1, r2, r3, r4, r5⟩
  refine ⟨rfl, m', ?_, r4⟩
  have := (h.regStep h1 h3 r2 (fun y hy => (putS_mem hy).imp id fun e => by rw [e]; exact r5) r3 r4).1
  rw [putS_map, r1] at this
  exact this
theorem djSide {N : Nat} {w0 w : World} {S : Nat} {m : Option Nat} {M : Nat} {A : Option Addr} {n c : Nat} {cs ds : List Con} (h : DJ N w0 w S m M A n c cs ds) (i : Int) (hi : wfI i) :
    Calls Try.prog 16 #[.pointer (some ⟨S, 0, none⟩), .int .i64 i] w fun e w' => ∃ x', e = .returned (.tuple #[.agg (sdV x').toArray, .bool (decide (0 ≤ i ∧ i < cs.length))]) ∧ (0 ≤ i ∧ i < cs.length → x'.con = cs.getD i.toNat con00) ∧ SdAt w' (fun q => q < w.heap.size) x' ∧ Below w.heap.size w w' := by
  obtain ⟨xs, h1, rfl, h3⟩ := h.reg
  rw [List.length_map]
  refine (rSide S m xs i w h1 hi).mono ?_
  rintro e w' ⟨x', rfl, k1, k2, k3⟩
  refine ⟨x', rfl, fun g => ?_, k2, k3⟩
  rw [k1, getD_con]
  unfold atS
  rw [if_pos g]
/-- the document's row is written -/
theorem djPutD {N : Nat} {w0 w : World} {S : Nat} {m : Option Nat} {M : Nat} {b ob : Nat} {n c : Nat} {cs ds : List Con} (h : DJ N w0 w S m M (some ⟨b, ob, none⟩) n c cs ds) (i : Nat) (hi : i < n) (x : Sm) (hx : SdAt w (apP S m M (some ⟨b, ob, none⟩)) x) : w.there b (ob + i * 42) 42 ∧ DJ N w0 (w.setCells b (ob + i * 42) (sdV x)) S m M (some ⟨b, ob, none⟩) n c cs (putS ds i x.con) := by
  obtain ⟨ys, d1, rfl, d3⟩ := h.doc
  obtain ⟨csb, hcs⟩ := d1.soft b ob rfl (by omega)
  have ht : w.there b (ob + i * 42) 42 := fun j hj => by
    obtain ⟨b', o', e, hl, hr⟩ := d1.row.resolve_left (by omega)
    cases e
    exact ⟨(hr i hi).isSome j (by rw [sd_len]; exact hj), free_of hcs _⟩
  refine ⟨ht, ?_⟩
  have hf := fr_cellsF w b (ob + i * 42) (sdV x)
  have hf2 : Fr w (w.setCells b (ob + i * 42) (sdV x)) (fun q => q = M ∨ onB (some ⟨b, ob, none⟩) q) := hf.mono fun q e => .inr ⟨ob, by rw [e]⟩
  have hlen : i < ys.length := by rw [d1.len]; exact hi
  have hset : putS (ys.map Sm.con) i x.con = (ys.set i x).map Sm.con := by
    unfold putS
    rw [if_pos (by rw [List.length_map]; exact hlen), List.map_set]
  rw [hset]
  refine h.docStep d1 d3 (doc_put d1 hi ht) h.nil h.len (fun y hy => ?_) (fun q e => .inl e) hf2
  rcases List.mem_or_eq_of_mem_set hy with hy | rfl
  · exact .inl ⟨y, hy, rfl, rfl, rfl, rfl⟩
  · exact .inr (hx.keep hf.size (fun q hq hn => hf.block q hq fun e => hn (.inr (.inr ⟨ob, by rw [e]⟩))) fun _ _ h => h)
/-- the document's row, as others read it -/
theorem DJ.rowD {N : Nat} {w0 w : World} {S : Nat} {m : Option Nat} {M : Nat} {A : Option Addr} {n c : Nat} {cs ds : List Con} (h : DJ N w0 w S m M A n c cs ds) (i : Nat) (hi : i < n) : ∃ b o y, A = some ⟨b, o, none⟩ ∧ y.con = ds.getD i con00 ∧ SdAt w (apP S m M A) y ∧ b < w.heap.size ∧ w.rangeAt b (o + i * 42) (sdV y) := by
  obtain ⟨ys, d1, rfl, d3⟩ := h.doc
  obtain ⟨b, o, e, hl, hr⟩ := d1.row.resolve_left (by omega)
  have hlen : i < ys.length := by rw [d1.len]; exact hi
  refine ⟨b, o, ys.getD i sm0, e, (getD_con ys i).symm, d3 _ ?_, hl, hr i hi⟩
  rw [List.getD_eq_getElem?_getD, List.getElem?_eq_getElem hlen]
  exact List.getElem_mem _
theorem DJ.c0 {N : Nat} {w0 w : World} {S : Nat} {m : Option Nat} {M : Nat} {A : Option Addr} {n c : Nat} {cs ds : List Con} (h : DJ N w0 w S m M A n c cs ds) : w.cell? ⟨M, 0, none⟩ = some (.slice A n c) := by
  obtain ⟨ys, d1, _, _⟩ := h.doc
  exact d1.c0
/- copies -/
def laysC_ren : Go.Shelf.Ren := ⟨fun | 5 => 40 | 7 => 54 | n => n, fun | 4 => 4 | 20 => 20 | 23 => 74 | 25 => 3 | 3 => 53 | n => n, fun | n => n⟩
theorem laysC : Go.Proofs.SlLaysW.n5 Try.prog laysC_ren := {
  mixed := by kernel_rfl
  f5 := ⟨"maps.Clone[map[int]drawbridge/registry.Side,int,drawbridge/registry.Side]", by kernel_rfl, Try.func40.trans (congrArg some (by kernel_rfl))⟩
  f7 := Try.func54.trans (congrArg some (by kernel_rfl))
  t4 := Try.underlying4
  a4 := Try.isAgg4
  z4 := Try.sizeOf4
  v4 := Try.zeroValue4
  t20 := Try.underlying20
  a20 := Try.isAgg20
  z20 := Try.sizeOf20
  v20 := Try.zeroValue20
  t23 := Try.underlying74
  a23 := Try.isAgg74
  z23 := Try.sizeOf74
  v23 := Try.zeroValue74 }
theorem cloneM (m : Option Nat) (xs : List Sm) (w : World) (h : mapOkV w xs m) :
    Calls Try.prog 40 #[.map m] w fun e w' => ∃ m', e = .returned (.map m') ∧ mapOkV w' xs m' ∧ Below w.heap.size w w' ∧ ∀ b, m' = some b → w.heap.size ≤ b := by
  cases m with
  | none =>
    refine (AnyW.maps_Clone_nil laysC w).mono ?_
    rintro e w' ⟨rfl, rfl⟩
    exact ⟨none, rfl, h, Below.refl _ _, fun b e => (by cases e)⟩
  | some b =>
    obtain ⟨D, h1, h2⟩ := h
    refine (AnyW.maps_Clone_owns laysC 3 (plR 42) b xs.length D w h1).mono ?_
    rintro e w' ⟨rfl, r1, r2, r3⟩
    exact ⟨some w.heap.size, rfl, ⟨D, r1, h2⟩, r3, fun b e => (by cases e; exact Nat.le_refl _)⟩
set_option maxHeartbeats 4000000 in
theorem kCopy (S : Nat) (m : Option Nat) (xs : List Sm) (w : World) (h : RegM w S m xs) :
    Calls Try.prog 18 #[.pointer (some ⟨S, 0, none⟩)] w fun e w' => ∃ S' m', e = .returned (.pointer (some ⟨S', 0, none⟩)) ∧ RegM w' S' m' xs ∧ Below w.heap.size w w' ∧ ∀ q, isP S' m' q → w.heap.size ≤ q := by
  have c0 := h.c0
  obtain ⟨Z, hZ⟩ : ∃ Z, w.heap.size = Z := ⟨_, rfl⟩
  have HZ := Lib.hid hZ
  have CC := Lib.hid (cloneM m xs w h.map)
  have HR := Lib.hid h
  clear h hZ
  go_enter Try.func18, Try.ntmps18
  go_wp2_with (first
    | (go_at_call 40; refine CC.out.mono ?_; clear CC; rintro e w1 ⟨m', rfl, k1, k2, k3⟩; have K1 := Lib.hid k1; have K2 := Lib.hid k2; have K3 := Lib.hid k3; clear k1 k2 k3)
    | fail)
  go_ret
  have b1 := below_alloc0 w1 (Obj.cells #[Value.map m'] 76)
  have hz1 := K2.out.size
  have lo : ∀ q, isP w1.heap.size m' q → w.heap.size ≤ q := by
    rintro q (rfl | e)
    · exact hz1
    · exact K3.out q e
  refine ⟨w1.heap.size, m', rfl, ⟨heap_alloc_last w1 _, K1.out.keep fun b e => b1.block b ?_, fun x hx => ?_⟩, K2.out.trans (b1.mono hz1), lo⟩
  · subst e
    exact MapV.lt K1.out
  · exact ((HR.out.rows x hx).old rfl (K2.out.trans (b1.mono hz1))).weakF fun q _ hq => lo q hq
/-- a copy is gone on with; the old one may go its own way -/
theorem djCopy {N : Nat} {w0 w : World} {S : Nat} {m : Option Nat} {M : Nat} {A : Option Addr} {n c : Nat} {cs ds : List Con} (h : DJ N w0 w S m M A n c cs ds) (hl : cs.length ≤ 8) (hg : goodL cs) (s a k : Int) (o : List Int) (hs : wfI s) (hk : wfI k) :
    Calls Try.prog 18 #[.pointer (some ⟨S, 0, none⟩)] w fun e w' => ∃ S' m', e = .returned (.pointer (some ⟨S', 0, none⟩)) ∧ DJ N w0 w' S' m' M A n c cs ds ∧ Below w.heap.size w w' ∧
      ∀ w2, Below w'.heap.size w' w2 → Calls Try.prog 14 #[.pointer (some ⟨S, 0, none⟩), .agg (fwV s a o k).toArray] w2 fun e w3 => (∃ r, e = .returned (.int .i64 r)) ∧ DJ N w0 w3 S' m' M A n c cs ds := by
  obtain ⟨xs, h1, rfl, h3⟩ := h.reg
  obtain ⟨ys, d1, d2, d3⟩ := h.doc
  rw [List.length_map] at hl
  have hn := DocAt.notP h1 d1 h.nil
  have hlt := d1.lt h.nil
  refine (kCopy S m xs w h1).mono ?_
  rintro e w' ⟨S', m', rfl, k1, k2, k3⟩
  have rows : ∀ w2, Below w.heap.size w w2 → ∀ x, SdAt w (apP S m M A) x → SdAt w2 (fun q => apP S m M A q ∨ w.heap.size ≤ q) x := fun w2 hb x hx => (hx.grow hb).bothF (hx.old rfl hb)
  have lo : ∀ q, apP S' m' M A q → N ≤ q := by
    rintro q (e | e)
    · exact Nat.le_trans h.sz (k3 q e)
    · exact h.lo q (.inr e)
  have up : ∀ q, apP S' m' M A q → apP S m M A q ∨ w.heap.size ≤ q := by
    rintro q (e | e)
    · exact .inr (k3 q e)
    · exact .inl (.inr e)
  refine ⟨S', m', rfl, ⟨⟨xs, k1, rfl, fun x hx => (rows w' k2 x (h3 x hx)).weakF fun q _ e => up q e⟩, ⟨ys, d1.grow k2, d2, fun y hy => (rows w' k2 y (d3 y hy)).weakF fun q _ e => up q e⟩, h.bel.trans (k2.mono h.sz), lo, Nat.le_trans h.sz k2.size, h.nil, h.len⟩, k2, fun w2 hb => ?_⟩
  have hb2 : Below w.heap.size w w2 := k2.trans (hb.mono k2.size)
  refine (kForward2 S m xs s a k o w2 (h1.grow hb2) (by omega) hs hk fun c hc => (hg c hc).2).mono ?_
  rintro e w3 ⟨r, m3, rfl, rfl, _, _, hf⟩
  refine ⟨⟨_, rfl⟩, ⟨xs, ?_, rfl, fun x hx => ?_⟩, ⟨ys, ?_, d2, fun y hy => ?_⟩, ?_, lo, ?_, h.nil, h.len⟩
  · refine (k1.grow hb).keep hf (fun q hq hp => ?_) fun x hx => (rows w2 hb2 x (h3 x hx)).weakF ?_
    · have := k3 q hq; have := h1.lt q hp; omega
    · rintro q _ (e | e)
      · exact .inr (k3 q e)
      · exact .inl (.inl e)
  · exact (rows w2 hb2 x (h3 x hx)).keep hf.size (fun q hq hn' => hf.block q hq fun e => hn' (.inl (.inl e))) fun q _ e => up q e
  · exact (d1.grow hb2).keep h.nil hf.size fun q hq => hf.block q (Nat.lt_of_lt_of_le (hlt q hq) hb2.size) fun e => hn q e hq
  · exact (rows w2 hb2 y (d3 y hy)).keep hf.size (fun q hq hn' => hf.block q hq fun e => hn' (.inl (.inl e))) fun q _ e => up q e
  · exact (h.bel.trans (hb2.mono h.sz)).trans (hf.below (Nat.le_trans h.sz hb2.size) fun q hq => h.lo q (.inl hq))
  · exact Nat.le_trans h.sz (Nat.le_trans hb2.size hf.size)
theorem djCopy1 {N : Nat} {w0 w : World} {S : Nat} {m : Option Nat} {M : Nat} {A : Option Addr} {n c : Nat} {cs ds : List Con} (h : DJ N w0 w S m M A n c cs ds) (hl : cs.length ≤ 8) (hg : goodL cs) :
    Calls Try.prog 18 #[.pointer (some ⟨S, 0, none⟩)] w fun e w' => ∃ S' m', e = .returned (.pointer (some ⟨S', 0, none⟩)) ∧ DJ N w0 w' S' m' M A n c cs ds ∧ Below w.heap.size w w' ∧
      ∀ w2, Below w'.heap.size w' w2 → Calls Try.prog 14 #[.pointer (some ⟨S, 0, none⟩), .agg #[.int .i64 0, .int .i64 1, .int .u8 1, .int .u8 0, .int .u8 0, .int .u8 0, .int .u8 0, .int .u8 0, .int .u8 0, .int .u8 0, .int .i64 1]] w2 fun e w3 => (∃ r, e = .returned (.int .i64 r)) ∧ DJ N w0 w3 S' m' M A n c cs ds :=
  djCopy h hl hg 0 1 1 [1, 0, 0, 0, 0, 0, 0, 0] (by unfold wfI; decide) (by unfold wfI; decide)
theorem and255 (n : Int) : bits .and .i64 n 255 = n % 256 := by
  have h255 : (BitVec.ofInt 64 255).toNat = 2 ^ 8 - 1 := by decide
  have key : (BitVec.ofInt 64 n &&& BitVec.ofInt 64 255).toNat = (n % ((2 ^ 64 : Nat) : Int)).toNat % 2 ^ 8 := by
    rw [BitVec.toNat_and, BitVec.toNat_ofInt, h255, Nat.and_two_pow_sub_one_eq_mod]
  show IntKind.i64.wrap ((BitVec.ofInt 64 n &&& BitVec.ofInt 64 255).toNat : Nat) = n % 256
  rw [key, IntKind.wrap_i64]
  omega
theorem and3 (n : Int) : bits .and .i64 n 3 = n % 4 := by
  have h3 : (BitVec.ofInt 64 3).toNat = 2 ^ 2 - 1 := by decide
  have key : (BitVec.ofInt 64 n &&& BitVec.ofInt 64 3).toNat = (n % ((2 ^ 64 : Nat) : Int)).toNat % 2 ^ 2 := by
    rw [BitVec.toNat_and, BitVec.toNat_ofInt, h3, Nat.and_two_pow_sub_one_eq_mod]
  show IntKind.i64.wrap ((BitVec.ofInt 64 n &&& BitVec.ofInt 64 3).toNat : Nat) = n % 4
  rw [key, IntKind.wrap_i64]
  omega
/-- a registry that was just made, the document's beside -/
theorem DJ.start {N S : Nat} {w0 w1 w2 : World} (hS : w1.heap.size = S) (h1 : Below N w0 w1) (hN : N ≤ S) (hr : RegM w2 S none []) (hb : Below S w1 w2) : DJ N w0 (w2.alloc (Obj.cells #[Value.slice none 0 0] 29)) S none w2.heap.size none 0 0 [] [] := by
  have b := below_alloc0 w2 (Obj.cells #[Value.slice none 0 0] 29)
  have hs2 := hr.lt S (.inl rfl)
  refine ⟨⟨[], hr.grow b, rfl, fun x hx => by cases hx⟩, ⟨[], ⟨heap_alloc_last w2 _, rfl, Nat.le_refl _, .inl rfl, fun b o e => by cases e⟩, rfl, fun y hy => by cases hy⟩, (h1.trans (hb.mono hN)).trans (b.mono (by omega)), ?_, ?_, fun _ => rfl, by decide⟩
  · rintro q ((rfl | e) | rfl | ⟨o, e⟩)
    · exact hN
    · cases e
    · omega
    · cases e
  · have := b.size; omega
theorem ddV_one (d : Dd13) : ∀ u ∈ ddV d, u.oneCell' = true := by
  intro u hu
  obtain ⟨a, b, c, s, p, o, k⟩ := d
  unfold ddV fdV fwV at hu
  simp only [List.cons_append, List.nil_append, List.mem_cons, List.not_mem_nil, or_false] at hu
  rcases hu with rfl | rfl | rfl | rfl | rfl | rfl | rfl | rfl | rfl | rfl | rfl | rfl | rfl | rfl <;> rfl
theorem sz35 : (Try.prog.info? 35).map (·.size) = some 14 := by kernel_rfl
theorem z35 (w : World) : (zeroValue 35).run Try.prog w = .ok (.agg (ddV dd0).toArray) w := by kernel_rfl
theorem dd_c0 {w : World} {b : Nat} {d : Dd13} {T : TypeId} (h : BL w b (ddV d) T) : w.cell? ⟨b, 0, none⟩ = some (.int .i64 d.d) ∧ w.cell? ⟨b, 1, none⟩ = some (.int .i64 d.n) ∧ w.cell? ⟨b, 2, none⟩ = some (.int .i64 d.m) := by
  have r := range_of h
  have h0 := r 0 _ rfl
  have h1 := r 1 _ rfl
  have h2 := r 2 _ rfl
  rw [Nat.zero_add] at h0 h1 h2
  exact ⟨h0, h1, h2⟩
theorem dd_fw {w : World} {b : Nat} {d : Dd13} {T : TypeId} (h : BL w b (ddV d) T) : w.rangeAt b 3 (fdV d.f) := by
  have r := range_of h
  have e : ddV d = [Value.int .i64 d.d, .int .i64 d.n, .int .i64 d.m] ++ fdV d.f := rfl
  rw [e] at r
  exact (range_app r).2
theorem dd_0 (d : Dd13) : (ddV d)[0]? = some (.int .i64 d.d) := rfl
end Go.Proofs.Ytmcmdpbdipgahaa
