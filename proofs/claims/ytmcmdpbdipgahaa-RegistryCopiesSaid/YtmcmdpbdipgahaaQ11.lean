/-
  Made: so many certifiers.
-/
import Derived.Test.YtmcmdpbdipgahaaQ5
import Derived.Test.YtmcmdpbdipgahaaK7
namespace Go.Proofs.Ytmcmdpbdipgahaa
open Go.RowKit
/-- a certifier's seed, its tree's root -/
def seedL (k : Int) : List Int := [113, IntKind.u8.wrap k, 0, 0, 0, 0, 0, 0]
theorem seedL_len (k : Int) : (seedL k).length = 8 := rfl
def rootS (j : Nat) : List Int := rootL (seedL j)
theorem rootS_len (j : Nat) : (rootS j).length = 8 := rootL_len _
theorem pb_set {w : World} {q : Nat} {a b c : Int} {v : Value} (h : PB w q a b c v) (u : Value) : PB (w.setCell ⟨q, 3, none⟩ u) q a b c u := by
  unfold PB at *
  rw [heap_setCell_same w q 3 _ 38 _ h]
  rfl
theorem pb_infoA (a b c : Int) (v : Value) : (Try.prog.info? 38).map (·.size) = some (#[Value.int .i64 a, .int .i64 b, .int .i64 c, v] : Array Value).size := by kernel_rfl
theorem pb_one (a b c : Int) (A : Option Addr) (n k : Nat) : (#[Value.int .i64 a, .int .i64 b, .int .i64 c, .slice A n k] : Array Value).all (·.oneCell') = true := by simp [Value.oneCell']
theorem z24 (w : World) : (zeroValue 38).run Try.prog w = .ok (.agg #[.int .i64 0, .int .i64 0, .int .i64 0, .slice none 0 0]) w := by kernel_rfl
theorem kSeedL (k : Int) (w : World) : Calls Try.prog 32 #[.int .i64 k] w fun e w' => e = .returned (.agg (ba (seedL k))) ∧ Below w.heap.size w w' := kSeed k _ w rfl
theorem dTreeS (j : Nat) (w : World) (hk : Keys w) : Calls Try.prog 31 #[.agg (ba (seedL j))] w fun e w' => e = .returned (.agg (ba (rootS j))) ∧ Below w.heap.size w w' := dTree (seedL j) w hk (seedL_len j)
theorem rootS_eq (j : Nat) : rootL (seedL j) = rootS j := rfl
theorem own_sameQ {w W : World} {base t k n : Nat} {v : Value} {xs : List Value} (h : w.ownsRow base t k v n xs) (hk : ∀ q, v.ownBlock = some q → W.heap[q]? = w.heap[q]?) : W.ownsRow base t k v n xs := by
  refine ⟨h.1, ?_⟩
  rcases h.2 with h2 | ⟨g, cap, cur, rfl, hb, hg, h3⟩
  · exact .inl h2
  · exact .inr ⟨g, cap, cur, rfl, hb, by rw [hk g rfl]; exact hg, h3⟩
attribute [local irreducible] ua da ba kk sw S8.run rt hs comp splice outB sha msg bvals at8 secM zeros sec keyF marksF mk pubk bt rootF leafH twoH stepsF cutN leadF provL rootV pubF pubs keyL opn sht way gives ckB chkB rootL sg eS fineP mayK win cat opL shL sigL wayP wayL rootS seedL

set_option maxRecDepth 100000 in
set_option maxHeartbeats 8000000 in
/-- Made -/
theorem kMade (n : Nat) (need : Int) (w : World) (hk : Keys w) (hn : n ≤ 8) :
    Calls Try.prog 11 #[.int .i64 n, .int .i64 need] w fun e w' => ∃ A c, e = .returned (.agg #[.int .i64 4, .int .i64 2, .int .i64 need, .slice A n c]) ∧ Src w' A (8 * n) (cat rootS n) ∧ n ≤ c ∧ c ≤ maxLen ∧ Below w.heap.size w w' := by
  have h4 := z24
  have HK := Lib.hid hk
  have HP : Hid (0 < w.heap.size) := keys_pos hk
  obtain ⟨S, hS⟩ : ∃ S, w.heap.size = S := ⟨_, rfl⟩
  have HS := Lib.hid hS
  have KW : Hid (∀ w', Below S w w' → Keys w') := fun w' hb => keys_below HK.out hb (by rw [← HS.out]; exact HP.out)
  have R0 := Lib.hid (pb_new hS 0 0 0 (.slice none 0 0))
  have P1 := Lib.hid (pb_new (size_al hS (Obj.cells #[.int .i64 0, .int .i64 0, .int .i64 0, .slice none 0 0] 38)) 4 2 need (.slice none 0 0))
  have B0 : Hid (Below S w (w.alloc (Obj.cells #[.int .i64 0, .int .i64 0, .int .i64 0, .slice none 0 0] 38))) := by subst hS; exact (Below.refl _ w).alloc (Nat.le_refl _) _
  have B2 : Hid (Below (S + 1) (w.alloc (Obj.cells #[.int .i64 0, .int .i64 0, .int .i64 0, .slice none 0 0] 38)) ((w.alloc (Obj.cells #[.int .i64 0, .int .i64 0, .int .i64 0, .slice none 0 0] 38)).alloc (Obj.cells #[.int .i64 4, .int .i64 2, .int .i64 need, .slice none 0 0] 38))) := (Below.refl _ _).alloc (by rw [size_al hS]; exact Nat.le_refl _) _
  have Z2 : Hid (S + 2 ≤ ((w.alloc (Obj.cells #[.int .i64 0, .int .i64 0, .int .i64 0, .slice none 0 0] 38)).alloc (Obj.cells #[.int .i64 4, .int .i64 2, .int .i64 need, .slice none 0 0] 38)).heap.size) := Nat.le_of_eq (size_al (size_al hS _) _).symm
  have C20 : Hid (∀ (j : Nat) (w' : World), Calls Try.prog 32 #[.int .i64 j] w' fun e w'' => e = .returned (.agg (ba (seedL j))) ∧ Below w'.heap.size w' w'') := fun j w' => kSeedL j w'
  have C19A : Hid (∀ (j : Nat) (w' : World), Below S w w' → Calls Try.prog 31 #[.agg (ba (seedL j))] w' fun e w'' => e = .returned (.agg (ba (rootS j))) ∧ Below w'.heap.size w' w'') := fun j w' hb => dTreeS j w' (KW.out w' hb)
  clear hk
  go_enter Try.func11, Try.ntmps11
  go_wp2_with fail
  clear hS
  generalize ((w.alloc (Obj.cells #[.int .i64 0, .int .i64 0, .int .i64 0, .slice none 0 0] 38)).alloc (Obj.cells #[.int .i64 4, .int .i64 2, .int .i64 need, .slice none 0 0] 38)) = w2 at *
  generalize (w.alloc (Obj.cells #[.int .i64 0, .int .i64 0, .int .i64 0, .slice none 0 0] 38)) = w1 at *
  go_loopw [6] (fun i wr => ∃ (k : Nat) (A : Option Addr) (c : Nat), k ≤ n ∧ i = .int .i64 k ∧ PB wr (S + 1) 4 2 need (.slice A k c) ∧ wr.ownsRow (S + 2) 31 8 (.slice A k c) k (bvals (cat rootS k)) ∧ Below (S + 1) w1 wr ∧ S + 2 ≤ wr.heap.size) (fun i _ => n - (intOf i).toNat)
  case atStart => exact ⟨0, none, 0, Nat.zero_le _, rfl, P1.out, by rw [cat_zero]; exact own8_nil _ _, B2.out, Z2.out⟩
  case round =>
    clear P1 B2 Z2
    obtain ⟨k, A, c, hkn, rfl, hp, ho, hb, hz⟩ := hrel
    have PR := Lib.hid hp
    have OR := Lib.hid ho
    have BR := Lib.hid hb
    have ZR := Lib.hid hz
    clear hp ho hb hz
    by_cases hlt : k < n
    · have s0 : (0 : Int) ≤ (k : Int) := by omega
      have s1 : (k : Int) < (n : Int) := by omega
      have s2 : (k : Int) < 8 := by omega
      have HKN := Lib.hid hlt
      have HK8 : Hid (k < 8) := by show _ < _; omega
      obtain ⟨v, hv⟩ : ∃ v, Value.slice A k c = v := ⟨_, rfl⟩
      rw [hv] at PR OR
      obtain ⟨y, hy⟩ : ∃ y, rootS k = y := ⟨_, rfl⟩
      have LY : Hid (y.length = 8) := by rw [← hy]; exact rootS_len k
      have HC : Hid (cat rootS (k + 1) = cat rootS k ++ y) := by show _ = _; rw [cat_succ, hy]
      have C19 : Hid (∀ (w' : World), Below S w w' → Calls Try.prog 31 #[.agg (ba (seedL k))] w' fun e w'' => e = .returned (.agg (ba y)) ∧ Below w'.heap.size w' w'') := fun w' hb => by rw [← hy]; exact C19A.out k w' hb
      clear hv hy
      go_wp2_with fail
      generalize wr = wB at *
      obtain ⟨M, hM⟩ : ∃ M, wB.heap.size = M := ⟨_, rfl⟩
      have WN : Hid (wB.heap.size = M) := hM
      have LM : Hid (S + 2 ≤ M) := by show _ ≤ _; rw [← hM]; exact ZR.out
      have KN : Hid (∀ w', Below M wB w' → Below S w w') := fun w' hb => B0.out.trans ((BR.out.trans (hb.mono (by have := LM.out; omega))).mono (by omega))
      clear hM hlt hkn
      refine wp_region_held_drew (S := (fun w' : World => True)) (by kernel_rfl) trivial (fun hHeld => ?_)
      refine wpAnyH_take (i := 0) (v := ?_) rfl (by kernel_rfl) (by kernel_rfl) (by kernel_rfl) (fun _ _ _ h => h) (Or.inl ⟨by rfl, ?_⟩) (by assumption) ?_
      rotate_left
      · (intro w hSw; (try dsimp only at hSw); go_simp; try with_reducible rfl)
      simp only [Act.put, List.getElem_toArray, List.getElem_cons_zero, List.setIfInBounds_toArray, List.set_cons_zero, List.set_cons_succ]
      refine wpAnyH_take (i := 2) (v := ?_) rfl (by kernel_rfl) (by kernel_rfl) (by kernel_rfl) (fun _ _ _ h => h) (Or.inl ⟨by rfl, ?_⟩) (by assumption) ?_
      rotate_left
      · (intro w hSw; (try dsimp only at hSw); go_simp; try with_reducible rfl)
      simp only [Act.put, List.getElem_toArray, List.getElem_cons_succ, List.getElem_cons_zero, List.setIfInBounds_toArray, List.set_cons_zero, List.set_cons_succ]
      have XX : Hid (Below M wB wB.drew) := (Below.refl _ _).drew
      have P7 : Hid (PB wB.drew (S + 1) 4 2 need v) := PR.out
      have O7 : Hid (wB.drew.ownsRow (S + 2) 31 8 v k (bvals (cat rootS k))) := own8_keepB OR.out (Below.refl _ _).drew
      clear hHeld
      generalize wB.drew = wc at *
      refine wpAnyH_ready (rs := [1, 3]) (by kernel_rfl) (by simp) ?_
      refine AllReadyH.cons rfl (fun Kq hKq => ?_) (AllReadyH.cons rfl (fun Kq hKq => ?_) AllReadyH.nil)
      · obtain ⟨c0, c1, c2, c3⟩ := pb_cells P7.out
        go_simp
        clear c0 c1 c2 c3
        refine hKq.out _ _ trivial (fun _ => ?_)
        clear hKq Kq
        (try simp only [Act.put, List.getElem_toArray, List.getElem_cons_succ, List.getElem_cons_zero, List.setIfInBounds_toArray, List.set_cons_zero, List.set_cons_succ])
        refine wpAnyH_ready (rs := [3]) (by kernel_rfl) (by simp) ?_
        refine AllReadyH.cons rfl (fun Kq hKq => ?_) AllReadyH.nil
        go_simp
        go_at_call 32
        refine (C20.out k _).mono ?_
        rintro e wd ⟨rfl, hba⟩
        have XN : Hid (Below M wB wd) := XX.out.trans (hba.mono (by have := XX.out.size; have := WN.out; omega))
        have PN : Hid (PB wd (S + 1) 4 2 need v) := (hba.block _ (lt_of_block P7.out)).trans P7.out
        have ON : Hid (wd.ownsRow (S + 2) 31 8 v k (bvals (cat rootS k))) := own8_keepB O7.out hba
        clear XX P7 O7 hba
        have XX := XN
        have P7 := PN
        have O7 := ON
        clear XN PN ON
        (try go_wp2_with fail)
        refine hKq.out _ _ trivial (fun _ => ?_)
        clear hKq Kq
        (try simp only [Act.put, List.getElem_toArray, List.getElem_cons_succ, List.getElem_cons_zero, List.setIfInBounds_toArray, List.set_cons_zero, List.set_cons_succ])
        refine wpAnyH_ready (rs := [4]) (by kernel_rfl) (by simp) ?_
        refine AllReadyH.cons rfl (fun Kq hKq => ?_) AllReadyH.nil
        go_simp
        go_at_call 31
        refine (C19.out _ (KN.out _ XX.out)).mono ?_
        rintro e wf ⟨rfl, hba⟩
        have XN : Hid (Below M wB wf) := XX.out.trans (hba.mono (by have := XX.out.size; have := WN.out; omega))
        have PN : Hid (PB wf (S + 1) 4 2 need v) := (hba.block _ (lt_of_block P7.out)).trans P7.out
        have ON : Hid (wf.ownsRow (S + 2) 31 8 v k (bvals (cat rootS k))) := own8_keepB O7.out hba
        clear XX P7 O7 hba
        have XX := XN
        have P7 := PN
        have O7 := ON
        clear XN PN ON
        (try go_wp2_with fail)
        refine hKq.out _ _ trivial (fun _ => ?_)
        clear hKq Kq
        (try simp only [Act.put, List.getElem_toArray, List.getElem_cons_succ, List.getElem_cons_zero, List.setIfInBounds_toArray, List.set_cons_zero, List.set_cons_succ])
        refine wpAnyH_ready (rs := [5]) (by kernel_rfl) (by simp) ?_
        refine AllReadyH.cons rfl (fun Kq hKq => ?_) AllReadyH.nil
        obtain ⟨G, hG⟩ : ∃ G, wf.heap.size = G := ⟨_, rfl⟩
        refine step_bs8 rfl (.tmp 22) rfl y LY.out rfl ?_
        rw [hG]
        have P8 := Lib.hid (ba_new hG y 31)
        have MG : Hid (M ≤ G) := by show _ ≤ _; rw [← hG, ← WN.out]; exact XX.out.size
        have XN : Hid (Below M wB (wf.alloc (Obj.cells (ba y) 31))) := XX.out.alloc (by rw [hG]; exact MG.out) _
        have PN : Hid (PB (wf.alloc (Obj.cells (ba y) 31)) (S + 1) 4 2 need v) := (Below.heap_alloc _ _ _ (lt_of_block P7.out)).trans P7.out
        have ON : Hid ((wf.alloc (Obj.cells (ba y) 31)).ownsRow (S + 2) 31 8 v k (bvals (cat rootS k))) := own8_keepB O7.out ((Below.refl _ _).alloc (Nat.le_refl _) _)
        clear XX P7 O7
        have XX := XN
        have P7 := PN
        have O7 := ON
        clear XN PN ON hG
        generalize wf.alloc (Obj.cells (ba y) 31) = we at *
        refine hKq.out _ _ trivial (fun _ => ?_)
        clear hKq Kq
        simp only [Act.put, List.getElem_toArray, List.getElem_cons_succ, List.getElem_cons_zero, List.setIfInBounds_toArray, List.set_cons_zero, List.set_cons_succ]
        refine wpAnyH_ready (rs := [6]) (by kernel_rfl) (by simp) ?_
        refine AllReadyH.cons rfl (fun Kq hKq => ?_) AllReadyH.nil
        refine step_app8 rfl (.tmp 19) (.tmp 23) rfl (S + 2) k v (cat rootS k) rfl O7.out G 1 y rfl P8.out LY.out (by have := HK8.out; omega) (by have := XX.out.size; have := WN.out; have := LM.out; omega) ?_
        intro A9 c9 w9 hown hg
        rw [← HC.out] at hown
        have NS : some (S + 1) ≠ v.ownBlock := fun e => by have := own8_base O7.out _ e.symm; omega
        have P9 : Hid (PB w9 (S + 1) 4 2 need v) := (hg.block _ (by have := lt_of_block P7.out; omega) NS).trans P7.out
        have O9 : Hid ((w9.setCell ⟨S + 1, 3, none⟩ (.slice A9 (k + 1) c9)).ownsRow (S + 2) 31 8 (.slice A9 (k + 1) c9) (k + 1) (bvals (cat rootS (k + 1)))) := own_sameQ hown (fun q hq => heap_setCell_other w9 ⟨S + 1, 3, none⟩ q _ (by have := own8_base hown q hq; show q ≠ S + 1; omega))
        have Z9 : Hid (S + 2 ≤ (w9.setCell ⟨S + 1, 3, none⟩ (.slice A9 (k + 1) c9)).heap.size) := by show _ ≤ _; rw [World.size_setCell]; have := hg.size; have := XX.out.size; have := WN.out; have := LM.out; omega
        have B9 : Hid (Below (S + 1) w1 (w9.setCell ⟨S + 1, 3, none⟩ (.slice A9 (k + 1) c9))) := ((BR.out.trans (XX.out.mono (by have := LM.out; omega))).grown hg (by have := XX.out.size; have := WN.out; have := LM.out; omega) (fun q hq => by have := own8_base O7.out q hq; omega)).setCell (p := ⟨S + 1, 3, none⟩) (Nat.le_refl _) _
        have Q9 : Hid (PB (w9.setCell ⟨S + 1, 3, none⟩ (.slice A9 (k + 1) c9)) (S + 1) 4 2 need (.slice A9 (k + 1) c9)) := pb_set P9.out _
        have c9' := (pb_cells P9.out).2.2.2
        have f9' : w9.frozen? ⟨S + 1, 3, none⟩ = false := free_of P9.out 3
        clear hown hg NS
        refine hKq.out _ _ trivial (fun _ => ?_)
        clear hKq Kq
        (try simp only [Act.put, List.getElem_toArray, List.getElem_cons_succ, List.getElem_cons_zero, List.setIfInBounds_toArray, List.set_cons_zero, List.set_cons_succ])
        refine wpAnyH_take (i := 7) (v := ?_) rfl (by kernel_rfl) (by kernel_rfl) (by kernel_rfl) (fun _ _ _ h => h) (Or.inl ⟨by rfl, ?_⟩) (by assumption) ?_
        rotate_left
        · (intro w hSw; (try dsimp only at hSw); go_simp; try with_reducible rfl)
        simp only [Act.put, List.getElem_toArray, List.getElem_cons_succ, List.getElem_cons_zero, List.setIfInBounds_toArray, List.set_cons_zero, List.set_cons_succ]
        refine wpAnyH_ready (rs := [8]) (by kernel_rfl) (by simp) ?_
        refine AllReadyH.cons rfl (fun Kq hKq => ?_) AllReadyH.nil
        go_simp
        clear c9' f9'
        refine hKq.out _ _ trivial (fun _ => ?_)
        clear hKq Kq
        (try simp only [Act.put, List.getElem_toArray, List.getElem_cons_succ, List.getElem_cons_zero, List.setIfInBounds_toArray, List.set_cons_zero, List.set_cons_succ])
        refine wpAnyH_done (by kernel_rfl) ?_ _
        go_wp2
        go_roundw
        case rel => exact ⟨k + 1, A9, c9, by have := HKN.out; omega, by go_num, Q9.out, O9.out, B9.out, Z9.out⟩
        case measure => have := HKN.out; simp [intOf]; omega
      · go_simp
        go_at_call 32
        refine (C20.out k _).mono ?_
        rintro e wd ⟨rfl, hba⟩
        have XN : Hid (Below M wB wd) := XX.out.trans (hba.mono (by have := XX.out.size; have := WN.out; omega))
        have PN : Hid (PB wd (S + 1) 4 2 need v) := (hba.block _ (lt_of_block P7.out)).trans P7.out
        have ON : Hid (wd.ownsRow (S + 2) 31 8 v k (bvals (cat rootS k))) := own8_keepB O7.out hba
        clear XX P7 O7 hba
        have XX := XN
        have P7 := PN
        have O7 := ON
        clear XN PN ON
        (try go_wp2_with fail)
        refine hKq.out _ _ trivial (fun _ => ?_)
        clear hKq Kq
        (try simp only [Act.put, List.getElem_toArray, List.getElem_cons_succ, List.getElem_cons_zero, List.setIfInBounds_toArray, List.set_cons_zero, List.set_cons_succ])
        refine wpAnyH_ready (rs := [1, 4]) (by kernel_rfl) (by simp) ?_
        refine AllReadyH.cons rfl (fun Kq hKq => ?_) (AllReadyH.cons rfl (fun Kq hKq => ?_) AllReadyH.nil)
        · obtain ⟨c0, c1, c2, c3⟩ := pb_cells P7.out
          go_simp
          clear c0 c1 c2 c3
          refine hKq.out _ _ trivial (fun _ => ?_)
          clear hKq Kq
          (try simp only [Act.put, List.getElem_toArray, List.getElem_cons_succ, List.getElem_cons_zero, List.setIfInBounds_toArray, List.set_cons_zero, List.set_cons_succ])
          refine wpAnyH_ready (rs := [4]) (by kernel_rfl) (by simp) ?_
          refine AllReadyH.cons rfl (fun Kq hKq => ?_) AllReadyH.nil
          go_simp
          go_at_call 31
          refine (C19.out _ (KN.out _ XX.out)).mono ?_
          rintro e wf ⟨rfl, hba⟩
          have XN : Hid (Below M wB wf) := XX.out.trans (hba.mono (by have := XX.out.size; have := WN.out; omega))
          have PN : Hid (PB wf (S + 1) 4 2 need v) := (hba.block _ (lt_of_block P7.out)).trans P7.out
          have ON : Hid (wf.ownsRow (S + 2) 31 8 v k (bvals (cat rootS k))) := own8_keepB O7.out hba
          clear XX P7 O7 hba
          have XX := XN
          have P7 := PN
          have O7 := ON
          clear XN PN ON
          (try go_wp2_with fail)
          refine hKq.out _ _ trivial (fun _ => ?_)
          clear hKq Kq
          (try simp only [Act.put, List.getElem_toArray, List.getElem_cons_succ, List.getElem_cons_zero, List.setIfInBounds_toArray, List.set_cons_zero, List.set_cons_succ])
          refine wpAnyH_ready (rs := [5]) (by kernel_rfl) (by simp) ?_
          refine AllReadyH.cons rfl (fun Kq hKq => ?_) AllReadyH.nil
          obtain ⟨G, hG⟩ : ∃ G, wf.heap.size = G := ⟨_, rfl⟩
          refine step_bs8 rfl (.tmp 22) rfl y LY.out rfl ?_
          rw [hG]
          have P8 := Lib.hid (ba_new hG y 31)
          have MG : Hid (M ≤ G) := by show _ ≤ _; rw [← hG, ← WN.out]; exact XX.out.size
          have XN : Hid (Below M wB (wf.alloc (Obj.cells (ba y) 31))) := XX.out.alloc (by rw [hG]; exact MG.out) _
          have PN : Hid (PB (wf.alloc (Obj.cells (ba y) 31)) (S + 1) 4 2 need v) := (Below.heap_alloc _ _ _ (lt_of_block P7.out)).trans P7.out
          have ON : Hid ((wf.alloc (Obj.cells (ba y) 31)).ownsRow (S + 2) 31 8 v k (bvals (cat rootS k))) := own8_keepB O7.out ((Below.refl _ _).alloc (Nat.le_refl _) _)
          clear XX P7 O7
          have XX := XN
          have P7 := PN
          have O7 := ON
          clear XN PN ON hG
          generalize wf.alloc (Obj.cells (ba y) 31) = we at *
          refine hKq.out _ _ trivial (fun _ => ?_)
          clear hKq Kq
          simp only [Act.put, List.getElem_toArray, List.getElem_cons_succ, List.getElem_cons_zero, List.setIfInBounds_toArray, List.set_cons_zero, List.set_cons_succ]
          refine wpAnyH_ready (rs := [6]) (by kernel_rfl) (by simp) ?_
          refine AllReadyH.cons rfl (fun Kq hKq => ?_) AllReadyH.nil
          refine step_app8 rfl (.tmp 19) (.tmp 23) rfl (S + 2) k v (cat rootS k) rfl O7.out G 1 y rfl P8.out LY.out (by have := HK8.out; omega) (by have := XX.out.size; have := WN.out; have := LM.out; omega) ?_
          intro A9 c9 w9 hown hg
          rw [← HC.out] at hown
          have NS : some (S + 1) ≠ v.ownBlock := fun e => by have := own8_base O7.out _ e.symm; omega
          have P9 : Hid (PB w9 (S + 1) 4 2 need v) := (hg.block _ (by have := lt_of_block P7.out; omega) NS).trans P7.out
          have O9 : Hid ((w9.setCell ⟨S + 1, 3, none⟩ (.slice A9 (k + 1) c9)).ownsRow (S + 2) 31 8 (.slice A9 (k + 1) c9) (k + 1) (bvals (cat rootS (k + 1)))) := own_sameQ hown (fun q hq => heap_setCell_other w9 ⟨S + 1, 3, none⟩ q _ (by have := own8_base hown q hq; show q ≠ S + 1; omega))
          have Z9 : Hid (S + 2 ≤ (w9.setCell ⟨S + 1, 3, none⟩ (.slice A9 (k + 1) c9)).heap.size) := by show _ ≤ _; rw [World.size_setCell]; have := hg.size; have := XX.out.size; have := WN.out; have := LM.out; omega
          have B9 : Hid (Below (S + 1) w1 (w9.setCell ⟨S + 1, 3, none⟩ (.slice A9 (k + 1) c9))) := ((BR.out.trans (XX.out.mono (by have := LM.out; omega))).grown hg (by have := XX.out.size; have := WN.out; have := LM.out; omega) (fun q hq => by have := own8_base O7.out q hq; omega)).setCell (p := ⟨S + 1, 3, none⟩) (Nat.le_refl _) _
          have Q9 : Hid (PB (w9.setCell ⟨S + 1, 3, none⟩ (.slice A9 (k + 1) c9)) (S + 1) 4 2 need (.slice A9 (k + 1) c9)) := pb_set P9.out _
          have c9' := (pb_cells P9.out).2.2.2
          have f9' : w9.frozen? ⟨S + 1, 3, none⟩ = false := free_of P9.out 3
          clear hown hg NS
          refine hKq.out _ _ trivial (fun _ => ?_)
          clear hKq Kq
          (try simp only [Act.put, List.getElem_toArray, List.getElem_cons_succ, List.getElem_cons_zero, List.setIfInBounds_toArray, List.set_cons_zero, List.set_cons_succ])
          refine wpAnyH_take (i := 7) (v := ?_) rfl (by kernel_rfl) (by kernel_rfl) (by kernel_rfl) (fun _ _ _ h => h) (Or.inl ⟨by rfl, ?_⟩) (by assumption) ?_
          rotate_left
          · (intro w hSw; (try dsimp only at hSw); go_simp; try with_reducible rfl)
          simp only [Act.put, List.getElem_toArray, List.getElem_cons_succ, List.getElem_cons_zero, List.setIfInBounds_toArray, List.set_cons_zero, List.set_cons_succ]
          refine wpAnyH_ready (rs := [8]) (by kernel_rfl) (by simp) ?_
          refine AllReadyH.cons rfl (fun Kq hKq => ?_) AllReadyH.nil
          go_simp
          clear c9' f9'
          refine hKq.out _ _ trivial (fun _ => ?_)
          clear hKq Kq
          (try simp only [Act.put, List.getElem_toArray, List.getElem_cons_succ, List.getElem_cons_zero, List.setIfInBounds_toArray, List.set_cons_zero, List.set_cons_succ])
          refine wpAnyH_done (by kernel_rfl) ?_ _
          go_wp2
          go_roundw
          case rel => exact ⟨k + 1, A9, c9, by have := HKN.out; omega, by go_num, Q9.out, O9.out, B9.out, Z9.out⟩
          case measure => have := HKN.out; simp [intOf]; omega
        · go_simp
          go_at_call 31
          refine (C19.out _ (KN.out _ XX.out)).mono ?_
          rintro e wf ⟨rfl, hba⟩
          have XN : Hid (Below M wB wf) := XX.out.trans (hba.mono (by have := XX.out.size; have := WN.out; omega))
          have PN : Hid (PB wf (S + 1) 4 2 need v) := (hba.block _ (lt_of_block P7.out)).trans P7.out
          have ON : Hid (wf.ownsRow (S + 2) 31 8 v k (bvals (cat rootS k))) := own8_keepB O7.out hba
          clear XX P7 O7 hba
          have XX := XN
          have P7 := PN
          have O7 := ON
          clear XN PN ON
          (try go_wp2_with fail)
          refine hKq.out _ _ trivial (fun _ => ?_)
          clear hKq Kq
          (try simp only [Act.put, List.getElem_toArray, List.getElem_cons_succ, List.getElem_cons_zero, List.setIfInBounds_toArray, List.set_cons_zero, List.set_cons_succ])
          refine wpAnyH_ready (rs := [1, 5]) (by kernel_rfl) (by simp) ?_
          refine AllReadyH.cons rfl (fun Kq hKq => ?_) (AllReadyH.cons rfl (fun Kq hKq => ?_) AllReadyH.nil)
          · obtain ⟨c0, c1, c2, c3⟩ := pb_cells P7.out
            go_simp
            clear c0 c1 c2 c3
            refine hKq.out _ _ trivial (fun _ => ?_)
            clear hKq Kq
            (try simp only [Act.put, List.getElem_toArray, List.getElem_cons_succ, List.getElem_cons_zero, List.setIfInBounds_toArray, List.set_cons_zero, List.set_cons_succ])
            refine wpAnyH_ready (rs := [5]) (by kernel_rfl) (by simp) ?_
            refine AllReadyH.cons rfl (fun Kq hKq => ?_) AllReadyH.nil
            obtain ⟨G, hG⟩ : ∃ G, wf.heap.size = G := ⟨_, rfl⟩
            refine step_bs8 rfl (.tmp 22) rfl y LY.out rfl ?_
            rw [hG]
            have P8 := Lib.hid (ba_new hG y 31)
            have MG : Hid (M ≤ G) := by show _ ≤ _; rw [← hG, ← WN.out]; exact XX.out.size
            have XN : Hid (Below M wB (wf.alloc (Obj.cells (ba y) 31))) := XX.out.alloc (by rw [hG]; exact MG.out) _
            have PN : Hid (PB (wf.alloc (Obj.cells (ba y) 31)) (S + 1) 4 2 need v) := (Below.heap_alloc _ _ _ (lt_of_block P7.out)).trans P7.out
            have ON : Hid ((wf.alloc (Obj.cells (ba y) 31)).ownsRow (S + 2) 31 8 v k (bvals (cat rootS k))) := own8_keepB O7.out ((Below.refl _ _).alloc (Nat.le_refl _) _)
            clear XX P7 O7
            have XX := XN
            have P7 := PN
            have O7 := ON
            clear XN PN ON hG
            generalize wf.alloc (Obj.cells (ba y) 31) = we at *
            refine hKq.out _ _ trivial (fun _ => ?_)
            clear hKq Kq
            simp only [Act.put, List.getElem_toArray, List.getElem_cons_succ, List.getElem_cons_zero, List.setIfInBounds_toArray, List.set_cons_zero, List.set_cons_succ]
            refine wpAnyH_ready (rs := [6]) (by kernel_rfl) (by simp) ?_
            refine AllReadyH.cons rfl (fun Kq hKq => ?_) AllReadyH.nil
            refine step_app8 rfl (.tmp 19) (.tmp 23) rfl (S + 2) k v (cat rootS k) rfl O7.out G 1 y rfl P8.out LY.out (by have := HK8.out; omega) (by have := XX.out.size; have := WN.out; have := LM.out; omega) ?_
            intro A9 c9 w9 hown hg
            rw [← HC.out] at hown
            have NS : some (S + 1) ≠ v.ownBlock := fun e => by have := own8_base O7.out _ e.symm; omega
            have P9 : Hid (PB w9 (S + 1) 4 2 need v) := (hg.block _ (by have := lt_of_block P7.out; omega) NS).trans P7.out
            have O9 : Hid ((w9.setCell ⟨S + 1, 3, none⟩ (.slice A9 (k + 1) c9)).ownsRow (S + 2) 31 8 (.slice A9 (k + 1) c9) (k + 1) (bvals (cat rootS (k + 1)))) := own_sameQ hown (fun q hq => heap_setCell_other w9 ⟨S + 1, 3, none⟩ q _ (by have := own8_base hown q hq; show q ≠ S + 1; omega))
            have Z9 : Hid (S + 2 ≤ (w9.setCell ⟨S + 1, 3, none⟩ (.slice A9 (k + 1) c9)).heap.size) := by show _ ≤ _; rw [World.size_setCell]; have := hg.size; have := XX.out.size; have := WN.out; have := LM.out; omega
            have B9 : Hid (Below (S + 1) w1 (w9.setCell ⟨S + 1, 3, none⟩ (.slice A9 (k + 1) c9))) := ((BR.out.trans (XX.out.mono (by have := LM.out; omega))).grown hg (by have := XX.out.size; have := WN.out; have := LM.out; omega) (fun q hq => by have := own8_base O7.out q hq; omega)).setCell (p := ⟨S + 1, 3, none⟩) (Nat.le_refl _) _
            have Q9 : Hid (PB (w9.setCell ⟨S + 1, 3, none⟩ (.slice A9 (k + 1) c9)) (S + 1) 4 2 need (.slice A9 (k + 1) c9)) := pb_set P9.out _
            have c9' := (pb_cells P9.out).2.2.2
            have f9' : w9.frozen? ⟨S + 1, 3, none⟩ = false := free_of P9.out 3
            clear hown hg NS
            refine hKq.out _ _ trivial (fun _ => ?_)
            clear hKq Kq
            (try simp only [Act.put, List.getElem_toArray, List.getElem_cons_succ, List.getElem_cons_zero, List.setIfInBounds_toArray, List.set_cons_zero, List.set_cons_succ])
            refine wpAnyH_take (i := 7) (v := ?_) rfl (by kernel_rfl) (by kernel_rfl) (by kernel_rfl) (fun _ _ _ h => h) (Or.inl ⟨by rfl, ?_⟩) (by assumption) ?_
            rotate_left
            · (intro w hSw; (try dsimp only at hSw); go_simp; try with_reducible rfl)
            simp only [Act.put, List.getElem_toArray, List.getElem_cons_succ, List.getElem_cons_zero, List.setIfInBounds_toArray, List.set_cons_zero, List.set_cons_succ]
            refine wpAnyH_ready (rs := [8]) (by kernel_rfl) (by simp) ?_
            refine AllReadyH.cons rfl (fun Kq hKq => ?_) AllReadyH.nil
            go_simp
            clear c9' f9'
            refine hKq.out _ _ trivial (fun _ => ?_)
            clear hKq Kq
            (try simp only [Act.put, List.getElem_toArray, List.getElem_cons_succ, List.getElem_cons_zero, List.setIfInBounds_toArray, List.set_cons_zero, List.set_cons_succ])
            refine wpAnyH_done (by kernel_rfl) ?_ _
            go_wp2
            go_roundw
            case rel => exact ⟨k + 1, A9, c9, by have := HKN.out; omega, by go_num, Q9.out, O9.out, B9.out, Z9.out⟩
            case measure => have := HKN.out; simp [intOf]; omega
          · obtain ⟨G, hG⟩ : ∃ G, wf.heap.size = G := ⟨_, rfl⟩
            refine step_bs8 rfl (.tmp 22) rfl y LY.out rfl ?_
            rw [hG]
            have P8 := Lib.hid (ba_new hG y 31)
            have MG : Hid (M ≤ G) := by show _ ≤ _; rw [← hG, ← WN.out]; exact XX.out.size
            have XN : Hid (Below M wB (wf.alloc (Obj.cells (ba y) 31))) := XX.out.alloc (by rw [hG]; exact MG.out) _
            have PN : Hid (PB (wf.alloc (Obj.cells (ba y) 31)) (S + 1) 4 2 need v) := (Below.heap_alloc _ _ _ (lt_of_block P7.out)).trans P7.out
            have ON : Hid ((wf.alloc (Obj.cells (ba y) 31)).ownsRow (S + 2) 31 8 v k (bvals (cat rootS k))) := own8_keepB O7.out ((Below.refl _ _).alloc (Nat.le_refl _) _)
            clear XX P7 O7
            have XX := XN
            have P7 := PN
            have O7 := ON
            clear XN PN ON hG
            generalize wf.alloc (Obj.cells (ba y) 31) = we at *
            refine hKq.out _ _ trivial (fun _ => ?_)
            clear hKq Kq
            simp only [Act.put, List.getElem_toArray, List.getElem_cons_succ, List.getElem_cons_zero, List.setIfInBounds_toArray, List.set_cons_zero, List.set_cons_succ]
            refine wpAnyH_ready (rs := [1]) (by kernel_rfl) (by simp) ?_
            refine AllReadyH.cons rfl (fun Kq hKq => ?_) AllReadyH.nil
            obtain ⟨c0, c1, c2, c3⟩ := pb_cells P7.out
            go_simp
            clear c0 c1 c2 c3
            refine hKq.out _ _ trivial (fun _ => ?_)
            clear hKq Kq
            (try simp only [Act.put, List.getElem_toArray, List.getElem_cons_succ, List.getElem_cons_zero, List.setIfInBounds_toArray, List.set_cons_zero, List.set_cons_succ])
            refine wpAnyH_ready (rs := [6]) (by kernel_rfl) (by simp) ?_
            refine AllReadyH.cons rfl (fun Kq hKq => ?_) AllReadyH.nil
            refine step_app8 rfl (.tmp 19) (.tmp 23) rfl (S + 2) k v (cat rootS k) rfl O7.out G 1 y rfl P8.out LY.out (by have := HK8.out; omega) (by have := XX.out.size; have := WN.out; have := LM.out; omega) ?_
            intro A9 c9 w9 hown hg
            rw [← HC.out] at hown
            have NS : some (S + 1) ≠ v.ownBlock := fun e => by have := own8_base O7.out _ e.symm; omega
            have P9 : Hid (PB w9 (S + 1) 4 2 need v) := (hg.block _ (by have := lt_of_block P7.out; omega) NS).trans P7.out
            have O9 : Hid ((w9.setCell ⟨S + 1, 3, none⟩ (.slice A9 (k + 1) c9)).ownsRow (S + 2) 31 8 (.slice A9 (k + 1) c9) (k + 1) (bvals (cat rootS (k + 1)))) := own_sameQ hown (fun q hq => heap_setCell_other w9 ⟨S + 1, 3, none⟩ q _ (by have := own8_base hown q hq; show q ≠ S + 1; omega))
            have Z9 : Hid (S + 2 ≤ (w9.setCell ⟨S + 1, 3, none⟩ (.slice A9 (k + 1) c9)).heap.size) := by show _ ≤ _; rw [World.size_setCell]; have := hg.size; have := XX.out.size; have := WN.out; have := LM.out; omega
            have B9 : Hid (Below (S + 1) w1 (w9.setCell ⟨S + 1, 3, none⟩ (.slice A9 (k + 1) c9))) := ((BR.out.trans (XX.out.mono (by have := LM.out; omega))).grown hg (by have := XX.out.size; have := WN.out; have := LM.out; omega) (fun q hq => by have := own8_base O7.out q hq; omega)).setCell (p := ⟨S + 1, 3, none⟩) (Nat.le_refl _) _
            have Q9 : Hid (PB (w9.setCell ⟨S + 1, 3, none⟩ (.slice A9 (k + 1) c9)) (S + 1) 4 2 need (.slice A9 (k + 1) c9)) := pb_set P9.out _
            have c9' := (pb_cells P9.out).2.2.2
            have f9' : w9.frozen? ⟨S + 1, 3, none⟩ = false := free_of P9.out 3
            clear hown hg NS
            refine hKq.out _ _ trivial (fun _ => ?_)
            clear hKq Kq
            (try simp only [Act.put, List.getElem_toArray, List.getElem_cons_succ, List.getElem_cons_zero, List.setIfInBounds_toArray, List.set_cons_zero, List.set_cons_succ])
            refine wpAnyH_take (i := 7) (v := ?_) rfl (by kernel_rfl) (by kernel_rfl) (by kernel_rfl) (fun _ _ _ h => h) (Or.inl ⟨by rfl, ?_⟩) (by assumption) ?_
            rotate_left
            · (intro w hSw; (try dsimp only at hSw); go_simp; try with_reducible rfl)
            simp only [Act.put, List.getElem_toArray, List.getElem_cons_succ, List.getElem_cons_zero, List.setIfInBounds_toArray, List.set_cons_zero, List.set_cons_succ]
            refine wpAnyH_ready (rs := [8]) (by kernel_rfl) (by simp) ?_
            refine AllReadyH.cons rfl (fun Kq hKq => ?_) AllReadyH.nil
            go_simp
            clear c9' f9'
            refine hKq.out _ _ trivial (fun _ => ?_)
            clear hKq Kq
            (try simp only [Act.put, List.getElem_toArray, List.getElem_cons_succ, List.getElem_cons_zero, List.setIfInBounds_toArray, List.set_cons_zero, List.set_cons_succ])
            refine wpAnyH_done (by kernel_rfl) ?_ _
            go_wp2
            go_roundw
            case rel => exact ⟨k + 1, A9, c9, by have := HKN.out; omega, by go_num, Q9.out, O9.out, B9.out, Z9.out⟩
            case measure => have := HKN.out; simp [intOf]; omega
    · obtain rfl : k = n := by omega
      obtain ⟨c0, c1, c2, c3⟩ := pb_cells PR.out
      have RB : Hid (PB wr S 0 0 0 (.slice none 0 0)) := (BR.out.block _ (by omega)).trans R0.out
      have OS := Lib.hid (own8_src OR.out)
      go_wp2_with (first
        | (refine wpList_store_rowTo rfl 38 (.tmp 4) (.tmp 26) rfl rfl S #[.int .i64 4, .int .i64 2, .int .i64 need, .slice A k c] rfl rfl 38 #[.int .i64 0, .int .i64 0, .int .i64 0, .slice none 0 0] RB.out (pb_infoA _ _ _ _) rfl (pb_one _ _ _ _ _ _) ?_)
        | fail)
      refine bodyPost_ret (v := .agg #[.int .i64 4, .int .i64 2, .int .i64 need, .slice A k c]) (results_cell_row rfl _ _ S 38 _ (0, 0) _ rfl (setRow_heap _ _ _ _ _ _ RB.out) Try.underlying38 rfl (pb_infoA _ _ _ _)) rfl ⟨A, c, rfl, ?_, OS.out.2.1, OS.out.2.2, ?_⟩
      · exact own8_src (own_sameQ OR.out (fun q hq => setRow_other _ _ _ _ (by have := own8_base OR.out q hq; omega))) |>.1
      · rw [HS.out]
        exact below_setRow (B0.out.trans (BR.out.mono (by omega))) (Nat.le_refl _) _
end Go.Proofs.Ytmcmdpbdipgahaa
