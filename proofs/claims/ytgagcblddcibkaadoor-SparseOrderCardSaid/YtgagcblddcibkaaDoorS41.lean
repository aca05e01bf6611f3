/-
  A tree's copy.
-/
import Derived.Test.YtgagcblddcibkaaDoorS40
import Derived.Deep.RegionWith
namespace Go.Proofs.YtgagcblddcibkaaDoor
open Go.RowKit
open Go.Maps
theorem s56 : (Tryd.prog.info? 56).map (·.size) = some 17 := by kernel_rfl
theorem mrow_size (ms : Nat → Option Nat) : (mrow ms).size = 17 := by simp [mrow]
theorem nd_none2 : nd (fun _ => zeros 8) = fun _ _ => zeros 8 := by funext h k; exact nd_none h k
attribute [local irreducible] ua da ba kk sw S8.run rt hs comp splice outB sha msg twoM twoN ab MapIs mrow nd upF at8 prfL zip8 bvals ivals putA fillL inr sib
set_option maxRecDepth 100000 in
set_option maxHeartbeats 1600000 in
theorem p19 (B T N : Nat) (ms : Nat → Option Nat) (F : Nat → Int → List Int) (w : World) (hT : Tr w B T ms F N) :
    Calls Tryd.prog 19 #[.pointer (some ⟨T, 0, none⟩)] w fun e w' => e = .returned (.pointer (some ⟨w.heap.size, 0, none⟩)) ∧ (∃ ms', Tr w' w.heap.size w.heap.size ms' F N) ∧ Below w.heap.size w w' := by
  have HT := Lib.hid hT
  obtain ⟨S, hS⟩ : ∃ S, w.heap.size = S := ⟨_, rfl⟩
  have HS := Lib.hid hS
  have C23 := Lib.hid (p23 w)
  rw [hS] at C23
  rw [hS]
  have TF : Hid (∀ w', Below S w w' → Tr w' B T ms F N) := fun w' hb => HT.out.grow (by rw [HS.out]; exact hb)
  clear hT
  go_enter Tryd.func19, Tryd.ntmps19
  go_wp2_with fail
  clear hS
  refine C23.out.mono ?_
  rintro e w1 ⟨rfl, ht1, hb1⟩
  rw [nd_none2] at ht1
  have T1 : Hid (Tr w1 S S (fun _ => none) (fst' F 0) N) := by rw [fst_zero]; exact ht1.mono (Nat.zero_le _)
  have B1 := Lib.hid hb1
  have TT := Lib.hid (TF.out w1 hb1)
  clear ht1 hb1 C23
  go_wp2_with (refine wpList_load_row rfl 56 (.tmp 11) rfl T rfl 58 (mrow ms) (0, 0) _ TT.out.row Tryd.underlying56 rfl (sz s56 (mrow_size ms)) ?_)
  go_loopw [13, 4, 5] (fun c _ _ wr => ∃ (s : Nat) (ms1 : Nat → Option Nat), s ≤ 17 ∧ c = .int .i64 s ∧ Tr wr S S ms1 (fst' F s) N ∧ (∀ j, s ≤ j → ms1 j = none) ∧ Below S w wr) (fun c _ _ _ => 17 - (intOf c).toNat)
  case atStart => exact ⟨0, fun _ => none, by omega, rfl, T1.out, fun _ _ => rfl, B1.out⟩
  case round =>
    clear T1 B1 TT
    obtain ⟨s, ms1, hs, rfl, ht, hn, hb⟩ := hrel
    have TR := Lib.hid ht
    have NR := Lib.hid hn
    have BR := Lib.hid hb
    clear ht hn hb
    by_cases hlt : s < 17
    · have ix := idx56 ms s hlt
      have s0 : (0 : Int) ≤ (s : Int) := by omega
      have s1 : (s : Int) < 17 := by omega
      have HS17 : Hid (s < 17) := hlt
      have LR : Hid (S < wr.heap.size) := TR.out.lt
      rcases hm : ms s with _ | b
      · have HZ : Hid (fst' F s = fst' F (s + 1)) := fst_same F s (HT.out.nil s hlt hm)
        have E29 : Hid (∀ w', Calls Tryd.prog 29 #[.map none] w' fun e w'' => e = .returned (.map none) ∧ w'' = w') := p29nil
        rw [hm] at ix
        clear hs hlt hm
        go_wp2_with fail
        go_region_with (go_at_call 29; refine (E29.out _).mono ?_; rintro e wa ⟨rfl, rfl⟩; have cc := TR.out.cell s HS17.out; have f0 := free_of TR.out.row s; rw [NR.out s (Nat.le_refl s)] at cc)
        have TN : Hid (Tr (wr.setCell ⟨S, s, none⟩ (.map none)).drew S S ms1 (fst' F (s + 1)) N) := by rw [← HZ.out]; exact (TR.out.stay (NR.out s (Nat.le_refl s))).keep fun _ _ => rfl
        have BN : Hid (Below S w (wr.setCell ⟨S, s, none⟩ (.map none)).drew) := (BR.out.setCell (Nat.le_refl S) _).drew
        clear cc f0
        generalize (wr.setCell ⟨S, s, none⟩ (.map none)).drew = wf at *
        go_wp2_with fail
        go_roundw
        case rel => exact ⟨s + 1, ms1, HS17.out, by go_num, TN.out, fun j hj => NR.out j (by omega), BN.out⟩
        case measure => have := HS17.out; simp [intOf]; omega
      · have E29 : Hid (∀ w', Below S w w' → Calls Tryd.prog 29 #[.map (some b)] w' fun e w'' => e = .returned (.map (some w'.heap.size)) ∧ MapIs w'' w'.heap.size N (F s) ∧ Below w'.heap.size w' w'') := fun w' hb => p29 ((TF.out w' hb).map s b HS17.out hm).2.2
        rw [hm] at ix
        clear hs hlt hm
        go_wp2_with fail
        go_region_with (go_at_call 29; refine (E29.out _ (by first | exact BR.out | exact BR.out.drew)).mono ?_; rintro e wa ⟨rfl, hma, hba⟩; have KA : Hid (∀ k, k < wr.heap.size → wa.heap[k]? = wr.heap[k]?) := fun k hk => hba.block k hk; have MA := Lib.hid hma; have TA := Lib.hid (TR.out.keep KA.out); have BA' : Hid (Below S w wa) := (by first | exact BR.out.trans (hba.mono (Nat.le_of_lt LR.out)) | exact BR.out.drew.trans (hba.mono (Nat.le_of_lt LR.out))); clear hma hba; have cc := TA.out.cell s HS17.out; have f0 := free_of TA.out.row s; rw [NR.out s (Nat.le_refl s)] at cc)
        have TN : Hid (Tr (wa.setCell ⟨S, s, none⟩ (.map (some wr.heap.size))) S S (updm ms1 s (some wr.heap.size)) (fst' F (s + 1)) N) := by rw [← fst_next F s]; exact TR.out.place HS17.out KA.out (Nat.le_refl _) MA.out
        have BN : Hid (Below S w (wa.setCell ⟨S, s, none⟩ (.map (some wr.heap.size)))) := BA'.out.setCell (Nat.le_refl S) _
        clear cc f0 MA TA KA BA'
        generalize wa.setCell ⟨S, s, none⟩ (.map (some wr.heap.size)) = wf at *
        go_wp2_with fail
        go_roundw
        case rel => exact ⟨s + 1, updm ms1 s (some wr.heap.size), HS17.out, by go_num, TN.out, fun j hj => by rw [updm_other ms1 _ (by omega)]; exact NR.out j (by omega), BN.out⟩
        case measure => have := HS17.out; simp [intOf]; omega
    · obtain rfl : s = 17 := by omega
      have TZ : Hid (Tr wr S S ms1 F N) := TR.out.congr fun s hs => fst_all F s hs
      clear hs hlt
      go_wp2_with fail
      go_ret
      exact ⟨rfl, ⟨ms1, TZ.out⟩, BR.out⟩
end Go.Proofs.YtgagcblddcibkaaDoor
