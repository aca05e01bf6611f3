/-
  The walk of WireReads, whole.
-/
import Derived.Test.YtjkhbddnbpnmcaaW26
namespace Go.Proofs.Ytjkhbddnbpnmcaa
open Go.RowKit

theorem get_row {w : World} {A : Option Addr} {n p : Nat} {bs : List Int} (h : Src w A n bs) (hp : p + 4 ≤ n) : ∃ b off, A = some ⟨b, off, none⟩ ∧ ((bs.drop p).take 4).length = 4 ∧ ∀ i, i < 4 → w.cell? ⟨b, off + p + i, none⟩ = some (.int .u8 (((bs.drop p).take 4).getD i 0)) := by
  rcases h.2 with h0 | ⟨b, off, e, hc⟩
  · omega
  · refine ⟨b, off, e, by rw [List.length_take, List.length_drop, h.1]; omega, fun i hi => ?_⟩
    rw [Nat.add_assoc, hc (p + i) (by omega)]
    simp [List.getD, hi]
set_option maxRecDepth 100000 in
set_option maxHeartbeats 8000000 in
theorem walkReads (A0 : Option Addr) (LB c0 : Nat) (bs : List Int) (A1 : Option Addr) (LK c1 : Nat) (ks : List Int) (bad : Bool) (w : World) (h0 : Src w A0 LB bs) (hb0 : Byt bs) (hn0 : A0 = none → c0 = 0) (hm0 : LB ≤ 9223372036854775807)
    (h1 : Src w A1 LK ks) (hb1 : Byt ks) (hm1 : LK ≤ 9223372036854775807) :
    Calls Try.prog 5 #[.slice A0 LB c0, .slice A1 LK c1, .bool bad] w fun e w' => e = .returned (.bool true) ∧ Below w.heap.size w w' := by
  have HB := Lib.hid h0
  have HBB := Lib.hid hb0
  have HC0 := Lib.hid hn0
  have HK := Lib.hid h1
  have HKB := Lib.hid hb1
  have B0 : Hid (Below w.heap.size w ((w.alloc (Obj.cells #[.slice A1 LK c1] 25)).alloc (Obj.cells #[.bool bad] 4))) := ((Below.refl _ _).alloc (Nat.le_refl _) _).alloc (by simp) _
  have Z0 : Hid (((w.alloc (Obj.cells #[.slice A1 LK c1] 25)).alloc (Obj.cells #[.bool bad] 4)).heap.size = w.heap.size + 2) := Lib.hid (by simp)
  have K0 : Hid (((w.alloc (Obj.cells #[.slice A1 LK c1] 25)).alloc (Obj.cells #[.bool bad] 4)).heap[w.heap.size]? = some (.cells #[.slice A1 LK c1] 25 (0, 0))) := (Below.heap_alloc _ _ _ (by simp)).trans (heap_alloc_new w _)
  have X0 : Hid (((w.alloc (Obj.cells #[.slice A1 LK c1] 25)).alloc (Obj.cells #[.bool bad] 4)).heap[w.heap.size + 1]? = some (.cells #[.bool bad] 4 (0, 0))) := by
    have := heap_alloc_new (w.alloc (Obj.cells #[.slice A1 LK c1] 25)) (Obj.cells #[.bool bad] 4)
    rwa [show (w.alloc (Obj.cells #[.slice A1 LK c1] 25)).heap.size = w.heap.size + 1 by simp] at this
  have hmf : ∀ (fn : Fn) (first cap : Array Value) (w : World), (Instr.makeFunc fn first cap).run Try.prog w = .ok (.func fn first cap) w := fun _ _ _ _ => rfl
  clear h0 hb0 hn0 h1 hb1
  go_enter Try.func5, Try.ntmps5
  go_wp2_with fail
  refine (c8 _).mono ?_
  rintro e w1 ⟨rfl, hbl⟩
  have B1 : Hid (Below w.heap.size w w1) := B0.out.trans (hbl.mono (by rw [Z0.out]; omega))
  have K1 : Hid (w1.heap[w.heap.size]? = some (.cells #[.slice A1 LK c1] 25 (0, 0))) := (hbl.block _ (by rw [Z0.out]; omega)).trans K0.out
  have X1 : Hid (w1.heap[w.heap.size + 1]? = some (.cells #[.bool bad] 4 (0, 0))) := (hbl.block _ (by rw [Z0.out]; omega)).trans X0.out
  have Z1 : Hid (w.heap.size + 2 ≤ w1.heap.size) := by have := hbl.size; rwa [Z0.out] at this
  have q1 := cell_of_one K1.out
  clear hbl B0 Z0 K0 X0
  by_cases hLB : LB ≤ 20000
  case neg =>
    have hlt : (20000 : Int) < (LB : Int) := by omega
    go_wp2
    go_ret
    exact ⟨rfl, B1.out⟩
  by_cases h100 : LK ≤ 100
  case neg =>
    have hlt : ¬ (20000 : Int) < (LB : Int) := by omega
    have hlt2 : (100 : Int) < (LK : Int) := by omega
    go_wp2
    go_ret
    exact ⟨rfl, B1.out⟩
  have hlt : ¬ (20000 : Int) < (LB : Int) := by omega
  have hlt2 : ¬ (100 : Int) < (LK : Int) := by omega
  obtain ⟨g, ht⟩ := trc_some bs ks LK
  have HT := Lib.hid ht
  have hgle := ht.gl
  clear ht
  have PW : Hid (Pre w (w1.alloc (Obj.cells #[.int .i64 0] 3)) w1.heap.size A1 LK c1 bad) :=
    ⟨B1.out.alloc B1.out.size _, (Below.heap_alloc _ _ _ (lt_of_block K1.out)).trans K1.out, (Below.heap_alloc _ _ _ (lt_of_block X1.out)).trans X1.out, heap_alloc_new w1 _, by have := Z1.out; omega⟩
  have SB : Hid (Src (w1.alloc (Obj.cells #[.int .i64 0] 3)) A0 LB bs) := HB.out.keep PW.out.below.block
  have SW : Hid (Src w1 A0 LB bs) := HB.out.keep B1.out.block
  go_wp2
  go_loop [7, 8, 9, 10, 11, 12] (fun at' sh rd i kk n => ∃ k : Nat, k ≤ g ∧ i = .int .i64 k ∧ at' = .int .i64 (posF bs ks k) ∧ rd = .int .i64 k ∧ sh = .bool false) (fun _ _ _ i _ _ => LK - (intOf i).toNat)
  case atStart => exact ⟨0, Nat.zero_le _, rfl, rfl, rfl, rfl⟩
  case round =>
    obtain ⟨k, hk, rfl, rfl, rfl, rfl⟩ := hrel
    by_cases hkl : k < LK
    · obtain ⟨b, off, rfl, hcell⟩ : ∃ b off, A1 = some ⟨b, off, none⟩ ∧ ∀ i, i < LK → w.cell? ⟨b, off + i, none⟩ = some (.int .u8 (ks.getD i 0)) := by
        rcases HK.out.2 with h | h
        · omega
        · exact h
      have hkk : k < ks.length := by rw [HK.out.1]; exact hkl
      have hc0 := hcell k hkl
      have g0 : w1.cell? ⟨b, off + k, none⟩ = some (.int .u8 (ks.getD k 0)) := (B1.out.cell (p := ⟨b, off + k, none⟩) (World.block_lt_of_cell? w _ hc0)).trans hc0
      have hx0 := byt_getD HKB.out k hkk
      have hkd : kd ks k = ks.getD k 0 % 10 := rfl
      obtain ⟨x, hx⟩ : ∃ x, ks.getD k 0 = x := ⟨_, rfl⟩
      rw [hx] at hkd hx0 g0
      obtain ⟨x0, x1⟩ := hx0
      obtain ⟨q, hq⟩ : ∃ q, kd ks k = q := ⟨_, rfl⟩
      have hq0 : 0 ≤ q := by rw [← hq, hkd]; exact Int.emod_nonneg _ (by decide)
      have hq1 : q < 10 := by rw [← hq, hkd]; exact Int.emod_lt_of_pos _ (by decide)
      rw [hq] at hkd
      have hxq : x % 10 = q := hkd.symm
      have hb1 : (0 : Int) ≤ (k : Int) := by omega
      have hb2 : (k : Int) < (LK : Int) := by omega
      have hple : posF bs ks k ≤ LB := by have := HT.out.le k hk; rwa [HB.out.1] at this
      have hrl : (bs.drop (posF bs ks k)).length = LB - posF bs ks k := by rw [List.length_drop, HB.out.1]
      have PS0 : posF bs ks (k + 1) = posF bs ks k + needN q (bs.drop (posF bs ks k)) := by rw [posF, hq]
      have HOK : k < g → ¬ badRd q (bs.drop (posF bs ks k)) := fun h => by have := HT.out.ok k h; rwa [hq] at this
      have HBAD : ¬ k < g → badRd q (bs.drop (posF bs ks k)) := fun h => by
        obtain rfl : k = g := by omega
        have := HT.out.bad hkl
        rwa [hq] at this
      clear hc0 hcell hx hkk hkd hq
      by_cases k9 : q = 9
      · by_cases h4 : posF bs ks k + 4 ≤ LB
        · obtain ⟨b0, off0, rfl, hyl, hyc⟩ := get_row SW.out h4
          have hyb : Byt ((bs.drop (posF bs ks k)).take 4) := byt_take (byt_drop HBB.out _) 4
          have hr := numL_range _ hyb
          rw [hyl, show (2 : Int) ^ (8 * 4) = 4294967296 by decide] at hr
          have C := Lib.hid (c18 b0 off0 LB c0 (posF bs ks k) _ w1 hm0 h4 hyb hyl hyc)
          obtain ⟨z, hz⟩ := Int.eq_ofNat_of_zero_le hr.1
          have hnd : needN q (bs.drop (posF bs ks k)) = 4 + z := by
            unfold needN
            rw [if_pos k9, if_pos (by rw [hrl]; omega), hz]; rfl
          rw [hz] at C hr
          have hz2 : z < 4294967296 := by omega
          unfold badRd at HOK HBAD
          rw [hnd, hrl] at HOK HBAD
          rw [hnd] at PS0
          have PS := Lib.hid PS0
          rw [k9] at hxq
          have h4i : (4 : Int) ≤ (LB : Int) - (posF bs ks k : Int) := by omega
          by_cases hkg : k < g
          · have hok := HOK hkg
            have hfit : ¬ (LB : Int) - (posF bs ks k : Int) < 4 + (z : Int) := by omega
            clear HOK HBAD hok PS0 hyb hyl hyc hr hz hnd hrl k9 hq0 hq1
            generalize posF bs ks k = p at *
            go_wp2_with (go_at_call 18; refine C.out.mono ?_; rintro e w' ⟨rfl, rfl⟩)
            go_round
            case rel => exact ⟨k + 1, by omega, by go_num, by rw [PS.out]; simp, by go_num, rfl⟩
            case measure => simp [intOf]; omega
          · have hno := HBAD hkg
            have hfit : (LB : Int) - (posF bs ks k : Int) < 4 + (z : Int) := by omega
            obtain rfl : k = g := by omega
            have hgl := hkl
            clear HOK HBAD hno PS0 PS hyb hyl hyc hr hz hnd hrl k9 hq0 hq1
            generalize posF bs ks k = p at *
            go_wp2_with (first | (go_at_call 18; refine C.out.mono ?_; rintro e w' ⟨rfl, rfl⟩) | fail)
            go_wp2_with (go_at_call 12; refine (pre_s PW.out h100 HK.out HKB.out HT.out SB.out HC0.out HBB.out hLB hgl).mono ?_; rintro e w3 ⟨rfl, hL⟩; have v3 := cell_of_one hL.var; have B3 : Hid (Below w.heap.size w w3) := PW.out.below.grown hL.grown PW.out.below.size (fun k e => by cases e; have := PW.out.lt; omega); clear hL)
            go_ret
            exact ⟨rfl, B3.out⟩
        · have hnd : needN q (bs.drop (posF bs ks k)) = 4 := by unfold needN; rw [if_pos k9, if_neg (by rw [hrl]; omega)]
          unfold badRd at HOK
          rw [hnd, hrl] at HOK
          by_cases hkg : k < g
          · have := HOK hkg; omega
          · obtain rfl : k = g := by omega
            have hgl := hkl
            have hfit : (LB : Int) - (posF bs ks k : Int) < 4 := by omega
            have hfit2 : ¬ (4 : Int) ≤ (LB : Int) - (posF bs ks k : Int) := by omega
            rw [k9] at hxq
            clear HOK HBAD PS0 hnd hrl k9 hq0 hq1
            generalize posF bs ks k = p at *
            go_wp2_with (go_at_call 12; refine (pre_s PW.out h100 HK.out HKB.out HT.out SB.out HC0.out HBB.out hLB hgl).mono ?_; rintro e w3 ⟨rfl, hL⟩; have v3 := cell_of_one hL.var; have B3 : Hid (Below w.heap.size w w3) := PW.out.below.grown hL.grown PW.out.below.size (fun k e => by cases e; have := PW.out.lt; omega); clear hL)
            go_ret
            exact ⟨rfl, B3.out⟩
      · have hnd : needN q (bs.drop (posF bs ks k)) = q.toNat := by unfold needN; rw [if_neg k9]
        unfold badRd at HOK HBAD
        rw [hnd, hrl] at HOK HBAD
        rw [hnd] at PS0
        have PS := Lib.hid PS0
        by_cases hkg : k < g
        · have hok := HOK hkg
          have hne : ¬ q = 0 := by omega
          have hfit : ¬ (LB : Int) - (posF bs ks k : Int) < q := by omega
          have PQ : Hid (((posF bs ks (k + 1) : Nat) : Int) = (posF bs ks k : Int) + q) := by show ((posF bs ks (k + 1) : Nat) : Int) = _; rw [PS0]; omega
          clear HOK HBAD hok PS0 PS hnd hrl
          generalize posF bs ks k = p at *
          go_wp2
          go_round
          case rel => exact ⟨k + 1, by omega, by go_num, by rw [PQ.out], by go_num, rfl⟩
          case measure => simp [intOf]; omega
        · have hno := HBAD hkg
          obtain rfl : k = g := by omega
          have hgl := hkl
          by_cases hz : q = 0
          · subst hz
            clear HOK HBAD hno PS0 PS hnd hrl
            generalize posF bs ks k = p at *
            go_wp2_with (go_at_call 12; refine (pre_s PW.out h100 HK.out HKB.out HT.out SB.out HC0.out HBB.out hLB hgl).mono ?_; rintro e w3 ⟨rfl, hL⟩; have v3 := cell_of_one hL.var; have B3 : Hid (Below w.heap.size w w3) := PW.out.below.grown hL.grown PW.out.below.size (fun k e => by cases e; have := PW.out.lt; omega); clear hL)
            go_ret
            exact ⟨rfl, B3.out⟩
          · have hfit : (LB : Int) - (posF bs ks k : Int) < q := by omega
            clear HOK HBAD hno PS0 PS hnd hrl
            generalize posF bs ks k = p at *
            go_wp2_with (go_at_call 12; refine (pre_s PW.out h100 HK.out HKB.out HT.out SB.out HC0.out HBB.out hLB hgl).mono ?_; rintro e w3 ⟨rfl, hL⟩; have v3 := cell_of_one hL.var; have B3 : Hid (Below w.heap.size w w3) := PW.out.below.grown hL.grown PW.out.below.size (fun k e => by cases e; have := PW.out.lt; omega); clear hL)
            go_ret
            exact ⟨rfl, B3.out⟩
    · obtain rfl : k = LK := by omega
      obtain rfl : k = g := by omega
      have hple : posF bs ks k ≤ LB := by have := HT.out.le k hk; rwa [HB.out.1] at this
      cases bad with
      | true =>
        go_wp2_with (go_at_call 12; refine (pre_o PW.out h100 HK.out HKB.out HT.out SB.out HC0.out HBB.out hLB).mono ?_; rintro e w3 ⟨rfl, hL⟩; have v3 := cell_of_one hL.var; have x3 := (hL.grown.cell_far ⟨w.heap.size + 1, 0, none⟩ (lt_of_block PW.out.x) (by have := PW.out.lt; simp; omega)).trans (cell_of_one PW.out.x); have B3 : Hid (Below w.heap.size w w3) := PW.out.below.grown hL.grown PW.out.below.size (fun k e => by cases e; have := PW.out.lt; omega); clear hL)
        go_ret
        exact ⟨rfl, B3.out⟩
      | false =>
        by_cases hend : LB ≤ posF bs ks k
        · have Y := pre_y PW.out h100 HK.out HKB.out HT.out SB.out HC0.out HBB.out hLB
          rw [if_pos hend] at Y
          have Y' := Lib.hid Y
          have hnl : ¬ (posF bs ks k : Int) < (LB : Int) := by omega
          clear Y hend
          go_wp2_with (go_at_call 12; refine Y'.out.mono ?_; rintro e w3 ⟨rfl, hL⟩; have v3 := cell_of_one hL.var; have x3 := (hL.grown.cell_far ⟨w.heap.size + 1, 0, none⟩ (lt_of_block PW.out.x) (by have := PW.out.lt; simp; omega)).trans (cell_of_one PW.out.x); have B3 : Hid (Below w.heap.size w w3) := PW.out.below.grown hL.grown PW.out.below.size (fun k e => by cases e; have := PW.out.lt; omega); clear hL)
          go_ret
          exact ⟨rfl, B3.out⟩
        · have Y := pre_y PW.out h100 HK.out HKB.out HT.out SB.out HC0.out HBB.out hLB
          rw [if_neg hend] at Y
          have Y' := Lib.hid Y
          have hnl : (posF bs ks k : Int) < (LB : Int) := by omega
          clear Y hend
          go_wp2_with (go_at_call 12; refine Y'.out.mono ?_; rintro e w3 ⟨rfl, hL⟩; have v3 := cell_of_one hL.var; have x3 := (hL.grown.cell_far ⟨w.heap.size + 1, 0, none⟩ (lt_of_block PW.out.x) (by have := PW.out.lt; simp; omega)).trans (cell_of_one PW.out.x); have B3 : Hid (Below w.heap.size w w3) := PW.out.below.grown hL.grown PW.out.below.size (fun k e => by cases e; have := PW.out.lt; omega); clear hL)
          go_ret
          exact ⟨rfl, B3.out⟩
end Go.Proofs.Ytjkhbddnbpnmcaa
