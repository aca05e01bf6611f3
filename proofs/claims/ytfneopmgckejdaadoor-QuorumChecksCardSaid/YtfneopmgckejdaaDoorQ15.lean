/-
  The walk of QuorumChecks.
-/
import Derived.Test.YtfneopmgckejdaaDoorQ13
import Derived.Test.YtfneopmgckejdaaDoorQ8
namespace Go.Proofs.YtfneopmgckejdaaDoor
open Go.RowKit
def m8 (z x : Int) : List Int := [z, x, 0, 0, 0, 0, 0, 0]
theorem m8_len (z x : Int) : (m8 z x).length = 8 := rfl
theorem ba_m8 (z x : Int) : ba (m8 z x) = #[.int .u8 z, .int .u8 x, .int .u8 0, .int .u8 0, .int .u8 0, .int .u8 0, .int .u8 0, .int .u8 0] := rfl
theorem byt_m8 {z x : Int} (hz : 0 ≤ z ∧ z < 256) (hx : 0 ≤ x ∧ x < 256) : Byt (m8 z x) := by
  intro y hy
  simp [m8] at hy
  rcases hy with rfl | rfl | rfl <;> omega
theorem dQuorumM (n : Nat) (d : Int) (A : Option Addr) (c : Nat) (m : List Int) (B : Option Addr) (k c2 : Nat) (xs : List Sgd) (w : World) (hk : Keys w) (hs : Src w A (8 * n) (cat rootS n)) (hc : n ≤ c) (hc2 : c ≤ maxLen) (hm : m.length = 8) (hbt : Byt m) (hr : SRow w B xs) (hl : xs.length = k) (hd : k ≤ c2) :
    Calls Tryd.prog 13 #[.agg #[.int .i64 4, .int .i64 2, .int .i64 d, .slice A n c], .agg (bvals m).toArray, .slice B k c2] w fun e w' => e = .returned (.bool (enough (FK n) n 4 2 d m xs)) ∧ Below w.heap.size w w' := by
  have := dQuorum A n c (cat rootS n) 4 2 d m B k c2 xs w hk hs hc hc2 hm hbt hr hl hd
  rw [ba_bvals m] at this
  exact this
theorem dCountM (n : Nat) (d : Int) (A : Option Addr) (c : Nat) (m : List Int) (B : Option Addr) (k c2 : Nat) (xs : List Sgd) (w : World) (hk : Keys w) (hs : Src w A (8 * n) (cat rootS n)) (hc : n ≤ c) (hc2 : c ≤ maxLen) (hm : m.length = 8) (hbt : Byt m) (hr : SRow w B xs) (hl : xs.length = k) (hd : k ≤ c2) (hd2 : c2 ≤ maxLen) (h64 : n ≤ 65536) :
    Calls Tryd.prog 15 #[.agg #[.int .i64 4, .int .i64 2, .int .i64 d, .slice A n c], .agg (bvals m).toArray, .slice B k c2] w fun e w' => e = .returned (.int .i64 (cnt (FK n) n m xs)) ∧ Below w.heap.size w w' := by
  have := dCount A n c (cat rootS n) 4 2 d m B k c2 xs w hk hs hc hc2 hm hbt hr hl hd hd2 h64
  rw [ba_bvals m] at this
  exact this
attribute [local irreducible] ua da ba kk sw S8.run rt hs comp splice outB sha msg bvals at8 secM zeros sec keyF marksF mk pubk bt rootF leafH twoH stepsF cutN leadF provL rootV pubF pubs keyL opn sht way gives ckB chkB rootL sg eS fineP mayK win mayP okS has cnt cntN riseP allP enough keyAt cat opL shL sigL wayP wayL rootS seedL bend mAt sgF sgnL FK riseW m4 m8
set_option maxRecDepth 100000 in
set_option maxHeartbeats 32000000 in
theorem q4 (n2 : List Int) (A1 : Option Addr) (len cap : Nat) (ws : List Int) (A2 : Option Addr) (len2 cap2 : Nat) (bs : List Bool) (w : World) (hk : Keys w) (hn2 : n2.length = 2) (hbn : Byt n2) (hw : IRow w A1 ws) (hwl : ws.length = len) (hb : LRow w A2 bs) (hbl : bs.length = len2) :
    Calls Tryd.prog 4 #[.agg (ba n2), .slice A1 len cap, .slice A2 len2 cap2] w fun e w' => e = .returned (.bool true) ∧ Below w.heap.size w w' := by
  have HK := Lib.hid hk
  have HP : Hid (0 < w.heap.size) := keys_pos hk
  have HW := Lib.hid hw
  have HWL := Lib.hid hwl
  have HBW := Lib.hid hb
  have HBL := Lib.hid hbl
  obtain ⟨S, hS⟩ : ∃ S, w.heap.size = S := ⟨_, rfl⟩
  have HS := Lib.hid hS
  have KW : Hid (∀ w', Below S w w' → Keys w') := fun w' hb => keys_below HK.out hb (by rw [← HS.out]; exact HP.out)
  have N0 := Lib.hid (ba_new hS n2 27)
  have B0 : Hid (Below S w (w.alloc (Obj.cells (ba n2) 27))) := by subst hS; exact (Below.refl _ w).alloc (Nat.le_refl _) _
  have C7 := Lib.hid (kAwake (w.alloc (Obj.cells (ba n2) 27)) (KW.out _ B0.out))
  obtain ⟨x, y, hxy, hx, hy⟩ : ∃ x y : Nat, n2 = [(x : Int), (y : Int)] ∧ x < 256 ∧ y < 256 := by
    match n2, hn2 with
    | [a, b], _ =>
      have ha := hbn a (by simp)
      have hb := hbn b (by simp)
      exact ⟨a.toNat, b.toNat, by rw [Int.toNat_of_nonneg ha.1, Int.toNat_of_nonneg hb.1], by omega, by omega⟩
  have HXY := Lib.hid hxy
  have BMX : Hid (Byt (m8 4 x)) := byt_m8 (by omega) (by omega)
  obtain ⟨k, hkk⟩ : ∃ k, x % 6 = k := ⟨_, rfl⟩
  obtain ⟨d, hdd⟩ : ∃ d, y % 6 = d := ⟨_, rfl⟩
  have HK5 : Hid (k ≤ 5) := by show _ ≤ _; omega
  have mx : (x : Int).tmod 6 = (k : Int) := by rw [← hkk]; simp [Int.tmod]
  have my : (y : Int).tmod 6 = (d : Int) := by rw [← hdd]; simp [Int.tmod]
  have wx : IntKind.i64.wrap (x : Int) = (x : Int) := by rw [IntKind.wrap_i64]; omega
  have wy : IntKind.i64.wrap (y : Int) = (y : Int) := by rw [IntKind.wrap_i64]; omega
  have wk : IntKind.i64.wrap (k : Int) = (k : Int) := by rw [IntKind.wrap_i64]; omega
  have wd : IntKind.i64.wrap (d : Int) = (d : Int) := by rw [IntKind.wrap_i64]; omega
  have C10 : Hid (∀ w', Below S w w' → Calls Tryd.prog 10 #[.int .i64 k, .int .i64 d] w' fun e w'' => ∃ A c, e = .returned (.agg #[.int .i64 4, .int .i64 2, .int .i64 d, .slice A k c]) ∧ Src w'' A (8 * k) (cat rootS k) ∧ k ≤ c ∧ c ≤ maxLen ∧ Below w'.heap.size w' w'') := fun w' hb => kMade k d w' (KW.out w' hb) (by omega)
  clear hk hn2 hbn hw hwl hb hbl hxy hkk hdd hx hy
  go_enter Tryd.func4, Tryd.ntmps4
  go_upto_region 3 with (first
    | (go_at_call 7
       refine C7.out.mono ?_
       rintro e w1 ⟨rfl, hb⟩
       have N1 : Hid (BA w1 S 27 n2) := (hb.block _ (lt_of_block N0.out)).trans N0.out
       have B1 : Hid (Below S w w1) := B0.out.trans (hb.mono (Nat.le_of_lt (lt_of_block N0.out)))
       clear hb N0 B0 C7 hS)
    | fail)
  by_cases hl8 : len ≤ 8
  · have g8 : decide ((8 : Int) < (len : Int)) = false := decide_eq_false (by omega)
    have g9 : decide (8 < len) = false := decide_eq_false (by omega)
    by_cases hl50 : len2 ≤ 50
    · have h8 : decide ((50 : Int) < (len2 : Int)) = false := decide_eq_false (by omega)
      have h9 : decide (50 < len2) = false := decide_eq_false (by omega)
      have cx : w1.cell? ⟨S, 0, none⟩ = some (.int .u8 (x : Int)) := by
        have := ba_cell N1.out 0 (by rw [HXY.out]; show _ < 2; omega)
        rw [HXY.out] at this
        exact this
      have cy : w1.cell? ⟨S, 1, none⟩ = some (.int .u8 (y : Int)) := by
        have := ba_cell N1.out 1 (by rw [HXY.out]; show _ < 2; omega)
        rw [HXY.out] at this
        exact this
      go_wp2_with (first
        | (go_at_call 10
           refine (C10.out w1 B1.out).mono ?_
           rintro e w2 ⟨A, c, rfl, hsrc, hc3, hcm3, hb⟩
           have S2 := Lib.hid hsrc
           have HC3 := Lib.hid hc3
           have HCM := Lib.hid hcm3
           have N2 : Hid (BA w2 S 27 n2) := (hb.block _ (lt_of_block N1.out)).trans N1.out
           have B2 : Hid (Below S w w2) := B1.out.trans (hb.mono (Nat.le_of_lt (lt_of_block N1.out)))
           obtain ⟨PBK, hP⟩ : ∃ q, w2.heap.size = q := ⟨_, rfl⟩
           have HPS : Hid (S < PBK) := by show _ < _; rw [← hP]; exact lt_of_block N2.out
           have PQ1 := Lib.hid (pb_old (pb_new hP 4 2 d (.slice A k c)) (Obj.cells #[.int .u8 4, .int .u8 x, .int .u8 0, .int .u8 0, .int .u8 0, .int .u8 0, .int .u8 0, .int .u8 0] 32))
           have MQ1 : Hid (BA ((w2.alloc (Obj.cells #[.int .i64 4, .int .i64 2, .int .i64 d, .slice A k c] 24)).alloc (Obj.cells #[.int .u8 4, .int .u8 x, .int .u8 0, .int .u8 0, .int .u8 0, .int .u8 0, .int .u8 0, .int .u8 0] 32)) (PBK + 1) 32 (m8 4 x)) := by
             have := ba_new (size_al hP (Obj.cells #[.int .i64 4, .int .i64 2, .int .i64 d, .slice A k c] 24)) (m8 4 x) 32
             rw [ba_m8] at this
             exact this
           have BW : Hid (Below PBK w2 ((w2.alloc (Obj.cells #[.int .i64 4, .int .i64 2, .int .i64 d, .slice A k c] 24)).alloc (Obj.cells #[.int .u8 4, .int .u8 x, .int .u8 0, .int .u8 0, .int .u8 0, .int .u8 0, .int .u8 0, .int .u8 0] 32))) := ((Below.refl _ w2).alloc (Nat.le_of_eq hP.symm) _).alloc (by rw [size_al hP]; omega) _
           have cx2 : (w2.alloc (Obj.cells #[.int .i64 4, .int .i64 2, .int .i64 d, .slice A k c] 24)).cell? ⟨S, 0, none⟩ = some (.int .u8 (x : Int)) := by
             have := ba_cell (ba_old N2.out (Obj.cells #[.int .i64 4, .int .i64 2, .int .i64 d, .slice A k c] 24)) 0 (by rw [HXY.out]; show _ < 2; omega)
             rw [HXY.out] at this
             exact this
           clear hb hsrc hc3 hcm3 cx cy)
        | fail)
      clear cx2
      generalize ((w2.alloc (Obj.cells #[.int .i64 4, .int .i64 2, .int .i64 d, .slice A k c] 24)).alloc (Obj.cells #[.int .u8 4, .int .u8 x, .int .u8 0, .int .u8 0, .int .u8 0, .int .u8 0, .int .u8 0, .int .u8 0] 32)) = w3 at *
      obtain ⟨N, hN⟩ : ∃ N, w3.heap.size = N := ⟨_, rfl⟩
      have LN3 : Hid (PBK + 1 < N) := by show _ < _; rw [← hN]; exact lt_of_block MQ1.out
      have HN := Lib.hid hN
      have BN3 : Hid (∀ w', Below N w3 w' → Below PBK w2 w') := fun w' hb => BW.out.trans (hb.mono (by have := LN3.out; omega))
      have BN : Hid (∀ w', Below N w3 w' → Below S w w') := fun w' hb => B2.out.trans ((BN3.out w' hb).mono (Nat.le_of_lt HPS.out))
      have BS : Hid (∀ w', Below N w3 w' → Src w' A (8 * k) (cat rootS k)) := fun w' hb => S2.out.keep fun q hq => (BN3.out w' hb).block q (by rw [← hP]; exact hq)
      clear hP hN B1 N1 N2 BW S2 g8 g9 h8 h9
      go_loopw [9] (fun v9 wr => ∃ i : Nat, i ≤ len ∧ v9 = .int .i64 i ∧ Below N w3 wr) (fun v9 _ => len - (intOf v9).toNat)
      case atStart => exact ⟨0, Nat.zero_le _, rfl, Below.refl _ _⟩
      case round =>
        obtain ⟨i, hi, rfl, hb⟩ := hrel
        have BR := Lib.hid hb
        clear hb
        by_cases hil : i < len
        · have i0 : (0 : Int) ≤ (i : Int) := by omega
          have i1 : (i : Int) < (len : Int) := by omega
          have HIL := Lib.hid hil
          obtain ⟨bw, ow, rfl, hcw⟩ : ∃ b o, A1 = some ⟨b, o, none⟩ ∧ ∀ j, j < ws.length → w.cell? ⟨b, o + j, none⟩ = some (.int .i64 (ws.getD j 0)) := by
            rcases HW.out with h | h
            · have := HWL.out; rw [h] at this; simp at this; omega
            · exact h
          obtain ⟨p, hp⟩ : ∃ p, ws.getD i 0 = p := ⟨_, rfl⟩
          have cw : wr.cell? ⟨bw, ow + i, none⟩ = some (.int .i64 p) := by
            rw [← hp]
            exact cell_keep (hcw i (by rw [HWL.out]; exact hil)) fun q hq => (BN.out wr BR.out).block q (by rw [← HS.out]; exact hq)
          clear hcw hp
          by_cases p1 : p < -1
          · go_wp2
            go_ret
            exact ⟨rfl, by rw [HS.out]; exact BN.out _ BR.out⟩
          · have p1' : decide (p < -1) = false := decide_eq_false p1
            by_cases p2 : 7 < p
            · have p2' : decide (7 < p) = true := decide_eq_true p2
              go_wp2
              go_ret
              exact ⟨rfl, by rw [HS.out]; exact BN.out _ BR.out⟩
            · have p2' : decide (7 < p) = false := decide_eq_false p2
              go_wp2
              go_roundw
              case rel => exact ⟨i + 1, by have := HIL.out; omega, by go_num, BR.out⟩
              case measure => have := HIL.out; simp [intOf]; omega
        · obtain ⟨mm, hmm⟩ : ∃ mm, m8 4 x = mm := ⟨_, rfl⟩
          have LMM : Hid (mm.length = 8) := by rw [← hmm]; exact m8_len 4 x
          have BMM : Hid (Byt mm) := by rw [← hmm]; exact BMX.out
          have MR : Hid (BA wr (PBK + 1) 32 mm) := by rw [← hmm]; exact (BR.out.block _ LN3.out).trans MQ1.out
          have PR : Hid (PB wr PBK 4 2 d (.slice A k c)) := (BR.out.block _ (by have := LN3.out; omega)).trans PQ1.out
          have LW : Hid (ws.length ≤ 65536) := by show _ ≤ _; rw [HWL.out]; omega
          have HILN : Hid (i = len) := by show _ = _; omega
          have C11 : Hid (Calls Tryd.prog 11 #[.agg (ba mm), .slice A1 len cap, .slice A2 len2 cap2] wr fun e w' => ∃ B c, e = .returned (.slice B len c) ∧ w'.ownsRow wr.heap.size 45 282 (.slice B len c) len ((sgnL mm ws bs len).flatMap eS) ∧ Below wr.heap.size wr w') := kSigned mm A1 len cap ws A2 len2 cap2 bs wr (KW.out _ (BN.out _ BR.out)) LMM.out BMM.out (HW.out.keep fun q hq => (BN.out wr BR.out).block q (by rw [← HS.out]; exact hq)) HWL.out (HBW.out.keep fun q hq => (BN.out wr BR.out).block q (by rw [← HS.out]; exact hq)) HBL.out (by omega)
          clear hmm
          go_wp2_with (first
            | (refine wpList_load_row rfl 32 (.tmp 8) rfl (PBK + 1) rfl 32 (ba mm) (0, 0) _ MR.out Tryd.underlying32 rfl (sz s27 (by rw [ba_size, LMM.out])) ?_)
            | (go_at_call 11
               refine C11.out.mono ?_
               rintro e w5 ⟨B, c5, rfl, ho, hb⟩
               have SR := Lib.hid (own_srow ho (sgnL_280 mm ws bs len) (sgnL_len mm ws bs len))
               have M5 : Hid (BA w5 (PBK + 1) 32 mm) := (hb.block _ (lt_of_block MR.out)).trans MR.out
               have P5 : Hid (PB w5 PBK 4 2 d (.slice A k c)) := (hb.block _ (lt_of_block PR.out)).trans PR.out
               have B5 : Hid (Below N w3 w5) := BR.out.trans (hb.mono (by rw [← HN.out]; exact BR.out.size))
               clear ho hb)
            | fail)
          have PQ := P5
          have MQ := M5
          have him := inf23 mm LMM.out
          obtain ⟨xs, hxs⟩ : ∃ xs, sgnL mm ws bs len = xs := ⟨_, rfl⟩
          have HXL : Hid (xs.length = len) := by rw [← hxs]; exact sgnL_len mm ws bs len
          have SRX : Hid (SRow w5 B xs ∧ len ≤ c5 ∧ c5 ≤ maxLen) := by rw [← hxs]; exact SR.out
          generalize w5 = wB at *
          obtain ⟨M, hM⟩ : ∃ M, wB.heap.size = M := ⟨_, rfl⟩
          have WN : Hid (wB.heap.size = M) := hM
          have LN : Hid (PBK + 1 < M) := by show _ < _; rw [← hM]; exact lt_of_block MQ.out
          have LMN : Hid (N ≤ M) := by show _ ≤ _; rw [← hM, ← HN.out]; exact B5.out.size
          have KM : Hid (∀ w', Below M wB w' → Below N w3 w') := fun w' hb => B5.out.trans (hb.mono LMN.out)
          have SX : Hid (∀ w', Below M wB w' → SRow w' B xs) := fun w' hb => SRX.out.1.keep fun q hq => hb.block q (by rw [← WN.out]; exact hq)
          obtain ⟨v, hv⟩ : ∃ v, enough (FK k) k 4 2 d mm xs = v := ⟨_, rfl⟩
          obtain ⟨t, ht⟩ : ∃ t, cnt (FK k) k mm xs = t := ⟨_, rfl⟩
          have C12 : Hid (∀ w', Below M wB w' → Calls Tryd.prog 12 #[.agg #[.int .i64 4, .int .i64 2, .int .i64 d, .slice A k c], .agg (bvals mm).toArray, .slice B len c5] w' fun e w'' => e = .returned (.bool v) ∧ Below w'.heap.size w' w'') := fun w' hb => by
            rw [← hv]
            exact cQuorum k d A c mm B len c5 xs w' (KW.out _ (BN.out _ (KM.out _ hb))) (BS.out _ (KM.out _ hb)) HC3.out HCM.out LMM.out BMM.out (SX.out _ hb) HXL.out SRX.out.2.1 SRX.out.2.2 (by have := HK5.out; omega) (by omega)
          have C13 : Hid (∀ w', Below M wB w' → Calls Tryd.prog 13 #[.agg #[.int .i64 4, .int .i64 2, .int .i64 d, .slice A k c], .agg (bvals mm).toArray, .slice B len c5] w' fun e w'' => e = .returned (.bool v) ∧ Below w'.heap.size w' w'') := fun w' hb => by
            rw [← hv]
            exact dQuorumM k d A c mm B len c5 xs w' (KW.out _ (BN.out _ (KM.out _ hb))) (BS.out _ (KM.out _ hb)) HC3.out HCM.out LMM.out BMM.out (SX.out _ hb) HXL.out SRX.out.2.1
          have C14 : Hid (∀ w', Below M wB w' → Calls Tryd.prog 14 #[.agg #[.int .i64 4, .int .i64 2, .int .i64 d, .slice A k c], .agg (bvals mm).toArray, .slice B len c5] w' fun e w'' => e = .returned (.int .i64 t) ∧ Below w'.heap.size w' w'') := fun w' hb => by
            rw [← ht]
            exact cCount k d A c mm B len c5 xs w' (KW.out _ (BN.out _ (KM.out _ hb))) (BS.out _ (KM.out _ hb)) LMM.out BMM.out (SX.out _ hb) HXL.out SRX.out.2.1 SRX.out.2.2 (by have := HK5.out; omega) (by omega)
          have C15 : Hid (∀ w', Below M wB w' → Calls Tryd.prog 15 #[.agg #[.int .i64 4, .int .i64 2, .int .i64 d, .slice A k c], .agg (bvals mm).toArray, .slice B len c5] w' fun e w'' => e = .returned (.int .i64 t) ∧ Below w'.heap.size w' w'') := fun w' hb => by
            rw [← ht]
            exact dCountM k d A c mm B len c5 xs w' (KW.out _ (BN.out _ (KM.out _ hb))) (BS.out _ (KM.out _ hb)) HC3.out HCM.out LMM.out BMM.out (SX.out _ hb) HXL.out SRX.out.2.1 SRX.out.2.2 (by have := HK5.out; omega)
          clear hxs hM hv ht SR
          have XX : Hid (Below M wB wB.drew) := (Below.refl _ _).drew
          refine wp_region_held_drew (S := (fun w' : World => ∀ q, q < M → w'.heap[q]? = wB.heap[q]?)) (by kernel_rfl) (by exact fun _ _ => rfl) (fun hHeld => ?_)
          refine wpAnyH_take (i := 0) rfl (by kernel_rfl) (by kernel_rfl) (by kernel_rfl) (fun _ _ _ h => h) (yieldsIf_load_mid (by rfl) 24 (.tmp 7) rfl (PBK) (0) rfl [.int .i64 4, .int .i64 2, .int .i64 d, .slice A k c] _ (fun w h => pb_range ((h _ (by have := LN.out; omega)).trans PQ.out)) Tryd.underlying24 rfl (pb_info 4 2 d _)) (by assumption) ?_
          simp only [Act.put, List.getElem_toArray, List.getElem_cons_zero, List.setIfInBounds_toArray, List.set_cons_zero, List.set_cons_succ]
          refine wpAnyH_take (i := 1) rfl (by kernel_rfl) (by kernel_rfl) (by kernel_rfl) (fun _ _ _ h => h) (yieldsIf_load_mid (by rfl) 32 (.tmp 8) rfl (PBK + 1) (0) rfl (bvals mm) _ (fun w h => ba_range (t := 32) ((h _ (by have := LN.out; omega)).trans MQ.out)) Tryd.underlying32 rfl him) (by assumption) ?_
          simp only [Act.put, List.getElem_toArray, List.getElem_cons_succ, List.getElem_cons_zero, List.setIfInBounds_toArray, List.set_cons_zero, List.set_cons_succ]
          refine wpAnyH_take (i := 2) (v := ?_) rfl (by kernel_rfl) (by kernel_rfl) (by kernel_rfl) (fun _ _ _ h => h) (Or.inl ⟨by rfl, ?_⟩) (by assumption) ?_
          rotate_left
          · (intro w hSw; (try dsimp only at hSw); go_simp; try with_reducible rfl)
          simp only [Act.put, List.getElem_toArray, List.getElem_cons_succ, List.getElem_cons_zero, List.setIfInBounds_toArray, List.set_cons_zero, List.set_cons_succ]
          refine wpAnyH_take (i := 4) rfl (by kernel_rfl) (by kernel_rfl) (by kernel_rfl) (fun _ _ _ h => h) (yieldsIf_load_mid (by rfl) 24 (.tmp 7) rfl (PBK) (0) rfl [.int .i64 4, .int .i64 2, .int .i64 d, .slice A k c] _ (fun w h => pb_range ((h _ (by have := LN.out; omega)).trans PQ.out)) Tryd.underlying24 rfl (pb_info 4 2 d _)) (by assumption) ?_
          simp only [Act.put, List.getElem_toArray, List.getElem_cons_succ, List.getElem_cons_zero, List.setIfInBounds_toArray, List.set_cons_zero, List.set_cons_succ]
          refine wpAnyH_take (i := 5) rfl (by kernel_rfl) (by kernel_rfl) (by kernel_rfl) (fun _ _ _ h => h) (yieldsIf_load_mid (by rfl) 32 (.tmp 8) rfl (PBK + 1) (0) rfl (bvals mm) _ (fun w h => ba_range (t := 32) ((h _ (by have := LN.out; omega)).trans MQ.out)) Tryd.underlying32 rfl him) (by assumption) ?_
          simp only [Act.put, List.getElem_toArray, List.getElem_cons_succ, List.getElem_cons_zero, List.setIfInBounds_toArray, List.set_cons_zero, List.set_cons_succ]
          refine wpAnyH_take (i := 6) (v := ?_) rfl (by kernel_rfl) (by kernel_rfl) (by kernel_rfl) (fun _ _ _ h => h) (Or.inl ⟨by rfl, ?_⟩) (by assumption) ?_
          rotate_left
          · (intro w hSw; (try dsimp only at hSw); go_simp; try with_reducible rfl)
          simp only [Act.put, List.getElem_toArray, List.getElem_cons_succ, List.getElem_cons_zero, List.setIfInBounds_toArray, List.set_cons_zero, List.set_cons_succ]
          refine wpAnyH_ready (rs := [3]) (by kernel_rfl) (by simp) ?_
          refine AllReadyH.cons rfl (fun K hK => ?_) AllReadyH.nil
          go_simp
          go_at_call 12
          refine (C12.out _ XX.out).mono ?_
          rintro e wc1 ⟨rfl, hba⟩
          have XN : Hid (Below M wB wc1) := XX.out.trans (hba.mono (by have := XX.out.size; have := WN.out; omega))
          clear XX hba hHeld
          have XX := XN
          clear XN
          (try go_wp2_with fail)
          refine hK.out _ _ (by exact fun q hq => XX.out.block q hq) (fun hHeld => ?_)
          clear hK K
          refine wpAnyH_ready (rs := [7]) (by kernel_rfl) (by simp) ?_
          refine AllReadyH.cons rfl (fun K hK => ?_) AllReadyH.nil
          go_simp
          go_at_call 13
          refine (C13.out _ XX.out).mono ?_
          rintro e wc2 ⟨rfl, hba⟩
          have XN : Hid (Below M wB wc2) := XX.out.trans (hba.mono (by have := XX.out.size; have := WN.out; omega))
          clear XX hba hHeld
          have XX := XN
          clear XN
          (try go_wp2_with fail)
          refine hK.out _ _ (by exact fun q hq => XX.out.block q hq) (fun hHeld => ?_)
          clear hK K
          refine wpAnyH_take (i := 8) (v := ?_) rfl (by kernel_rfl) (by kernel_rfl) (by kernel_rfl) (fun _ _ _ h => h) (Or.inl ⟨by rfl, ?_⟩) (by assumption) ?_
          rotate_left
          · (intro w hSw; (try dsimp only at hSw); go_simp; try with_reducible rfl)
          simp only [Act.put, List.getElem_toArray, List.getElem_cons_succ, List.getElem_cons_zero, List.setIfInBounds_toArray, List.set_cons_zero, List.set_cons_succ]
          refine wpAnyH_take (i := 9) (v := ?_) rfl (by kernel_rfl) (by kernel_rfl) (by kernel_rfl) (fun _ _ _ h => h) (Or.inl ⟨by rfl, ?_⟩) (by assumption) ?_
          rotate_left
          · (intro w hSw; (try dsimp only at hSw); go_simp; try with_reducible rfl)
          simp only [Act.put, List.getElem_toArray, List.getElem_cons_succ, List.getElem_cons_zero, List.setIfInBounds_toArray, List.set_cons_zero, List.set_cons_succ]
          refine wpAnyH_take (i := 10) rfl (by kernel_rfl) (by kernel_rfl) (by kernel_rfl) (fun _ _ _ h => h) (yieldsIf_load_mid (by rfl) 24 (.tmp 7) rfl (PBK) (0) rfl [.int .i64 4, .int .i64 2, .int .i64 d, .slice A k c] _ (fun w h => pb_range ((h _ (by have := LN.out; omega)).trans PQ.out)) Tryd.underlying24 rfl (pb_info 4 2 d _)) (by assumption) ?_
          simp only [Act.put, List.getElem_toArray, List.getElem_cons_succ, List.getElem_cons_zero, List.setIfInBounds_toArray, List.set_cons_zero, List.set_cons_succ]
          refine wpAnyH_take (i := 11) rfl (by kernel_rfl) (by kernel_rfl) (by kernel_rfl) (fun _ _ _ h => h) (yieldsIf_load_mid (by rfl) 32 (.tmp 8) rfl (PBK + 1) (0) rfl (bvals mm) _ (fun w h => ba_range (t := 32) ((h _ (by have := LN.out; omega)).trans MQ.out)) Tryd.underlying32 rfl him) (by assumption) ?_
          simp only [Act.put, List.getElem_toArray, List.getElem_cons_succ, List.getElem_cons_zero, List.setIfInBounds_toArray, List.set_cons_zero, List.set_cons_succ]
          refine wpAnyH_take (i := 12) (v := ?_) rfl (by kernel_rfl) (by kernel_rfl) (by kernel_rfl) (fun _ _ _ h => h) (Or.inl ⟨by rfl, ?_⟩) (by assumption) ?_
          rotate_left
          · (intro w hSw; (try dsimp only at hSw); go_simp; try with_reducible rfl)
          simp only [Act.put, List.getElem_toArray, List.getElem_cons_succ, List.getElem_cons_zero, List.setIfInBounds_toArray, List.set_cons_zero, List.set_cons_succ]
          refine wpAnyH_take (i := 14) rfl (by kernel_rfl) (by kernel_rfl) (by kernel_rfl) (fun _ _ _ h => h) (yieldsIf_load_mid (by rfl) 24 (.tmp 7) rfl (PBK) (0) rfl [.int .i64 4, .int .i64 2, .int .i64 d, .slice A k c] _ (fun w h => pb_range ((h _ (by have := LN.out; omega)).trans PQ.out)) Tryd.underlying24 rfl (pb_info 4 2 d _)) (by assumption) ?_
          simp only [Act.put, List.getElem_toArray, List.getElem_cons_succ, List.getElem_cons_zero, List.setIfInBounds_toArray, List.set_cons_zero, List.set_cons_succ]
          refine wpAnyH_take (i := 15) rfl (by kernel_rfl) (by kernel_rfl) (by kernel_rfl) (fun _ _ _ h => h) (yieldsIf_load_mid (by rfl) 32 (.tmp 8) rfl (PBK + 1) (0) rfl (bvals mm) _ (fun w h => ba_range (t := 32) ((h _ (by have := LN.out; omega)).trans MQ.out)) Tryd.underlying32 rfl him) (by assumption) ?_
          simp only [Act.put, List.getElem_toArray, List.getElem_cons_succ, List.getElem_cons_zero, List.setIfInBounds_toArray, List.set_cons_zero, List.set_cons_succ]
          refine wpAnyH_take (i := 16) (v := ?_) rfl (by kernel_rfl) (by kernel_rfl) (by kernel_rfl) (fun _ _ _ h => h) (Or.inl ⟨by rfl, ?_⟩) (by assumption) ?_
          rotate_left
          · (intro w hSw; (try dsimp only at hSw); go_simp; try with_reducible rfl)
          simp only [Act.put, List.getElem_toArray, List.getElem_cons_succ, List.getElem_cons_zero, List.setIfInBounds_toArray, List.set_cons_zero, List.set_cons_succ]
          refine wpAnyH_ready (rs := [13]) (by kernel_rfl) (by simp) ?_
          refine AllReadyH.cons rfl (fun K hK => ?_) AllReadyH.nil
          go_simp
          go_at_call 14
          refine (C14.out _ XX.out).mono ?_
          rintro e wc3 ⟨rfl, hba⟩
          have XN : Hid (Below M wB wc3) := XX.out.trans (hba.mono (by have := XX.out.size; have := WN.out; omega))
          clear XX hba hHeld
          have XX := XN
          clear XN
          (try go_wp2_with fail)
          refine hK.out _ _ (by exact fun q hq => XX.out.block q hq) (fun hHeld => ?_)
          clear hK K
          refine wpAnyH_ready (rs := [17]) (by kernel_rfl) (by simp) ?_
          refine AllReadyH.cons rfl (fun K hK => ?_) AllReadyH.nil
          go_simp
          go_at_call 15
          refine (C15.out _ XX.out).mono ?_
          rintro e wc4 ⟨rfl, hba⟩
          have XN : Hid (Below M wB wc4) := XX.out.trans (hba.mono (by have := XX.out.size; have := WN.out; omega))
          clear XX hba hHeld
          have XX := XN
          clear XN
          (try go_wp2_with fail)
          refine hK.out _ _ (by exact fun q hq => XX.out.block q hq) (fun hHeld => ?_)
          clear hK K
          refine wpAnyH_take (i := 18) (v := ?_) rfl (by kernel_rfl) (by kernel_rfl) (by kernel_rfl) (fun _ _ _ h => h) (Or.inl ⟨by rfl, ?_⟩) (by assumption) ?_
          rotate_left
          · (intro w hSw; (try dsimp only at hSw); go_simp; try with_reducible rfl)
          simp only [Act.put, List.getElem_toArray, List.getElem_cons_succ, List.getElem_cons_zero, List.setIfInBounds_toArray, List.set_cons_zero, List.set_cons_succ]
          refine wpAnyH_take (i := 19) (v := ?_) rfl (by kernel_rfl) (by kernel_rfl) (by kernel_rfl) (fun _ _ _ h => h) (Or.inl ⟨by rfl, ?_⟩) (by assumption) ?_
          rotate_left
          · (intro w hSw; (try dsimp only at hSw); go_simp; try with_reducible rfl)
          simp only [Act.put, List.getElem_toArray, List.getElem_cons_succ, List.getElem_cons_zero, List.setIfInBounds_toArray, List.set_cons_zero, List.set_cons_succ]
          refine wpAnyH_take (i := 20) (v := ?_) rfl (by kernel_rfl) (by kernel_rfl) (by kernel_rfl) (fun _ _ _ h => h) (Or.inl ⟨by rfl, ?_⟩) (by assumption) ?_
          rotate_left
          · (intro w hSw; (try dsimp only at hSw); go_simp; try with_reducible rfl)
          simp only [Act.put, List.getElem_toArray, List.getElem_cons_succ, List.getElem_cons_zero, List.setIfInBounds_toArray, List.set_cons_zero, List.set_cons_succ]
          refine wpAnyH_done (by kernel_rfl) ?_ _
          go_wp2
          go_ret
          exact ⟨rfl, by rw [HS.out]; exact BN.out _ (KM.out _ XX.out)⟩
    · have h8 : decide ((50 : Int) < (len2 : Int)) = true := decide_eq_true (by omega)
      have h9 : decide (50 < len2) = true := decide_eq_true (by omega)
      go_wp2
      go_ret
      exact ⟨rfl, by (try rw [HS.out]); exact B1.out⟩
  · have g8 : decide ((8 : Int) < (len : Int)) = true := decide_eq_true (by omega)
    have g9 : decide (8 < len) = true := decide_eq_true (by omega)
    go_wp2
    go_ret
    exact ⟨rfl, by (try rw [HS.out]); exact B1.out⟩
end Go.Proofs.YtfneopmgckejdaaDoor
