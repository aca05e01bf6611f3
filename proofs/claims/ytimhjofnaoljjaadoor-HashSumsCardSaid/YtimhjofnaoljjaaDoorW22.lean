/-
  The walk of HashSums.
-/
import Derived.Test.YtimhjofnaoljjaaDoorW21
namespace Go.Proofs.YtimhjofnaoljjaaDoor
open Go.RowKit
def tot (pl : Nat → Nat) : Nat → Nat
  | 0 => 0
  | k + 1 => tot pl k + pl k
def cat (px : Nat → List Int) : Nat → List Int
  | 0 => []
  | k + 1 => cat px k ++ px k
theorem tot_le (pl : Nat → Nat) (n : Nat) (h : ∀ i, i < n → pl i ≤ 140737488351232) : ∀ k, k ≤ n → tot pl k ≤ k * 140737488351232 := by
  intro k hk
  induction k with
  | zero => simp [tot]
  | succ k ih =>
    have := ih (by omega)
    have := h k (by omega)
    rw [tot]
    omega
theorem tot_mono (pl : Nat → Nat) {k n : Nat} (h : k ≤ n) : tot pl k ≤ tot pl n := by
  induction n with
  | zero => obtain rfl : k = 0 := by omega
            exact Nat.le_refl _
  | succ n ih =>
    by_cases e : k = n + 1
    · subst e; exact Nat.le_refl _
    · have := ih (by omega)
      rw [tot]
      omega
theorem cat_len (pl : Nat → Nat) (px : Nat → List Int) : ∀ k, (∀ i, i < k → (px i).length = pl i) → (cat px k).length = tot pl k
  | 0, _ => rfl
  | k + 1, h => by rw [cat, List.length_append, cat_len pl px k (fun i hi => h i (by omega)), h k (by omega), tot]
theorem msg_tot (p : Int) (pl : Nat → Nat) (px : Nat → List Int) : ∀ k, (∀ i, i < k → (px i).length = pl i) → (msg p pl px k).length = 1 + 4 * k + tot pl k
  | 0, _ => rfl
  | k + 1, h => by
    rw [msg1, List.length_append, List.length_append, digs_len, msg_tot p pl px k (fun i hi => h i (by omega)), h k (by omega), tot]
    omega
theorem eSS (m : List Int) (w : World) : (Op.equalIn 10000 23 (.agg (ba (sha m))) (.agg (ba (sha m)))).run Tryd.prog w = .ok true w := by
  have := eq_ba 23 32 9998 Tryd.underlying23 (sha m) (sha m) w (sha_len m) (sha_len m)
  rw [decide_eq_true rfl] at this
  exact this
theorem sixteen : ∀ (h : List Int), h.length = 16 → ∃ x0 x1 x2 x3 x4 x5 x6 x7 y0 y1 y2 y3 y4 y5 y6 y7, h = [x0, x1, x2, x3, x4, x5, x6, x7] ++ [y0, y1, y2, y3, y4, y5, y6, y7]
  | [x0, x1, x2, x3, x4, x5, x6, x7, y0, y1, y2, y3, y4, y5, y6, y7], _ => ⟨x0, x1, x2, x3, x4, x5, x6, x7, y0, y1, y2, y3, y4, y5, y6, y7, rfl⟩
theorem cells16 {w : World} {Q : Nat} {t : TypeId} (x0 x1 x2 x3 x4 x5 x6 x7 y0 y1 y2 y3 y4 y5 y6 y7 : Int) (h : BA w Q t ([x0, x1, x2, x3, x4, x5, x6, x7] ++ [y0, y1, y2, y3, y4, y5, y6, y7])) : (w.cell? ⟨Q, 0, none⟩ = some (.int .u8 x0) ∧ w.cell? ⟨Q, 1, none⟩ = some (.int .u8 x1) ∧ w.cell? ⟨Q, 2, none⟩ = some (.int .u8 x2) ∧ w.cell? ⟨Q, 3, none⟩ = some (.int .u8 x3) ∧ w.cell? ⟨Q, 4, none⟩ = some (.int .u8 x4) ∧ w.cell? ⟨Q, 5, none⟩ = some (.int .u8 x5) ∧ w.cell? ⟨Q, 6, none⟩ = some (.int .u8 x6) ∧ w.cell? ⟨Q, 7, none⟩ = some (.int .u8 x7)) ∧ (w.cell? ⟨Q, 8, none⟩ = some (.int .u8 y0) ∧ w.cell? ⟨Q, 9, none⟩ = some (.int .u8 y1) ∧ w.cell? ⟨Q, 10, none⟩ = some (.int .u8 y2) ∧ w.cell? ⟨Q, 11, none⟩ = some (.int .u8 y3) ∧ w.cell? ⟨Q, 12, none⟩ = some (.int .u8 y4) ∧ w.cell? ⟨Q, 13, none⟩ = some (.int .u8 y5) ∧ w.cell? ⟨Q, 14, none⟩ = some (.int .u8 y6) ∧ w.cell? ⟨Q, 15, none⟩ = some (.int .u8 y7)) :=
  ⟨⟨ba_cell h 0 (by simp), ba_cell h 1 (by simp), ba_cell h 2 (by simp), ba_cell h 3 (by simp), ba_cell h 4 (by simp), ba_cell h 5 (by simp), ba_cell h 6 (by simp), ba_cell h 7 (by simp)⟩, ⟨ba_cell h 8 (by simp), ba_cell h 9 (by simp), ba_cell h 10 (by simp), ba_cell h 11 (by simp), ba_cell h 12 (by simp), ba_cell h 13 (by simp), ba_cell h 14 (by simp), ba_cell h 15 (by simp)⟩⟩
theorem tot1 (pl : Nat → Nat) (k : Nat) : tot pl (k + 1) = tot pl k + pl k := rfl
theorem cat1 (px : Nat → List Int) (k : Nat) : cat px (k + 1) = cat px k ++ px k := rfl
theorem tot0 (pl : Nat → Nat) : tot pl 0 = 0 := rfl
theorem cat0 (px : Nat → List Int) : cat px 0 = [] := rfl
attribute [local irreducible] ua da ba kk sw S8.run rt hs comp splice outB sha msg tot cat
set_option maxRecDepth 100000 in
set_option maxHeartbeats 4000000 in
theorem walkSums (h13 : Sum13) (p : Int) (A : Option Addr) (n cap : Nat) (pa : Nat → Option Addr) (pl pc : Nat → Nat) (px : Nat → List Int) (h : List Int) (w : World) (hk : Keys w) (hp : Prts w A n pa pl pc px) (hno : ∀ i, i < n → pa i = none → pc i = 0) (hn : n ≤ 140737488351232) (hpl : ∀ i, i < n → pl i ≤ 140737488351232) (hh : h.length = 16) :
    Calls Tryd.prog 4 #[.int .u8 p, .slice A n cap, .agg (ba h)] w fun e w' => e = .returned (.bool true) ∧ Below w.heap.size w w' := by
  obtain ⟨i0, hi, hz0, hz1, hz2⟩ := info_parts info5
  have HI := Lib.hid hi
  have HI0 := Lib.hid hz0
  have HI1 := Lib.hid hz1
  have HI2 := Lib.hid hz2
  clear hi hz0 hz1 hz2
  have HP := Lib.hid hp
  have HNO := Lib.hid hno
  have HPL := Lib.hid hpl
  have H13 := Lib.hid h13
  have HPOS : Hid (0 < w.heap.size) := keys_pos hk
  have HXL : Hid (∀ i, i < n → (px i).length = pl i) := fun i hi => (hp.src i hi).1
  obtain ⟨x0, x1, x2, x3, x4, x5, x6, x7, y0, y1, y2, y3, y4, y5, y6, y7, rfl⟩ := sixteen h hh
  obtain ⟨Q, hQ⟩ : ∃ Q, w.heap.size = Q := ⟨_, rfl⟩
  have T0 : Hid (BA (w.alloc (Obj.cells (ba ([x0, x1, x2, x3, x4, x5, x6, x7] ++ [y0, y1, y2, y3, y4, y5, y6, y7])) 32)) Q 32 ([x0, x1, x2, x3, x4, x5, x6, x7] ++ [y0, y1, y2, y3, y4, y5, y6, y7])) := by subst hQ; exact heap_alloc_last w _
  have B0 : Hid (Below Q w (w.alloc (Obj.cells (ba ([x0, x1, x2, x3, x4, x5, x6, x7] ++ [y0, y1, y2, y3, y4, y5, y6, y7])) 32))) := by subst hQ; exact (Below.refl _ w).alloc (Nat.le_refl _) _
  have HQ := Lib.hid hQ
  have K0 := keys_below hk B0.out (by rw [← HQ.out]; exact HPOS.out)
  have C8 := Lib.hid (c8 _ K0)
  have HK := Lib.hid hk
  clear hk hp hno hpl h13 hh K0
  go_enter Tryd.func4, Tryd.ntmps4
  go_wp2_with (go_at_call 8; refine C8.out.mono ?_; rintro e w1 ⟨rfl, hb1⟩; have T1 : Hid (BA w1 Q 32 ([x0, x1, x2, x3, x4, x5, x6, x7] ++ [y0, y1, y2, y3, y4, y5, y6, y7])) := (hb1.block Q (lt_of_block T0.out)).trans T0.out; have B1 : Hid (Below Q w w1) := B0.out.trans (hb1.mono (Nat.le_of_lt (lt_of_block T0.out))); clear hb1)
  clear hQ T0 B0 C8
  have PW : Hid (Prts w1 A n pa pl pc px) := HP.out.keep (fun q hq => B1.out.block q (by rw [← HQ.out]; exact hq))
  have QL : Hid (Q < w1.heap.size) := lt_of_block T1.out
  by_cases h20 : n ≤ 20
  · have TL : Hid (∀ k, k ≤ n → tot pl k ≤ 2814749767024640) := fun k hkn => by have := tot_le pl n HPL.out k hkn; omega
    go_loop [7, 8] (fun v i => ∃ k : Nat, k ≤ n ∧ i = .int .i64 k ∧ v = .int .i64 ((tot pl k : Nat) : Int)) (fun _ i => n - (intOf i).toNat)
    case atStart => exact ⟨0, Nat.zero_le _, rfl, by rw [tot0]; rfl⟩
    case round =>
      obtain ⟨k, hkn, rfl, rfl⟩ := hrel
      by_cases hlt : k < n
      · obtain ⟨g, off, rfl, hcell⟩ := PW.out.cell.resolve_left (by omega)
        have x0 := hcell k hlt
        have b1 := TL.out (k + 1) hlt
        obtain ⟨z1, hz1⟩ : ∃ z, tot pl (k + 1) = z := ⟨_, rfl⟩
        obtain ⟨z0, hz0⟩ : ∃ z, tot pl k = z := ⟨_, rfl⟩
        rw [hz1] at b1
        have e1 : (z0 : Int) + (pl k : Int) = (z1 : Int) := by
          have : tot pl (k + 1) = tot pl k + pl k := tot1 pl k
          omega
        have HZ1 := Lib.hid hz1
        have HLT := Lib.hid hlt
        have q1 : (k : Int) < (n : Int) := by omega
        rw [hz0]
        clear hcell hz1 hz0
        generalize pl k = lk at *
        generalize pa k = ak at *
        generalize pc k = ck at *
        go_wp2
        go_round
        case rel => exact ⟨k + 1, HLT.out, by go_num, by rw [HZ1.out]⟩
        case measure => have := HLT.out; simp [intOf]; omega
      · obtain rfl : k = n := by omega
        have b1 := TL.out k (Nat.le_refl _)
        obtain ⟨z, hz⟩ : ∃ z, tot pl k = z := ⟨_, rfl⟩
        rw [hz] at b1 ⊢
        have HZ := Lib.hid hz
        have q20 : ¬ (20 : Int) < (k : Int) := by omega
        clear hz hlt
        by_cases h5 : z ≤ 5000
        · have q5 : ¬ (5000 : Int) < (z : Int) := by omega
          obtain ⟨Z, hZ⟩ : ∃ Z, w1.heap.size = Z := ⟨_, rfl⟩
          have HZZ := Lib.hid hZ
          clear hZ
          go_wp2_with fail
          go_loopw [9, 10] (fun v i wr => ∃ (j l : Nat) (A' : Option Addr) (c : Nat), j ≤ k ∧ i = .int .i64 j ∧ v = .slice A' l c ∧ l = tot pl j ∧ wr.ownsRow Z 5 1 (.slice A' l c) l (bvals (cat px j)) ∧ Below Z w1 wr) (fun _ i _ => k - (intOf i).toNat)
          case atStart => exact ⟨0, 0, none, 0, Nat.zero_le _, rfl, rfl, (tot0 pl).symm, by rw [cat0]; exact own_nil _ _, Below.refl _ _⟩
          case round =>
            obtain ⟨j, l, A', c, hj, rfl, rfl, hl, hown, hbel⟩ := hrel
            have OW := Lib.hid hown
            have BB := Lib.hid hbel
            have HL := Lib.hid hl
            have ZR : Hid (Z ≤ wr.heap.size) := by show _ ≤ _; rw [← HZZ.out]; exact BB.out.size
            have hz0 := HZ.out
            clear hown hbel hl
            by_cases hlt : j < k
            · obtain ⟨g, off, rfl, hcell⟩ := PW.out.cell.resolve_left (by omega)
              have x0 : wr.cell? ⟨g, off + j, none⟩ = some (.slice (pa j) (pl j) (pc j)) := by
                rw [World.cell?_of_block (w := w1) (w' := wr) (a := ⟨g, off + j, none⟩) (BB.out.block g (by rw [← HZZ.out]; exact World.block_lt_of_cell? w1 ⟨g, off + j, none⟩ (hcell j hlt)))]
                exact hcell j hlt
              have SRC : Hid (Src wr (pa j) (pl j) (px j)) := (PW.out.src j hlt).keep (fun q hq => BB.out.block q (by rw [← HZZ.out]; exact hq))
              have hm := tot_mono pl (show j + 1 ≤ k by omega)
              have ht1 : tot pl (j + 1) = l + pl j := by rw [tot1, ← HL.out]
              have hsum : l + pl j ≤ 5000 := by rw [← ht1]; omega
              have HT1 := Lib.hid ht1
              have HLT := Lib.hid hlt
              have HNK := Lib.hid (HNO.out j hlt)
              have q1 : (j : Int) < (k : Int) := by omega
              clear hcell hm ht1
              generalize hlj : pl j = lj at *
              generalize pa j = aj at *
              generalize pc j = cj at *
              go_wp2_with (at_builtin; refine wpList_app rfl (.tmp 39) (.tmp 43) 25 rfl i0 Tryd.underlying25 HI.out HI0.out HI1.out HI2.out Z l (.slice A' l c) (cat px j) rfl OW.out aj lj cj (px j) rfl SRC.out HNK.out (by unfold maxLen; omega) (by omega) ZR.out ?_; intro A6 c6 w6 hown6 hg6 _; have O6 := Lib.hid hown6; have B6 : Hid (Below Z w1 w6) := BB.out.grown hg6 ZR.out (own_base OW.out); clear hown6 hg6)
              go_roundw
              case rel => exact ⟨j + 1, l + lj, A6, c6, HLT.out, by go_num, rfl, HT1.out.symm, by rw [cat1]; exact O6.out, B6.out⟩
              case measure => have := HLT.out; simp [intOf]; omega
            · obtain rfl : j = k := by omega
              have hlz : l = z := by rw [HL.out]; exact HZ.out
              obtain ⟨M, hM⟩ : ∃ M, cat px j = M := ⟨_, rfl⟩
              have SM : Hid (Src wr A' l M ∧ l ≤ c ∧ (A' = none → c = 0) ∧ c ≤ maxLen) := by
                have := src_own OW.out
                rw [hM] at this
                exact this
              have hl5 : l ≤ 5000 := by omega
              obtain ⟨V, hV⟩ : ∃ V, wr.heap.size = V := ⟨_, rfl⟩
              generalize hwB : wr = wB at *
              have X0 : Hid (Below V wB wB) := Below.refl _ _
              have HV := Lib.hid hV
              have XS : Hid (V ≤ wB.heap.size) := Nat.le_of_eq hV.symm
              have ZV : Hid (Z ≤ V) := by show _ ≤ _; rw [← hV]; exact ZR.out
              have BQ1 : Hid (Below Q w wB) := B1.out.trans (BB.out.mono (by rw [← HZZ.out]; have := QL.out; omega))
              have BK : Hid (∀ w', Below V wB w' → Keys w') := fun w' hb => keys_below (keys_below HK.out BQ1.out (by rw [← HQ.out]; exact HPOS.out)) hb (by have := QL.out; have := HZZ.out; have := ZV.out; omega)
              have BSM : Hid (∀ w', Below V wB w' → Src w' A' l M) := fun w' hb => SM.out.1.keep (fun q hq => hb.block q (by rw [← hV]; exact hq))
              have BPR : Hid (∀ w', Below V wB w' → Prts w' A j pa pl pc px) := fun w' hb => PW.out.keep (fun q hq => (hb.block q (by have := HZZ.out; have := ZV.out; omega)).trans (BB.out.block q (by rw [← HZZ.out]; exact hq)))
              have hmt : (msg p pl px j).length ≤ 400000 := by rw [msg_tot p pl px j HXL.out, HZ.out]; omega
              obtain ⟨MM, hMM⟩ : ∃ MM, msg p pl px j = MM := ⟨_, rfl⟩
              obtain ⟨a0, a1, a2, a3, a4, a5, a6, a7, ha8, _⟩ := sum8 MM
              obtain ⟨b0, b1, b2, b3, b4, b5, b6, b7, hb8, _⟩ := sum8 (twoM p [x0, x1, x2, x3, x4, x5, x6, x7] [y0, y1, y2, y3, y4, y5, y6, y7])
              have D9 : Hid (∀ w', Below V wB w' → Calls Tryd.prog 9 #[.slice A' l c] w' fun e w'' => e = .returned (.agg (ba (sha M))) ∧ Below w'.heap.size w' w'') := fun w' hb => c9 A' l c M w' (BK.out w' hb) (BSM.out w' hb) (by omega) SM.out.2.1 (by have := SM.out.2.2.2; unfold maxLen at this; omega)
              have D13 : Hid (∀ w', Below V wB w' → Calls Tryd.prog 13 #[.slice A' l c] w' fun e w'' => e = .returned (.agg (ba (sha M))) ∧ Below w'.heap.size w' w'') := fun w' hb => H13.out A' l c M w' (BSM.out w' hb) SM.out.2.2.1 (by omega)
              have D10 : Hid (∀ w', Below V wB w' → Calls Tryd.prog 10 #[.int .u8 p, .slice A j cap] w' fun e w'' => e = .returned (.agg #[.int .u8 a0, .int .u8 a1, .int .u8 a2, .int .u8 a3, .int .u8 a4, .int .u8 a5, .int .u8 a6, .int .u8 a7]) ∧ Below w'.heap.size w' w'') := fun w' hb => by
                have := c10 p A j cap pa pl pc px w' (BK.out w' hb) (BPR.out w' hb) hmt
                rw [hMM, ha8, ba_lit] at this
                exact this
              have D12 : Hid (∀ w', Below V wB w' → Calls Tryd.prog 12 #[.int .u8 p, .slice A j cap] w' fun e w'' => e = .returned (.agg #[.int .u8 a0, .int .u8 a1, .int .u8 a2, .int .u8 a3, .int .u8 a4, .int .u8 a5, .int .u8 a6, .int .u8 a7]) ∧ Below w'.heap.size w' w'') := fun w' hb => by
                have := c12 H13.out p A j cap pa pl pc px w' (BPR.out w' hb) HNO.out hmt
                rw [hMM, ha8, ba_lit] at this
                exact this
              have D14 : Hid (∀ w', Below V wB w' → Calls Tryd.prog 14 #[.int .u8 p, .agg #[.int .u8 x0, .int .u8 x1, .int .u8 x2, .int .u8 x3, .int .u8 x4, .int .u8 x5, .int .u8 x6, .int .u8 x7], .agg #[.int .u8 y0, .int .u8 y1, .int .u8 y2, .int .u8 y3, .int .u8 y4, .int .u8 y5, .int .u8 y6, .int .u8 y7]] w' fun e w'' => e = .returned (.agg #[.int .u8 b0, .int .u8 b1, .int .u8 b2, .int .u8 b3, .int .u8 b4, .int .u8 b5, .int .u8 b6, .int .u8 b7]) ∧ Below w'.heap.size w' w'') := fun w' hb => by
                have := c14 p [x0, x1, x2, x3, x4, x5, x6, x7] [y0, y1, y2, y3, y4, y5, y6, y7] w' (BK.out w' hb) rfl rfl
                rw [hb8, ba_lit, ba_lit, ba_lit] at this
                exact this
              have D15 : Hid (∀ w', Below V wB w' → Calls Tryd.prog 15 #[.int .u8 p, .agg #[.int .u8 x0, .int .u8 x1, .int .u8 x2, .int .u8 x3, .int .u8 x4, .int .u8 x5, .int .u8 x6, .int .u8 x7], .agg #[.int .u8 y0, .int .u8 y1, .int .u8 y2, .int .u8 y3, .int .u8 y4, .int .u8 y5, .int .u8 y6, .int .u8 y7]] w' fun e w'' => e = .returned (.agg #[.int .u8 b0, .int .u8 b1, .int .u8 b2, .int .u8 b3, .int .u8 b4, .int .u8 b5, .int .u8 b6, .int .u8 b7]) ∧ Below w'.heap.size w' w'') := fun w' hb => by
                have := c15 H13.out p [x0, x1, x2, x3, x4, x5, x6, x7] [y0, y1, y2, y3, y4, y5, y6, y7] w' rfl rfl
                rw [hb8, ba_lit, ba_lit, ba_lit] at this
                exact this
              obtain ⟨zz, hzz⟩ : ∃ zz, decide ([x0, x1, x2, x3, x4, x5, x6, x7] = zeros 8) = zz := ⟨_, rfl⟩
              have D16 : Hid (∀ w', Below V wB w' → Calls Tryd.prog 16 #[.agg #[.int .u8 x0, .int .u8 x1, .int .u8 x2, .int .u8 x3, .int .u8 x4, .int .u8 x5, .int .u8 x6, .int .u8 x7]] w' fun e w'' => e = .returned (.bool zz) ∧ Below w'.heap.size w' w'') := fun w' hb => by
                have := c16 [x0, x1, x2, x3, x4, x5, x6, x7] w' rfl
                rw [hzz, ba_lit] at this
                exact this
              have KF : Hid (∀ w', Below V wB w' → (w'.cell? ⟨Q, 0, none⟩ = some (.int .u8 x0) ∧ w'.cell? ⟨Q, 1, none⟩ = some (.int .u8 x1) ∧ w'.cell? ⟨Q, 2, none⟩ = some (.int .u8 x2) ∧ w'.cell? ⟨Q, 3, none⟩ = some (.int .u8 x3) ∧ w'.cell? ⟨Q, 4, none⟩ = some (.int .u8 x4) ∧ w'.cell? ⟨Q, 5, none⟩ = some (.int .u8 x5) ∧ w'.cell? ⟨Q, 6, none⟩ = some (.int .u8 x6) ∧ w'.cell? ⟨Q, 7, none⟩ = some (.int .u8 x7)) ∧ (w'.cell? ⟨Q, 8, none⟩ = some (.int .u8 y0) ∧ w'.cell? ⟨Q, 9, none⟩ = some (.int .u8 y1) ∧ w'.cell? ⟨Q, 10, none⟩ = some (.int .u8 y2) ∧ w'.cell? ⟨Q, 11, none⟩ = some (.int .u8 y3) ∧ w'.cell? ⟨Q, 12, none⟩ = some (.int .u8 y4) ∧ w'.cell? ⟨Q, 13, none⟩ = some (.int .u8 y5) ∧ w'.cell? ⟨Q, 14, none⟩ = some (.int .u8 y6) ∧ w'.cell? ⟨Q, 15, none⟩ = some (.int .u8 y7))) := fun w' hb => cells16 (t := 32) x0 x1 x2 x3 x4 x5 x6 x7 y0 y1 y2 y3 y4 y5 y6 y7 ((hb.block Q (by have := QL.out; have := HZZ.out; have := ZV.out; omega)).trans ((BB.out.block Q (by rw [← HZZ.out]; exact QL.out)).trans T1.out))
              have f1 := eSS M
              have f2 := eqT a0 a1 a2 a3 a4 a5 a6 a7
              have f3 := eqT b0 b1 b2 b3 b4 b5 b6 b7
              have f4 : ∀ w, (Op.equalIn 10000 27 (.agg #[.int .u8 x0, .int .u8 x1, .int .u8 x2, .int .u8 x3, .int .u8 x4, .int .u8 x5, .int .u8 x6, .int .u8 x7]) (.agg #[.int .u8 0, .int .u8 0, .int .u8 0, .int .u8 0, .int .u8 0, .int .u8 0, .int .u8 0, .int .u8 0])).run Tryd.prog w = .ok zz w := fun w => by
                have := eq_ba 27 8 9998 Tryd.underlying27 [x0, x1, x2, x3, x4, x5, x6, x7] (zeros 8) w rfl rfl
                rw [ba_lit, ba8, hzz] at this
                exact this
              have hzt : (zz == zz) = true := by simp
              obtain ⟨⟨u0, u1, u2, u3, u4, u5, u6, u7⟩, ⟨v0, v1, v2, v3, v4, v5, v6, v7⟩⟩ := KF.out wB X0.out
              clear hwB hzz ha8 hb8 hMM hmt hM hlz hl5 hV
              go_wp2_with fail
              go_region_held3 (fun w' => (w'.cell? ⟨Q, 0, none⟩ = some (.int .u8 x0) ∧ w'.cell? ⟨Q, 1, none⟩ = some (.int .u8 x1) ∧ w'.cell? ⟨Q, 2, none⟩ = some (.int .u8 x2) ∧ w'.cell? ⟨Q, 3, none⟩ = some (.int .u8 x3) ∧ w'.cell? ⟨Q, 4, none⟩ = some (.int .u8 x4) ∧ w'.cell? ⟨Q, 5, none⟩ = some (.int .u8 x5) ∧ w'.cell? ⟨Q, 6, none⟩ = some (.int .u8 x6) ∧ w'.cell? ⟨Q, 7, none⟩ = some (.int .u8 x7)) ∧ (w'.cell? ⟨Q, 8, none⟩ = some (.int .u8 y0) ∧ w'.cell? ⟨Q, 9, none⟩ = some (.int .u8 y1) ∧ w'.cell? ⟨Q, 10, none⟩ = some (.int .u8 y2) ∧ w'.cell? ⟨Q, 11, none⟩ = some (.int .u8 y3) ∧ w'.cell? ⟨Q, 12, none⟩ = some (.int .u8 y4) ∧ w'.cell? ⟨Q, 13, none⟩ = some (.int .u8 y5) ∧ w'.cell? ⟨Q, 14, none⟩ = some (.int .u8 y6) ∧ w'.cell? ⟨Q, 15, none⟩ = some (.int .u8 y7))) (first | exact KKg.out | exact KKf.out | exact KKe.out | exact KKd.out | exact KKc.out | exact KKb.out | exact KKa.out | go_keep)
                (first
                  | (go_at_call 9; refine (D9.out _ (by first | exact X0.out | exact X0.out.drew)).mono ?_; rintro e wa ⟨rfl, hba⟩; have Xa : Hid (Below V wB wa) := (by first | exact X0.out.trans (hba.mono (Nat.le_trans XS.out X0.out.size)) | exact X0.out.drew.trans (hba.mono (Nat.le_trans XS.out X0.out.drew.size))); have KKa := Lib.hid (KF.out wa Xa.out); clear hba)
                  | (go_at_call 13; refine (D13.out _ (by first | exact Xa.out | exact Xa.out.drew)).mono ?_; rintro e wb ⟨rfl, hbb⟩; have Xb : Hid (Below V wB wb) := (by first | exact Xa.out.trans (hbb.mono (Nat.le_trans XS.out Xa.out.size)) | exact Xa.out.drew.trans (hbb.mono (Nat.le_trans XS.out Xa.out.drew.size))); have KKb := Lib.hid (KF.out wb Xb.out); clear hbb)
                  | (go_at_call 10; refine (D10.out _ (by first | exact Xb.out | exact Xb.out.drew)).mono ?_; rintro e wc ⟨rfl, hbc⟩; have Xc : Hid (Below V wB wc) := (by first | exact Xb.out.trans (hbc.mono (Nat.le_trans XS.out Xb.out.size)) | exact Xb.out.drew.trans (hbc.mono (Nat.le_trans XS.out Xb.out.drew.size))); have KKc := Lib.hid (KF.out wc Xc.out); clear hbc)
                  | (go_at_call 12; refine (D12.out _ (by first | exact Xc.out | exact Xc.out.drew)).mono ?_; rintro e wd ⟨rfl, hbd⟩; have Xd : Hid (Below V wB wd) := (by first | exact Xc.out.trans (hbd.mono (Nat.le_trans XS.out Xc.out.size)) | exact Xc.out.drew.trans (hbd.mono (Nat.le_trans XS.out Xc.out.drew.size))); have KKd := Lib.hid (KF.out wd Xd.out); clear hbd)
                  | (go_at_call 14; refine (D14.out _ (by first | exact Xd.out | exact Xd.out.drew)).mono ?_; rintro e we ⟨rfl, hbe⟩; have Xe : Hid (Below V wB we) := (by first | exact Xd.out.trans (hbe.mono (Nat.le_trans XS.out Xd.out.size)) | exact Xd.out.drew.trans (hbe.mono (Nat.le_trans XS.out Xd.out.drew.size))); have KKe := Lib.hid (KF.out we Xe.out); clear hbe)
                  | (go_at_call 15; refine (D15.out _ (by first | exact Xe.out | exact Xe.out.drew)).mono ?_; rintro e wf ⟨rfl, hbf⟩; have Xf : Hid (Below V wB wf) := (by first | exact Xe.out.trans (hbf.mono (Nat.le_trans XS.out Xe.out.size)) | exact Xe.out.drew.trans (hbf.mono (Nat.le_trans XS.out Xe.out.drew.size))); have KKf := Lib.hid (KF.out wf Xf.out); clear hbf)
                  | (go_at_call 16; refine (D16.out _ (by first | exact Xf.out | exact Xf.out.drew)).mono ?_; rintro e wg ⟨rfl, hbg⟩; have Xg : Hid (Below V wB wg) := (by first | exact Xf.out.trans (hbg.mono (Nat.le_trans XS.out Xf.out.size)) | exact Xf.out.drew.trans (hbg.mono (Nat.le_trans XS.out Xf.out.drew.size))); have KKg := Lib.hid (KF.out wg Xg.out); clear hbg))
              clear u0 u1 u2 u3 u4 u5 u6 u7 v0 v1 v2 v3 v4 v5 v6 v7
              go_wp2
              go_ret
              have hQV : Q ≤ V := by have := QL.out; have := HZZ.out; have := ZV.out; omega
              exact ⟨rfl, by rw [HQ.out]; first | exact BQ1.out.trans (Xg.out.mono hQV) | exact BQ1.out.trans (Xg.out.drew.mono hQV)⟩
        · have q5 : (5000 : Int) < (z : Int) := by omega
          go_wp2
          go_ret
          exact ⟨rfl, by rw [HQ.out]; exact B1.out⟩
  · go_loop [7, 8] (fun v i => ∃ k : Nat, ∃ z : Int, k ≤ n ∧ i = .int .i64 k ∧ v = .int .i64 z) (fun _ i => n - (intOf i).toNat)
    case atStart => exact ⟨0, 0, Nat.zero_le _, rfl, rfl⟩
    case round =>
      obtain ⟨k, z, hkn, rfl, rfl⟩ := hrel
      by_cases hlt : k < n
      · obtain ⟨g, off, rfl, hcell⟩ := PW.out.cell.resolve_left (by omega)
        have x0 := hcell k hlt
        have HLT := Lib.hid hlt
        have q1 : (k : Int) < (n : Int) := by omega
        clear hcell
        generalize pl k = lk at *
        generalize pa k = ak at *
        generalize pc k = ck at *
        go_wp2
        go_round
        case rel => exact ⟨k + 1, _, HLT.out, by go_num, rfl⟩
        case measure => have := HLT.out; simp [intOf]; omega
      · obtain rfl : k = n := by omega
        have q20 : (20 : Int) < (k : Int) := by omega
        clear hlt
        go_wp2
        go_ret
        exact ⟨rfl, by rw [HQ.out]; exact B1.out⟩
end Go.Proofs.YtimhjofnaoljjaaDoor
