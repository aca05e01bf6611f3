/-
  The walk of MerkleProves.
-/
import Derived.Test.YthdejiadokpafaaDoorM17
namespace Go.Proofs.YthdejiadokpafaaDoor
open Go.RowKit
theorem sl_one (g o n cap : Nat) (h1 : 1 ≤ n) (hc : n ≤ cap) : ∃ A' : Option Addr, ∀ w, (Instr.slice 22 (.slice (some ⟨g, o, none⟩) n cap) (some (.int .i64 1)) none none).run Tryd.prog w = .ok (.slice A' (n - 1) (cap - 1)) w := by
  by_cases h : 1 < cap
  · exact ⟨_, fun w => sl_back g o n cap 1 w h1 h⟩
  · obtain rfl : cap = 1 := by omega
    obtain rfl : n = 1 := by omega
    refine ⟨some ⟨g, o, none⟩, fun w => ?_⟩
    kernel_rfl
theorem chk_prov (l : List Int) (n i : Nat) (hl : l.length = 8 * n) (hi : i < n) (h64 : n ≤ 65536) : chkB (rootF n l) ((l.drop (8 * i)).take 8) i n (provL n l i n).length (provL n l i n).flatten = true := by
  rw [chkB_yes hi h64, provL_len, decide_eq_true rfl, lead_prov n l i n hl hi (Nat.le_refl _) h64, decide_eq_true rfl]
  rfl
attribute [local irreducible] ua da ba kk sw S8.run rt hs comp splice outB sha msg rootF leafH twoH stepsF cutN leadF provL bvals rootV l24 chkB mayB pvT
set_option maxRecDepth 100000 in
set_option maxHeartbeats 16000000 in
theorem q4 (A : Option Addr) (n cap : Nat) (a b c0 : Int) (l : List Int) (w : World) (hk : Keys w) (hs : Src w A (8 * n) l) (hcap : n ≤ cap) (hmax : cap ≤ 9223372036854775807) :
    Calls Tryd.prog 4 #[.slice A n cap, .agg #[.int .i64 a, .int .i64 b, .int .i64 c0]] w fun e w' => e = .returned (.bool true) ∧ Below w.heap.size w w' := by
  have h4 := z27
  have HK := Lib.hid hk
  have HP : Hid (0 < w.heap.size) := keys_pos hk
  have HX := Lib.hid hs
  obtain ⟨V, hV⟩ : ∃ V, w.heap.size = V := ⟨_, rfl⟩
  have HV := Lib.hid hV
  have KW : Hid (∀ w', Below V w w' → Keys w') := fun w' hb => keys_below HK.out hb (by rw [← HV.out]; exact HP.out)
  have SW : Hid (∀ w', Below V w w' → Src w' A (8 * n) l) := fun w' hb => HX.out.keep fun q hq => hb.block q (by rw [← HV.out]; exact hq)
  have U0 : Hid ((w.alloc (Obj.cells #[.int .i64 a, .int .i64 b, .int .i64 c0] 30)).heap[V]? = some (.cells #[.int .i64 a, .int .i64 b, .int .i64 c0] 30 (0, 0))) := by subst hV; exact heap_alloc_last w _
  have B0 : Hid (Below V w (w.alloc (Obj.cells #[.int .i64 a, .int .i64 b, .int .i64 c0] 30))) := by subst hV; exact (Below.refl _ w).alloc (Nat.le_refl _) _
  have C7 := Lib.hid (p7 _ (KW.out _ B0.out))
  obtain ⟨r, hr⟩ : ∃ r, rootV n l = r := ⟨_, rfl⟩
  have HRL : Hid (r.length = 8) := by rw [← hr]; exact rootV_len _ _
  have HR := Lib.hid hr
  have C10 : Hid (∀ w', Below V w w' → Calls Tryd.prog 10 #[.slice A n cap] w' fun e w'' => e = .returned (.agg (ba r)) ∧ Below w'.heap.size w' w'') := fun w' hbb => by
    rw [← hr]; exact p10 A n cap l w' (KW.out w' hbb) (SW.out w' hbb) hcap hmax
  have HLC : Hid (n ≤ cap ∧ cap ≤ 9223372036854775807) := ⟨hcap, hmax⟩
  have HLL : Hid (l.length = 8 * n) := hs.1
  by_cases hbig : 60 < n
  · have q1 : (60 : Int) < (n : Int) := by omega
    clear hbig hr hk hs hcap hmax h4
    go_enter Tryd.func4, Tryd.ntmps4
    go_wp2_with fail
    refine C7.out.mono ?_
    rintro e w1 ⟨rfl, hb1⟩
    have B1 : Hid (Below V w w1) := B0.out.trans (hb1.mono (Nat.le_of_lt (lt_of_block U0.out)))
    clear hb1
    go_wp2
    go_ret
    exact ⟨rfl, by rw [HV.out]; exact B1.out⟩
  · have q1 : ¬ (60 : Int) < (n : Int) := by omega
    have HN60 : Hid (n ≤ 60) := by show _ ≤ _; omega
    clear hbig hr hk hs hcap hmax
    go_enter Tryd.func4, Tryd.ntmps4
    go_wp2_with fail
    clear hV
    generalize w.alloc (Obj.cells #[.int .i64 a, .int .i64 b, .int .i64 c0] 30) = w0 at *
    refine C7.out.mono ?_
    rintro e w1 ⟨rfl, hb1⟩
    have B1 : Hid (Below V w w1) := B0.out.trans (hb1.mono (Nat.le_of_lt (lt_of_block U0.out)))
    have U1 : Hid (w1.heap[V]? = some (.cells #[.int .i64 a, .int .i64 b, .int .i64 c0] 30 (0, 0))) := (hb1.block V (lt_of_block U0.out)).trans U0.out
    clear hb1
    go_wp2_with fail
    refine (C10.out _ B1.out).mono ?_
    rintro e w2 ⟨rfl, hb2⟩
    have B2 : Hid (Below V w w2) := B1.out.trans (hb2.mono (Nat.le_of_lt (lt_of_block U1.out)))
    have U2 : Hid (w2.heap[V]? = some (.cells #[.int .i64 a, .int .i64 b, .int .i64 c0] 30 (0, 0))) := (hb2.block V (lt_of_block U1.out)).trans U1.out
    obtain ⟨Z, hZ⟩ : ∃ Z, w2.heap.size = Z := ⟨_, rfl⟩
    have LZ : Hid (V < Z) := by show _ < _; rw [← hZ]; exact lt_of_block U2.out
    have T3 : Hid (BA (w2.alloc (Obj.cells (ba (zeros 8)) 27)) Z 27 (zeros 8)) := by subst hZ; exact heap_alloc_last w2 _
    have U3 : Hid ((w2.alloc (Obj.cells (ba (zeros 8)) 27)).heap[V]? = some (.cells #[.int .i64 a, .int .i64 b, .int .i64 c0] 30 (0, 0))) := (Below.heap_alloc w2 _ V (lt_of_block U2.out)).trans U2.out
    have B3 : Hid (Below V w (w2.alloc (Obj.cells (ba (zeros 8)) 27))) := B2.out.alloc (by rw [hZ]; exact Nat.le_of_lt LZ.out) _
    obtain ⟨wz, hwz⟩ : ∃ wz, (w2.alloc (Obj.cells (ba (zeros 8)) 27)).setRow Z (ba r) = wz := ⟨_, rfl⟩
    have TZ : Hid (BA wz Z 27 r) := by rw [← hwz]; exact setRow_heap _ _ _ _ _ _ T3.out
    have UZ : Hid (wz.heap[V]? = some (.cells #[.int .i64 a, .int .i64 b, .int .i64 c0] 30 (0, 0))) := by rw [← hwz]; exact (Below.block (below_setRow (Below.refl Z _) (Nat.le_refl _) _) V LZ.out).trans U3.out
    have BZ : Hid (Below V w wz) := by rw [← hwz]; exact below_setRow B3.out (Nat.le_of_lt LZ.out) _
    have HWZ := Lib.hid hwz
    clear hb2 hwz
    go_wp2_with (first
      | (refine wpList_store_rowTo rfl 27 (.tmp 5) (.tmp 15) rfl rfl Z (ba r) rfl rfl 27 (ba (zeros 8)) T3.out (sz s27 (by rw [ba_size, HRL.out])) (by rw [ba_size, ba_size, HRL.out]; rfl) (ba_one _) ?_; rw [HWZ.out])
      | fail)
    clear h4 hZ
    have HBZ : Hid (V ≤ wz.heap.size) := Nat.le_of_lt (lt_of_block UZ.out)
    go_loopw [6, 7, 8] (fun v _ _ wr => ∃ k : Nat, k ≤ n ∧ v = .int .i64 k ∧ Below wz.heap.size wz wr) (fun v _ _ _ => n - (intOf v).toNat)
    case atStart => exact ⟨0, Nat.zero_le _, rfl, Below.refl _ _⟩
    case round =>
      obtain ⟨k, hk, rfl, hbel⟩ := hrel
      have BL := Lib.hid hbel
      clear hbel
      by_cases hlt : k < n
      · have HI : Hid (k < n) := hlt
        obtain ⟨x0, x1, x2, x3, x4, x5, x6, x7, hx8, hc⟩ := src_mid l n k hlt HLL.out
        obtain ⟨g, o, hA1⟩ := src_at HX.out (by omega)
        subst hA1
        have HC := Lib.hid hc
        have HX8 := Lib.hid hx8
        have hroot : rootF n l = r := by
          have := HR.out
          rwa [rootV_ok l (by have := HN60.out; omega)] at this
        obtain ⟨r0, r1, r2, r3, r4, r5, r6, r7, hr8⟩ := c8cells r HRL.out
        have HR8 := Lib.hid hr8
        have BW : Hid (Below V w wr) := BZ.out.trans (BL.out.mono HBZ.out)
        have CH := chk_prov l n k HLL.out hlt (by have := HN60.out; omega)
        rw [hroot, hx8] at CH
        have HST : Hid ((provL n l k n).length = stepsF n k n) := provL_len _ _ _ _
        have C8 := Lib.hid (p8 (some ⟨g, o, none⟩) n cap k l wr (KW.out _ BW.out) (SW.out _ BW.out) hlt (by have := HN60.out; omega) HLC.out.1 HLC.out.2)
        have HTL : Hid ((provL n l k n).length ≤ 65536) := by
          show _ ≤ _
          rw [provL_len]
          have := stepsF_le n k n (by have := HN60.out; omega) (by omega)
          have := HN60.out
          omega
        obtain ⟨R, hRR⟩ : ∃ R, provL n l k n = R := ⟨_, rfl⟩
        rw [hRR] at CH HST C8 HTL
        have HCH := Lib.hid CH
        have k0 : (0 : Int) ≤ (k : Int) := by omega
        have k1 : (k : Int) < (n : Int) := by omega
        have k2 : (k : Int) < 65536 := by have := HN60.out; omega
        clear hc hx8 hroot hr8 CH hRR
        go_wp2_with fail
        refine C8.out.mono ?_
        rintro e wp ⟨A1, c1, rfl, hs1, hc1, hc1m, hb1⟩
        have S1 := Lib.hid hs1
        have BP : Hid (Below wz.heap.size wz wp) := BL.out.trans (hb1.mono BL.out.size)
        have BPV : Hid (Below V w wp) := BZ.out.trans (BP.out.mono HBZ.out)
        have TP : Hid (BA wp Z 27 r) := (BP.out.block Z (lt_of_block TZ.out)).trans TZ.out
        have UP : Hid (wp.heap[V]? = some (.cells #[.int .i64 a, .int .i64 b, .int .i64 c0] 30 (0, 0))) := (BP.out.block V (lt_of_block UZ.out)).trans UZ.out
        have HC1 : Hid (R.length ≤ c1) := hc1
        have KV : Hid (∀ w', Below wp.heap.size wp w' → Below V w w') := fun w' hb => BPV.out.trans (hb.mono (Nat.le_of_lt (lt_of_block UP.out)))
        have S1W : Hid (∀ w', Below wp.heap.size wp w' → Src w' A1 (8 * R.length) R.flatten) := fun w' hb => S1.out.keep fun q hq => hb.block q hq
        have KF : Hid (∀ w', Below wp.heap.size wp w' → (w'.cell? ⟨Z, 0, none⟩ = some (.int .u8 r0) ∧ w'.cell? ⟨Z, 1, none⟩ = some (.int .u8 r1) ∧ w'.cell? ⟨Z, 2, none⟩ = some (.int .u8 r2) ∧ w'.cell? ⟨Z, 3, none⟩ = some (.int .u8 r3) ∧ w'.cell? ⟨Z, 4, none⟩ = some (.int .u8 r4) ∧ w'.cell? ⟨Z, 5, none⟩ = some (.int .u8 r5) ∧ w'.cell? ⟨Z, 6, none⟩ = some (.int .u8 r6) ∧ w'.cell? ⟨Z, 7, none⟩ = some (.int .u8 r7)) ∧ (w'.cell? ⟨g, o + k * 8, none⟩ = some (.int .u8 x0) ∧ w'.cell? ⟨g, o + k * 8 + 1, none⟩ = some (.int .u8 x1) ∧ w'.cell? ⟨g, o + k * 8 + 2, none⟩ = some (.int .u8 x2) ∧ w'.cell? ⟨g, o + k * 8 + 3, none⟩ = some (.int .u8 x3) ∧ w'.cell? ⟨g, o + k * 8 + 4, none⟩ = some (.int .u8 x4) ∧ w'.cell? ⟨g, o + k * 8 + 5, none⟩ = some (.int .u8 x5) ∧ w'.cell? ⟨g, o + k * 8 + 6, none⟩ = some (.int .u8 x6) ∧ w'.cell? ⟨g, o + k * 8 + 7, none⟩ = some (.int .u8 x7)) ∧ (w'.cell? ⟨V, 0, none⟩ = some (.int .i64 a) ∧ w'.cell? ⟨V, 1, none⟩ = some (.int .i64 b))) := fun w' hb => ⟨cells8 (t := 27) r0 r1 r2 r3 r4 r5 r6 r7 (by rw [← HR8.out]; exact (hb.block Z (lt_of_block TP.out)).trans TP.out), HC.out w' g o (SW.out w' (KV.out w' hb)), by rw [cell_of_row w' V 0 _ 30 (0, 0) ((hb.block V (lt_of_block UP.out)).trans UP.out)]; rfl, by rw [cell_of_row w' V 1 _ 30 (0, 0) ((hb.block V (lt_of_block UP.out)).trans UP.out)]; rfl⟩
        have E1 : Hid (∀ w', Below wp.heap.size wp w' → Calls Tryd.prog 12 #[.agg #[.int .u8 r0, .int .u8 r1, .int .u8 r2, .int .u8 r3, .int .u8 r4, .int .u8 r5, .int .u8 r6, .int .u8 r7], .agg #[.int .u8 x0, .int .u8 x1, .int .u8 x2, .int .u8 x3, .int .u8 x4, .int .u8 x5, .int .u8 x6, .int .u8 x7], .int .i64 k, .int .i64 n, .slice A1 R.length c1] w' fun e w'' => e = .returned (.bool true) ∧ Below w'.heap.size w' w'') := fun w' hb => by
          have := p12 r [x0, x1, x2, x3, x4, x5, x6, x7] k n A1 R.length c1 R.flatten w' (KW.out w' (KV.out w' hb)) HRL.out rfl (S1W.out w' hb) HC1.out
          rw [HCH.out, HR8.out, ba_lit, ba_lit] at this
          exact this
        obtain ⟨q, hq⟩ : ∃ q, chkB r [x0, x1, x2, x3, x4, x5, x6, x7] a b R.length R.flatten = q := ⟨_, rfl⟩
        have E2 : Hid (∀ w', Below wp.heap.size wp w' → Calls Tryd.prog 12 #[.agg #[.int .u8 r0, .int .u8 r1, .int .u8 r2, .int .u8 r3, .int .u8 r4, .int .u8 r5, .int .u8 r6, .int .u8 r7], .agg #[.int .u8 x0, .int .u8 x1, .int .u8 x2, .int .u8 x3, .int .u8 x4, .int .u8 x5, .int .u8 x6, .int .u8 x7], .int .i64 a, .int .i64 b, .slice A1 R.length c1] w' fun e w'' => e = .returned (.bool q) ∧ Below w'.heap.size w' w'') := fun w' hb => by
          have := p12 r [x0, x1, x2, x3, x4, x5, x6, x7] a b A1 R.length c1 R.flatten w' (KW.out w' (KV.out w' hb)) HRL.out rfl (S1W.out w' hb) HC1.out
          rw [hq, HR8.out, ba_lit, ba_lit] at this
          exact this
        have E3 : Hid (∀ w', Below wp.heap.size wp w' → Calls Tryd.prog 13 #[.agg #[.int .u8 r0, .int .u8 r1, .int .u8 r2, .int .u8 r3, .int .u8 r4, .int .u8 r5, .int .u8 r6, .int .u8 r7], .agg #[.int .u8 x0, .int .u8 x1, .int .u8 x2, .int .u8 x3, .int .u8 x4, .int .u8 x5, .int .u8 x6, .int .u8 x7], .int .i64 a, .int .i64 b, .slice A1 R.length c1] w' fun e w'' => e = .returned (.bool q) ∧ Below w'.heap.size w' w'') := fun w' hb => by
          have := r13 r [x0, x1, x2, x3, x4, x5, x6, x7] a b A1 R.length c1 R.flatten w' (KW.out w' (KV.out w' hb)) HRL.out rfl (S1W.out w' hb) (by have := HTL.out; omega) HC1.out
          rw [hq, HR8.out, ba_lit, ba_lit] at this
          exact this
        have X0 : Hid (Below wp.heap.size wp wp) := Below.refl _ _
        obtain ⟨T, hT⟩ : ∃ T, R.length = T := ⟨_, rfl⟩
        rw [hT] at E1 E2 E3 HST HC1 S1
        have HTT : Hid (T ≤ 65536) := by rw [← hT]; exact HTL.out
        rw [hT]
        clear hs1 hb1 hc1 hc1m hq hT S1W
        obtain ⟨⟨u0, u1, u2, u3, u4, u5, u6, u7⟩, ⟨y0, y1, y2, y3, y4, y5, y6, y7⟩, v0, v1⟩ := KF.out wp X0.out
        go_wp2_with fail
        go_region_held3 (fun w' => (w'.cell? ⟨Z, 0, none⟩ = some (.int .u8 r0) ∧ w'.cell? ⟨Z, 1, none⟩ = some (.int .u8 r1) ∧ w'.cell? ⟨Z, 2, none⟩ = some (.int .u8 r2) ∧ w'.cell? ⟨Z, 3, none⟩ = some (.int .u8 r3) ∧ w'.cell? ⟨Z, 4, none⟩ = some (.int .u8 r4) ∧ w'.cell? ⟨Z, 5, none⟩ = some (.int .u8 r5) ∧ w'.cell? ⟨Z, 6, none⟩ = some (.int .u8 r6) ∧ w'.cell? ⟨Z, 7, none⟩ = some (.int .u8 r7)) ∧ (w'.cell? ⟨g, o + k * 8, none⟩ = some (.int .u8 x0) ∧ w'.cell? ⟨g, o + k * 8 + 1, none⟩ = some (.int .u8 x1) ∧ w'.cell? ⟨g, o + k * 8 + 2, none⟩ = some (.int .u8 x2) ∧ w'.cell? ⟨g, o + k * 8 + 3, none⟩ = some (.int .u8 x3) ∧ w'.cell? ⟨g, o + k * 8 + 4, none⟩ = some (.int .u8 x4) ∧ w'.cell? ⟨g, o + k * 8 + 5, none⟩ = some (.int .u8 x5) ∧ w'.cell? ⟨g, o + k * 8 + 6, none⟩ = some (.int .u8 x6) ∧ w'.cell? ⟨g, o + k * 8 + 7, none⟩ = some (.int .u8 x7)) ∧ (w'.cell? ⟨V, 0, none⟩ = some (.int .i64 a) ∧ w'.cell? ⟨V, 1, none⟩ = some (.int .i64 b))) (first | (with_reducible exact KKa.out) | go_keep)
          (first | (go_at_call 12; refine (E1.out _ (by first | exact X0.out | exact X0.out.drew)).mono ?_; rintro e wa ⟨rfl, hba⟩; have Xa : Hid (Below wp.heap.size wp wa) := (by first | exact X0.out.trans (hba.mono X0.out.size) | exact X0.out.drew.trans (hba.mono X0.out.drew.size)); have KKa := Lib.hid (KF.out wa Xa.out); clear hba))
        rename_i hHeld
        clear hHeld u0 u1 u2 u3 u4 u5 u6 u7 y0 y1 y2 y3 y4 y5 y6 y7 v0 v1
        obtain ⟨⟨u0, u1, u2, u3, u4, u5, u6, u7⟩, ⟨y0, y1, y2, y3, y4, y5, y6, y7⟩, v0, v1⟩ := KF.out wa Xa.out
        go_wp2_with fail
        go_region_held3 (fun w' => (w'.cell? ⟨Z, 0, none⟩ = some (.int .u8 r0) ∧ w'.cell? ⟨Z, 1, none⟩ = some (.int .u8 r1) ∧ w'.cell? ⟨Z, 2, none⟩ = some (.int .u8 r2) ∧ w'.cell? ⟨Z, 3, none⟩ = some (.int .u8 r3) ∧ w'.cell? ⟨Z, 4, none⟩ = some (.int .u8 r4) ∧ w'.cell? ⟨Z, 5, none⟩ = some (.int .u8 r5) ∧ w'.cell? ⟨Z, 6, none⟩ = some (.int .u8 r6) ∧ w'.cell? ⟨Z, 7, none⟩ = some (.int .u8 r7)) ∧ (w'.cell? ⟨g, o + k * 8, none⟩ = some (.int .u8 x0) ∧ w'.cell? ⟨g, o + k * 8 + 1, none⟩ = some (.int .u8 x1) ∧ w'.cell? ⟨g, o + k * 8 + 2, none⟩ = some (.int .u8 x2) ∧ w'.cell? ⟨g, o + k * 8 + 3, none⟩ = some (.int .u8 x3) ∧ w'.cell? ⟨g, o + k * 8 + 4, none⟩ = some (.int .u8 x4) ∧ w'.cell? ⟨g, o + k * 8 + 5, none⟩ = some (.int .u8 x5) ∧ w'.cell? ⟨g, o + k * 8 + 6, none⟩ = some (.int .u8 x6) ∧ w'.cell? ⟨g, o + k * 8 + 7, none⟩ = some (.int .u8 x7)) ∧ (w'.cell? ⟨V, 0, none⟩ = some (.int .i64 a) ∧ w'.cell? ⟨V, 1, none⟩ = some (.int .i64 b))) (first | (with_reducible exact KKc.out) | (with_reducible exact KKd.out) | go_keep)
          (first | (go_at_call 12; refine (E2.out _ (by first | exact Xa.out | exact Xa.out.drew)).mono ?_; rintro e wc ⟨rfl, hbc⟩; have Xc : Hid (Below wp.heap.size wp wc) := (by first | exact Xa.out.trans (hbc.mono Xa.out.size) | exact Xa.out.drew.trans (hbc.mono Xa.out.drew.size)); have KKc := Lib.hid (KF.out wc Xc.out); clear hbc) | (go_at_call 13; refine (E3.out _ (by first | exact Xc.out | exact Xc.out.drew)).mono ?_; rintro e wd ⟨rfl, hbd⟩; have Xd : Hid (Below wp.heap.size wp wd) := (by first | exact Xc.out.trans (hbd.mono Xc.out.size) | exact Xc.out.drew.trans (hbd.mono Xc.out.drew.size)); have KKd := Lib.hid (KF.out wd Xd.out); clear hbd))
        rename_i hHeld
        clear hHeld u0 u1 u2 u3 u4 u5 u6 u7 y0 y1 y2 y3 y4 y5 y6 y7 v0 v1
        by_cases hT0 : T = 0
        · subst hT0
          go_wp2_with fail
          go_quiet (fail)
          go_wp2
          go_roundw
          case rel => exact ⟨k + 1, HI.out, by go_num, BP.out.trans (below_drewN (Xd.out.mono BP.out.size) _)⟩
          case measure => have := HI.out; simp [intOf]; omega
        · obtain ⟨g1, o1, hA1⟩ := src_at S1.out (by omega)
          subst hA1
          obtain ⟨A', hsl⟩ := sl_one g1 o1 T c1 (by omega) HC1.out
          have E4 : Hid (∀ w', Below wp.heap.size wp w' → Calls Tryd.prog 12 #[.agg #[.int .u8 r0, .int .u8 r1, .int .u8 r2, .int .u8 r3, .int .u8 r4, .int .u8 r5, .int .u8 r6, .int .u8 r7], .agg #[.int .u8 x0, .int .u8 x1, .int .u8 x2, .int .u8 x3, .int .u8 x4, .int .u8 x5, .int .u8 x6, .int .u8 x7], .int .i64 k, .int .i64 n, .slice A' (T - 1) (c1 - 1)] w' fun e w'' => e = .returned (.bool false) ∧ Below w'.heap.size w' w'') := fun w' hb => by
            have := p12b r [x0, x1, x2, x3, x4, x5, x6, x7] k n A' (T - 1) (c1 - 1) w' HI.out (by have := HN60.out; omega) (by have := HST.out; omega)
            rw [HR8.out, ba_lit, ba_lit] at this
            exact this
          have t0 : (0 : Int) < (T : Int) := by omega
          have tn : 0 < T := by omega
          have t1 : (1 : Int) ≤ (T : Int) := by omega
          have t2 : (T : Int) ≤ (c1 : Int) := by have := HC1.out; omega
          obtain ⟨T', hT'⟩ : ∃ T', T - 1 = T' := ⟨_, rfl⟩
          obtain ⟨d1, hd1⟩ : ∃ d1, c1 - 1 = d1 := ⟨_, rfl⟩
          rw [hT', hd1] at E4 hsl
          clear hT' hd1 hT0
          obtain ⟨⟨u0, u1, u2, u3, u4, u5, u6, u7⟩, ⟨y0, y1, y2, y3, y4, y5, y6, y7⟩, v0, v1⟩ := KF.out wd Xd.out
          go_wp2_with fail
          go_region_held3 (fun w' => (w'.cell? ⟨Z, 0, none⟩ = some (.int .u8 r0) ∧ w'.cell? ⟨Z, 1, none⟩ = some (.int .u8 r1) ∧ w'.cell? ⟨Z, 2, none⟩ = some (.int .u8 r2) ∧ w'.cell? ⟨Z, 3, none⟩ = some (.int .u8 r3) ∧ w'.cell? ⟨Z, 4, none⟩ = some (.int .u8 r4) ∧ w'.cell? ⟨Z, 5, none⟩ = some (.int .u8 r5) ∧ w'.cell? ⟨Z, 6, none⟩ = some (.int .u8 r6) ∧ w'.cell? ⟨Z, 7, none⟩ = some (.int .u8 r7)) ∧ (w'.cell? ⟨g, o + k * 8, none⟩ = some (.int .u8 x0) ∧ w'.cell? ⟨g, o + k * 8 + 1, none⟩ = some (.int .u8 x1) ∧ w'.cell? ⟨g, o + k * 8 + 2, none⟩ = some (.int .u8 x2) ∧ w'.cell? ⟨g, o + k * 8 + 3, none⟩ = some (.int .u8 x3) ∧ w'.cell? ⟨g, o + k * 8 + 4, none⟩ = some (.int .u8 x4) ∧ w'.cell? ⟨g, o + k * 8 + 5, none⟩ = some (.int .u8 x5) ∧ w'.cell? ⟨g, o + k * 8 + 6, none⟩ = some (.int .u8 x6) ∧ w'.cell? ⟨g, o + k * 8 + 7, none⟩ = some (.int .u8 x7)) ∧ (w'.cell? ⟨V, 0, none⟩ = some (.int .i64 a) ∧ w'.cell? ⟨V, 1, none⟩ = some (.int .i64 b))) (first | (with_reducible exact KKf.out) | go_keep)
            (first | (go_at_call 12; refine (E4.out _ (by first | exact Xd.out | exact Xd.out.drew)).mono ?_; rintro e wf ⟨rfl, hbf⟩; have Xf : Hid (Below wp.heap.size wp wf) := (by first | exact Xd.out.trans (hbf.mono Xd.out.size) | exact Xd.out.drew.trans (hbf.mono Xd.out.drew.size)); have KKf := Lib.hid (KF.out wf Xf.out); clear hbf))
          rename_i hHeld
          clear hHeld
          go_wp2
          go_roundw
          case rel => exact ⟨k + 1, HI.out, by go_num, BP.out.trans (Xf.out.mono BP.out.size)⟩
          case measure => have := HI.out; simp [intOf]; omega
      · obtain rfl : k = n := by omega
        have B4 : Hid (Below V w wr) := BZ.out.trans (BL.out.mono HBZ.out)
        go_wp2
        go_ret
        exact ⟨rfl, by rw [HV.out]; exact B4.out⟩
theorem walkProves (A : Option Addr) (n cap : Nat) (l z : List Int) (w : World) (hk : Keys w) (hs : Src w A (8 * n) l) (hcap : n ≤ cap) (hmax : cap ≤ 9223372036854775807) (hz : z.length = 3) :
    Calls Tryd.prog 4 #[.slice A n cap, .agg (z.map (.int .i64)).toArray] w fun e w' => e = .returned (.bool true) ∧ Below w.heap.size w w' := by
  match z, hz with
  | [a, b, c], _ => exact q4 A n cap a b c l w hk hs hcap hmax
end Go.Proofs.YthdejiadokpafaaDoor
