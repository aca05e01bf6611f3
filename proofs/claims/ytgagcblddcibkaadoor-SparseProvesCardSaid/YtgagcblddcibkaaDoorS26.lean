/-
  The walk of SparseMany.
-/
import Derived.Test.YtgagcblddcibkaaDoorS25
namespace Go.Proofs.YtgagcblddcibkaaDoor
open Go.RowKit
open Go.Maps
theorem sib_sib (q : Nat) : sib (sib q) = q := by
  rcases Nat.mod_two_eq_zero_or_one q with h | h
  · rw [sib_even h, sib_odd (by omega)]; omega
  · rw [sib_odd h, sib_even (by omega)]; omega
theorem prf_head (f : Int → List Int) (i : Nat) (hl : ∀ s, s < 16 → (nd f s ((sib (i / 2 ^ s) : Nat) : Int)).length = 8) : (prfL f i 16).take 8 = f ((sib i : Nat) : Int) := by
  have := at8_prf f i hl 16 (Nat.le_refl _) 0 (by omega)
  rw [nd_zero] at this
  simpa [at8] using this
theorem ba_head {w : World} {b : Nat} {t : TypeId} {l : List Int} (h : BA w b t l) (hl : 8 ≤ l.length) {x0 x1 x2 x3 x4 x5 x6 x7 : Int} (hx : l.take 8 = [x0, x1, x2, x3, x4, x5, x6, x7]) : (w.cell? ⟨b, 0, none⟩ = some (.int .u8 x0) ∧ w.cell? ⟨b, 1, none⟩ = some (.int .u8 x1) ∧ w.cell? ⟨b, 2, none⟩ = some (.int .u8 x2) ∧ w.cell? ⟨b, 3, none⟩ = some (.int .u8 x3) ∧ w.cell? ⟨b, 4, none⟩ = some (.int .u8 x4) ∧ w.cell? ⟨b, 5, none⟩ = some (.int .u8 x5) ∧ w.cell? ⟨b, 6, none⟩ = some (.int .u8 x6) ∧ w.cell? ⟨b, 7, none⟩ = some (.int .u8 x7)) := by
  have gg : ∀ c, c < 8 → w.cell? ⟨b, c, none⟩ = some (.int .u8 ([x0, x1, x2, x3, x4, x5, x6, x7].getD c 0)) := fun c hc => by
    rw [ba_cell h c (by omega), ← hx]
    simp [List.getD, hc]
  exact ⟨gg 0 (by decide), gg 1 (by decide), gg 2 (by decide), gg 3 (by decide), gg 4 (by decide), gg 5 (by decide), gg 6 (by decide), gg 7 (by decide)⟩
attribute [local irreducible] ua da ba kk sw S8.run rt hs comp splice outB sha msg twoM twoN ab MapIs mrow nd upF at8 prfL zip8 bvals ivals putA fillL inr sib
set_option maxRecDepth 100000 in
set_option maxHeartbeats 1600000 in
theorem q7 (A : Option Addr) (n cap : Nat) (P : Nat → Int × List Int) (w : World) (hk : Keys w) (hP : Dds w A n P) (hcap : n ≤ cap) :
    Calls Tryd.prog 7 #[.slice A n cap] w fun e w' => e = .returned (.bool true) ∧ Below w.heap.size w w' := by
  have zz4 := z30
  have zz5 := z27
  have HK := Lib.hid hk
  have HPOS : Hid (0 < w.heap.size) := keys_pos hk
  have HD := Lib.hid hP
  have C8 := Lib.hid (p8 w hk)
  by_cases hbig : 30 < n
  · have q1 : (30 : Int) < (n : Int) := by omega
    clear hbig hk hP hcap
    go_enter Tryd.func7, Tryd.ntmps7
    go_wp2_with (go_at_call 8; refine C8.out.mono ?_; rintro e w1 ⟨rfl, hb1⟩; have B1 := Lib.hid hb1; clear hb1)
    go_ret
    exact ⟨rfl, B1.out⟩
  · have q1 : ¬ (30 : Int) < (n : Int) := by omega
    have HN : Hid (n ≤ 30) := by show _ ≤ _; omega
    have HCAP := Lib.hid hcap
    clear hbig hk hP hcap
    go_enter Tryd.func7, Tryd.ntmps7
    go_wp2_with (go_at_call 8; refine C8.out.mono ?_; rintro e w1 ⟨rfl, hb1⟩; have B1 := Lib.hid hb1; clear hb1)
    have K1 : Hid (Keys w1) := keys_below HK.out B1.out HPOS.out
    have P1 : Hid (0 < w1.heap.size) := Nat.lt_of_lt_of_le HPOS.out B1.out.size
    have C9 := Lib.hid (p9 A n cap P w1 K1.out (HD.out.keep B1.out.block) (by have := HN.out; omega) HCAP.out)
    refine C9.out.mono ?_
    rintro e w2 ⟨T, M, ms, a, b, rfl, hbo⟩
    have HG : Hid (Good (fillL P n)) := fillL_good HD.out.len n (Nat.le_refl n)
    have HLL : Hid ((fillL P n).length ≤ 30) := Nat.le_trans (fillL_length P n) HN.out
    obtain ⟨L, hL⟩ : ∃ L, fillL P n = L := ⟨_, rfl⟩
    rw [hL] at hbo HG HLL
    obtain ⟨A1, A2, d1, d2, rfl, rfl, hlr⟩ := hbo.lv.read
    have T2 := Lib.hid hbo.tr
    have R2 := Lib.hid hlr
    have B2 : Hid (Below w.heap.size w w2) := B1.out.trans (hbo.bel.mono B1.out.size)
    have S2 : Hid (w1.heap.size ≤ w2.heap.size) := hbo.bel.size
    have C12 := Lib.hid (p12 w1.heap.size T (17 * n) ms (lk L) w2 hbo.tr)
    have LR8 : Hid ((nd (lk L) 16 0).length = 8) := (hbo.tr.get 16 (by omega) (k := 0) (wf_small (by omega) (by omega))).2
    obtain ⟨rt, hrt⟩ : ∃ rt, nd (lk L) 16 0 = rt := ⟨_, rfl⟩
    have HRT := Lib.hid hrt
    rw [hrt] at C12 LR8
    clear hbo hlr hL hrt C9 C8 K1 HD
    go_wp2_with fail
    refine C12.out.mono ?_
    rintro e w3 ⟨rfl, hb3⟩
    obtain ⟨R, hR⟩ : ∃ R, w3.heap.size = R := ⟨_, rfl⟩
    have Q0 : Hid (BA (w3.alloc (Obj.cells (ba (zeros 8)) 29)) R 29 (zeros 8)) := by show _ = _; rw [← hR]; exact heap_alloc_last w3 _
    have Z3 : Hid (w2.heap.size ≤ R) := by show _ ≤ _; rw [← hR]; exact hb3.size
    have B3 : Hid (Below w2.heap.size w2 (w3.alloc (Obj.cells (ba (zeros 8)) 29))) := hb3.alloc hb3.size _
    clear hb3 C12
    go_wp2_with (refine wpList_store_rowTo rfl 29 (.tmp 6) (.tmp 27) rfl rfl R (ba rt) rfl rfl 29 (ba (zeros 8)) Q0.out (sz s27 (by rw [ba_size, LR8.out])) (by rw [ba_size, ba_size, LR8.out, zeros_len]) (ba_one _) ?_)
    have Q4 : Hid (BA ((w3.alloc (Obj.cells (ba (zeros 8)) 29)).setRow R (ba rt)) R 29 rt) := setRow_heap _ _ _ _ _ _ Q0.out
    have B4 : Hid (Below w2.heap.size w2 ((w3.alloc (Obj.cells (ba (zeros 8)) 29)).setRow R (ba rt))) := below_setRow B3.out Z3.out _
    clear hR Q0 B3
    generalize (w3.alloc (Obj.cells (ba (zeros 8)) 29)).setRow R (ba rt) = w4 at *
    have T4 : Hid (Tr w4 w1.heap.size T ms (nd (lk L)) (17 * n)) := T2.out.grow B4.out
    have R4 : Hid (LR w4 M A1 A2 L.length d1 d2 L) := R2.out.grow B4.out
    have BW4 : Hid (Below w.heap.size w w4) := B2.out.trans (B4.out.mono (Nat.le_trans B1.out.size S2.out))
    have KW : Hid (∀ w', Below w4.heap.size w4 w' → Keys w') := fun w' hb => keys_below HK.out (BW4.out.trans (hb.mono BW4.out.size)) HPOS.out
    have BF : Hid (∀ w', Below w4.heap.size w4 w' → Below w.heap.size w w') := fun w' hb => BW4.out.trans (hb.mono BW4.out.size)
    have TF : Hid (∀ w', Below w4.heap.size w4 w' → Tr w' w1.heap.size T ms (nd (lk L)) (17 * n)) := fun w' hb => T4.out.grow hb
    have RF : Hid (∀ w', Below w4.heap.size w4 w' → LR w' M A1 A2 L.length d1 d2 L) := fun w' hb => R4.out.grow hb
    obtain ⟨r0, r1, r2, r3, r4, r5, r6, r7, hr8⟩ := c8cells rt LR8.out
    have HR8 := Lib.hid hr8
    have QF : Hid (∀ w', Below w4.heap.size w4 w' → (w'.cell? ⟨R, 0, none⟩ = some (.int .u8 r0) ∧ w'.cell? ⟨R, 1, none⟩ = some (.int .u8 r1) ∧ w'.cell? ⟨R, 2, none⟩ = some (.int .u8 r2) ∧ w'.cell? ⟨R, 3, none⟩ = some (.int .u8 r3) ∧ w'.cell? ⟨R, 4, none⟩ = some (.int .u8 r4) ∧ w'.cell? ⟨R, 5, none⟩ = some (.int .u8 r5) ∧ w'.cell? ⟨R, 6, none⟩ = some (.int .u8 r6) ∧ w'.cell? ⟨R, 7, none⟩ = some (.int .u8 r7))) := fun w' hb => cells8 (t := 29) r0 r1 r2 r3 r4 r5 r6 r7 (by have := (hb.block R (lt_of_block Q4.out)).trans Q4.out; rw [HR8.out] at this; exact this)
    have HRL : Hid (R < w4.heap.size) := lt_of_block Q4.out
    have HML : Hid (M < w4.heap.size) := lt_of_block R4.out.row
    clear hr8 T2 R2 B4 S2 Z3 T4 Q4 B2
    obtain ⟨N, hN⟩ : ∃ N, L.length = N := ⟨_, rfl⟩
    have HNL := Lib.hid hN
    rw [hN] at RF HLL R4
    go_wp2_with fail
    go_loopw [7, 8, 9, 10, 11, 12] (fun kv _ _ _ _ _ wr => ∃ k : Nat, k ≤ N ∧ kv = .int .i64 k ∧ Below w4.heap.size w4 wr) (fun kv _ _ _ _ _ _ => N - (intOf kv).toNat)
    case atStart => exact ⟨0, Nat.zero_le _, rfl, Below.refl _ _⟩
    case round =>
      obtain ⟨k, hk, rfl, hbel⟩ := hrel
      have X0 := Lib.hid hbel
      have W4R : Hid (w4.heap.size ≤ wr.heap.size) := hbel.size
      obtain ⟨m0, m1⟩ := (RF.out wr hbel).cells
      clear hbel
      by_cases hlt : k < N
      · obtain ⟨p, hp⟩ : ∃ p, L[k]? = some p := ⟨L[k]'(by rw [HNL.out]; exact hlt), List.getElem?_eq_getElem _⟩
        obtain ⟨g1, g2, e1, e2⟩ := R4.out.places (by omega)
        subst e1
        subst e2
        have hpm := List.mem_of_getElem? hp
        have hpa := HG.out.all p hpm
        obtain ⟨q, hq⟩ := Int.eq_ofNat_of_zero_le hpa.2.2.1
        have hq' : p.1 = (q : Int) := hq
        have HQ := Lib.hid hq'
        have q6 : q < 65536 := by have := hpa.2.2.2; omega
        have HLQ : Hid (lk L (q : Int) = p.2) := by show _ = _; rw [← HQ.out]; exact lk_some HG.out.nodup hpm
        obtain ⟨h0, h1, h2, h3, h4, h5, h6, h7, hh8⟩ := c8cells p.2 hpa.1
        have HH8 := Lib.hid hh8
        have HP8 : Hid (p.2.length = 8) := hpa.1
        have HPK := Lib.hid hp
        have HKN : Hid (k < N) := hlt
        have s6 : sib q < 65536 := sib_lt q6
        have HS6 := Lib.hid s6
        obtain ⟨p1, hp1⟩ : ∃ p1, prfL (lk L) q 16 = p1 := ⟨_, rfl⟩
        obtain ⟨p2, hp2⟩ : ∃ p2, prfL (lk L) (sib q) 16 = p2 := ⟨_, rfl⟩
        obtain ⟨gg, hgg⟩ : ∃ gg, lk L ((sib q : Nat) : Int) = gg := ⟨_, rfl⟩
        have LG : Hid (gg.length = 8) := by
          have := ((TF.out w4 (Below.refl _ _)).get 0 (by omega) (k := ((sib q : Nat) : Int)) (wf_small (by omega) (by omega))).2
          rw [nd_zero, hgg] at this
          exact this
        obtain ⟨f0, f1, f2, f3, f4, f5, f6, f7, hg8⟩ := c8cells gg LG.out
        have HG8 := Lib.hid hg8
        have LN1 := (TF.out w4 (Below.refl _ _)).lens q q6
        have LN2 := (TF.out w4 (Below.refl _ _)).lens (sib q) s6
        have LP1 : Hid (p1.length = 128) := by rw [← hp1]; exact prfL_len (lk L) q LN1 16 (Nat.le_refl _)
        have LP2 : Hid (p2.length = 128) := by rw [← hp2]; exact prfL_len (lk L) (sib q) LN2 16 (Nat.le_refl _)
        have HC1 : Hid (chk6 rt q p.2 p1 = true) := by
          have := chk_prf (lk L) q q6 LN1
          rw [HRT.out, HLQ.out, hp1] at this
          exact this
        have HC2 : Hid (chk6 rt ((sib q : Nat) : Int) gg p2 = true) := by
          have := chk_prf (lk L) (sib q) s6 LN2
          rw [HRT.out, hgg, hp2] at this
          exact this
        have HHD : Hid (p2.take 8 = [h0, h1, h2, h3, h4, h5, h6, h7]) := by
          have := prf_head (lk L) (sib q) LN2
          rw [hp2, sib_sib, HLQ.out, hh8] at this
          exact this
        have bq := bx q q6
        obtain ⟨s, hs⟩ : ∃ s, sib q = s := ⟨_, rfl⟩
        have HSQ := Lib.hid hs
        rw [hs] at bq
        have E10a : Hid (∀ w', Below w4.heap.size w4 w' → Calls Tryd.prog 10 #[.pointer (some ⟨T, 0, none⟩), .int .i64 q] w' fun e w'' => e = .returned (.tuple #[.agg (ba p1), .bool true]) ∧ Below w'.heap.size w' w'') := fun w' hb => by
          have := p10 w1.heap.size T (17 * n) q ms (lk L) w' (TF.out w' hb) q6
          rw [hp1] at this
          exact this.mono fun _ _ h => ⟨h.1, h.2.2⟩
        have E10b : Hid (∀ w', Below w4.heap.size w4 w' → Calls Tryd.prog 10 #[.pointer (some ⟨T, 0, none⟩), .int .i64 s] w' fun e w'' => e = .returned (.tuple #[.agg (ba p2), .bool true]) ∧ Below w'.heap.size w' w'') := fun w' hb => by
          have := p10 w1.heap.size T (17 * n) (sib q) ms (lk L) w' (TF.out w' hb) s6
          rw [hp2, hs] at this
          exact this.mono fun _ _ h => ⟨h.1, h.2.2⟩
        have E17a : Hid (∀ w', Below w4.heap.size w4 w' → Calls Tryd.prog 17 #[.agg #[.int .u8 r0, .int .u8 r1, .int .u8 r2, .int .u8 r3, .int .u8 r4, .int .u8 r5, .int .u8 r6, .int .u8 r7], .int .i64 q, .agg #[.int .u8 h0, .int .u8 h1, .int .u8 h2, .int .u8 h3, .int .u8 h4, .int .u8 h5, .int .u8 h6, .int .u8 h7], .agg (bvals p1).toArray] w' fun e w'' => e = .returned (.bool true) ∧ Below w'.heap.size w' w'') := fun w' hb => by
          have := p17any rt p.2 p1 q w' (KW.out w' hb) LR8.out HP8.out LP1.out
          rw [HC1.out, ba_bvals p1, HR8.out, HH8.out, ba_lit, ba_lit] at this
          exact this
        have E17b : Hid (∀ w', Below w4.heap.size w4 w' → Calls Tryd.prog 17 #[.agg #[.int .u8 r0, .int .u8 r1, .int .u8 r2, .int .u8 r3, .int .u8 r4, .int .u8 r5, .int .u8 r6, .int .u8 r7], .int .i64 s, .agg #[.int .u8 f0, .int .u8 f1, .int .u8 f2, .int .u8 f3, .int .u8 f4, .int .u8 f5, .int .u8 f6, .int .u8 f7], .agg (bvals p2).toArray] w' fun e w'' => e = .returned (.bool true) ∧ Below w'.heap.size w' w'') := fun w' hb => by
          have := p17any rt gg p2 ((sib q : Nat) : Int) w' (KW.out w' hb) LR8.out LG.out LP2.out
          rw [HC2.out, ba_bvals p2, HR8.out, HG8.out, ba_lit, ba_lit, hs] at this
          exact this
        have E14 : Hid (∀ w', Below w4.heap.size w4 w' → Calls Tryd.prog 14 #[.pointer (some ⟨T, 0, none⟩), .int .i64 s] w' fun e w'' => e = .returned (.agg #[.int .u8 f0, .int .u8 f1, .int .u8 f2, .int .u8 f3, .int .u8 f4, .int .u8 f5, .int .u8 f6, .int .u8 f7]) ∧ Below w'.heap.size w' w'') := fun w' hb => by
          have := p14 w1.heap.size T (17 * n) ((sib q : Nat) : Int) ms (lk L) w' (TF.out w' hb) (wf_small (by omega) (by omega))
          rw [hgg, HG8.out, ba_lit, hs] at this
          exact this
        have x1 : wr.cell? ⟨g1, k, none⟩ = some (.int .i64 q) := by rw [(RF.out wr X0.out).num hp, hq']
        have NF : Hid (∀ w', Below w4.heap.size w4 w' → (w'.cell? ⟨M, 0, none⟩ = some (.slice (some ⟨g1, 0, none⟩) N d1) ∧ w'.cell? ⟨M, 1, none⟩ = some (.slice (some ⟨g2, 0, none⟩) N d2)) ∧ w'.cell? ⟨g1, k, none⟩ = some (.int .i64 q) ∧ (w'.cell? ⟨g2, k * 8, none⟩ = some (.int .u8 h0) ∧ w'.cell? ⟨g2, k * 8 + 1, none⟩ = some (.int .u8 h1) ∧ w'.cell? ⟨g2, k * 8 + 2, none⟩ = some (.int .u8 h2) ∧ w'.cell? ⟨g2, k * 8 + 3, none⟩ = some (.int .u8 h3) ∧ w'.cell? ⟨g2, k * 8 + 4, none⟩ = some (.int .u8 h4) ∧ w'.cell? ⟨g2, k * 8 + 5, none⟩ = some (.int .u8 h5) ∧ w'.cell? ⟨g2, k * 8 + 6, none⟩ = some (.int .u8 h6) ∧ w'.cell? ⟨g2, k * 8 + 7, none⟩ = some (.int .u8 h7))) := fun w' hb => ⟨(RF.out w' hb).cells, by rw [(RF.out w' hb).num HPK.out, HQ.out], (RF.out w' hb).hash (fun x hx => (HG.out.all x hx).1) HPK.out HH8.out⟩
        have k0 : (0 : Int) ≤ (k : Int) := by omega
        have k1 : (k : Int) < (N : Int) := by omega
        have k2 : (k : Int) < 30 := by have := HLL.out; omega
        have q0 : (0 : Int) ≤ (q : Int) := by omega
        have q7 : (q : Int) < 65536 := by omega
        have eT := eqT h0 h1 h2 h3 h4 h5 h6 h7
        have hu30 := Tryd.underlying30
        have hi1 : (Tryd.prog.info? 30).map (·.size) = some (bvals p1).length := by rw [s30]; simp [bvals, LP1.out]
        have hi2 : (Tryd.prog.info? 30).map (·.size) = some (bvals p2).length := by rw [s30]; simp [bvals, LP2.out]
        clear hk hlt hp hpm hpa hq hq' hh8 hp1 hp2 hgg hg8 LN1 LN2 hs s6 q6 LG HC1 HC2
        go_wp2_with fail
        refine (E10a.out wr X0.out).mono ?_
        rintro e wa ⟨rfl, hba⟩
        obtain ⟨V, hV⟩ : ∃ V, wa.heap.size = V := ⟨_, rfl⟩
        have XA : Hid (Below w4.heap.size w4 wa) := X0.out.trans (hba.mono W4R.out)
        have V0 : Hid (BA (wa.alloc (Obj.cells (ba (zeros 128)) 30)) V 30 (zeros 128)) := by show _ = _; rw [← hV]; exact heap_alloc_last wa _
        have WV : Hid (w4.heap.size ≤ V) := by show _ ≤ _; rw [← hV]; exact XA.out.size
        clear hba m0 m1 x1
        go_wp2_with (refine wpList_store_rowTo rfl 30 (.tmp 8) (.tmp 47) rfl rfl V (ba p1) rfl rfl 30 (ba (zeros 128)) V0.out (sz s30 (by rw [ba_size, LP1.out])) (by rw [ba_size, ba_size, LP1.out, zeros_len]) (ba_one _) ?_)
        have V1 : Hid (BA ((wa.alloc (Obj.cells (ba (zeros 128)) 30)).setRow V (ba p1)) V 30 p1) := setRow_heap _ _ _ _ _ _ V0.out
        have XB : Hid (Below w4.heap.size w4 ((wa.alloc (Obj.cells (ba (zeros 128)) 30)).setRow V (ba p1))) := below_setRow (XA.out.alloc XA.out.size _) WV.out _
        clear V0 hV XA
        generalize (wa.alloc (Obj.cells (ba (zeros 128)) 30)).setRow V (ba p1) = wb at *
        have KF : Hid (∀ w', Below w4.heap.size w4 w' → w'.heap[V]? = wb.heap[V]? → (w'.cell? ⟨R, 0, none⟩ = some (.int .u8 r0) ∧ w'.cell? ⟨R, 1, none⟩ = some (.int .u8 r1) ∧ w'.cell? ⟨R, 2, none⟩ = some (.int .u8 r2) ∧ w'.cell? ⟨R, 3, none⟩ = some (.int .u8 r3) ∧ w'.cell? ⟨R, 4, none⟩ = some (.int .u8 r4) ∧ w'.cell? ⟨R, 5, none⟩ = some (.int .u8 r5) ∧ w'.cell? ⟨R, 6, none⟩ = some (.int .u8 r6) ∧ w'.cell? ⟨R, 7, none⟩ = some (.int .u8 r7)) ∧ (w'.cell? ⟨M, 0, none⟩ = some (.slice (some ⟨g1, 0, none⟩) N d1) ∧ w'.cell? ⟨M, 1, none⟩ = some (.slice (some ⟨g2, 0, none⟩) N d2)) ∧ w'.cell? ⟨g1, k, none⟩ = some (.int .i64 q) ∧ (w'.cell? ⟨g2, k * 8, none⟩ = some (.int .u8 h0) ∧ w'.cell? ⟨g2, k * 8 + 1, none⟩ = some (.int .u8 h1) ∧ w'.cell? ⟨g2, k * 8 + 2, none⟩ = some (.int .u8 h2) ∧ w'.cell? ⟨g2, k * 8 + 3, none⟩ = some (.int .u8 h3) ∧ w'.cell? ⟨g2, k * 8 + 4, none⟩ = some (.int .u8 h4) ∧ w'.cell? ⟨g2, k * 8 + 5, none⟩ = some (.int .u8 h5) ∧ w'.cell? ⟨g2, k * 8 + 6, none⟩ = some (.int .u8 h6) ∧ w'.cell? ⟨g2, k * 8 + 7, none⟩ = some (.int .u8 h7)) ∧ w'.rangeAt V 0 (bvals p1)) := fun w' hb hv => ⟨QF.out w' hb, (NF.out w' hb).1, (NF.out w' hb).2.1, (NF.out w' hb).2.2, ba_range (t := 30) (hv.trans V1.out)⟩
        have VL : Hid (V < wb.heap.size) := lt_of_block V1.out
        obtain ⟨⟨u0, u1, u2, u3, u4, u5, u6, u7⟩, ⟨m0, m1⟩, x1, ⟨y0, y1, y2, y3, y4, y5, y6, y7⟩, pV⟩ := KF.out wb XB.out rfl
        go_wp2_with fail
        go_region_held3 (fun w' => (w'.cell? ⟨R, 0, none⟩ = some (.int .u8 r0) ∧ w'.cell? ⟨R, 1, none⟩ = some (.int .u8 r1) ∧ w'.cell? ⟨R, 2, none⟩ = some (.int .u8 r2) ∧ w'.cell? ⟨R, 3, none⟩ = some (.int .u8 r3) ∧ w'.cell? ⟨R, 4, none⟩ = some (.int .u8 r4) ∧ w'.cell? ⟨R, 5, none⟩ = some (.int .u8 r5) ∧ w'.cell? ⟨R, 6, none⟩ = some (.int .u8 r6) ∧ w'.cell? ⟨R, 7, none⟩ = some (.int .u8 r7)) ∧ (w'.cell? ⟨M, 0, none⟩ = some (.slice (some ⟨g1, 0, none⟩) N d1) ∧ w'.cell? ⟨M, 1, none⟩ = some (.slice (some ⟨g2, 0, none⟩) N d2)) ∧ w'.cell? ⟨g1, k, none⟩ = some (.int .i64 q) ∧ (w'.cell? ⟨g2, k * 8, none⟩ = some (.int .u8 h0) ∧ w'.cell? ⟨g2, k * 8 + 1, none⟩ = some (.int .u8 h1) ∧ w'.cell? ⟨g2, k * 8 + 2, none⟩ = some (.int .u8 h2) ∧ w'.cell? ⟨g2, k * 8 + 3, none⟩ = some (.int .u8 h3) ∧ w'.cell? ⟨g2, k * 8 + 4, none⟩ = some (.int .u8 h4) ∧ w'.cell? ⟨g2, k * 8 + 5, none⟩ = some (.int .u8 h5) ∧ w'.cell? ⟨g2, k * 8 + 6, none⟩ = some (.int .u8 h6) ∧ w'.cell? ⟨g2, k * 8 + 7, none⟩ = some (.int .u8 h7)) ∧ w'.rangeAt V 0 (bvals p1)) (first | (with_reducible exact KKc.out) | go_keep)
          (first
            | (go_at_call 17; refine (E17a.out _ (by first | exact XB.out | exact XB.out.drew)).mono ?_; rintro e wc ⟨rfl, hbc⟩; have XC : Hid (Below w4.heap.size w4 wc) := (by first | exact XB.out.trans (hbc.mono XB.out.size) | exact XB.out.drew.trans (hbc.mono XB.out.drew.size)); have KKc := Lib.hid (KF.out wc XC.out (hbc.block V (by have := VL.out; simpa using this))); clear hbc))
        rename_i hHeld
        clear hHeld u0 u1 u2 u3 u4 u5 u6 u7 m0 m1 x1 y0 y1 y2 y3 y4 y5 y6 y7 pV KKc KF hi1
        obtain ⟨⟨m0, m1⟩, x1, ⟨y0, y1, y2, y3, y4, y5, y6, y7⟩⟩ := NF.out wc XC.out
        go_wp2_with fail
        have WC : Hid (w4.heap.size ≤ wc.heap.size) := XC.out.size
        refine (E10b.out wc XC.out).mono ?_
        rintro e wd ⟨rfl, hbd⟩
        obtain ⟨Z, hZ⟩ : ∃ Z, wd.heap.size = Z := ⟨_, rfl⟩
        have XD : Hid (Below w4.heap.size w4 wd) := XC.out.trans (hbd.mono WC.out)
        have Z0 : Hid (BA (wd.alloc (Obj.cells (ba (zeros 128)) 30)) Z 30 (zeros 128)) := by show _ = _; rw [← hZ]; exact heap_alloc_last wd _
        have WZ : Hid (w4.heap.size ≤ Z) := by show _ ≤ _; rw [← hZ]; exact XD.out.size
        clear hbd m0 m1 x1 y0 y1 y2 y3 y4 y5 y6 y7
        go_wp2_with (refine wpList_store_rowTo rfl 30 (.tmp 11) (.tmp 83) rfl rfl Z (ba p2) rfl rfl 30 (ba (zeros 128)) Z0.out (sz s30 (by rw [ba_size, LP2.out])) (by rw [ba_size, ba_size, LP2.out, zeros_len]) (ba_one _) ?_)
        have Z1 : Hid (BA ((wd.alloc (Obj.cells (ba (zeros 128)) 30)).setRow Z (ba p2)) Z 30 p2) := setRow_heap _ _ _ _ _ _ Z0.out
        have XE : Hid (Below w4.heap.size w4 ((wd.alloc (Obj.cells (ba (zeros 128)) 30)).setRow Z (ba p2))) := below_setRow (XD.out.alloc XD.out.size _) WZ.out _
        clear Z0 hZ XD
        generalize (wd.alloc (Obj.cells (ba (zeros 128)) 30)).setRow Z (ba p2) = we at *
        have KF : Hid (∀ w', Below w4.heap.size w4 w' → w'.heap[Z]? = we.heap[Z]? → (w'.cell? ⟨R, 0, none⟩ = some (.int .u8 r0) ∧ w'.cell? ⟨R, 1, none⟩ = some (.int .u8 r1) ∧ w'.cell? ⟨R, 2, none⟩ = some (.int .u8 r2) ∧ w'.cell? ⟨R, 3, none⟩ = some (.int .u8 r3) ∧ w'.cell? ⟨R, 4, none⟩ = some (.int .u8 r4) ∧ w'.cell? ⟨R, 5, none⟩ = some (.int .u8 r5) ∧ w'.cell? ⟨R, 6, none⟩ = some (.int .u8 r6) ∧ w'.cell? ⟨R, 7, none⟩ = some (.int .u8 r7)) ∧ (w'.cell? ⟨M, 0, none⟩ = some (.slice (some ⟨g1, 0, none⟩) N d1) ∧ w'.cell? ⟨M, 1, none⟩ = some (.slice (some ⟨g2, 0, none⟩) N d2)) ∧ (w'.cell? ⟨g2, k * 8, none⟩ = some (.int .u8 h0) ∧ w'.cell? ⟨g2, k * 8 + 1, none⟩ = some (.int .u8 h1) ∧ w'.cell? ⟨g2, k * 8 + 2, none⟩ = some (.int .u8 h2) ∧ w'.cell? ⟨g2, k * 8 + 3, none⟩ = some (.int .u8 h3) ∧ w'.cell? ⟨g2, k * 8 + 4, none⟩ = some (.int .u8 h4) ∧ w'.cell? ⟨g2, k * 8 + 5, none⟩ = some (.int .u8 h5) ∧ w'.cell? ⟨g2, k * 8 + 6, none⟩ = some (.int .u8 h6) ∧ w'.cell? ⟨g2, k * 8 + 7, none⟩ = some (.int .u8 h7)) ∧ w'.rangeAt Z 0 (bvals p2) ∧ (w'.cell? ⟨Z, 0, none⟩ = some (.int .u8 h0) ∧ w'.cell? ⟨Z, 1, none⟩ = some (.int .u8 h1) ∧ w'.cell? ⟨Z, 2, none⟩ = some (.int .u8 h2) ∧ w'.cell? ⟨Z, 3, none⟩ = some (.int .u8 h3) ∧ w'.cell? ⟨Z, 4, none⟩ = some (.int .u8 h4) ∧ w'.cell? ⟨Z, 5, none⟩ = some (.int .u8 h5) ∧ w'.cell? ⟨Z, 6, none⟩ = some (.int .u8 h6) ∧ w'.cell? ⟨Z, 7, none⟩ = some (.int .u8 h7))) := fun w' hb hv => ⟨QF.out w' hb, (NF.out w' hb).1, (NF.out w' hb).2.2, ba_range (t := 30) (hv.trans Z1.out), ba_head (t := 30) (hv.trans Z1.out) (by rw [LP2.out]; omega) HHD.out⟩
        have ZL : Hid (Z < we.heap.size) := lt_of_block Z1.out
        obtain ⟨⟨u0, u1, u2, u3, u4, u5, u6, u7⟩, ⟨m0, m1⟩, ⟨y0, y1, y2, y3, y4, y5, y6, y7⟩, pV, ⟨z0, z1, z2, z3, z4, z5, z6, z7⟩⟩ := KF.out we XE.out rfl
        go_wp2_with fail
        go_region_held3 (fun w' => (w'.cell? ⟨R, 0, none⟩ = some (.int .u8 r0) ∧ w'.cell? ⟨R, 1, none⟩ = some (.int .u8 r1) ∧ w'.cell? ⟨R, 2, none⟩ = some (.int .u8 r2) ∧ w'.cell? ⟨R, 3, none⟩ = some (.int .u8 r3) ∧ w'.cell? ⟨R, 4, none⟩ = some (.int .u8 r4) ∧ w'.cell? ⟨R, 5, none⟩ = some (.int .u8 r5) ∧ w'.cell? ⟨R, 6, none⟩ = some (.int .u8 r6) ∧ w'.cell? ⟨R, 7, none⟩ = some (.int .u8 r7)) ∧ (w'.cell? ⟨M, 0, none⟩ = some (.slice (some ⟨g1, 0, none⟩) N d1) ∧ w'.cell? ⟨M, 1, none⟩ = some (.slice (some ⟨g2, 0, none⟩) N d2)) ∧ (w'.cell? ⟨g2, k * 8, none⟩ = some (.int .u8 h0) ∧ w'.cell? ⟨g2, k * 8 + 1, none⟩ = some (.int .u8 h1) ∧ w'.cell? ⟨g2, k * 8 + 2, none⟩ = some (.int .u8 h2) ∧ w'.cell? ⟨g2, k * 8 + 3, none⟩ = some (.int .u8 h3) ∧ w'.cell? ⟨g2, k * 8 + 4, none⟩ = some (.int .u8 h4) ∧ w'.cell? ⟨g2, k * 8 + 5, none⟩ = some (.int .u8 h5) ∧ w'.cell? ⟨g2, k * 8 + 6, none⟩ = some (.int .u8 h6) ∧ w'.cell? ⟨g2, k * 8 + 7, none⟩ = some (.int .u8 h7)) ∧ w'.rangeAt Z 0 (bvals p2) ∧ (w'.cell? ⟨Z, 0, none⟩ = some (.int .u8 h0) ∧ w'.cell? ⟨Z, 1, none⟩ = some (.int .u8 h1) ∧ w'.cell? ⟨Z, 2, none⟩ = some (.int .u8 h2) ∧ w'.cell? ⟨Z, 3, none⟩ = some (.int .u8 h3) ∧ w'.cell? ⟨Z, 4, none⟩ = some (.int .u8 h4) ∧ w'.cell? ⟨Z, 5, none⟩ = some (.int .u8 h5) ∧ w'.cell? ⟨Z, 6, none⟩ = some (.int .u8 h6) ∧ w'.cell? ⟨Z, 7, none⟩ = some (.int .u8 h7))) (first | (with_reducible exact KKg.out) | (with_reducible exact KKf.out) | go_keep)
          (first
            | (go_at_call 14; refine (E14.out _ (by first | exact XE.out | exact XE.out.drew)).mono ?_; rintro e wf ⟨rfl, hbf⟩; have XF : Hid (Below w4.heap.size w4 wf) := (by first | exact XE.out.trans (hbf.mono XE.out.size) | exact XE.out.drew.trans (hbf.mono XE.out.drew.size)); have hzf : wf.heap[Z]? = we.heap[Z]? := hbf.block Z (by have := ZL.out; simpa using this); have HZF := Lib.hid hzf; have LZF : Hid (we.heap.size ≤ wf.heap.size) := (by have := hbf.size; show _ ≤ _; simpa using this); have KKf := Lib.hid (KF.out wf XF.out hzf); clear hbf hzf)
            | (go_at_call 17; refine (E17b.out _ (by first | exact XF.out | exact XF.out.drew)).mono ?_; rintro e wg ⟨rfl, hbg⟩; have XG : Hid (Below w4.heap.size w4 wg) := (by first | exact XF.out.trans (hbg.mono XF.out.size) | exact XF.out.drew.trans (hbg.mono XF.out.drew.size)); have KKg := Lib.hid (KF.out wg XG.out ((hbg.block Z (by have := ZL.out; have := LZF.out; simp; omega)).trans HZF.out)); clear hbg))
        rename_i hHeld
        clear hHeld
        go_wp2_with fail
        go_roundw
        case rel => exact ⟨k + 1, HKN.out, by go_num, XG.out⟩
        case measure => have := HKN.out; simp [intOf]; omega
      · obtain rfl : k = N := by omega
        have E16 : Hid (∀ w', Below w4.heap.size w4 w' → Calls Tryd.prog 16 #[.pointer (some ⟨T, 0, none⟩)] w' fun e w'' => e = .returned (.int .i64 k) ∧ Below w'.heap.size w' w'') := fun w' hb => by
          have := p16 w1.heap.size T (17 * n) ms (lk L) (L.map Prod.fst) w' (TF.out w' hb) HG.out.nodup HG.out.ks
          rw [List.length_map, HNL.out] at this
          exact this.mono fun e w'' h => ⟨h.1, by rw [h.2]; exact Below.refl _ _⟩
        have MF : Hid (∀ w', Below w4.heap.size w4 w' → w'.cell? ⟨M, 0, none⟩ = some (.slice A1 k d1)) := fun w' hb => (RF.out w' hb).cells.1
        go_wp2_with fail
        go_region_held3 (fun w' => w'.cell? ⟨M, 0, none⟩ = some (.slice A1 k d1)) (first | (with_reducible exact KKa.out) | go_keep)
          (first
            | (go_at_call 16; refine (E16.out _ (by first | exact X0.out | exact X0.out.drew)).mono ?_; rintro e wa ⟨rfl, hba⟩; have XA : Hid (Below w4.heap.size w4 wa) := (by first | exact X0.out.trans (hba.mono X0.out.size) | exact X0.out.drew.trans (hba.mono X0.out.drew.size)); have KKa := Lib.hid (MF.out wa XA.out); clear hba))
        rename_i hHeld
        clear hHeld
        go_wp2
        go_ret
        exact ⟨rfl, BF.out _ XA.out⟩
end Go.Proofs.YtgagcblddcibkaaDoor
