/-
  Where a proof leads: the document's.
-/
import Derived.Test.YtfneopmgckejdaaDoorM6
import Derived.Laws.ResultCell
namespace Go.Proofs.YtfneopmgckejdaaDoor
open Go.RowKit
theorem res2 {P : Program} {fn : Func} {p u : Tmp} {ty : TypeId} (h : fn.results = #[.cell p ty, .tmp u]) (tmps : Array Value) (w : World) (g : Nat) (t : TypeId) (cs : Array Value) (fr : Nat × Nat) (d : TypeDesc)
    (hp : tmps.getD p undef = .pointer (some ⟨g, 0, none⟩)) (hg : w.heap[g]? = some (.cells cs t fr))
    (hu : P.underlying ty = some d) (hd : (match d with | .struct _ | .array _ _ => true | _ => false) = true) (hi : (P.info? ty).map (·.size) = some cs.size) (b : Value) (hb : tmps.getD u undef = b) :
    (results fn tmps).run P w = .ok (.tuple #[.agg cs, b]) w := by
  rw [results_cell_tmp h, hp, hb]
  simp [asAddr, run_loadVar_row w g t ty cs fr d hg hu hd hi, Result.andThen]
/-- what the document's walk up answers -/
def UpR (hh : List Int) (b : Bool) (w : World) (e : Ending) (w' : World) : Prop := ∃ h : List Int, h.length = 8 ∧ (b = true → h = hh) ∧ e = .returned (.tuple #[.agg (ba h), .bool b]) ∧ Below w.heap.size w w'
attribute [local irreducible] ua da ba kk sw S8.run rt hs comp splice outB sha msg rootF leafH twoH stepsF cutN leadF
set_option maxRecDepth 100000 in
set_option maxHeartbeats 4000000 in
theorem r23 : ∀ (f : Nat) (leaf : List Int) (i n m cap : Nat) (A : Option Addr) (pr : List Int) (w : World), Keys w → leaf.length = 8 → Src w A (8 * m) pr → i < n → n ≤ f → n ≤ 65536 → m ≤ 1000000 → m ≤ cap →
    Calls Tryd.prog 50 #[.agg (ba leaf), .int .i64 i, .int .i64 n, .slice A m cap] w (UpR (leadF f leaf i n m pr) (decide (m = stepsF f i n)) w)
  | 0, _, _, _, _, _, _, _, _, _, _, _, hi, hf, _, _, _ => by omega
  | f + 1, leaf, i, n, m, cap, A, pr, w, hk, hlf, hsrc, hi, hf, h64, hm, hcap => by
    have h4 := z27
    have h5 := b27
    have HK := Lib.hid hk
    have HX := Lib.hid hsrc
    have HLF := Lib.hid hlf
    have HP : Hid (0 < w.heap.size) := keys_pos hk
    clear hk hsrc hlf
    obtain ⟨S, hS⟩ : ∃ S, w.heap.size = S := ⟨_, rfl⟩
    have T0 : Hid (BA (w.alloc (Obj.cells (ba leaf) 32)) S 32 leaf) := by subst hS; exact heap_alloc_last w _
    have T1 : Hid (BA ((w.alloc (Obj.cells (ba leaf) 32)).alloc (Obj.cells (ba (zeros 8)) 32)) (S + 1) 32 (zeros 8)) := by
      show _ = _
      subst hS
      have := heap_alloc_last (w.alloc (Obj.cells (ba leaf) 32)) (Obj.cells (ba (zeros 8)) 32)
      simp only [World.size_alloc] at this
      exact this
    have T2 : Hid (BA ((w.alloc (Obj.cells (ba leaf) 32)).alloc (Obj.cells (ba (zeros 8)) 32)) S 32 leaf) := (Below.heap_alloc _ _ _ (lt_of_block T0.out)).trans T0.out
    have B0 : Hid (Below S w ((w.alloc (Obj.cells (ba leaf) 32)).alloc (Obj.cells (ba (zeros 8)) 32))) := by subst hS; exact ((Below.refl _ w).alloc (Nat.le_refl _) _).alloc (by simp) _
    have HS := Lib.hid hS
    have KW : Hid (∀ w', Below S w w' → Keys w') := fun w' hb => keys_below HK.out hb (by rw [← HS.out]; exact HP.out)
    have SW : Hid (∀ w', Below S w w' → Src w' A (8 * m) pr) := fun w' hb => HX.out.keep fun q hq => hb.block q (by rw [← HS.out]; exact hq)
    by_cases hn : n = 1
    · subst hn
      have HR : Hid (leadF (f + 1) leaf i 1 m pr = leafH leaf) := leadF_one f leaf i m pr
      have HST : Hid (stepsF (f + 1) i 1 = 0) := stepsF_one _ _
      obtain ⟨w0, hw0⟩ : ∃ w0, (w.alloc (Obj.cells (ba leaf) 32)).alloc (Obj.cells (ba (zeros 8)) 32) = w0 := ⟨_, rfl⟩
      have hz : ((w.alloc (Obj.cells (ba leaf) 32)).alloc (Obj.cells (ba (zeros 8)) 32)).heap.size = S + 1 + 1 := by simp [hS]
      have hG := heap_alloc_last ((w.alloc (Obj.cells (ba leaf) 32)).alloc (Obj.cells (ba (zeros 8)) 32)) (Obj.cells #[.slice (some ⟨S, 0, none⟩) 8 8] 67)
      rw [hz] at hG
      have BG : Hid (Below S w (((w.alloc (Obj.cells (ba leaf) 32)).alloc (Obj.cells (ba (zeros 8)) 32)).alloc (Obj.cells #[.slice (some ⟨S, 0, none⟩) 8 8] 67))) := B0.out.alloc (by rw [hz]; omega) _
      have T4 : BA (((w.alloc (Obj.cells (ba leaf) 32)).alloc (Obj.cells (ba (zeros 8)) 32)).alloc (Obj.cells #[.slice (some ⟨S, 0, none⟩) 8 8] 67)) S 32 leaf := (Below.heap_alloc _ _ S (by rw [hz]; omega)).trans T2.out
      have T5 : Hid (BA (((w.alloc (Obj.cells (ba leaf) 32)).alloc (Obj.cells (ba (zeros 8)) 32)).alloc (Obj.cells #[.slice (some ⟨S, 0, none⟩) 8 8] 67)) (S + 1) 32 (zeros 8)) := (Below.heap_alloc _ _ (S + 1) (by rw [hz]; omega)).trans T1.out
      have sx := src_ba (t := 32) T4 8 (by rw [HLF.out]; omega)
      rw [List.take_of_length_le (by rw [HLF.out]; omega)] at sx
      have C := c12 sum13 108 (some ⟨S + 1 + 1, 0, none⟩) 1 1 _ _ _ _ _ (prts8 hG sx) (fun _ _ h0 => by cases h0) (by rw [msg_one]; exact oneM_len 108 leaf HLF.out)
      rw [msg_one] at C
      have HC := Lib.hid C
      have HLH : Hid ((sha (oneM 108 leaf)).take 8 = leafH leaf) := leafH_eq leaf
      have HD : Hid (decide ((m : Int) = 0) = decide (m = stepsF (f + 1) i 1)) := by
        show _ = _
        rw [HST.out]
        exact decide_eq_decide.2 (by omega)
      clear C hG hz sx T4 hw0
      by_cases hm0 : m = 0
      all_goals
        have HM0 := Lib.hid hm0
        have g0 : decide ((m : Int) = 0) = decide (m = 0) := decide_eq_decide.2 (by omega)
        have HG0 := Lib.hid g0
        clear g0
        go_enter Tryd.func50, Tryd.ntmps50
        go_wp2_with (first
          | (go_at_call 34
             refine HC.out.mono ?_
             rintro e w1 ⟨rfl, hb⟩
             rw [HLH.out]
             have T3 : Hid (BA w1 (S + 1) 32 (zeros 8)) := (hb.block _ (lt_of_block T5.out)).trans T5.out
             have B1 : Hid (Below S w w1) := BG.out.trans (hb.mono (by have := lt_of_block T5.out; omega))
             clear hb)
          | (refine wpList_store_rowTo rfl 32 (.tmp 8) (.tmp 20) rfl rfl (S + 1) (ba (leafH leaf)) rfl rfl 32 (ba (zeros 8)) T3.out (sz s27 (by rw [ba_size, leafH_len])) (by rw [ba_size, ba_size, leafH_len]; rfl) (ba_one _) ?_)
          | fail)
        first
          | (refine bodyPost_ret (v := .tuple #[.agg (ba (leafH leaf)), .bool true]) (res2 rfl _ _ (S + 1) 32 _ (0, 0) _ rfl (setRow_heap _ _ _ _ _ _ T3.out) Tryd.underlying32 rfl (sz s27 (by rw [ba_size, leafH_len])) (.bool true) rfl) rfl ?_
             unfold UpR
             refine ⟨leafH leaf, leafH_len _, fun _ => HR.out.symm, by rw [HST.out, HM0.out]; rfl, ?_⟩
             rw [HS.out]
             exact below_setRow B1.out (by omega) _)
          | (refine bodyPost_ret (v := .tuple #[.agg (ba (leafH leaf)), .bool ((m : Int) == 0)]) (res2 rfl _ _ (S + 1) 32 _ (0, 0) _ rfl (setRow_heap _ _ _ _ _ _ T3.out) Tryd.underlying32 rfl (sz s27 (by rw [ba_size, leafH_len])) (.bool ((m : Int) == 0)) rfl) rfl ?_
             unfold UpR
             refine ⟨leafH leaf, leafH_len _, fun _ => HR.out.symm, by rw [HST.out]; have := HM0.out; simp [this], ?_⟩
             rw [HS.out]
             exact below_setRow B1.out (by omega) _)
    · obtain ⟨c1, c2, c3⟩ := cutN_lo n (by omega) h64
      by_cases hm0 : m = 0
      · have HST : Hid (decide (m = stepsF (f + 1) i n) = false) := by
          show _ = _
          refine decide_eq_false ?_
          by_cases h : i < cutN n
          · rw [stepsF_l f i n (by omega) h]; omega
          · rw [stepsF_r f i n (by omega) h]; omega
        have q1 : ¬ (n : Int) = 1 := by omega
        subst hm0
        go_enter Tryd.func50, Tryd.ntmps50
        go_wp2_with (refine wpList_store_rowTo rfl 32 (.tmp 8) (.tmp 27) rfl rfl (S + 1) (ba (zeros 8)) rfl rfl 32 (ba (zeros 8)) T1.out (sz s27 (by rw [ba_size]; rfl)) rfl (ba_one _) ?_)
        refine bodyPost_ret (v := .tuple #[.agg (ba (zeros 8)), .bool false]) (res2 rfl _ _ (S + 1) 32 _ (0, 0) _ rfl (setRow_heap _ _ _ _ _ _ T1.out) Tryd.underlying32 rfl (sz s27 (by rw [ba_size]; rfl)) (.bool false) rfl) rfl ?_
        unfold UpR
        refine ⟨zeros 8, zeros_len 8, fun h => (by rw [HST.out] at h; cases h), by rw [HST.out], ?_⟩
        rw [HS.out]
        exact below_setRow B0.out (by omega) _
      · obtain ⟨q, hq⟩ : ∃ q, m = q + 1 := ⟨m - 1, by omega⟩
        have SW0 := SW
        obtain ⟨g, o, hA⟩ := src_at HX.out (by omega)
        subst hA
        have HGS : Hid (g < S) := by
          show _ < _
          rw [← HS.out]
          exact src_lt HX.out (by omega) g o rfl
        have hol : (pr.drop (8 * q)).length = 8 := by rw [List.length_drop, HX.out.1]; omega
        obtain ⟨x0, x1, x2, x3, x4, x5, x6, x7, hx8⟩ := c8cells _ hol
        have HX8 := Lib.hid hx8
        obtain ⟨a0, a1, a2, a3, a4, a5, a6, a7, ha8⟩ := c8cells _ HLF.out
        have HA8 := Lib.hid ha8
        have HM' := Lib.hid hq
        have HBND : Hid (m ≤ cap) := hcap
        have HM1 : Hid (m ≤ 1000000) := hm
        have s1 := fun w => sl_front g o m cap q w (by omega) (by omega)
        have CC := Lib.hid (fun w => p20 n w (by omega) h64)
        have e1 : (m : Int) - 1 = (q : Int) := by omega
        have v0 : IntKind.i64.wrap (q : Int) = (q : Int) := by rw [IntKind.wrap_i64]; omega
        have q1 : ¬ (n : Int) = 1 := by omega
        have q2 : (q : Int) < (m : Int) := by omega
        have q4 : ¬ (m : Int) = 0 := by omega
        obtain ⟨k, hk⟩ : ∃ k, cutN n = k := ⟨_, rfl⟩
        rw [hk] at c1 c2 c3 CC
        have HKK := Lib.hid hk
        have h6 := Tryd.zeroValue32
        by_cases hlt : i < k
        · have q3 : (i : Int) < (k : Int) := by omega
          obtain ⟨b, hb⟩ : ∃ b, decide (q = stepsF f i k) = b := ⟨_, rfl⟩
          have HD : Hid (decide (m = stepsF (f + 1) i n) = b) := by
            show _ = _
            rw [stepsF_l f i n (by omega) (by rw [hk]; exact hlt), hk, hq, ← hb]
            exact decide_eq_decide.2 (by omega)
          have HR : Hid (leadF (f + 1) leaf i n m pr = twoH (leadF f leaf i k q (pr.take (8 * q))) [x0, x1, x2, x3, x4, x5, x6, x7]) := by
            show _ = _
            rw [hq, leadF_l f leaf i n q pr (by omega) (by rw [hk]; exact hlt), hk, HX8.out]
          have E1 : Hid (∀ w', Below S w w' → Calls Tryd.prog 50 #[.agg #[.int .u8 a0, .int .u8 a1, .int .u8 a2, .int .u8 a3, .int .u8 a4, .int .u8 a5, .int .u8 a6, .int .u8 a7], .int .i64 i, .int .i64 k, .slice (some ⟨g, o, none⟩) q cap] w' (fun e w'' => ∃ h : List Int, h.length = 8 ∧ (b = true → h = leadF f leaf i k q (pr.take (8 * q))) ∧ e = .returned (.tuple #[.agg (ba h), .bool b]) ∧ Below w'.heap.size w' w'')) := fun w' hbel => by
            have := r23 f leaf i k q cap _ _ w' (KW.out w' hbel) HLF.out (src_take (SW0.out w' hbel) q (by omega)) hlt (by omega) (by omega) (by omega) (by omega)
            rw [hb, HA8.out, ba_lit] at this
            rw [HA8.out]
            exact this
          generalize leadF f leaf i k q (pr.take (8 * q)) = ra at *
          clear hx8 ha8 hol hcap hm hb hq hk
          go_enter Tryd.func50, Tryd.ntmps50
          go_wp2_with (go_at_call 35; refine (CC.out _).mono ?_; rintro e w1 ⟨rfl, rfl⟩)
          clear hS T0 h4 h5 CC
          generalize (w.alloc (Obj.cells (ba leaf) 32)).alloc (Obj.cells (ba (zeros 8)) 32) = w0 at *
          have SL : Hid (S + 1 < w0.heap.size) := lt_of_block T1.out
          have KF : Hid (∀ w', Below w0.heap.size w0 w' → w'.cell? ⟨S, 0, none⟩ = some (.int .u8 a0) ∧ w'.cell? ⟨S, 1, none⟩ = some (.int .u8 a1) ∧ w'.cell? ⟨S, 2, none⟩ = some (.int .u8 a2) ∧ w'.cell? ⟨S, 3, none⟩ = some (.int .u8 a3) ∧ w'.cell? ⟨S, 4, none⟩ = some (.int .u8 a4) ∧ w'.cell? ⟨S, 5, none⟩ = some (.int .u8 a5) ∧ w'.cell? ⟨S, 6, none⟩ = some (.int .u8 a6) ∧ w'.cell? ⟨S, 7, none⟩ = some (.int .u8 a7)) := fun w' hb => cells8 (t := 32) a0 a1 a2 a3 a4 a5 a6 a7 (by have := (hb.block S (by have := SL.out; omega)).trans T2.out; rw [HA8.out] at this; exact this)
          have X0 : Hid (Below w0.heap.size w0 w0) := Below.refl _ _
          have BB : Hid (∀ w', Below w0.heap.size w0 w' → Below S w w') := fun w' hb => B0.out.trans (hb.mono (by have := SL.out; omega))
          obtain ⟨u0, u1, u2, u3, u4, u5, u6, u7⟩ := KF.out w0 X0.out
          have nn := World.new_ne w0 _ u0
          obtain ⟨V, hV⟩ : ∃ V, w0.heap.size = V := ⟨_, rfl⟩
          have HV := Lib.hid hV
          rw [hV] at nn
          have nn2 : ¬ S = V := fun e => nn e.symm
          have XA : Hid (Below w0.heap.size w0 (w0.alloc (Obj.cells #[.int .u8 0, .int .u8 0, .int .u8 0, .int .u8 0, .int .u8 0, .int .u8 0, .int .u8 0, .int .u8 0] 32)).drew) := ((Below.refl _ w0).alloc (Nat.le_refl _) _).drew
          have TV0 : Hid (BA (w0.alloc (Obj.cells #[.int .u8 0, .int .u8 0, .int .u8 0, .int .u8 0, .int .u8 0, .int .u8 0, .int .u8 0, .int .u8 0] 32)).drew V 32 (zeros 8)) := by
            show (w0.alloc (Obj.cells #[.int .u8 0, .int .u8 0, .int .u8 0, .int .u8 0, .int .u8 0, .int .u8 0, .int .u8 0, .int .u8 0] 32)).heap[V]? = some (Obj.cells (ba [0, 0, 0, 0, 0, 0, 0, 0]) 32 (0, 0))
            rw [ba_lit, ← HV.out]
            exact heap_alloc_last w0 _
          clear c1 c2 c3 hlt hi hf h64 hn hm0
          go_region_held3 (fun w' => w'.cell? ⟨S, 0, none⟩ = some (.int .u8 a0) ∧ w'.cell? ⟨S, 1, none⟩ = some (.int .u8 a1) ∧ w'.cell? ⟨S, 2, none⟩ = some (.int .u8 a2) ∧ w'.cell? ⟨S, 3, none⟩ = some (.int .u8 a3) ∧ w'.cell? ⟨S, 4, none⟩ = some (.int .u8 a4) ∧ w'.cell? ⟨S, 5, none⟩ = some (.int .u8 a5) ∧ w'.cell? ⟨S, 6, none⟩ = some (.int .u8 a6) ∧ w'.cell? ⟨S, 7, none⟩ = some (.int .u8 a7)) (first | (with_reducible exact KKa.out) | go_keep)
            (first
              | (go_at_call 50; (with_reducible refine (E1.out _ (BB.out _ XA.out)).mono ?_); rintro e wa ⟨h, hl, heq, rfl, hba⟩; obtain ⟨h0, h1, h2, h3, h4, h5, h6, h7, hh8⟩ := c8cells h hl; have HH8 := Lib.hid hh8; have HEQ := Lib.hid heq; rw [hh8, ba_lit]; have Xa : Hid (Below w0.heap.size w0 wa) := XA.out.trans (hba.mono XA.out.size); have KKa := Lib.hid (KF.out wa Xa.out); have Ua : Hid (BA wa (S + 1) 32 (zeros 8)) := (Xa.out.block (S + 1) SL.out).trans T1.out; have TVa : Hid (BA wa V 32 (zeros 8)) := (hba.block V (lt_of_block TV0.out)).trans TV0.out; obtain ⟨z0, z1, z2, z3, z4, z5, z6, z7⟩ := cells8 (t := 32) 0 0 0 0 0 0 0 0 TVa.out; have f0 := free_of TVa.out; clear hba hl heq hh8 E1)
              | (go_at_call 50; (with_reducible refine (E1.out _ (BB.out _ X0.out.drew)).mono ?_); rintro e wa ⟨h, hl, heq, rfl, hba⟩; obtain ⟨h0, h1, h2, h3, h4, h5, h6, h7, hh8⟩ := c8cells h hl; have HH8 := Lib.hid hh8; have HEQ := Lib.hid heq; rw [hh8, ba_lit]; have Xa : Hid (Below w0.heap.size w0 wa) := X0.out.drew.trans (hba.mono X0.out.drew.size); have KKa := Lib.hid (KF.out wa Xa.out); have Ua : Hid (BA wa (S + 1) 32 (zeros 8)) := (Xa.out.block (S + 1) SL.out).trans T1.out; obtain ⟨n0, n1, n2, n3, n4, n5, n6, n7⟩ := KKa.out; have nn3 := World.new_ne wa _ n0; obtain ⟨VV, hVV⟩ : ∃ VV, wa.heap.size = VV := ⟨_, rfl⟩; have HVV := Lib.hid hVV; rw [hVV] at nn3; have nn4 : ¬ S = VV := (fun e => nn3 e.symm); clear hba hl heq hh8 E1))
          · rename_i hHeld
            clear hHeld u0 u1 u2 u3 u4 u5 u6 u7 nn nn2 nn3 nn4 n0 n1 n2 n3 n4 n5 n6 n7
            have SV : Hid (S + 1 < VV) := by show _ < _; rw [← HVV.out]; exact lt_of_block Ua.out
            generalize hq : wa.alloc (Obj.cells #[.int .u8 h0, .int .u8 h1, .int .u8 h2, .int .u8 h3, .int .u8 h4, .int .u8 h5, .int .u8 h6, .int .u8 h7] 32) = w2
            have RF : Hid (BA w2 VV 32 [h0, h1, h2, h3, h4, h5, h6, h7]) := by
              rw [← hq, ← HVV.out]
              show (wa.alloc (Obj.cells #[.int .u8 h0, .int .u8 h1, .int .u8 h2, .int .u8 h3, .int .u8 h4, .int .u8 h5, .int .u8 h6, .int .u8 h7] 32)).heap[wa.heap.size]? = some (Obj.cells (ba [h0, h1, h2, h3, h4, h5, h6, h7]) 32 (0, 0))
              rw [ba_lit]
              exact heap_alloc_last wa _
            have BF : Hid (Below S w w2) := by rw [← hq]; exact (BB.out _ Xa.out).alloc (by have := SV.out; rw [HVV.out]; omega) _
            have UF : Hid (BA w2 (S + 1) 32 (zeros 8)) := by rw [← hq]; exact (Below.heap_alloc wa _ (S + 1) (lt_of_block Ua.out)).trans Ua.out
            clear hq hV hVV
            obtain ⟨y0, y1, y2, y3, y4, y5, y6, y7, hy8⟩ := c8cells (twoH [h0, h1, h2, h3, h4, h5, h6, h7] [x0, x1, x2, x3, x4, x5, x6, x7]) (twoH_len _ _)
            have HY8 := Lib.hid hy8
            have E3 : Hid (∀ w', Below S w w' → Calls Tryd.prog 36 #[.int .u8 109, .agg #[.int .u8 h0, .int .u8 h1, .int .u8 h2, .int .u8 h3, .int .u8 h4, .int .u8 h5, .int .u8 h6, .int .u8 h7], .agg #[.int .u8 x0, .int .u8 x1, .int .u8 x2, .int .u8 x3, .int .u8 x4, .int .u8 x5, .int .u8 x6, .int .u8 x7]] w' fun e w'' => e = .returned (.agg #[.int .u8 y0, .int .u8 y1, .int .u8 y2, .int .u8 y3, .int .u8 y4, .int .u8 y5, .int .u8 y6, .int .u8 y7]) ∧ Below w'.heap.size w' w'') := fun w' hb => by
              have := two14 [h0, h1, h2, h3, h4, h5, h6, h7] [x0, x1, x2, x3, x4, x5, x6, x7] w' (KW.out w' hb) rfl rfl
              rw [HY8.out, ba_lit, ba_lit, ba_lit] at this
              exact this
            have LV : Hid (VV < w2.heap.size) := lt_of_block RF.out
            have KG : Hid (∀ w', Below w2.heap.size w2 w' → (w'.cell? ⟨VV, 0, none⟩ = some (.int .u8 h0) ∧ w'.cell? ⟨VV, 1, none⟩ = some (.int .u8 h1) ∧ w'.cell? ⟨VV, 2, none⟩ = some (.int .u8 h2) ∧ w'.cell? ⟨VV, 3, none⟩ = some (.int .u8 h3) ∧ w'.cell? ⟨VV, 4, none⟩ = some (.int .u8 h4) ∧ w'.cell? ⟨VV, 5, none⟩ = some (.int .u8 h5) ∧ w'.cell? ⟨VV, 6, none⟩ = some (.int .u8 h6) ∧ w'.cell? ⟨VV, 7, none⟩ = some (.int .u8 h7)) ∧ (w'.cell? ⟨g, o + q * 8, none⟩ = some (.int .u8 x0) ∧ w'.cell? ⟨g, o + q * 8 + 1, none⟩ = some (.int .u8 x1) ∧ w'.cell? ⟨g, o + q * 8 + 2, none⟩ = some (.int .u8 x2) ∧ w'.cell? ⟨g, o + q * 8 + 3, none⟩ = some (.int .u8 x3) ∧ w'.cell? ⟨g, o + q * 8 + 4, none⟩ = some (.int .u8 x4) ∧ w'.cell? ⟨g, o + q * 8 + 5, none⟩ = some (.int .u8 x5) ∧ w'.cell? ⟨g, o + q * 8 + 6, none⟩ = some (.int .u8 x6) ∧ w'.cell? ⟨g, o + q * 8 + 7, none⟩ = some (.int .u8 x7))) := fun w' hb => ⟨cells8 (t := 32) h0 h1 h2 h3 h4 h5 h6 h7 ((hb.block VV LV.out).trans RF.out), src_eight (q := q) (by rw [← HM'.out]; exact SW0.out w' (BF.out.trans (hb.mono (by have := LV.out; have := SV.out; omega)))) x0 x1 x2 x3 x4 x5 x6 x7 HX8.out⟩
            have Y0 : Hid (Below w2.heap.size w2 w2) := Below.refl _ _
            have BG : Hid (∀ w', Below w2.heap.size w2 w' → Below S w w') := fun w' hb => BF.out.trans (hb.mono (by have := LV.out; have := SV.out; omega))
            obtain ⟨⟨k0, k1, k2, k3, k4, k5, k6, k7⟩, ⟨l0, l1, l2, l3, l4, l5, l6, l7⟩⟩ := KG.out w2 Y0.out
            have ne1 : S + 1 ≠ VV := by have := SV.out; omega
            have ne2 : VV ≠ S + 1 := by have := SV.out; omega
            have ne3 : g ≠ S + 1 := by have := HGS.out; omega
            have ne4 : S + 1 ≠ g := by have := HGS.out; omega
            clear hy8
            go_wp2_with fail
            go_region_held3 (fun w' => (w'.cell? ⟨VV, 0, none⟩ = some (.int .u8 h0) ∧ w'.cell? ⟨VV, 1, none⟩ = some (.int .u8 h1) ∧ w'.cell? ⟨VV, 2, none⟩ = some (.int .u8 h2) ∧ w'.cell? ⟨VV, 3, none⟩ = some (.int .u8 h3) ∧ w'.cell? ⟨VV, 4, none⟩ = some (.int .u8 h4) ∧ w'.cell? ⟨VV, 5, none⟩ = some (.int .u8 h5) ∧ w'.cell? ⟨VV, 6, none⟩ = some (.int .u8 h6) ∧ w'.cell? ⟨VV, 7, none⟩ = some (.int .u8 h7)) ∧ (w'.cell? ⟨g, o + q * 8, none⟩ = some (.int .u8 x0) ∧ w'.cell? ⟨g, o + q * 8 + 1, none⟩ = some (.int .u8 x1) ∧ w'.cell? ⟨g, o + q * 8 + 2, none⟩ = some (.int .u8 x2) ∧ w'.cell? ⟨g, o + q * 8 + 3, none⟩ = some (.int .u8 x3) ∧ w'.cell? ⟨g, o + q * 8 + 4, none⟩ = some (.int .u8 x4) ∧ w'.cell? ⟨g, o + q * 8 + 5, none⟩ = some (.int .u8 x5) ∧ w'.cell? ⟨g, o + q * 8 + 6, none⟩ = some (.int .u8 x6) ∧ w'.cell? ⟨g, o + q * 8 + 7, none⟩ = some (.int .u8 x7))) (first | (with_reducible exact KKb.out) | go_keep)
              (first
                | (go_at_call 36; refine (E3.out _ (by first | exact BG.out _ Y0.out | exact BG.out _ Y0.out.drew)).mono ?_; rintro e wz ⟨rfl, hbz⟩; have Xz : Hid (Below w2.heap.size w2 wz) := (by first | exact Y0.out.trans (hbz.mono Y0.out.size) | exact Y0.out.drew.trans (hbz.mono Y0.out.drew.size)); have KKb := Lib.hid (KG.out wz Xz.out); have Tz : Hid (BA wz (S + 1) 32 (zeros 8)) := (Xz.out.block (S + 1) (by have := LV.out; have := SV.out; omega)).trans UF.out; obtain ⟨z0, z1, z2, z3, z4, z5, z6, z7⟩ := cells8 (t := 32) 0 0 0 0 0 0 0 0 Tz.out; have f0 := free_of Tz.out; clear hbz))
            rename_i hHeld2
            clear hHeld2 z0 z1 z2 z3 z4 z5 z6 z7 f0
            have RF2 : Hid ((put8 wz (S + 1) y0 y1 y2 y3 y4 y5 y6 y7).heap[S + 1]? = some (.cells #[.int .u8 y0, .int .u8 y1, .int .u8 y2, .int .u8 y3, .int .u8 y4, .int .u8 y5, .int .u8 y6, .int .u8 y7] 32 (0, 0))) := by rw [← ba_lit]; exact put8_ba y0 y1 y2 y3 y4 y5 y6 y7 Tz.out
            have BF2 : Hid (Below S w (put8 wz (S + 1) y0 y1 y2 y3 y4 y5 y6 y7)) := put8_below y0 y1 y2 y3 y4 y5 y6 y7 (BG.out _ Xz.out) (by omega)
            change Exit.then _ _ Exit.normal _ (put8 wz (S + 1) y0 y1 y2 y3 y4 y5 y6 y7)
            generalize put8 wz (S + 1) y0 y1 y2 y3 y4 y5 y6 y7 = wf at *
            go_wp2
            refine bodyPost_ret (v := .tuple #[.agg #[.int .u8 y0, .int .u8 y1, .int .u8 y2, .int .u8 y3, .int .u8 y4, .int .u8 y5, .int .u8 y6, .int .u8 y7], .bool b]) (res2 rfl _ _ (S + 1) 32 #[.int .u8 y0, .int .u8 y1, .int .u8 y2, .int .u8 y3, .int .u8 y4, .int .u8 y5, .int .u8 y6, .int .u8 y7] (0, 0) _ rfl RF2.out Tryd.underlying32 rfl (sz s27 rfl) (.bool b) rfl) rfl ?_
            unfold UpR
            rw [HD.out]
            refine ⟨[y0, y1, y2, y3, y4, y5, y6, y7], rfl, fun hb => ?_, by rw [ba_lit], by rw [HS.out]; exact BF2.out⟩
            rw [HR.out, ← HEQ.out hb, HH8.out, HY8.out]
          · rename_i hHeld
            clear hHeld z0 z1 z2 z3 z4 z5 z6 z7 f0 u0 u1 u2 u3 u4 u5 u6 u7 nn nn2
            have RF : Hid (BA (put8 wa V h0 h1 h2 h3 h4 h5 h6 h7) V 32 [h0, h1, h2, h3, h4, h5, h6, h7]) := put8_ba h0 h1 h2 h3 h4 h5 h6 h7 TVa.out
            have BF : Hid (Below S w (put8 wa V h0 h1 h2 h3 h4 h5 h6 h7)) := put8_below h0 h1 h2 h3 h4 h5 h6 h7 (BB.out _ Xa.out) (by have := SL.out; have := HV.out; omega)
            have UF : Hid (BA (put8 wa V h0 h1 h2 h3 h4 h5 h6 h7) (S + 1) 32 (zeros 8)) := by
              have hb : Below V wa (put8 wa V h0 h1 h2 h3 h4 h5 h6 h7) := put8_below h0 h1 h2 h3 h4 h5 h6 h7 (Below.refl _ _) (Nat.le_refl _)
              exact (hb.block (S + 1) (by have := SL.out; have := HV.out; omega)).trans Ua.out
            have SV : Hid (S + 1 < V) := by show _ < _; have := SL.out; have := HV.out; omega
            change Exit.then _ _ Exit.normal _ (put8 wa V h0 h1 h2 h3 h4 h5 h6 h7)
            generalize put8 wa V h0 h1 h2 h3 h4 h5 h6 h7 = w2 at *
            clear hV
            obtain ⟨y0, y1, y2, y3, y4, y5, y6, y7, hy8⟩ := c8cells (twoH [h0, h1, h2, h3, h4, h5, h6, h7] [x0, x1, x2, x3, x4, x5, x6, x7]) (twoH_len _ _)
            have HY8 := Lib.hid hy8
            have E3 : Hid (∀ w', Below S w w' → Calls Tryd.prog 36 #[.int .u8 109, .agg #[.int .u8 h0, .int .u8 h1, .int .u8 h2, .int .u8 h3, .int .u8 h4, .int .u8 h5, .int .u8 h6, .int .u8 h7], .agg #[.int .u8 x0, .int .u8 x1, .int .u8 x2, .int .u8 x3, .int .u8 x4, .int .u8 x5, .int .u8 x6, .int .u8 x7]] w' fun e w'' => e = .returned (.agg #[.int .u8 y0, .int .u8 y1, .int .u8 y2, .int .u8 y3, .int .u8 y4, .int .u8 y5, .int .u8 y6, .int .u8 y7]) ∧ Below w'.heap.size w' w'') := fun w' hb => by
              have := two14 [h0, h1, h2, h3, h4, h5, h6, h7] [x0, x1, x2, x3, x4, x5, x6, x7] w' (KW.out w' hb) rfl rfl
              rw [HY8.out, ba_lit, ba_lit, ba_lit] at this
              exact this
            have LV : Hid (V < w2.heap.size) := lt_of_block RF.out
            have KG : Hid (∀ w', Below w2.heap.size w2 w' → (w'.cell? ⟨V, 0, none⟩ = some (.int .u8 h0) ∧ w'.cell? ⟨V, 1, none⟩ = some (.int .u8 h1) ∧ w'.cell? ⟨V, 2, none⟩ = some (.int .u8 h2) ∧ w'.cell? ⟨V, 3, none⟩ = some (.int .u8 h3) ∧ w'.cell? ⟨V, 4, none⟩ = some (.int .u8 h4) ∧ w'.cell? ⟨V, 5, none⟩ = some (.int .u8 h5) ∧ w'.cell? ⟨V, 6, none⟩ = some (.int .u8 h6) ∧ w'.cell? ⟨V, 7, none⟩ = some (.int .u8 h7)) ∧ (w'.cell? ⟨g, o + q * 8, none⟩ = some (.int .u8 x0) ∧ w'.cell? ⟨g, o + q * 8 + 1, none⟩ = some (.int .u8 x1) ∧ w'.cell? ⟨g, o + q * 8 + 2, none⟩ = some (.int .u8 x2) ∧ w'.cell? ⟨g, o + q * 8 + 3, none⟩ = some (.int .u8 x3) ∧ w'.cell? ⟨g, o + q * 8 + 4, none⟩ = some (.int .u8 x4) ∧ w'.cell? ⟨g, o + q * 8 + 5, none⟩ = some (.int .u8 x5) ∧ w'.cell? ⟨g, o + q * 8 + 6, none⟩ = some (.int .u8 x6) ∧ w'.cell? ⟨g, o + q * 8 + 7, none⟩ = some (.int .u8 x7))) := fun w' hb => ⟨cells8 (t := 32) h0 h1 h2 h3 h4 h5 h6 h7 ((hb.block V LV.out).trans RF.out), src_eight (q := q) (by rw [← HM'.out]; exact SW0.out w' (BF.out.trans (hb.mono (by have := LV.out; have := SV.out; omega)))) x0 x1 x2 x3 x4 x5 x6 x7 HX8.out⟩
            have Y0 : Hid (Below w2.heap.size w2 w2) := Below.refl _ _
            have BG : Hid (∀ w', Below w2.heap.size w2 w' → Below S w w') := fun w' hb => BF.out.trans (hb.mono (by have := LV.out; have := SV.out; omega))
            obtain ⟨⟨k0, k1, k2, k3, k4, k5, k6, k7⟩, ⟨l0, l1, l2, l3, l4, l5, l6, l7⟩⟩ := KG.out w2 Y0.out
            have ne1 : S + 1 ≠ V := by have := SV.out; omega
            have ne2 : V ≠ S + 1 := by have := SV.out; omega
            have ne3 : g ≠ S + 1 := by have := HGS.out; omega
            have ne4 : S + 1 ≠ g := by have := HGS.out; omega
            clear hy8
            go_wp2_with fail
            go_region_held3 (fun w' => (w'.cell? ⟨V, 0, none⟩ = some (.int .u8 h0) ∧ w'.cell? ⟨V, 1, none⟩ = some (.int .u8 h1) ∧ w'.cell? ⟨V, 2, none⟩ = some (.int .u8 h2) ∧ w'.cell? ⟨V, 3, none⟩ = some (.int .u8 h3) ∧ w'.cell? ⟨V, 4, none⟩ = some (.int .u8 h4) ∧ w'.cell? ⟨V, 5, none⟩ = some (.int .u8 h5) ∧ w'.cell? ⟨V, 6, none⟩ = some (.int .u8 h6) ∧ w'.cell? ⟨V, 7, none⟩ = some (.int .u8 h7)) ∧ (w'.cell? ⟨g, o + q * 8, none⟩ = some (.int .u8 x0) ∧ w'.cell? ⟨g, o + q * 8 + 1, none⟩ = some (.int .u8 x1) ∧ w'.cell? ⟨g, o + q * 8 + 2, none⟩ = some (.int .u8 x2) ∧ w'.cell? ⟨g, o + q * 8 + 3, none⟩ = some (.int .u8 x3) ∧ w'.cell? ⟨g, o + q * 8 + 4, none⟩ = some (.int .u8 x4) ∧ w'.cell? ⟨g, o + q * 8 + 5, none⟩ = some (.int .u8 x5) ∧ w'.cell? ⟨g, o + q * 8 + 6, none⟩ = some (.int .u8 x6) ∧ w'.cell? ⟨g, o + q * 8 + 7, none⟩ = some (.int .u8 x7))) (first | (with_reducible exact KKb.out) | go_keep)
              (first
                | (go_at_call 36; refine (E3.out _ (by first | exact BG.out _ Y0.out | exact BG.out _ Y0.out.drew)).mono ?_; rintro e wz ⟨rfl, hbz⟩; have Xz : Hid (Below w2.heap.size w2 wz) := (by first | exact Y0.out.trans (hbz.mono Y0.out.size) | exact Y0.out.drew.trans (hbz.mono Y0.out.drew.size)); have KKb := Lib.hid (KG.out wz Xz.out); have Tz : Hid (BA wz (S + 1) 32 (zeros 8)) := (Xz.out.block (S + 1) (by have := LV.out; have := SV.out; omega)).trans UF.out; obtain ⟨z0, z1, z2, z3, z4, z5, z6, z7⟩ := cells8 (t := 32) 0 0 0 0 0 0 0 0 Tz.out; have f0 := free_of Tz.out; clear hbz))
            rename_i hHeld2
            clear hHeld2 z0 z1 z2 z3 z4 z5 z6 z7 f0
            have RF2 : Hid ((put8 wz (S + 1) y0 y1 y2 y3 y4 y5 y6 y7).heap[S + 1]? = some (.cells #[.int .u8 y0, .int .u8 y1, .int .u8 y2, .int .u8 y3, .int .u8 y4, .int .u8 y5, .int .u8 y6, .int .u8 y7] 32 (0, 0))) := by rw [← ba_lit]; exact put8_ba y0 y1 y2 y3 y4 y5 y6 y7 Tz.out
            have BF2 : Hid (Below S w (put8 wz (S + 1) y0 y1 y2 y3 y4 y5 y6 y7)) := put8_below y0 y1 y2 y3 y4 y5 y6 y7 (BG.out _ Xz.out) (by omega)
            change Exit.then _ _ Exit.normal _ (put8 wz (S + 1) y0 y1 y2 y3 y4 y5 y6 y7)
            generalize put8 wz (S + 1) y0 y1 y2 y3 y4 y5 y6 y7 = wf at *
            go_wp2
            refine bodyPost_ret (v := .tuple #[.agg #[.int .u8 y0, .int .u8 y1, .int .u8 y2, .int .u8 y3, .int .u8 y4, .int .u8 y5, .int .u8 y6, .int .u8 y7], .bool b]) (res2 rfl _ _ (S + 1) 32 #[.int .u8 y0, .int .u8 y1, .int .u8 y2, .int .u8 y3, .int .u8 y4, .int .u8 y5, .int .u8 y6, .int .u8 y7] (0, 0) _ rfl RF2.out Tryd.underlying32 rfl (sz s27 rfl) (.bool b) rfl) rfl ?_
            unfold UpR
            rw [HD.out]
            refine ⟨[y0, y1, y2, y3, y4, y5, y6, y7], rfl, fun hb => ?_, by rw [ba_lit], by rw [HS.out]; exact BF2.out⟩
            rw [HR.out, ← HEQ.out hb, HH8.out, HY8.out]
        · have q3 : ¬ (i : Int) < (k : Int) := by omega
          obtain ⟨b, hb⟩ : ∃ b, decide (q = stepsF f (i - k) (n - k)) = b := ⟨_, rfl⟩
          have HD : Hid (decide (m = stepsF (f + 1) i n) = b) := by
            show _ = _
            rw [stepsF_r f i n (by omega) (by rw [hk]; exact hlt), hk, hq, ← hb]
            exact decide_eq_decide.2 (by omega)
          have HR : Hid (leadF (f + 1) leaf i n m pr = twoH [x0, x1, x2, x3, x4, x5, x6, x7] (leadF f leaf (i - k) (n - k) q (pr.take (8 * q)))) := by
            show _ = _
            rw [hq, leadF_r f leaf i n q pr (by omega) (by rw [hk]; exact hlt), hk, HX8.out]
          obtain ⟨i2, hi2⟩ : ∃ z, i - k = z := ⟨_, rfl⟩
          obtain ⟨n2, hn2⟩ : ∃ z, n - k = z := ⟨_, rfl⟩
          have e5 : (i : Int) - (k : Int) = (i2 : Int) := by omega
          have e6 : (n : Int) - (k : Int) = (n2 : Int) := by omega
          have v5 : IntKind.i64.wrap (i2 : Int) = (i2 : Int) := by rw [IntKind.wrap_i64]; omega
          have v6 : IntKind.i64.wrap (n2 : Int) = (n2 : Int) := by rw [IntKind.wrap_i64]; omega
          have E1 : Hid (∀ w', Below S w w' → Calls Tryd.prog 50 #[.agg #[.int .u8 a0, .int .u8 a1, .int .u8 a2, .int .u8 a3, .int .u8 a4, .int .u8 a5, .int .u8 a6, .int .u8 a7], .int .i64 i2, .int .i64 n2, .slice (some ⟨g, o, none⟩) q cap] w' (fun e w'' => ∃ h : List Int, h.length = 8 ∧ (b = true → h = leadF f leaf (i - k) (n - k) q (pr.take (8 * q))) ∧ e = .returned (.tuple #[.agg (ba h), .bool b]) ∧ Below w'.heap.size w' w'')) := fun w' hbel => by
            have := r23 f leaf (i - k) (n - k) q cap _ _ w' (KW.out w' hbel) HLF.out (src_take (SW0.out w' hbel) q (by omega)) (by omega) (by omega) (by omega) (by omega) (by omega)
            rw [hb, HA8.out, ba_lit, hi2, hn2] at this
            rw [HA8.out, hi2, hn2]
            exact this
          generalize leadF f leaf (i - k) (n - k) q (pr.take (8 * q)) = ra at *
          clear hi2 hn2 hx8 ha8 hol hcap hm hb hq hk
          go_enter Tryd.func50, Tryd.ntmps50
          go_wp2_with (go_at_call 35; refine (CC.out _).mono ?_; rintro e w1 ⟨rfl, rfl⟩)
          clear hS T0 h4 h5 CC
          generalize (w.alloc (Obj.cells (ba leaf) 32)).alloc (Obj.cells (ba (zeros 8)) 32) = w0 at *
          have SL : Hid (S + 1 < w0.heap.size) := lt_of_block T1.out
          have KF : Hid (∀ w', Below w0.heap.size w0 w' → w'.cell? ⟨S, 0, none⟩ = some (.int .u8 a0) ∧ w'.cell? ⟨S, 1, none⟩ = some (.int .u8 a1) ∧ w'.cell? ⟨S, 2, none⟩ = some (.int .u8 a2) ∧ w'.cell? ⟨S, 3, none⟩ = some (.int .u8 a3) ∧ w'.cell? ⟨S, 4, none⟩ = some (.int .u8 a4) ∧ w'.cell? ⟨S, 5, none⟩ = some (.int .u8 a5) ∧ w'.cell? ⟨S, 6, none⟩ = some (.int .u8 a6) ∧ w'.cell? ⟨S, 7, none⟩ = some (.int .u8 a7)) := fun w' hb => cells8 (t := 32) a0 a1 a2 a3 a4 a5 a6 a7 (by have := (hb.block S (by have := SL.out; omega)).trans T2.out; rw [HA8.out] at this; exact this)
          have X0 : Hid (Below w0.heap.size w0 w0) := Below.refl _ _
          have BB : Hid (∀ w', Below w0.heap.size w0 w' → Below S w w') := fun w' hb => B0.out.trans (hb.mono (by have := SL.out; omega))
          obtain ⟨u0, u1, u2, u3, u4, u5, u6, u7⟩ := KF.out w0 X0.out
          have nn := World.new_ne w0 _ u0
          obtain ⟨V, hV⟩ : ∃ V, w0.heap.size = V := ⟨_, rfl⟩
          have HV := Lib.hid hV
          rw [hV] at nn
          have nn2 : ¬ S = V := fun e => nn e.symm
          have XA : Hid (Below w0.heap.size w0 (w0.alloc (Obj.cells #[.int .u8 0, .int .u8 0, .int .u8 0, .int .u8 0, .int .u8 0, .int .u8 0, .int .u8 0, .int .u8 0] 32)).drew) := ((Below.refl _ w0).alloc (Nat.le_refl _) _).drew
          have TV0 : Hid (BA (w0.alloc (Obj.cells #[.int .u8 0, .int .u8 0, .int .u8 0, .int .u8 0, .int .u8 0, .int .u8 0, .int .u8 0, .int .u8 0] 32)).drew V 32 (zeros 8)) := by
            show (w0.alloc (Obj.cells #[.int .u8 0, .int .u8 0, .int .u8 0, .int .u8 0, .int .u8 0, .int .u8 0, .int .u8 0, .int .u8 0] 32)).heap[V]? = some (Obj.cells (ba [0, 0, 0, 0, 0, 0, 0, 0]) 32 (0, 0))
            rw [ba_lit, ← HV.out]
            exact heap_alloc_last w0 _
          clear c1 c2 c3 hlt hi hf h64 hn hm0
          go_region_held3 (fun w' => w'.cell? ⟨S, 0, none⟩ = some (.int .u8 a0) ∧ w'.cell? ⟨S, 1, none⟩ = some (.int .u8 a1) ∧ w'.cell? ⟨S, 2, none⟩ = some (.int .u8 a2) ∧ w'.cell? ⟨S, 3, none⟩ = some (.int .u8 a3) ∧ w'.cell? ⟨S, 4, none⟩ = some (.int .u8 a4) ∧ w'.cell? ⟨S, 5, none⟩ = some (.int .u8 a5) ∧ w'.cell? ⟨S, 6, none⟩ = some (.int .u8 a6) ∧ w'.cell? ⟨S, 7, none⟩ = some (.int .u8 a7)) (first | (with_reducible exact KKa.out) | go_keep)
            (first
              | (go_at_call 50; (with_reducible refine (E1.out _ (BB.out _ XA.out)).mono ?_); rintro e wa ⟨h, hl, heq, rfl, hba⟩; obtain ⟨h0, h1, h2, h3, h4, h5, h6, h7, hh8⟩ := c8cells h hl; have HH8 := Lib.hid hh8; have HEQ := Lib.hid heq; rw [hh8, ba_lit]; have Xa : Hid (Below w0.heap.size w0 wa) := XA.out.trans (hba.mono XA.out.size); have KKa := Lib.hid (KF.out wa Xa.out); have Ua : Hid (BA wa (S + 1) 32 (zeros 8)) := (Xa.out.block (S + 1) SL.out).trans T1.out; have TVa : Hid (BA wa V 32 (zeros 8)) := (hba.block V (lt_of_block TV0.out)).trans TV0.out; obtain ⟨z0, z1, z2, z3, z4, z5, z6, z7⟩ := cells8 (t := 32) 0 0 0 0 0 0 0 0 TVa.out; have f0 := free_of TVa.out; clear hba hl heq hh8 E1)
              | (go_at_call 50; (with_reducible refine (E1.out _ (BB.out _ X0.out.drew)).mono ?_); rintro e wa ⟨h, hl, heq, rfl, hba⟩; obtain ⟨h0, h1, h2, h3, h4, h5, h6, h7, hh8⟩ := c8cells h hl; have HH8 := Lib.hid hh8; have HEQ := Lib.hid heq; rw [hh8, ba_lit]; have Xa : Hid (Below w0.heap.size w0 wa) := X0.out.drew.trans (hba.mono X0.out.drew.size); have KKa := Lib.hid (KF.out wa Xa.out); have Ua : Hid (BA wa (S + 1) 32 (zeros 8)) := (Xa.out.block (S + 1) SL.out).trans T1.out; obtain ⟨n0, n1, n2, n3, n4, n5, n6, n7⟩ := KKa.out; have nn3 := World.new_ne wa _ n0; obtain ⟨VV, hVV⟩ : ∃ VV, wa.heap.size = VV := ⟨_, rfl⟩; have HVV := Lib.hid hVV; rw [hVV] at nn3; have nn4 : ¬ S = VV := (fun e => nn3 e.symm); clear hba hl heq hh8 E1))
          · rename_i hHeld
            clear hHeld u0 u1 u2 u3 u4 u5 u6 u7 nn nn2 nn3 nn4 n0 n1 n2 n3 n4 n5 n6 n7
            have SV : Hid (S + 1 < VV) := by show _ < _; rw [← HVV.out]; exact lt_of_block Ua.out
            generalize hq : wa.alloc (Obj.cells #[.int .u8 h0, .int .u8 h1, .int .u8 h2, .int .u8 h3, .int .u8 h4, .int .u8 h5, .int .u8 h6, .int .u8 h7] 32) = w2
            have RF : Hid (BA w2 VV 32 [h0, h1, h2, h3, h4, h5, h6, h7]) := by
              rw [← hq, ← HVV.out]
              show (wa.alloc (Obj.cells #[.int .u8 h0, .int .u8 h1, .int .u8 h2, .int .u8 h3, .int .u8 h4, .int .u8 h5, .int .u8 h6, .int .u8 h7] 32)).heap[wa.heap.size]? = some (Obj.cells (ba [h0, h1, h2, h3, h4, h5, h6, h7]) 32 (0, 0))
              rw [ba_lit]
              exact heap_alloc_last wa _
            have BF : Hid (Below S w w2) := by rw [← hq]; exact (BB.out _ Xa.out).alloc (by have := SV.out; rw [HVV.out]; omega) _
            have UF : Hid (BA w2 (S + 1) 32 (zeros 8)) := by rw [← hq]; exact (Below.heap_alloc wa _ (S + 1) (lt_of_block Ua.out)).trans Ua.out
            clear hq hV hVV
            obtain ⟨y0, y1, y2, y3, y4, y5, y6, y7, hy8⟩ := c8cells (twoH [x0, x1, x2, x3, x4, x5, x6, x7] [h0, h1, h2, h3, h4, h5, h6, h7]) (twoH_len _ _)
            have HY8 := Lib.hid hy8
            have E3 : Hid (∀ w', Below S w w' → Calls Tryd.prog 36 #[.int .u8 109, .agg #[.int .u8 x0, .int .u8 x1, .int .u8 x2, .int .u8 x3, .int .u8 x4, .int .u8 x5, .int .u8 x6, .int .u8 x7], .agg #[.int .u8 h0, .int .u8 h1, .int .u8 h2, .int .u8 h3, .int .u8 h4, .int .u8 h5, .int .u8 h6, .int .u8 h7]] w' fun e w'' => e = .returned (.agg #[.int .u8 y0, .int .u8 y1, .int .u8 y2, .int .u8 y3, .int .u8 y4, .int .u8 y5, .int .u8 y6, .int .u8 y7]) ∧ Below w'.heap.size w' w'') := fun w' hb => by
              have := two14 [x0, x1, x2, x3, x4, x5, x6, x7] [h0, h1, h2, h3, h4, h5, h6, h7] w' (KW.out w' hb) rfl rfl
              rw [HY8.out, ba_lit, ba_lit, ba_lit] at this
              exact this
            have LV : Hid (VV < w2.heap.size) := lt_of_block RF.out
            have KG : Hid (∀ w', Below w2.heap.size w2 w' → (w'.cell? ⟨VV, 0, none⟩ = some (.int .u8 h0) ∧ w'.cell? ⟨VV, 1, none⟩ = some (.int .u8 h1) ∧ w'.cell? ⟨VV, 2, none⟩ = some (.int .u8 h2) ∧ w'.cell? ⟨VV, 3, none⟩ = some (.int .u8 h3) ∧ w'.cell? ⟨VV, 4, none⟩ = some (.int .u8 h4) ∧ w'.cell? ⟨VV, 5, none⟩ = some (.int .u8 h5) ∧ w'.cell? ⟨VV, 6, none⟩ = some (.int .u8 h6) ∧ w'.cell? ⟨VV, 7, none⟩ = some (.int .u8 h7)) ∧ (w'.cell? ⟨g, o + q * 8, none⟩ = some (.int .u8 x0) ∧ w'.cell? ⟨g, o + q * 8 + 1, none⟩ = some (.int .u8 x1) ∧ w'.cell? ⟨g, o + q * 8 + 2, none⟩ = some (.int .u8 x2) ∧ w'.cell? ⟨g, o + q * 8 + 3, none⟩ = some (.int .u8 x3) ∧ w'.cell? ⟨g, o + q * 8 + 4, none⟩ = some (.int .u8 x4) ∧ w'.cell? ⟨g, o + q * 8 + 5, none⟩ = some (.int .u8 x5) ∧ w'.cell? ⟨g, o + q * 8 + 6, none⟩ = some (.int .u8 x6) ∧ w'.cell? ⟨g, o + q * 8 + 7, none⟩ = some (.int .u8 x7))) := fun w' hb => ⟨cells8 (t := 32) h0 h1 h2 h3 h4 h5 h6 h7 ((hb.block VV LV.out).trans RF.out), src_eight (q := q) (by rw [← HM'.out]; exact SW0.out w' (BF.out.trans (hb.mono (by have := LV.out; have := SV.out; omega)))) x0 x1 x2 x3 x4 x5 x6 x7 HX8.out⟩
            have Y0 : Hid (Below w2.heap.size w2 w2) := Below.refl _ _
            have BG : Hid (∀ w', Below w2.heap.size w2 w' → Below S w w') := fun w' hb => BF.out.trans (hb.mono (by have := LV.out; have := SV.out; omega))
            obtain ⟨⟨k0, k1, k2, k3, k4, k5, k6, k7⟩, ⟨l0, l1, l2, l3, l4, l5, l6, l7⟩⟩ := KG.out w2 Y0.out
            have ne1 : S + 1 ≠ VV := by have := SV.out; omega
            have ne2 : VV ≠ S + 1 := by have := SV.out; omega
            have ne3 : g ≠ S + 1 := by have := HGS.out; omega
            have ne4 : S + 1 ≠ g := by have := HGS.out; omega
            clear hy8
            go_wp2_with fail
            go_region_held3 (fun w' => (w'.cell? ⟨VV, 0, none⟩ = some (.int .u8 h0) ∧ w'.cell? ⟨VV, 1, none⟩ = some (.int .u8 h1) ∧ w'.cell? ⟨VV, 2, none⟩ = some (.int .u8 h2) ∧ w'.cell? ⟨VV, 3, none⟩ = some (.int .u8 h3) ∧ w'.cell? ⟨VV, 4, none⟩ = some (.int .u8 h4) ∧ w'.cell? ⟨VV, 5, none⟩ = some (.int .u8 h5) ∧ w'.cell? ⟨VV, 6, none⟩ = some (.int .u8 h6) ∧ w'.cell? ⟨VV, 7, none⟩ = some (.int .u8 h7)) ∧ (w'.cell? ⟨g, o + q * 8, none⟩ = some (.int .u8 x0) ∧ w'.cell? ⟨g, o + q * 8 + 1, none⟩ = some (.int .u8 x1) ∧ w'.cell? ⟨g, o + q * 8 + 2, none⟩ = some (.int .u8 x2) ∧ w'.cell? ⟨g, o + q * 8 + 3, none⟩ = some (.int .u8 x3) ∧ w'.cell? ⟨g, o + q * 8 + 4, none⟩ = some (.int .u8 x4) ∧ w'.cell? ⟨g, o + q * 8 + 5, none⟩ = some (.int .u8 x5) ∧ w'.cell? ⟨g, o + q * 8 + 6, none⟩ = some (.int .u8 x6) ∧ w'.cell? ⟨g, o + q * 8 + 7, none⟩ = some (.int .u8 x7))) (first | (with_reducible exact KKb.out) | go_keep)
              (first
                | (go_at_call 36; refine (E3.out _ (by first | exact BG.out _ Y0.out | exact BG.out _ Y0.out.drew)).mono ?_; rintro e wz ⟨rfl, hbz⟩; have Xz : Hid (Below w2.heap.size w2 wz) := (by first | exact Y0.out.trans (hbz.mono Y0.out.size) | exact Y0.out.drew.trans (hbz.mono Y0.out.drew.size)); have KKb := Lib.hid (KG.out wz Xz.out); have Tz : Hid (BA wz (S + 1) 32 (zeros 8)) := (Xz.out.block (S + 1) (by have := LV.out; have := SV.out; omega)).trans UF.out; obtain ⟨z0, z1, z2, z3, z4, z5, z6, z7⟩ := cells8 (t := 32) 0 0 0 0 0 0 0 0 Tz.out; have f0 := free_of Tz.out; clear hbz))
            rename_i hHeld2
            clear hHeld2 z0 z1 z2 z3 z4 z5 z6 z7 f0
            have RF2 : Hid ((put8 wz (S + 1) y0 y1 y2 y3 y4 y5 y6 y7).heap[S + 1]? = some (.cells #[.int .u8 y0, .int .u8 y1, .int .u8 y2, .int .u8 y3, .int .u8 y4, .int .u8 y5, .int .u8 y6, .int .u8 y7] 32 (0, 0))) := by rw [← ba_lit]; exact put8_ba y0 y1 y2 y3 y4 y5 y6 y7 Tz.out
            have BF2 : Hid (Below S w (put8 wz (S + 1) y0 y1 y2 y3 y4 y5 y6 y7)) := put8_below y0 y1 y2 y3 y4 y5 y6 y7 (BG.out _ Xz.out) (by omega)
            change Exit.then _ _ Exit.normal _ (put8 wz (S + 1) y0 y1 y2 y3 y4 y5 y6 y7)
            generalize put8 wz (S + 1) y0 y1 y2 y3 y4 y5 y6 y7 = wf at *
            go_wp2
            refine bodyPost_ret (v := .tuple #[.agg #[.int .u8 y0, .int .u8 y1, .int .u8 y2, .int .u8 y3, .int .u8 y4, .int .u8 y5, .int .u8 y6, .int .u8 y7], .bool b]) (res2 rfl _ _ (S + 1) 32 #[.int .u8 y0, .int .u8 y1, .int .u8 y2, .int .u8 y3, .int .u8 y4, .int .u8 y5, .int .u8 y6, .int .u8 y7] (0, 0) _ rfl RF2.out Tryd.underlying32 rfl (sz s27 rfl) (.bool b) rfl) rfl ?_
            unfold UpR
            rw [HD.out]
            refine ⟨[y0, y1, y2, y3, y4, y5, y6, y7], rfl, fun hb => ?_, by rw [ba_lit], by rw [HS.out]; exact BF2.out⟩
            rw [HR.out, ← HEQ.out hb, HH8.out, HY8.out]
          · rename_i hHeld
            clear hHeld z0 z1 z2 z3 z4 z5 z6 z7 f0 u0 u1 u2 u3 u4 u5 u6 u7 nn nn2
            have RF : Hid (BA (put8 wa V h0 h1 h2 h3 h4 h5 h6 h7) V 32 [h0, h1, h2, h3, h4, h5, h6, h7]) := put8_ba h0 h1 h2 h3 h4 h5 h6 h7 TVa.out
            have BF : Hid (Below S w (put8 wa V h0 h1 h2 h3 h4 h5 h6 h7)) := put8_below h0 h1 h2 h3 h4 h5 h6 h7 (BB.out _ Xa.out) (by have := SL.out; have := HV.out; omega)
            have UF : Hid (BA (put8 wa V h0 h1 h2 h3 h4 h5 h6 h7) (S + 1) 32 (zeros 8)) := by
              have hb : Below V wa (put8 wa V h0 h1 h2 h3 h4 h5 h6 h7) := put8_below h0 h1 h2 h3 h4 h5 h6 h7 (Below.refl _ _) (Nat.le_refl _)
              exact (hb.block (S + 1) (by have := SL.out; have := HV.out; omega)).trans Ua.out
            have SV : Hid (S + 1 < V) := by show _ < _; have := SL.out; have := HV.out; omega
            change Exit.then _ _ Exit.normal _ (put8 wa V h0 h1 h2 h3 h4 h5 h6 h7)
            generalize put8 wa V h0 h1 h2 h3 h4 h5 h6 h7 = w2 at *
            clear hV
            obtain ⟨y0, y1, y2, y3, y4, y5, y6, y7, hy8⟩ := c8cells (twoH [x0, x1, x2, x3, x4, x5, x6, x7] [h0, h1, h2, h3, h4, h5, h6, h7]) (twoH_len _ _)
            have HY8 := Lib.hid hy8
            have E3 : Hid (∀ w', Below S w w' → Calls Tryd.prog 36 #[.int .u8 109, .agg #[.int .u8 x0, .int .u8 x1, .int .u8 x2, .int .u8 x3, .int .u8 x4, .int .u8 x5, .int .u8 x6, .int .u8 x7], .agg #[.int .u8 h0, .int .u8 h1, .int .u8 h2, .int .u8 h3, .int .u8 h4, .int .u8 h5, .int .u8 h6, .int .u8 h7]] w' fun e w'' => e = .returned (.agg #[.int .u8 y0, .int .u8 y1, .int .u8 y2, .int .u8 y3, .int .u8 y4, .int .u8 y5, .int .u8 y6, .int .u8 y7]) ∧ Below w'.heap.size w' w'') := fun w' hb => by
              have := two14 [x0, x1, x2, x3, x4, x5, x6, x7] [h0, h1, h2, h3, h4, h5, h6, h7] w' (KW.out w' hb) rfl rfl
              rw [HY8.out, ba_lit, ba_lit, ba_lit] at this
              exact this
            have LV : Hid (V < w2.heap.size) := lt_of_block RF.out
            have KG : Hid (∀ w', Below w2.heap.size w2 w' → (w'.cell? ⟨V, 0, none⟩ = some (.int .u8 h0) ∧ w'.cell? ⟨V, 1, none⟩ = some (.int .u8 h1) ∧ w'.cell? ⟨V, 2, none⟩ = some (.int .u8 h2) ∧ w'.cell? ⟨V, 3, none⟩ = some (.int .u8 h3) ∧ w'.cell? ⟨V, 4, none⟩ = some (.int .u8 h4) ∧ w'.cell? ⟨V, 5, none⟩ = some (.int .u8 h5) ∧ w'.cell? ⟨V, 6, none⟩ = some (.int .u8 h6) ∧ w'.cell? ⟨V, 7, none⟩ = some (.int .u8 h7)) ∧ (w'.cell? ⟨g, o + q * 8, none⟩ = some (.int .u8 x0) ∧ w'.cell? ⟨g, o + q * 8 + 1, none⟩ = some (.int .u8 x1) ∧ w'.cell? ⟨g, o + q * 8 + 2, none⟩ = some (.int .u8 x2) ∧ w'.cell? ⟨g, o + q * 8 + 3, none⟩ = some (.int .u8 x3) ∧ w'.cell? ⟨g, o + q * 8 + 4, none⟩ = some (.int .u8 x4) ∧ w'.cell? ⟨g, o + q * 8 + 5, none⟩ = some (.int .u8 x5) ∧ w'.cell? ⟨g, o + q * 8 + 6, none⟩ = some (.int .u8 x6) ∧ w'.cell? ⟨g, o + q * 8 + 7, none⟩ = some (.int .u8 x7))) := fun w' hb => ⟨cells8 (t := 32) h0 h1 h2 h3 h4 h5 h6 h7 ((hb.block V LV.out).trans RF.out), src_eight (q := q) (by rw [← HM'.out]; exact SW0.out w' (BF.out.trans (hb.mono (by have := LV.out; have := SV.out; omega)))) x0 x1 x2 x3 x4 x5 x6 x7 HX8.out⟩
            have Y0 : Hid (Below w2.heap.size w2 w2) := Below.refl _ _
            have BG : Hid (∀ w', Below w2.heap.size w2 w' → Below S w w') := fun w' hb => BF.out.trans (hb.mono (by have := LV.out; have := SV.out; omega))
            obtain ⟨⟨k0, k1, k2, k3, k4, k5, k6, k7⟩, ⟨l0, l1, l2, l3, l4, l5, l6, l7⟩⟩ := KG.out w2 Y0.out
            have ne1 : S + 1 ≠ V := by have := SV.out; omega
            have ne2 : V ≠ S + 1 := by have := SV.out; omega
            have ne3 : g ≠ S + 1 := by have := HGS.out; omega
            have ne4 : S + 1 ≠ g := by have := HGS.out; omega
            clear hy8
            go_wp2_with fail
            go_region_held3 (fun w' => (w'.cell? ⟨V, 0, none⟩ = some (.int .u8 h0) ∧ w'.cell? ⟨V, 1, none⟩ = some (.int .u8 h1) ∧ w'.cell? ⟨V, 2, none⟩ = some (.int .u8 h2) ∧ w'.cell? ⟨V, 3, none⟩ = some (.int .u8 h3) ∧ w'.cell? ⟨V, 4, none⟩ = some (.int .u8 h4) ∧ w'.cell? ⟨V, 5, none⟩ = some (.int .u8 h5) ∧ w'.cell? ⟨V, 6, none⟩ = some (.int .u8 h6) ∧ w'.cell? ⟨V, 7, none⟩ = some (.int .u8 h7)) ∧ (w'.cell? ⟨g, o + q * 8, none⟩ = some (.int .u8 x0) ∧ w'.cell? ⟨g, o + q * 8 + 1, none⟩ = some (.int .u8 x1) ∧ w'.cell? ⟨g, o + q * 8 + 2, none⟩ = some (.int .u8 x2) ∧ w'.cell? ⟨g, o + q * 8 + 3, none⟩ = some (.int .u8 x3) ∧ w'.cell? ⟨g, o + q * 8 + 4, none⟩ = some (.int .u8 x4) ∧ w'.cell? ⟨g, o + q * 8 + 5, none⟩ = some (.int .u8 x5) ∧ w'.cell? ⟨g, o + q * 8 + 6, none⟩ = some (.int .u8 x6) ∧ w'.cell? ⟨g, o + q * 8 + 7, none⟩ = some (.int .u8 x7))) (first | (with_reducible exact KKb.out) | go_keep)
              (first
                | (go_at_call 36; refine (E3.out _ (by first | exact BG.out _ Y0.out | exact BG.out _ Y0.out.drew)).mono ?_; rintro e wz ⟨rfl, hbz⟩; have Xz : Hid (Below w2.heap.size w2 wz) := (by first | exact Y0.out.trans (hbz.mono Y0.out.size) | exact Y0.out.drew.trans (hbz.mono Y0.out.drew.size)); have KKb := Lib.hid (KG.out wz Xz.out); have Tz : Hid (BA wz (S + 1) 32 (zeros 8)) := (Xz.out.block (S + 1) (by have := LV.out; have := SV.out; omega)).trans UF.out; obtain ⟨z0, z1, z2, z3, z4, z5, z6, z7⟩ := cells8 (t := 32) 0 0 0 0 0 0 0 0 Tz.out; have f0 := free_of Tz.out; clear hbz))
            rename_i hHeld2
            clear hHeld2 z0 z1 z2 z3 z4 z5 z6 z7 f0
            have RF2 : Hid ((put8 wz (S + 1) y0 y1 y2 y3 y4 y5 y6 y7).heap[S + 1]? = some (.cells #[.int .u8 y0, .int .u8 y1, .int .u8 y2, .int .u8 y3, .int .u8 y4, .int .u8 y5, .int .u8 y6, .int .u8 y7] 32 (0, 0))) := by rw [← ba_lit]; exact put8_ba y0 y1 y2 y3 y4 y5 y6 y7 Tz.out
            have BF2 : Hid (Below S w (put8 wz (S + 1) y0 y1 y2 y3 y4 y5 y6 y7)) := put8_below y0 y1 y2 y3 y4 y5 y6 y7 (BG.out _ Xz.out) (by omega)
            change Exit.then _ _ Exit.normal _ (put8 wz (S + 1) y0 y1 y2 y3 y4 y5 y6 y7)
            generalize put8 wz (S + 1) y0 y1 y2 y3 y4 y5 y6 y7 = wf at *
            go_wp2
            refine bodyPost_ret (v := .tuple #[.agg #[.int .u8 y0, .int .u8 y1, .int .u8 y2, .int .u8 y3, .int .u8 y4, .int .u8 y5, .int .u8 y6, .int .u8 y7], .bool b]) (res2 rfl _ _ (S + 1) 32 #[.int .u8 y0, .int .u8 y1, .int .u8 y2, .int .u8 y3, .int .u8 y4, .int .u8 y5, .int .u8 y6, .int .u8 y7] (0, 0) _ rfl RF2.out Tryd.underlying32 rfl (sz s27 rfl) (.bool b) rfl) rfl ?_
            unfold UpR
            rw [HD.out]
            refine ⟨[y0, y1, y2, y3, y4, y5, y6, y7], rfl, fun hb => ?_, by rw [ba_lit], by rw [HS.out]; exact BF2.out⟩
            rw [HR.out, ← HEQ.out hb, HH8.out, HY8.out]
end Go.Proofs.YtfneopmgckejdaaDoor
