/-
  The document's mayPay.
-/
import Derived.Test.YtffaddefnpkcgaaGreatDoorZG
import Derived.BigQuiet
import Derived.Test.YtffaddefnpkcgaaGreatDoorZW
namespace Go.Proofs.YtffaddefnpkcgaaGreatDoor
open Go.RowKit
set_option maxRecDepth 100000
attribute [local irreducible] ua da ba kk sw S8.run rt hs comp splice outB sha msg zeros win bvals vals mHave mPlc mLis mPts cel seg
theorem rcd_get {rs : List (List Int)} {j : Nat} (h : j < rs.length) : rcd rs j = rs[j] := by simp [rcd, List.getD, h]
theorem all_rcd {p : List Int → Bool} {rs : List (List Int)} : rs.all p = true ↔ ∀ j, j < rs.length → p (rcd rs j) = true := by
  rw [List.all_eq_true]
  constructor
  · intro h j hj
    rw [rcd_get hj]
    exact h _ (List.getElem_mem hj)
  · intro h r hr
    obtain ⟨j, hj, rfl⟩ := List.getElem_of_mem hr
    rw [← rcd_get hj]
    exact h j hj
theorem pts_rcd {rs : List (List Int)} : mPts rs = true ↔ ∀ j, j < rs.length → ∀ a, a < j → seg (rcd rs a) 0 9 ≠ seg (rcd rs j) 0 9 := by
  unfold mPts
  rw [decide_eq_true_eq, List.Nodup, List.pairwise_iff_getElem]
  constructor
  · intro h j hj a ha
    have := h a j (by rw [List.length_map]; omega) (by rw [List.length_map]; exact hj) ha
    rw [List.getElem_map, List.getElem_map] at this
    rw [rcd_get hj, rcd_get (by omega)]
    exact this
  · intro h a j h1 h2 ha
    rw [List.length_map] at h1 h2
    rw [List.getElem_map, List.getElem_map, ← rcd_get h1, ← rcd_get h2]
    exact h j h2 a ha
theorem wq_load {P : Program} {ops : Array Oper} {C : World → Prop} {Q : Act → Prop} {rest : List Oper} {op : Oper} {a : Act} (hgd : op.guard = none) (ty : TypeId) (x : Operand) (ho : op.op = .load ty x)
    (b o : Nat) (hx : a.eval x = .pointer (some ⟨b, o, none⟩)) (cs : List Value) (d : TypeDesc) (hS : ∀ w, C w → w.rangeAt b o cs)
    (hu : P.underlying ty = some d) (hd : d.isRow = true) (hi : (P.info? ty).map (·.size) = some cs.length) (h : wpQuiet P ops C Q rest (a.put op.dst (.agg cs.toArray))) : wpQuiet P ops C Q (op :: rest) a :=
  wpQuiet_step fun K hK => by
    have hw : Region.wanted op (yielded ops a.tmps) = true := by simp [Region.wanted, hgd]
    rw [if_pos hw]
    refine ⟨_, fun w hw' => ?_, hK _ h⟩
    unfold Oper.quietAt execOp
    simp only [ho, hx, Instr.loadAt, Instr.sureAddr, Sem.run_bind, Sem.run_pure, Result.andThen_ok, run_loadVar_mid w b o ty cs d (hS w hw') hu hd hi]
    exact ⟨rfl, rfl⟩
theorem bel_drew {B : Nat} {w v : World} (h : Below B w v) (n : Nat) : Below B w (v.drewN n) := below_drewN h n
attribute [local irreducible] parC cerC claC txC mOuts
set_option maxHeartbeats 16000000 in
theorem dPay (t : TxP) (h : TxH) (w : World) (ht : WfT t) (hm : Mem w t h) :
    Calls Tryz.prog 45 #[.agg (txC t h).toArray] w fun e w' => e = .returned (.bool (mPay t)) ∧ Below w.heap.size w w' := by
  obtain ⟨ni, hni⟩ : ∃ n, t.ins.length = n := ⟨_, rfl⟩
  obtain ⟨no, hno⟩ : ∃ n, t.outs.length = n := ⟨_, rfl⟩
  obtain ⟨nf, hnf⟩ : ∃ n, t.fwds.length = n := ⟨_, rfl⟩
  have NI := Lib.hid hni
  have NO := Lib.hid hno
  have NF := Lib.hid hnf
  have c1 := hm.ic.le
  have c2 := hm.ic.mx
  have c3 := hm.oc.le
  have c4 := hm.oc.mx
  have c6 := hm.fc.le
  have c7 := hm.fc.mx
  unfold maxLen at c2 c4 c7
  have b63 : ni ≤ 9223372036854775807 := by omega
  have o63 : no ≤ 9223372036854775807 := by omega
  have f63 : nf ≤ 9223372036854775807 := by omega
  obtain ⟨z, hzz⟩ : ∃ z, IntKind.i64.wrap ((no : Int) + (nf : Int)) = z := ⟨_, rfl⟩
  obtain ⟨c5, hc5⟩ : ∃ c, mOuts t.outs = c := ⟨_, rfl⟩
  have H5 := Lib.hid hc5
  obtain ⟨S, hS⟩ : ∃ S, w.heap.size = S := ⟨_, rfl⟩
  have HS := Lib.hid hS
  have WC : Hid (BL (w.alloc (Obj.cells (txC t h).toArray 39)) S (txC t h) 39) := by rw [← hS]; exact heap_alloc_last w _
  have BC : Hid (Below S w (w.alloc (Obj.cells (txC t h).toArray 39))) := by rw [← hS]; exact (Below.refl _ w).alloc (Nat.le_refl _) _
  have NC : Hid ((w.alloc (Obj.cells (txC t h).toArray 39)).heap.size = S + 1) := by show _ = _; simp; omega
  have MM : Hid (Mem (w.alloc (Obj.cells (txC t h).toArray 39)) t h) := hm.keep fun q hq => BC.out.block q (by rw [← hS]; exact hq)
  have HW := Lib.hid ht
  clear hni hno hnf c1 c2 c3 c4 c6 c7 hc5 ht hm
  go_enter Tryz.func45, Tryz.ntmps45
  go_upto_region 1 with (fail)
  generalize (w.alloc (Obj.cells (txC t h).toArray 39)) = w0 at *
  have TR : Hid (∀ w', Below (S + 1) w0 w' → w'.cell? ⟨S, 2, none⟩ = some (.slice h.i.A ni h.i.c) ∧ w'.cell? ⟨S, 3, none⟩ = some (.slice h.o.A no h.o.c) ∧ w'.cell? ⟨S, 4, none⟩ = some (.slice h.f.A nf h.f.c)) := fun w' hb => by
    have := trng_keep (trng HW.out (range_of WC.out)) (hb.block S (by omega))
    have e1 := this.i
    have e2 := this.o
    have e3 := this.f
    rw [NI.out] at e1
    rw [NO.out] at e2
    rw [NF.out] at e3
    exact ⟨e1, e2, e3⟩
  have CO : Hid (∀ w', Below (S + 1) w0 w' → Calls Tryz.prog 44 #[.slice h.o.A no h.o.c] w' fun e w'' => e = .returned (.bool c5) ∧ Below w'.heap.size w' w'') := fun w' hb => by
    have := dOuts h.o.A t.outs.length h.o.c t.outs w' (MM.out.o.keep fun q hq => hb.block q (by rw [NC.out] at hq; exact hq)) HW.out.outs rfl MM.out.oc.le MM.out.oc.mx
    rw [H5.out, NO.out] at this
    exact this
  have FIN : Hid (∀ w', Below (S + 1) w0 w' → Below w.heap.size w w') := fun w' hb => by rw [HS.out]; exact BC.out.trans (hb.mono (by omega))
  have FIN2 : Hid (∀ w', Below (S + 1) w0 w' → Below S w w') := fun w' hb => BC.out.trans (hb.mono (by omega))
  have B0 : Hid (Below (S + 1) w0 w0) := Below.refl _ _
  by_cases h1 : (ni : Int) < 1
  · have HF : Hid (mPay t = false) := by
      show _ = _
      unfold mPay mIns mLis
      rw [NI.out, win_no1 h1]
      simp
    obtain ⟨k2, k3, k4⟩ := TR.out _ B0.out
    go_wp2_with (first | (go_at_call 44; refine (CO.out _ B0.out).mono ?_; rintro e w1 ⟨rfl, hb⟩; rw [NC.out] at hb; have B1 : Hid (Below (S + 1) w0 w1) := hb; clear hb k2 k3 k4; obtain ⟨k2, k3, k4⟩ := TR.out _ B1.out) | fail)
    go_ret
    exact ⟨by rw [HF.out] <;> rfl, by first | exact FIN.out _ B1.out | exact FIN2.out _ B1.out | exact FIN.out _ B0.out | exact FIN2.out _ B0.out⟩
  · by_cases h2 : 8 < (ni : Int)
    · have HF : Hid (mPay t = false) := by
        show _ = _
        unfold mPay mIns mLis
        rw [NI.out, win_no2 h2]
        simp
      obtain ⟨k2, k3, k4⟩ := TR.out _ B0.out
      go_wp2_with (first | (go_at_call 44; refine (CO.out _ B0.out).mono ?_; rintro e w1 ⟨rfl, hb⟩; rw [NC.out] at hb; have B1 : Hid (Below (S + 1) w0 w1) := hb; clear hb k2 k3 k4; obtain ⟨k2, k3, k4⟩ := TR.out _ B1.out) | fail)
      go_ret
      exact ⟨by rw [HF.out] <;> rfl, by first | exact FIN.out _ B1.out | exact FIN2.out _ B1.out | exact FIN.out _ B0.out | exact FIN2.out _ B0.out⟩
    · by_cases h3 : 16 < (nf : Int)
      · have HF : Hid (mPay t = false) := by
          show _ = _
          unfold mPay mFwds mLis
          rw [NF.out, win_no2 h3]
          simp
        obtain ⟨k2, k3, k4⟩ := TR.out _ B0.out
        go_wp2_with (first | (go_at_call 44; refine (CO.out _ B0.out).mono ?_; rintro e w1 ⟨rfl, hb⟩; rw [NC.out] at hb; have B1 : Hid (Below (S + 1) w0 w1) := hb; clear hb k2 k3 k4; obtain ⟨k2, k3, k4⟩ := TR.out _ B1.out) | fail)
        go_ret
        exact ⟨by rw [HF.out] <;> rfl, by first | exact FIN.out _ B1.out | exact FIN2.out _ B1.out | exact FIN.out _ B0.out | exact FIN2.out _ B0.out⟩
      · by_cases h4 : z = 0
        · have HF : Hid (mPay t = false) := by
            show _ = _
            have h5 : no + nf = 0 := by (rw [IntKind.wrap_i64] at hzz; omega)
            unfold mPay
            rw [NO.out, NF.out, decide_eq_false (show ¬ 0 < no + nf by omega)]
            simp
          obtain ⟨k2, k3, k4⟩ := TR.out _ B0.out
          go_wp2_with (first | (go_at_call 44; refine (CO.out _ B0.out).mono ?_; rintro e w1 ⟨rfl, hb⟩; rw [NC.out] at hb; have B1 : Hid (Below (S + 1) w0 w1) := hb; clear hb k2 k3 k4; obtain ⟨k2, k3, k4⟩ := TR.out _ B1.out) | fail)
          go_ret
          exact ⟨by rw [HF.out] <;> rfl, by first | exact FIN.out _ B1.out | exact FIN2.out _ B1.out | exact FIN.out _ B0.out | exact FIN2.out _ B0.out⟩
        · cases c5
          · have HF : Hid (mPay t = false) := by
              show _ = _
              unfold mPay
              rw [H5.out]
              simp
            obtain ⟨k2, k3, k4⟩ := TR.out _ B0.out
            go_wp2_with (first | (go_at_call 44; refine (CO.out _ B0.out).mono ?_; rintro e w1 ⟨rfl, hb⟩; rw [NC.out] at hb; have B1 : Hid (Below (S + 1) w0 w1) := hb; clear hb k2 k3 k4; obtain ⟨k2, k3, k4⟩ := TR.out _ B1.out) | fail)
            go_ret
            exact ⟨by rw [HF.out] <;> rfl, by first | exact FIN.out _ B1.out | exact FIN2.out _ B1.out | exact FIN.out _ B0.out | exact FIN2.out _ B0.out⟩
          · have hp4 : 0 < no + nf := by
              rcases Nat.eq_zero_or_pos (no + nf) with g | g
              · refine absurd ?_ h4
                rw [← hzz, IntKind.wrap_i64]; omega
              · exact g
            have HM : Hid (mPay t = ((t.ins.all mIn && mPts t.ins) && t.fwds.all mFwd)) := by
              show _ = _
              unfold mPay mIns mFwds mLis
              rw [H5.out, NI.out, NF.out, NO.out, win_yes (show 1 ≤ (ni : Int) by omega) (show (ni : Int) ≤ 8 by omega), win_yes (show 0 ≤ (nf : Int) by omega) (show (nf : Int) ≤ 16 by omega), decide_eq_true hp4]
              simp
            obtain ⟨k2, k3, k4⟩ := TR.out _ B0.out
            go_wp2_with (first | (go_at_call 44; refine (CO.out _ B0.out).mono ?_; rintro e w1 ⟨rfl, hb⟩; rw [NC.out] at hb; have B1 : Hid (Below (S + 1) w0 w1) := hb; clear hb k2 k3 k4; obtain ⟨k2, k3, k4⟩ := TR.out _ B1.out) | fail)
            clear k2 k3 k4
            obtain ⟨b, o, hbo, hat⟩ := lrow_at MM.out.i (by rw [NI.out]; omega)
            have T2 : Hid (∀ w', Below (S + 1) w0 w' → w'.cell? ⟨S, 2, none⟩ = some (.slice (some ⟨b, o, none⟩) ni h.i.c)) := fun w' hb => by
              have := (TR.out w' hb).1
              rw [hbo] at this
              exact this
            have HAT : Hid (∀ w', Below (S + 1) w0 w' → ∀ j, j < ni → w'.rangeAt b (o + j * 298) (vals inS (rcd t.ins j))) := fun w' hb j hj => range_keep (hat j (by rw [NI.out]; exact hj)) fun q hq => hb.block q (by rw [NC.out] at hq; exact hq)
            have OK : Hid (∀ j, j < ni → okT okA inS (rcd t.ins j)) := fun j hj => at_mem HW.out.ins (by rw [NI.out]; exact hj)
            clear hbo hat h1 h2 h4 hp4 hzz CO
            go_loopw [3, 4, 5] (fun i _ _ wr => ∃ k : Nat, k ≤ ni ∧ i = .int .i64 k ∧ (∀ j, j < k → mIn (rcd t.ins j) = true ∧ ∀ a, a < j → seg (rcd t.ins a) 0 9 ≠ seg (rcd t.ins j) 0 9) ∧ Below (S + 1) w0 wr) (fun i _ _ _ => ni - (intOf i).toNat)
            case atStart => exact ⟨0, Nat.zero_le _, rfl, fun j hj => by omega, B1.out⟩
            case round =>
              clear B1 B0
              obtain ⟨k, hk, rfl, hj, hb⟩ := hrel
              have HJ := Lib.hid hj
              have BR := Lib.hid hb
              clear hj hb
              by_cases hlt : k < ni
              · have s0 : (0 : Int) ≤ (k : Int) := by omega
                have s1 : (k : Int) < (ni : Int) := by omega
                have k2 := T2.out _ BR.out
                have hX := OK.out k hlt
                have HP : Hid (mIn (rcd t.ins k) = false → mPay t = false) := fun g => by
                  rw [HM.out, ← Bool.not_eq_true]
                  intro g2
                  simp only [Bool.and_eq_true] at g2
                  rw [all_rcd.1 g2.1.1 k (by rw [NI.out]; exact hlt)] at g
                  cases g
                have HQ : Hid (∀ a, a < k → seg (rcd t.ins a) 0 9 = seg (rcd t.ins k) 0 9 → mPay t = false) := fun a ha g => by
                  rw [HM.out, ← Bool.not_eq_true]
                  intro g2
                  simp only [Bool.and_eq_true] at g2
                  exact pts_rcd.1 g2.1.2 k (by rw [NI.out]; exact hlt) a ha g
                obtain ⟨x, hx⟩ : ∃ x, rcd t.ins k = x := ⟨_, rfl⟩
                have R1 : Hid (wr.rangeAt b (o + k * 298) (vals inS x)) := by rw [← hx]; exact HAT.out wr BR.out k hlt
                rw [hx] at hX HP HQ
                have HX := Lib.hid hx
                have LX : Hid (x.length = 298) := okT_len hX
                have HI := Lib.hid (szL i63 (vals_len (S := inS) LX.out))
                have HK := Lib.hid hlt
                have HPT := Lib.hid (szL i61 (vals_len (S := ptS) (r := seg x 0 9) (seg_len (by rw [LX.out]; omega))))
                obtain ⟨Y, hY⟩ : ∃ Y, wr.heap.size = Y := ⟨_, rfl⟩
                have NY : Hid (S + 1 ≤ Y) := by have := BR.out.size; rw [NC.out] at this; show S + 1 ≤ Y; omega
                have hz := z63
                have A0 : Hid ((wr.alloc (Obj.cells (vals inS (zeros 298)).toArray 63)).heap[Y]? = some (.cells (vals inS (zeros 298)).toArray 63 (0, 0))) := by subst hY; exact heap_alloc_last wr _
                have LZ : Hid ((vals inS (zeros 298)).length = 298) := vals_len (zeros_len 298)
                clear hX hx
                go_upto_region 7 with (first
                  | (refine wpList_load_mid rfl 63 (.tmp 49) rfl b (o + k * 298) rfl (vals inS x) _ R1.out Tryz.underlying63 rfl HI.out ?_)
                  | (refine wpList_store_rowTo rfl 63 (.tmp 4) (.tmp 50) rfl rfl Y (vals inS x).toArray rfl rfl 63 (vals inS (zeros 298)).toArray A0.out (szA i63 (vals_len (S := inS) LX.out)) (by rw [List.size_toArray, List.size_toArray, LZ.out, vals_len (S := inS) LX.out]; rfl) (all_oneCell_toArray (vals_one _ _)) ?_
                     generalize hq : (wr.alloc (Obj.cells (vals inS (zeros 298)).toArray 63)).setRow Y (vals inS x).toArray = wy
                     have RY : Hid (wy.rangeAt Y 0 (vals inS x)) := range_of (by rw [← hq]; exact setRow_heap _ _ _ _ _ _ A0.out)
                     have YB : Hid (Y < wy.heap.size) := lt_of_block (by rw [← hq]; exact setRow_heap _ _ _ _ _ _ A0.out)
                     have BY : Hid (Below (S + 1) w0 wy) := by rw [← hq]; exact below_setRow (BR.out.alloc (by rw [hY]; exact NY.out) _) NY.out _
                     clear hq A0)
                  | fail)
                clear k2 hz hY
                obtain ⟨u, hu⟩ : ∃ u, cel x 8 = u := ⟨_, rfl⟩
                obtain ⟨v, hv⟩ : ∃ v, cel x 17 = v := ⟨_, rfl⟩
                obtain ⟨_, q1, _, qs⟩ := in_at RY.out LX.out
                obtain ⟨q2, _⟩ := sig_at qs (seg_len (by rw [LX.out]; decide))
                rw [cel_seg (by decide)] at q2
                simp only [Nat.zero_add, Nat.add_zero] at q1 q2
                rw [hu] at q1
                rw [hv] at q2
                have HU := Lib.hid hu
                have HV := Lib.hid hv
                clear hu hv qs
                by_cases d1 : u < 0
                · have hf := Lib.hid (HP.out (by unfold mIn; rw [HU.out, win_no1 d1]; simp))
                  clear HP
                  go_wp2
                  go_ret
                  exact ⟨by rw [hf.out] <;> rfl, by first | exact FIN.out _ BY.out | exact FIN2.out _ BY.out⟩
                · by_cases d2 : 255 < u
                  · have hf := Lib.hid (HP.out (by unfold mIn; rw [HU.out, win_no2 d2]; simp))
                    clear HP
                    go_wp2
                    go_ret
                    exact ⟨by rw [hf.out] <;> rfl, by first | exact FIN.out _ BY.out | exact FIN2.out _ BY.out⟩
                  · by_cases d3 : v < 0
                    · have hf := Lib.hid (HP.out (by unfold mIn; rw [HV.out, win_no1 d3]; simp))
                      clear HP
                      go_wp2
                      go_ret
                      exact ⟨by rw [hf.out] <;> rfl, by first | exact FIN.out _ BY.out | exact FIN2.out _ BY.out⟩
                    · by_cases d4 : 255 < v
                      · have hf := Lib.hid (HP.out (by unfold mIn; rw [HV.out, win_no2 d4]; simp))
                        clear HP
                        go_wp2
                        go_ret
                        exact ⟨by rw [hf.out] <;> rfl, by first | exact FIN.out _ BY.out | exact FIN2.out _ BY.out⟩
                      · have HG : Hid (mIn x = true) := by
                          show _ = _
                          unfold mIn
                          rw [HU.out, HV.out, win_yes (show 0 ≤ u by omega) (show u ≤ 255 by omega), win_yes (show 0 ≤ v by omega) (show v ≤ 255 by omega)]
                          rfl
                        clear HP
                        go_wp2
                        clear q1 q2
                        go_loopw [5] (fun a wr => ∃ j : Nat, j ≤ k ∧ a = .int .i64 j ∧ (∀ i, i < j → seg (rcd t.ins i) 0 9 ≠ seg x 0 9) ∧ Below (Y + 1) wy wr) (fun a _ => k - (intOf a).toNat)
                        case atStart => exact ⟨0, Nat.zero_le _, rfl, fun j hj => by omega, Below.refl _ _⟩
                        case round =>
                          obtain ⟨j, hjk, rfl, hj, hb⟩ := hrel
                          have HJ2 := Lib.hid hj
                          have BZ := Lib.hid hb
                          have BS : Hid (Below (S + 1) w0 wr) := BY.out.trans (hb.mono (by have := NY.out; omega))
                          clear hj hb
                          by_cases hlt2 : j < k
                          · have t0 : (0 : Int) ≤ (j : Int) := by omega
                            have t1 : (j : Int) < (ni : Int) := by omega
                            have t2 : (j : Int) < (k : Int) := by omega
                            have k2 := T2.out _ BS.out
                            have hj' : j < ni := by omega
                            have LY : Hid ((rcd t.ins j).length = 298) := okT_len (OK.out j hj')
                            obtain ⟨y, hy⟩ : ∃ y, rcd t.ins j = y := ⟨_, rfl⟩
                            have HY := Lib.hid hy
                            have R2 : Hid (∀ n, (wr.drewN n).rangeAt b (o + j * 298) (vals ptS (seg y 0 9))) := fun n => in_pt (by rw [← hy]; exact HAT.out _ (bel_drew BS.out n) j hj') (by rw [← hy]; exact LY.out)
                            have R3 : Hid (∀ n, (wr.drewN n).rangeAt Y 0 (vals ptS (seg x 0 9))) := fun n => in_pt (range_keep1 RY.out ((bel_drew BZ.out n).block Y (by omega))) LX.out
                            rw [hy] at LY
                            have HPY := Lib.hid (szL i61 (vals_len (S := ptS) (r := seg y 0 9) (seg_len (by rw [LY.out]; omega))))
                            have EQ := fun w => eq_pt (seg y 0 9) (seg x 0 9) (seg_len (by rw [LY.out]; omega)) (seg_len (by rw [LX.out]; omega)) w
                            have HLT := Lib.hid hlt2
                            clear hy hj'
                            by_cases he : seg y 0 9 = seg x 0 9
                            · have hf := Lib.hid (HQ.out j hlt2 (by rw [HY.out]; exact he))
                              rw [decide_eq_true he] at EQ
                              clear he HQ
                              go_wp2_with fail
                              refine wp_region_quiet_lit (by kernel_rfl) (by kernel_rfl) ?_
                              quiet_step (fail)
                              quiet_step (fail)
                              quiet_step (fail)
                              quiet_step (fail)
                              quiet_step (fail)
                              refine wq_load rfl 61 (.tmp 82) rfl b (o + j * 298) rfl (vals ptS (seg y 0 9)) _ (by rintro w' ⟨n, rfl⟩; exact R2.out n) Tryz.underlying61 rfl HPY.out ?_
                              go_simp
                              quiet_step (fail)
                              refine wq_load rfl 61 (.tmp 84) rfl Y 0 rfl (vals ptS (seg x 0 9)) _ (by rintro w' ⟨n, rfl⟩; exact R3.out n) Tryz.underlying61 rfl HPT.out ?_
                              go_simp
                              quiet_step (fail)
                              refine wpQuiet_nil ?_
                              first | (rintro _ ⟨nq, rfl⟩) | intro nq
                              go_wp2
                              go_ret
                              exact ⟨by rw [hf.out] <;> rfl, by first | exact FIN.out _ (bel_drew BS.out _) | exact FIN2.out _ (bel_drew BS.out _)⟩
                            · have HNE : Hid (seg y 0 9 ≠ seg x 0 9) := he
                              rw [decide_eq_false he] at EQ
                              clear he HQ
                              go_wp2_with fail
                              refine wp_region_quiet_lit (by kernel_rfl) (by kernel_rfl) ?_
                              quiet_step (fail)
                              quiet_step (fail)
                              quiet_step (fail)
                              quiet_step (fail)
                              quiet_step (fail)
                              refine wq_load rfl 61 (.tmp 82) rfl b (o + j * 298) rfl (vals ptS (seg y 0 9)) _ (by rintro w' ⟨n, rfl⟩; exact R2.out n) Tryz.underlying61 rfl HPY.out ?_
                              go_simp
                              quiet_step (fail)
                              refine wq_load rfl 61 (.tmp 84) rfl Y 0 rfl (vals ptS (seg x 0 9)) _ (by rintro w' ⟨n, rfl⟩; exact R3.out n) Tryz.underlying61 rfl HPT.out ?_
                              go_simp
                              quiet_step (fail)
                              refine wpQuiet_nil ?_
                              first | (rintro _ ⟨nq, rfl⟩) | intro nq
                              go_wp2
                              go_roundw
                              case rel => exact ⟨j + 1, HLT.out, by go_num, fun i hi => by
                                rcases Nat.lt_or_ge i j with g | g
                                · exact HJ2.out i g
                                · obtain rfl : i = j := by omega
                                  rw [HY.out]; exact HNE.out, bel_drew BZ.out _⟩
                              case measure => have := HLT.out; simp [intOf]; omega
                          · obtain rfl : j = k := by omega
                            have hnot : ¬ (j : Int) < (j : Int) := by omega
                            go_wp2
                            go_roundw
                            case rel => exact ⟨j + 1, HK.out, by go_num, fun i hi => by
                              rcases Nat.lt_or_ge i j with g | g
                              · exact HJ.out i g
                              · obtain rfl : i = j := by omega
                                exact ⟨by rw [HX.out]; exact HG.out, fun a ha => by rw [HX.out]; exact HJ2.out a ha⟩, BS.out⟩
                            case measure => have := HK.out; simp [intOf]; omega
              · obtain rfl : k = ni := by omega
                have hnot : ¬ (k : Int) < (k : Int) := by omega
                have HI2 : Hid (mPay t = t.fwds.all mFwd) := by
                  show _ = _
                  rw [HM.out, all_rcd.2 (fun j hj => (HJ.out j (by rw [← NI.out]; exact hj)).1), pts_rcd.2 (fun j hj => (HJ.out j (by rw [← NI.out]; exact hj)).2)]
                  rfl
                have k2 := T2.out _ BR.out
                go_wp2
                clear k2
                go_loopw [6] (fun a wr => ∃ j : Nat, j ≤ nf ∧ a = .int .i64 j ∧ (∀ i, i < j → mFwd (rcd t.fwds i) = true) ∧ Below (S + 1) w0 wr) (fun a _ => nf - (intOf a).toNat)
                case atStart => exact ⟨0, Nat.zero_le _, rfl, fun j hj => by omega, BR.out⟩
                case round =>
                  clear BR
                  obtain ⟨j, hjk, rfl, hj, hb⟩ := hrel
                  have HJ2 := Lib.hid hj
                  have BZ := Lib.hid hb
                  obtain ⟨_, _, k4⟩ := TR.out _ hb
                  clear hj hb
                  by_cases hlt2 : j < nf
                  · obtain ⟨b2, o2, hbo, hat⟩ := lrow_at MM.out.f (by rw [NF.out]; omega)
                    rw [hbo] at k4
                    have t0 : (0 : Int) ≤ (j : Int) := by omega
                    have t1 : (j : Int) < (nf : Int) := by omega
                    have HQ : Hid (mFwd (rcd t.fwds j) = false → mPay t = false) := fun g => by
                      rw [HI2.out, ← Bool.not_eq_true]
                      intro g2
                      rw [all_rcd.1 g2 j (by rw [NF.out]; exact hlt2)] at g
                      cases g
                    have LX : Hid ((rcd t.fwds j).length = 11) := okT_len (at_mem HW.out.fwds (by rw [NF.out]; exact hlt2))
                    have R1 : Hid (wr.rangeAt b2 (o2 + j * 11) (vals fwdS (rcd t.fwds j))) := range_keep (hat j (by rw [NF.out]; exact hlt2)) fun q hq => BZ.out.block q (by rw [NC.out] at hq; exact hq)
                    obtain ⟨x, hx⟩ : ∃ x, rcd t.fwds j = x := ⟨_, rfl⟩
                    rw [hx] at HQ LX R1
                    have HX := Lib.hid hx
                    have HI := Lib.hid (szL i123 (vals_len (S := fwdS) LX.out))
                    have HLT := Lib.hid hlt2
                    obtain ⟨c, hc⟩ : ∃ c, mFwd x = c := ⟨_, rfl⟩
                    have CF : Hid (∀ w', Calls Tryz.prog 79 #[.agg (vals fwdS x).toArray] w' fun e w'' => e = .returned (.bool c) ∧ Below w'.heap.size w' w'') := fun w' => by
                      have := dFwd x w' LX.out
                      rw [hc] at this
                      exact this
                    have HC := Lib.hid hc
                    have ZS : Hid (S + 1 ≤ wr.heap.size) := by have := BZ.out.size; rw [NC.out] at this; exact this
                    clear hbo hat hx hc
                    cases c
                    · have hf := Lib.hid (HQ.out HC.out)
                      go_wp2_with (first
                        | (refine wpList_load_mid rfl 123 (.tmp 97) rfl b2 (o2 + j * 11) rfl (vals fwdS x) _ R1.out Tryz.underlying123 rfl HI.out ?_)
                        | (go_at_call 79; refine (CF.out _).mono ?_; rintro e w3 ⟨rfl, hb⟩; have B3 : Hid (Below (S + 1) w0 w3) := BZ.out.trans (hb.mono ZS.out); clear hb)
                        | fail)
                      go_ret
                      exact ⟨by rw [hf.out] <;> rfl, by first | exact FIN.out _ B3.out | exact FIN2.out _ B3.out⟩
                    · go_wp2_with (first
                        | (refine wpList_load_mid rfl 123 (.tmp 97) rfl b2 (o2 + j * 11) rfl (vals fwdS x) _ R1.out Tryz.underlying123 rfl HI.out ?_)
                        | (go_at_call 79; refine (CF.out _).mono ?_; rintro e w3 ⟨rfl, hb⟩; have B3 : Hid (Below (S + 1) w0 w3) := BZ.out.trans (hb.mono ZS.out); clear hb)
                        | fail)
                      go_roundw
                      case rel => exact ⟨j + 1, HLT.out, by go_num, fun i hi => by
                        rcases Nat.lt_or_ge i j with g | g
                        · exact HJ2.out i g
                        · obtain rfl : i = j := by omega
                          rw [HX.out]; exact HC.out, B3.out⟩
                      case measure => have := HLT.out; simp [intOf]; omega
                  · obtain rfl : j = nf := by omega
                    have hnot : ¬ (j : Int) < (j : Int) := by omega
                    have HF : Hid (mPay t = true) := by
                      show _ = _
                      rw [HI2.out, all_rcd]
                      intro i hi
                      exact HJ2.out i (by rw [← NF.out]; exact hi)
                    go_wp2
                    go_ret
                    exact ⟨by rw [HF.out] <;> rfl, by first | exact FIN.out _ BZ.out | exact FIN2.out _ BZ.out⟩
end Go.Proofs.YtffaddefnpkcgaaGreatDoor
namespace Go.Proofs.YtffaddefnpkcgaaGreatDoor
open Go.RowKit
set_option maxRecDepth 100000
attribute [local irreducible] ua da ba kk sw S8.run rt hs comp splice outB sha msg zeros win bvals vals parC cerC claC txC cel seg zL
theorem run_ld29 {o : Oper} {ev : Operand → Value} {x : Operand} {b off : Nat} {cs : List Value} {w : World} (ho : o.op = .load 29 x) (hx : ev x = .pointer (some ⟨b, off, none⟩)) (hc : w.rangeAt b off cs) (hi : (Tryz.prog.info? 29).map (·.size) = some cs.length) : (execOp ev o).run Tryz.prog w = .ok (.value (.agg cs.toArray)) w := by
  unfold execOp
  simp only [ho, hx, Instr.loadAt, Instr.sureAddr, Sem.run_bind, Sem.run_pure, Result.andThen_ok, run_loadVar_mid w b off 29 cs _ hc Tryz.underlying29 rfl hi]
theorem run_ld37 {o : Oper} {ev : Operand → Value} {x : Operand} {b off : Nat} {cs : List Value} {w : World} (ho : o.op = .load 37 x) (hx : ev x = .pointer (some ⟨b, off, none⟩)) (hc : w.rangeAt b off cs) (hi : (Tryz.prog.info? 37).map (·.size) = some cs.length) : (execOp ev o).run Tryz.prog w = .ok (.value (.agg cs.toArray)) w := by
  unfold execOp
  simp only [ho, hx, Instr.loadAt, Instr.sureAddr, Sem.run_bind, Sem.run_pure, Result.andThen_ok, run_loadVar_mid w b off 37 cs _ hc Tryz.underlying37 rfl hi]
theorem run_bld37 {o : Oper} {ev : Operand → Value} {w : World} (ho : o.op = .build 37 #[]) : (execOp ev o).run Tryz.prog w = .ok (.value (.agg (claC tx0).toArray)) w := by
  unfold execOp
  simp only [ho, List.map_toArray, List.map_nil, Sem.run_bind, b37, Result.andThen_ok, Sem.run_pure]
set_option maxHeartbeats 16000000 in
theorem tBlk (t : TxP) (h : TxH) (w : World) (ht : WfT t) (hm : Mem w t h) :
    Calls Tryz.prog 40 #[.agg (txC t h).toArray] w fun e w' => e = .returned (.bool (mBlk t)) ∧ Below w.heap.size w w' := by
  have h5 := okT_len ht.cla
  have HP : Hid (t.par.length = 3) := okT_len ht.par
  have HL : Hid (t.cer.length = 19) := okT_len ht.cer
  have EC := fun w => eq_claB t h5 w
  obtain ⟨c0, hc0⟩ : ∃ c, decide (t.height = 0) = c := ⟨_, rfl⟩
  obtain ⟨n1, hn1⟩ : ∃ n, t.ins.length = n := ⟨_, rfl⟩
  have N1 := Lib.hid hn1
  obtain ⟨c1, hc1⟩ : ∃ c, decide (n1 = 0) = c := ⟨_, rfl⟩
  obtain ⟨n2, hn2⟩ : ∃ n, t.outs.length = n := ⟨_, rfl⟩
  have N2 := Lib.hid hn2
  obtain ⟨c2, hc2⟩ : ∃ c, decide (n2 = 0) = c := ⟨_, rfl⟩
  obtain ⟨n3, hn3⟩ : ∃ n, t.fwds.length = n := ⟨_, rfl⟩
  have N3 := Lib.hid hn3
  obtain ⟨c3, hc3⟩ : ∃ c, decide (n3 = 0) = c := ⟨_, rfl⟩
  obtain ⟨c4, hc4⟩ : ∃ c, decide (cel t.par 0 = 0) = c := ⟨_, rfl⟩
  obtain ⟨c5, hc5⟩ : ∃ c, decide (cel t.par 1 = 0) = c := ⟨_, rfl⟩
  obtain ⟨c6, hc6⟩ : ∃ c, decide (cel t.par 2 = 0) = c := ⟨_, rfl⟩
  obtain ⟨n7, hn7⟩ : ∃ n, t.keys.length = n := ⟨_, rfl⟩
  have N7 := Lib.hid hn7
  obtain ⟨c7, hc7⟩ : ∃ c, decide (n7 = 0) = c := ⟨_, rfl⟩
  obtain ⟨c8, hc8⟩ : ∃ c, decide (cel t.cer 0 = 0) = c := ⟨_, rfl⟩
  obtain ⟨c9, hc9⟩ : ∃ c, decide (cel t.cer 1 = 0) = c := ⟨_, rfl⟩
  obtain ⟨ca, hca⟩ : ∃ c, decide (cel t.cer 2 = 0) = c := ⟨_, rfl⟩
  obtain ⟨cb, hcb⟩ : ∃ c, decide (seg t.cer 3 8 = zeros 8) = c := ⟨_, rfl⟩
  obtain ⟨cc, hcc⟩ : ∃ c, decide (seg t.cer 11 8 = zeros 8) = c := ⟨_, rfl⟩
  obtain ⟨nd, hnd⟩ : ∃ n, t.couts.length = n := ⟨_, rfl⟩
  have Nd := Lib.hid hnd
  obtain ⟨cd, hcd⟩ : ∃ c, decide (nd = 0) = c := ⟨_, rfl⟩
  obtain ⟨ne, hne⟩ : ∃ n, t.csigs.length = n := ⟨_, rfl⟩
  have Ne := Lib.hid hne
  obtain ⟨ce, hce⟩ : ∃ c, decide (ne = 0) = c := ⟨_, rfl⟩
  obtain ⟨cf, hcf⟩ : ∃ c, zL t = c := ⟨_, rfl⟩
  have hmm : mBlk t = (c0 && (c1 && (c2 && (c3 && (((c4 && (c5 && c6)) && c7) && (((c8 && (c9 && (ca && (cb && cc)))) && (cd && ce)) && cf)))))) := by
    unfold mBlk zH zI zO zF zP zC
    rw [par_zero HP.out, cer_zero HL.out, hn1, hn2, hn3, hn7, hnd, hne, hc0, hc1, hc2, hc3, hc4, hc5, hc6, hc7, hc8, hc9, hca, hcb, hcc, hcd, hce, hcf]
  rw [hmm]
  rw [hcf] at EC
  have CB : Hid (∀ w', Calls Tryz.prog 77 #[.agg (bvals (seg t.cer 3 8)).toArray] w' fun e w'' => e = .returned (.bool cb) ∧ Below w'.heap.size w' w'') := fun w' => by
    have := tZero (seg t.cer 3 8) w' (seg_len (by rw [HL.out]; decide))
    rw [hcb] at this
    exact this
  have CC : Hid (∀ w', Calls Tryz.prog 77 #[.agg (bvals (seg t.cer 11 8)).toArray] w' fun e w'' => e = .returned (.bool cc) ∧ Below w'.heap.size w' w'') := fun w' => by
    have := tZero (seg t.cer 11 8) w' (seg_len (by rw [HL.out]; decide))
    rw [hcc] at this
    exact this
  have HB1 : Hid ((Tryz.prog.info? 29).map (·.size) = some (bvals (seg t.cer 3 8)).length) := bv8 (seg_len (by rw [HL.out]; decide))
  have HB2 : Hid ((Tryz.prog.info? 29).map (·.size) = some (bvals (seg t.cer 11 8)).length) := bv8 (seg_len (by rw [HL.out]; decide))
  have HI : Hid ((Tryz.prog.info? 37).map (·.size) = some (claC t).length) := szL i37 (claC_len ht)
  have LP : Hid ((parC t h).length = 4) := parC_len h ht
  have LC : Hid ((cerC t h).length = 21) := cerC_len h ht
  have HX : Hid (t.ins.length ≤ 9223372036854775807) := by have a := hm.ic.le; have b := hm.ic.mx; unfold maxLen at b; show _ ≤ _; omega
  obtain ⟨S, hS⟩ : ∃ S, w.heap.size = S := ⟨_, rfl⟩
  have HS := Lib.hid hS
  have WC : Hid (BL (w.alloc (Obj.cells (txC t h).toArray 39)) S (txC t h) 39) := by rw [← hS]; exact heap_alloc_last w _
  have BC : Hid (Below S w (w.alloc (Obj.cells (txC t h).toArray 39))) := by rw [← hS]; exact (Below.refl _ w).alloc (Nat.le_refl _) _
  have NC : Hid ((w.alloc (Obj.cells (txC t h).toArray 39)).heap.size = S + 1) := by show _ = _; simp; omega
  have HW := Lib.hid ht
  clear hmm hn1 hn2 hn3 hn7 hnd hne hcb hcc hcf h5 ht hm
  go_enter Tryz.func40, Tryz.ntmps40
  go_upto_region 1 with (fail)
  generalize (w.alloc (Obj.cells (txC t h).toArray 39)) = wB at *
  go_cut [3, 4] (fun a b wx => ∃ X Y : Nat, a = .pointer (some ⟨X, 0, none⟩) ∧ b = .pointer (some ⟨Y, 0, none⟩) ∧ BL wx X (parC t h) 27 ∧ BL wx Y (cerC t h) 32 ∧ BL wx S (txC t h) 39 ∧ Below S w wx ∧ S < X ∧ S < Y)
  case first =>
    obtain ⟨N, hN⟩ : ∃ N, wB.heap.size = N := ⟨_, rfl⟩
    have HN := Lib.hid hN
    have SN : Hid (S < N) := by show S < N; rw [← hN, NC.out]; omega
    refine wp_region_held_drew (S := (fun w' : World => ∀ q, q < N → w'.heap[q]? = wB.heap[q]?)) (by kernel_rfl) (by exact fun _ _ => rfl) (fun hHeld => ?_)
    refine tk (i := 0) (v := ?_) rfl (Or.inl ⟨by rfl, ?_⟩) (by assumption) ?_
    rotate_left
    · (intro w hSw; (try dsimp only at hSw); go_simp; try with_reducible rfl)
    simp only [Act.put, ly1, ly3, ly4, ly5, ly6]
    refine tk (i := 1) rfl (yieldsIf_load_mid (by rfl) 27 (.tmp 5) rfl S 5 rfl (parC t h) _ (fun w' hSw => (trng HW.out (range_of (bl_keep WC.out (hSw S SN.out)))).par) Tryz.underlying27 rfl (szL i27 LP.out)) (by assumption) ?_
    simp only [Act.put, ly1, ly2, ly3, ly4, ly5, ly6]
    refine tk (i := 2) (v := ?_) rfl (Or.inl ⟨by rfl, ?_⟩) (by assumption) ?_
    rotate_left
    · (intro w hSw; (try dsimp only at hSw); go_simp; try with_reducible rfl)
    simp only [Act.put, ly1, ly2, ly3, ly4, ly5, ly6]
    refine tk (i := 3) rfl (yieldsIf_load_mid (by rfl) 32 (.tmp 7) rfl S 9 rfl (cerC t h) _ (fun w' hSw => (trng HW.out (range_of (bl_keep WC.out (hSw S SN.out)))).cer) Tryz.underlying32 rfl (szL i32 LC.out)) (by assumption) ?_
    simp only [Act.put, ly1, ly2, ly3, ly4, ly5, ly6]
    clear hHeld
    obtain ⟨wc, hwc⟩ : ∃ wc, wB.drew = wc := ⟨_, rfl⟩
    have SC : wc.heap.size = N := by rw [← hwc]; exact HN.out
    have HC : ∀ q, q < N → wc.heap[q]? = wB.heap[q]? := fun q _ => by rw [← hwc]; rfl
    have BW : Below S w wc := by rw [← hwc]; exact BC.out.drew
    rw [hwc]
    clear hwc hN
    refine wpAnyH_ready (rs := [4, 5]) (by kernel_rfl) (by simp) ?_
    refine AllReadyH.cons rfl (fun Kq hKq => ?_) (AllReadyH.cons rfl (fun Kq hKq => ?_) AllReadyH.nil)
    · refine step_al rfl 27 _ rfl z27p ?_
      have A1 : BL (wc.alloc (Obj.cells (parC tx0 hd0).toArray 27)) N (parC tx0 hd0) 27 := by rw [← SC]; exact heap_alloc_last wc _
      have K1 : ∀ q, q < N → (wc.alloc (Obj.cells (parC tx0 hd0).toArray 27)).heap[q]? = wB.heap[q]? := fun q hq => (Below.heap_alloc wc _ q (by rw [SC]; exact hq)).trans (HC q hq)
      have B1 : Below S w (wc.alloc (Obj.cells (parC tx0 hd0).toArray 27)) := BW.alloc (by rw [SC]; exact Nat.le_of_lt SN.out) _
      have S1 : (wc.alloc (Obj.cells (parC tx0 hd0).toArray 27)).heap.size = N + 1 := by rw [World.size_alloc, SC]
      rw [SC]
      generalize wc.alloc (Obj.cells (parC tx0 hd0).toArray 27) = w1 at *
      refine hKq.out _ _ K1 (fun hH => ?_)
      clear hKq Kq hH HC BW SC
      simp only [Act.put, ly1, ly2, ly3, ly4, ly5, ly6]
      refine wpAnyH_ready (rs := [5]) (by kernel_rfl) (by simp) ?_
      refine AllReadyH.cons rfl (fun Kq hKq => ?_) AllReadyH.nil
      refine step_al rfl 32 _ rfl z32c ?_
      have A2 : BL (w1.alloc (Obj.cells (cerC tx0 hd0).toArray 32)) (N + 1) (cerC tx0 hd0) 32 := by rw [← S1]; exact heap_alloc_last w1 _
      have A3 : BL (w1.alloc (Obj.cells (cerC tx0 hd0).toArray 32)) N (parC tx0 hd0) 27 := bl_keep A1 (Below.heap_alloc w1 _ N (by rw [S1]; omega))
      have K2 : ∀ q, q < N → (w1.alloc (Obj.cells (cerC tx0 hd0).toArray 32)).heap[q]? = wB.heap[q]? := fun q hq => (Below.heap_alloc w1 _ q (by rw [S1]; omega)).trans (K1 q hq)
      have B2 : Below S w (w1.alloc (Obj.cells (cerC tx0 hd0).toArray 32)) := B1.alloc (by rw [S1]; have := SN.out; omega) _
      rw [S1]
      generalize w1.alloc (Obj.cells (cerC tx0 hd0).toArray 32) = w2 at *
      refine hKq.out _ _ K2 (fun hH => ?_)
      clear hKq Kq hH K1 B1 A1 S1
      simp only [Act.put, ly1, ly2, ly3, ly4, ly5, ly6]
      refine wpAnyH_ready (rs := [6]) (by kernel_rfl) (by simp) ?_
      refine AllReadyH.cons rfl (fun Kq hKq => ?_) AllReadyH.nil
      refine step_st rfl 27 (.tmp 3) (.tmp 6) rfl N (parC tx0 hd0) (parC t h) rfl rfl A3 (by rw [LP.out, parC_len hd0 wf_tx0]) (szL i27 LP.out) (parC_one t h) ?_
      intro w3 P3 K3 B3
      have C3 : BL w3 (N + 1) (cerC tx0 hd0) 32 := bl_keep A2 (K3 _ (by omega))
      have KB3 : ∀ q, q < N → w3.heap[q]? = wB.heap[q]? := fun q hq => (K3 q (by omega)).trans (K2 q hq)
      have BW3 : Below S w w3 := B3 S w B2 (by have := SN.out; omega)
      refine hKq.out _ _ KB3 (fun hH => ?_)
      clear hKq Kq hH K2 B2 A2 A3 K3 B3
      simp only [Act.put, ly1, ly2, ly3]
      refine wpAnyH_ready (rs := [7]) (by kernel_rfl) (by simp) ?_
      refine AllReadyH.cons rfl (fun Kq hKq => ?_) AllReadyH.nil
      refine step_st rfl 32 (.tmp 4) (.tmp 8) rfl (N + 1) (cerC tx0 hd0) (cerC t h) rfl rfl C3 (by rw [LC.out, cerC_len hd0 wf_tx0]) (szL i32 LC.out) (cerC_one t h) ?_
      intro w4 C4 K4 B4
      have P4 : BL w4 N (parC t h) 27 := bl_keep P3 (K4 _ (by omega))
      have KB4 : ∀ q, q < N → w4.heap[q]? = wB.heap[q]? := fun q hq => (K4 q (by omega)).trans (KB3 q hq)
      have BW4 : Below S w w4 := B4 S w BW3 (by have := SN.out; omega)
      refine hKq.out _ _ KB4 (fun hH => ?_)
      clear hKq Kq hH KB3 BW3 C3 P3 K4 B4
      simp only [Act.put, ly1, ly2, ly3]
      refine wpAnyH_done (by kernel_rfl) ?_ _
      go_wp2_with fail
      go_meet
      exact ⟨N, (N + 1), rfl, rfl, P4, C4, bl_keep WC.out (KB4 S SN.out), BW4, by have := SN.out; omega, by have := SN.out; omega⟩
    · refine step_al rfl 32 _ rfl z32c ?_
      have A1 : BL (wc.alloc (Obj.cells (cerC tx0 hd0).toArray 32)) N (cerC tx0 hd0) 32 := by rw [← SC]; exact heap_alloc_last wc _
      have K1 : ∀ q, q < N → (wc.alloc (Obj.cells (cerC tx0 hd0).toArray 32)).heap[q]? = wB.heap[q]? := fun q hq => (Below.heap_alloc wc _ q (by rw [SC]; exact hq)).trans (HC q hq)
      have B1 : Below S w (wc.alloc (Obj.cells (cerC tx0 hd0).toArray 32)) := BW.alloc (by rw [SC]; exact Nat.le_of_lt SN.out) _
      have S1 : (wc.alloc (Obj.cells (cerC tx0 hd0).toArray 32)).heap.size = N + 1 := by rw [World.size_alloc, SC]
      rw [SC]
      generalize wc.alloc (Obj.cells (cerC tx0 hd0).toArray 32) = w1 at *
      refine hKq.out _ _ K1 (fun hH => ?_)
      clear hKq Kq hH HC BW SC
      simp only [Act.put, ly1, ly2, ly3, ly4, ly5, ly6]
      refine wpAnyH_ready (rs := [4]) (by kernel_rfl) (by simp) ?_
      refine AllReadyH.cons rfl (fun Kq hKq => ?_) AllReadyH.nil
      refine step_al rfl 27 _ rfl z27p ?_
      have A2 : BL (w1.alloc (Obj.cells (parC tx0 hd0).toArray 27)) (N + 1) (parC tx0 hd0) 27 := by rw [← S1]; exact heap_alloc_last w1 _
      have A3 : BL (w1.alloc (Obj.cells (parC tx0 hd0).toArray 27)) N (cerC tx0 hd0) 32 := bl_keep A1 (Below.heap_alloc w1 _ N (by rw [S1]; omega))
      have K2 : ∀ q, q < N → (w1.alloc (Obj.cells (parC tx0 hd0).toArray 27)).heap[q]? = wB.heap[q]? := fun q hq => (Below.heap_alloc w1 _ q (by rw [S1]; omega)).trans (K1 q hq)
      have B2 : Below S w (w1.alloc (Obj.cells (parC tx0 hd0).toArray 27)) := B1.alloc (by rw [S1]; have := SN.out; omega) _
      rw [S1]
      generalize w1.alloc (Obj.cells (parC tx0 hd0).toArray 27) = w2 at *
      refine hKq.out _ _ K2 (fun hH => ?_)
      clear hKq Kq hH K1 B1 A1 S1
      simp only [Act.put, ly1, ly2, ly3, ly4, ly5, ly6]
      refine wpAnyH_ready (rs := [6]) (by kernel_rfl) (by simp) ?_
      refine AllReadyH.cons rfl (fun Kq hKq => ?_) AllReadyH.nil
      refine step_st rfl 27 (.tmp 3) (.tmp 6) rfl (N + 1) (parC tx0 hd0) (parC t h) rfl rfl A2 (by rw [LP.out, parC_len hd0 wf_tx0]) (szL i27 LP.out) (parC_one t h) ?_
      intro w3 P3 K3 B3
      have C3 : BL w3 N (cerC tx0 hd0) 32 := bl_keep A3 (K3 _ (by omega))
      have KB3 : ∀ q, q < N → w3.heap[q]? = wB.heap[q]? := fun q hq => (K3 q (by omega)).trans (K2 q hq)
      have BW3 : Below S w w3 := B3 S w B2 (by have := SN.out; omega)
      refine hKq.out _ _ KB3 (fun hH => ?_)
      clear hKq Kq hH K2 B2 A2 A3 K3 B3
      simp only [Act.put, ly1, ly2, ly3]
      refine wpAnyH_ready (rs := [7]) (by kernel_rfl) (by simp) ?_
      refine AllReadyH.cons rfl (fun Kq hKq => ?_) AllReadyH.nil
      refine step_st rfl 32 (.tmp 4) (.tmp 8) rfl N (cerC tx0 hd0) (cerC t h) rfl rfl C3 (by rw [LC.out, cerC_len hd0 wf_tx0]) (szL i32 LC.out) (cerC_one t h) ?_
      intro w4 C4 K4 B4
      have P4 : BL w4 (N + 1) (parC t h) 27 := bl_keep P3 (K4 _ (by omega))
      have KB4 : ∀ q, q < N → w4.heap[q]? = wB.heap[q]? := fun q hq => (K4 q (by omega)).trans (KB3 q hq)
      have BW4 : Below S w w4 := B4 S w BW3 (by have := SN.out; omega)
      refine hKq.out _ _ KB4 (fun hH => ?_)
      clear hKq Kq hH KB3 BW3 C3 P3 K4 B4
      simp only [Act.put, ly1, ly2, ly3]
      refine wpAnyH_done (by kernel_rfl) ?_ _
      go_wp2_with fail
      go_meet
      exact ⟨(N + 1), N, rfl, rfl, P4, C4, bl_keep WC.out (KB4 S SN.out), BW4, by have := SN.out; omega, by have := SN.out; omega⟩
  case rest =>
    rename World => wx
    obtain ⟨X, Y, rfl, rfl, px, cy, ws, bx, _, _⟩ := hcut
    have PX := Lib.hid px
    have CY := Lib.hid cy
    have WS := Lib.hid ws
    have BX := Lib.hid bx
    have NX := Lib.hid (bl_lt ws)
    clear px cy ws bx WC BC NC hS
    obtain ⟨k0, k1, k2, k3, k4, _, _, kL⟩ := trng HW.out (range_of WS.out)
    obtain ⟨p0, p1, p2, p3⟩ := par_at (range_of PX.out) HP.out
    obtain ⟨q0, q1, q2, qe, qr, qo, qs⟩ := cer_at (range_of CY.out) HL.out
    simp only [Nat.zero_add] at p1 p2 p3 q1 q2 qe qr qo qs
    rw [N1.out] at k2
    rw [N2.out] at k3
    rw [N3.out] at k4
    rw [N7.out] at p3
    rw [Nd.out] at qo
    rw [Ne.out] at qs
    have KL := Lib.hid kL
    have QE := Lib.hid qe
    have QR := Lib.hid qr
    clear kL qe qr
    go_upto_region 2 with (fail)
    rename_i K hKK
    obtain ⟨g1, hg1⟩ : ∃ g, (c0 && c1) = g := ⟨_, rfl⟩
    obtain ⟨g2, hg2⟩ : ∃ g, (g1 && c2) = g := ⟨_, rfl⟩
    obtain ⟨g3, hg3⟩ : ∃ g, (g2 && c3) = g := ⟨_, rfl⟩
    obtain ⟨g4, hg4⟩ : ∃ g, (g3 && c4) = g := ⟨_, rfl⟩
    obtain ⟨g5, hg5⟩ : ∃ g, (g4 && c5) = g := ⟨_, rfl⟩
    obtain ⟨g6, hg6⟩ : ∃ g, (g5 && c6) = g := ⟨_, rfl⟩
    obtain ⟨g7, hg7⟩ : ∃ g, (g6 && c7) = g := ⟨_, rfl⟩
    obtain ⟨g8, hg8⟩ : ∃ g, (g7 && c8) = g := ⟨_, rfl⟩
    obtain ⟨g9, hg9⟩ : ∃ g, (g8 && c9) = g := ⟨_, rfl⟩
    obtain ⟨g10, hg10⟩ : ∃ g, (g9 && ca) = g := ⟨_, rfl⟩
    obtain ⟨g11, hg11⟩ : ∃ g, (g10 && cb) = g := ⟨_, rfl⟩
    obtain ⟨g12, hg12⟩ : ∃ g, (g11 && cc) = g := ⟨_, rfl⟩
    obtain ⟨g13, hg13⟩ : ∃ g, (g12 && cd) = g := ⟨_, rfl⟩
    obtain ⟨g14, hg14⟩ : ∃ g, (g13 && ce) = g := ⟨_, rfl⟩
    obtain ⟨g15, hg15⟩ : ∃ g, (g14 && cf) = g := ⟨_, rfl⟩
    have HG : Hid ((c0 && (c1 && (c2 && (c3 && (((c4 && (c5 && c6)) && c7) && (((c8 && (c9 && (ca && (cb && cc)))) && (cd && ce)) && cf)))))) = g15) := by
      show _ = _
      rw [← hg15, ← hg14, ← hg13, ← hg12, ← hg11, ← hg10, ← hg9, ← hg8, ← hg7, ← hg6, ← hg5, ← hg4, ← hg3, ← hg2, ← hg1]
      simp only [Bool.and_assoc]
    refine wp_region_lit ?_
    refine wpList_t (v := .pointer (some ⟨S, 1, none⟩)) (by rfl) (by go_simp) ?_
    simp only [Act.put, ly4, ly5, ly6]
    refine wpList_t (v := .int .i64 t.height) (by rfl) (by go_simp) ?_
    simp only [Act.put, ly4, ly5, ly6]
    refine wpList_t (v := .bool c0) (by rfl) (by go_simp; exact hc0) ?_
    simp only [Act.put, ly4, ly5, ly6]
    refine wpList_t (v := .bool c0) (by rfl) (by go_simp) ?_
    simp only [Act.put, ly4, ly5, ly6]
    refine wpList_g (g := c0) (v := .pointer (some ⟨S, 2, none⟩)) (want_t (i := 3) rfl rfl) (fun hg => by (subst hg; go_simp)) ?_
    simp only [Act.put, ly4, ly5, ly6]
    refine wpList_g (g := c0) (v := .slice h.i.A n1 h.i.c) (want_t (i := 3) rfl rfl) (fun hg => by (subst hg; go_simp)) ?_
    simp only [Act.put, ly4, ly5, ly6]
    refine wpList_g (g := c0) (v := .int .i64 n1) (want_t (i := 3) rfl rfl) (fun hg => by (subst hg; go_simp)) ?_
    simp only [Act.put, ly4, ly5, ly6]
    refine wpList_g (g := c0) (v := .bool c1) (want_t (i := 3) rfl rfl) (fun hg => by (subst hg; go_simp; rw [← hc1, Bool.eq_iff_iff]; simp)) ?_
    simp only [Act.put, ly4, ly5, ly6]
    refine wpList_t (v := .bool g1) (by rfl) (by subst hg1; cases c0 <;> go_simp) ?_
    simp only [Act.put, ly4, ly5, ly6]
    refine wpList_t (v := .bool g1) (by rfl) (by go_simp) ?_
    simp only [Act.put, ly4, ly5, ly6]
    refine wpList_g (g := g1) (v := .pointer (some ⟨S, 3, none⟩)) (want_t (i := 9) rfl rfl) (fun hg => by (subst hg; go_simp)) ?_
    simp only [Act.put, ly4, ly5, ly6]
    refine wpList_g (g := g1) (v := .slice h.o.A n2 h.o.c) (want_t (i := 9) rfl rfl) (fun hg => by (subst hg; go_simp)) ?_
    simp only [Act.put, ly4, ly5, ly6]
    refine wpList_g (g := g1) (v := .int .i64 n2) (want_t (i := 9) rfl rfl) (fun hg => by (subst hg; go_simp)) ?_
    simp only [Act.put, ly4, ly5, ly6]
    refine wpList_g (g := g1) (v := .bool c2) (want_t (i := 9) rfl rfl) (fun hg => by (subst hg; go_simp; rw [← hc2, Bool.eq_iff_iff]; simp)) ?_
    simp only [Act.put, ly4, ly5, ly6]
    refine wpList_t (v := .bool g2) (by rfl) (by subst hg2; cases g1 <;> go_simp) ?_
    simp only [Act.put, ly4, ly5, ly6]
    refine wpList_t (v := .bool g2) (by rfl) (by go_simp) ?_
    simp only [Act.put, ly4, ly5, ly6]
    refine wpList_g (g := g2) (v := .pointer (some ⟨S, 4, none⟩)) (want_t (i := 15) rfl rfl) (fun hg => by (subst hg; go_simp)) ?_
    simp only [Act.put, ly4, ly5, ly6]
    refine wpList_g (g := g2) (v := .slice h.f.A n3 h.f.c) (want_t (i := 15) rfl rfl) (fun hg => by (subst hg; go_simp)) ?_
    simp only [Act.put, ly4, ly5, ly6]
    refine wpList_g (g := g2) (v := .int .i64 n3) (want_t (i := 15) rfl rfl) (fun hg => by (subst hg; go_simp)) ?_
    simp only [Act.put, ly4, ly5, ly6]
    refine wpList_g (g := g2) (v := .bool c3) (want_t (i := 15) rfl rfl) (fun hg => by (subst hg; go_simp; rw [← hc3, Bool.eq_iff_iff]; simp)) ?_
    simp only [Act.put, ly4, ly5, ly6]
    refine wpList_t (v := .bool g3) (by rfl) (by subst hg3; cases g2 <;> go_simp) ?_
    simp only [Act.put, ly4, ly5, ly6]
    refine wpList_t (v := .bool g3) (by rfl) (by go_simp) ?_
    simp only [Act.put, ly4, ly5, ly6]
    refine wpList_g (g := g3) (v := .pointer (some ⟨X, 0, none⟩)) (want_t (i := 21) rfl rfl) (fun hg => by (subst hg; go_simp)) ?_
    simp only [Act.put, ly4, ly5, ly6]
    refine wpList_g (g := g3) (v := .int .i64 (cel t.par 0)) (want_t (i := 21) rfl rfl) (fun hg => by (subst hg; go_simp)) ?_
    simp only [Act.put, ly4, ly5, ly6]
    refine wpList_g (g := g3) (v := .bool c4) (want_t (i := 21) rfl rfl) (fun hg => by (subst hg; go_simp; exact hc4)) ?_
    simp only [Act.put, ly4, ly5, ly6]
    refine wpList_t (v := .bool g4) (by rfl) (by subst hg4; cases g3 <;> go_simp) ?_
    simp only [Act.put, ly4, ly5, ly6]
    refine wpList_t (v := .bool g4) (by rfl) (by go_simp) ?_
    simp only [Act.put, ly4, ly5, ly6]
    refine wpList_g (g := g4) (v := .pointer (some ⟨X, 1, none⟩)) (want_t (i := 26) rfl rfl) (fun hg => by (subst hg; go_simp)) ?_
    simp only [Act.put, ly4, ly5, ly6]
    refine wpList_g (g := g4) (v := .int .i64 (cel t.par 1)) (want_t (i := 26) rfl rfl) (fun hg => by (subst hg; go_simp)) ?_
    simp only [Act.put, ly4, ly5, ly6]
    refine wpList_g (g := g4) (v := .bool c5) (want_t (i := 26) rfl rfl) (fun hg => by (subst hg; go_simp; exact hc5)) ?_
    simp only [Act.put, ly4, ly5, ly6]
    refine wpList_t (v := .bool g5) (by rfl) (by subst hg5; cases g4 <;> go_simp) ?_
    simp only [Act.put, ly4, ly5, ly6]
    refine wpList_t (v := .bool g5) (by rfl) (by go_simp) ?_
    simp only [Act.put, ly4, ly5, ly6]
    refine wpList_g (g := g5) (v := .pointer (some ⟨X, 2, none⟩)) (want_t (i := 31) rfl rfl) (fun hg => by (subst hg; go_simp)) ?_
    simp only [Act.put, ly4, ly5, ly6]
    refine wpList_g (g := g5) (v := .int .i64 (cel t.par 2)) (want_t (i := 31) rfl rfl) (fun hg => by (subst hg; go_simp)) ?_
    simp only [Act.put, ly4, ly5, ly6]
    refine wpList_g (g := g5) (v := .bool c6) (want_t (i := 31) rfl rfl) (fun hg => by (subst hg; go_simp; exact hc6)) ?_
    simp only [Act.put, ly4, ly5, ly6]
    refine wpList_t (v := .bool g6) (by rfl) (by subst hg6; cases g5 <;> go_simp) ?_
    simp only [Act.put, ly4, ly5, ly6]
    refine wpList_t (v := .bool g6) (by rfl) (by go_simp) ?_
    simp only [Act.put, ly4, ly5, ly6]
    refine wpList_g (g := g6) (v := .pointer (some ⟨X, 3, none⟩)) (want_t (i := 36) rfl rfl) (fun hg => by (subst hg; go_simp)) ?_
    simp only [Act.put, ly4, ly5, ly6]
    refine wpList_g (g := g6) (v := .slice h.k.A n7 h.k.c) (want_t (i := 36) rfl rfl) (fun hg => by (subst hg; go_simp)) ?_
    simp only [Act.put, ly4, ly5, ly6]
    refine wpList_g (g := g6) (v := .int .i64 n7) (want_t (i := 36) rfl rfl) (fun hg => by (subst hg; go_simp)) ?_
    simp only [Act.put, ly4, ly5, ly6]
    refine wpList_g (g := g6) (v := .bool c7) (want_t (i := 36) rfl rfl) (fun hg => by (subst hg; go_simp; rw [← hc7, Bool.eq_iff_iff]; simp)) ?_
    simp only [Act.put, ly4, ly5, ly6]
    refine wpList_t (v := .bool g7) (by rfl) (by subst hg7; cases g6 <;> go_simp) ?_
    simp only [Act.put, ly4, ly5, ly6]
    refine wpList_t (v := .bool g7) (by rfl) (by go_simp) ?_
    simp only [Act.put, ly4, ly5, ly6]
    refine wpList_g (g := g7) (v := .pointer (some ⟨Y, 0, none⟩)) (want_t (i := 42) rfl rfl) (fun hg => by (subst hg; go_simp)) ?_
    simp only [Act.put, ly4, ly5, ly6]
    refine wpList_g (g := g7) (v := .int .i64 (cel t.cer 0)) (want_t (i := 42) rfl rfl) (fun hg => by (subst hg; go_simp)) ?_
    simp only [Act.put, ly4, ly5, ly6]
    refine wpList_g (g := g7) (v := .bool c8) (want_t (i := 42) rfl rfl) (fun hg => by (subst hg; go_simp; exact hc8)) ?_
    simp only [Act.put, ly4, ly5, ly6]
    refine wpList_t (v := .bool g8) (by rfl) (by subst hg8; cases g7 <;> go_simp) ?_
    simp only [Act.put, ly4, ly5, ly6]
    refine wpList_t (v := .bool g8) (by rfl) (by go_simp) ?_
    simp only [Act.put, ly4, ly5, ly6]
    refine wpList_g (g := g8) (v := .pointer (some ⟨Y, 1, none⟩)) (want_t (i := 47) rfl rfl) (fun hg => by (subst hg; go_simp)) ?_
    simp only [Act.put, ly4, ly5, ly6]
    refine wpList_g (g := g8) (v := .int .i64 (cel t.cer 1)) (want_t (i := 47) rfl rfl) (fun hg => by (subst hg; go_simp)) ?_
    simp only [Act.put, ly4, ly5, ly6]
    refine wpList_g (g := g8) (v := .bool c9) (want_t (i := 47) rfl rfl) (fun hg => by (subst hg; go_simp; exact hc9)) ?_
    simp only [Act.put, ly4, ly5, ly6]
    refine wpList_t (v := .bool g9) (by rfl) (by subst hg9; cases g8 <;> go_simp) ?_
    simp only [Act.put, ly4, ly5, ly6]
    refine wpList_t (v := .bool g9) (by rfl) (by go_simp) ?_
    simp only [Act.put, ly4, ly5, ly6]
    refine wpList_g (g := g9) (v := .pointer (some ⟨Y, 2, none⟩)) (want_t (i := 52) rfl rfl) (fun hg => by (subst hg; go_simp)) ?_
    simp only [Act.put, ly4, ly5, ly6]
    refine wpList_g (g := g9) (v := .int .i64 (cel t.cer 2)) (want_t (i := 52) rfl rfl) (fun hg => by (subst hg; go_simp)) ?_
    simp only [Act.put, ly4, ly5, ly6]
    refine wpList_g (g := g9) (v := .bool ca) (want_t (i := 52) rfl rfl) (fun hg => by (subst hg; go_simp; exact hca)) ?_
    simp only [Act.put, ly4, ly5, ly6]
    refine wpList_t (v := .bool g10) (by rfl) (by subst hg10; cases g9 <;> go_simp) ?_
    simp only [Act.put, ly4, ly5, ly6]
    refine wpList_t (v := .bool g10) (by rfl) (by go_simp) ?_
    simp only [Act.put, ly4, ly5, ly6]
    refine wpList_g (g := g10) (v := .pointer (some ⟨Y, 3, none⟩)) (want_t (i := 57) rfl rfl) (fun hg => by (subst hg; go_simp)) ?_
    simp only [Act.put, ly4, ly5, ly6]
    refine wpList_g (g := g10) (v := .agg (bvals (seg t.cer 3 8)).toArray) (want_t (i := 57) rfl rfl) (fun hg => by (subst hg; exact run_ld29 (by rfl) (by go_simp) QE.out (by first | exact HB1.out | exact HB2.out))) ?_
    simp only [Act.put, ly4, ly5, ly6]
    refine wpList_callG (g := g10) (F := 77) (args := #[.agg (bvals (seg t.cer 3 8)).toArray]) (v := .bool cb) (R := fun w' => BL w' S (txC t h) 39 ∧ BL w' X (parC t h) 27 ∧ BL w' Y (cerC t h) 32 ∧ Below S w w') (want_t (i := 57) rfl rfl) (fun hg => by (subst hg; go_simp)) (fun _ => (CB.out _).mono fun e w' he => ⟨he.1, bl_keep WS.out (he.2.block _ (bl_lt WS.out)), bl_keep PX.out (he.2.block _ (bl_lt PX.out)), bl_keep CY.out (he.2.block _ (bl_lt CY.out)), BX.out.trans (he.2.mono (Nat.le_of_lt (bl_lt WS.out)))⟩) (fun _ => ⟨WS.out, PX.out, CY.out, BX.out⟩) ?_
    rintro wy ⟨hw1, hw2, hw3, hw4⟩
    replace WS : Hid (BL wy S (txC t h) 39) := Lib.hid hw1
    replace PX : Hid (BL wy X (parC t h) 27) := Lib.hid hw2
    replace CY : Hid (BL wy Y (cerC t h) 32) := Lib.hid hw3
    replace BX : Hid (Below S w wy) := Lib.hid hw4
    clear hw1 hw2 hw3 hw4 k0 k1 k2 k3 k4 p0 p1 p2 p3 q0 q1 q2 qo qs KL QE QR
    obtain ⟨k0, k1, k2, k3, k4, _, _, kL⟩ := trng HW.out (range_of WS.out)
    obtain ⟨p0, p1, p2, p3⟩ := par_at (range_of PX.out) HP.out
    obtain ⟨q0, q1, q2, qe, qr, qo, qs⟩ := cer_at (range_of CY.out) HL.out
    simp only [Nat.zero_add] at p1 p2 p3 q1 q2 qe qr qo qs
    rw [N1.out] at k2
    rw [N2.out] at k3
    rw [N3.out] at k4
    rw [N7.out] at p3
    rw [Nd.out] at qo
    rw [Ne.out] at qs
    have KL := Lib.hid kL
    have QE := Lib.hid qe
    have QR := Lib.hid qr
    clear kL qe qr
    simp only [Act.put, ly4, ly5, ly6]
    refine wpList_t (v := .bool g11) (by rfl) (by subst hg11; cases g10 <;> go_simp) ?_
    simp only [Act.put, ly4, ly5, ly6]
    refine wpList_t (v := .bool g11) (by rfl) (by go_simp) ?_
    simp only [Act.put, ly4, ly5, ly6]
    refine wpList_g (g := g11) (v := .pointer (some ⟨Y, 11, none⟩)) (want_t (i := 62) rfl rfl) (fun hg => by (subst hg; go_simp)) ?_
    simp only [Act.put, ly4, ly5, ly6]
    refine wpList_g (g := g11) (v := .agg (bvals (seg t.cer 11 8)).toArray) (want_t (i := 62) rfl rfl) (fun hg => by (subst hg; exact run_ld29 (by rfl) (by go_simp) QR.out (by first | exact HB1.out | exact HB2.out))) ?_
    simp only [Act.put, ly4, ly5, ly6]
    refine wpList_callG (g := g11) (F := 77) (args := #[.agg (bvals (seg t.cer 11 8)).toArray]) (v := .bool cc) (R := fun w' => BL w' S (txC t h) 39 ∧ BL w' X (parC t h) 27 ∧ BL w' Y (cerC t h) 32 ∧ Below S w w') (want_t (i := 62) rfl rfl) (fun hg => by (subst hg; go_simp)) (fun _ => (CC.out _).mono fun e w' he => ⟨he.1, bl_keep WS.out (he.2.block _ (bl_lt WS.out)), bl_keep PX.out (he.2.block _ (bl_lt PX.out)), bl_keep CY.out (he.2.block _ (bl_lt CY.out)), BX.out.trans (he.2.mono (Nat.le_of_lt (bl_lt WS.out)))⟩) (fun _ => ⟨WS.out, PX.out, CY.out, BX.out⟩) ?_
    rintro wz ⟨hw1, hw2, hw3, hw4⟩
    replace WS : Hid (BL wz S (txC t h) 39) := Lib.hid hw1
    replace PX : Hid (BL wz X (parC t h) 27) := Lib.hid hw2
    replace CY : Hid (BL wz Y (cerC t h) 32) := Lib.hid hw3
    replace BX : Hid (Below S w wz) := Lib.hid hw4
    clear hw1 hw2 hw3 hw4 k0 k1 k2 k3 k4 p0 p1 p2 p3 q0 q1 q2 qo qs KL QE QR
    obtain ⟨k0, k1, k2, k3, k4, _, _, kL⟩ := trng HW.out (range_of WS.out)
    obtain ⟨p0, p1, p2, p3⟩ := par_at (range_of PX.out) HP.out
    obtain ⟨q0, q1, q2, qe, qr, qo, qs⟩ := cer_at (range_of CY.out) HL.out
    simp only [Nat.zero_add] at p1 p2 p3 q1 q2 qe qr qo qs
    rw [N1.out] at k2
    rw [N2.out] at k3
    rw [N3.out] at k4
    rw [N7.out] at p3
    rw [Nd.out] at qo
    rw [Ne.out] at qs
    have KL := Lib.hid kL
    have QE := Lib.hid qe
    have QR := Lib.hid qr
    clear kL qe qr
    simp only [Act.put, ly4, ly5, ly6]
    refine wpList_t (v := .bool g12) (by rfl) (by subst hg12; cases g11 <;> go_simp) ?_
    simp only [Act.put, ly4, ly5, ly6]
    refine wpList_t (v := .bool g12) (by rfl) (by go_simp) ?_
    simp only [Act.put, ly4, ly5, ly6]
    refine wpList_g (g := g12) (v := .pointer (some ⟨Y, 19, none⟩)) (want_t (i := 67) rfl rfl) (fun hg => by (subst hg; go_simp)) ?_
    simp only [Act.put, ly4, ly5, ly6]
    refine wpList_g (g := g12) (v := .slice h.co.A nd h.co.c) (want_t (i := 67) rfl rfl) (fun hg => by (subst hg; go_simp)) ?_
    simp only [Act.put, ly4, ly5, ly6]
    refine wpList_g (g := g12) (v := .int .i64 nd) (want_t (i := 67) rfl rfl) (fun hg => by (subst hg; go_simp)) ?_
    simp only [Act.put, ly4, ly5, ly6]
    refine wpList_g (g := g12) (v := .bool cd) (want_t (i := 67) rfl rfl) (fun hg => by (subst hg; go_simp; rw [← hcd, Bool.eq_iff_iff]; simp)) ?_
    simp only [Act.put, ly4, ly5, ly6]
    refine wpList_t (v := .bool g13) (by rfl) (by subst hg13; cases g12 <;> go_simp) ?_
    simp only [Act.put, ly4, ly5, ly6]
    refine wpList_t (v := .bool g13) (by rfl) (by go_simp) ?_
    simp only [Act.put, ly4, ly5, ly6]
    refine wpList_g (g := g13) (v := .pointer (some ⟨Y, 20, none⟩)) (want_t (i := 73) rfl rfl) (fun hg => by (subst hg; go_simp)) ?_
    simp only [Act.put, ly4, ly5, ly6]
    refine wpList_g (g := g13) (v := .slice h.cs.A ne h.cs.c) (want_t (i := 73) rfl rfl) (fun hg => by (subst hg; go_simp)) ?_
    simp only [Act.put, ly4, ly5, ly6]
    refine wpList_g (g := g13) (v := .int .i64 ne) (want_t (i := 73) rfl rfl) (fun hg => by (subst hg; go_simp)) ?_
    simp only [Act.put, ly4, ly5, ly6]
    refine wpList_g (g := g13) (v := .bool ce) (want_t (i := 73) rfl rfl) (fun hg => by (subst hg; go_simp; rw [← hce, Bool.eq_iff_iff]; simp)) ?_
    simp only [Act.put, ly4, ly5, ly6]
    refine wpList_t (v := .bool g14) (by rfl) (by subst hg14; cases g13 <;> go_simp) ?_
    simp only [Act.put, ly4, ly5, ly6]
    refine wpList_t (v := .bool g14) (by rfl) (by go_simp) ?_
    simp only [Act.put, ly4, ly5, ly6]
    refine wpList_g (g := g14) (v := .pointer (some ⟨S, 30, none⟩)) (want_t (i := 79) rfl rfl) (fun hg => by (subst hg; go_simp)) ?_
    simp only [Act.put, ly4, ly5, ly6]
    refine wpList_g (g := g14) (v := .agg (claC t).toArray) (want_t (i := 79) rfl rfl) (fun hg => by (subst hg; exact run_ld37 (by rfl) (by go_simp) KL.out HI.out)) ?_
    simp only [Act.put, ly4, ly5, ly6]
    refine wpList_g (g := g14) (v := .agg (claC tx0).toArray) (want_t (i := 79) rfl rfl) (fun hg => by (subst hg; exact run_bld37 rfl)) ?_
    simp only [Act.put, ly4, ly5, ly6]
    refine wpList_g (g := g14) (v := .bool cf) (want_t (i := 79) rfl rfl) (fun hg => by (subst hg; go_simp)) ?_
    simp only [Act.put, ly4, ly5, ly6]
    refine wpList_t (v := .bool g15) (by rfl) (by subst hg15; cases g14 <;> go_simp) ?_
    simp only [Act.put, ly4, ly5, ly6]
    refine wpList_t (v := .bool g15) (by rfl) (by go_simp) ?_
    simp only [Act.put, ly4, ly5, ly6]
    refine wpList_nil ?_
    show K _ _
    refine hKK _ _ (wp_ret ?_)
    refine bodyPost_ret (results_tmp rfl _ _ _) rfl ?_
    exact ⟨by rw [HG.out] <;> rfl, by rw [HS.out]; exact BX.out⟩
end Go.Proofs.YtffaddefnpkcgaaGreatDoor
namespace Go.Proofs.YtffaddefnpkcgaaGreatDoor
open Go.RowKit
set_option maxRecDepth 100000
attribute [local irreducible] ua da ba kk sw S8.run rt hs comp splice outB sha msg zeros win bvals vals parC cerC claC txC cel seg mFld mBlk othT othH
set_option maxHeartbeats 4000000 in
theorem tMay (t : TxP) (h : TxH) (w : World) (ht : WfT t) (hm : Mem w t h) :
    Calls Tryz.prog 15 #[.agg (txC t h).toArray] w fun e w' => e = .returned (.bool (mayT t)) ∧ Below w.heap.size w w' := by
  obtain ⟨c1, hc1⟩ : ∃ c, mFld t = c := ⟨_, rfl⟩
  obtain ⟨c2, hc2⟩ : ∃ c, mBlk (othT t) = c := ⟨_, rfl⟩
  have hmm : mayT t = (c1 && c2) := by unfold mayT; rw [hc1, hc2]
  rw [hmm]
  obtain ⟨S, hS⟩ : ∃ S, w.heap.size = S := ⟨_, rfl⟩
  have HS := Lib.hid hS
  have RC : Hid ((w.alloc (Obj.cells (txC t h).toArray 39)).rangeAt S 0 (txC t h)) := by rw [← hS]; exact range_new w _ _
  have BC : Hid (Below S w (w.alloc (Obj.cells (txC t h).toArray 39))) := by rw [← hS]; exact (Below.refl _ w).alloc (Nat.le_refl _) _
  have NC : Hid (S < (w.alloc (Obj.cells (txC t h).toArray 39)).heap.size) := by show S < _; simp; omega
  have MM : Hid (∀ w', Below S w w' → Mem w' t h) := fun w' hb => hm.keep fun q hq => hb.block q (by rw [← HS.out]; exact hq)
  have CF : Hid (∀ w', Below S w w' → Calls Tryz.prog 39 #[.agg (txC t h).toArray] w' fun e w'' => e = .returned (.bool c1) ∧ Below w'.heap.size w' w'') := fun w' hb => by
    have := tFld t h w' ht (MM.out w' hb)
    rw [hc1] at this
    exact this
  have CO : Hid (∀ w', Calls Tryz.prog 41 #[.agg (txC t h).toArray] w' fun e w'' => e = .returned (.agg (txC (othT t) (othH t h)).toArray) ∧ Below w'.heap.size w' w'') := fun w' => tOth t h w' ht
  have CB : Hid (∀ w', Below S w w' → Calls Tryz.prog 40 #[.agg (txC (othT t) (othH t h)).toArray] w' fun e w'' => e = .returned (.bool c2) ∧ Below w'.heap.size w' w'') := fun w' hb => by
    have := tBlk (othT t) (othH t h) w' (wf_oth ht) (mem_oth (MM.out w' hb))
    rw [hc2] at this
    exact this
  have HI : Hid ((Tryz.prog.info? 39).map (·.size) = some (txC t h).length) := szL i39 (txC_len h ht)
  clear hmm hc1 hc2 ht hm
  cases c1 <;>
  · go_enter Tryz.func15, Tryz.ntmps15
    go_wp2_with (first
      | (refine wpList_load_midG (by rfl) 39 (.tmp 1) rfl S 0 rfl (txC t h) _ RC.out Tryz.underlying39 rfl HI.out ?_)
      | (go_at_call 39; refine (CF.out _ BC.out).mono ?_; rintro e w1 ⟨rfl, hb⟩; replace RC : Hid (w1.rangeAt S 0 (txC t h)) := Lib.hid (range_keep1 RC.out (hb.block S NC.out)); replace BC : Hid (Below S w w1) := Lib.hid (BC.out.trans (hb.mono (Nat.le_of_lt NC.out))); replace NC : Hid (S < w1.heap.size) := Lib.hid (Nat.lt_of_lt_of_le NC.out hb.size); clear hb)
      | (go_at_call 41; refine (CO.out _).mono ?_; rintro e w2 ⟨rfl, hb⟩; replace BC : Hid (Below S w w2) := Lib.hid (BC.out.trans (hb.mono (Nat.le_of_lt NC.out))); replace NC : Hid (S < w2.heap.size) := Lib.hid (Nat.lt_of_lt_of_le NC.out hb.size); clear hb)
      | (go_at_call 40; refine (CB.out _ BC.out).mono ?_; rintro e w3 ⟨rfl, hb⟩; replace BC : Hid (Below S w w3) := Lib.hid (BC.out.trans (hb.mono (Nat.le_of_lt NC.out))); clear hb)
      | fail)
    go_ret
    exact ⟨rfl, by first | exact BC.out | (rw [HS.out]; exact BC.out)⟩
end Go.Proofs.YtffaddefnpkcgaaGreatDoor
namespace Go.Proofs.YtffaddefnpkcgaaGreatDoor
open Go.RowKit
set_option maxRecDepth 100000
attribute [local irreducible] ua da ba kk sw S8.run rt hs comp splice outB sha msg zeros win bvals vals mHave mPlc mLis mPts cel seg
attribute [local irreducible] parC cerC claC txC mOuts
structure FewT (t : TxP) : Prop where
  i : t.ins.length ≤ 100
  o : t.outs.length ≤ 100
  f : t.fwds.length ≤ 100
  k : t.keys.length ≤ 100
  co : t.couts.length ≤ 100
  cs : t.csigs.length ≤ 100
theorem dPar (t : TxP) (h : TxH) (w : World) (ht : WfT t) (hm : Mem w t h) :
    Calls Tryz.prog 46 #[.agg (parC t h).toArray] w fun e w' => e = .returned (.bool (mCre t)) ∧ Below w.heap.size w w' := by
  have := dMay h.k.A t.keys.length h.k.c t.keys.flatten (cel t.par 0) (cel t.par 1) (cel t.par 2) w (keys_src hm.k ht.keys) hm.kc.le hm.kc.mx
  rw [par_vals (okT_len ht.par)]
  rw [show mCre t = mayP (at8 t.keys.flatten) t.keys.length (cel t.par 0) (cel t.par 1) (cel t.par 2) from (mayP_congr fun j hj => flat_at8 ht.keys j hj).symm]
  exact this
end Go.Proofs.YtffaddefnpkcgaaGreatDoor

