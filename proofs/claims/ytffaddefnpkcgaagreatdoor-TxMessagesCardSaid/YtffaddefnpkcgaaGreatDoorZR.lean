/-
  Same.
-/
import Derived.Test.YtffaddefnpkcgaaGreatDoorZP
import Derived.Test.YtffaddefnpkcgaaGreatDoorZH
import Derived.Test.YtffaddefnpkcgaaGreatDoorZW
namespace Go.Proofs.YtffaddefnpkcgaaGreatDoor
open Go.RowKit
set_option maxRecDepth 100000
theorem conv {w : World} {A : Option Addr} {n : Nat} (c : Nat) {bs : List Int} (hl : bs.length = n) (hr : Row w A bs) : (convert 42 9 (.slice A n c)).run Tryz.prog w = .ok (.string (strOfNums bs)) w := by
  rcases hr with rfl | ⟨b, off, rfl, hc⟩
  · obtain rfl : n = 0 := by simpa using hl.symm
    cases A with
    | none =>
      rw [run_convert_bytes_nil w 42 5 Tryz.underlying42 Tryz.underlying5 0 c 9 Tryz.underlying9]
      simp [strOfNums]; rfl
    | some ad =>
      have hld : (loadCells ad 0).run Tryz.prog w = .ok #[] w := by
        have := run_loadCells_list (P := Tryz.prog) w ad [] (fun j v h => by cases h)
        simpa using this
      rw [run_convert_bytes_string w 42 9 5 _ 0 c Tryz.underlying42 Tryz.underlying5 Tryz.underlying9, run_bytesToString w ad 0 c [] (by simpa using hld)]
      simp [strOfNums]; rfl
  · exact run_convert_bytes_arg w 42 5 Tryz.underlying42 Tryz.underlying5 b off n c bs hl (fun i hi => hc i (by omega)) 9 Tryz.underlying9
theorem byt_dg (n : Int) (k : Nat) : Byt (digs n k) := by
  intro x hx
  simp only [digs, List.mem_map] at hx
  obtain ⟨j, _, rfl⟩ := hx
  unfold dig
  omega
theorem byt_ap {x y : List Int} (hx : Byt x) (hy : Byt y) : Byt (x ++ y) := fun z hz => (List.mem_append.1 hz).elim (hx z) (hy z)
theorem byt_en : ∀ {S : Sch} {r : List Int}, okT okA S r → Byt (enc S r)
  | [], _, h => by cases h; intro x hx; cases hx
  | _ :: _, [], h => h.elim
  | none :: S, x :: r, h => by
    refine byt_ap (fun z hz => ?_) (byt_en h.2)
    rw [show encA none x = [x] from rfl, List.mem_singleton] at hz
    rw [hz]; exact h.1
  | some k :: S, x :: r, h => byt_ap (byt_dg x k) (byt_en h.2)
theorem byt_el {S : Sch} {rs : List (List Int)} (h : AllR S rs) : Byt (encL S rs) := by
  refine byt_ap (byt_dg _ _) fun z hz => ?_
  obtain ⟨r, hr, hz⟩ := List.mem_flatMap.1 hz
  exact byt_en (h r hr) z hz
theorem byt_enc {t : TxP} (h : WfT t) : Byt (encT t) := by
  refine byt_ap (byt_dg _ _) ?_
  unfold bodT
  split
  · exact byt_ap (byt_dg _ _) (byt_el h.outs)
  split
  · exact byt_ap (byt_el h.ins) (byt_ap (byt_el h.outs) (byt_el h.fwds))
  split
  · exact byt_ap (byt_en h.par) (byt_el h.keys)
  split
  · exact byt_ap (byt_en h.cer) (byt_ap (byt_el h.couts) (byt_el h.csigs))
  split
  · exact byt_en h.cla
  · intro x hx; cases hx
attribute [local irreducible] ua da ba kk sw S8.run rt hs comp splice outB sha msg zeros win bvals vals parC cerC claC txC cel seg hash1 hash2 encT mayT
end Go.Proofs.YtffaddefnpkcgaaGreatDoor
namespace Go.Proofs.YtffaddefnpkcgaaGreatDoor
open Go.RowKit
set_option maxRecDepth 100000
def fewB (t : TxP) : Bool := decide (t.ins.length ≤ 20) && (decide (t.outs.length ≤ 40) && (decide (t.fwds.length ≤ 40) && (decide (t.keys.length ≤ 20) && (decide (t.couts.length ≤ 40) && decide (t.csigs.length ≤ 20)))))
theorem few_t {t : TxP} (h : fewB t = true) : FewT t := by
  simp only [fewB, Bool.and_eq_true, decide_eq_true_eq] at h
  exact ⟨by omega, by omega, by omega, by omega, by omega, by omega⟩
theorem trng_k {w : World} {b : Nat} {t : TxP} {h : TxH} (hw : WfT t) (R : TRng w b t h) : w.cell? ⟨b, 8, none⟩ = some (.slice h.k.A t.keys.length h.k.c) ∧ w.cell? ⟨b, 28, none⟩ = some (.slice h.co.A t.couts.length h.co.c) ∧ w.cell? ⟨b, 29, none⟩ = some (.slice h.cs.A t.csigs.length h.cs.c) := by
  have hp := R.par
  have hc := R.cer
  unfold parC at hp
  unfold cerC at hc
  have hp2 := range_app hp
  have hc2 := range_app hc
  have lp : (vals parS t.par).length = 3 := vals_len (okT_len hw.par)
  have lc : (vals cerS t.cer).length = 19 := vals_len (okT_len hw.cer)
  rw [lp] at hp2
  rw [lc] at hc2
  exact ⟨range_cell hp2.2 (i := 0) rfl, range_cell hc2.2 (i := 0) rfl, range_cell hc2.2 (i := 1) rfl⟩
def a1 : TxP := { tx0 with kind := 1, height := 1 }
theorem wf_a1 : WfT a1 := { wf_tx0 with kind := ⟨by decide, by decide⟩, height := ⟨by decide, by decide⟩ }
theorem may_a1 : mayT a1 = true := by kernel_rfl
theorem enc_a1 : (encT a1).length = 6 := by kernel_rfl
theorem mem_a1 (w : World) : Mem w a1 hd0 := ⟨lrow_nil _ _ _, lrow_nil _ _ _, lrow_nil _ _ _, lrow_nil _ _ _, lrow_nil _ _ _, lrow_nil _ _ _, cap_nS, cap_nS, cap_nS, cap_nS, cap_nS, cap_nS⟩
theorem b39a (w : World) : (Instr.build 39 #[(0, .int .i64 1), (1, .int .i64 1)]).run Tryz.prog w = .ok (.agg (txC a1 hd0).toArray) w := by kernel_rfl
theorem run_bldA {o : Oper} {ev : Operand → Value} {w : World} (ho : o.op = .build 39 #[(0, .const (.int .i64 1)), (1, .const (.int .i64 1))]) (he : ev (.const (.int .i64 1)) = .int .i64 1) : (execOp ev o).run Tryz.prog w = .ok (.value (.agg (txC a1 hd0).toArray)) w := by
  unfold execOp
  simp only [ho, List.map_toArray, List.map_cons, List.map_nil, he, Sem.run_bind, b39a, Result.andThen_ok, Sem.run_pure]
theorem par_a1 : parT (encT a1) = some (a1, []) := by
  have := parT_enc [] wf_a1 may_a1
  rwa [List.append_nil] at this
attribute [local irreducible] ua da ba kk sw S8.run rt hs comp splice outB sha msg zeros win bvals vals parC cerC claC txC cel seg hash1 hash2 encT mayT
set_option maxHeartbeats 4000000 in
theorem tFew (t : TxP) (h : TxH) (w : World) (ht : WfT t) (hm : Mem w t h) :
    Calls Tryz.prog 10 #[.agg (txC t h).toArray] w fun e w' => e = .returned (.bool (fewB t)) ∧ Below w.heap.size w w' := by
  obtain ⟨ni, hni⟩ : ∃ n, t.ins.length = n := ⟨_, rfl⟩
  have bni : ni ≤ 9223372036854775807 := by have a := hm.ic.le; have c := hm.ic.mx; unfold maxLen at c; rw [hni] at a; omega
  obtain ⟨no, hno⟩ : ∃ n, t.outs.length = n := ⟨_, rfl⟩
  have bno : no ≤ 9223372036854775807 := by have a := hm.oc.le; have c := hm.oc.mx; unfold maxLen at c; rw [hno] at a; omega
  obtain ⟨nf, hnf⟩ : ∃ n, t.fwds.length = n := ⟨_, rfl⟩
  have bnf : nf ≤ 9223372036854775807 := by have a := hm.fc.le; have c := hm.fc.mx; unfold maxLen at c; rw [hnf] at a; omega
  obtain ⟨nk, hnk⟩ : ∃ n, t.keys.length = n := ⟨_, rfl⟩
  have bnk : nk ≤ 9223372036854775807 := by have a := hm.kc.le; have c := hm.kc.mx; unfold maxLen at c; rw [hnk] at a; omega
  obtain ⟨nc, hnc⟩ : ∃ n, t.couts.length = n := ⟨_, rfl⟩
  have bnc : nc ≤ 9223372036854775807 := by have a := hm.coc.le; have c := hm.coc.mx; unfold maxLen at c; rw [hnc] at a; omega
  obtain ⟨ns, hns⟩ : ∃ n, t.csigs.length = n := ⟨_, rfl⟩
  have bns : ns ≤ 9223372036854775807 := by have a := hm.csc.le; have c := hm.csc.mx; unfold maxLen at c; rw [hns] at a; omega
  have hmm : fewB t = (decide (ni ≤ 20) && (decide (no ≤ 40) && (decide (nf ≤ 40) && (decide (nk ≤ 20) && (decide (nc ≤ 40) && decide (ns ≤ 20)))))) := by
    unfold fewB
    rw [hni, hno, hnf, hnk, hnc, hns]
  obtain ⟨S, hS⟩ : ∃ S, w.heap.size = S := ⟨_, rfl⟩
  have HS := Lib.hid hS
  have BC : Hid (Below S w (w.alloc (Obj.cells (txC t h).toArray 39))) := by rw [← hS]; exact (Below.refl _ w).alloc (Nat.le_refl _) _
  have R := trng ht (show (w.alloc (Obj.cells (txC t h).toArray 39)).rangeAt S 0 (txC t h) from by rw [← hS]; exact range_new w _ _)
  obtain ⟨k8, k28, k29⟩ := trng_k ht R
  obtain ⟨_, _, k2, k3, k4, _, _, _⟩ := R
  rw [hni] at k2
  rw [hno] at k3
  rw [hnf] at k4
  rw [hnk] at k8
  rw [hnc] at k28
  rw [hns] at k29
  rw [hmm]
  clear hmm hni hno hnf hnk hnc hns ht hm
  go_enter Tryz.func10, Tryz.ntmps10
  go_upto_region 1 with (fail)
  generalize (w.alloc (Obj.cells (txC t h).toArray 39)) = v at *
  clear hS
  by_cases q0 : (ni : Int) ≤ 20
  · by_cases q1 : (no : Int) ≤ 40
    · by_cases q2 : (nf : Int) ≤ 40
      · by_cases q3 : (nk : Int) ≤ 20
        · by_cases q4 : (nc : Int) ≤ 40
          · by_cases q5 : (ns : Int) ≤ 20
            · have hres : Hid ((decide (ni ≤ 20) && (decide (no ≤ 40) && (decide (nf ≤ 40) && (decide (nk ≤ 20) && (decide (nc ≤ 40) && decide (ns ≤ 20)))))) = true) := by show _ = _; simp; omega
              go_wp2
              go_ret
              exact ⟨by rw [hres.out] <;> rfl, by rw [HS.out]; exact BC.out⟩
            · have hres : Hid ((decide (ni ≤ 20) && (decide (no ≤ 40) && (decide (nf ≤ 40) && (decide (nk ≤ 20) && (decide (nc ≤ 40) && decide (ns ≤ 20)))))) = false) := by show _ = _; simp; omega
              go_wp2
              go_ret
              exact ⟨by rw [hres.out] <;> rfl, by rw [HS.out]; exact BC.out⟩
          · have hres : Hid ((decide (ni ≤ 20) && (decide (no ≤ 40) && (decide (nf ≤ 40) && (decide (nk ≤ 20) && (decide (nc ≤ 40) && decide (ns ≤ 20)))))) = false) := by show _ = _; simp; omega
            go_wp2
            go_ret
            exact ⟨by rw [hres.out] <;> rfl, by rw [HS.out]; exact BC.out⟩
        · have hres : Hid ((decide (ni ≤ 20) && (decide (no ≤ 40) && (decide (nf ≤ 40) && (decide (nk ≤ 20) && (decide (nc ≤ 40) && decide (ns ≤ 20)))))) = false) := by show _ = _; simp; omega
          go_wp2
          go_ret
          exact ⟨by rw [hres.out] <;> rfl, by rw [HS.out]; exact BC.out⟩
      · have hres : Hid ((decide (ni ≤ 20) && (decide (no ≤ 40) && (decide (nf ≤ 40) && (decide (nk ≤ 20) && (decide (nc ≤ 40) && decide (ns ≤ 20)))))) = false) := by show _ = _; simp; omega
        go_wp2
        go_ret
        exact ⟨by rw [hres.out] <;> rfl, by rw [HS.out]; exact BC.out⟩
    · have hres : Hid ((decide (ni ≤ 20) && (decide (no ≤ 40) && (decide (nf ≤ 40) && (decide (nk ≤ 20) && (decide (nc ≤ 40) && decide (ns ≤ 20)))))) = false) := by show _ = _; simp; omega
      go_wp2
      go_ret
      exact ⟨by rw [hres.out] <;> rfl, by rw [HS.out]; exact BC.out⟩
  · have hres : Hid ((decide (ni ≤ 20) && (decide (no ≤ 40) && (decide (nf ≤ 40) && (decide (nk ≤ 20) && (decide (nc ≤ 40) && decide (ns ≤ 20)))))) = false) := by show _ = _; simp; omega
    go_wp2
    go_ret
    exact ⟨by rw [hres.out] <;> rfl, by rw [HS.out]; exact BC.out⟩
set_option maxHeartbeats 4000000 in
theorem tAwake (w : World) (hk : Keys w) (hw0 : 0 < w.heap.size) :
    Calls Tryz.prog 9 #[] w fun e w' => e = .returned (.bool true) ∧ Below w.heap.size w w' := by
  obtain ⟨S, hS⟩ : ∃ S, w.heap.size = S := ⟨_, rfl⟩
  have HS := Lib.hid hS
  have HK : Hid (∀ w', Below S w w' → Keys w') := fun w' hb => keys_below hk hb (by omega)
  have HP : Hid (0 < S) := by rw [← hS]; exact hw0
  have CE := tEncY a1 hd0 w wf_a1 (mem_a1 w) may_a1
  rw [enc_a1] at CE
  have CX := Lib.hid CE
  clear hk hw0 hS CE
  go_enter Tryz.func9, Tryz.ntmps9
  go_upto_region 1 with (fail)
  rename_i K hKK
  refine wp_region_lit ?_
  refine wpList_t (v := .agg (txC a1 hd0).toArray) (by rfl) (run_bldA (by rfl) rfl) ?_
  simp only [Act.put, ly4, ly5, ly6]
  go_wp2_with (first | (go_at_call 11; refine CX.out.mono ?_; rintro e w1 ⟨⟨A, c, rfl, hr, hl, hn, hx⟩, hb⟩; have R1 := Lib.hid hr; have L1 := Lib.hid hl; have N1 := Lib.hid hn; have X1 := Lib.hid hx; have B1 := Lib.hid (hb.mono (show S ≤ w.heap.size from by rw [HS.out]; exact Nat.le_refl _)); clear hr hl hn hx hb) | fail)
  refine (tDecY A 6 c (encT a1) a1 w1 (src_row enc_a1 R1.out) N1.out (byt_enc wf_a1) (by decide) par_a1 may_a1).mono ?_
  rintro e w2 ⟨h, rfl, hm2, _, hb2⟩
  dsimp only at hm2
  have B2 : Hid (Below S w w2) := B1.out.trans (hb2.mono B1.out.size |> fun h => h.mono (by rw [HS.out]; exact Nat.le_refl _))
  obtain ⟨N, hN⟩ : ∃ N, w2.heap.size = N := ⟨_, rfl⟩
  have NN := Lib.hid hN
  have SN : Hid (S ≤ N) := by show _ ≤ _; rw [← hN, ← HS.out]; exact B2.out.size
  have XA : Hid (BL (w2.alloc (Obj.cells (txC tx0 hd0).toArray 39)) N (txC tx0 hd0) 39) := by rw [← hN]; exact heap_alloc_last w2 _
  have M2 := Lib.hid hm2
  have KX : Hid (∀ q, q < N → ((w2.alloc (Obj.cells (txC tx0 hd0).toArray 39)).setRow N (txC a1 h).toArray).heap[q]? = w2.heap[q]?) := fun q hq => by
    rw [setRow_other _ _ _ _ (by omega)]
    exact Below.heap_alloc w2 _ q (by rw [hN]; exact hq)
  have XB : Hid (BL ((w2.alloc (Obj.cells (txC tx0 hd0).toArray 39)).setRow N (txC a1 h).toArray) N (txC a1 h) 39) := setRow_heap _ _ _ _ _ _ XA.out
  have SX : Hid (((w2.alloc (Obj.cells (txC tx0 hd0).toArray 39)).setRow N (txC a1 h).toArray).heap.size = N + 1) := by show _ = _; simp [World.setRow, hN]
  have BX : Hid (Below S w ((w2.alloc (Obj.cells (txC tx0 hd0).toArray 39)).setRow N (txC a1 h).toArray)) := below_setRow (B2.out.alloc (by rw [hN]; exact SN.out) _) SN.out _
  have MX : Hid (Mem ((w2.alloc (Obj.cells (txC tx0 hd0).toArray 39)).setRow N (txC a1 h).toArray) a1 h) := hm2.keep fun q hq => KX.out q (by rw [← hN]; exact hq)
  have HI := Lib.hid (szL i39 (txC_len h wf_a1))
  have hz := z39
  clear hm2 hb2
  go_upto_region 3 with (first
    | (refine wpList_store_rowTo rfl 39 (.tmp 3) (.tmp 15) rfl rfl N (txC a1 h).toArray rfl rfl 39 (txC tx0 hd0).toArray XA.out (szA i39 (txC_len h wf_a1)) (by rw [List.size_toArray, List.size_toArray, txC_len h wf_a1, txC_len _ wf_tx0]) (all_oneCell_toArray (txC_one _ _)) ?_)
    | fail)
  generalize ((w2.alloc (Obj.cells (txC tx0 hd0).toArray 39)).setRow N (txC a1 h).toArray) = w3 at *
  clear hz hN
  have C := tID a1 h w3 wf_a1 MX.out (HK.out w3 BX.out) (by rw [SX.out]; omega)
  rw [may_a1] at C
  have CI := Lib.hid C
  have HD : Hid ((DigP a1 (hash1 120)).length = 8) := digP_len (hash1_len _ _)
  clear C
  generalize DigP a1 (hash1 120) = d at *
  have hz := z29b
  go_upto_region 4 with (first
    | (refine wpList_load_midG (by rfl) 39 (.tmp 3) rfl N 0 rfl (txC a1 h) _ (range_of XB.out) Tryz.underlying39 rfl HI.out ?_)
    | (go_at_call 13; refine CI.out.mono ?_; rintro e w4 ⟨rfl, hb⟩; have XC : Hid (BL w4 N (txC a1 h) 39) := Lib.hid (bl_keep XB.out (hb.block N (by rw [SX.out]; omega))); have BD : Hid (Below S w w4) := Lib.hid (BX.out.trans (hb.mono (by rw [SX.out]; have := SN.out; omega))); have S4 : Hid (N < w4.heap.size) := Lib.hid (Nat.lt_of_lt_of_le (by rw [SX.out]; omega) hb.size); have XE : Hid (BL (w4.alloc (Obj.cells (bvals (zeros 8)).toArray 29)) w4.heap.size (bvals (zeros 8)) 29) := Lib.hid (heap_alloc_last w4 _); clear hb)
    | (refine wpList_store_rowTo rfl 29 (.tmp 5) (.tmp 20) rfl rfl w4.heap.size (bvals d).toArray rfl rfl 29 (bvals (zeros 8)).toArray XE.out (szA i29 (bv8s HD.out)) (by rw [List.size_toArray, List.size_toArray, bv8s HD.out, bv8s (zeros_len 8)]) (all_oneCell_toArray (bv_one _)) ?_)
    | fail)
  have BE : Hid (Below S w ((w4.alloc (Obj.cells (bvals (zeros 8)).toArray 29)).setRow w4.heap.size (bvals d).toArray)) := below_setRow (BD.out.alloc (by have := S4.out; have := SN.out; omega) _) (by have := S4.out; have := SN.out; omega) _
  have k1 : ((w4.alloc (Obj.cells (bvals (zeros 8)).toArray 29)).setRow w4.heap.size (bvals d).toArray).cell? ⟨N, 1, none⟩ = some (.int .i64 1) := by
    have := (trng wf_a1 (range_of XC.out)).height
    rw [show a1.height = 1 from rfl] at this
    rw [← this]
    simp only [World.cell?]
    rw [setRow_other _ _ _ _ (by have := S4.out; omega), Below.heap_alloc w4 _ N S4.out]
  clear hz
  generalize ((w4.alloc (Obj.cells (bvals (zeros 8)).toArray 29)).setRow w4.heap.size (bvals d).toArray) = w5 at *
  go_wp2
  go_ret
  exact ⟨rfl, by rw [HS.out]; exact BE.out⟩
end Go.Proofs.YtffaddefnpkcgaaGreatDoor

