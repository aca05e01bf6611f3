/-
  Certificates, the fields that a kind has: whether they may be.
-/
import Derived.Test.YtffaddefnpkcgaaGreatDoorZD
import Derived.Test.YtffaddefnpkcgaaGreatDoorZQM
namespace Go.Proofs.YtffaddefnpkcgaaGreatDoor
open Go.RowKit
set_option maxRecDepth 100000
attribute [local irreducible] ua da ba kk sw S8.run rt hs comp splice outB sha msg zeros win bvals vals mHave mPlc mLis mPts cel seg
theorem trng_keep {w W : World} {b : Nat} {t : TxP} {h : TxH} (r : TRng w b t h) (hb : W.heap[b]? = w.heap[b]?) : TRng W b t h := by
  have hc : ∀ i, W.cell? ⟨b, i, none⟩ = w.cell? ⟨b, i, none⟩ := fun i => World.cell?_of_block (w := w) (a := ⟨b, i, none⟩) hb
  exact ⟨(hc 0).trans r.kind, (hc 1).trans r.height, (hc 2).trans r.i, (hc 3).trans r.o, (hc 4).trans r.f, range_keep1 r.par hb, range_keep1 r.cer hb, range_keep1 r.cla hb⟩
theorem tOuts (A : Option Addr) (n cap : Nat) (rs : List (List Int)) (w : World) (hr : LRow outS w A rs) (hl : AllR outS rs) (hn : rs.length = n) (hc : n ≤ cap) (hm : cap ≤ maxLen) :
    Calls Tryz.prog 71 #[.slice A n cap] w fun e w' => e = .returned (.bool (mOuts rs)) ∧ Below w.heap.size w w' := by
  have C1 := Lib.hid (lsOut A n cap 0 16 rs w hr (fun j hj => lrow_len hl hj) hn hc hm)
  obtain ⟨c, hc1⟩ : ∃ c, mOuts rs = c := ⟨_, rfl⟩
  have hc2 : mLis 0 16 mOut rs = c := hc1
  rw [hc2] at C1
  rw [hc1]
  clear hr hl hn hc hm hc1 hc2
  go_enter Tryz.func71, Tryz.ntmps71
  go_wp2_with fail
  refine C1.out.mono ?_
  rintro e w1 ⟨rfl, hb⟩
  have B1 := Lib.hid hb
  clear hb
  go_wp2
  go_ret
  exact ⟨rfl, B1.out⟩
theorem tFwds (A : Option Addr) (n cap : Nat) (rs : List (List Int)) (w : World) (hr : LRow fwdS w A rs) (hl : AllR fwdS rs) (hn : rs.length = n) (hc : n ≤ cap) (hm : cap ≤ maxLen) :
    Calls Tryz.prog 73 #[.slice A n cap] w fun e w' => e = .returned (.bool (mFwds rs)) ∧ Below w.heap.size w w' := by
  have C1 := Lib.hid (lsForward A n cap 0 16 rs w hr (fun j hj => lrow_len hl hj) hn hc hm)
  obtain ⟨c, hc1⟩ : ∃ c, mFwds rs = c := ⟨_, rfl⟩
  have hc2 : mLis 0 16 mFwd rs = c := hc1
  rw [hc2] at C1
  rw [hc1]
  clear hr hl hn hc hm hc1 hc2
  go_enter Tryz.func73, Tryz.ntmps73
  go_wp2_with fail
  refine C1.out.mono ?_
  rintro e w1 ⟨rfl, hb⟩
  have B1 := Lib.hid hb
  clear hb
  go_wp2
  go_ret
  exact ⟨rfl, B1.out⟩
set_option maxHeartbeats 8000000 in
theorem tCer (t : TxP) (h : TxH) (w : World) (ht : WfT t) (hm : Mem w t h) :
    Calls Tryz.prog 75 #[.agg (cerC t h).toArray] w fun e w' => e = .returned (.bool (mCer t.cer t.couts t.csigs)) ∧ Below w.heap.size w w' := by
  have HL : Hid (t.cer.length = 19) := okT_len ht.cer
  obtain ⟨S, hS⟩ : ∃ S, w.heap.size = S := ⟨_, rfl⟩
  have HS := Lib.hid hS
  have RC : Hid ((w.alloc (Obj.cells (cerC t h).toArray 32)).rangeAt S 0 (cerC t h)) := by rw [← hS]; exact range_new w _ _
  have BC : Hid (Below S w (w.alloc (Obj.cells (cerC t h).toArray 32))) := by rw [← hS]; exact (Below.refl _ w).alloc (Nat.le_refl _) _
  have NC : Hid (S < (w.alloc (Obj.cells (cerC t h).toArray 32)).heap.size) := by show S < _; simp; omega
  have CO : Hid (∀ w', Below S w w' → Calls Tryz.prog 71 #[.slice h.co.A t.couts.length h.co.c] w' fun e w'' => e = .returned (.bool (mOuts t.couts)) ∧ Below w'.heap.size w' w'') := fun w' hb => tOuts _ _ _ _ w' (hm.co.keep fun q hq => hb.block q (by rw [← HS.out]; exact hq)) ht.couts rfl hm.coc.le hm.coc.mx
  have CS : Hid (∀ w', Below S w w' → Calls Tryz.prog 108 #[.slice h.cs.A t.csigs.length h.cs.c, .int .i64 1, .int .i64 5, .func (.func 109) #[] #[]] w' fun e w'' => e = .returned (.bool (mLis 1 5 mSgn t.csigs)) ∧ Below w'.heap.size w' w'') := fun w' hb => lsSigned _ _ _ 1 5 _ w' (hm.cs.keep fun q hq => hb.block q (by rw [← HS.out]; exact hq)) (fun j hj => lrow_len ht.csigs hj) rfl hm.csc.le hm.csc.mx
  obtain ⟨c1, hc1⟩ : ∃ c, win 0 7 (cel t.cer 0) = c := ⟨_, rfl⟩
  obtain ⟨c2, hc2⟩ : ∃ c, win 0 400 (cel t.cer 1) = c := ⟨_, rfl⟩
  obtain ⟨c3, hc3⟩ : ∃ c, win 0 2147483647 (cel t.cer 2) = c := ⟨_, rfl⟩
  obtain ⟨c4, hc4⟩ : ∃ c, mOuts t.couts = c := ⟨_, rfl⟩
  obtain ⟨c5, hc5⟩ : ∃ c, mLis 1 5 mSgn t.csigs = c := ⟨_, rfl⟩
  have hmm : mCer t.cer t.couts t.csigs = (c1 && (c2 && (c3 && (c4 && c5)))) := by unfold mCer; rw [hc1, hc2, hc3, hc4, hc5]
  rw [hmm]
  rw [hc4] at CO
  rw [hc5] at CS
  clear hmm hc4 hc5 ht hm
  cases c1
  · go_enter Tryz.func75, Tryz.ntmps75
    obtain ⟨k0, k1, k2, _, _, k5, k6⟩ := cer_at RC.out HL.out
    simp only [Nat.zero_add] at k1 k2 k5 k6
    go_wp2_with (first
      | (go_at_call 107; refine (tSide _ _).mono ?_; rintro e w' ⟨rfl, rfl⟩)
      | (go_at_call 54; refine (tWithin _ _ _ _).mono ?_; rintro e w' ⟨rfl, rfl⟩)
      | (go_at_call 71; refine (CO.out _ BC.out).mono ?_; rintro e w1 ⟨rfl, hb⟩; have hS1 := hb.block S NC.out; replace RC : Hid (w1.rangeAt S 0 (cerC t h)) := Lib.hid (range_keep1 RC.out hS1); replace BC : Hid (Below S w w1) := Lib.hid (BC.out.trans (hb.mono (Nat.le_of_lt NC.out))); replace NC : Hid (S < w1.heap.size) := Lib.hid (Nat.lt_of_lt_of_le NC.out hb.size); clear hb hS1; clear k0 k1 k2 k5 k6; obtain ⟨k0, k1, k2, _, _, k5, k6⟩ := cer_at RC.out HL.out; simp only [Nat.zero_add] at k1 k2 k5 k6)
      | (go_at_call 108; refine (CS.out _ BC.out).mono ?_; rintro e w1 ⟨rfl, hb⟩; have hS1 := hb.block S NC.out; replace RC : Hid (w1.rangeAt S 0 (cerC t h)) := Lib.hid (range_keep1 RC.out hS1); replace BC : Hid (Below S w w1) := Lib.hid (BC.out.trans (hb.mono (Nat.le_of_lt NC.out))); replace NC : Hid (S < w1.heap.size) := Lib.hid (Nat.lt_of_lt_of_le NC.out hb.size); clear hb hS1; clear k0 k1 k2 k5 k6; obtain ⟨k0, k1, k2, _, _, k5, k6⟩ := cer_at RC.out HL.out; simp only [Nat.zero_add] at k1 k2 k5 k6)
      | fail)
    go_ret
    exact ⟨rfl, by rw [HS.out]; exact BC.out⟩
  · cases c2
    · go_enter Tryz.func75, Tryz.ntmps75
      obtain ⟨k0, k1, k2, _, _, k5, k6⟩ := cer_at RC.out HL.out
      simp only [Nat.zero_add] at k1 k2 k5 k6
      go_wp2_with (first
        | (go_at_call 107; refine (tSide _ _).mono ?_; rintro e w' ⟨rfl, rfl⟩)
        | (go_at_call 54; refine (tWithin _ _ _ _).mono ?_; rintro e w' ⟨rfl, rfl⟩)
        | (go_at_call 71; refine (CO.out _ BC.out).mono ?_; rintro e w1 ⟨rfl, hb⟩; have hS1 := hb.block S NC.out; replace RC : Hid (w1.rangeAt S 0 (cerC t h)) := Lib.hid (range_keep1 RC.out hS1); replace BC : Hid (Below S w w1) := Lib.hid (BC.out.trans (hb.mono (Nat.le_of_lt NC.out))); replace NC : Hid (S < w1.heap.size) := Lib.hid (Nat.lt_of_lt_of_le NC.out hb.size); clear hb hS1; clear k0 k1 k2 k5 k6; obtain ⟨k0, k1, k2, _, _, k5, k6⟩ := cer_at RC.out HL.out; simp only [Nat.zero_add] at k1 k2 k5 k6)
        | (go_at_call 108; refine (CS.out _ BC.out).mono ?_; rintro e w1 ⟨rfl, hb⟩; have hS1 := hb.block S NC.out; replace RC : Hid (w1.rangeAt S 0 (cerC t h)) := Lib.hid (range_keep1 RC.out hS1); replace BC : Hid (Below S w w1) := Lib.hid (BC.out.trans (hb.mono (Nat.le_of_lt NC.out))); replace NC : Hid (S < w1.heap.size) := Lib.hid (Nat.lt_of_lt_of_le NC.out hb.size); clear hb hS1; clear k0 k1 k2 k5 k6; obtain ⟨k0, k1, k2, _, _, k5, k6⟩ := cer_at RC.out HL.out; simp only [Nat.zero_add] at k1 k2 k5 k6)
        | fail)
      go_ret
      exact ⟨rfl, by rw [HS.out]; exact BC.out⟩
    · cases c3
      · go_enter Tryz.func75, Tryz.ntmps75
        obtain ⟨k0, k1, k2, _, _, k5, k6⟩ := cer_at RC.out HL.out
        simp only [Nat.zero_add] at k1 k2 k5 k6
        go_wp2_with (first
          | (go_at_call 107; refine (tSide _ _).mono ?_; rintro e w' ⟨rfl, rfl⟩)
          | (go_at_call 54; refine (tWithin _ _ _ _).mono ?_; rintro e w' ⟨rfl, rfl⟩)
          | (go_at_call 71; refine (CO.out _ BC.out).mono ?_; rintro e w1 ⟨rfl, hb⟩; have hS1 := hb.block S NC.out; replace RC : Hid (w1.rangeAt S 0 (cerC t h)) := Lib.hid (range_keep1 RC.out hS1); replace BC : Hid (Below S w w1) := Lib.hid (BC.out.trans (hb.mono (Nat.le_of_lt NC.out))); replace NC : Hid (S < w1.heap.size) := Lib.hid (Nat.lt_of_lt_of_le NC.out hb.size); clear hb hS1; clear k0 k1 k2 k5 k6; obtain ⟨k0, k1, k2, _, _, k5, k6⟩ := cer_at RC.out HL.out; simp only [Nat.zero_add] at k1 k2 k5 k6)
          | (go_at_call 108; refine (CS.out _ BC.out).mono ?_; rintro e w1 ⟨rfl, hb⟩; have hS1 := hb.block S NC.out; replace RC : Hid (w1.rangeAt S 0 (cerC t h)) := Lib.hid (range_keep1 RC.out hS1); replace BC : Hid (Below S w w1) := Lib.hid (BC.out.trans (hb.mono (Nat.le_of_lt NC.out))); replace NC : Hid (S < w1.heap.size) := Lib.hid (Nat.lt_of_lt_of_le NC.out hb.size); clear hb hS1; clear k0 k1 k2 k5 k6; obtain ⟨k0, k1, k2, _, _, k5, k6⟩ := cer_at RC.out HL.out; simp only [Nat.zero_add] at k1 k2 k5 k6)
          | fail)
        go_ret
        exact ⟨rfl, by rw [HS.out]; exact BC.out⟩
      · cases c4
        · go_enter Tryz.func75, Tryz.ntmps75
          obtain ⟨k0, k1, k2, _, _, k5, k6⟩ := cer_at RC.out HL.out
          simp only [Nat.zero_add] at k1 k2 k5 k6
          go_wp2_with (first
            | (go_at_call 107; refine (tSide _ _).mono ?_; rintro e w' ⟨rfl, rfl⟩)
            | (go_at_call 54; refine (tWithin _ _ _ _).mono ?_; rintro e w' ⟨rfl, rfl⟩)
            | (go_at_call 71; refine (CO.out _ BC.out).mono ?_; rintro e w1 ⟨rfl, hb⟩; have hS1 := hb.block S NC.out; replace RC : Hid (w1.rangeAt S 0 (cerC t h)) := Lib.hid (range_keep1 RC.out hS1); replace BC : Hid (Below S w w1) := Lib.hid (BC.out.trans (hb.mono (Nat.le_of_lt NC.out))); replace NC : Hid (S < w1.heap.size) := Lib.hid (Nat.lt_of_lt_of_le NC.out hb.size); clear hb hS1; clear k0 k1 k2 k5 k6; obtain ⟨k0, k1, k2, _, _, k5, k6⟩ := cer_at RC.out HL.out; simp only [Nat.zero_add] at k1 k2 k5 k6)
            | (go_at_call 108; refine (CS.out _ BC.out).mono ?_; rintro e w1 ⟨rfl, hb⟩; have hS1 := hb.block S NC.out; replace RC : Hid (w1.rangeAt S 0 (cerC t h)) := Lib.hid (range_keep1 RC.out hS1); replace BC : Hid (Below S w w1) := Lib.hid (BC.out.trans (hb.mono (Nat.le_of_lt NC.out))); replace NC : Hid (S < w1.heap.size) := Lib.hid (Nat.lt_of_lt_of_le NC.out hb.size); clear hb hS1; clear k0 k1 k2 k5 k6; obtain ⟨k0, k1, k2, _, _, k5, k6⟩ := cer_at RC.out HL.out; simp only [Nat.zero_add] at k1 k2 k5 k6)
            | fail)
          go_ret
          exact ⟨rfl, by rw [HS.out]; exact BC.out⟩
        · cases c5
          · go_enter Tryz.func75, Tryz.ntmps75
            obtain ⟨k0, k1, k2, _, _, k5, k6⟩ := cer_at RC.out HL.out
            simp only [Nat.zero_add] at k1 k2 k5 k6
            go_wp2_with (first
              | (go_at_call 107; refine (tSide _ _).mono ?_; rintro e w' ⟨rfl, rfl⟩)
              | (go_at_call 54; refine (tWithin _ _ _ _).mono ?_; rintro e w' ⟨rfl, rfl⟩)
              | (go_at_call 71; refine (CO.out _ BC.out).mono ?_; rintro e w1 ⟨rfl, hb⟩; have hS1 := hb.block S NC.out; replace RC : Hid (w1.rangeAt S 0 (cerC t h)) := Lib.hid (range_keep1 RC.out hS1); replace BC : Hid (Below S w w1) := Lib.hid (BC.out.trans (hb.mono (Nat.le_of_lt NC.out))); replace NC : Hid (S < w1.heap.size) := Lib.hid (Nat.lt_of_lt_of_le NC.out hb.size); clear hb hS1; clear k0 k1 k2 k5 k6; obtain ⟨k0, k1, k2, _, _, k5, k6⟩ := cer_at RC.out HL.out; simp only [Nat.zero_add] at k1 k2 k5 k6)
              | (go_at_call 108; refine (CS.out _ BC.out).mono ?_; rintro e w1 ⟨rfl, hb⟩; have hS1 := hb.block S NC.out; replace RC : Hid (w1.rangeAt S 0 (cerC t h)) := Lib.hid (range_keep1 RC.out hS1); replace BC : Hid (Below S w w1) := Lib.hid (BC.out.trans (hb.mono (Nat.le_of_lt NC.out))); replace NC : Hid (S < w1.heap.size) := Lib.hid (Nat.lt_of_lt_of_le NC.out hb.size); clear hb hS1; clear k0 k1 k2 k5 k6; obtain ⟨k0, k1, k2, _, _, k5, k6⟩ := cer_at RC.out HL.out; simp only [Nat.zero_add] at k1 k2 k5 k6)
              | fail)
            go_ret
            exact ⟨rfl, by rw [HS.out]; exact BC.out⟩
          · go_enter Tryz.func75, Tryz.ntmps75
            obtain ⟨k0, k1, k2, _, _, k5, k6⟩ := cer_at RC.out HL.out
            simp only [Nat.zero_add] at k1 k2 k5 k6
            go_wp2_with (first
              | (go_at_call 107; refine (tSide _ _).mono ?_; rintro e w' ⟨rfl, rfl⟩)
              | (go_at_call 54; refine (tWithin _ _ _ _).mono ?_; rintro e w' ⟨rfl, rfl⟩)
              | (go_at_call 71; refine (CO.out _ BC.out).mono ?_; rintro e w1 ⟨rfl, hb⟩; have hS1 := hb.block S NC.out; replace RC : Hid (w1.rangeAt S 0 (cerC t h)) := Lib.hid (range_keep1 RC.out hS1); replace BC : Hid (Below S w w1) := Lib.hid (BC.out.trans (hb.mono (Nat.le_of_lt NC.out))); replace NC : Hid (S < w1.heap.size) := Lib.hid (Nat.lt_of_lt_of_le NC.out hb.size); clear hb hS1; clear k0 k1 k2 k5 k6; obtain ⟨k0, k1, k2, _, _, k5, k6⟩ := cer_at RC.out HL.out; simp only [Nat.zero_add] at k1 k2 k5 k6)
              | (go_at_call 108; refine (CS.out _ BC.out).mono ?_; rintro e w1 ⟨rfl, hb⟩; have hS1 := hb.block S NC.out; replace RC : Hid (w1.rangeAt S 0 (cerC t h)) := Lib.hid (range_keep1 RC.out hS1); replace BC : Hid (Below S w w1) := Lib.hid (BC.out.trans (hb.mono (Nat.le_of_lt NC.out))); replace NC : Hid (S < w1.heap.size) := Lib.hid (Nat.lt_of_lt_of_le NC.out hb.size); clear hb hS1; clear k0 k1 k2 k5 k6; obtain ⟨k0, k1, k2, _, _, k5, k6⟩ := cer_at RC.out HL.out; simp only [Nat.zero_add] at k1 k2 k5 k6)
              | fail)
            go_ret
            exact ⟨rfl, by rw [HS.out]; exact BC.out⟩
theorem par_vals {t : TxP} {h : TxH} (hl : t.par.length = 3) : parC t h = [.int .i64 (cel t.par 0), .int .i64 (cel t.par 1), .int .i64 (cel t.par 2), .slice h.k.A t.keys.length h.k.c] := by
  unfold parC
  match hp : t.par, hl with
  | [a, b, c], _ => unfold vals cel Sl.v; rfl
theorem flat_len8 : ∀ {rs : List (List Int)}, AllR hS rs → rs.flatten.length = 8 * rs.length
  | [], _ => rfl
  | r :: rs, h => by
    rw [List.flatten_cons, List.length_append, okT_len (h r (by simp)), flat_len8 fun q hq => h q (List.mem_cons_of_mem _ hq), List.length_cons]
    show 8 + _ = _
    omega
theorem flat_at8 : ∀ {rs : List (List Int)}, AllR hS rs → ∀ j, j < rs.length → at8 rs.flatten j = rcd rs j
  | [], _, j, hj => by simp at hj
  | r :: rs, h, 0, _ => by
    have h8 : r.length = 8 := okT_len (h r (by simp))
    unfold at8 rcd
    rw [List.flatten_cons, Nat.mul_zero, List.drop_zero, List.take_left' h8]; rfl
  | r :: rs, h, j + 1, hj => by
    have h8 : r.length = 8 := okT_len (h r (by simp))
    have ih := flat_at8 (fun q hq => h q (List.mem_cons_of_mem _ hq)) j (by simpa using hj)
    unfold at8 at ih ⊢
    rw [List.flatten_cons, show 8 * (j + 1) = r.length + 8 * j by omega, List.drop_append]
    rw [List.drop_of_length_le (by omega), List.nil_append, show r.length + 8 * j - r.length = 8 * j by omega, ih]
    rfl
theorem keys_src {w : World} {A : Option Addr} {rs : List (List Int)} (h : LRow hS w A rs) (hl : AllR hS rs) : Src w A (8 * rs.length) rs.flatten := by
  refine ⟨flat_len8 hl, ?_⟩
  rcases h with rfl | ⟨b, o, rfl, h⟩
  · exact .inl (by simp)
  · refine .inr ⟨b, o, rfl, fun i hi => ?_⟩
    have hi2 : i / 8 < rs.length := by
      omega
    have h8 : (rcd rs (i / 8)).length = 8 := lrow_len hl hi2
    have hr := h (i / 8) hi2
    have e8 : hS.length = 8 := rfl
    rw [e8] at hr
    have hv : vals hS (rcd rs (i / 8)) = bvals (rcd rs (i / 8)) := vals_byt 8 _ h8
    rw [hv] at hr
    have hc := hr (i % 8) (.int .u8 ((rcd rs (i / 8)).getD (i % 8) 0)) (by
      have : i % 8 < 8 := Nat.mod_lt _ (by decide)
      simp [bvals, List.getD, show i % 8 < (rcd rs (i / 8)).length by omega])
    rw [show o + i / 8 * 8 + i % 8 = o + i by omega] at hc
    rw [hc]
    have ha := flat_at8 hl (i / 8) hi2
    rw [← ha]
    unfold at8
    congr 2
    simp only [List.getD, List.getElem?_take, List.getElem?_drop]
    rw [if_pos (Nat.mod_lt _ (by decide)), show 8 * (i / 8) + i % 8 = i by omega]
theorem mayP_congr {F G : Nat → List Int} {n : Nat} {a b c : Int} (h : ∀ j, j < n → F j = G j) : mayP F n a b c = mayP G n a b c := by
  have hf : fineP F n ↔ fineP G n := by
    constructor
    · intro hp i hi
      exact ⟨by rw [← h i hi]; exact (hp i hi).1, fun k hk => by rw [← h i hi, ← h k (by omega)]; exact (hp i hi).2 k hk⟩
    · intro hp i hi
      exact ⟨by rw [h i hi]; exact (hp i hi).1, fun k hk => by rw [h i hi, h k (by omega)]; exact (hp i hi).2 k hk⟩
  unfold mayP mayK
  rw [decide_eq_decide.2 hf]
theorem tPar (t : TxP) (h : TxH) (w : World) (ht : WfT t) (hm : Mem w t h) :
    Calls Tryz.prog 74 #[.agg (parC t h).toArray] w fun e w' => e = .returned (.bool (mCre t)) ∧ Below w.heap.size w w' := by
  have := kMay h.k.A t.keys.length h.k.c t.keys.flatten (cel t.par 0) (cel t.par 1) (cel t.par 2) w (keys_src hm.k ht.keys) hm.kc.le hm.kc.mx
  rw [par_vals (okT_len ht.par)]
  rw [show mCre t = mayP (at8 t.keys.flatten) t.keys.length (cel t.par 0) (cel t.par 1) (cel t.par 2) from (mayP_congr fun j hj => flat_at8 ht.keys j hj).symm]
  exact this
attribute [local irreducible] parC cerC claC txC mOuts mIns mFwds mCer mCla mCre
theorem fld_1 {t : TxP} (k : t.kind = 1) : mFld t = (win 1 400 t.height && mOuts t.outs) := by unfold mFld; rw [if_pos k]; rfl
theorem fld_2 {t : TxP} (k : t.kind = 2) : mFld t = mPay t := by unfold mFld; rw [if_neg (by omega), if_pos k]
theorem fld_3 {t : TxP} (k : t.kind = 3) : mFld t = mCre t := by unfold mFld; rw [if_neg (by omega), if_neg (by omega), if_pos k]
theorem fld_4 {t : TxP} (k : t.kind = 4) : mFld t = mCer t.cer t.couts t.csigs := by unfold mFld; rw [if_neg (by omega), if_neg (by omega), if_neg (by omega), if_pos k]
theorem fld_5 {t : TxP} (k : t.kind = 5) : mFld t = mCla t.cla := by unfold mFld; rw [if_neg (by omega), if_neg (by omega), if_neg (by omega), if_neg (by omega), if_pos k]
theorem fld_no {t : TxP} (k1 : t.kind ≠ 1) (k2 : t.kind ≠ 2) (k3 : t.kind ≠ 3) (k4 : t.kind ≠ 4) (k5 : t.kind ≠ 5) : mFld t = false := by unfold mFld; rw [if_neg k1, if_neg k2, if_neg k3, if_neg k4, if_neg k5]
end Go.Proofs.YtffaddefnpkcgaaGreatDoor
namespace Go.Proofs.YtffaddefnpkcgaaGreatDoor
open Go.RowKit
set_option maxRecDepth 100000
attribute [local irreducible] ua da ba kk sw S8.run rt hs comp splice outB sha msg zeros win bvals vals mHave mPlc mLis mPts cel seg parC cerC claC txC mOuts mIns mFwds mCer mCla mCre
set_option maxHeartbeats 8000000 in
theorem tFld1 (t : TxP) (h : TxH) (w : World) (ht : WfT t) (hm : Mem w t h) (hk : t.kind = 1) :
    Calls Tryz.prog 39 #[.agg (txC t h).toArray] w fun e w' => e = .returned (.bool (mFld t)) ∧ Below w.heap.size w w' := by
  rw [fld_1 hk]
  obtain ⟨S, hS⟩ : ∃ S, w.heap.size = S := ⟨_, rfl⟩
  have HS := Lib.hid hS
  have RC : Hid ((w.alloc (Obj.cells (txC t h).toArray 39)).rangeAt S 0 (txC t h)) := by rw [← hS]; exact range_new w _ _
  have BC : Hid (Below S w (w.alloc (Obj.cells (txC t h).toArray 39))) := by rw [← hS]; exact (Below.refl _ w).alloc (Nat.le_refl _) _
  have NC : Hid (S < (w.alloc (Obj.cells (txC t h).toArray 39)).heap.size) := by show S < _; simp; omega
  have TC : Hid (TRng (w.alloc (Obj.cells (txC t h).toArray 39)) S t h) := trng ht RC.out
  have HW := Lib.hid ht
  have CO : Hid (∀ w', Below S w w' → Calls Tryz.prog 71 #[.slice h.o.A t.outs.length h.o.c] w' fun e w'' => e = .returned (.bool (mOuts t.outs)) ∧ Below w'.heap.size w' w'') := fun w' hb => tOuts _ _ _ _ w' (hm.o.keep fun q hq => hb.block q (by rw [← HS.out]; exact hq)) ht.outs rfl hm.oc.le hm.oc.mx
  clear ht hm
  obtain ⟨c1, hc1⟩ : ∃ c, win 1 400 t.height = c := ⟨_, rfl⟩
  obtain ⟨c2, hc2⟩ : ∃ c, mOuts t.outs = c := ⟨_, rfl⟩
  rw [hc1, hc2]
  rw [hc2] at CO
  clear hc2
  cases c1
  · go_enter Tryz.func39, Tryz.ntmps39
    obtain ⟨k0, k1, k2, k3, k4, _, _, _⟩ := TC.out
    rw [hk] at k0
    go_wp2_with (first
      | (go_at_call 54; refine (tWithin _ _ _ _).mono ?_; rintro e w' ⟨rfl, rfl⟩)
      | (go_at_call 71; refine (CO.out _ BC.out).mono ?_; rintro e w1 ⟨rfl, hb⟩; have hS1 := hb.block S NC.out; replace TC : Hid (TRng w1 S t h) := Lib.hid (trng_keep TC.out hS1); replace BC : Hid (Below S w w1) := Lib.hid (BC.out.trans (hb.mono (Nat.le_of_lt NC.out))); replace NC : Hid (S < w1.heap.size) := Lib.hid (Nat.lt_of_lt_of_le NC.out hb.size); clear hb hS1; clear k0 k1 k2 k3 k4; obtain ⟨k0, k1, k2, k3, k4, _, _, _⟩ := TC.out)
      | fail)
    go_ret
    exact ⟨rfl, by rw [HS.out]; exact BC.out⟩
  · cases c2
    · go_enter Tryz.func39, Tryz.ntmps39
      obtain ⟨k0, k1, k2, k3, k4, _, _, _⟩ := TC.out
      rw [hk] at k0
      go_wp2_with (first
        | (go_at_call 54; refine (tWithin _ _ _ _).mono ?_; rintro e w' ⟨rfl, rfl⟩)
        | (go_at_call 71; refine (CO.out _ BC.out).mono ?_; rintro e w1 ⟨rfl, hb⟩; have hS1 := hb.block S NC.out; replace TC : Hid (TRng w1 S t h) := Lib.hid (trng_keep TC.out hS1); replace BC : Hid (Below S w w1) := Lib.hid (BC.out.trans (hb.mono (Nat.le_of_lt NC.out))); replace NC : Hid (S < w1.heap.size) := Lib.hid (Nat.lt_of_lt_of_le NC.out hb.size); clear hb hS1; clear k0 k1 k2 k3 k4; obtain ⟨k0, k1, k2, k3, k4, _, _, _⟩ := TC.out)
        | fail)
      go_ret
      exact ⟨rfl, by rw [HS.out]; exact BC.out⟩
    · go_enter Tryz.func39, Tryz.ntmps39
      obtain ⟨k0, k1, k2, k3, k4, _, _, _⟩ := TC.out
      rw [hk] at k0
      go_wp2_with (first
        | (go_at_call 54; refine (tWithin _ _ _ _).mono ?_; rintro e w' ⟨rfl, rfl⟩)
        | (go_at_call 71; refine (CO.out _ BC.out).mono ?_; rintro e w1 ⟨rfl, hb⟩; have hS1 := hb.block S NC.out; replace TC : Hid (TRng w1 S t h) := Lib.hid (trng_keep TC.out hS1); replace BC : Hid (Below S w w1) := Lib.hid (BC.out.trans (hb.mono (Nat.le_of_lt NC.out))); replace NC : Hid (S < w1.heap.size) := Lib.hid (Nat.lt_of_lt_of_le NC.out hb.size); clear hb hS1; clear k0 k1 k2 k3 k4; obtain ⟨k0, k1, k2, k3, k4, _, _, _⟩ := TC.out)
        | fail)
      go_ret
      exact ⟨rfl, by rw [HS.out]; exact BC.out⟩
set_option maxHeartbeats 8000000 in
theorem tFld2 (t : TxP) (h : TxH) (w : World) (ht : WfT t) (hm : Mem w t h) (hk : t.kind = 2) :
    Calls Tryz.prog 39 #[.agg (txC t h).toArray] w fun e w' => e = .returned (.bool (mFld t)) ∧ Below w.heap.size w w' := by
  rw [fld_2 hk]
  obtain ⟨S, hS⟩ : ∃ S, w.heap.size = S := ⟨_, rfl⟩
  have HS := Lib.hid hS
  have RC : Hid ((w.alloc (Obj.cells (txC t h).toArray 39)).rangeAt S 0 (txC t h)) := by rw [← hS]; exact range_new w _ _
  have BC : Hid (Below S w (w.alloc (Obj.cells (txC t h).toArray 39))) := by rw [← hS]; exact (Below.refl _ w).alloc (Nat.le_refl _) _
  have NC : Hid (S < (w.alloc (Obj.cells (txC t h).toArray 39)).heap.size) := by show S < _; simp; omega
  have TC : Hid (TRng (w.alloc (Obj.cells (txC t h).toArray 39)) S t h) := trng ht RC.out
  have HW := Lib.hid ht
  have CI : Hid (∀ w', Below S w w' → Calls Tryz.prog 72 #[.slice h.i.A t.ins.length h.i.c] w' fun e w'' => e = .returned (.bool (mIns t.ins)) ∧ Below w'.heap.size w' w'') := fun w' hb => tIns _ _ _ _ w' (hm.i.keep fun q hq => hb.block q (by rw [← HS.out]; exact hq)) ht.ins rfl hm.ic.le hm.ic.mx
  have CO : Hid (∀ w', Below S w w' → Calls Tryz.prog 71 #[.slice h.o.A t.outs.length h.o.c] w' fun e w'' => e = .returned (.bool (mOuts t.outs)) ∧ Below w'.heap.size w' w'') := fun w' hb => tOuts _ _ _ _ w' (hm.o.keep fun q hq => hb.block q (by rw [← HS.out]; exact hq)) ht.outs rfl hm.oc.le hm.oc.mx
  have CF : Hid (∀ w', Below S w w' → Calls Tryz.prog 73 #[.slice h.f.A t.fwds.length h.f.c] w' fun e w'' => e = .returned (.bool (mFwds t.fwds)) ∧ Below w'.heap.size w' w'') := fun w' hb => tFwds _ _ _ _ w' (hm.f.keep fun q hq => hb.block q (by rw [← HS.out]; exact hq)) ht.fwds rfl hm.fc.le hm.fc.mx
  have HX : Hid (t.outs.length ≤ 9223372036854775807 ∧ t.fwds.length ≤ 9223372036854775807) := by have a := hm.oc.le; have b := hm.oc.mx; have c := hm.fc.le; have d := hm.fc.mx; unfold maxLen at b d; show _ ∧ _; omega
  have H16 : Hid (mOuts t.outs = true → mFwds t.fwds = true → t.outs.length ≤ 16 ∧ t.fwds.length ≤ 16) := fun h1 h2 => by have a := (lis_all (show mLis 0 16 mOut t.outs = true by unfold mOuts at h1; exact h1)).2.1; have b := (lis_all (show mLis 0 16 mFwd t.fwds = true by unfold mFwds at h2; exact h2)).2.1; omega
  clear ht hm
  obtain ⟨c1, hc1⟩ : ∃ c, mIns t.ins = c := ⟨_, rfl⟩
  obtain ⟨c2, hc2⟩ : ∃ c, mOuts t.outs = c := ⟨_, rfl⟩
  obtain ⟨c3, hc3⟩ : ∃ c, mFwds t.fwds = c := ⟨_, rfl⟩
  unfold mPay
  rw [hc1, hc2, hc3]
  rw [hc1] at CI
  rw [hc2] at CO H16
  rw [hc3] at CF H16
  clear hc1 hc2 hc3
  cases c1
  · try (obtain ⟨b1, b2⟩ := H16.out rfl rfl)
    go_enter Tryz.func39, Tryz.ntmps39
    obtain ⟨k0, k1, k2, k3, k4, _, _, _⟩ := TC.out
    rw [hk] at k0
    go_wp2_with (first
      | (go_at_call 72; refine (CI.out _ BC.out).mono ?_; rintro e w1 ⟨rfl, hb⟩; have hS1 := hb.block S NC.out; replace TC : Hid (TRng w1 S t h) := Lib.hid (trng_keep TC.out hS1); replace BC : Hid (Below S w w1) := Lib.hid (BC.out.trans (hb.mono (Nat.le_of_lt NC.out))); replace NC : Hid (S < w1.heap.size) := Lib.hid (Nat.lt_of_lt_of_le NC.out hb.size); clear hb hS1; clear k0 k1 k2 k3 k4; obtain ⟨k0, k1, k2, k3, k4, _, _, _⟩ := TC.out)
      | (go_at_call 71; refine (CO.out _ BC.out).mono ?_; rintro e w1 ⟨rfl, hb⟩; have hS1 := hb.block S NC.out; replace TC : Hid (TRng w1 S t h) := Lib.hid (trng_keep TC.out hS1); replace BC : Hid (Below S w w1) := Lib.hid (BC.out.trans (hb.mono (Nat.le_of_lt NC.out))); replace NC : Hid (S < w1.heap.size) := Lib.hid (Nat.lt_of_lt_of_le NC.out hb.size); clear hb hS1; clear k0 k1 k2 k3 k4; obtain ⟨k0, k1, k2, k3, k4, _, _, _⟩ := TC.out)
      | (go_at_call 73; refine (CF.out _ BC.out).mono ?_; rintro e w1 ⟨rfl, hb⟩; have hS1 := hb.block S NC.out; replace TC : Hid (TRng w1 S t h) := Lib.hid (trng_keep TC.out hS1); replace BC : Hid (Below S w w1) := Lib.hid (BC.out.trans (hb.mono (Nat.le_of_lt NC.out))); replace NC : Hid (S < w1.heap.size) := Lib.hid (Nat.lt_of_lt_of_le NC.out hb.size); clear hb hS1; clear k0 k1 k2 k3 k4; obtain ⟨k0, k1, k2, k3, k4, _, _, _⟩ := TC.out)
      | fail)
    go_ret
    first | exact ⟨rfl, by rw [HS.out]; exact BC.out⟩ | exact ⟨congrArg (fun b => Ending.returned (Value.bool b)) (by simp only [Bool.true_and]; rw [decide_eq_decide]; omega), by rw [HS.out]; exact BC.out⟩
  · cases c2
    · try (obtain ⟨b1, b2⟩ := H16.out rfl rfl)
      go_enter Tryz.func39, Tryz.ntmps39
      obtain ⟨k0, k1, k2, k3, k4, _, _, _⟩ := TC.out
      rw [hk] at k0
      go_wp2_with (first
        | (go_at_call 72; refine (CI.out _ BC.out).mono ?_; rintro e w1 ⟨rfl, hb⟩; have hS1 := hb.block S NC.out; replace TC : Hid (TRng w1 S t h) := Lib.hid (trng_keep TC.out hS1); replace BC : Hid (Below S w w1) := Lib.hid (BC.out.trans (hb.mono (Nat.le_of_lt NC.out))); replace NC : Hid (S < w1.heap.size) := Lib.hid (Nat.lt_of_lt_of_le NC.out hb.size); clear hb hS1; clear k0 k1 k2 k3 k4; obtain ⟨k0, k1, k2, k3, k4, _, _, _⟩ := TC.out)
        | (go_at_call 71; refine (CO.out _ BC.out).mono ?_; rintro e w1 ⟨rfl, hb⟩; have hS1 := hb.block S NC.out; replace TC : Hid (TRng w1 S t h) := Lib.hid (trng_keep TC.out hS1); replace BC : Hid (Below S w w1) := Lib.hid (BC.out.trans (hb.mono (Nat.le_of_lt NC.out))); replace NC : Hid (S < w1.heap.size) := Lib.hid (Nat.lt_of_lt_of_le NC.out hb.size); clear hb hS1; clear k0 k1 k2 k3 k4; obtain ⟨k0, k1, k2, k3, k4, _, _, _⟩ := TC.out)
        | (go_at_call 73; refine (CF.out _ BC.out).mono ?_; rintro e w1 ⟨rfl, hb⟩; have hS1 := hb.block S NC.out; replace TC : Hid (TRng w1 S t h) := Lib.hid (trng_keep TC.out hS1); replace BC : Hid (Below S w w1) := Lib.hid (BC.out.trans (hb.mono (Nat.le_of_lt NC.out))); replace NC : Hid (S < w1.heap.size) := Lib.hid (Nat.lt_of_lt_of_le NC.out hb.size); clear hb hS1; clear k0 k1 k2 k3 k4; obtain ⟨k0, k1, k2, k3, k4, _, _, _⟩ := TC.out)
        | fail)
      go_ret
      first | exact ⟨rfl, by rw [HS.out]; exact BC.out⟩ | exact ⟨congrArg (fun b => Ending.returned (Value.bool b)) (by simp only [Bool.true_and]; rw [decide_eq_decide]; omega), by rw [HS.out]; exact BC.out⟩
    · cases c3
      · try (obtain ⟨b1, b2⟩ := H16.out rfl rfl)
        go_enter Tryz.func39, Tryz.ntmps39
        obtain ⟨k0, k1, k2, k3, k4, _, _, _⟩ := TC.out
        rw [hk] at k0
        go_wp2_with (first
          | (go_at_call 72; refine (CI.out _ BC.out).mono ?_; rintro e w1 ⟨rfl, hb⟩; have hS1 := hb.block S NC.out; replace TC : Hid (TRng w1 S t h) := Lib.hid (trng_keep TC.out hS1); replace BC : Hid (Below S w w1) := Lib.hid (BC.out.trans (hb.mono (Nat.le_of_lt NC.out))); replace NC : Hid (S < w1.heap.size) := Lib.hid (Nat.lt_of_lt_of_le NC.out hb.size); clear hb hS1; clear k0 k1 k2 k3 k4; obtain ⟨k0, k1, k2, k3, k4, _, _, _⟩ := TC.out)
          | (go_at_call 71; refine (CO.out _ BC.out).mono ?_; rintro e w1 ⟨rfl, hb⟩; have hS1 := hb.block S NC.out; replace TC : Hid (TRng w1 S t h) := Lib.hid (trng_keep TC.out hS1); replace BC : Hid (Below S w w1) := Lib.hid (BC.out.trans (hb.mono (Nat.le_of_lt NC.out))); replace NC : Hid (S < w1.heap.size) := Lib.hid (Nat.lt_of_lt_of_le NC.out hb.size); clear hb hS1; clear k0 k1 k2 k3 k4; obtain ⟨k0, k1, k2, k3, k4, _, _, _⟩ := TC.out)
          | (go_at_call 73; refine (CF.out _ BC.out).mono ?_; rintro e w1 ⟨rfl, hb⟩; have hS1 := hb.block S NC.out; replace TC : Hid (TRng w1 S t h) := Lib.hid (trng_keep TC.out hS1); replace BC : Hid (Below S w w1) := Lib.hid (BC.out.trans (hb.mono (Nat.le_of_lt NC.out))); replace NC : Hid (S < w1.heap.size) := Lib.hid (Nat.lt_of_lt_of_le NC.out hb.size); clear hb hS1; clear k0 k1 k2 k3 k4; obtain ⟨k0, k1, k2, k3, k4, _, _, _⟩ := TC.out)
          | fail)
        go_ret
        first | exact ⟨rfl, by rw [HS.out]; exact BC.out⟩ | exact ⟨congrArg (fun b => Ending.returned (Value.bool b)) (by simp only [Bool.true_and]; rw [decide_eq_decide]; omega), by rw [HS.out]; exact BC.out⟩
      · try (obtain ⟨b1, b2⟩ := H16.out rfl rfl)
        go_enter Tryz.func39, Tryz.ntmps39
        obtain ⟨k0, k1, k2, k3, k4, _, _, _⟩ := TC.out
        rw [hk] at k0
        go_wp2_with (first
          | (go_at_call 72; refine (CI.out _ BC.out).mono ?_; rintro e w1 ⟨rfl, hb⟩; have hS1 := hb.block S NC.out; replace TC : Hid (TRng w1 S t h) := Lib.hid (trng_keep TC.out hS1); replace BC : Hid (Below S w w1) := Lib.hid (BC.out.trans (hb.mono (Nat.le_of_lt NC.out))); replace NC : Hid (S < w1.heap.size) := Lib.hid (Nat.lt_of_lt_of_le NC.out hb.size); clear hb hS1; clear k0 k1 k2 k3 k4; obtain ⟨k0, k1, k2, k3, k4, _, _, _⟩ := TC.out)
          | (go_at_call 71; refine (CO.out _ BC.out).mono ?_; rintro e w1 ⟨rfl, hb⟩; have hS1 := hb.block S NC.out; replace TC : Hid (TRng w1 S t h) := Lib.hid (trng_keep TC.out hS1); replace BC : Hid (Below S w w1) := Lib.hid (BC.out.trans (hb.mono (Nat.le_of_lt NC.out))); replace NC : Hid (S < w1.heap.size) := Lib.hid (Nat.lt_of_lt_of_le NC.out hb.size); clear hb hS1; clear k0 k1 k2 k3 k4; obtain ⟨k0, k1, k2, k3, k4, _, _, _⟩ := TC.out)
          | (go_at_call 73; refine (CF.out _ BC.out).mono ?_; rintro e w1 ⟨rfl, hb⟩; have hS1 := hb.block S NC.out; replace TC : Hid (TRng w1 S t h) := Lib.hid (trng_keep TC.out hS1); replace BC : Hid (Below S w w1) := Lib.hid (BC.out.trans (hb.mono (Nat.le_of_lt NC.out))); replace NC : Hid (S < w1.heap.size) := Lib.hid (Nat.lt_of_lt_of_le NC.out hb.size); clear hb hS1; clear k0 k1 k2 k3 k4; obtain ⟨k0, k1, k2, k3, k4, _, _, _⟩ := TC.out)
          | fail)
        go_ret
        first | exact ⟨rfl, by rw [HS.out]; exact BC.out⟩ | exact ⟨congrArg (fun b => Ending.returned (Value.bool b)) (by simp only [Bool.true_and]; rw [decide_eq_decide]; omega), by rw [HS.out]; exact BC.out⟩
set_option maxHeartbeats 8000000 in
theorem tFld3 (t : TxP) (h : TxH) (w : World) (ht : WfT t) (hm : Mem w t h) (hk : t.kind = 3) :
    Calls Tryz.prog 39 #[.agg (txC t h).toArray] w fun e w' => e = .returned (.bool (mFld t)) ∧ Below w.heap.size w w' := by
  rw [fld_3 hk]
  obtain ⟨S, hS⟩ : ∃ S, w.heap.size = S := ⟨_, rfl⟩
  have HS := Lib.hid hS
  have RC : Hid ((w.alloc (Obj.cells (txC t h).toArray 39)).rangeAt S 0 (txC t h)) := by rw [← hS]; exact range_new w _ _
  have BC : Hid (Below S w (w.alloc (Obj.cells (txC t h).toArray 39))) := by rw [← hS]; exact (Below.refl _ w).alloc (Nat.le_refl _) _
  have NC : Hid (S < (w.alloc (Obj.cells (txC t h).toArray 39)).heap.size) := by show S < _; simp; omega
  have TC : Hid (TRng (w.alloc (Obj.cells (txC t h).toArray 39)) S t h) := trng ht RC.out
  have HW := Lib.hid ht
  have CP : Hid (∀ w', Below S w w' → Calls Tryz.prog 74 #[.agg (parC t h).toArray] w' fun e w'' => e = .returned (.bool (mCre t)) ∧ Below w'.heap.size w' w'') := fun w' hb => tPar t h w' ht (hm.keep fun q hq => hb.block q (by rw [← HS.out]; exact hq))
  have HI := Lib.hid (szL i27 (parC_len h ht))
  clear ht hm
  generalize mCre t = c at *
  go_enter Tryz.func39, Tryz.ntmps39
  obtain ⟨k0, k1, k2, k3, k4, _, _, _⟩ := TC.out
  rw [hk] at k0
  go_wp2_with (first
    | (refine wpList_load_mid rfl 27 (.tmp 42) rfl S 5 rfl (parC t h) _ TC.out.par Tryz.underlying27 rfl HI.out ?_)
    | (go_at_call 74; refine (CP.out _ BC.out).mono ?_; rintro e w1 ⟨rfl, hb⟩; have hS1 := hb.block S NC.out; replace TC : Hid (TRng w1 S t h) := Lib.hid (trng_keep TC.out hS1); replace BC : Hid (Below S w w1) := Lib.hid (BC.out.trans (hb.mono (Nat.le_of_lt NC.out))); replace NC : Hid (S < w1.heap.size) := Lib.hid (Nat.lt_of_lt_of_le NC.out hb.size); clear hb hS1; clear k0 k1 k2 k3 k4; obtain ⟨k0, k1, k2, k3, k4, _, _, _⟩ := TC.out)
    | fail)
  go_ret
  exact ⟨rfl, by rw [HS.out]; exact BC.out⟩
set_option maxHeartbeats 8000000 in
theorem tFld4 (t : TxP) (h : TxH) (w : World) (ht : WfT t) (hm : Mem w t h) (hk : t.kind = 4) :
    Calls Tryz.prog 39 #[.agg (txC t h).toArray] w fun e w' => e = .returned (.bool (mFld t)) ∧ Below w.heap.size w w' := by
  rw [fld_4 hk]
  obtain ⟨S, hS⟩ : ∃ S, w.heap.size = S := ⟨_, rfl⟩
  have HS := Lib.hid hS
  have RC : Hid ((w.alloc (Obj.cells (txC t h).toArray 39)).rangeAt S 0 (txC t h)) := by rw [← hS]; exact range_new w _ _
  have BC : Hid (Below S w (w.alloc (Obj.cells (txC t h).toArray 39))) := by rw [← hS]; exact (Below.refl _ w).alloc (Nat.le_refl _) _
  have NC : Hid (S < (w.alloc (Obj.cells (txC t h).toArray 39)).heap.size) := by show S < _; simp; omega
  have TC : Hid (TRng (w.alloc (Obj.cells (txC t h).toArray 39)) S t h) := trng ht RC.out
  have HW := Lib.hid ht
  have CC : Hid (∀ w', Below S w w' → Calls Tryz.prog 75 #[.agg (cerC t h).toArray] w' fun e w'' => e = .returned (.bool (mCer t.cer t.couts t.csigs)) ∧ Below w'.heap.size w' w'') := fun w' hb => tCer t h w' ht (hm.keep fun q hq => hb.block q (by rw [← HS.out]; exact hq))
  have HI := Lib.hid (szL i32 (cerC_len h ht))
  clear ht hm
  generalize mCer t.cer t.couts t.csigs = c at *
  go_enter Tryz.func39, Tryz.ntmps39
  obtain ⟨k0, k1, k2, k3, k4, _, _, _⟩ := TC.out
  rw [hk] at k0
  go_wp2_with (first
    | (refine wpList_load_mid rfl 32 (.tmp 47) rfl S 9 rfl (cerC t h) _ TC.out.cer Tryz.underlying32 rfl HI.out ?_)
    | (go_at_call 75; refine (CC.out _ BC.out).mono ?_; rintro e w1 ⟨rfl, hb⟩; have hS1 := hb.block S NC.out; replace TC : Hid (TRng w1 S t h) := Lib.hid (trng_keep TC.out hS1); replace BC : Hid (Below S w w1) := Lib.hid (BC.out.trans (hb.mono (Nat.le_of_lt NC.out))); replace NC : Hid (S < w1.heap.size) := Lib.hid (Nat.lt_of_lt_of_le NC.out hb.size); clear hb hS1; clear k0 k1 k2 k3 k4; obtain ⟨k0, k1, k2, k3, k4, _, _, _⟩ := TC.out)
    | fail)
  go_ret
  exact ⟨rfl, by rw [HS.out]; exact BC.out⟩
set_option maxHeartbeats 8000000 in
theorem tFld5 (t : TxP) (h : TxH) (w : World) (ht : WfT t) (_hm : Mem w t h) (hk : t.kind = 5) :
    Calls Tryz.prog 39 #[.agg (txC t h).toArray] w fun e w' => e = .returned (.bool (mFld t)) ∧ Below w.heap.size w w' := by
  rw [fld_5 hk]
  obtain ⟨S, hS⟩ : ∃ S, w.heap.size = S := ⟨_, rfl⟩
  have HS := Lib.hid hS
  have RC : Hid ((w.alloc (Obj.cells (txC t h).toArray 39)).rangeAt S 0 (txC t h)) := by rw [← hS]; exact range_new w _ _
  have BC : Hid (Below S w (w.alloc (Obj.cells (txC t h).toArray 39))) := by rw [← hS]; exact (Below.refl _ w).alloc (Nat.le_refl _) _
  have NC : Hid (S < (w.alloc (Obj.cells (txC t h).toArray 39)).heap.size) := by show S < _; simp; omega
  have TC : Hid (TRng (w.alloc (Obj.cells (txC t h).toArray 39)) S t h) := trng ht RC.out
  have HW := Lib.hid ht
  have CL : Hid (∀ w', Below S w w' → Calls Tryz.prog 76 #[.agg (claC t).toArray] w' fun e w'' => e = .returned (.bool (mCla t.cla)) ∧ Below w'.heap.size w' w'') := fun w' hb => by have h0 := tCla t.cla w' (okT_len ht.cla); unfold claC; exact h0
  have HI := Lib.hid (szL i37 (claC_len ht))
  clear ht
  generalize mCla t.cla = c at *
  go_enter Tryz.func39, Tryz.ntmps39
  obtain ⟨k0, k1, k2, k3, k4, _, _, _⟩ := TC.out
  rw [hk] at k0
  go_wp2_with (first
    | (refine wpList_load_mid rfl 37 (.tmp 52) rfl S 30 rfl (claC t) _ TC.out.cla Tryz.underlying37 rfl HI.out ?_)
    | (go_at_call 76; refine (CL.out _ BC.out).mono ?_; rintro e w1 ⟨rfl, hb⟩; have hS1 := hb.block S NC.out; replace TC : Hid (TRng w1 S t h) := Lib.hid (trng_keep TC.out hS1); replace BC : Hid (Below S w w1) := Lib.hid (BC.out.trans (hb.mono (Nat.le_of_lt NC.out))); replace NC : Hid (S < w1.heap.size) := Lib.hid (Nat.lt_of_lt_of_le NC.out hb.size); clear hb hS1; clear k0 k1 k2 k3 k4; obtain ⟨k0, k1, k2, k3, k4, _, _, _⟩ := TC.out)
    | fail)
  go_ret
  exact ⟨rfl, by rw [HS.out]; exact BC.out⟩
set_option maxHeartbeats 8000000 in
theorem tFld0 (t : TxP) (h : TxH) (w : World) (ht : WfT t) (k1 : t.kind ≠ 1) (k2 : t.kind ≠ 2) (k3 : t.kind ≠ 3) (k4 : t.kind ≠ 4) (k5 : t.kind ≠ 5) :
    Calls Tryz.prog 39 #[.agg (txC t h).toArray] w fun e w' => e = .returned (.bool (mFld t)) ∧ Below w.heap.size w w' := by
  rw [fld_no k1 k2 k3 k4 k5]
  obtain ⟨S, hS⟩ : ∃ S, w.heap.size = S := ⟨_, rfl⟩
  have HS := Lib.hid hS
  have RC : Hid ((w.alloc (Obj.cells (txC t h).toArray 39)).rangeAt S 0 (txC t h)) := by rw [← hS]; exact range_new w _ _
  have BC : Hid (Below S w (w.alloc (Obj.cells (txC t h).toArray 39))) := by rw [← hS]; exact (Below.refl _ w).alloc (Nat.le_refl _) _
  have NC : Hid (S < (w.alloc (Obj.cells (txC t h).toArray 39)).heap.size) := by show S < _; simp; omega
  obtain ⟨q0, _, _, _, _, _, _, _⟩ := trng ht RC.out
  go_enter Tryz.func39, Tryz.ntmps39
  go_wp2
  go_ret
  exact ⟨rfl, by rw [HS.out]; exact BC.out⟩
theorem tFld (t : TxP) (h : TxH) (w : World) (ht : WfT t) (hm : Mem w t h) :
    Calls Tryz.prog 39 #[.agg (txC t h).toArray] w fun e w' => e = .returned (.bool (mFld t)) ∧ Below w.heap.size w w' := by
  by_cases k1 : t.kind = 1
  · exact tFld1 t h w ht hm k1
  by_cases k2 : t.kind = 2
  · exact tFld2 t h w ht hm k2
  by_cases k3 : t.kind = 3
  · exact tFld3 t h w ht hm k3
  by_cases k4 : t.kind = 4
  · exact tFld4 t h w ht hm k4
  by_cases k5 : t.kind = 5
  · exact tFld5 t h w ht hm k5
  exact tFld0 t h w ht k1 k2 k3 k4 k5
end Go.Proofs.YtffaddefnpkcgaaGreatDoor

