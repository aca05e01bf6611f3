/-
  A digest with more behind it.
-/
import Derived.Test.YtffaddefnpkcgaaGreatDoorZP
import Derived.Test.YtffaddefnpkcgaaGreatDoorZS
namespace Go.Proofs.YtffaddefnpkcgaaGreatDoor
open Go.RowKit
set_option maxRecDepth 100000
attribute [local irreducible] ua da ba kk sw S8.run rt hs comp splice outB sha msg zeros win bvals vals parC cerC claC txC cel seg hash1 hash2
set_option maxHeartbeats 4000000 in
theorem tDig1 (p : Int) (t : TxP) (h : TxH) (w : World) (ht : WfT t) (hm : Mem w t h) (hk : Keys w) (hw0 : 0 < w.heap.size) (f1 : Nat) (fA : Option Addr) (fm fc : Nat) (fy : List Int) (hf1 : w.cell? ⟨f1, 0, none⟩ = some (.slice fA fm fc)) (hfs : Src w fA fm fy) (hfl : fm ≤ fc) (hfc : fc ≤ 9223372036854775807) (hfm : fm ≤ 1000) :
    Calls Tryz.prog 38 #[.int .u8 p, .agg (txC t h).toArray, .slice (some ⟨f1, 0, none⟩) 1 1] w fun e w' => e = .returned (.tuple #[.agg (bvals (DigP t (fun x => hash2 p x fy))).toArray, .bool (mayT t)]) ∧ Below w.heap.size w w' := by
  obtain ⟨c1, hc1⟩ : ∃ c, mayT t = c := ⟨_, rfl⟩
  have HC := Lib.hid hc1
  obtain ⟨S, hS⟩ : ∃ S, w.heap.size = S := ⟨_, rfl⟩
  have HS := Lib.hid hS
  have RC : Hid (((w.alloc (Obj.cells (txC t h).toArray 39)).alloc (Obj.cells (bvals (zeros 8)).toArray 29)).rangeAt S 0 (txC t h)) := by rw [← hS]; exact range_keep1 (range_new w _ _) (Below.heap_alloc _ _ _ (by simp))
  have X1 : Hid (BL ((w.alloc (Obj.cells (txC t h).toArray 39)).alloc (Obj.cells (bvals (zeros 8)).toArray 29)) (S + 1) (bvals (zeros 8)) 29) := by
    have := heap_alloc_last (w.alloc (Obj.cells (txC t h).toArray 39)) (Obj.cells (bvals (zeros 8)).toArray 29)
    rw [World.size_alloc, hS] at this
    exact this
  have BC : Hid (Below S w ((w.alloc (Obj.cells (txC t h).toArray 39)).alloc (Obj.cells (bvals (zeros 8)).toArray 29))) := by rw [← hS]; exact ((Below.refl _ w).alloc (Nat.le_refl _) _).alloc (by simp) _
  have SZ : Hid (((w.alloc (Obj.cells (txC t h).toArray 39)).alloc (Obj.cells (bvals (zeros 8)).toArray 29)).heap.size = S + 2) := by show _ = _; rw [World.size_alloc, World.size_alloc, hS]
  have HT := Lib.hid ht
  have HK : Hid (∀ w', Below S w w' → Keys w') := fun w' hb => keys_below hk hb (by omega)
  have MV : Hid (Mem ((w.alloc (Obj.cells (txC t h).toArray 39)).alloc (Obj.cells (bvals (zeros 8)).toArray 29)) t h) := hm.keep fun q hq => BC.out.block q (by rw [← hS]; exact hq)
  have HI : Hid ((Tryz.prog.info? 39).map (·.size) = some (txC t h).length) := szL i39 (txC_len h ht)
  have hz := z29b
  have FLT : f1 < S := by rw [← hS]; exact World.block_lt_of_cell? w ⟨f1, 0, none⟩ hf1
  have HF := Lib.hid hf1
  have HFS := Lib.hid hfs
  have HFL := Lib.hid hfl
  have HFC := Lib.hid hfc
  have HFM := Lib.hid hfm
  clear hc1 hk hw0 hf1 hfs hfl hfc hfm
  clear ht hm
  go_enter Tryz.func38, Tryz.ntmps38
  go_upto_region 1 with (fail)
  generalize ((w.alloc (Obj.cells (txC t h).toArray 39)).alloc (Obj.cells (bvals (zeros 8)).toArray 29)) = v at *
  clear hz hS
  cases c1
  · have CE := Lib.hid (tEncN t h v HT.out MV.out HC.out)
    go_wp2_with (first
      | (refine wpList_load_midG (by rfl) 39 (.tmp 4) rfl S 0 rfl (txC t h) _ RC.out Tryz.underlying39 rfl HI.out ?_)
      | (go_at_call 11; refine CE.out.mono ?_; rintro e w1 ⟨rfl, hb⟩; have X2 : Hid (BL w1 (S + 1) (bvals (zeros 8)) 29) := Lib.hid (bl_keep X1.out (hb.block _ (bl_lt X1.out))); have B2 := Lib.hid (BC.out.trans (hb.mono (by rw [SZ.out]; omega))); clear hb)
      | (refine wpList_bld (by rfl) 29 _ rfl b29b ?_)
      | (refine wpList_store_rowTo rfl 29 (.tmp 6) (.tmp 17) rfl rfl (S + 1) (bvals (zeros 8)).toArray rfl rfl 29 (bvals (zeros 8)).toArray X2.out (szA i29 (bv8s (zeros_len 8))) rfl (all_oneCell_toArray (bv_one _)) ?_)
      | fail)
    refine bodyPost_ret (v := .tuple #[.agg (bvals (zeros 8)).toArray, .bool false]) (results_ch rfl _ _ (S + 1) _ _ rfl (range_of (setRow_heap _ _ _ _ _ _ X2.out)) (szL i29 (bv8s (zeros_len 8))) rfl) rfl ⟨?_, by rw [HS.out]; exact below_setRow B2.out (by omega) _⟩
    unfold DigP
    rw [if_neg (by rw [HC.out]; decide), HC.out]
  · have CE := Lib.hid (tEncY t h v HT.out MV.out HC.out)
    go_upto_region 4 with (first
      | (refine wpList_load_midG (by rfl) 39 (.tmp 4) rfl S 0 rfl (txC t h) _ RC.out Tryz.underlying39 rfl HI.out ?_)
      | (go_at_call 11; refine CE.out.mono ?_; rintro e w1 ⟨⟨A, c, rfl, hr, hl, hn, hx⟩, hb⟩; have HEB := Lib.hid hb; have R1 := Lib.hid hr; have L1 := Lib.hid hl; have N1 := Lib.hid hn; have M1 := Lib.hid hx; clear hb hr hl hn hx)
      | fail)
    have B1 : Hid (Below S w w1) := BC.out.trans (HEB.out.mono (by rw [SZ.out]; omega))
    have S1 : Hid (S + 2 ≤ w1.heap.size) := by show _ ≤ _; rw [← SZ.out]; exact HEB.out.size
    have X2 : Hid (BL w1 (S + 1) (bvals (zeros 8)) 29) := bl_keep X1.out (HEB.out.block _ (bl_lt X1.out))
    have FL : Hid (f1 < S) := FLT
    have F1 : Hid (w1.cell? ⟨f1, 0, none⟩ = some (.slice fA fm fc)) := by show _ = _; rw [← HF.out]; simp only [World.cell?, B1.out.block f1 FL.out]
    have FS : Hid (Src w1 fA fm fy) := HFS.out.keep fun q hq => B1.out.block q (by rw [← HS.out]; exact hq)
    have LE := Lib.hid (enc_le HT.out HC.out)
    have HA1 : Hid (∀ (ad : Addr), some (⟨f1, 0, none⟩ : Addr) = some ad → ∀ j u, ([.slice fA fm fc] : List Value)[j]? = some u → (w1.alloc (Obj.cells #[.slice A (encT t).length c] 42)).cell? (ad.add j) = some u) := by
      intro ad e j u hu
      injection e with e
      subst e
      match j, hu with
      | 0, hu =>
        simp at hu
        rw [← hu, Addr.add_mid]
        rw [← F1.out]
        simp only [World.cell?]
        rw [Below.heap_alloc w1 _ f1 (by have := S1.out; have := FL.out; omega)]
      | j + 1, hu => simp at hu
    have OW1 : Hid ((w1.alloc (Obj.cells #[.slice A (encT t).length c] 42)).ownsRow w1.heap.size 42 1 (.slice (some ⟨w1.heap.size, 0, none⟩) 1 1) 1 [.slice A (encT t).length c]) := ⟨rfl, .inr ⟨w1.heap.size, 1, _, rfl, Nat.le_refl _, heap_alloc_last w1 _, Nat.le_refl _, by unfold maxLen; omega, rfl, rfl⟩⟩
    go_wp2_with (first
      | (refine wpList_aps rfl (.tmp 20) (.tmp 21) rfl w1.heap.size 1 (.slice (some ⟨w1.heap.size, 0, none⟩) 1 1) [.slice A (encT t).length c] rfl OW1.out (some ⟨f1, 0, none⟩) 1 1 [.slice fA fm fc] rfl rfl (fun h => by cases h) HA1.out (fun u hu => by rw [List.mem_singleton.1 hu]; rfl) (by omega) (by simp) ?_; intro A2 c2 w3 hown hg; have OW := Lib.hid hown; have GR := Lib.hid hg; clear hown hg)
      | fail)
    have KB : Hid (∀ q, q < w1.heap.size → w3.heap[q]? = w1.heap[q]?) := fun q hq => (GR.out.block q (by simp; omega) (by intro h; injection h with h; dsimp only at h; omega)).trans (Below.heap_alloc w1 _ q hq)
    have B3' : Hid (Below w1.heap.size w1 w3) := ⟨GR.out.os, GR.out.tape, GR.out.output, by have := GR.out.size; simp at this; omega, KB.out⟩
    have S3 : Hid (Src w3 A (encT t).length (encT t)) := (src_row rfl R1.out).keep fun q hq => KB.out q hq
    have SF : Hid (Src w3 fA fm fy) := FS.out.keep fun q hq => KB.out q hq
    obtain ⟨g, rfl⟩ : ∃ g, A2 = some ⟨g, 0, none⟩ := by
      rcases OW.out.2 with ⟨_, h0⟩ | ⟨g, cap, cur, e, _⟩
      · omega
      · injection e with e1 _ _
        exact ⟨g, e1⟩
    have C0 := OW.out.cellAt 0 (by omega)
    have C1 := OW.out.cellAt 1 (by omega)
    have Z3 : Hid (w1.heap.size ≤ w3.heap.size) := B3'.out.size
    refine (ofTwo p A fA (encT t).length c fm fc c2 g (encT t) fy w3 (HK.out _ (B1.out.trans (B3'.out.mono (by have := S1.out; omega)))) (C0.trans rfl) S3.out L1.out M1.out (by have := LE.out; omega) (C1.trans rfl) SF.out HFL.out HFC.out HFM.out).mono ?_
    rintro e w4 ⟨rfl, hb3⟩
    have X3 : Hid (BL w4 (S + 1) (bvals (zeros 8)) 29) := bl_keep (bl_keep X2.out (KB.out (S + 1) (by have := S1.out; omega))) (hb3.block _ (by have := S1.out; have := Z3.out; omega))
    have B3 : Hid (Below S w w4) := (B1.out.trans (B3'.out.mono (by have := S1.out; omega))).trans (hb3.mono (by have := S1.out; have := Z3.out; omega))
    have H8 := Lib.hid (hash2_len p (encT t) fy)
    clear hb3
    go_wp2_with (first
      | (refine wpList_store_rowTo rfl 29 (.tmp 6) (.tmp 23) rfl rfl (S + 1) (bvals (hash2 p (encT t) fy)).toArray rfl rfl 29 (bvals (zeros 8)).toArray X3.out (szA i29 (bv8s H8.out)) (by rw [List.size_toArray, List.size_toArray, bv8s H8.out, bv8s (zeros_len 8)]) (all_oneCell_toArray (bv_one _)) ?_)
      | fail)
    refine bodyPost_ret (v := .tuple #[.agg (bvals (hash2 p (encT t) fy)).toArray, .bool true]) (results_ch rfl _ _ (S + 1) _ _ rfl (range_of (setRow_heap _ _ _ _ _ _ X3.out)) (szL i29 (bv8s H8.out)) rfl) rfl ⟨?_, by rw [HS.out]; exact below_setRow B3.out (by omega) _⟩
    unfold DigP
    rw [if_pos HC.out, HC.out]
end Go.Proofs.YtffaddefnpkcgaaGreatDoor
namespace Go.Proofs.YtffaddefnpkcgaaGreatDoor
open Go.RowKit
set_option maxRecDepth 100000
def s17 : Sch := hS ++ ([some 1] ++ hS)
theorem in17 : inS = s17 ++ sigS := by kernel_rfl
theorem sgl281 : sigS.length = 281 := by kernel_rfl
theorem s17_len : s17.length = 17 := by kernel_rfl
theorem in298 : inS.length = 298 := by kernel_rfl
def blank (r : List Int) : List Int := r.take 17 ++ zeros 281
def blankT (t : TxP) : TxP := { t with ins := t.ins.map blank }
theorem blank_ok {r : List Int} (h : okT okA inS r) : okT okA inS (blank r) ∧ okT okA s17 (r.take 17) ∧ okT okA sigS (r.drop 17) := by
  rw [in17] at h ⊢
  obtain ⟨h1, h2⟩ := okT_app.1 h
  rw [s17_len] at h1 h2
  have hl : (r.take 17).length = 17 := (okT_len h1).trans s17_len
  refine ⟨okT_app.2 ⟨?_, ?_⟩, h1, h2⟩
  · rw [s17_len, blank, List.take_left' hl]; exact h1
  · rw [s17_len, blank, List.drop_left' hl]; exact ok_zeros sigS
theorem blank_wf {t : TxP} (h : WfT t) : WfT (blankT t) :=
  { h with ins := fun _ hr => ((List.mem_map.1 hr).elim fun q hq => hq.2 ▸ (blank_ok (h.ins q hq.1)).1) }
theorem blank_in {r : List Int} (h : okT okA inS r) (m : mIn r = true) : mIn (blank r) = true ∧ seg (blank r) 0 9 = seg r 0 9 := by
  have hl : r.length = 298 := (okT_len h).trans in298
  have h17 : (r.take 17).length = 17 := by rw [List.length_take]; omega
  have e9 : seg (blank r) 0 9 = seg r 0 9 := by
    unfold seg blank
    rw [List.drop_zero, List.drop_zero, List.take_append_of_le_length (by omega), List.take_take, Nat.min_eq_left (by omega)]
  have e8 : cel (blank r) 8 = cel r 8 := by
    unfold cel blank
    rw [List.getD_eq_getElem?_getD, List.getD_eq_getElem?_getD, List.getElem?_append_left (by omega), List.getElem?_take, if_pos (by omega)]
  have ez : cel (blank r) 17 = 0 := by
    unfold cel blank
    rw [List.getD_eq_getElem?_getD, List.getElem?_append_right (by omega), h17]
    rfl
  refine ⟨?_, e9⟩
  unfold mIn at m ⊢
  rw [e8, ez]
  rw [Bool.and_eq_true] at m ⊢
  exact ⟨m.1, by decide⟩
theorem blank_may {t : TxP} (h : WfT t) (m : mayT t = true) (k : t.kind = 2) : mayT (blankT t) = true := by
  rw [may_zer, Bool.and_eq_true] at m ⊢
  obtain ⟨m1, m2⟩ := m
  constructor
  · unfold zerT zI at m1 ⊢
    rw [show (blankT t).kind = t.kind from rfl, k] at *
    exact m1
  · unfold mFld at m2 ⊢
    rw [show (blankT t).kind = t.kind from rfl]
    rw [if_neg (by omega), if_pos k] at m2 ⊢
    unfold mPay mIns mLis mPts at m2 ⊢
    simp only [Bool.and_eq_true, List.all_eq_true] at m2 ⊢
    obtain ⟨⟨⟨a, b⟩, c⟩, d⟩ := m2
    refine ⟨⟨⟨by rw [show (blankT t).ins.length = t.ins.length from List.length_map _]; exact a, fun r hr => ?_⟩, ?_⟩, d⟩
    · obtain ⟨q, hq, rfl⟩ := List.mem_map.1 hr
      exact (blank_in (h.ins q hq) (b q hq)).1
    · rw [show (blankT t).ins.map (fun r => seg r 0 9) = t.ins.map (fun r => seg r 0 9) from ?_]
      · exact c
      · show (t.ins.map blank).map _ = _
        rw [List.map_map]
        exact List.map_congr_left fun r hr => (blank_in (h.ins r hr) (b r hr)).2
def flat (S : Sch) (rs : List (List Int)) : List Value := rs.flatMap (vals S)
theorem flat_len {S : Sch} : ∀ {rs : List (List Int)}, AllR S rs → (flat S rs).length = rs.length * S.length
  | [], _ => by simp [flat]
  | r :: rs, h => by
    have := flat_len (rs := rs) (fun q hq => h q (by simp [hq]))
    unfold flat at *
    rw [List.flatMap_cons, List.length_append, this, vals_len (okT_len (h r (by simp))), List.length_cons, Nat.succ_mul, Nat.add_comm]
theorem flat_one (S : Sch) (rs : List (List Int)) : ∀ v ∈ flat S rs, v.oneCell' = true := fun v hv => by
  obtain ⟨r, _, hr⟩ := List.mem_flatMap.1 hv
  exact vals_one _ _ v hr
theorem flat_rng {S : Sch} {w : World} {b : Nat} : ∀ {rs : List (List Int)} {o : Nat}, AllR S rs → (∀ j, j < rs.length → w.rangeAt b (o + j * S.length) (vals S (rcd rs j))) → w.rangeAt b o (flat S rs)
  | [], _, _, _ => fun j v hv => by simp [flat] at hv
  | r :: rs, o, ha, h => by
    have h0 := h 0 (by simp)
    rw [Nat.zero_mul, Nat.add_zero] at h0
    refine range_join h0 ?_
    rw [vals_len (okT_len (ha r (by simp)))]
    refine flat_rng (fun q hq => ha q (by simp [hq])) fun j hj => ?_
    have := h (j + 1) (by simpa using hj)
    rwa [Nat.succ_mul, Nat.add_comm (j * S.length), ← Nat.add_assoc] at this
theorem rng_flat {S : Sch} {w : World} {b : Nat} : ∀ {rs : List (List Int)} {o : Nat}, AllR S rs → w.rangeAt b o (flat S rs) → ∀ j, j < rs.length → w.rangeAt b (o + j * S.length) (vals S (rcd rs j))
  | [], _, _, _, _, hj => by simp at hj
  | r :: rs, o, ha, h, j, hj => by
    obtain ⟨h1, h2⟩ := range_app h
    match j, hj with
    | 0, _ => rw [Nat.zero_mul, Nat.add_zero]; exact h1
    | j + 1, hj =>
      have := rng_flat (rs := rs) (fun q hq => ha q (by simp [hq])) h2 j (by simpa using hj)
      rw [vals_len (okT_len (ha r (by simp)))] at this
      rwa [Nat.succ_mul, Nat.add_comm (j * S.length), ← Nat.add_assoc]
def blk (j : Nat) (rs : List (List Int)) : List (List Int) := (rs.take j).map blank ++ rs.drop j
theorem blk_all (rs : List (List Int)) : blk rs.length rs = rs.map blank := by simp [blk]
theorem blk_none (rs : List (List Int)) : blk 0 rs = rs := by simp [blk]
theorem blk_len (j : Nat) (rs : List (List Int)) : (blk j rs).length = rs.length := by simp [blk]; omega
theorem blk_wf {j : Nat} {rs : List (List Int)} (h : AllR inS rs) : AllR inS (blk j rs) := fun r hr => by
  rcases List.mem_append.1 hr with g | g
  · obtain ⟨q, hq, rfl⟩ := List.mem_map.1 g
    exact (blank_ok (h q (List.mem_of_mem_take hq))).1
  · exact h r (List.mem_of_mem_drop g)
def zsig : List Value := vals sigS (zeros 281)
theorem zsgl281 : zsig.length = 281 := by kernel_rfl
theorem blk_step {j : Nat} {rs : List (List Int)} {pad : List Value} (h : AllR inS rs) (hj : j < rs.length) :
    (flat inS (blk j rs) ++ pad).take (j * 298 + 17) ++ (zsig ++ (flat inS (blk j rs) ++ pad).drop (j * 298 + 17 + 281)) = flat inS (blk (j + 1) rs) ++ pad := by
  obtain ⟨r, hr⟩ : ∃ r, rs[j]? = some r := ⟨_, List.getElem?_eq_getElem hj⟩
  have hd : rs.drop j = r :: rs.drop (j + 1) := by
    rw [List.drop_eq_getElem_cons hj]
    rw [List.getElem?_eq_getElem hj] at hr
    injection hr with hr
    rw [hr]
  have ht : rs.take (j + 1) = rs.take j ++ [r] := by
    rw [List.take_add_one, hr]; rfl
  have hw := h r (List.mem_of_getElem? hr)
  obtain ⟨_, b1, b2⟩ := blank_ok hw
  have l0 : (flat inS ((rs.take j).map blank)).length = j * 298 := by
    rw [flat_len (fun q hq => by
      obtain ⟨p, hp, rfl⟩ := List.mem_map.1 hq
      exact (blank_ok (h p (List.mem_of_mem_take hp))).1), List.length_map, List.length_take, in298, Nat.min_eq_left (by omega)]
  have l1 : (vals s17 (r.take 17)).length = 17 := (vals_len (okT_len b1)).trans s17_len
  have l2 : (vals sigS (r.drop 17)).length = 281 := (vals_len (okT_len b2)).trans sgl281
  have hl : r.length = 298 := (okT_len hw).trans in298
  have e1 : vals inS r = vals s17 (r.take 17) ++ vals sigS (r.drop 17) := by
    rw [in17, vals_app (by rw [s17_len]; omega), s17_len]
  have h17 : (r.take 17).length = 17 := by rw [List.length_take]; omega
  have e2 : vals inS (blank r) = vals s17 (r.take 17) ++ zsig := by
    rw [in17, vals_app (by rw [s17_len]; unfold blank; rw [List.length_append]; omega), s17_len]
    unfold blank
    rw [List.take_left' h17, List.drop_left' h17]
    rfl
  have f1 : flat inS (blk j rs) ++ pad = (flat inS ((rs.take j).map blank) ++ vals s17 (r.take 17)) ++ (vals sigS (r.drop 17) ++ (flat inS (rs.drop (j + 1)) ++ pad)) := by
    unfold blk flat
    rw [hd, List.flatMap_append, List.flatMap_cons, e1]
    simp only [List.append_assoc]
  have f2 : flat inS (blk (j + 1) rs) ++ pad = (flat inS ((rs.take j).map blank) ++ vals s17 (r.take 17)) ++ (zsig ++ (flat inS (rs.drop (j + 1)) ++ pad)) := by
    unfold blk flat
    rw [ht, List.map_append, List.flatMap_append, List.flatMap_append, List.map_cons, List.map_nil, List.flatMap_cons, List.flatMap_nil, e2]
    simp only [List.append_assoc, List.append_nil]
  rw [f1, f2]
  exact mid_set (by rw [List.length_append, l0, l1]) l2
end Go.Proofs.YtffaddefnpkcgaaGreatDoor
namespace Go.Proofs.YtffaddefnpkcgaaGreatDoor
open Go.RowKit
set_option maxRecDepth 100000
theorem infoI : (Tryz.prog.info? 63).map (fun i => (i.zero, i.size, i.bytes)) = some (some (.agg (vals inS (zeros 298)).toArray), 298, 312) := by kernel_rfl
theorem run_bsI (w : World) : (Instr.buildSlice 22 0 #[]).run Tryz.prog w = .ok (.slice (some ⟨w.heap.size, 0, none⟩) 0 0) (w.alloc (.cells #[] 63)) := by kernel_rfl
theorem wpList_bsI {ops : Array Oper} {rest : List Oper} {o : Oper} {a : Act} {w : World} {Q : Exit → Act → World → Prop} (hw : Region.wanted o (yielded ops a.tmps) = true) (ho : o.op = .buildSlice 22 0 #[])
    (hK : wpList Tryz.prog ops Q rest (a.put o.dst (.slice (some ⟨w.heap.size, 0, none⟩) 0 0)) (w.alloc (.cells #[] 63))) : wpList Tryz.prog ops Q (o :: rest) a w := by
  unfold wpList
  rw [if_pos hw]
  refine .inl ?_
  have hp : (#[] : Array (Nat × Operand)).map (fun (i, x) => (i, a.eval x)) = #[] := by simp
  unfold Oper.wp execOp
  simp only [ho, hp, Sem.run_bind, run_bsI w, Result.andThen_ok]
  exact hK
theorem wpList_apI {w : World} {ops : Array Oper} {rest : List Oper} {o : Oper} {a : Act} {Q : Exit → Act → World → Prop} (hgd : o.guard = none) (s x : Operand)
    (ho : o.op = .call { callee := .builtin .append, args := #[s, x], argTypes := #[22, 22] })
    (base n : Nat) (v : Value) (xs : List Value) (hv : a.eval s = v) (hown : w.ownsRow base 63 298 v n xs) (b p m c : Nat) (news : List Value) (hx : a.eval x = .slice (some ⟨b, p, none⟩) m c) (hl : news.length = m * 298) (hn : w.rangeAt b p news) (h1 : ∀ u ∈ news, u.oneCell' = true)
    (h63 : n + m ≤ 1000) (hbase : base ≤ w.heap.size)
    (h : ∀ A' c' w', w'.ownsRow base 63 298 (.slice A' (n + m) c') (n + m) (xs ++ news) → w.grownBy w' v.ownBlock → wpList Tryz.prog ops Q rest (a.put o.dst (.slice A' (n + m) c')) w') : wpList Tryz.prog ops Q (o :: rest) a w := by
  refine wpList_plain hgd fun K hK => ?_
  obtain ⟨i0, hi, hz0, hz1, hz2⟩ := info_parts infoI
  obtain ⟨v', w', hr, h2, h3, _, _⟩ := run_append_own_at (P := Tryz.prog) w base 22 o.type 63 i0 _ 298 312 Tryz.underlying22 hi hz0 hz1 hz2 (by kernel_rfl) (by decide) v n xs hown ⟨b, p, none⟩ m c news hl (fun j u hj => by rw [Addr.add_mid]; exact hn j u hj) h1 (by unfold maxLen; omega) (by omega) hbase
  unfold Oper.wp execOp
  simp only [ho, resolve, invoke, builtin, Sem.run_bind, Sem.run_pure, Result.andThen_ok, List.map_toArray, List.map_cons, List.map_nil, hv, hx, hr]
  have hv' : ∃ A' c', v' = .slice A' (n + m) c' := by
    rcases h2.2 with ⟨rfl, e⟩ | ⟨g, cap, cur, rfl, _⟩
    · exact ⟨none, 0, by rw [e]⟩
    · exact ⟨_, _, rfl⟩
  obtain ⟨A', c', rfl⟩ := hv'
  exact hK _ _ (h A' c' w' h2 h3)
structure OwnI (B : Nat) (w : World) (g n c : Nat) (rs : List (List Int)) (pad : List Value) : Prop where
  ge : B ≤ g
  bl : BL w g (flat inS rs ++ pad) 63
  len : rs.length = n
  le : n ≤ c
  mx : c ≤ maxLen
theorem ownI_of {B : Nat} {w : World} {A : Option Addr} {n c : Nat} {rs : List (List Int)} (h : w.ownsRow B 63 298 (.slice A n c) n (flat inS rs)) (hn : 0 < n) (hl : rs.length = n) : ∃ g pad, A = some ⟨g, 0, none⟩ ∧ OwnI B w g n c rs pad := by
  rcases h.2 with ⟨_, h0⟩ | ⟨g, cap, cur, e, h1, h2, h3, h4, _, h6⟩
  · omega
  · injection e with e1 _ e3
    subst e3
    refine ⟨g, cur.toList.drop (n * 298), e1, h1, ?_, hl, h3, h4⟩
    show w.heap[g]? = _
    rw [h2, ← h6, List.take_append_drop]
theorem OwnI.row {B : Nat} {w : World} {g n c : Nat} {rs : List (List Int)} {pad : List Value} (h : OwnI B w g n c rs pad) (ha : AllR inS rs) : LRow inS w (some ⟨g, 0, none⟩) rs :=
  .inr ⟨g, 0, rfl, rng_flat ha (range_app (range_of h.bl)).1⟩
attribute [local irreducible] flat
set_option maxHeartbeats 4000000 in
theorem tClone (b o n c : Nat) (rs : List (List Int)) (w : World) (ha : AllR inS rs) (hr : ∀ j, j < rs.length → w.rangeAt b (o + j * inS.length) (vals inS (rcd rs j))) (hl : rs.length = n) (hn : 0 < n) (hm : n ≤ 1000) :
    Calls Tryz.prog 55 #[.slice (some ⟨b, o, none⟩) n c] w fun e w' => ∃ g c' pad, e = .returned (.slice (some ⟨g, 0, none⟩) n c') ∧ OwnI w.heap.size w' g n c' rs pad ∧ Below w.heap.size w w' := by
  have R0 : Hid (w.rangeAt b o (flat inS rs)) := Lib.hid (flat_rng ha hr)
  have L0 : Hid ((flat inS rs).length = n * 298) := by show _ = _; rw [flat_len ha, hl, in298]
  have R1 : Hid ((w.alloc (.cells #[] 63)).rangeAt b o (flat inS rs)) := range_keep R0.out (Below.heap_alloc w _)
  have OW1 : Hid ((w.alloc (.cells #[] 63)).ownsRow w.heap.size 63 298 (.slice (some ⟨w.heap.size, 0, none⟩) 0 0) 0 []) := ⟨rfl, .inr ⟨w.heap.size, 0, #[], rfl, Nat.le_refl _, heap_alloc_last w _, Nat.le_refl _, by unfold maxLen; omega, rfl, rfl⟩⟩
  have O1 : Hid (∀ v ∈ flat inS rs, v.oneCell' = true) := flat_one _ _
  have HL := Lib.hid hl
  clear ha hr hl
  have hnil : ∀ w : World, (binOp BinOp.eql 22 (.slice (some ⟨b, o, none⟩) n c) (.slice none 0 0)).run Tryz.prog w = .ok (.bool false) w := fun _ => rfl
  go_enter Tryz.func55, Tryz.ntmps55
  go_wp2_with (first
    | (refine wpList_bsI (by rfl) rfl ?_)
    | (refine wpList_apI rfl (.tmp 5) (.tmp 6) rfl w.heap.size 0 (.slice (some ⟨w.heap.size, 0, none⟩) 0 0) [] rfl OW1.out b o n c (flat inS rs) rfl L0.out R1.out O1.out (by omega) (by simp) ?_; intro A2 c2 w2 hown hg; have OW := Lib.hid hown; have GR := Lib.hid hg; clear hown hg)
    | fail)
  have h2 := OW.out
  rw [Nat.zero_add, List.nil_append] at h2
  obtain ⟨g, pad, rfl, h3⟩ := ownI_of h2 hn HL.out
  go_ret
  refine ⟨g, c2, pad, rfl, h3, ⟨GR.out.os, GR.out.tape, GR.out.output, by have := GR.out.size; simp at this; omega, fun q hq => ?_⟩⟩
  exact (GR.out.block q (by simp; omega) (by intro h; injection h with h; dsimp only at h; omega)).trans (Below.heap_alloc w _ q hq)
end Go.Proofs.YtffaddefnpkcgaaGreatDoor
namespace Go.Proofs.YtffaddefnpkcgaaGreatDoor
open Go.RowKit
set_option maxRecDepth 100000
theorem b58 (w : World) : (Instr.build 58 #[]).run Tryz.prog w = .ok (.agg zsig.toArray) w := by kernel_rfl
theorem zsig_one : ∀ v ∈ zsig, v.oneCell' = true := vals_one _ _
def inAt (h : TxH) (g c : Nat) : TxH := { h with i := ⟨some ⟨g, 0, none⟩, c⟩ }
theorem inAt_bl {w : World} {S g n c : Nat} {t : TxP} {h : TxH} (b : BL w S (txC t h) 39) (hn : t.ins.length = n) : BL (w.setCell ⟨S, 2, none⟩ (.slice (some ⟨g, 0, none⟩) n c)) S (txC t (inAt h g c)) 39 := by
  subst hn
  exact bl_set b 2 _
theorem inAt_bk {t : TxP} {h : TxH} : txC (blankT t) h = txC t h := by
  have e : (blankT t).ins.length = t.ins.length := List.length_map _
  unfold txC
  rw [e]
  rfl
theorem inAt_mem {w0 w : World} {t : TxP} {h : TxH} {g c : Nat} {pad : List Value} (m : Mem w0 t h) (ht : WfT t) (hb : ∀ q, q < w0.heap.size → w.heap[q]? = w0.heap[q]?) (hg : BL w g (flat inS (t.ins.map blank) ++ pad) 63) (hle : t.ins.length ≤ c) (hmx : c ≤ maxLen) : Mem w (blankT t) (inAt h g c) := by
  have m2 := m.keep hb
  exact ⟨.inr ⟨g, 0, rfl, rng_flat (blank_wf ht).ins (range_app (range_of hg)).1⟩, m2.o, m2.f, m2.k, m2.co, m2.cs, ⟨by rw [show (blankT t).ins.length = t.ins.length from List.length_map _]; exact hle, hmx, fun h => by cases h⟩, m2.oc, m2.fc, m2.kc, m2.coc, m2.csc⟩
structure LB (w1 : World) (t : TxP) (g : Nat) (pad : List Value) (j : Nat) (w : World) : Prop where
  bel : Below g w1 w
  r : BL w g (flat inS (blk j t.ins) ++ pad) 63
theorem lb_room {t : TxP} {pad : List Value} {j : Nat} (ht : AllR inS t.ins) (hj : j < t.ins.length) : j * 298 + 17 + zsig.length ≤ (flat inS (blk j t.ins) ++ pad).length := by
  rw [zsgl281, List.length_append, flat_len (blk_wf ht), blk_len, in298]
  have : (j + 1) * 298 ≤ t.ins.length * 298 := Nat.mul_le_mul_right _ hj
  omega
theorem LB.next {w1 : World} {t : TxP} {g : Nat} {pad : List Value} {j : Nat} {w : World} (l : LB w1 t g pad j w) (ht : AllR inS t.ins) (hj : j < t.ins.length) : LB w1 t g pad (j + 1) (w.setCells g (j * 298 + 17) zsig) := by
  have hb := bl_sets zsig (j * 298 + 17) l.r (lb_room ht hj)
  rw [zsgl281, blk_step ht hj] at hb
  exact ⟨below_sets zsig _ l.bel (Nat.le_refl _), hb⟩
end Go.Proofs.YtffaddefnpkcgaaGreatDoor

