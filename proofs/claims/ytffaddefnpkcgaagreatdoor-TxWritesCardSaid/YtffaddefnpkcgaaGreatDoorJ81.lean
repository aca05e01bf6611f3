/-
  The document's Digest of one part, of two.
-/
import Derived.Test.YtffaddefnpkcgaaGreatDoorJP
import Derived.Test.YtffaddefnpkcgaaGreatDoorHD
import Derived.Test.YtffaddefnpkcgaaGreatDoorJ79
import Derived.Test.YtffaddefnpkcgaaGreatDoorJR
namespace Go.Proofs.YtffaddefnpkcgaaGreatDoor
open Go.RowKit
set_option maxRecDepth 100000
theorem dOne (p : Int) (A : Option Addr) (n c cap g : Nat) (x : List Int) (w : World) (hc : w.cell? ⟨g, 0, none⟩ = some (.slice A n c)) (hs : Src w A n x) (hle : n ≤ c) (hcm : c ≤ 9223372036854775807) (hl : n ≤ 200000) (hno : A = none → c = 0) :
    Calls Tryz.prog 28 #[.int .u8 p, .slice (some ⟨g, 0, none⟩) 1 cap] w fun e w' => e = .returned (.agg (bvals (hash1 p x)).toArray) ∧ Below w.heap.size w w' := by
  have P := prtsX (w := w) (g := g) (off := 0) [(A, n, c, x)] (fun i s h => by
    match i, h with
    | 0, h => simp at h; rw [← h]; exact ⟨hc, hs, hle, hcm⟩
    | i + 1, h => simp at h)
  have e : msg p (fun i => (([(A, n, c, x)] : List (Option Addr × Nat × Nat × List Int)).getD i (none, 0, 0, [])).2.1) (fun i => (([(A, n, c, x)] : List (Option Addr × Nat × Nat × List Int)).getD i (none, 0, 0, [])).2.2.2) 1 = mg1 p x := by
    show [p] ++ digs n 4 ++ x = _
    unfold mg1
    rw [hs.1]
  have C := c12 sum13 p (some ⟨g, 0, none⟩) 1 cap _ _ _ _ w P (fun i hi ha => by
    obtain rfl : i = 0 := by omega
    exact hno ha) (by rw [e]; unfold mg1; rw [List.length_append, List.length_append, digs_len, hs.1]; simp; omega)
  rw [e] at C
  exact C
theorem dTwo (p : Int) (A B : Option Addr) (n c m d cap g : Nat) (x y : List Int) (w : World) (hc : w.cell? ⟨g, 0, none⟩ = some (.slice A n c)) (hs : Src w A n x) (hle : n ≤ c) (hcm : c ≤ 9223372036854775807) (hl : n ≤ 200000) (hno : A = none → c = 0)
    (hd : w.cell? ⟨g, 1, none⟩ = some (.slice B m d)) (ht : Src w B m y) (hme : m ≤ d) (hdm : d ≤ 9223372036854775807) (hm : m ≤ 1000) (hnb : B = none → d = 0) :
    Calls Tryz.prog 28 #[.int .u8 p, .slice (some ⟨g, 0, none⟩) 2 cap] w fun e w' => e = .returned (.agg (bvals (hash2 p x y)).toArray) ∧ Below w.heap.size w w' := by
  have P := prtsX (w := w) (g := g) (off := 0) [(A, n, c, x), (B, m, d, y)] (fun i s h => by
    match i, h with
    | 0, h => simp at h; rw [← h]; exact ⟨hc, hs, hle, hcm⟩
    | 1, h => simp at h; rw [← h]; exact ⟨hd, ht, hme, hdm⟩
    | i + 2, h => simp at h)
  have e : msg p (fun i => (([(A, n, c, x), (B, m, d, y)] : List (Option Addr × Nat × Nat × List Int)).getD i (none, 0, 0, [])).2.1) (fun i => (([(A, n, c, x), (B, m, d, y)] : List (Option Addr × Nat × Nat × List Int)).getD i (none, 0, 0, [])).2.2.2) 2 = mg2 p x y := by
    show [p] ++ digs n 4 ++ x ++ digs m 4 ++ y = _
    unfold mg2 mg1
    rw [hs.1, ht.1]
  have C := c12 sum13 p (some ⟨g, 0, none⟩) 2 cap _ _ _ _ w P (fun i hi ha => by
    match i, hi with
    | 0, _ => exact hno ha
    | 1, _ => exact hnb ha
    | i + 2, hi => omega) (by rw [e]; unfold mg2 mg1; rw [List.length_append, List.length_append, List.length_append, List.length_append, digs_len, digs_len, hs.1, ht.1]; simp; omega)
  rw [e] at C
  exact C
theorem eqH (d : List Int) (hd : d.length = 8) (w : World) : (Op.equalIn 10000 29 (.agg (bvals d).toArray) (.agg (bvals d).toArray)).run Tryz.prog w = .ok true w := by
  have := eq_ba 29 8 9998 Tryz.underlying29 d d w hd hd
  rw [decide_eq_true rfl] at this
  exact this
theorem neqS (d : List Int) (hd : d.length = 8) (w : World) : (binOp BinOp.neq 29 (.agg (bvals d).toArray) (.agg (bvals d).toArray)).run Tryz.prog w = .ok (.bool false) w := by
  have := eqH d hd w
  simp [binOp, Op.equal, Op.maxDepth, this]
theorem eqlS (d : List Int) (hd : d.length = 8) (w : World) : (binOp BinOp.eql 29 (.agg (bvals d).toArray) (.agg (bvals d).toArray)).run Tryz.prog w = .ok (.bool true) w := by
  have := eqH d hd w
  simp [binOp, Op.equal, Op.maxDepth, this]
end Go.Proofs.YtffaddefnpkcgaaGreatDoor

namespace Go.Proofs.YtffaddefnpkcgaaGreatDoor
open Go.RowKit
set_option maxRecDepth 100000
attribute [local irreducible] ua da ba kk sw S8.run rt hs comp splice outB sha msg zeros win bvals vals parC cerC claC txC cel seg hash1 hash2
set_option maxHeartbeats 4000000 in
theorem dTxID (t : TxP) (h : TxH) (w : World) (ht : WfT t) (hm : Mem w t h) (hf : FewT t) :
    Calls Tryz.prog 14 #[.agg (txC t h).toArray] w fun e w' => e = .returned (.tuple #[.agg (bvals (DigP t (hash1 120))).toArray, .bool (mayT t)]) ∧ Below w.heap.size w w' := by
  obtain ⟨c1, hc1⟩ : ∃ c, mayT t = c := ⟨_, rfl⟩
  have HC := Lib.hid hc1
  obtain ⟨S, hS⟩ : ∃ S, w.heap.size = S := ⟨_, rfl⟩
  have HS := Lib.hid hS
  have RC : Hid (((w.alloc (Obj.cells (txC t h).toArray 39)).alloc (Obj.cells (bvals (zeros 8)).toArray 29)).rangeAt S 0 (txC t h)) := by rw [← hS]; exact range_keep1 (range_new w _ _) (Below.heap_alloc _ _ _ (by simp))
  have X1 : Hid (BL ((w.alloc (Obj.cells (txC t h).toArray 39)).alloc (Obj.cells (bvals (zeros 8)).toArray 29)) (S + 1) (bvals (zeros 8)) 29) := by
    have := heap_alloc_last (w.alloc (Obj.cells (txC t h).toArray 39)) (Obj.cells (bvals (zeros 8)).toArray 29)
    rw [World.size_alloc, hS] at this
    exact this
  have BC : Hid (Below S w ((w.alloc (Obj.cells (txC t h).toArray 39)).alloc (Obj.cells (bvals (zeros 8)).toArray 29))) := by rw [← hS]; exact ((Below.refl _ w).alloc (Nat.le_refl _) _).alloc (by simp) _
  have SZ : Hid (((w.alloc (Obj.cells (txC t h).toArray 39)).alloc (Obj.cells (bvals (zeros 8)).toArray 29)).heap.size = S + 2) := by show _ = _; rw [World.size_alloc, World.size_alloc, hS]
  have HT := Lib.hid ht
  have HF := Lib.hid hf
  have MV : Hid (Mem ((w.alloc (Obj.cells (txC t h).toArray 39)).alloc (Obj.cells (bvals (zeros 8)).toArray 29)) t h) := hm.keep fun q hq => BC.out.block q (by rw [← hS]; exact hq)
  have HI : Hid ((Tryz.prog.info? 39).map (·.size) = some (txC t h).length) := szL i39 (txC_len h ht)
  have hz := z29b
  clear hc1 hf
  clear ht hm
  go_enter Tryz.func14, Tryz.ntmps14
  go_upto_region 1 with (fail)
  generalize ((w.alloc (Obj.cells (txC t h).toArray 39)).alloc (Obj.cells (bvals (zeros 8)).toArray 29)) = v at *
  clear hz hS
  cases c1
  · have CE := Lib.hid (dEncN t h v HT.out MV.out HF.out HC.out)
    go_wp2_with (first
      | (refine wpList_load_midG (by rfl) 39 (.tmp 1) rfl S 0 rfl (txC t h) _ RC.out Tryz.underlying39 rfl HI.out ?_)
      | (go_at_call 12; refine CE.out.mono ?_; rintro e w1 ⟨rfl, hb⟩; have X2 : Hid (BL w1 (S + 1) (bvals (zeros 8)) 29) := Lib.hid (bl_keep X1.out (hb.block _ (bl_lt X1.out))); have B2 := Lib.hid (BC.out.trans (hb.mono (by rw [SZ.out]; omega))); clear hb)
      | (refine wpList_bld (by rfl) 29 _ rfl b29b ?_)
      | (refine wpList_store_rowTo rfl 29 (.tmp 2) (.tmp 13) rfl rfl (S + 1) (bvals (zeros 8)).toArray rfl rfl 29 (bvals (zeros 8)).toArray X2.out (szA i29 (bv8s (zeros_len 8))) rfl (all_oneCell_toArray (bv_one _)) ?_)
      | fail)
    refine bodyPost_ret (v := .tuple #[.agg (bvals (zeros 8)).toArray, .bool false]) (results_ch rfl _ _ (S + 1) _ _ rfl (range_of (setRow_heap _ _ _ _ _ _ X2.out)) (szL i29 (bv8s (zeros_len 8))) rfl) rfl ⟨?_, by rw [HS.out]; exact below_setRow B2.out (by omega) _⟩
    unfold DigP
    rw [if_neg (by rw [HC.out]; decide), HC.out]
  · have CE := Lib.hid (dEncY t h v HT.out MV.out HF.out HC.out)
    go_wp2_with (first
      | (refine wpList_load_midG (by rfl) 39 (.tmp 1) rfl S 0 rfl (txC t h) _ RC.out Tryz.underlying39 rfl HI.out ?_)
      | (go_at_call 12; refine CE.out.mono ?_; rintro e w1 ⟨⟨A, c, rfl, hr, hl, hn, hx⟩, hb⟩; have HEB := Lib.hid hb; have R1 := Lib.hid hr; have L1 := Lib.hid hl; have N1 := Lib.hid hn; have M1 := Lib.hid hx; clear hb hr hl hn hx)
      | fail)
    obtain ⟨B, hB⟩ : ∃ B, w1.heap.size = B := ⟨_, rfl⟩
    have B1 : Hid (Below S w w1) := BC.out.trans (HEB.out.mono (by rw [SZ.out]; omega))
    have S1 : Hid (S + 2 ≤ B) := by show _ ≤ _; rw [← hB, ← SZ.out]; exact HEB.out.size
    have X2 : Hid (BL w1 (S + 1) (bvals (zeros 8)) 29) := bl_keep X1.out (HEB.out.block _ (bl_lt X1.out))
    have B2 : Hid (Below S w (w1.alloc (Obj.cells #[.slice A (encT t).length c] 42))) := B1.out.alloc (by rw [hB]; have := S1.out; omega) _
    have KB : Hid (∀ q, q < B → (w1.alloc (Obj.cells #[.slice A (encT t).length c] 42)).heap[q]? = w1.heap[q]?) := fun q hq => Below.heap_alloc w1 _ q (by rw [hB]; exact hq)
    have C0 : Hid ((w1.alloc (Obj.cells #[.slice A (encT t).length c] 42)).cell? ⟨B, 0, none⟩ = some (.slice A (encT t).length c)) := by rw [← hB]; exact cell_of_one (heap_alloc_last w1 _)
    have S3 : Hid (Src (w1.alloc (Obj.cells #[.slice A (encT t).length c] 42)) A (encT t).length (encT t)) := (src_row rfl R1.out).keep fun q hq => KB.out q (by rw [← hB]; exact hq)
    have Z2 : Hid ((w1.alloc (Obj.cells #[.slice A (encT t).length c] 42)).heap.size = B + 1) := by show _ = _; rw [World.size_alloc, hB]
    have LE := Lib.hid (enc_le HT.out HC.out)
    rw [hB]
    clear hB
    generalize (w1.alloc (Obj.cells #[.slice A (encT t).length c] 42)) = w2 at *
    refine (dOne 120 A (encT t).length c 1 B (encT t) w2 C0.out S3.out L1.out M1.out (by have := LE.out; omega) N1.out).mono ?_
    rintro e w3 ⟨rfl, hb3⟩
    have X3 : Hid (BL w3 (S + 1) (bvals (zeros 8)) 29) := bl_keep (bl_keep X2.out (KB.out (S + 1) (by have := S1.out; omega))) (hb3.block _ (by rw [Z2.out]; have := S1.out; omega))
    have B3 : Hid (Below S w w3) := B2.out.trans (hb3.mono (by rw [Z2.out]; have := S1.out; omega))
    have H8 := Lib.hid (hash1_len 120 (encT t))
    clear hb3
    go_wp2_with (first
      | (refine wpList_store_rowTo rfl 29 (.tmp 2) (.tmp 16) rfl rfl (S + 1) (bvals (hash1 120 (encT t))).toArray rfl rfl 29 (bvals (zeros 8)).toArray X3.out (szA i29 (bv8s H8.out)) (by rw [List.size_toArray, List.size_toArray, bv8s H8.out, bv8s (zeros_len 8)]) (all_oneCell_toArray (bv_one _)) ?_)
      | fail)
    refine bodyPost_ret (v := .tuple #[.agg (bvals (hash1 120 (encT t))).toArray, .bool true]) (results_ch rfl _ _ (S + 1) _ _ rfl (range_of (setRow_heap _ _ _ _ _ _ X3.out)) (szL i29 (bv8s H8.out)) rfl) rfl ⟨?_, by rw [HS.out]; exact below_setRow B3.out (by omega) _⟩
    unfold DigP
    rw [if_pos HC.out, HC.out]
end Go.Proofs.YtffaddefnpkcgaaGreatDoor

namespace Go.Proofs.YtffaddefnpkcgaaGreatDoor
open Go.RowKit
set_option maxRecDepth 100000
structure V6 (S : Nat) (w0 : World) (x : TxP) (h : TxH) (w : World) : Prop where
  bel : Below S w0 w
  x : BL w S (txC x h) 39
  sz : S + 1 ≤ w.heap.size
theorem V6.step {S : Nat} {w0 : World} {x : TxP} {h : TxH} {w w' : World} (v : V6 S w0 x h w) (hb : Below w.heap.size w w') : V6 S w0 x h w' :=
  ⟨v.bel.trans (hb.mono (by have := v.sz; omega)), bl_keep v.x (hb.block S (by have := v.sz; omega)), Nat.le_trans v.sz hb.size⟩
theorem v6_0 (w : World) (x : TxP) (h : TxH) : V6 w.heap.size w x h (w.alloc (Obj.cells (txC x h).toArray 39)) :=
  ⟨(Below.refl _ w).alloc (Nat.le_refl _) _, heap_alloc_last w _, by simp⟩
/-- the bytes that both write -/
def encB (t : TxP) : List Int := if mayT t = true then encT t else []
def errB (t : TxP) : Int := if mayT t = true then 0 else 1
structure C6 (S : Nat) (w0 : World) (x : TxP) (h : TxH) : Prop where
  aw : ∀ w, V6 S w0 x h w → Calls Tryz.prog 9 #[] w fun e w' => e = .returned (.bool true) ∧ Below w.heap.size w w'
  fx : ∀ w, V6 S w0 x h w → Calls Tryz.prog 10 #[.agg (txC x h).toArray] w fun e w' => e = .returned (.bool (fewB x)) ∧ Below w.heap.size w w'
  en : ∀ w, V6 S w0 x h w → Calls Tryz.prog 11 #[.agg (txC x h).toArray] w fun e w' => (∃ A c, e = .returned (.tuple #[.slice A (encB x).length c, .int .i64 (errB x)]) ∧ Row w' A (encB x)) ∧ Below w.heap.size w w'
  ed : fewB x = true → ∀ w, V6 S w0 x h w → Calls Tryz.prog 12 #[.agg (txC x h).toArray] w fun e w' => (∃ A c, e = .returned (.tuple #[.slice A (encB x).length c, .int .i64 (errB x)]) ∧ Row w' A (encB x)) ∧ Below w.heap.size w w'
  it : ∀ w, V6 S w0 x h w → Calls Tryz.prog 13 #[.agg (txC x h).toArray] w fun e w' => e = .returned (.tuple #[.agg (bvals (DigP x (hash1 120))).toArray, .bool (mayT x)]) ∧ Below w.heap.size w w'
  dt : fewB x = true → ∀ w, V6 S w0 x h w → Calls Tryz.prog 14 #[.agg (txC x h).toArray] w fun e w' => e = .returned (.tuple #[.agg (bvals (DigP x (hash1 120))).toArray, .bool (mayT x)]) ∧ Below w.heap.size w w'
  my : ∀ w, V6 S w0 x h w → Calls Tryz.prog 15 #[.agg (txC x h).toArray] w fun e w' => e = .returned (.bool (mayT x)) ∧ Below w.heap.size w w'
  dm : fewB x = true → ∀ w, V6 S w0 x h w → Calls Tryz.prog 16 #[.agg (txC x h).toArray] w fun e w' => e = .returned (.bool (mayT x)) ∧ Below w.heap.size w w'
theorem c6_of (w : World) (x : TxP) (h : TxH) (hx : WfT x) (mx : Mem w x h) (hk : Keys w) : C6 w.heap.size w x h := by
  have h0 := keys_pos hk
  have KX : ∀ w', V6 w.heap.size w x h w' → Mem w' x h := fun w' v => mx.keep fun q hq => v.bel.block q hq
  refine ⟨fun w' v => tAwake w' (keys_below hk v.bel h0) (by have := v.sz; omega), fun w' v => tFew x h w' hx (KX w' v), fun w' v => ?_, fun f w' v => ?_, fun w' v => tID x h w' hx (KX w' v) (keys_below hk v.bel h0) (by have := v.sz; omega), fun f w' v => dTxID x h w' hx (KX w' v) (few_t f), fun w' v => tMay x h w' hx (KX w' v), fun f w' v => dMayTx x h w' hx (KX w' v) (few_t f)⟩
  · cases hc : mayT x
    · refine (tEncN x h w' hx (KX w' v) hc).mono fun e w2 g => ⟨⟨none, 0, ?_, .inl ?_⟩, g.2⟩ <;> simp only [encB, errB, hc, Bool.false_eq_true, if_false]
      exact g.1
    · refine (tEncY x h w' hx (KX w' v) hc).mono fun e w2 g => ⟨?_, g.2⟩
      obtain ⟨A, c, h1, h2, _⟩ := g.1
      refine ⟨A, c, ?_, ?_⟩ <;> simp only [encB, errB, hc, if_true]
      · exact h1
      · exact h2
  · cases hc : mayT x
    · refine (dEncN x h w' hx (KX w' v) (few_t f) hc).mono fun e w2 g => ⟨⟨none, 0, ?_, .inl ?_⟩, g.2⟩ <;> simp only [encB, errB, hc, Bool.false_eq_true, if_false]
      exact g.1
    · refine (dEncY x h w' hx (KX w' v) (few_t f) hc).mono fun e w2 g => ⟨?_, g.2⟩
      obtain ⟨A, c, h1, h2, _⟩ := g.1
      refine ⟨A, c, ?_, ?_⟩ <;> simp only [encB, errB, hc, if_true]
      · exact h1
      · exact h2
attribute [local irreducible] ua da ba kk sw S8.run rt hs comp splice outB sha msg zeros win bvals vals parC cerC claC txC cel seg hash1 hash2 encT mayT strOfNums fewB encB errB DigP
set_option maxHeartbeats 4000000 in
theorem n3_0 (x : TxP) (h : TxH) (w : World) (hx : WfT x) (mx : Mem w x h) (hk : Keys w) (e1 : fewB x = false) :
    Calls Tryz.prog 3 #[.agg (txC x h).toArray] w fun e w' => e = .returned (.bool true) ∧ Below w.heap.size w w' := by
  obtain ⟨S, hS⟩ : ∃ S, w.heap.size = S := ⟨_, rfl⟩
  have HS := Lib.hid hS
  have CC0 := c6_of w x h hx mx hk
  have V0 := v6_0 w x h
  rw [hS] at CC0 V0
  have AW := Lib.hid CC0.aw
  have FX := Lib.hid CC0.fx
  rw [e1] at FX
  have V := Lib.hid V0
  have HI : Hid ((Tryz.prog.info? 39).map (·.size) = some (txC x h).length) := szL i39 (txC_len h hx)
  clear hx mx hk CC0 V0
  go_enter Tryz.func3, Tryz.ntmps3
  go_upto_region 1 with (fail)
  generalize (w.alloc (Obj.cells (txC x h).toArray 39)) = v at *
  clear hS
  go_wp2_with (first
      | (go_at_call 9; refine (AW.out _ V.out).mono ?_; rintro e w' ⟨rfl, hb⟩; have V := Lib.hid (V.out.step hb); clear hb)
      | (refine wpList_load_midG (by rfl) 39 (.tmp 1) rfl S 0 rfl (txC x h) _ (range_of V.out.x) Tryz.underlying39 rfl HI.out ?_)
      | (go_at_call 10; refine (FX.out _ V.out).mono ?_; rintro e w' ⟨rfl, hb⟩; have V := Lib.hid (V.out.step hb); clear hb)
      | fail)
  go_ret
  exact ⟨rfl, by rw [HS.out]; exact V.out.bel⟩
set_option maxHeartbeats 8000000 in
theorem p3 (x : TxP) (h : TxH) (w : World) (hx : WfT x) (mx : Mem w x h) (hk : Keys w) (e1 : fewB x = true) :
    Calls Tryz.prog 3 #[.agg (txC x h).toArray] w fun e w' => e = .returned (.bool true) ∧ Below w.heap.size w w' := by
  obtain ⟨S, hS⟩ : ∃ S, w.heap.size = S := ⟨_, rfl⟩
  have HS := Lib.hid hS
  have CC0 := c6_of w x h hx mx hk
  have V0 := v6_0 w x h
  rw [hS] at CC0 V0
  have AW := Lib.hid CC0.aw
  have FX := Lib.hid CC0.fx
  rw [e1] at FX
  have V := Lib.hid V0
  have HI : Hid ((Tryz.prog.info? 39).map (·.size) = some (txC x h).length) := szL i39 (txC_len h hx)
  have EN := Lib.hid CC0.en
  have ED := Lib.hid (CC0.ed e1)
  have IT := Lib.hid CC0.it
  have DT := Lib.hid (CC0.dt e1)
  have MY := Lib.hid CC0.my
  have DM := Lib.hid (CC0.dm e1)
  have HD : Hid ((DigP x (hash1 120)).length = 8) := digP_len (hash1_len _ _)
  have BE : Hid (Byt (encB x)) := Lib.hid (by
    unfold encB
    split
    · exact byt_enc hx
    · intro z hz; cases hz)
  have HXN : Hid ((txC x h).length = 170) := txC_len h hx
  clear hx mx hk CC0 V0 e1
  generalize DigP x (hash1 120) = d at *
  generalize mayT x = m at *
  generalize errB x = ev at *
  generalize encB x = bs at *
  have SE := Lib.hid (str_eq BE.out BE.out)
  rw [decide_eq_true rfl] at SE
  obtain ⟨n, hn⟩ : ∃ n, bs.length = n := ⟨_, rfl⟩
  rw [hn] at EN ED
  have HN := Lib.hid hn
  clear hn BE
  go_enter Tryz.func3, Tryz.ntmps3
  go_upto_region 1 with (fail)
  generalize (w.alloc (Obj.cells (txC x h).toArray 39)) = v at *
  clear hS
  go_upto_region 5 with (first
      | (go_at_call 9; refine (AW.out _ V.out).mono ?_; rintro e w' ⟨rfl, hb⟩; have V := Lib.hid (V.out.step hb); clear hb)
      | (refine wpList_load_midG (by rfl) 39 (.tmp 1) rfl S 0 rfl (txC x h) _ (range_of V.out.x) Tryz.underlying39 rfl HI.out ?_)
      | (go_at_call 10; refine (FX.out _ V.out).mono ?_; rintro e w' ⟨rfl, hb⟩; have V := Lib.hid (V.out.step hb); clear hb)
      | fail)
  go_upto_region 6 with (first
      | (refine wpList_load_midG (by rfl) 39 (.tmp 1) rfl S 0 rfl (txC x h) _ (range_of V.out.x) Tryz.underlying39 rfl HI.out ?_)
      | (go_at_call 11; refine (EN.out _ V.out).mono ?_; rintro e w1 ⟨⟨A1, c1, rfl, hr⟩, hb⟩; have V := Lib.hid (V.out.step hb); have R1 := Lib.hid hr; clear hr; clear hb)
      | fail)
  go_upto_region 7 with (first
      | (refine wpList_load_midG (by rfl) 39 (.tmp 1) rfl S 0 rfl (txC x h) _ (range_of V.out.x) Tryz.underlying39 rfl HI.out ?_)
      | (go_at_call 12; refine (ED.out _ V.out).mono ?_; rintro e w2 ⟨⟨A2, c2, rfl, hr⟩, hb⟩; have V := Lib.hid (V.out.step hb); replace R1 := Lib.hid (row_keep R1.out hb.block); have R2 := Lib.hid hr; clear hr; clear hb)
      | fail)
  have hz := z29b
  go_upto_region 8 with (first
      | (refine wpList_load_midG (by rfl) 39 (.tmp 1) rfl S 0 rfl (txC x h) _ (range_of V.out.x) Tryz.underlying39 rfl HI.out ?_)
      | (go_at_call 13; refine (IT.out _ V.out).mono ?_; rintro e w3 ⟨rfl, hb⟩; have V := Lib.hid (V.out.step hb); replace R1 := Lib.hid (row_keep R1.out hb.block); replace R2 := Lib.hid (row_keep R2.out hb.block); have XE : Hid (BL (w3.alloc (Obj.cells (bvals (zeros 8)).toArray 29)) w3.heap.size (bvals (zeros 8)) 29) := Lib.hid (heap_alloc_last w3 _); clear hb)
      | (refine wpList_store_rowTo rfl 29 (.tmp 7) (.tmp 29) rfl rfl w3.heap.size (bvals d).toArray rfl rfl 29 (bvals (zeros 8)).toArray XE.out (szA i29 (bv8s HD.out)) (by rw [List.size_toArray, List.size_toArray, bv8s HD.out, bv8s (zeros_len 8)]) (all_oneCell_toArray (bv_one _)) ?_)
      | fail)
  have hb2 : Below w3.heap.size w3 ((w3.alloc (Obj.cells (bvals (zeros 8)).toArray 29)).setRow w3.heap.size (bvals d).toArray) := below_setRow ((Below.refl _ w3).alloc (Nat.le_refl _) (Obj.cells (bvals (zeros 8)).toArray 29)) (Nat.le_refl _) (bvals d).toArray
  have V := Lib.hid (V.out.step hb2)
  replace R1 := Lib.hid (row_keep R1.out hb2.block)
  replace R2 := Lib.hid (row_keep R2.out hb2.block)
  have XD : Hid (BL ((w3.alloc (Obj.cells (bvals (zeros 8)).toArray 29)).setRow w3.heap.size (bvals d).toArray) w3.heap.size (bvals d) 29) := Lib.hid (setRow_heap _ _ _ _ _ _ XE.out)
  clear hz hb2 XE
  generalize w3.heap.size = D at *
  generalize ((w3.alloc (Obj.cells (bvals (zeros 8)).toArray 29)).setRow D (bvals d).toArray) = w4 at *
  have hz := z29b
  go_upto_region 9 with (first
      | (refine wpList_load_midG (by rfl) 39 (.tmp 1) rfl S 0 rfl (txC x h) _ (range_of V.out.x) Tryz.underlying39 rfl HI.out ?_)
      | (go_at_call 14; refine (DT.out _ V.out).mono ?_; rintro e w5 ⟨rfl, hb⟩; have V := Lib.hid (V.out.step hb); replace R1 := Lib.hid (row_keep R1.out hb.block); replace R2 := Lib.hid (row_keep R2.out hb.block); replace XD := Lib.hid (bl_keep XD.out (hb.block D (bl_lt XD.out))); have XE : Hid (BL (w5.alloc (Obj.cells (bvals (zeros 8)).toArray 29)) w5.heap.size (bvals (zeros 8)) 29) := Lib.hid (heap_alloc_last w5 _); clear hb)
      | (refine wpList_store_rowTo rfl 29 (.tmp 9) (.tmp 34) rfl rfl w5.heap.size (bvals d).toArray rfl rfl 29 (bvals (zeros 8)).toArray XE.out (szA i29 (bv8s HD.out)) (by rw [List.size_toArray, List.size_toArray, bv8s HD.out, bv8s (zeros_len 8)]) (all_oneCell_toArray (bv_one _)) ?_)
      | fail)
  have hb2 : Below w5.heap.size w5 ((w5.alloc (Obj.cells (bvals (zeros 8)).toArray 29)).setRow w5.heap.size (bvals d).toArray) := below_setRow ((Below.refl _ w5).alloc (Nat.le_refl _) (Obj.cells (bvals (zeros 8)).toArray 29)) (Nat.le_refl _) (bvals d).toArray
  have V := Lib.hid (V.out.step hb2)
  replace R1 := Lib.hid (row_keep R1.out hb2.block)
  replace R2 := Lib.hid (row_keep R2.out hb2.block)
  replace XD := Lib.hid (bl_keep XD.out (hb2.block D (bl_lt XD.out)))
  have XF : Hid (BL ((w5.alloc (Obj.cells (bvals (zeros 8)).toArray 29)).setRow w5.heap.size (bvals d).toArray) w5.heap.size (bvals d) 29) := Lib.hid (setRow_heap _ _ _ _ _ _ XE.out)
  clear hz hb2 XE
  generalize w5.heap.size = E at *
  generalize ((w5.alloc (Obj.cells (bvals (zeros 8)).toArray 29)).setRow E (bvals d).toArray) = w6 at *
  obtain ⟨N, hN⟩ : ∃ N, w6.heap.size = N := ⟨_, rfl⟩
  have WN := Lib.hid hN
  have DN : Hid (D < N) := by show _ < _; rw [← hN]; exact bl_lt XD.out
  have FN : Hid (E < N) := by show _ < _; rw [← hN]; exact bl_lt XF.out
  have SN : Hid (S + 1 ≤ N) := by show _ ≤ _; rw [← hN]; exact V.out.sz
  have RR : Hid (∀ w' : World, (∀ q, q < N → w'.heap[q]? = w6.heap[q]?) → Row w' A1 bs ∧ Row w' A2 bs) := Lib.hid fun w' hh => ⟨row_keep R1.out fun q hq => hh q (by rw [← WN.out]; exact hq), row_keep R2.out fun q hq => hh q (by rw [← WN.out]; exact hq)⟩
  have heql := fun w => eqlS d HD.out w
  clear hN
  rename_i K9 hK9
  have XX : Hid (Below N w6 w6.drew) := (Below.refl _ _).drew
  refine wp_region_held_drew (S := (fun w' : World => ∀ q, q < N → w'.heap[q]? = w6.heap[q]?)) (by kernel_rfl) (by exact fun _ _ => rfl) (fun hHeld => ?_)
  refine wpAnyH_take (i := 0) rfl (by kernel_rfl) (by kernel_rfl) (by kernel_rfl) (fun _ _ _ h => h) (yieldsIf_load_mid (by rfl) 39 (.tmp 1) rfl (S) (0) rfl (txC x h) _ (fun w h => range_keep1 (range_of V.out.x) (h S (by have := SN.out; omega))) Tryz.underlying39 rfl HI.out) (by assumption) ?_
  simp only [Act.put, List.getElem_toArray, List.getElem_cons_zero, List.setIfInBounds_toArray, List.set_cons_zero, List.set_cons_succ]
  refine wpAnyH_take (i := 2) rfl (by kernel_rfl) (by kernel_rfl) (by kernel_rfl) (fun _ _ _ h => h) (yieldsIf_load_mid (by rfl) 39 (.tmp 1) rfl (S) (0) rfl (txC x h) _ (fun w h => range_keep1 (range_of V.out.x) (h S (by have := SN.out; omega))) Tryz.underlying39 rfl HI.out) (by assumption) ?_
  simp only [Act.put, List.getElem_toArray, List.getElem_cons_succ, List.getElem_cons_zero, List.setIfInBounds_toArray, List.set_cons_zero, List.set_cons_succ]
  refine wpAnyH_ready (rs := [1]) (by kernel_rfl) (by simp) ?_
  refine AllReadyH.cons rfl (fun K hK => ?_) AllReadyH.nil
  go_simp
  go_at_call 15
  refine (MY.out _ (V.out.step (by rw [WN.out]; exact XX.out))).mono ?_
  rintro e w7 ⟨rfl, hba⟩
  have XN : Hid (Below N w6 w7) := XX.out.trans (hba.mono (by have := XX.out.size; have := WN.out; omega))
  clear XX hba hHeld
  have XX := XN
  clear XN
  (try go_wp2_with fail)
  refine hK.out _ _ (by exact fun q hq => XX.out.block q hq) (fun hHeld => ?_)
  clear hK K
  refine wpAnyH_ready (rs := [3]) (by kernel_rfl) (by simp) ?_
  refine AllReadyH.cons rfl (fun K hK => ?_) AllReadyH.nil
  go_simp
  go_at_call 16
  refine (DM.out _ (V.out.step (by rw [WN.out]; exact XX.out))).mono ?_
  rintro e w8 ⟨rfl, hba⟩
  have XN : Hid (Below N w6 w8) := XX.out.trans (hba.mono (by have := XX.out.size; have := WN.out; omega))
  clear XX hba hHeld
  have XX := XN
  clear XN
  (try go_wp2_with fail)
  refine hK.out _ _ (by exact fun q hq => XX.out.block q hq) (fun hHeld => ?_)
  clear hK K
  refine wpAnyH_take (i := 4) (v := ?_) rfl (by kernel_rfl) (by kernel_rfl) (by kernel_rfl) (fun _ _ _ h => h) (Or.inl ⟨by rfl, ?_⟩) (by assumption) ?_
  rotate_left
  · (intro w hSw; (try dsimp only at hSw); go_simp; try with_reducible rfl)
  simp only [Act.put, List.getElem_toArray, List.getElem_cons_succ, List.getElem_cons_zero, List.setIfInBounds_toArray, List.set_cons_zero, List.set_cons_succ]
  refine wpAnyH_take (i := 5) (v := ?_) rfl (by kernel_rfl) (by kernel_rfl) (by kernel_rfl) (fun _ _ _ h => h) (Or.inl ⟨by rfl, ?_⟩) (by assumption) ?_
  rotate_left
  · (intro w hSw; (try dsimp only at hSw); go_simp; try with_reducible rfl)
  simp only [Act.put, List.getElem_toArray, List.getElem_cons_succ, List.getElem_cons_zero, List.setIfInBounds_toArray, List.set_cons_zero, List.set_cons_succ]
  refine wpAnyH_take (i := 6) (v := ?_) rfl (by kernel_rfl) (by kernel_rfl) (by kernel_rfl) (fun _ _ _ h => h) (Or.inl ⟨by rfl, ?_⟩) (by assumption) ?_
  rotate_left
  · (intro w hSw; (try dsimp only at hSw); go_simp; try with_reducible rfl)
  simp only [Act.put, List.getElem_toArray, List.getElem_cons_succ, List.getElem_cons_zero, List.setIfInBounds_toArray, List.set_cons_zero, List.set_cons_succ]
  refine wpAnyH_take (i := 7) (v := ?_) rfl (by kernel_rfl) (by kernel_rfl) (by kernel_rfl) (fun _ _ _ h => h) (Or.inl ⟨by rfl, ?_⟩) (by assumption) ?_
  rotate_left
  · (intro w hSw; (try dsimp only at hSw); go_simp; try with_reducible rfl)
  simp only [Act.put, List.getElem_toArray, List.getElem_cons_succ, List.getElem_cons_zero, List.setIfInBounds_toArray, List.set_cons_zero, List.set_cons_succ]
  refine wpAnyH_take (i := 8) (v := ?_) rfl (by kernel_rfl) (by kernel_rfl) (by kernel_rfl) (fun _ _ _ h => h) (Or.inl ⟨by rfl, ?_⟩) (by assumption) ?_
  rotate_left
  · (intro w hSw; (try dsimp only at hSw); go_simp; try with_reducible rfl)
  simp only [Act.put, List.getElem_toArray, List.getElem_cons_succ, List.getElem_cons_zero, List.setIfInBounds_toArray, List.set_cons_zero, List.set_cons_succ]
  refine wpAnyH_take (i := 9) (v := ?_) rfl (by kernel_rfl) (by kernel_rfl) (by kernel_rfl) (fun _ _ _ h => h) (Or.inl ⟨by rfl, ?_⟩) (by assumption) ?_
  rotate_left
  · (intro w hSw; (try dsimp only at hSw); go_simp; try with_reducible rfl)
  simp only [Act.put, List.getElem_toArray, List.getElem_cons_succ, List.getElem_cons_zero, List.setIfInBounds_toArray, List.set_cons_zero, List.set_cons_succ]
  refine wpAnyH_take (i := 10) (v := ?_) rfl (by kernel_rfl) (by kernel_rfl) (by kernel_rfl) (fun _ _ _ h => h) (Or.inl ⟨by rfl, ?_⟩) (by assumption) ?_
  rotate_left
  · (intro w hSw; (try dsimp only at hSw); go_simp; try with_reducible rfl)
  simp only [Act.put, List.getElem_toArray, List.getElem_cons_succ, List.getElem_cons_zero, List.setIfInBounds_toArray, List.set_cons_zero, List.set_cons_succ]
  refine wpAnyH_take (i := 11) (v := ?_) rfl (by kernel_rfl) (by kernel_rfl) (by kernel_rfl) (fun _ _ _ h => h) (Or.inl ⟨by rfl, ?_⟩) (by assumption) ?_
  rotate_left
  · (intro w hSw; (try dsimp only at hSw); go_simp; try with_reducible rfl)
  simp only [Act.put, List.getElem_toArray, List.getElem_cons_succ, List.getElem_cons_zero, List.setIfInBounds_toArray, List.set_cons_zero, List.set_cons_succ]
  refine wpAnyH_take (i := 12) (v := ?_) rfl (by kernel_rfl) (by kernel_rfl) (by kernel_rfl) (fun _ _ _ h => h) (Or.inl ⟨by rfl, ?_⟩) (by assumption) ?_
  rotate_left
  · (intro w hSw; (try dsimp only at hSw); have q1 := conv (w := w) c1 HN.out (RR.out w hSw).1; go_simp; try with_reducible rfl)
  simp only [Act.put, List.getElem_toArray, List.getElem_cons_succ, List.getElem_cons_zero, List.setIfInBounds_toArray, List.set_cons_zero, List.set_cons_succ]
  refine wpAnyH_take (i := 13) (v := ?_) rfl (by kernel_rfl) (by kernel_rfl) (by kernel_rfl) (fun _ _ _ h => h) (Or.inl ⟨by rfl, ?_⟩) (by assumption) ?_
  rotate_left
  · (intro w hSw; (try dsimp only at hSw); go_simp; try with_reducible rfl)
  simp only [Act.put, List.getElem_toArray, List.getElem_cons_succ, List.getElem_cons_zero, List.setIfInBounds_toArray, List.set_cons_zero, List.set_cons_succ]
  refine wpAnyH_take (i := 14) (v := ?_) rfl (by kernel_rfl) (by kernel_rfl) (by kernel_rfl) (fun _ _ _ h => h) (Or.inl ⟨by rfl, ?_⟩) (by assumption) ?_
  rotate_left
  · (intro w hSw; (try dsimp only at hSw); have q1 := conv (w := w) c2 HN.out (RR.out w hSw).2; go_simp; try with_reducible rfl)
  simp only [Act.put, List.getElem_toArray, List.getElem_cons_succ, List.getElem_cons_zero, List.setIfInBounds_toArray, List.set_cons_zero, List.set_cons_succ]
  refine wpAnyH_take (i := 15) (v := ?_) rfl (by kernel_rfl) (by kernel_rfl) (by kernel_rfl) (fun _ _ _ h => h) (Or.inl ⟨by rfl, ?_⟩) (by assumption) ?_
  rotate_left
  · (intro w hSw; (try dsimp only at hSw); have q1 := SE.out; go_simp; try with_reducible rfl)
  simp only [Act.put, List.getElem_toArray, List.getElem_cons_succ, List.getElem_cons_zero, List.setIfInBounds_toArray, List.set_cons_zero, List.set_cons_succ]
  refine wpAnyH_take (i := 16) (v := ?_) rfl (by kernel_rfl) (by kernel_rfl) (by kernel_rfl) (fun _ _ _ h => h) (Or.inl ⟨by rfl, ?_⟩) (by assumption) ?_
  rotate_left
  · (intro w hSw; (try dsimp only at hSw); go_simp; try with_reducible rfl)
  simp only [Act.put, List.getElem_toArray, List.getElem_cons_succ, List.getElem_cons_zero, List.setIfInBounds_toArray, List.set_cons_zero, List.set_cons_succ]
  refine wpAnyH_take (i := 17) (v := ?_) rfl (by kernel_rfl) (by kernel_rfl) (by kernel_rfl) (fun _ _ _ h => h) (Or.inl ⟨by rfl, ?_⟩) (by assumption) ?_
  rotate_left
  · (intro w hSw; (try dsimp only at hSw); go_simp; try with_reducible rfl)
  simp only [Act.put, List.getElem_toArray, List.getElem_cons_succ, List.getElem_cons_zero, List.setIfInBounds_toArray, List.set_cons_zero, List.set_cons_succ]
  refine wpAnyH_take (i := 18) rfl (by kernel_rfl) (by kernel_rfl) (by kernel_rfl) (fun _ _ _ h => h) (yieldsIf_load_mid (by rfl) 29 (.tmp 7) rfl (D) (0) rfl (bvals d) _ (fun w h => range_keep1 (range_of XD.out) (h D DN.out)) Tryz.underlying29 rfl (szL i29 (bv8s HD.out))) (by assumption) ?_
  simp only [Act.put, List.getElem_toArray, List.getElem_cons_succ, List.getElem_cons_zero, List.setIfInBounds_toArray, List.set_cons_zero, List.set_cons_succ]
  refine wpAnyH_take (i := 19) rfl (by kernel_rfl) (by kernel_rfl) (by kernel_rfl) (fun _ _ _ h => h) (yieldsIf_load_mid (by rfl) 29 (.tmp 9) rfl (E) (0) rfl (bvals d) _ (fun w h => range_keep1 (range_of XF.out) (h E FN.out)) Tryz.underlying29 rfl (szL i29 (bv8s HD.out))) (by assumption) ?_
  simp only [Act.put, List.getElem_toArray, List.getElem_cons_succ, List.getElem_cons_zero, List.setIfInBounds_toArray, List.set_cons_zero, List.set_cons_succ]
  refine wpAnyH_take (i := 20) (v := ?_) rfl (by kernel_rfl) (by kernel_rfl) (by kernel_rfl) (fun _ _ _ h => h) (Or.inl ⟨by rfl, ?_⟩) (by assumption) ?_
  rotate_left
  · (intro w hSw; (try dsimp only at hSw); go_simp; try with_reducible rfl)
  simp only [Act.put, List.getElem_toArray, List.getElem_cons_succ, List.getElem_cons_zero, List.setIfInBounds_toArray, List.set_cons_zero, List.set_cons_succ]
  refine wpAnyH_take (i := 21) (v := ?_) rfl (by kernel_rfl) (by kernel_rfl) (by kernel_rfl) (fun _ _ _ h => h) (Or.inl ⟨by rfl, ?_⟩) (by assumption) ?_
  rotate_left
  · (intro w hSw; (try dsimp only at hSw); go_simp; try with_reducible rfl)
  simp only [Act.put, List.getElem_toArray, List.getElem_cons_succ, List.getElem_cons_zero, List.setIfInBounds_toArray, List.set_cons_zero, List.set_cons_succ]
  refine wpAnyH_take (i := 22) (v := ?_) rfl (by kernel_rfl) (by kernel_rfl) (by kernel_rfl) (fun _ _ _ h => h) (Or.inl ⟨by rfl, ?_⟩) (by assumption) ?_
  rotate_left
  · (intro w hSw; (try dsimp only at hSw); go_simp; try with_reducible rfl)
  simp only [Act.put, List.getElem_toArray, List.getElem_cons_succ, List.getElem_cons_zero, List.setIfInBounds_toArray, List.set_cons_zero, List.set_cons_succ]
  refine wpAnyH_take (i := 23) (v := ?_) rfl (by kernel_rfl) (by kernel_rfl) (by kernel_rfl) (fun _ _ _ h => h) (Or.inl ⟨by rfl, ?_⟩) (by assumption) ?_
  rotate_left
  · (intro w hSw; (try dsimp only at hSw); go_simp; try with_reducible rfl)
  simp only [Act.put, List.getElem_toArray, List.getElem_cons_succ, List.getElem_cons_zero, List.setIfInBounds_toArray, List.set_cons_zero, List.set_cons_succ]
  refine wpAnyH_take (i := 24) (v := ?_) rfl (by kernel_rfl) (by kernel_rfl) (by kernel_rfl) (fun _ _ _ h => h) (Or.inl ⟨by rfl, ?_⟩) (by assumption) ?_
  rotate_left
  · (intro w hSw; (try dsimp only at hSw); go_simp; try with_reducible rfl)
  simp only [Act.put, List.getElem_toArray, List.getElem_cons_succ, List.getElem_cons_zero, List.setIfInBounds_toArray, List.set_cons_zero, List.set_cons_succ]
  refine wpAnyH_take (i := 25) (v := ?_) rfl (by kernel_rfl) (by kernel_rfl) (by kernel_rfl) (fun _ _ _ h => h) (Or.inl ⟨by rfl, ?_⟩) (by assumption) ?_
  rotate_left
  · (intro w hSw; (try dsimp only at hSw); go_simp; try with_reducible rfl)
  simp only [Act.put, List.getElem_toArray, List.getElem_cons_succ, List.getElem_cons_zero, List.setIfInBounds_toArray, List.set_cons_zero, List.set_cons_succ]
  refine wpAnyH_take (i := 26) (v := ?_) rfl (by kernel_rfl) (by kernel_rfl) (by kernel_rfl) (fun _ _ _ h => h) (Or.inl ⟨by rfl, ?_⟩) (by assumption) ?_
  rotate_left
  · (intro w hSw; (try dsimp only at hSw); go_simp; try with_reducible rfl)
  simp only [Act.put, List.getElem_toArray, List.getElem_cons_succ, List.getElem_cons_zero, List.setIfInBounds_toArray, List.set_cons_zero, List.set_cons_succ]
  refine wpAnyH_take (i := 27) (v := ?_) rfl (by kernel_rfl) (by kernel_rfl) (by kernel_rfl) (fun _ _ _ h => h) (Or.inl ⟨by rfl, ?_⟩) (by assumption) ?_
  rotate_left
  · (intro w hSw; (try dsimp only at hSw); go_simp; try with_reducible rfl)
  simp only [Act.put, List.getElem_toArray, List.getElem_cons_succ, List.getElem_cons_zero, List.setIfInBounds_toArray, List.set_cons_zero, List.set_cons_succ]
  refine wpAnyH_done (by kernel_rfl) ?_ _
  show K9 _ _
  refine hK9 _ _ ?_
  clear hK9 K9 hHeld
  go_wp2
  go_ret
  exact ⟨rfl, by rw [HS.out]; exact (V.out.step (by rw [WN.out]; exact XX.out)).bel⟩
theorem q3 (x : TxP) (h : TxH) (w : World) (hx : WfT x) (mx : Mem w x h) (hk : Keys w) :
    Calls Tryz.prog 3 #[.agg (txC x h).toArray] w fun e w' => e = .returned (.bool true) ∧ Below w.heap.size w w' := by
  cases e1 : fewB x
  · exact n3_0 x h w hx mx hk e1
  · exact p3 x h w hx mx hk e1
end Go.Proofs.YtffaddefnpkcgaaGreatDoor
