/-
  tx.Decode, whatever the bytes; digests of three parts.
-/
import Derived.Test.YtffaddefnpkcgaaGreatDoorZO
import Derived.Test.YtffaddefnpkcgaaGreatDoorZ81
import Derived.Test.YtffaddefnpkcgaaGreatDoorZY
import Derived.Test.YtffaddefnpkcgaaGreatDoorZ70
import Derived.Great.BuildSlice
import Derived.Test.YtffaddefnpkcgaaGreatDoorZW
namespace Go.Proofs.YtffaddefnpkcgaaGreatDoor
open Go.RowKit
set_option maxRecDepth 100000
def mg3 (p : Int) (x y z : List Int) : List Int := mg2 p x y ++ digs z.length 4 ++ z
def hash3 (p : Int) (x y z : List Int) : List Int := (sha (mg3 p x y z)).take 8
theorem hash3_len (p : Int) (x y z : List Int) : (hash3 p x y z).length = 8 := by rw [hash3, List.length_take, sha_len]; rfl
structure Pts3 (w : World) (g : Nat) (A B C : Option Addr) (n c m d k e : Nat) (x y z : List Int) : Prop where
  c0 : w.cell? ⟨g, 0, none⟩ = some (.slice A n c)
  c1 : w.cell? ⟨g, 1, none⟩ = some (.slice B m d)
  c2 : w.cell? ⟨g, 2, none⟩ = some (.slice C k e)
  s0 : Src w A n x
  s1 : Src w B m y
  s2 : Src w C k z
  l0 : n ≤ c ∧ c ≤ 9223372036854775807
  l1 : m ≤ d ∧ d ≤ 9223372036854775807
  l2 : k ≤ e ∧ e ≤ 9223372036854775807
  m0 : n ≤ 1000
  m1 : m ≤ 1000
  m2 : k ≤ 1000
theorem pts3 {w : World} {g : Nat} {A B C : Option Addr} {n c m d k e : Nat} {x y z : List Int} (q : Pts3 w g A B C n c m d k e x y z) :
    Prts w (some ⟨g, 0, none⟩) 3 (fun i => (([(A, n, c, x), (B, m, d, y), (C, k, e, z)] : List (Option Addr × Nat × Nat × List Int)).getD i (none, 0, 0, [])).1) (fun i => (([(A, n, c, x), (B, m, d, y), (C, k, e, z)] : List (Option Addr × Nat × Nat × List Int)).getD i (none, 0, 0, [])).2.1) (fun i => (([(A, n, c, x), (B, m, d, y), (C, k, e, z)] : List (Option Addr × Nat × Nat × List Int)).getD i (none, 0, 0, [])).2.2.1) (fun i => (([(A, n, c, x), (B, m, d, y), (C, k, e, z)] : List (Option Addr × Nat × Nat × List Int)).getD i (none, 0, 0, [])).2.2.2) ∧
    ∀ p, msg p (fun i => (([(A, n, c, x), (B, m, d, y), (C, k, e, z)] : List (Option Addr × Nat × Nat × List Int)).getD i (none, 0, 0, [])).2.1) (fun i => (([(A, n, c, x), (B, m, d, y), (C, k, e, z)] : List (Option Addr × Nat × Nat × List Int)).getD i (none, 0, 0, [])).2.2.2) 3 = mg3 p x y z ∧ (mg3 p x y z).length ≤ 400000 := by
  refine ⟨prtsX (w := w) (g := g) (off := 0) [(A, n, c, x), (B, m, d, y), (C, k, e, z)] (fun i s h => by
    match i, h with
    | 0, h => simp at h; rw [← h]; exact ⟨q.c0, q.s0, q.l0⟩
    | 1, h => simp at h; rw [← h]; exact ⟨q.c1, q.s1, q.l1⟩
    | 2, h => simp at h; rw [← h]; exact ⟨q.c2, q.s2, q.l2⟩
    | i + 3, h => simp at h), fun p => ⟨?_, ?_⟩⟩
  · show [p] ++ digs n 4 ++ x ++ digs m 4 ++ y ++ digs k 4 ++ z = _
    unfold mg3 mg2 mg1
    rw [q.s0.1, q.s1.1, q.s2.1]
  · have a := q.m0
    have b := q.m1
    have f := q.m2
    unfold mg3 mg2 mg1
    simp only [List.length_append, digs_len, q.s0.1, q.s1.1, q.s2.1, List.length_singleton]
    omega
theorem ofThree (p : Int) (A B C : Option Addr) (n c m d k e cap g : Nat) (x y z : List Int) (w : World) (hk : Keys w) (q : Pts3 w g A B C n c m d k e x y z) :
    Calls Tryz.prog 56 #[.int .u8 p, .slice (some ⟨g, 0, none⟩) 3 cap] w fun e w' => e = .returned (.agg (bvals (hash3 p x y z)).toArray) ∧ Below w.heap.size w w' := by
  obtain ⟨P, E⟩ := pts3 q
  have K := c10 p (some ⟨g, 0, none⟩) 3 cap _ _ _ _ w hk P (by rw [(E p).1]; exact (E p).2)
  rw [(E p).1] at K
  exact K
theorem dThree (p : Int) (A B C : Option Addr) (n c m d k e cap g : Nat) (x y z : List Int) (w : World) (q : Pts3 w g A B C n c m d k e x y z) (ha : A = none → c = 0) (hb : B = none → d = 0) (hc : C = none → e = 0) :
    Calls Tryz.prog 28 #[.int .u8 p, .slice (some ⟨g, 0, none⟩) 3 cap] w fun e w' => e = .returned (.agg (bvals (hash3 p x y z)).toArray) ∧ Below w.heap.size w w' := by
  obtain ⟨P, E⟩ := pts3 q
  have K := c12 sum13 p (some ⟨g, 0, none⟩) 3 cap _ _ _ _ w P (fun i hi h => by
    match i, hi with
    | 0, _ => exact ha h
    | 1, _ => exact hb h
    | 2, _ => exact hc h
    | i + 3, hi => omega) (by rw [(E p).1]; exact (E p).2)
  rw [(E p).1] at K
  exact K
end Go.Proofs.YtffaddefnpkcgaaGreatDoor
namespace Go.Proofs.YtffaddefnpkcgaaGreatDoor
open Go.RowKit
set_option maxRecDepth 100000
def certT (t : TxP) : TxP := { tx0 with kind := 4, cer := t.cer, couts := t.couts, csigs := [zeros 282] }
def certH (h : TxH) (g : Nat) : TxH := { hd0 with co := h.co, cs := ⟨some ⟨g, 0, none⟩, 1⟩ }
def cHead : List Value := [.int .i64 4, .int .i64 0, .slice none 0 0, .slice none 0 0, .slice none 0 0]
def cMid : List Value := [.int .i64 0, .int .i64 0, .int .i64 0, .slice none 0 0]
theorem b39d (a0 a1 a2 a3 a4 a5 a6 a7 a8 a9 b0 b1 b2 b3 b4 b5 b6 b7 b8 b9 c0 : Value) (w : World) : (Instr.build 39 #[(0, .int .i64 4), (6, .agg [a0, a1, a2, a3, a4, a5, a6, a7, a8, a9, b0, b1, b2, b3, b4, b5, b6, b7, b8, b9, c0].toArray)]).run Tryz.prog w = .ok (.agg (cHead ++ (cMid ++ ([a0, a1, a2, a3, a4, a5, a6, a7, a8, a9, b0, b1, b2, b3, b4, b5, b6, b7, b8, b9, c0] ++ vals claS (zeros 140)))).toArray) w := by kernel_rfl
theorem b39c (cs : List Value) (hl : cs.length = 21) (w : World) : (Instr.build 39 #[(0, .int .i64 4), (6, .agg cs.toArray)]).run Tryz.prog w = .ok (.agg (cHead ++ (cMid ++ (cs ++ vals claS (zeros 140)))).toArray) w := by
  match cs, hl with
  | [a0, a1, a2, a3, a4, a5, a6, a7, a8, a9, b0, b1, b2, b3, b4, b5, b6, b7, b8, b9, c0], _ => exact b39d a0 a1 a2 a3 a4 a5 a6 a7 a8 a9 b0 b1 b2 b3 b4 b5 b6 b7 b8 b9 c0 w
theorem cert_txC (t : TxP) (h : TxH) (g : Nat) : txC (certT t) (certH h g) = cHead ++ (cMid ++ (cerC (certT t) (certH h g) ++ vals claS (zeros 140))) := rfl
theorem cert_wf {t : TxP} (ht : WfT t) : WfT (certT t) :=
  { wf_tx0 with kind := show okA (some 0) 4 from ⟨by decide, by decide⟩, cer := ht.cer, couts := ht.couts, csigs := fun _ hr => List.mem_singleton.1 hr ▸ ok_zeros sgnS }
theorem cert_set {t : TxP} {h : TxH} {g : Nat} (ht : WfT t) : (cerC t h).set 20 (.slice (some ⟨g, 0, none⟩) 1 1) = cerC (certT t) (certH h g) := by
  have l19 : (vals cerS t.cer).length = 19 := by rw [vals_len (okT_len ht.cer)]; rfl
  show (vals cerS t.cer ++ [_, _]).set 20 _ = vals cerS t.cer ++ [_, _]
  rw [List.set_append_right _ _ (by omega), l19]
  rfl
theorem cert_mem {w0 w : World} {t : TxP} {h : TxH} {g : Nat} (m : Mem w0 t h) (hb : ∀ q, q < w0.heap.size → w.heap[q]? = w0.heap[q]?) (hg : w.rangeAt g 0 (vals sgnS (zeros 282))) : Mem w (certT t) (certH h g) := by
  have m2 := m.keep hb
  exact ⟨lrow_nil _ _ _, lrow_nil _ _ _, lrow_nil _ _ _, lrow_nil _ _ _, m2.co, .inr ⟨g, 0, rfl, fun j hj => by
    obtain rfl : j = 0 := by
      have : j < 1 := hj
      omega
    rw [Nat.zero_mul]
    exact hg⟩, cap_nS, cap_nS, cap_nS, cap_nS, m2.coc, ⟨Nat.le_refl _, show 1 ≤ maxLen by unfold maxLen; omega, fun h => by cases h⟩⟩
theorem run_bldC {o : Oper} {ev : Operand → Value} {w : World} {cs : List Value} (hl : cs.length = 21) (ho : o.op = .build 39 #[(0, .const (.int .i64 4)), (6, .tmp 6)]) (h0 : ev (.const (.int .i64 4)) = .int .i64 4) (h6 : ev (.tmp 6) = .agg cs.toArray) : (execOp ev o).run Tryz.prog w = .ok (.value (.agg (cHead ++ (cMid ++ (cs ++ vals claS (zeros 140)))).toArray)) w := by
  unfold execOp
  simp only [ho, List.map_toArray, List.map_cons, List.map_nil, h0, h6, Sem.run_bind, b39c cs hl, Result.andThen_ok, Sem.run_pure]
end Go.Proofs.YtffaddefnpkcgaaGreatDoor
namespace Go.Proofs.YtffaddefnpkcgaaGreatDoor
open Go.RowKit
set_option maxRecDepth 100000
theorem infoG : (Tryz.prog.info? 66).map (fun i => (i.zero, i.size, i.bytes)) = some (some (.agg (vals sgnS (zeros 282)).toArray), 282, 296) := by kernel_rfl
attribute [local irreducible] ua da ba kk sw S8.run rt hs comp splice outB sha msg zeros bvals vals parC cerC claC txC cel seg hash1 hash2 certT certH cHead cMid
set_option maxHeartbeats 4000000 in
theorem tCertMsg (t : TxP) (h : TxH) (w : World) (ht : WfT t) (hm : Mem w t h) (hk : Keys w) :
    Calls Tryz.prog 24 #[.agg (cerC t h).toArray] w fun e w' => e = .returned (.tuple #[.agg (bvals (DigP (certT t) (hash1 99))).toArray, .bool (mayT (certT t))]) ∧ Below w.heap.size w w' := by
  obtain ⟨i0, hi, hz0, hz1, hz2⟩ := info_parts infoG
  have HI0 := Lib.hid hi
  have HI1 := Lib.hid hz0
  have HI2 := Lib.hid hz1
  have HI3 := Lib.hid hz2
  obtain ⟨S, hS⟩ : ∃ S, w.heap.size = S := ⟨_, rfl⟩
  have HS := Lib.hid hS
  have h0 := keys_pos hk
  have X0 : Hid (BL ((w.alloc (Obj.cells (cerC t h).toArray 32)).alloc (Obj.cells (bvals (zeros 8)).toArray 29)) S (cerC t h) 32) := by rw [← hS]; exact bl_keep (heap_alloc_last w _) (Below.heap_alloc _ _ _ (by simp))
  have X1 : Hid (BL ((w.alloc (Obj.cells (cerC t h).toArray 32)).alloc (Obj.cells (bvals (zeros 8)).toArray 29)) (S + 1) (bvals (zeros 8)) 29) := by
    have := heap_alloc_last (w.alloc (Obj.cells (cerC t h).toArray 32)) (Obj.cells (bvals (zeros 8)).toArray 29)
    rw [World.size_alloc, hS] at this
    exact this
  have B0 : Hid (Below S w ((w.alloc (Obj.cells (cerC t h).toArray 32)).alloc (Obj.cells (bvals (zeros 8)).toArray 29))) := by rw [← hS]; exact ((Below.refl _ w).alloc (Nat.le_refl _) _).alloc (by simp) _
  have Z0 : Hid (((w.alloc (Obj.cells (cerC t h).toArray 32)).alloc (Obj.cells (bvals (zeros 8)).toArray 29)).heap.size = S + 2) := by show _ = _; rw [World.size_alloc, World.size_alloc, hS]
  have HT := Lib.hid ht
  have HM := Lib.hid hm
  have HKY : Hid (∀ w', Below S w w' → Keys w') := Lib.hid fun w' hb => keys_below hk hb (by omega)
  have L21 : Hid ((cerC t h).length = 21) := cerC_len h ht
  have hz := z29b
  clear ht hm hk hi hz0 hz1 hz2 h0
  go_enter Tryz.func24, Tryz.ntmps24
  go_upto_region 1 with (fail)
  generalize ((w.alloc (Obj.cells (cerC t h).toArray 32)).alloc (Obj.cells (bvals (zeros 8)).toArray 29)) = v at *
  clear hz hS
  go_upto_region 2 with (first
    | (refine wpList_make_full _ rfl (.const (.int .i64 1)) (.const (.int .i64 1)) 30 rfl v.heap.size 66 i0 _ 282 Tryz.underlying30 HI0.out HI1.out HI2.out .i64 .i64 1 1 1 rfl rfl rfl rfl (by rw [HI3.out]; omega) (by unfold maxLen; omega) (Nat.le_refl _) ?_; intro w1 hown hg; have OW := Lib.hid hown; have BG : Hid (Below v.heap.size v w1) := Lib.hid ((Below.refl _ _).grown hg (Nat.le_refl _) (fun k h => by cases h)); have X2 : Hid (BL w1 S (cerC t h) 32) := Lib.hid (bl_keep X0.out (BG.out.block S (by rw [Z0.out]; omega))); have k2 : ∃ u, w1.cell? ⟨S, 20, none⟩ = some u := ⟨_, range_cell (range_of X2.out) (i := 20) (List.getElem?_eq_getElem (by rw [L21.out]; omega))⟩; have f2 : w1.frozen? ⟨S, 20, none⟩ = false := bl_free X2.out 20; obtain ⟨u2, k2⟩ := k2; clear hown hg)
    | fail)
  clear k2 f2
  have X3 : Hid (BL (w1.setCell ⟨S, 20, none⟩ (.slice (some ⟨v.heap.size, 0, none⟩) 1 1)) S (cerC (certT t) (certH h v.heap.size)) 32) := Lib.hid (by have := bl_set X2.out 20 (.slice (some ⟨v.heap.size, 0, none⟩) 1 1); rwa [cert_set HT.out] at this)
  have X4 : Hid (BL (w1.setCell ⟨S, 20, none⟩ (.slice (some ⟨v.heap.size, 0, none⟩) 1 1)) (S + 1) (bvals (zeros 8)) 29) := Lib.hid (bl_keep (bl_keep X1.out (BG.out.block (S + 1) (by rw [Z0.out]; omega))) (heap_setCell_other _ _ _ _ (show S + 1 ≠ S by omega)))
  have R4 : Hid ((w1.setCell ⟨S, 20, none⟩ (.slice (some ⟨v.heap.size, 0, none⟩) 1 1)).rangeAt v.heap.size 0 (vals sgnS (zeros 282))) := Lib.hid (by
    have h1 := made_range (S := sgnS) (by kernel_rfl) rfl OW.out (show 0 < 1 by omega)
    rw [Nat.zero_mul, Nat.add_zero] at h1
    exact range_keep1 h1 (heap_setCell_other _ _ _ _ (show v.heap.size ≠ S by rw [Z0.out]; omega)))
  have B4 : Hid (Below S w (w1.setCell ⟨S, 20, none⟩ (.slice (some ⟨v.heap.size, 0, none⟩) 1 1))) := Lib.hid ((B0.out.trans (BG.out.mono (by rw [Z0.out]; omega))).setCell (Nat.le_refl _) _)
  have M4 : Hid (Mem (w1.setCell ⟨S, 20, none⟩ (.slice (some ⟨v.heap.size, 0, none⟩) 1 1)) (certT t) (certH h v.heap.size)) := Lib.hid (cert_mem HM.out (fun q hq => B4.out.block q (by rw [← HS.out]; exact hq)) R4.out)
  clear X0 X1 X2 B0 Z0 OW BG R4
  generalize v.heap.size = G at *
  generalize (w1.setCell ⟨S, 20, none⟩ (.slice (some ⟨G, 0, none⟩) 1 1)) = w2 at *
  have W4 : Hid (WfT (certT t)) := Lib.hid (cert_wf HT.out)
  have L4 : Hid ((cerC (certT t) (certH h G)).length = 21) := cerC_len _ W4.out
  have D0 := tDig0 99 (certT t) (certH h G) w2 W4.out M4.out (HKY.out w2 B4.out) (by have := bl_lt X3.out; omega)
  rw [cert_txC] at D0
  have DG := Lib.hid D0
  have S2 : Hid (S + 1 < w2.heap.size) := bl_lt X4.out
  have HD : Hid ((DigP (certT t) (hash1 99)).length = 8) := digP_len (hash1_len _ _)
  clear D0
  rename_i K hKK
  refine wp_region_lit ?_
  refine wpList_load_midG (by rfl) 32 (.tmp 1) rfl S 0 rfl (cerC (certT t) (certH h G)) _ (range_of X3.out) Tryz.underlying32 rfl (szL i32 L4.out) ?_
  simp only [Act.put, ly4, ly5, ly6]
  refine wpList_t (by rfl) (run_bldC L4.out (by rfl) rfl rfl) ?_
  simp only [Act.put, ly4, ly5, ly6]
  go_wp2_with (first
    | (go_at_call 38; refine DG.out.mono ?_; rintro e w3 ⟨rfl, hb⟩; have X5 : Hid (BL w3 (S + 1) (bvals (zeros 8)) 29) := Lib.hid (bl_keep X4.out (hb.block _ S2.out)); have B5 : Hid (Below S w w3) := Lib.hid (B4.out.trans (hb.mono (by have := S2.out; omega))); clear hb)
    | (refine wpList_store_rowTo rfl 29 (.tmp 2) (.tmp 9) rfl rfl (S + 1) (bvals (DigP (certT t) (hash1 99))).toArray rfl rfl 29 (bvals (zeros 8)).toArray X5.out (szA i29 (bv8s HD.out)) (by rw [List.size_toArray, List.size_toArray, bv8s HD.out, bv8s (zeros_len 8)]) (all_oneCell_toArray (bv_one _)) ?_)
    | fail)
  exact bodyPost_ret (v := .tuple #[.agg (bvals (DigP (certT t) (hash1 99))).toArray, .bool (mayT (certT t))]) (results_ch rfl _ _ (S + 1) _ _ rfl (range_of (setRow_heap _ _ _ _ _ _ X5.out)) (szL i29 (bv8s HD.out)) rfl) rfl ⟨rfl, by rw [HS.out]; exact below_setRow B5.out (by omega) _⟩
end Go.Proofs.YtffaddefnpkcgaaGreatDoor
namespace Go.Proofs.YtffaddefnpkcgaaGreatDoor
open Go.RowKit
set_option maxRecDepth 100000
theorem low_src {W : World} {base : Nat} {A : Option Addr} {w c : Nat} {xs : List Int} (h : W.ownsRow base 5 1 (.slice A w c) w (bvals xs)) (hl : xs.length = w) (hw : 0 < w) : Src W A w xs ∧ w ≤ c ∧ c ≤ 9223372036854775807 := by
  rcases h.2 with ⟨_, h0⟩ | ⟨g, cap, cur, e, h1, h2, h3, h4, _, h6⟩
  · omega
  · have hc := h
    injection e with e1 _ e3
    subst e1 e3
    refine ⟨⟨hl, .inr ⟨g, 0, rfl, fun i hi => ?_⟩⟩, h3, by unfold maxLen at h4; omega⟩
    rw [Nat.zero_add]
    have := hc.cellAt i (by omega)
    rw [this]
    simp [bvals, List.getD, show i < xs.length by omega]
theorem bvals_def (x : List Int) : bvals x = x.map fun n => Value.int .u8 n := rfl
attribute [local irreducible] ua da ba kk sw S8.run rt hs comp splice outB sha msg zeros bvals vals hash3 digs
set_option maxHeartbeats 4000000 in
theorem tPaid (a b : Int) (d : List Int) (w : World) (hd : d.length = 8) (hk : Keys w) :
    Calls Tryz.prog 26 #[.int .i64 a, .int .i64 b, .agg (bvals d).toArray] w fun e w' => e = .returned (.agg (bvals (hash3 119 (digs a 1) (digs b 4) d)).toArray) ∧ Below w.heap.size w w' := by
  obtain ⟨S, hS⟩ : ∃ S, w.heap.size = S := ⟨_, rfl⟩
  have HS := Lib.hid hS
  have h0 := keys_pos hk
  have X0 : Hid (BL ((w.alloc (Obj.cells (bvals d).toArray 29)).alloc (Obj.cells (bvals (zeros 8)).toArray 29)) S (bvals d) 29) := by rw [← hS]; exact bl_keep (heap_alloc_last w _) (Below.heap_alloc _ _ _ (by simp))
  have X1 : Hid (BL ((w.alloc (Obj.cells (bvals d).toArray 29)).alloc (Obj.cells (bvals (zeros 8)).toArray 29)) (S + 1) (bvals (zeros 8)) 29) := by
    have := heap_alloc_last (w.alloc (Obj.cells (bvals d).toArray 29)) (Obj.cells (bvals (zeros 8)).toArray 29)
    rw [World.size_alloc, hS] at this
    exact this
  have B0 : Hid (Below S w ((w.alloc (Obj.cells (bvals d).toArray 29)).alloc (Obj.cells (bvals (zeros 8)).toArray 29))) := by rw [← hS]; exact ((Below.refl _ w).alloc (Nat.le_refl _) _).alloc (by simp) _
  have Z0 : Hid (((w.alloc (Obj.cells (bvals d).toArray 29)).alloc (Obj.cells (bvals (zeros 8)).toArray 29)).heap.size = S + 2) := by show _ = _; rw [World.size_alloc, World.size_alloc, hS]
  have HD := Lib.hid hd
  have HKY : Hid (∀ w', Below S w w' → Keys w') := Lib.hid fun w' hb => keys_below hk hb (by omega)
  have hz := z29b
  clear hk h0 hd
  go_enter Tryz.func26, Tryz.ntmps26
  go_upto_region 1 with (fail)
  generalize ((w.alloc (Obj.cells (bvals d).toArray 29)).alloc (Obj.cells (bvals (zeros 8)).toArray 29)) = v at *
  clear hz hS
  obtain ⟨N, hN⟩ : ∃ N, v.heap.size = N := ⟨_, rfl⟩
  have WN := Lib.hid hN
  have SN : Hid (S + 2 = N) := by show _ = _; rw [← hN, Z0.out]
  have XX : Hid (Below N v v.drew) := (Below.refl _ _).drew
  refine wp_region_held_drew (S := (fun w' : World => ∀ q, q < S + 1 → w'.heap[q]? = v.heap[q]?)) (by kernel_rfl) (by exact fun _ _ => rfl) (fun hHeld => ?_)
  refine tk (i := 0) (v := ?_) rfl (Or.inl ⟨by rfl, ?_⟩) (by assumption) ?_
  rotate_left
  · (intro w hSw; (try dsimp only at hSw); go_simp; try with_reducible rfl)
  simp only [Act.put, ly1, ly3, ly4, ly5, ly6]
  refine tk (i := 2) (v := ?_) rfl (Or.inl ⟨by rfl, ?_⟩) (by assumption) ?_
  rotate_left
  · (intro w hSw; (try dsimp only at hSw); go_simp; try with_reducible rfl)
  simp only [Act.put, ly1, ly2, ly3, ly4, ly5, ly6]
  refine tk (i := 4) (v := ?_) rfl (Or.inl ⟨by rfl, ?_⟩) (by assumption) ?_
  rotate_left
  · (intro w hSw; (try dsimp only at hSw); go_simp; try with_reducible rfl)
  simp only [Act.put, ly1, ly2, ly3, ly4, ly5, ly6]
  refine wpAnyH_ready (rs := [1]) (by kernel_rfl) (by simp) ?_
  refine AllReadyH.cons rfl (fun K hK => ?_) AllReadyH.nil
  go_simp
  go_at_call 57
  refine (kLow a 1 _ (by decide)).mono ?_
  rintro e w1 ⟨A1, c1, rfl, hoA1, hba⟩
  have OA1 := Lib.hid hoA1
  have HA1 := Lib.hid hba
  have XN : Hid (Below N v w1) := XX.out.trans (hba.mono (by have := XX.out.size; have := WN.out; omega))
  clear XX hba hHeld hoA1
  have XX := XN
  clear XN
  (try go_wp2_with fail)
  refine hK.out _ _ (by exact fun q hq => XX.out.block q (by have := SN.out; omega)) (fun hHeld => ?_)
  clear hK K
  refine wpAnyH_ready (rs := [3]) (by kernel_rfl) (by simp) ?_
  refine AllReadyH.cons rfl (fun K hK => ?_) AllReadyH.nil
  go_simp
  go_at_call 57
  refine (kLow b 4 _ (by decide)).mono ?_
  rintro e w2 ⟨A2, c2, rfl, hoA2, hba⟩
  have OA2 := Lib.hid hoA2
  have HA2 := Lib.hid hba
  have XN : Hid (Below N v w2) := XX.out.trans (hba.mono (by have := XX.out.size; have := WN.out; omega))
  clear XX hba hHeld hoA2
  have XX := XN
  clear XN
  (try go_wp2_with fail)
  refine hK.out _ _ (by exact fun q hq => XX.out.block q (by have := SN.out; omega)) (fun hHeld => ?_)
  clear hK K
  obtain ⟨a0, a1, a2⟩ := low_src OA1.out (digs_len a 1) (by decide)
  obtain ⟨b0, b1, b2⟩ := low_src OA2.out (digs_len b 4) (by decide)
  have S1 : Hid (Src w2 A1 1 (digs a 1)) := Lib.hid (a0.keep fun q hq => HA2.out.block q hq)
  have S2 : Hid (Src w2 A2 4 (digs b 4)) := Lib.hid b0
  have LA : Hid ((1 ≤ c1 ∧ c1 ≤ 9223372036854775807) ∧ 4 ≤ c2 ∧ c2 ≤ 9223372036854775807) := Lib.hid ⟨⟨a1, a2⟩, b1, b2⟩
  have BX : Hid (Below N v w2) := Lib.hid (by first | exact XX.out | exact XX.out)
  have OF : Hid (∀ w' : World, w'.heap = (w2.alloc (Obj.cells #[.slice A1 1 c1, .slice A2 4 c2, .slice (some ⟨S, 0, none⟩) 8 8] 42)).heap → Calls Tryz.prog 56 #[.int .u8 119, .slice (some ⟨w2.heap.size, 0, none⟩) 3 3] w' fun e w'' => e = .returned (.agg (bvals (hash3 119 (digs a 1) (digs b 4) d)).toArray) ∧ Below w'.heap.size w' w'') := Lib.hid fun w' hh => by
    have hl := heap_alloc_last w2 (Obj.cells #[.slice A1 1 c1, .slice A2 4 c2, .slice (some ⟨S, 0, none⟩) 8 8] 42)
    rw [← hh] at hl
    have kb : ∀ q, q < w2.heap.size → w'.heap[q]? = w2.heap[q]? := fun q hq => by rw [hh, Below.heap_alloc _ _ q hq]
    have KS : Keys (w2.alloc (Obj.cells #[.slice A1 1 c1, .slice A2 4 c2, .slice (some ⟨S, 0, none⟩) 8 8] 42)) := HKY.out _ ((B0.out.trans (BX.out.mono (by have := SN.out; omega))).alloc (by have := BX.out.size; have := WN.out; have := SN.out; omega) _)
    have KW : Keys w' := fun i hi => by have := KS i hi; simpa only [World.cell?, hh] using this
    have SD : Src w' (some ⟨S, 0, none⟩) 8 d := ⟨HD.out, .inr ⟨S, 0, rfl, fun j hj => by
      have h1 : w'.heap[S]? = v.heap[S]? := (kb S (by have := BX.out.size; have := WN.out; have := SN.out; omega)).trans (BX.out.block S (by have := SN.out; omega))
      have h2 := cell_of_row w' S (0 + j) (bvals d).toArray 29 (0, 0) (h1.trans X0.out)
      rw [h2, Nat.zero_add]
      have : j < d.length := by rw [HD.out]; exact hj
      simp [bvals_def, List.getD, this]⟩⟩
    exact ofThree 119 A1 A2 (some ⟨S, 0, none⟩) 1 c1 4 c2 8 8 3 w2.heap.size (digs a 1) (digs b 4) d w' KW ⟨(cell_of_row w' _ 0 _ 42 (0, 0) hl).trans rfl, (cell_of_row w' _ 1 _ 42 (0, 0) hl).trans rfl, (cell_of_row w' _ 2 _ 42 (0, 0) hl).trans rfl, S1.out.keep kb, S2.out.keep kb, SD, LA.out.1, LA.out.2, ⟨Nat.le_refl _, by decide⟩, by decide, by decide, by decide⟩
  clear a0 a1 a2 b0 b1 b2 OA1 OA2 HA1 HA2
  refine wpAnyH_ready (rs := [5]) (by kernel_rfl) (by simp) ?_
  refine AllReadyH.cons rfl (fun K hK => ?_) AllReadyH.nil
  go_simp
  have XY : Hid (Below N v (w2.alloc (Obj.cells #[.slice A1 1 c1, .slice A2 4 c2, .slice (some ⟨S, 0, none⟩) 8 8] 42))) := BX.out.alloc (by have := BX.out.size; have := WN.out; omega) _
  clear XX hHeld
  refine hK.out _ _ (by exact fun q hq => XY.out.block q (by have := SN.out; omega)) (fun hHeld => ?_)
  clear hK K
  have XX := XY
  clear XY
  have hsz : N ≤ (w2.alloc (Obj.cells #[.slice A1 1 c1, .slice A2 4 c2, .slice (some ⟨S, 0, none⟩) 8 8] 42)).heap.size := by rw [World.size_alloc]; have := BX.out.size; have := WN.out; omega
  refine wpAnyH_ready (rs := [6]) (by kernel_rfl) (by simp) ?_
  refine AllReadyH.cons rfl (fun K hK => ?_) AllReadyH.nil
  go_simp
  go_at_call 56
  refine (OF.out _ (by rfl)).mono ?_
  rintro e w3 ⟨rfl, hba⟩
  have XN : Hid (Below N v w3) := XX.out.trans (hba.mono (by have := XX.out.size; have := WN.out; omega))
  clear XX hba hHeld
  have XX := XN
  clear XN
  (try go_wp2_with fail)
  refine hK.out _ _ (by exact fun q hq => XX.out.block q (by have := SN.out; omega)) (fun hHeld => ?_)
  clear hK K
  have X3 : Hid (BL w3 (S + 1) (bvals (zeros 8)) 29) := Lib.hid (bl_keep X1.out (XX.out.block (S + 1) (by have := SN.out; omega)))
  have H8 := Lib.hid (hash3_len 119 (digs a 1) (digs b 4) d)
  have BF : Hid (Below S w w3) := Lib.hid (B0.out.trans (XX.out.mono (by have := SN.out; omega)))
  refine wpAnyH_ready (rs := [7]) (by kernel_rfl) (by simp) ?_
  refine AllReadyH.cons rfl (fun K hK => ?_) AllReadyH.nil
  refine step_st rfl 29 (.tmp 6) (.tmp 13) rfl (S + 1) (bvals (zeros 8)) (bvals (hash3 119 (digs a 1) (digs b 4) d)) rfl rfl X3.out (by rw [bv8s (zeros_len 8), bv8s H8.out]) (szL i29 (bv8s H8.out)) (bv_one _) ?_
  intro w4 hb4 hk4 hB4
  have X4 := Lib.hid hb4
  have B4 := Lib.hid (hB4 S w BF.out (by omega))
  refine hK.out _ _ (by exact fun q hq => (hk4 q (by omega)).trans (XX.out.block q (by have := SN.out; omega))) (fun hHeld => ?_)
  clear hK K hb4 hk4 hB4
  refine wpAnyH_done (by kernel_rfl) ?_ _
  go_wp2
  exact bodyPost_ret (v := .agg (bvals (hash3 119 (digs a 1) (digs b 4) d)).toArray) (results_cell_row rfl _ _ (S + 1) 29 _ (0, 0) _ rfl X4.out Tryz.underlying29 rfl (szA i29 (bv8s H8.out))) rfl ⟨rfl, by rw [HS.out]; exact B4.out⟩
end Go.Proofs.YtffaddefnpkcgaaGreatDoor
namespace Go.Proofs.YtffaddefnpkcgaaGreatDoor
open Go.RowKit
set_option maxRecDepth 100000
attribute [local irreducible] ua da ba kk sw S8.run rt hs comp splice outB sha msg zeros bvals vals hash3 digs
set_option maxHeartbeats 4000000 in
theorem dPaid (a b : Int) (d : List Int) (w : World) (hd : d.length = 8) :
    Calls Tryz.prog 27 #[.int .i64 a, .int .i64 b, .agg (bvals d).toArray] w fun e w' => e = .returned (.agg (bvals (hash3 119 (digs a 1) (digs b 4) d)).toArray) ∧ Below w.heap.size w w' := by
  obtain ⟨S, hS⟩ : ∃ S, w.heap.size = S := ⟨_, rfl⟩
  have HS := Lib.hid hS
  have X0 : Hid (BL ((w.alloc (Obj.cells (bvals d).toArray 29)).alloc (Obj.cells (bvals (zeros 8)).toArray 29)) S (bvals d) 29) := by rw [← hS]; exact bl_keep (heap_alloc_last w _) (Below.heap_alloc _ _ _ (by simp))
  have X1 : Hid (BL ((w.alloc (Obj.cells (bvals d).toArray 29)).alloc (Obj.cells (bvals (zeros 8)).toArray 29)) (S + 1) (bvals (zeros 8)) 29) := by
    have := heap_alloc_last (w.alloc (Obj.cells (bvals d).toArray 29)) (Obj.cells (bvals (zeros 8)).toArray 29)
    rw [World.size_alloc, hS] at this
    exact this
  have B0 : Hid (Below S w ((w.alloc (Obj.cells (bvals d).toArray 29)).alloc (Obj.cells (bvals (zeros 8)).toArray 29))) := by rw [← hS]; exact ((Below.refl _ w).alloc (Nat.le_refl _) _).alloc (by simp) _
  have Z0 : Hid (((w.alloc (Obj.cells (bvals d).toArray 29)).alloc (Obj.cells (bvals (zeros 8)).toArray 29)).heap.size = S + 2) := by show _ = _; rw [World.size_alloc, World.size_alloc, hS]
  have HD := Lib.hid hd
  have hz := z29b
  clear hd
  go_enter Tryz.func27, Tryz.ntmps27
  go_upto_region 1 with (fail)
  generalize ((w.alloc (Obj.cells (bvals d).toArray 29)).alloc (Obj.cells (bvals (zeros 8)).toArray 29)) = v at *
  clear hz hS
  obtain ⟨N, hN⟩ : ∃ N, v.heap.size = N := ⟨_, rfl⟩
  have WN := Lib.hid hN
  have SN : Hid (S + 2 = N) := by show _ = _; rw [← hN, Z0.out]
  have XX : Hid (Below N v v.drew) := (Below.refl _ _).drew
  refine wp_region_held_drew (S := (fun w' : World => ∀ q, q < S + 1 → w'.heap[q]? = v.heap[q]?)) (by kernel_rfl) (by exact fun _ _ => rfl) (fun hHeld => ?_)
  refine tk (i := 0) (v := ?_) rfl (Or.inl ⟨by rfl, ?_⟩) (by assumption) ?_
  rotate_left
  · (intro w hSw; (try dsimp only at hSw); go_simp; try with_reducible rfl)
  simp only [Act.put, ly1, ly3, ly4, ly5, ly6]
  refine tk (i := 2) (v := ?_) rfl (Or.inl ⟨by rfl, ?_⟩) (by assumption) ?_
  rotate_left
  · (intro w hSw; (try dsimp only at hSw); go_simp; try with_reducible rfl)
  simp only [Act.put, ly1, ly2, ly3, ly4, ly5, ly6]
  refine tk (i := 4) (v := ?_) rfl (Or.inl ⟨by rfl, ?_⟩) (by assumption) ?_
  rotate_left
  · (intro w hSw; (try dsimp only at hSw); go_simp; try with_reducible rfl)
  simp only [Act.put, ly1, ly2, ly3, ly4, ly5, ly6]
  refine wpAnyH_ready (rs := [1]) (by kernel_rfl) (by simp) ?_
  refine AllReadyH.cons rfl (fun K hK => ?_) AllReadyH.nil
  go_simp
  go_at_call 31
  refine (c21 a 1 _ (by decide)).mono ?_
  rintro e w1 ⟨A1, c1, rfl, hoA1, hba⟩
  have OA1 := Lib.hid hoA1
  have HA1 := Lib.hid hba
  have XN : Hid (Below N v w1) := XX.out.trans (hba.mono (by have := XX.out.size; have := WN.out; omega))
  clear XX hba hHeld hoA1
  have XX := XN
  clear XN
  (try go_wp2_with fail)
  refine hK.out _ _ (by exact fun q hq => XX.out.block q (by have := SN.out; omega)) (fun hHeld => ?_)
  clear hK K
  refine wpAnyH_ready (rs := [3]) (by kernel_rfl) (by simp) ?_
  refine AllReadyH.cons rfl (fun K hK => ?_) AllReadyH.nil
  go_simp
  go_at_call 31
  refine (c21 b 4 _ (by decide)).mono ?_
  rintro e w2 ⟨A2, c2, rfl, hoA2, hba⟩
  have OA2 := Lib.hid hoA2
  have HA2 := Lib.hid hba
  have XN : Hid (Below N v w2) := XX.out.trans (hba.mono (by have := XX.out.size; have := WN.out; omega))
  clear XX hba hHeld hoA2
  have XX := XN
  clear XN
  (try go_wp2_with fail)
  refine hK.out _ _ (by exact fun q hq => XX.out.block q (by have := SN.out; omega)) (fun hHeld => ?_)
  clear hK K
  obtain ⟨a0, a1, a2⟩ := low_src OA1.out (digs_len a 1) (by decide)
  obtain ⟨b0, b1, b2⟩ := low_src OA2.out (digs_len b 4) (by decide)
  have S1 : Hid (Src w2 A1 1 (digs a 1)) := Lib.hid (a0.keep fun q hq => HA2.out.block q hq)
  have S2 : Hid (Src w2 A2 4 (digs b 4)) := Lib.hid b0
  have NA : Hid (A1 = none → c1 = 0) := Lib.hid (ob_cap OA1.out).2.2
  have NB : Hid (A2 = none → c2 = 0) := Lib.hid (ob_cap OA2.out).2.2
  have LA : Hid ((1 ≤ c1 ∧ c1 ≤ 9223372036854775807) ∧ 4 ≤ c2 ∧ c2 ≤ 9223372036854775807) := Lib.hid ⟨⟨a1, a2⟩, b1, b2⟩
  have BX : Hid (Below N v w2) := Lib.hid (by first | exact XX.out | exact XX.out)
  have OF : Hid (∀ w' : World, w'.heap = (w2.alloc (Obj.cells #[.slice A1 1 c1, .slice A2 4 c2, .slice (some ⟨S, 0, none⟩) 8 8] 42)).heap → Calls Tryz.prog 28 #[.int .u8 119, .slice (some ⟨w2.heap.size, 0, none⟩) 3 3] w' fun e w'' => e = .returned (.agg (bvals (hash3 119 (digs a 1) (digs b 4) d)).toArray) ∧ Below w'.heap.size w' w'') := Lib.hid fun w' hh => by
    have hl := heap_alloc_last w2 (Obj.cells #[.slice A1 1 c1, .slice A2 4 c2, .slice (some ⟨S, 0, none⟩) 8 8] 42)
    rw [← hh] at hl
    have kb : ∀ q, q < w2.heap.size → w'.heap[q]? = w2.heap[q]? := fun q hq => by rw [hh, Below.heap_alloc _ _ q hq]
    have SD : Src w' (some ⟨S, 0, none⟩) 8 d := ⟨HD.out, .inr ⟨S, 0, rfl, fun j hj => by
      have h1 : w'.heap[S]? = v.heap[S]? := (kb S (by have := BX.out.size; have := WN.out; have := SN.out; omega)).trans (BX.out.block S (by have := SN.out; omega))
      have h2 := cell_of_row w' S (0 + j) (bvals d).toArray 29 (0, 0) (h1.trans X0.out)
      rw [h2, Nat.zero_add]
      have : j < d.length := by rw [HD.out]; exact hj
      simp [bvals_def, List.getD, this]⟩⟩
    exact dThree 119 A1 A2 (some ⟨S, 0, none⟩) 1 c1 4 c2 8 8 3 w2.heap.size (digs a 1) (digs b 4) d w' ⟨(cell_of_row w' _ 0 _ 42 (0, 0) hl).trans rfl, (cell_of_row w' _ 1 _ 42 (0, 0) hl).trans rfl, (cell_of_row w' _ 2 _ 42 (0, 0) hl).trans rfl, S1.out.keep kb, S2.out.keep kb, SD, LA.out.1, LA.out.2, ⟨Nat.le_refl _, by decide⟩, by decide, by decide, by decide⟩ NA.out NB.out (fun h => by cases h)
  clear a0 a1 a2 b0 b1 b2 OA1 OA2 HA1 HA2
  refine wpAnyH_ready (rs := [5]) (by kernel_rfl) (by simp) ?_
  refine AllReadyH.cons rfl (fun K hK => ?_) AllReadyH.nil
  go_simp
  have XY : Hid (Below N v (w2.alloc (Obj.cells #[.slice A1 1 c1, .slice A2 4 c2, .slice (some ⟨S, 0, none⟩) 8 8] 42))) := BX.out.alloc (by have := BX.out.size; have := WN.out; omega) _
  clear XX hHeld
  refine hK.out _ _ (by exact fun q hq => XY.out.block q (by have := SN.out; omega)) (fun hHeld => ?_)
  clear hK K
  have XX := XY
  clear XY
  have hsz : N ≤ (w2.alloc (Obj.cells #[.slice A1 1 c1, .slice A2 4 c2, .slice (some ⟨S, 0, none⟩) 8 8] 42)).heap.size := by rw [World.size_alloc]; have := BX.out.size; have := WN.out; omega
  refine wpAnyH_ready (rs := [6]) (by kernel_rfl) (by simp) ?_
  refine AllReadyH.cons rfl (fun K hK => ?_) AllReadyH.nil
  go_simp
  go_at_call 28
  refine (OF.out _ (by rfl)).mono ?_
  rintro e w3 ⟨rfl, hba⟩
  have XN : Hid (Below N v w3) := XX.out.trans (hba.mono (by have := XX.out.size; have := WN.out; omega))
  clear XX hba hHeld
  have XX := XN
  clear XN
  (try go_wp2_with fail)
  refine hK.out _ _ (by exact fun q hq => XX.out.block q (by have := SN.out; omega)) (fun hHeld => ?_)
  clear hK K
  have X3 : Hid (BL w3 (S + 1) (bvals (zeros 8)) 29) := Lib.hid (bl_keep X1.out (XX.out.block (S + 1) (by have := SN.out; omega)))
  have H8 := Lib.hid (hash3_len 119 (digs a 1) (digs b 4) d)
  have BF : Hid (Below S w w3) := Lib.hid (B0.out.trans (XX.out.mono (by have := SN.out; omega)))
  refine wpAnyH_ready (rs := [7]) (by kernel_rfl) (by simp) ?_
  refine AllReadyH.cons rfl (fun K hK => ?_) AllReadyH.nil
  refine step_st rfl 29 (.tmp 6) (.tmp 13) rfl (S + 1) (bvals (zeros 8)) (bvals (hash3 119 (digs a 1) (digs b 4) d)) rfl rfl X3.out (by rw [bv8s (zeros_len 8), bv8s H8.out]) (szL i29 (bv8s H8.out)) (bv_one _) ?_
  intro w4 hb4 hk4 hB4
  have X4 := Lib.hid hb4
  have B4 := Lib.hid (hB4 S w BF.out (by omega))
  refine hK.out _ _ (by exact fun q hq => (hk4 q (by omega)).trans (XX.out.block q (by have := SN.out; omega))) (fun hHeld => ?_)
  clear hK K hb4 hk4 hB4
  refine wpAnyH_done (by kernel_rfl) ?_ _
  go_wp2
  exact bodyPost_ret (v := .agg (bvals (hash3 119 (digs a 1) (digs b 4) d)).toArray) (results_cell_row rfl _ _ (S + 1) 29 _ (0, 0) _ rfl X4.out Tryz.underlying29 rfl (szA i29 (bv8s H8.out))) rfl ⟨rfl, by rw [HS.out]; exact B4.out⟩
end Go.Proofs.YtffaddefnpkcgaaGreatDoor
namespace Go.Proofs.YtffaddefnpkcgaaGreatDoor
open Go.RowKit
set_option maxRecDepth 100000
theorem foldSet {α : Type} : ∀ (ys : List α) (o k : Nat) (L M R : List α), L.length = o + k → M.length = ys.length → ((ys.zipIdx k).foldl (fun (cs : Array α) (p : α × Nat) => cs.setIfInBounds (o + p.2) p.1) (L ++ M ++ R).toArray).toList = L ++ ys ++ R
  | [], _, _, L, M, R, _, h => by
    have : M = [] := List.eq_nil_of_length_eq_zero h
    subst this
    rfl
  | y :: ys, o, k, L, m :: M, R, hL, h => by
    have ih := foldSet ys o (k + 1) (L ++ [y]) M R (by simp; omega) (by simpa using h)
    have e : ((L ++ m :: M ++ R).toArray.setIfInBounds (o + k) y) = (L ++ [y] ++ M ++ R).toArray := by
      rw [← hL]
      simp
    rw [List.zipIdx_cons, List.foldl_cons, e, ih]
    simp
theorem foldArr {α : Type} (ys : Array α) (L M R : List α) (o : Nat) (A : Array α) (hA : A.toList = L ++ M ++ R) (hL : L.length = o) (hM : M.length = ys.size) : (ys.zipIdx).foldl (fun (cs : Array α) (p : α × Nat) => cs.setIfInBounds (o + p.2) p.1) A = (L ++ ys.toList ++ R).toArray := by
  have := foldSet ys.toList o 0 L M R (by omega) (by simpa using hM)
  rw [← hA] at this
  rw [← Array.foldl_toList, Array.toList_zipIdx]
  exact Array.ext' (by simpa using this)
theorem fill_part {f : Nat → Option (Nat × Nat)} {A : Array Value} {L M R ys : List Value} {v : Value} {i o n : Nat} {rest : List (Nat × Value)} (hf : f i = some (o, n)) (hA : A.toList = L ++ M ++ R) (hL : L.length = o) (hM : M.length = n) (hv : v.cells.toList = ys) (hy : ys.length = n) :
    Instr.fill f A ((i, v) :: rest) = Instr.fill f (L ++ ys ++ R).toArray rest := by
  have hs : v.cells.size = n := by rw [← hy, ← hv, Array.length_toList]
  have hz : A.size = o + n + R.length := by rw [← Array.length_toList, hA]; simp; omega
  have g : ¬ (v.cells.size ≠ n || decide (o + v.cells.size > A.size)) = true := by rw [hs, hz]; simp
  have e := foldArr v.cells L M R o A hA hL (by rw [hM, hs])
  rw [hv] at e
  conv => lhs; unfold Instr.fill
  simp only [hf]
  rw [if_neg g, e]
theorem fill_nil {f : Nat → Option (Nat × Nat)} {A : Array Value} : Instr.fill f A [] = some A := by unfold Instr.fill; rfl
theorem run_bs1 {t e n b : Nat} {z : Value} {cs : List Value} (hu : Tryz.prog.underlying t = some (.slice e)) (hi : (Tryz.prog.info? e).map (fun i => (i.zero, i.size, i.bytes)) = some (some z, n, b)) (hl : cs.length = n) (h0 : 0 < n) (hm : n ≤ 1000) (w : World) :
    (Instr.buildSlice t 1 #[(0, .agg cs.toArray)]).run Tryz.prog w = .ok (.slice (some ⟨w.heap.size, 0, none⟩) 1 1) (w.alloc (.cells cs.toArray e)) := by
  obtain ⟨i0, h1, h2, h3, _⟩ := info_parts hi
  refine run_buildSlice w t e 1 _ cs.toArray i0 z hu h1 h2 (by rw [h3]; omega) (by rw [h3]; omega) ?_
  rw [h3]
  have := fill_part (f := fun i => some (i * n, n)) (A := (Array.range (1 * n)).map fun x => z.cells[x % z.cells.size]!) (L := []) (M := ((Array.range (1 * n)).map fun x => z.cells[x % z.cells.size]!).toList) (R := []) (ys := cs) (v := .agg cs.toArray) (i := 0) (o := 0) (n := n) (rest := []) (by simp) (by simp) rfl (by simp) (by simp [Value.cells]) hl
  refine this.trans ?_
  rw [fill_nil]
  simp
theorem wpList_bs1 {ops : Array Oper} {rest : List Oper} {o : Oper} {a : Act} {w : World} {Q : Exit → Act → World → Prop} (hw : Region.wanted o (yielded ops a.tmps) = true) {t e n b : Nat} {z : Value} (x : Operand) (cs : List Value) (ho : o.op = .buildSlice t 1 #[(0, x)]) (hx : a.eval x = .agg cs.toArray)
    (hu : Tryz.prog.underlying t = some (.slice e)) (hi : (Tryz.prog.info? e).map (fun i => (i.zero, i.size, i.bytes)) = some (some z, n, b)) (hl : cs.length = n) (h0 : 0 < n) (hm : n ≤ 1000)
    (hK : wpList Tryz.prog ops Q rest (a.put o.dst (.slice (some ⟨w.heap.size, 0, none⟩) 1 1)) (w.alloc (.cells cs.toArray e))) : wpList Tryz.prog ops Q (o :: rest) a w := by
  unfold wpList
  rw [if_pos hw]
  refine .inl ?_
  unfold Oper.wp execOp
  simp only [ho, List.map_toArray, List.map_cons, List.map_nil, hx, Sem.run_bind, run_bs1 hu hi hl h0 hm, Result.andThen_ok, Sem.run_pure]
  exact hK
theorem step_bs1 {ops : Array Oper} {o : Oper} {a : Act} {w : World} {K : Act → World → Prop} {Q : Exit → Act → World → Prop} {E : Prop} (hw : Region.wanted o (yielded ops a.tmps) = true) {t e n b : Nat} {z : Value} (x : Operand) (cs : List Value) (ho : o.op = .buildSlice t 1 #[(0, x)]) (hx : a.eval x = .agg cs.toArray)
    (hu : Tryz.prog.underlying t = some (.slice e)) (hi : (Tryz.prog.info? e).map (fun i => (i.zero, i.size, i.bytes)) = some (some z, n, b)) (hl : cs.length = n) (h0 : 0 < n) (hm : n ≤ 1000)
    (hK : K (a.put o.dst (.slice (some ⟨w.heap.size, 0, none⟩) 1 1)) (w.alloc (.cells cs.toArray e))) : if Region.wanted o (yielded ops a.tmps) = true then Oper.wp Tryz.prog o a w K Q else E := by
  rw [if_pos hw]
  unfold Oper.wp execOp
  simp only [ho, List.map_toArray, List.map_cons, List.map_nil, hx, Sem.run_bind, run_bs1 hu hi hl h0 hm, Result.andThen_ok, Sem.run_pure]
  exact hK
end Go.Proofs.YtffaddefnpkcgaaGreatDoor
namespace Go.Proofs.YtffaddefnpkcgaaGreatDoor
open Go.RowKit
set_option maxRecDepth 100000
theorem b66z (w : World) : (Instr.build 66 #[]).run Tryz.prog w = .ok (.agg (vals sgnS (zeros 282)).toArray) w := by kernel_rfl
theorem cert_few {t : TxP} (h : FewT t) : FewT (certT t) := ⟨Nat.zero_le _, Nat.zero_le _, Nat.zero_le _, Nat.zero_le _, h.co, by show 1 ≤ 100; decide⟩
theorem run_bldD {o : Oper} {ev : Operand → Value} {w : World} {cs : List Value} (hl : cs.length = 21) (ho : o.op = .build 39 #[(0, .const (.int .i64 4)), (6, .tmp 10)]) (h0 : ev (.const (.int .i64 4)) = .int .i64 4) (h6 : ev (.tmp 10) = .agg cs.toArray) : (execOp ev o).run Tryz.prog w = .ok (.value (.agg (cHead ++ (cMid ++ (cs ++ vals claS (zeros 140)))).toArray)) w := by
  unfold execOp
  simp only [ho, List.map_toArray, List.map_cons, List.map_nil, h0, h6, Sem.run_bind, b39c cs hl, Result.andThen_ok, Sem.run_pure]
attribute [local irreducible] ua da ba kk sw S8.run rt hs comp splice outB sha msg zeros bvals vals parC cerC claC txC cel seg hash1 hash2 certT certH cHead cMid encT mayT
set_option maxHeartbeats 4000000 in
theorem dCertMsg (t : TxP) (h : TxH) (w : World) (ht : WfT t) (hm : Mem w t h) (hf : FewT t) :
    Calls Tryz.prog 25 #[.agg (cerC t h).toArray] w fun e w' => e = .returned (.tuple #[.agg (bvals (DigP (certT t) (hash1 99))).toArray, .bool (mayT (certT t))]) ∧ Below w.heap.size w w' := by
  obtain ⟨S, hS⟩ : ∃ S, w.heap.size = S := ⟨_, rfl⟩
  have HS := Lib.hid hS
  have X0 : Hid (BL ((w.alloc (Obj.cells (cerC t h).toArray 32)).alloc (Obj.cells (bvals (zeros 8)).toArray 29)) S (cerC t h) 32) := by rw [← hS]; exact bl_keep (heap_alloc_last w _) (Below.heap_alloc _ _ _ (by simp))
  have X1 : Hid (BL ((w.alloc (Obj.cells (cerC t h).toArray 32)).alloc (Obj.cells (bvals (zeros 8)).toArray 29)) (S + 1) (bvals (zeros 8)) 29) := by
    have := heap_alloc_last (w.alloc (Obj.cells (cerC t h).toArray 32)) (Obj.cells (bvals (zeros 8)).toArray 29)
    rw [World.size_alloc, hS] at this
    exact this
  have B0 : Hid (Below S w ((w.alloc (Obj.cells (cerC t h).toArray 32)).alloc (Obj.cells (bvals (zeros 8)).toArray 29))) := by rw [← hS]; exact ((Below.refl _ w).alloc (Nat.le_refl _) _).alloc (by simp) _
  have Z0 : Hid (((w.alloc (Obj.cells (cerC t h).toArray 32)).alloc (Obj.cells (bvals (zeros 8)).toArray 29)).heap.size = S + 2) := by show _ = _; rw [World.size_alloc, World.size_alloc, hS]
  have HT := Lib.hid ht
  have HM := Lib.hid hm
  have HF := Lib.hid hf
  have L21 : Hid ((cerC t h).length = 21) := cerC_len h ht
  have hz := z29b
  clear ht hm hf
  go_enter Tryz.func25, Tryz.ntmps25
  go_upto_region 1 with (fail)
  generalize ((w.alloc (Obj.cells (cerC t h).toArray 32)).alloc (Obj.cells (bvals (zeros 8)).toArray 29)) = v at *
  clear hz hS
  have hzs : (vals sgnS (zeros 282)).length = 282 := vals_len (S := sgnS) (by rw [zeros_len]; simp [sgnS, sigS])
  have HZS := Lib.hid hzs
  have X2 : Hid (BL (v.alloc (Obj.cells (vals sgnS (zeros 282)).toArray 66)) S (cerC t h) 32) := Lib.hid (bl_keep X0.out (Below.heap_alloc _ _ _ (by rw [Z0.out]; omega)))
  have k2 : ∃ u, (v.alloc (Obj.cells (vals sgnS (zeros 282)).toArray 66)).cell? ⟨S, 20, none⟩ = some u := ⟨_, range_cell (range_of X2.out) (i := 20) (List.getElem?_eq_getElem (by rw [L21.out]; omega))⟩
  have f2 : (v.alloc (Obj.cells (vals sgnS (zeros 282)).toArray 66)).frozen? ⟨S, 20, none⟩ = false := bl_free X2.out 20
  obtain ⟨u2, k2⟩ := k2
  clear hzs
  go_upto_region 2 with (first
    | (refine wpList_bld (by rfl) 66 _ rfl b66z ?_)
    | (refine wpList_bs1 (by rfl) (t := 30) (.tmp 6) (vals sgnS (zeros 282)) rfl rfl Tryz.underlying30 infoG HZS.out (by decide) (by decide) ?_)
    | fail)
  obtain ⟨w1, hw1⟩ : ∃ w1, v.alloc (Obj.cells (vals sgnS (zeros 282)).toArray 66) = w1 := ⟨_, rfl⟩
  have BG : Hid (Below v.heap.size v w1) := Lib.hid (by rw [← hw1]; exact (Below.refl _ _).alloc (Nat.le_refl _) _)
  have OWR : Hid (w1.rangeAt v.heap.size 0 (vals sgnS (zeros 282))) := Lib.hid (by rw [← hw1]; exact range_new v _ _)
  rw [hw1] at X2 k2 f2 ⊢
  clear hw1
  clear k2 f2
  have X3 : Hid (BL (w1.setCell ⟨S, 20, none⟩ (.slice (some ⟨v.heap.size, 0, none⟩) 1 1)) S (cerC (certT t) (certH h v.heap.size)) 32) := Lib.hid (by have := bl_set X2.out 20 (.slice (some ⟨v.heap.size, 0, none⟩) 1 1); rwa [cert_set HT.out] at this)
  have X4 : Hid (BL (w1.setCell ⟨S, 20, none⟩ (.slice (some ⟨v.heap.size, 0, none⟩) 1 1)) (S + 1) (bvals (zeros 8)) 29) := Lib.hid (bl_keep (bl_keep X1.out (BG.out.block (S + 1) (by rw [Z0.out]; omega))) (heap_setCell_other _ _ _ _ (show S + 1 ≠ S by omega)))
  have R4 : Hid ((w1.setCell ⟨S, 20, none⟩ (.slice (some ⟨v.heap.size, 0, none⟩) 1 1)).rangeAt v.heap.size 0 (vals sgnS (zeros 282))) := Lib.hid (by
    exact range_keep1 OWR.out (heap_setCell_other _ _ _ _ (show v.heap.size ≠ S by rw [Z0.out]; omega)))
  have B4 : Hid (Below S w (w1.setCell ⟨S, 20, none⟩ (.slice (some ⟨v.heap.size, 0, none⟩) 1 1))) := Lib.hid ((B0.out.trans (BG.out.mono (by rw [Z0.out]; omega))).setCell (Nat.le_refl _) _)
  have M4 : Hid (Mem (w1.setCell ⟨S, 20, none⟩ (.slice (some ⟨v.heap.size, 0, none⟩) 1 1)) (certT t) (certH h v.heap.size)) := Lib.hid (cert_mem HM.out (fun q hq => B4.out.block q (by rw [← HS.out]; exact hq)) R4.out)
  clear X0 X1 X2 B0 Z0 OWR BG R4
  generalize v.heap.size = G at *
  generalize (w1.setCell ⟨S, 20, none⟩ (.slice (some ⟨G, 0, none⟩) 1 1)) = w2 at *
  have W4 : Hid (WfT (certT t)) := Lib.hid (cert_wf HT.out)
  have L4 : Hid ((cerC (certT t) (certH h G)).length = 21) := cerC_len _ W4.out
  have S2 : Hid (S + 1 < w2.heap.size) := bl_lt X4.out
  have FT : Hid (FewT (certT t)) := Lib.hid (cert_few HF.out)
  obtain ⟨c1, hc1⟩ : ∃ c, mayT (certT t) = c := ⟨_, rfl⟩
  have HC := Lib.hid hc1
  have EE : Hid (Calls Tryz.prog 12 #[.agg (cHead ++ (cMid ++ (cerC (certT t) (certH h G) ++ vals claS (zeros 140)))).toArray] w2 fun e w' => (if c1 = true then (∃ A c, e = .returned (.tuple #[.slice A (encT (certT t)).length c, .int .i64 0]) ∧ Row w' A (encT (certT t)) ∧ (encT (certT t)).length ≤ c ∧ (A = none → c = 0) ∧ c ≤ 9223372036854775807) else e = .returned (.tuple #[.slice none 0 0, .int .i64 1])) ∧ Below w2.heap.size w2 w') := Lib.hid (by
    rw [← cert_txC]
    cases c1
    · simpa using dEncN (certT t) (certH h G) w2 W4.out M4.out FT.out HC.out
    · simpa using dEncY (certT t) (certH h G) w2 W4.out M4.out FT.out HC.out)
  clear hc1
  rename_i K hKK
  refine wp_region_lit ?_
  refine wpList_load_midG (by rfl) 32 (.tmp 1) rfl S 0 rfl (cerC (certT t) (certH h G)) _ (range_of X3.out) Tryz.underlying32 rfl (szL i32 L4.out) ?_
  simp only [Act.put, ly4, ly5, ly6]
  refine wpList_t (by rfl) (run_bldD L4.out (by rfl) rfl rfl) ?_
  simp only [Act.put, ly4, ly5, ly6]
  cases c1
  · go_wp2_with (first
      | (go_at_call 12; refine EE.out.mono ?_; rintro e w3 ⟨he, hb⟩; simp only [Bool.false_eq_true, if_false] at he; subst he; have X5 : Hid (BL w3 (S + 1) (bvals (zeros 8)) 29) := Lib.hid (bl_keep X4.out (hb.block _ S2.out)); have B5 : Hid (Below S w w3) := Lib.hid (B4.out.trans (hb.mono (by have := S2.out; omega))); clear hb)
      | (refine wpList_bld (by rfl) 29 _ rfl b29b ?_)
      | (refine wpList_store_rowTo rfl 29 (.tmp 2) (.tmp 17) rfl rfl (S + 1) (bvals (zeros 8)).toArray rfl rfl 29 (bvals (zeros 8)).toArray X5.out (szA i29 (bv8s (zeros_len 8))) rfl (all_oneCell_toArray (bv_one _)) ?_)
      | fail)
    exact bodyPost_ret (v := .tuple #[.agg (bvals (zeros 8)).toArray, .bool false]) (results_ch rfl _ _ (S + 1) _ _ rfl (range_of (setRow_heap _ _ _ _ _ _ X5.out)) (szL i29 (bv8s (zeros_len 8))) rfl) rfl ⟨by unfold DigP; rw [if_neg (by rw [HC.out]; decide), HC.out], by rw [HS.out]; exact below_setRow B5.out (by omega) _⟩
  · have LE := Lib.hid (enc_le W4.out HC.out)
    go_wp2_with (first
      | (go_at_call 12; refine EE.out.mono ?_; rintro e w3 ⟨he, hb⟩; simp only [if_true] at he; obtain ⟨A, c, rfl, hr, hl, hn, hx⟩ := he; have HEB := Lib.hid hb; have R1 := Lib.hid hr; have L1 := Lib.hid hl; have N1 := Lib.hid hn; have M1 := Lib.hid hx; clear hb hr hl hn hx)
      | fail)
    obtain ⟨B, hB⟩ : ∃ B, w3.heap.size = B := ⟨_, rfl⟩
    have B1 : Hid (Below S w w3) := B4.out.trans (HEB.out.mono (by have := S2.out; omega))
    have S1 : Hid (S + 2 ≤ B) := by show _ ≤ _; rw [← hB]; have := S2.out; have := HEB.out.size; omega
    have X5 : Hid (BL w3 (S + 1) (bvals (zeros 8)) 29) := bl_keep X4.out (HEB.out.block _ S2.out)
    have B2 : Hid (Below S w (w3.alloc (Obj.cells #[.slice A (encT (certT t)).length c] 42))) := B1.out.alloc (by rw [hB]; have := S1.out; omega) _
    have KB : Hid (∀ q, q < B → (w3.alloc (Obj.cells #[.slice A (encT (certT t)).length c] 42)).heap[q]? = w3.heap[q]?) := fun q hq => Below.heap_alloc w3 _ q (by rw [hB]; exact hq)
    have C0 : Hid ((w3.alloc (Obj.cells #[.slice A (encT (certT t)).length c] 42)).cell? ⟨B, 0, none⟩ = some (.slice A (encT (certT t)).length c)) := by rw [← hB]; exact cell_of_one (heap_alloc_last w3 _)
    have S3 : Hid (Src (w3.alloc (Obj.cells #[.slice A (encT (certT t)).length c] 42)) A (encT (certT t)).length (encT (certT t))) := (src_row rfl R1.out).keep fun q hq => KB.out q (by rw [← hB]; exact hq)
    have Z2 : Hid ((w3.alloc (Obj.cells #[.slice A (encT (certT t)).length c] 42)).heap.size = B + 1) := by show _ = _; rw [World.size_alloc, hB]
    rw [hB]
    clear hB
    generalize (w3.alloc (Obj.cells #[.slice A (encT (certT t)).length c] 42)) = w4 at *
    refine (dOne 99 A (encT (certT t)).length c 1 B (encT (certT t)) w4 C0.out S3.out L1.out M1.out (by have := LE.out; omega) N1.out).mono ?_
    rintro e w5 ⟨rfl, hb3⟩
    have X6 : Hid (BL w5 (S + 1) (bvals (zeros 8)) 29) := bl_keep (bl_keep X5.out (KB.out (S + 1) (by have := S1.out; omega))) (hb3.block _ (by rw [Z2.out]; have := S1.out; omega))
    have B6 : Hid (Below S w w5) := B2.out.trans (hb3.mono (by rw [Z2.out]; have := S1.out; omega))
    have H8 := Lib.hid (hash1_len 99 (encT (certT t)))
    clear hb3
    go_wp2_with (first
      | (refine wpList_store_rowTo rfl 29 (.tmp 2) (.tmp 20) rfl rfl (S + 1) (bvals (hash1 99 (encT (certT t)))).toArray rfl rfl 29 (bvals (zeros 8)).toArray X6.out (szA i29 (bv8s H8.out)) (by rw [List.size_toArray, List.size_toArray, bv8s H8.out, bv8s (zeros_len 8)]) (all_oneCell_toArray (bv_one _)) ?_)
      | fail)
    exact bodyPost_ret (v := .tuple #[.agg (bvals (hash1 99 (encT (certT t)))).toArray, .bool true]) (results_ch rfl _ _ (S + 1) _ _ rfl (range_of (setRow_heap _ _ _ _ _ _ X6.out)) (szL i29 (bv8s H8.out)) rfl) rfl ⟨by unfold DigP; rw [if_pos HC.out, HC.out], by rw [HS.out]; exact below_setRow B6.out (by omega) _⟩
end Go.Proofs.YtffaddefnpkcgaaGreatDoor

