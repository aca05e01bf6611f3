/-
  Rows of records of the call's own: appended one by one.
-/
import Derived.Test.YtffaddefnpkcgaaGreatDoorZX
import Derived.Test.YtffaddefnpkcgaaGreatDoorZ83
import Derived.Maps.AppendAt
import Derived.Test.YtffaddefnpkcgaaGreatDoorZ81
import Derived.Test.YtffaddefnpkcgaaGreatDoorZY
import Derived.Test.YtffaddefnpkcgaaGreatDoorZC
import Derived.Test.YtffaddefnpkcgaaGreatDoorZW
namespace Go.Proofs.YtffaddefnpkcgaaGreatDoor
open Go.RowKit
set_option maxRecDepth 100000
structure RT (t e k b : Nat) (z : Value) (S : Sch) : Prop where
  hu : Tryz.prog.underlying t = some (.slice e)
  hi : (Tryz.prog.info? e).map (fun i => (i.zero, i.size, i.bytes)) = some (some z, k, b)
  hz : z.cells.size = k
  hk : 0 < k
  km : k ≤ 1000
  bm : b ≤ 100000
  hS : S.length = k
def OwR (base : Nat) (w : World) (e k : Nat) (S : Sch) (A : Option Addr) (n c : Nat) (rs : List (List Int)) : Prop := w.ownsRow base e k (.slice A n c) n (flat S rs) ∧ rs.length = n
theorem owR_nil (base : Nat) (w : World) (e k : Nat) (S : Sch) : OwR base w e k S none 0 0 [] := ⟨⟨by simp [flat], .inl ⟨rfl, rfl⟩⟩, rfl⟩
theorem owR_lt {base : Nat} {w : World} {e k : Nat} {S : Sch} {A : Option Addr} {n c : Nat} {rs : List (List Int)} (h : OwR base w e k S A n c rs) : ∀ q, (Value.slice A n c).ownBlock = some q → base ≤ q ∧ q < w.heap.size := by
  intro q hq
  rcases h.1.2 with ⟨e1, _⟩ | ⟨g, cap, cur, e1, h1, h2, _⟩
  · rw [e1] at hq; cases hq
  · rw [e1] at hq
    simp [Value.ownBlock] at hq
    subst hq
    exact ⟨h1, lt_of_block h2⟩
theorem owR_keep {base : Nat} {w W : World} {e k : Nat} {S : Sch} {A : Option Addr} {n c : Nat} {rs : List (List Int)} (h : OwR base w e k S A n c rs) (hb : ∀ q, base ≤ q → q < w.heap.size → (∃ cs, w.heap[q]? = some (.cells cs e (0, 0))) → W.heap[q]? = w.heap[q]?) : OwR base W e k S A n c rs := by
  refine ⟨⟨h.1.1, ?_⟩, h.2⟩
  rcases h.1.2 with h2 | ⟨g, cap, cur, e1, h1, h2, h3⟩
  · exact .inl h2
  · exact .inr ⟨g, cap, cur, e1, h1, by rw [hb g h1 (lt_of_block h2) ⟨_, h2⟩]; exact h2, h3⟩
theorem owR_row {base : Nat} {w : World} {e k : Nat} {S : Sch} {A : Option Addr} {n c : Nat} {rs : List (List Int)} (h : OwR base w e k S A n c rs) (hk : S.length = k) (ha : AllR S rs) : LRow S w A rs ∧ Cap ⟨A, c⟩ n := by
  have hl : (flat S rs).length = n * k := by rw [flat_len ha, h.2, hk]
  rcases h.1.2 with ⟨e1, h0⟩ | ⟨g, cap, cur, e1, h1, h2, h3, h4, _, h6⟩
  · injection e1 with e2 _ e4
    subst e2 e4 h0
    exact ⟨.inl (List.eq_nil_of_length_eq_zero h.2), Nat.le_refl _, Nat.zero_le _, fun _ => rfl⟩
  · injection e1 with e2 _ e4
    subst e2 e4
    refine ⟨.inr ⟨g, 0, rfl, rng_flat ha fun j v hv => ?_⟩, h3, h4, fun h => by cases h⟩
    rw [Nat.zero_add, cell_of_row w g j _ e (0, 0) h2]
    have hj : j < n * k := by have := (List.getElem?_eq_some_iff.1 hv).1; omega
    rw [← h6, List.getElem?_take, if_pos hj] at hv
    simpa using hv
theorem run_apR {t e k b : Nat} {z : Value} {S : Sch} (R : RT t e k b z S) (ty : TypeId) (w : World) (base n : Nat) (A : Option Addr) (c : Nat) (rs : List (List Int)) (hown : OwR base w e k S A n c rs) (q p : Nat) (r : List Int) (hl : r.length = S.length) (hn : w.rangeAt q p (vals S r)) (h63 : n ≤ 1000) (hbase : base ≤ w.heap.size) :
    ∃ A' c' w', (Builtin.append_ #[t, t] ty #[.slice A n c, .slice (some ⟨q, p, none⟩) 1 1]).run Tryz.prog w = .ok (.slice A' (n + 1) c') w' ∧ OwR base w' e k S A' (n + 1) c' (rs ++ [r]) ∧ Below base w w' ∧ (∀ (x : Nat) (cs : Array Value) (T : TypeId), T ≠ e → w.heap[x]? = some (.cells cs T (0, 0)) → w'.heap[x]? = w.heap[x]?) := by
  obtain ⟨i0, hi, hz0, hz1, hz2⟩ := info_parts R.hi
  have hvl : (vals S r).length = k := (vals_len hl).trans R.hS
  obtain ⟨v', w', hr, h2, h3, _, _⟩ := run_append_own_at (P := Tryz.prog) w base t ty e i0 z k b R.hu hi hz0 hz1 hz2 R.hz R.hk (.slice A n c) n (flat S rs) hown.1 ⟨q, p, none⟩ 1 1 (vals S r) (by rw [hvl, Nat.one_mul]) (fun j u hj => by rw [Addr.add_mid]; exact hn j u hj) (vals_one _ _) (by unfold maxLen; omega) (by
    have h1 : (n + 1) * b ≤ 1001 * b := Nat.mul_le_mul_right _ (by omega)
    have := R.bm
    omega) hbase
  have hv' : ∃ A' c', v' = .slice A' (n + 1) c' := by
    rcases h2.2 with ⟨rfl, e⟩ | ⟨g, cap, cur, rfl, _⟩
    · exact ⟨none, 0, by rw [e]⟩
    · exact ⟨_, _, rfl⟩
  obtain ⟨A', c', rfl⟩ := hv'
  refine ⟨A', c', w', hr, ⟨?_, by simp [hown.2]⟩, (Below.refl _ _).grown h3 hbase fun x hx => (owR_lt hown x hx).1, fun x cs T hT hx => ?_⟩
  · have : flat S (rs ++ [r]) = flat S rs ++ vals S r := by simp [flat]
    rw [this]
    exact h2
  · refine h3.block x (lt_of_block hx) fun e9 => ?_
    rcases hown.1.2 with ⟨e1, _⟩ | ⟨g, cap, cur, e1, _, h5, _⟩
    · rw [e1] at e9; cases e9
    · rw [e1] at e9
      simp [Value.ownBlock] at e9
      subst e9
      rw [h5] at hx
      cases hx
      exact hT rfl
theorem step_apR {t e k b : Nat} {z : Value} {S : Sch} (R : RT t e k b z S) {w : World} {ops : Array Oper} {o : Oper} {a : Act} {K : Act → World → Prop} {Q : Exit → Act → World → Prop} {E : Prop} (hgd : o.guard = none) (s x : Operand)
    (ho : o.op = .call { callee := .builtin .append, args := #[s, x], argTypes := #[t, t] })
    (base n : Nat) (A : Option Addr) (c : Nat) (rs : List (List Int)) (hv : a.eval s = .slice A n c) (hown : OwR base w e k S A n c rs) (q p : Nat) (r : List Int) (hx : a.eval x = .slice (some ⟨q, p, none⟩) 1 1) (hl : r.length = S.length) (hn : w.rangeAt q p (vals S r))
    (h63 : n ≤ 1000) (hbase : base ≤ w.heap.size)
    (h : ∀ A' c' w', OwR base w' e k S A' (n + 1) c' (rs ++ [r]) → Below base w w' → (∀ (x : Nat) (cs : Array Value) (T : TypeId), T ≠ e → w.heap[x]? = some (.cells cs T (0, 0)) → w'.heap[x]? = w.heap[x]?) → K (a.put o.dst (.slice A' (n + 1) c')) w') : if Region.wanted o (yielded ops a.tmps) = true then Oper.wp Tryz.prog o a w K Q else E := by
  have hw : Region.wanted o (yielded ops a.tmps) = true := by simp [Region.wanted, hgd]
  rw [if_pos hw]
  obtain ⟨A', c', w', hr, h1, h2, h3⟩ := run_apR R o.type w base n A c rs hown q p r hl hn h63 hbase
  unfold Oper.wp execOp
  simp only [ho, resolve, invoke, builtin, Sem.run_bind, Sem.run_pure, Result.andThen_ok, List.map_toArray, List.map_cons, List.map_nil, hv, hx, hr]
  exact h A' c' w' h1 h2 h3
theorem rtIn : RT 22 63 298 312 (.agg (vals inS (zeros 298)).toArray) inS := ⟨Tryz.underlying22, by kernel_rfl, by kernel_rfl, by decide, by decide, by decide, in298⟩
end Go.Proofs.YtffaddefnpkcgaaGreatDoor
namespace Go.Proofs.YtffaddefnpkcgaaGreatDoor
open Go.RowKit
set_option maxRecDepth 100000
def pS : Sch := hS ++ [some 1]
theorem inS_p : inS = pS ++ (hS ++ sigS) := by kernel_rfl
theorem in_parts {r : List Int} (h : r.length = 298) : vals inS r = vals pS (r.take 9) ++ (bvals (seg r 9 8) ++ vals sigS (r.drop 17)) := by
  rw [inS_p, vals_app (show pS.length ≤ r.length by rw [h]; decide), show pS.length = 9 from rfl, vals_app (S := hS) (show 8 ≤ (r.drop 9).length by rw [List.length_drop]; omega), show hS.length = 8 from rfl, List.drop_drop]
  have : vals hS ((r.drop 9).take 8) = bvals (seg r 9 8) := vals_byt 8 _ (by rw [List.length_take, List.length_drop]; omega)
  rw [this]
theorem pS_len {r : List Int} (h : r.length = 298) : (vals pS (r.take 9)).length = 9 := vals_len (by rw [List.length_take, h]; rfl)
theorem blank_len {r : List Int} (h : r.length = 298) : (blank r).length = 298 := by rw [blank, List.length_append, List.length_take, zeros_len, h]; rfl
theorem blank_parts {r : List Int} (h : r.length = 298) : vals inS (blank r) = vals pS (r.take 9) ++ (bvals (seg r 9 8) ++ vals sigS (zeros 281)) := by
  have h17 : (r.take 17).length = 17 := by rw [List.length_take]; omega
  rw [in_parts (blank_len h)]
  have e1 : (blank r).take 9 = r.take 9 := by rw [blank, List.take_append_of_le_length (by omega), List.take_take, Nat.min_eq_left (by omega)]
  have e2 : seg (blank r) 9 8 = seg r 9 8 := by
    unfold seg blank
    rw [List.drop_append_of_le_length (by omega), List.take_append_of_le_length (by rw [List.length_drop]; omega), List.drop_take, List.take_take]
    rfl
  have e3 : (blank r).drop 17 = zeros 281 := by rw [blank, List.drop_left' h17]
  rw [e1, e2, e3]
theorem places63 : ∃ fs, Tryz.prog.underlying 63 = some (.struct fs) ∧ fs.toList.mapM (fun f => (Tryz.prog.info? f.type).map fun i => (f.offset, i.size)) = some [(0, 9), (9, 8), (17, 281)] := ⟨_, Tryz.underlying63, by kernel_rfl⟩
theorem b63 (r : List Int) (h : r.length = 298) (w : World) : (Instr.build 63 #[(0, .agg (vals pS (r.take 9)).toArray), (1, .agg (bvals (seg r 9 8)).toArray)]).run Tryz.prog w = .ok (.agg (vals inS (blank r)).toArray) w := by
  refine run_build w 63 _ _ ?_
  obtain ⟨it, hi, hz, _, _⟩ := info_parts rtIn.hi
  obtain ⟨fs, hu, hp⟩ := places63
  unfold Program.built
  rw [hi, hu]
  simp only [hz, hp]
  have h8 : (seg r 9 8).length = 8 := seg_len (by omega)
  have hb8 : (bvals (seg r 9 8)).length = 8 := by rw [bvals, List.length_map, h8]
  have hz9 : (vals pS ((zeros 298).take 9)).length = 9 := pS_len (zeros_len 298)
  have hz8 : (bvals (seg (zeros 298) 9 8)).length = 8 := by rw [bvals, List.length_map, seg_len (by rw [zeros_len]; decide)]
  have hzs : vals sigS ((zeros 298).drop 17) = vals sigS (zeros 281) := rfl
  refine (fill_part (L := []) (M := vals pS ((zeros 298).take 9)) (R := bvals (seg (zeros 298) 9 8) ++ vals sigS ((zeros 298).drop 17)) (ys := vals pS (r.take 9)) (o := 0) (n := 9) rfl (by rw [List.nil_append, ← in_parts (zeros_len 298)]; simp [Value.cells]) rfl hz9 (by simp [Value.cells]) (pS_len h)).trans ?_
  refine (fill_part (L := vals pS (r.take 9)) (M := bvals (seg (zeros 298) 9 8)) (R := vals sigS ((zeros 298).drop 17)) (ys := bvals (seg r 9 8)) (o := 9) (n := 8) rfl (by simp) (pS_len h) hz8 (by simp [Value.cells]) hb8).trans ?_
  rw [fill_nil, hzs, blank_parts h, List.append_assoc]
theorem in_rng {w : World} {b o : Nat} {r : List Int} (h : w.rangeAt b o (vals inS r)) (hl : r.length = 298) : w.rangeAt b o (vals pS (r.take 9)) ∧ w.rangeAt b (o + 9) (bvals (seg r 9 8)) := by
  rw [in_parts hl] at h
  have h1 := range_app h
  rw [pS_len hl] at h1
  exact ⟨h1.1, (range_app h1.2).1⟩
def msgB (t : TxP) (i : Int) : Bool := decide (t.kind = 2) && (mayT t && win 0 ((t.ins.length : Int) - 1) i)
def msgP (t : TxP) (i : Int) : List Int := if msgB t i = true then hash2 105 (encT (blankT t)) [i] else zeros 8
theorem blank_few {t : TxP} (h : FewT t) : FewT (blankT t) := ⟨by rw [show (blankT t).ins.length = t.ins.length from List.length_map _]; exact h.i, h.o, h.f, h.k, h.co, h.cs⟩
attribute [local irreducible] zeros bvals vals parC cerC claC txC cel seg hash1 hash2 zsig flat encT mayT blankT win blank pS
set_option maxHeartbeats 4000000 in
theorem tMsgN2 (t : TxP) (h : TxH) (i : Int) (w : World) (hn : t.ins.length ≤ 100) (hk2 : t.kind = 2) (hw : win 0 ((t.ins.length : Int) - 1) i = false) :
    Calls Tryz.prog 22 #[.agg (txC t h).toArray, .int .i64 i] w fun e w' => e = .returned (.tuple #[.agg (bvals (zeros 8)).toArray, .bool false]) ∧ Below w.heap.size w w' := by
  obtain ⟨S, hS⟩ : ∃ S, w.heap.size = S := ⟨_, rfl⟩
  have HS := Lib.hid hS
  have P := hash_pre t h w hS
  have X0 := Lib.hid P.1
  have X1 := Lib.hid P.2.1
  have B0 := Lib.hid P.2.2.1
  have Z0 := Lib.hid P.2.2.2
  have k0 := txk0 P.1
  have k2 := txk2 P.1
  rw [hk2] at k0
  obtain ⟨n, hn'⟩ : ∃ n, t.ins.length = n := ⟨_, rfl⟩
  rw [hn'] at k2 hw hn
  have hws1 : wrap64 ((n : Int) - 1) = (n : Int) - 1 := by unfold wrap64; omega
  have hws2 : IntKind.i64.wrap ((n : Int) - 1) = (n : Int) - 1 := by rw [IntKind.wrap_i64]; omega
  have HW := Lib.hid hw
  have hz := z29b
  clear P hw hn hk2 hn'
  go_enter Tryz.func22, Tryz.ntmps22
  go_upto_region 1 with (fail)
  generalize ((w.alloc (Obj.cells (txC t h).toArray 39)).alloc (Obj.cells (bvals (zeros 8)).toArray 29)) = v at *
  clear hz hS
  go_wp2_with (first
    | (go_at_call 54; refine (tWithin _ _ _ _).mono ?_; rintro e w' ⟨rfl, rfl⟩; rw [HW.out])
    | (refine wpList_bld (by rfl) 29 _ rfl b29b ?_)
    | (refine wpList_store_rowTo rfl 29 (.tmp 4) (.tmp 24) rfl rfl (S + 1) (bvals (zeros 8)).toArray rfl rfl 29 (bvals (zeros 8)).toArray X1.out (szA i29 (bv8s (zeros_len 8))) rfl (all_oneCell_toArray (bv_one _)) ?_)
    | fail)
  exact bodyPost_ret (v := .tuple #[.agg (bvals (zeros 8)).toArray, .bool false]) (results_ch rfl _ _ (S + 1) _ _ rfl (range_of (setRow_heap _ _ _ _ _ _ X1.out)) (szL i29 (bv8s (zeros_len 8))) rfl) rfl ⟨rfl, by rw [HS.out]; exact below_setRow B0.out (by omega) _⟩
set_option maxHeartbeats 4000000 in
theorem tMsgN3 (t : TxP) (h : TxH) (i : Int) (w : World) (ht : WfT t) (hm : Mem w t h) (hn : t.ins.length ≤ 100) (hk2 : t.kind = 2) (hw : win 0 ((t.ins.length : Int) - 1) i = true) (hmay : mayT t = false) :
    Calls Tryz.prog 22 #[.agg (txC t h).toArray, .int .i64 i] w fun e w' => e = .returned (.tuple #[.agg (bvals (zeros 8)).toArray, .bool false]) ∧ Below w.heap.size w w' := by
  obtain ⟨S, hS⟩ : ∃ S, w.heap.size = S := ⟨_, rfl⟩
  have HS := Lib.hid hS
  have P := hash_pre t h w hS
  have X0 := Lib.hid P.1
  have X1 := Lib.hid P.2.1
  have B0 := Lib.hid P.2.2.1
  have Z0 := Lib.hid P.2.2.2
  have k0 := txk0 P.1
  have k2 := txk2 P.1
  rw [hk2] at k0
  have HI : Hid ((Tryz.prog.info? 39).map (·.size) = some (txC t h).length) := szL i39 (txC_len h ht)
  have CM : Hid (∀ w', Below S w w' → Calls Tryz.prog 15 #[.agg (txC t h).toArray] w' fun e w'' => e = .returned (.bool false) ∧ Below w'.heap.size w' w'') := Lib.hid fun w' hb => by
    have := tMay t h w' ht (hm.keep fun q hq => hb.block q (by rw [← hS]; exact hq))
    rwa [hmay] at this
  obtain ⟨n, hn'⟩ : ∃ n, t.ins.length = n := ⟨_, rfl⟩
  rw [hn'] at k2 hw hn
  have hws1 : wrap64 ((n : Int) - 1) = (n : Int) - 1 := by unfold wrap64; omega
  have hws2 : IntKind.i64.wrap ((n : Int) - 1) = (n : Int) - 1 := by rw [IntKind.wrap_i64]; omega
  have HW := Lib.hid hw
  have hz := z29b
  clear P hw hn hk2 hn' ht hm hmay
  go_enter Tryz.func22, Tryz.ntmps22
  go_upto_region 1 with (fail)
  generalize ((w.alloc (Obj.cells (txC t h).toArray 39)).alloc (Obj.cells (bvals (zeros 8)).toArray 29)) = v at *
  clear hz hS
  go_wp2_with (first
    | (refine wpList_load_midG (by rfl) 39 (.tmp 2) rfl S 0 rfl (txC t h) _ (range_of X0.out) Tryz.underlying39 rfl HI.out ?_)
    | (go_at_call 54; refine (tWithinY _ _ _ _ HW.out).mono ?_; rintro e w' ⟨rfl, rfl⟩)
    | (go_at_call 15; refine (CM.out _ B0.out).mono ?_; rintro e w2 ⟨rfl, hb⟩; have B1 := Lib.hid (B0.out.trans (hb.mono (by rw [Z0.out]; omega))); replace X1 := Lib.hid (bl_keep X1.out (hb.block (S + 1) (by rw [Z0.out]; omega))); clear hb)
    | (refine wpList_bld (by rfl) 29 _ rfl b29b ?_)
    | (refine wpList_store_rowTo rfl 29 (.tmp 4) (.tmp 24) rfl rfl (S + 1) (bvals (zeros 8)).toArray rfl rfl 29 (bvals (zeros 8)).toArray X1.out (szA i29 (bv8s (zeros_len 8))) rfl (all_oneCell_toArray (bv_one _)) ?_)
    | fail)
  exact bodyPost_ret (v := .tuple #[.agg (bvals (zeros 8)).toArray, .bool false]) (results_ch rfl _ _ (S + 1) _ _ rfl (range_of (setRow_heap _ _ _ _ _ _ X1.out)) (szL i29 (bv8s (zeros_len 8))) rfl) rfl ⟨rfl, by rw [HS.out]; exact below_setRow B1.out (by omega) _⟩
set_option maxHeartbeats 4000000 in
theorem dMsgN1 (t : TxP) (h : TxH) (i : Int) (w : World) (hk2 : ¬ t.kind = 2) :
    Calls Tryz.prog 23 #[.agg (txC t h).toArray, .int .i64 i] w fun e w' => e = .returned (.tuple #[.agg (bvals (zeros 8)).toArray, .bool false]) ∧ Below w.heap.size w w' := by
  obtain ⟨S, hS⟩ : ∃ S, w.heap.size = S := ⟨_, rfl⟩
  have HS := Lib.hid hS
  have P := hash_pre t h w hS
  have X0 := Lib.hid P.1
  have X1 := Lib.hid P.2.1
  have B0 := Lib.hid P.2.2.1
  have Z0 := Lib.hid P.2.2.2
  have k0 := txk0 P.1
  have k2 := txk2 P.1
  have hz := z29b
  clear P
  go_enter Tryz.func23, Tryz.ntmps23
  go_upto_region 1 with (fail)
  generalize ((w.alloc (Obj.cells (txC t h).toArray 39)).alloc (Obj.cells (bvals (zeros 8)).toArray 29)) = v at *
  clear hz hS
  go_wp2_with (first
    | (refine wpList_bld (by rfl) 29 _ rfl b29b ?_)
    | (refine wpList_store_rowTo rfl 29 (.tmp 4) (.tmp 29) rfl rfl (S + 1) (bvals (zeros 8)).toArray rfl rfl 29 (bvals (zeros 8)).toArray X1.out (szA i29 (bv8s (zeros_len 8))) rfl (all_oneCell_toArray (bv_one _)) ?_)
    | fail)
  exact bodyPost_ret (v := .tuple #[.agg (bvals (zeros 8)).toArray, .bool false]) (results_ch rfl _ _ (S + 1) _ _ rfl (range_of (setRow_heap _ _ _ _ _ _ X1.out)) (szL i29 (bv8s (zeros_len 8))) rfl) rfl ⟨rfl, by rw [HS.out]; exact below_setRow B0.out (by omega) _⟩
set_option maxHeartbeats 4000000 in
theorem dMsgN2 (t : TxP) (h : TxH) (i : Int) (w : World) (ht : WfT t) (hm : Mem w t h) (hf : FewT t) (hk2 : t.kind = 2) (hmay : mayT t = false) :
    Calls Tryz.prog 23 #[.agg (txC t h).toArray, .int .i64 i] w fun e w' => e = .returned (.tuple #[.agg (bvals (zeros 8)).toArray, .bool false]) ∧ Below w.heap.size w w' := by
  obtain ⟨S, hS⟩ : ∃ S, w.heap.size = S := ⟨_, rfl⟩
  have HS := Lib.hid hS
  have P := hash_pre t h w hS
  have X0 := Lib.hid P.1
  have X1 := Lib.hid P.2.1
  have B0 := Lib.hid P.2.2.1
  have Z0 := Lib.hid P.2.2.2
  have k0 := txk0 P.1
  have k2 := txk2 P.1
  rw [hk2] at k0
  have HI : Hid ((Tryz.prog.info? 39).map (·.size) = some (txC t h).length) := szL i39 (txC_len h ht)
  have CM : Hid (∀ w', Below S w w' → Calls Tryz.prog 16 #[.agg (txC t h).toArray] w' fun e w'' => e = .returned (.bool false) ∧ Below w'.heap.size w' w'') := Lib.hid fun w' hb => by
    have := dMayTx t h w' ht (hm.keep fun q hq => hb.block q (by rw [← hS]; exact hq)) hf
    rwa [hmay] at this
  have hz := z29b
  clear P hk2 ht hm hmay hf
  go_enter Tryz.func23, Tryz.ntmps23
  go_upto_region 1 with (fail)
  generalize ((w.alloc (Obj.cells (txC t h).toArray 39)).alloc (Obj.cells (bvals (zeros 8)).toArray 29)) = v at *
  clear hz hS
  go_wp2_with (first
    | (refine wpList_load_midG (by rfl) 39 (.tmp 2) rfl S 0 rfl (txC t h) _ (range_of X0.out) Tryz.underlying39 rfl HI.out ?_)
    | (go_at_call 16; refine (CM.out _ B0.out).mono ?_; rintro e w2 ⟨rfl, hb⟩; have B1 := Lib.hid (B0.out.trans (hb.mono (by rw [Z0.out]; omega))); replace X1 := Lib.hid (bl_keep X1.out (hb.block (S + 1) (by rw [Z0.out]; omega))); clear hb)
    | (refine wpList_bld (by rfl) 29 _ rfl b29b ?_)
    | (refine wpList_store_rowTo rfl 29 (.tmp 4) (.tmp 29) rfl rfl (S + 1) (bvals (zeros 8)).toArray rfl rfl 29 (bvals (zeros 8)).toArray X1.out (szA i29 (bv8s (zeros_len 8))) rfl (all_oneCell_toArray (bv_one _)) ?_)
    | fail)
  exact bodyPost_ret (v := .tuple #[.agg (bvals (zeros 8)).toArray, .bool false]) (results_ch rfl _ _ (S + 1) _ _ rfl (range_of (setRow_heap _ _ _ _ _ _ X1.out)) (szL i29 (bv8s (zeros_len 8))) rfl) rfl ⟨rfl, by rw [HS.out]; exact below_setRow B1.out (by omega) _⟩
set_option maxHeartbeats 4000000 in
theorem dMsgN3 (t : TxP) (h : TxH) (i : Int) (w : World) (ht : WfT t) (hm : Mem w t h) (hf : FewT t) (hk2 : t.kind = 2) (hmay : mayT t = true) (hlt : i < 0) :
    Calls Tryz.prog 23 #[.agg (txC t h).toArray, .int .i64 i] w fun e w' => e = .returned (.tuple #[.agg (bvals (zeros 8)).toArray, .bool false]) ∧ Below w.heap.size w w' := by
  obtain ⟨S, hS⟩ : ∃ S, w.heap.size = S := ⟨_, rfl⟩
  have HS := Lib.hid hS
  have P := hash_pre t h w hS
  have X0 := Lib.hid P.1
  have X1 := Lib.hid P.2.1
  have B0 := Lib.hid P.2.2.1
  have Z0 := Lib.hid P.2.2.2
  have k0 := txk0 P.1
  have k2 := txk2 P.1
  rw [hk2] at k0
  have HI : Hid ((Tryz.prog.info? 39).map (·.size) = some (txC t h).length) := szL i39 (txC_len h ht)
  have CM : Hid (∀ w', Below S w w' → Calls Tryz.prog 16 #[.agg (txC t h).toArray] w' fun e w'' => e = .returned (.bool true) ∧ Below w'.heap.size w' w'') := Lib.hid fun w' hb => by
    have := dMayTx t h w' ht (hm.keep fun q hq => hb.block q (by rw [← hS]; exact hq)) hf
    rwa [hmay] at this
  have hz := z29b
  clear P hk2 ht hm hmay hf
  go_enter Tryz.func23, Tryz.ntmps23
  go_upto_region 1 with (fail)
  generalize ((w.alloc (Obj.cells (txC t h).toArray 39)).alloc (Obj.cells (bvals (zeros 8)).toArray 29)) = v at *
  clear hz hS
  go_wp2_with (first
    | (refine wpList_load_midG (by rfl) 39 (.tmp 2) rfl S 0 rfl (txC t h) _ (range_of X0.out) Tryz.underlying39 rfl HI.out ?_)
    | (go_at_call 16; refine (CM.out _ B0.out).mono ?_; rintro e w2 ⟨rfl, hb⟩; have B1 := Lib.hid (B0.out.trans (hb.mono (by rw [Z0.out]; omega))); replace X1 := Lib.hid (bl_keep X1.out (hb.block (S + 1) (by rw [Z0.out]; omega))); clear hb)
    | (refine wpList_bld (by rfl) 29 _ rfl b29b ?_)
    | (refine wpList_store_rowTo rfl 29 (.tmp 4) (.tmp 29) rfl rfl (S + 1) (bvals (zeros 8)).toArray rfl rfl 29 (bvals (zeros 8)).toArray X1.out (szA i29 (bv8s (zeros_len 8))) rfl (all_oneCell_toArray (bv_one _)) ?_)
    | fail)
  exact bodyPost_ret (v := .tuple #[.agg (bvals (zeros 8)).toArray, .bool false]) (results_ch rfl _ _ (S + 1) _ _ rfl (range_of (setRow_heap _ _ _ _ _ _ X1.out)) (szL i29 (bv8s (zeros_len 8))) rfl) rfl ⟨rfl, by rw [HS.out]; exact below_setRow B1.out (by omega) _⟩
set_option maxHeartbeats 4000000 in
theorem dMsgN4 (t : TxP) (h : TxH) (i : Int) (w : World) (ht : WfT t) (hm : Mem w t h) (hf : FewT t) (hk2 : t.kind = 2) (hmay : mayT t = true) (hlt : ¬ i < 0) (hge : (t.ins.length : Int) ≤ i) :
    Calls Tryz.prog 23 #[.agg (txC t h).toArray, .int .i64 i] w fun e w' => e = .returned (.tuple #[.agg (bvals (zeros 8)).toArray, .bool false]) ∧ Below w.heap.size w w' := by
  obtain ⟨S, hS⟩ : ∃ S, w.heap.size = S := ⟨_, rfl⟩
  have HS := Lib.hid hS
  have P := hash_pre t h w hS
  have X0 := Lib.hid P.1
  have X1 := Lib.hid P.2.1
  have B0 := Lib.hid P.2.2.1
  have Z0 := Lib.hid P.2.2.2
  have k0 := txk0 P.1
  have k2 := txk2 P.1
  rw [hk2] at k0
  have HI : Hid ((Tryz.prog.info? 39).map (·.size) = some (txC t h).length) := szL i39 (txC_len h ht)
  have CM : Hid (∀ w', Below S w w' → Calls Tryz.prog 16 #[.agg (txC t h).toArray] w' fun e w'' => e = .returned (.bool true) ∧ Below w'.heap.size w' w'') := Lib.hid fun w' hb => by
    have := dMayTx t h w' ht (hm.keep fun q hq => hb.block q (by rw [← hS]; exact hq)) hf
    rwa [hmay] at this
  have hn : t.ins.length ≤ 100 := hf.i
  obtain ⟨n, hn'⟩ : ∃ n, t.ins.length = n := ⟨_, rfl⟩
  rw [hn'] at k2 hge hn
  have hwn : IntKind.i64.wrap (n : Int) = (n : Int) := by rw [IntKind.wrap_i64]; omega
  have hz := z29b
  clear P hk2 hn' ht hm hmay hf
  go_enter Tryz.func23, Tryz.ntmps23
  go_upto_region 1 with (fail)
  generalize ((w.alloc (Obj.cells (txC t h).toArray 39)).alloc (Obj.cells (bvals (zeros 8)).toArray 29)) = v at *
  clear hz hS
  go_wp2_with (first
    | (refine wpList_load_midG (by rfl) 39 (.tmp 2) rfl S 0 rfl (txC t h) _ (range_of X0.out) Tryz.underlying39 rfl HI.out ?_)
    | (go_at_call 16; refine (CM.out _ B0.out).mono ?_; rintro e w2 ⟨rfl, hb⟩; have B1 := Lib.hid (B0.out.trans (hb.mono (by rw [Z0.out]; omega))); replace X1 := Lib.hid (bl_keep X1.out (hb.block (S + 1) (by rw [Z0.out]; omega))); have k2' : w2.cell? ⟨S, 2, none⟩ = some (.slice h.i.A n h.i.c) := (by rw [← k2]; simp only [World.cell?, hb.block S (by rw [Z0.out]; omega)]); clear hb)
    | (refine wpList_bld (by rfl) 29 _ rfl b29b ?_)
    | (refine wpList_store_rowTo rfl 29 (.tmp 4) (.tmp 29) rfl rfl (S + 1) (bvals (zeros 8)).toArray rfl rfl 29 (bvals (zeros 8)).toArray X1.out (szA i29 (bv8s (zeros_len 8))) rfl (all_oneCell_toArray (bv_one _)) ?_)
    | fail)
  exact bodyPost_ret (v := .tuple #[.agg (bvals (zeros 8)).toArray, .bool false]) (results_ch rfl _ _ (S + 1) _ _ rfl (range_of (setRow_heap _ _ _ _ _ _ X1.out)) (szL i29 (bv8s (zeros_len 8))) rfl) rfl ⟨rfl, by rw [HS.out]; exact below_setRow B1.out (by omega) _⟩
end Go.Proofs.YtffaddefnpkcgaaGreatDoor
namespace Go.Proofs.YtffaddefnpkcgaaGreatDoor
open Go.RowKit
set_option maxRecDepth 100000
theorem blank_next {rs : List (List Int)} {k : Nat} (h : k < rs.length) : ((rs.take (k + 1)).map blank) = (rs.take k).map blank ++ [blank (rcd rs k)] := by
  have : rs.take (k + 1) = rs.take k ++ [rcd rs k] := by rw [List.take_add_one, List.getElem?_eq_getElem h]; simp [rcd, List.getD, h]
  rw [this, List.map_append]
  rfl
theorem blank_all {t : TxP} (ht : WfT t) : AllR inS (t.ins.map blank) := (blank_wf ht).ins
theorem mem_blank {w : World} {t : TxP} {h : TxH} {g c k : Nat} (m : Mem w t h) (hk : t.ins.length = k) (hr : LRow inS w (some ⟨g, 0, none⟩) (t.ins.map blank)) (hc : Cap ⟨some ⟨g, 0, none⟩, c⟩ k) : Mem w (blankT t) (inAt h g c) := by
  have hl : (blankT t).ins.length = k := (List.length_map _).trans hk
  exact ⟨hr, m.o, m.f, m.k, m.co, m.cs, by rw [hl]; exact hc, m.oc, m.fc, m.kc, m.coc, m.csc⟩
theorem run_bld63 {o : Oper} {ev : Operand → Value} {w : World} {r : List Int} (h : r.length = 298) (ho : o.op = .build 63 #[(0, .tmp 43), (1, .tmp 49)]) (h0 : ev (.tmp 43) = .agg (vals pS (r.take 9)).toArray) (h1 : ev (.tmp 49) = .agg (bvals (seg r 9 8)).toArray) : (execOp ev o).run Tryz.prog w = .ok (.value (.agg (vals inS (blank r)).toArray)) w := by
  unfold execOp
  simp only [ho, List.map_toArray, List.map_cons, List.map_nil, h0, h1, Sem.run_bind, b63 r h, Result.andThen_ok, Sem.run_pure]
theorem bvL8 {x : List Int} (h : x.length = 8) : (bvals x).length = 8 := by rw [bvals, List.length_map, h]
attribute [local irreducible] zeros bvals vals parC cerC claC txC cel seg hash1 hash2 zsig flat encT mayT blankT win blank pS rcd
set_option maxHeartbeats 8000000 in
theorem dMsgY (t : TxP) (h : TxH) (i : Nat) (w : World) (ht : WfT t) (hm : Mem w t h) (hf : FewT t) (hk2 : t.kind = 2) (hmay : mayT t = true) (hi : i < t.ins.length) :
    Calls Tryz.prog 23 #[.agg (txC t h).toArray, .int .i64 (i : Int)] w fun e w' => e = .returned (.tuple #[.agg (bvals (hash2 105 (encT (blankT t)) [(i : Int)])).toArray, .bool true]) ∧ Below w.heap.size w w' := by
  obtain ⟨S, hS⟩ : ∃ S, w.heap.size = S := ⟨_, rfl⟩
  have HS := Lib.hid hS
  obtain ⟨n, hn⟩ : ∃ n, t.ins.length = n := ⟨_, rfl⟩
  have HN := Lib.hid hn
  have hn8 : n ≤ 8 := by rw [← hn]; exact (may_ins hmay hk2).2
  obtain ⟨b, o, hA, hrow⟩ := lrow_at hm.i (by omega)
  obtain ⟨c, hc⟩ : ∃ c, h.i.c = c := ⟨_, rfl⟩
  have hnc : n ≤ c := by rw [← hn, ← hc]; exact hm.ic.le
  have P := hash_pre t h w hS
  have X0 := Lib.hid P.1
  have X1 := Lib.hid P.2.1
  have B0 := Lib.hid P.2.2.1
  have Z0 := Lib.hid P.2.2.2
  have k0 := txk0 P.1
  have KC : Hid (∀ w', BL w' S (txC t h) 39 → w'.cell? ⟨S, 2, none⟩ = some (.slice (some ⟨b, o, none⟩) n c)) := Lib.hid fun w' hb => by
    have := txk2 hb
    rwa [hA, hn, hc] at this
  have k2 := KC.out _ P.1
  rw [hk2] at k0
  have HT := Lib.hid ht
  have HM := Lib.hid hm
  have HF := Lib.hid hf
  have HMAY := Lib.hid hmay
  have HK2 := Lib.hid hk2
  have HI := Lib.hid (szL i39 (txC_len h ht))
  have hwn : IntKind.i64.wrap (n : Int) = (n : Int) := by rw [IntKind.wrap_i64]; omega
  have hin : i < n := by omega
  have hlt : ¬ (i : Int) < 0 := by omega
  have hge : ¬ (n : Int) ≤ (i : Int) := by omega
  have hz := z29b
  have CMAY : Hid (∀ w', Below S w w' → Calls Tryz.prog 16 #[.agg (txC t h).toArray] w' fun e w'' => e = .returned (.bool true) ∧ Below w'.heap.size w' w'') := Lib.hid fun w' hb => by
    have := dMayTx t h w' HT.out (HM.out.keep fun q hq => hb.block q (by rw [← HS.out]; exact hq)) HF.out
    rwa [HMAY.out] at this
  have hbS : b < S := by
    rw [← hS]
    have h0 := hrow 0 (by omega)
    have hl := (lrow_len ht.ins (show 0 < t.ins.length by omega)).trans in298
    exact World.block_lt_of_cell? w _ (in_at h0 hl).2.1
  have HROW : Hid (∀ w' : World, (∀ q, q < S → w'.heap[q]? = w.heap[q]?) → ∀ j, j < t.ins.length → w'.rangeAt b (o + j * 298) (vals inS (rcd t.ins j))) := Lib.hid fun w' hb j hj => by
    have := range_keep1 (hrow j hj) (hb b hbS)
    rwa [in298] at this
  clear P ht hm hk2 hmay hi hrow hA hc hn hf hbS
  go_enter Tryz.func23, Tryz.ntmps23
  go_upto_region 1 with (fail)
  generalize ((w.alloc (Obj.cells (txC t h).toArray 39)).alloc (Obj.cells (bvals (zeros 8)).toArray 29)) = v at *
  clear hz hS
  go_upto_region 3 with (first
    | (refine wpList_load_midG (by rfl) 39 (.tmp 2) rfl S 0 rfl (txC t h) _ (range_of X0.out) Tryz.underlying39 rfl HI.out ?_)
    | (go_at_call 16; refine (CMAY.out _ B0.out).mono ?_; rintro e w2 ⟨rfl, hb⟩; have X2 : Hid (BL w2 S (txC t h) 39) := Lib.hid (bl_keep X0.out (hb.block S (by rw [Z0.out]; omega))); have k3 := KC.out _ X2.out; have HB2 := Lib.hid hb; clear hb k2)
    | fail)
  clear k0 k3
  have X3 : Hid (BL w2 (S + 1) (bvals (zeros 8)) 29) := Lib.hid (bl_keep X1.out (HB2.out.block (S + 1) (by rw [Z0.out]; omega)))
  have B2 : Hid (Below S w w2) := Lib.hid (B0.out.trans (HB2.out.mono (by rw [Z0.out]; omega)))
  have Z2 : Hid (S + 2 ≤ w2.heap.size) := by show _ ≤ _; rw [← Z0.out]; exact HB2.out.size
  clear X0 X1 B0 Z0 HB2 CMAY hlt hge
  go_wp2
  go_loopw [6, 7] (fun x i wr => ∃ (k : Nat) (A : Option Addr) (c' : Nat), k ≤ n ∧ i = .int .i64 k ∧ x = .slice A k c' ∧ OwR (S + 2) wr 63 298 inS A k c' ((t.ins.take k).map blank) ∧ Below (S + 2) w2 wr) (fun _ i _ => n - (intOf i).toNat)
  case atStart => exact ⟨0, none, 0, Nat.zero_le _, rfl, rfl, owR_nil _ _ _ _ _, Below.refl _ _⟩
  case round =>
    obtain ⟨k, A, c', hk, rfl, rfl, hown, hbel⟩ := hrel
    have OW := Lib.hid hown
    have BR := Lib.hid hbel
    have XR : Hid (BL wr S (txC t h) 39) := Lib.hid (bl_keep X2.out (hbel.block S (by omega)))
    have WN : Hid (S + 2 ≤ wr.heap.size) := Lib.hid (Nat.le_trans Z2.out hbel.size)
    have k6 := KC.out _ XR.out
    clear hown hbel
    by_cases hlt : k < n
    · have s1 : (k : Int) < (n : Int) := by omega
      have hl : Hid (k < t.ins.length) := by show _ < _; rw [HN.out]; exact hlt
      have L9 : Hid ((rcd t.ins k).length = 298) := Lib.hid ((lrow_len HT.out.ins hl.out).trans in298)
      have RK : Hid (∀ w' : World, (∀ q, q < S + 2 → w'.heap[q]? = wr.heap[q]?) → w'.rangeAt b (o + k * 298) (vals inS (rcd t.ins k))) := Lib.hid fun w' hh => HROW.out w' (fun q hq => (hh q (by omega)).trans ((BR.out.block q (by omega)).trans (B2.out.block q hq))) k hl.out
      have BN := Lib.hid (blank_next hl.out)
      obtain ⟨r, hr⟩ : ∃ r, rcd t.ins k = r := ⟨_, rfl⟩
      rw [hr] at L9 RK BN
      have I9 : Hid ((Tryz.prog.info? 61).map (·.size) = some (vals pS (r.take 9)).length) := szL i61 (pS_len L9.out)
      have I8 : Hid ((Tryz.prog.info? 29).map (·.size) = some (bvals (seg r 9 8)).length) := szL i29 (bvL8 (seg_len (by rw [L9.out]; decide)))
      have LB : Hid ((vals inS (blank r)).length = 298) := Lib.hid ((vals_len ((blank_len L9.out).trans in298.symm)).trans in298)
      clear hr
      go_wp2_with fail
      rename_i K hK
      clear k6
      have XX : Hid (Below (S + 2) wr wr.drew) := (Below.refl _ _).drew
      refine wp_region_held_drew (S := (fun w' : World => ∀ q, q < (S + 2) → w'.heap[q]? = wr.heap[q]?)) (by kernel_rfl) (by exact fun _ _ => rfl) (fun hHeld => ?_)
      refine tk (i := 0) (v := ?_) rfl (Or.inl ⟨by rfl, ?_⟩) (by assumption) ?_
      rotate_left
      · (intro w hSw; (try dsimp only at hSw); go_simp; try with_reducible rfl)
      simp only [Act.put, ly1, ly3, ly4, ly5, ly6]
      refine tk (i := 1) (v := ?_) rfl (Or.inl ⟨by rfl, ?_⟩) (by assumption) ?_
      rotate_left
      · (intro w hSw; (try dsimp only at hSw); go_simp; try with_reducible rfl)
      simp only [Act.put, ly1, ly2, ly3, ly4, ly5, ly6]
      refine tk (i := 2) (v := ?_) rfl (Or.inl ⟨by rfl, ?_⟩) (by assumption) ?_
      rotate_left
      · (intro w hSw; (try dsimp only at hSw); have c1 := KC.out w ((hSw S (by omega)).trans XR.out); go_simp; try with_reducible rfl)
      simp only [Act.put, ly1, ly2, ly3, ly4, ly5, ly6]
      refine tk (i := 3) (v := ?_) rfl (Or.inl ⟨by rfl, ?_⟩) (by assumption) ?_
      rotate_left
      · (intro w hSw; (try dsimp only at hSw); go_simp; try with_reducible rfl)
      simp only [Act.put, ly1, ly2, ly3, ly4, ly5, ly6]
      refine tk (i := 4) (v := ?_) rfl (Or.inl ⟨by rfl, ?_⟩) (by assumption) ?_
      rotate_left
      · (intro w hSw; (try dsimp only at hSw); go_simp; try with_reducible rfl)
      simp only [Act.put, ly1, ly2, ly3, ly4, ly5, ly6]
      refine tk (i := 5) (v := ?_) rfl (Or.inl ⟨by rfl, ?_⟩) (by assumption) ?_
      rotate_left
      · (intro w hSw; (try dsimp only at hSw); go_simp; try with_reducible rfl)
      simp only [Act.put, ly1, ly2, ly3, ly4, ly5, ly6]
      refine tk (i := 6) rfl (yieldsIf_load_mid (by rfl) 61 (.tmp 42) rfl (b) (o + k * 298) rfl (vals pS (r.take 9)) _ (fun w h => (in_rng (RK.out w h) L9.out).1) Tryz.underlying61 rfl I9.out) (by assumption) ?_
      simp only [Act.put, ly1, ly2, ly3, ly4, ly5, ly6]
      refine tk (i := 7) (v := ?_) rfl (Or.inl ⟨by rfl, ?_⟩) (by assumption) ?_
      rotate_left
      · (intro w hSw; (try dsimp only at hSw); go_simp; try with_reducible rfl)
      simp only [Act.put, ly1, ly2, ly3, ly4, ly5, ly6]
      refine tk (i := 8) (v := ?_) rfl (Or.inl ⟨by rfl, ?_⟩) (by assumption) ?_
      rotate_left
      · (intro w hSw; (try dsimp only at hSw); have c1 := KC.out w ((hSw S (by omega)).trans XR.out); go_simp; try with_reducible rfl)
      simp only [Act.put, ly1, ly2, ly3, ly4, ly5, ly6]
      refine tk (i := 9) (v := ?_) rfl (Or.inl ⟨by rfl, ?_⟩) (by assumption) ?_
      rotate_left
      · (intro w hSw; (try dsimp only at hSw); go_simp; try with_reducible rfl)
      simp only [Act.put, ly1, ly2, ly3, ly4, ly5, ly6]
      refine tk (i := 10) (v := ?_) rfl (Or.inl ⟨by rfl, ?_⟩) (by assumption) ?_
      rotate_left
      · (intro w hSw; (try dsimp only at hSw); go_simp; try with_reducible rfl)
      simp only [Act.put, ly1, ly2, ly3, ly4, ly5, ly6]
      refine tk (i := 11) (v := ?_) rfl (Or.inl ⟨by rfl, ?_⟩) (by assumption) ?_
      rotate_left
      · (intro w hSw; (try dsimp only at hSw); go_simp; try with_reducible rfl)
      simp only [Act.put, ly1, ly2, ly3, ly4, ly5, ly6]
      refine tk (i := 12) rfl (yieldsIf_load_mid (by rfl) 29 (.tmp 48) rfl (b) (o + k * 298 + 9) rfl (bvals (seg r 9 8)) _ (fun w h => (in_rng (RK.out w h) L9.out).2) Tryz.underlying29 rfl I8.out) (by assumption) ?_
      simp only [Act.put, ly1, ly2, ly3, ly4, ly5, ly6]
      refine tk (i := 13) (v := .agg (vals inS (blank r)).toArray) rfl (Or.inl ⟨by rfl, fun w _ => run_bld63 L9.out rfl rfl rfl⟩) (by assumption) ?_
      simp only [Act.put, ly1, ly2, ly3, ly4, ly5, ly6]
      refine wpAnyH_ready (rs := [14]) (by kernel_rfl) (by simp) ?_
      refine AllReadyH.cons rfl (fun K hK => ?_) AllReadyH.nil
      refine step_bs1 (by rfl) (t := 22) (.tmp 50) (vals inS (blank r)) rfl rfl Tryz.underlying22 rtIn.hi LB.out (by decide) (by decide) ?_
      have XN : Hid (Below (S + 2) wr (wr.drew.alloc (Obj.cells (vals inS (blank r)).toArray 63))) := Lib.hid (XX.out.alloc (by have := XX.out.size; have := WN.out; omega) _)
      have R7 : Hid ((wr.drew.alloc (Obj.cells (vals inS (blank r)).toArray 63)).rangeAt wr.drew.heap.size 0 (vals inS (blank r))) := Lib.hid (range_new _ _ _)
      have O4 : Hid (OwR (S + 2) (wr.drew.alloc (Obj.cells (vals inS (blank r)).toArray 63)) 63 298 inS A k c' ((t.ins.take k).map blank)) := Lib.hid (owR_keep OW.out fun q _ hq _ => (Below.heap_alloc _ _ q (by exact hq)).trans rfl)
      have S7 : Hid (S + 2 ≤ (wr.drew.alloc (Obj.cells (vals inS (blank r)).toArray 63)).heap.size) := Lib.hid (Nat.le_trans WN.out XN.out.size)
      clear XX hHeld
      have XX := XN
      clear XN
      refine hK.out _ _ (by exact fun q hq => XX.out.block q hq) (fun hHeld => ?_)
      clear hK K
      refine wpAnyH_ready (rs := [15]) (by kernel_rfl) (by simp) ?_
      refine AllReadyH.cons rfl (fun K hK => ?_) AllReadyH.nil
      refine step_apR rtIn rfl (.tmp 37) (.tmp 51) rfl (S + 2) k A c' _ rfl O4.out wr.drew.heap.size 0 (blank r) rfl ((blank_len L9.out).trans in298.symm) R7.out (by omega) S7.out ?_
      intro A5 c5 w5 ho hba _
      have O5 := Lib.hid ho
      have XN : Hid (Below (S + 2) wr w5) := Lib.hid (XX.out.trans hba)
      clear XX hHeld ho hba
      have XX := XN
      clear XN
      refine hK.out _ _ (by exact fun q hq => XX.out.block q hq) (fun hHeld => ?_)
      clear hK K
      refine tk (i := 16) (v := ?_) rfl (Or.inl ⟨by rfl, ?_⟩) (by assumption) ?_
      rotate_left
      · (intro w hSw; (try dsimp only at hSw); go_simp; try with_reducible rfl)
      simp only [Act.put, ly1, ly2, ly3, ly4, ly5, ly6]
      refine wpAnyH_done (by kernel_rfl) ?_ _
      show K _ _
      refine hK _ _ ?_
      clear hK K hHeld
      go_wp2
      go_roundw
      case rel => exact ⟨k + 1, A5, c5, by omega, by go_num, rfl, by rw [BN.out]; exact O5.out, BR.out.trans XX.out⟩
      case measure => simp [intOf]; omega
    · have hkn : k = n := by omega
      subst hkn
      have s1 : ¬ (k : Int) < (k : Int) := by omega
      have AB : Hid (AllR inS (t.ins.map blank)) := Lib.hid (blank_all HT.out)
      have RC := owR_row OW.out in298 (by have := AB.out; rw [show t.ins.take k = t.ins from by rw [← HN.out, List.take_length]]; exact this)
      rw [show t.ins.take k = t.ins from by rw [← HN.out, List.take_length]] at RC
      obtain ⟨g, hg⟩ : ∃ g, A = some ⟨g, 0, none⟩ := by
        rcases OW.out.1.2 with ⟨_, h0⟩ | ⟨g, _, _, e1, _⟩
        · omega
        · injection e1 with e1 _ _
          exact ⟨g, e1⟩
      subst hg
      have R9 := Lib.hid RC.1
      have C9 := Lib.hid RC.2
      have G9 : Hid (S + 2 ≤ g ∧ g < wr.heap.size) := Lib.hid (owR_lt OW.out g rfl)
      have f6 : wr.frozen? ⟨S, 2, none⟩ = false := bl_free XR.out 2
      clear RC OW
      go_upto_region 9 with fail
      clear k6 f6
      have X9 : Hid (BL (wr.setCell ⟨S, 2, none⟩ (.slice (some ⟨g, 0, none⟩) k c')) S (txC (blankT t) (inAt h g c')) 39) := Lib.hid (by rw [inAt_bk]; exact inAt_bl XR.out HN.out)
      have Z9 : Hid (BL (wr.setCell ⟨S, 2, none⟩ (.slice (some ⟨g, 0, none⟩) k c')) (S + 1) (bvals (zeros 8)) 29) := Lib.hid (bl_keep (bl_keep X3.out (BR.out.block (S + 1) (by omega))) (heap_setCell_other _ _ _ _ (show S + 1 ≠ S by omega)))
      have B9 : Hid (Below S w (wr.setCell ⟨S, 2, none⟩ (.slice (some ⟨g, 0, none⟩) k c'))) := Lib.hid ((B2.out.trans (BR.out.mono (by omega))).setCell (Nat.le_refl _) _)
      have M9 : Hid (Mem (wr.setCell ⟨S, 2, none⟩ (.slice (some ⟨g, 0, none⟩) k c')) (blankT t) (inAt h g c')) := Lib.hid (by
        have m := HM.out.keep fun q hq => B9.out.block q (by rw [← HS.out]; exact hq)
        refine mem_blank m HN.out ?_ C9.out
        rcases R9.out with e | ⟨b', o', e, hh⟩
        · exact .inl e
        · injection e with e1
          injection e1 with e2 e3
          subst e2 e3
          exact .inr ⟨g, 0, rfl, fun j hj => range_keep1 (hh j hj) (heap_setCell_other _ _ _ _ (show g ≠ S by have := G9.out; omega))⟩)
      have W9 : Hid (WfT (blankT t)) := Lib.hid (blank_wf HT.out)
      have H9 : Hid (mayT (blankT t) = true) := Lib.hid (blank_may HT.out HMAY.out HK2.out)
      have F9 : Hid (FewT (blankT t)) := Lib.hid (blank_few HF.out)
      have I9 := Lib.hid (szL i39 (txC_len (inAt h g c') W9.out))
      have S9 : Hid (S + 2 ≤ (wr.setCell ⟨S, 2, none⟩ (.slice (some ⟨g, 0, none⟩) k c')).heap.size) := Lib.hid (by rw [World.size_setCell]; exact WN.out)
      have hu8 : IntKind.u8.wrap (i : Int) = (i : Int) := by rw [IntKind.wrap_u8]; omega
      clear XR BR X2 X3 B2 Z2 WN R9 C9 G9 HROW
      generalize (wr.setCell ⟨S, 2, none⟩ (.slice (some ⟨g, 0, none⟩) k c')) = w8 at *
      have EN := Lib.hid (dEncY (blankT t) (inAt h g c') w8 W9.out M9.out F9.out H9.out)
      have LE := Lib.hid (enc_le W9.out H9.out)
      go_upto_region 10 with (first
        | (refine wpList_load_midG (by rfl) 39 (.tmp 2) rfl S 0 rfl (txC (blankT t) (inAt h g c')) _ (range_of X9.out) Tryz.underlying39 rfl I9.out ?_)
        | (go_at_call 12; refine EN.out.mono ?_; rintro e w9 ⟨⟨A1, c1, rfl, hr, hl, hno, hx⟩, hb⟩; have R1 := Lib.hid hr; have L1 := Lib.hid hl; have N1 := Lib.hid hno; have M1 := Lib.hid hx; have ZA : Hid (BL w9 (S + 1) (bvals (zeros 8)) 29) := Lib.hid (bl_keep Z9.out (hb.block (S + 1) (by have := S9.out; omega))); have BA := Lib.hid (B9.out.trans (hb.mono (by have := S9.out; omega))); have SA : Hid (S + 2 ≤ w9.heap.size) := Lib.hid (Nat.le_trans S9.out hb.size); clear hb hr hl hno hx)
        | fail)
      obtain ⟨m, hmm⟩ : ∃ m, (encT (blankT t)).length = m := ⟨_, rfl⟩
      have HMM := Lib.hid hmm
      rw [hmm]
      clear hmm
      go_wp2_with fail
      obtain ⟨N, hN⟩ : ∃ N, w9.heap.size = N := ⟨_, rfl⟩
      have BX : Hid (Below N w9 ((w9.alloc (Obj.cells #[.int .u8 (i : Int)] 5)).alloc (Obj.cells #[.slice A1 m c1, .slice (some ⟨N, 0, none⟩) 1 1] 42))) := by rw [← hN]; exact ((Below.refl _ w9).alloc (Nat.le_refl _) _).alloc (by simp) _
      have C0 : ((w9.alloc (Obj.cells #[.int .u8 (i : Int)] 5)).alloc (Obj.cells #[.slice A1 m c1, .slice (some ⟨N, 0, none⟩) 1 1] 42)).cell? ⟨N + 1, 0, none⟩ = some (.slice A1 m c1) := by
        have hl := heap_alloc_last (w9.alloc (Obj.cells #[.int .u8 (i : Int)] 5)) (Obj.cells #[.slice A1 m c1, .slice (some ⟨N, 0, none⟩) 1 1] 42)
        rw [World.size_alloc, hN] at hl
        exact (cell_of_row _ _ 0 _ 42 (0, 0) hl).trans rfl
      have C1 : ((w9.alloc (Obj.cells #[.int .u8 (i : Int)] 5)).alloc (Obj.cells #[.slice A1 m c1, .slice (some ⟨N, 0, none⟩) 1 1] 42)).cell? ⟨N + 1, 1, none⟩ = some (.slice (some ⟨N, 0, none⟩) 1 1) := by
        have hl := heap_alloc_last (w9.alloc (Obj.cells #[.int .u8 (i : Int)] 5)) (Obj.cells #[.slice A1 m c1, .slice (some ⟨N, 0, none⟩) 1 1] 42)
        rw [World.size_alloc, hN] at hl
        exact (cell_of_row _ _ 1 _ 42 (0, 0) hl).trans rfl
      have C2 : Src ((w9.alloc (Obj.cells #[.int .u8 (i : Int)] 5)).alloc (Obj.cells #[.slice A1 m c1, .slice (some ⟨N, 0, none⟩) 1 1] 42)) (some ⟨N, 0, none⟩) 1 [(i : Int)] := by
        refine ⟨rfl, .inr ⟨N, 0, rfl, fun j hj => ?_⟩⟩
        obtain rfl : j = 0 := by omega
        have e1 : (w9.alloc (Obj.cells #[.int .u8 (i : Int)] 5)).cell? ⟨N, 0, none⟩ = some (.int .u8 (i : Int)) := by rw [← hN]; exact cell_of_one (heap_alloc_last w9 _)
        refine Eq.trans ?_ e1
        simp only [World.cell?]
        rw [Below.heap_alloc _ _ N (by rw [World.size_alloc]; omega)]
      have DG := dTwo 105 A1 (some ⟨N, 0, none⟩) m c1 1 1 2 (N + 1) (encT (blankT t)) [(i : Int)] _ C0 ((src_row HMM.out R1.out).keep fun q hq => BX.out.block q (by rw [← hN]; exact hq)) (by rw [← HMM.out]; exact L1.out) M1.out (by have := LE.out; have := HMM.out; omega) N1.out C1 C2 (Nat.le_refl _) (by decide) (by decide) (fun h => by cases h)
      rw [hN]
      refine DG.mono ?_
      rintro e w11 ⟨rfl, hb11⟩
      have S11 : Hid (N ≤ ((w9.alloc (Obj.cells #[.int .u8 (i : Int)] 5)).alloc (Obj.cells #[.slice A1 m c1, .slice (some ⟨N, 0, none⟩) 1 1] 42)).heap.size) := Lib.hid (Nat.le_trans (Nat.le_of_eq hN.symm) BX.out.size)
      have X11 : Hid (BL w11 (S + 1) (bvals (zeros 8)) 29) := Lib.hid (bl_keep (bl_keep ZA.out (BX.out.block (S + 1) (by have := SA.out; omega))) (hb11.block (S + 1) (by have := S11.out; have := SA.out; omega)))
      have B11 : Hid (Below S w w11) := Lib.hid ((BA.out.trans (BX.out.mono (by have := SA.out; omega))).trans (hb11.mono (by have := S11.out; have := SA.out; omega)))
      have H8 := Lib.hid (hash2_len 105 (encT (blankT t)) [(i : Int)])
      clear hb11 DG C0 C1 C2
      go_wp2_with (first
        | (refine wpList_store_rowTo rfl 29 (.tmp 4) (.tmp 65) rfl rfl (S + 1) (bvals (hash2 105 (encT (blankT t)) [(i : Int)])).toArray rfl rfl 29 (bvals (zeros 8)).toArray X11.out (szA i29 (bv8s H8.out)) (by rw [List.size_toArray, List.size_toArray, bv8s H8.out, bv8s (zeros_len 8)]) (all_oneCell_toArray (bv_one _)) ?_)
        | fail)
      exact bodyPost_ret (v := .tuple #[.agg (bvals (hash2 105 (encT (blankT t)) [(i : Int)])).toArray, .bool true]) (results_ch rfl _ _ (S + 1) _ _ rfl (range_of (setRow_heap _ _ _ _ _ _ X11.out)) (szL i29 (bv8s H8.out)) rfl) rfl ⟨rfl, by rw [HS.out]; exact below_setRow B11.out (by omega) _⟩
end Go.Proofs.YtffaddefnpkcgaaGreatDoor
namespace Go.Proofs.YtffaddefnpkcgaaGreatDoor
open Go.RowKit
set_option maxRecDepth 100000
theorem msg_no {t : TxP} {i : Int} (h : msgB t i = false) : msgP t i = zeros 8 := by unfold msgP; rw [if_neg (by rw [h]; decide)]
theorem msg_yes {t : TxP} {i : Int} (h : msgB t i = true) : msgP t i = hash2 105 (encT (blankT t)) [i] := by unfold msgP; rw [if_pos h]
theorem msgP_len (t : TxP) (i : Int) : (msgP t i).length = 8 := by
  unfold msgP
  split
  · exact hash2_len _ _ _
  · exact zeros_len 8
theorem tMsg (t : TxP) (h : TxH) (i : Int) (w : World) (ht : WfT t) (hm : Mem w t h) (hk : Keys w) (hf : FewT t) :
    Calls Tryz.prog 22 #[.agg (txC t h).toArray, .int .i64 i] w fun e w' => e = .returned (.tuple #[.agg (bvals (msgP t i)).toArray, .bool (msgB t i)]) ∧ Below w.heap.size w w' := by
  cases hb : msgB t i
  · rw [msg_no hb]
    by_cases k2 : t.kind = 2
    · cases hw : win 0 ((t.ins.length : Int) - 1) i
      · exact tMsgN2 t h i w hf.i k2 hw
      · refine tMsgN3 t h i w ht hm hf.i k2 hw ?_
        unfold msgB at hb
        rw [decide_eq_true k2, hw, Bool.and_true, Bool.true_and] at hb
        exact hb
    · exact tMsgN t h i w k2
  · rw [msg_yes hb]
    unfold msgB at hb
    rw [Bool.and_eq_true, Bool.and_eq_true, decide_eq_true_iff, win_iff] at hb
    obtain ⟨j, rfl⟩ := Int.eq_ofNat_of_zero_le hb.2.2.1
    exact tMsgY t h j w ht hm hk hb.1 hb.2.1 (by omega)
theorem dMsg (t : TxP) (h : TxH) (i : Int) (w : World) (ht : WfT t) (hm : Mem w t h) (hf : FewT t) :
    Calls Tryz.prog 23 #[.agg (txC t h).toArray, .int .i64 i] w fun e w' => e = .returned (.tuple #[.agg (bvals (msgP t i)).toArray, .bool (msgB t i)]) ∧ Below w.heap.size w w' := by
  cases hb : msgB t i
  · rw [msg_no hb]
    by_cases k2 : t.kind = 2
    · cases hy : mayT t
      · exact dMsgN2 t h i w ht hm hf k2 hy
      · unfold msgB at hb
        rw [decide_eq_true k2, hy, Bool.true_and, Bool.true_and] at hb
        by_cases hl : i < 0
        · exact dMsgN3 t h i w ht hm hf k2 hy hl
        · refine dMsgN4 t h i w ht hm hf k2 hy hl ?_
          rw [← Bool.not_eq_true, win_iff] at hb
          omega
    · exact dMsgN1 t h i w k2
  · rw [msg_yes hb]
    unfold msgB at hb
    rw [Bool.and_eq_true, Bool.and_eq_true, decide_eq_true_iff, win_iff] at hb
    obtain ⟨j, rfl⟩ := Int.eq_ofNat_of_zero_le hb.2.2.1
    exact dMsgY t h j w ht hm hf hb.1 hb.2.1 (by omega)
def sigT (t : TxP) (i : Nat) (sg : List Int) : TxP := { t with ins := t.ins.set i ((rcd t.ins i).take 17 ++ sg) }
theorem set_rec {r sg : List Int} (h : okT okA inS r) (hs : okT okA sigS sg) : okT okA inS (r.take 17 ++ sg) ∧ blank (r.take 17 ++ sg) = blank r := by
  have h17 := (blank_ok h).2.1
  have hl : (r.take 17).length = 17 := (okT_len h17).trans s17_len
  refine ⟨?_, ?_⟩
  · rw [in17]
    exact okT_app.2 ⟨by rw [s17_len, List.take_left' hl]; exact h17, by rw [s17_len, List.drop_left' hl]; exact hs⟩
  · unfold blank
    rw [List.take_left' hl]
theorem sigT_wf {t : TxP} {i : Nat} {sg : List Int} (h : WfT t) (hs : okT okA sigS sg) (hi : i < t.ins.length) : WfT (sigT t i sg) := by
  have hr : okT okA inS (rcd t.ins i) := h.ins _ (by rw [rcd_get' hi]; exact List.getElem_mem hi)
  refine { h with ins := fun q hq => ?_ }
  rcases List.mem_or_eq_of_mem_set hq with hq | rfl
  · exact h.ins q hq
  · exact (set_rec hr hs).1
theorem sigT_blank {t : TxP} {i : Nat} {sg : List Int} (h : WfT t) (hs : okT okA sigS sg) (hi : i < t.ins.length) : blankT (sigT t i sg) = blankT t := by
  have hr : okT okA inS (rcd t.ins i) := h.ins _ (by rw [rcd_get' hi]; exact List.getElem_mem hi)
  show { t with ins := ((t.ins.set i ((rcd t.ins i).take 17 ++ sg)).map blank) } = { t with ins := t.ins.map blank }
  have e : (t.ins.set i ((rcd t.ins i).take 17 ++ sg)).map blank = t.ins.map blank := by
    rw [List.map_set, (set_rec hr hs).2, rcd_get' hi, show blank t.ins[i] = (t.ins.map blank)[i]'(by simpa using hi) by simp, List.set_getElem_self]
  rw [e]
theorem set_in {r sg : List Int} (h : okT okA inS r) (m : mIn r = true) (h0 : 0 ≤ cel sg 0 ∧ cel sg 0 ≤ 255) : mIn (r.take 17 ++ sg) = true ∧ seg (r.take 17 ++ sg) 0 9 = seg r 0 9 := by
  have hl : r.length = 298 := (okT_len h).trans in298
  have h17 : (r.take 17).length = 17 := by rw [List.length_take]; omega
  have e9 : seg (r.take 17 ++ sg) 0 9 = seg r 0 9 := by
    unfold seg
    rw [List.drop_zero, List.drop_zero, List.take_append_of_le_length (by omega), List.take_take, Nat.min_eq_left (by omega)]
  have e8 : cel (r.take 17 ++ sg) 8 = cel r 8 := by
    unfold cel
    rw [List.getD_eq_getElem?_getD, List.getD_eq_getElem?_getD, List.getElem?_append_left (by omega), List.getElem?_take, if_pos (by omega)]
  have ez : cel (r.take 17 ++ sg) 17 = cel sg 0 := by
    unfold cel
    rw [List.getD_eq_getElem?_getD, List.getElem?_append_right (by omega), h17, List.getD_eq_getElem?_getD]
  refine ⟨?_, e9⟩
  unfold mIn at m ⊢
  rw [e8, ez]
  rw [Bool.and_eq_true] at m ⊢
  exact ⟨m.1, win_iff.2 h0⟩
theorem sigT_may {t : TxP} {i : Nat} {sg : List Int} (h : WfT t) (hi : i < t.ins.length) (m : mayT t = true) (k : t.kind = 2) (h0 : 0 ≤ cel sg 0 ∧ cel sg 0 ≤ 255) : mayT (sigT t i sg) = true := by
  have hr : okT okA inS (rcd t.ins i) := h.ins _ (by rw [rcd_get' hi]; exact List.getElem_mem hi)
  rw [may_zer, Bool.and_eq_true] at m ⊢
  obtain ⟨m1, m2⟩ := m
  constructor
  · unfold zerT zI at m1 ⊢
    rw [show (sigT t i sg).kind = t.kind from rfl, k] at *
    exact m1
  · unfold mFld at m2 ⊢
    rw [show (sigT t i sg).kind = t.kind from rfl]
    rw [if_neg (by omega), if_pos k] at m2 ⊢
    unfold mPay mIns mLis mPts at m2 ⊢
    simp only [Bool.and_eq_true, List.all_eq_true] at m2 ⊢
    obtain ⟨⟨⟨a, b⟩, c⟩, d⟩ := m2
    have hm := b (rcd t.ins i) (by rw [rcd_get' hi]; exact List.getElem_mem hi)
    have S := set_in hr hm h0
    refine ⟨⟨⟨by rw [show (sigT t i sg).ins.length = t.ins.length from List.length_set]; exact a, fun r hr2 => ?_⟩, ?_⟩, d⟩
    · rcases List.mem_or_eq_of_mem_set hr2 with hq | rfl
      · exact b r hq
      · exact S.1
    · rw [show (sigT t i sg).ins.map (fun r => seg r 0 9) = t.ins.map (fun r => seg r 0 9) from ?_]
      · exact c
      · show (t.ins.set i _).map _ = _
        rw [List.map_set, S.2, rcd_get' hi, show seg t.ins[i] 0 9 = (t.ins.map fun r => seg r 0 9)[i]'(by simpa using hi) by simp, List.set_getElem_self]
theorem sigT_msg {t : TxP} {i : Nat} {sg : List Int} (h : WfT t) (hs : okT okA sigS sg) (hb : msgB t i = true) (h0 : 0 ≤ cel sg 0 ∧ cel sg 0 ≤ 255) : msgB (sigT t i sg) i = true ∧ msgP (sigT t i sg) i = msgP t i := by
  have hb' := hb
  unfold msgB at hb
  rw [Bool.and_eq_true, Bool.and_eq_true, decide_eq_true_iff] at hb
  have hi : i < t.ins.length := by have := win_iff.1 hb.2.2; omega
  have e1 : msgB (sigT t i sg) i = true := by
    unfold msgB
    rw [Bool.and_eq_true, Bool.and_eq_true, decide_eq_true_iff]
    exact ⟨hb.1, sigT_may h hi hb.2.1 hb.1 h0, by rw [show (sigT t i sg).ins.length = t.ins.length from List.length_set]; exact hb.2.2⟩
  exact ⟨e1, by rw [msg_yes e1, msg_yes hb', sigT_blank h hs hi]⟩
theorem sigT_few {t : TxP} {i : Nat} {sg : List Int} (h : FewT t) : FewT (sigT t i sg) := ⟨by rw [show (sigT t i sg).ins.length = t.ins.length from List.length_set]; exact h.i, h.o, h.f, h.k, h.co, h.cs⟩
end Go.Proofs.YtffaddefnpkcgaaGreatDoor
namespace Go.Proofs.YtffaddefnpkcgaaGreatDoor
open Go.RowKit
set_option maxRecDepth 100000
theorem flat_one1 (S : Sch) (r : List Int) : flat S [r] = vals S r := by simp [flat]
theorem flat_ap (S : Sch) (xs ys : List (List Int)) : flat S (xs ++ ys) = flat S xs ++ flat S ys := by simp [flat]
theorem sig_step {i : Nat} {rs : List (List Int)} {pad : List Value} {sg : List Int} (h : AllR inS rs) (hi : i < rs.length) :
    (flat inS rs ++ pad).take (i * 298 + 17) ++ (vals sigS sg ++ (flat inS rs ++ pad).drop (i * 298 + 17 + 281)) = flat inS (rs.set i ((rcd rs i).take 17 ++ sg)) ++ pad := by
  obtain ⟨r, hr⟩ : ∃ r, rcd rs i = r := ⟨_, rfl⟩
  have hri : rs[i] = r := by rw [← rcd_get' hi, hr]
  have hw : okT okA inS r := h r (by rw [← hri]; exact List.getElem_mem hi)
  obtain ⟨_, b1, b2⟩ := blank_ok hw
  have l0 : (flat inS (rs.take i)).length = i * 298 := by
    rw [flat_len (fun q hq => h q (List.mem_of_mem_take hq)), List.length_take, in298, Nat.min_eq_left (by omega)]
  have l1 : (vals s17 (r.take 17)).length = 17 := (vals_len (okT_len b1)).trans s17_len
  have l2 : (vals sigS (r.drop 17)).length = 281 := (vals_len (okT_len b2)).trans sgl281
  have hl : r.length = 298 := (okT_len hw).trans in298
  have h17 : (r.take 17).length = 17 := by rw [List.length_take]; omega
  have e1 : vals inS r = vals s17 (r.take 17) ++ vals sigS (r.drop 17) := by rw [in17, vals_app (by rw [s17_len]; omega), s17_len]
  have e2 : vals inS (r.take 17 ++ sg) = vals s17 (r.take 17) ++ vals sigS sg := by
    rw [in17, vals_app (by rw [s17_len, List.length_append]; omega), s17_len, List.take_left' h17, List.drop_left' h17]
  have d1 : rs = rs.take i ++ ([r] ++ rs.drop (i + 1)) := by
    rw [List.singleton_append, ← hri, ← List.drop_eq_getElem_cons hi, List.take_append_drop]
  have d2 : rs.set i (r.take 17 ++ sg) = rs.take i ++ ([r.take 17 ++ sg] ++ rs.drop (i + 1)) := by
    rw [List.set_eq_take_append_cons_drop, if_pos hi, List.singleton_append]
  have f1 : flat inS rs ++ pad = (flat inS (rs.take i) ++ vals s17 (r.take 17)) ++ (vals sigS (r.drop 17) ++ (flat inS (rs.drop (i + 1)) ++ pad)) := by
    conv => lhs; rw [d1]
    rw [flat_ap, flat_ap, flat_one1, e1]
    simp only [List.append_assoc]
  have f2 : flat inS (rs.set i (r.take 17 ++ sg)) ++ pad = (flat inS (rs.take i) ++ vals s17 (r.take 17)) ++ (vals sigS sg ++ (flat inS (rs.drop (i + 1)) ++ pad)) := by
    rw [d2, flat_ap, flat_ap, flat_one1, e2]
    simp only [List.append_assoc]
  rw [hr, f1, f2]
  exact mid_set (by rw [List.length_append, l0, l1]) l2
theorem sig_room {i : Nat} {rs : List (List Int)} {pad : List Value} {sg : List Int} (h : AllR inS rs) (hs : okT okA sigS sg) (hi : i < rs.length) : i * 298 + 17 + (vals sigS sg).length ≤ (flat inS rs ++ pad).length := by
  rw [vals_len (okT_len hs), sgl281, List.length_append, flat_len h, in298]
  have : (i + 1) * 298 ≤ rs.length * 298 := Nat.mul_le_mul_right _ hi
  omega
theorem sigT_mem {w : World} {t : TxP} {h : TxH} {i g c : Nat} {pad : List Value} {sg : List Int} (m : Mem w t h) (ht : WfT t) (hs : okT okA sigS sg) (hi : i < t.ins.length) (hg : BL w g (flat inS (t.ins.set i ((rcd t.ins i).take 17 ++ sg)) ++ pad) 63) (hle : t.ins.length ≤ c) (hmx : c ≤ maxLen) : Mem w (sigT t i sg) (inAt h g c) := by
  have hl : (sigT t i sg).ins.length = t.ins.length := List.length_set
  exact ⟨.inr ⟨g, 0, rfl, rng_flat (sigT_wf ht hs hi).ins (range_app (range_of hg)).1⟩, m.o, m.f, m.k, m.co, m.cs, ⟨by rw [hl]; exact hle, hmx, fun h => by cases h⟩, m.oc, m.fc, m.kc, m.coc, m.csc⟩
theorem sigT_txC {t : TxP} {h : TxH} {i : Nat} {sg : List Int} : txC (sigT t i sg) h = txC t h := by
  have e : (sigT t i sg).ins.length = t.ins.length := List.length_set
  unfold txC
  rw [e]
  rfl
def sgnT (t : TxP) (sg : List Int) : TxP := { t with csigs := [1 :: sg] }
def sgnH (h : TxH) (g : Nat) : TxH := { h with cs := ⟨some ⟨g, 0, none⟩, 1⟩ }
theorem sgn_ok {sg : List Int} (hs : okT okA sigS sg) : okT okA sgnS (1 :: sg) := ⟨⟨by decide, by decide⟩, hs⟩
theorem sgnT_wf {t : TxP} {sg : List Int} (h : WfT t) (hs : okT okA sigS sg) : WfT (sgnT t sg) := { h with csigs := fun r hr => by rw [List.mem_singleton.1 hr]; exact sgn_ok hs }
theorem sgnT_mem {w : World} {t : TxP} {h : TxH} {g : Nat} {sg : List Int} (m : Mem w t h) (hg : w.rangeAt g 0 (vals sgnS (1 :: sg))) : Mem w (sgnT t sg) (sgnH h g) :=
  ⟨m.i, m.o, m.f, m.k, m.co, .inr ⟨g, 0, rfl, fun j hj => by
    obtain rfl : j = 0 := by
      have : j < 1 := hj
      omega
    rw [Nat.zero_mul]
    exact hg⟩, m.ic, m.oc, m.fc, m.kc, m.coc, ⟨Nat.le_refl _, show 1 ≤ maxLen by unfold maxLen; omega, fun h => by cases h⟩⟩
theorem sgnT_set {t : TxP} {h : TxH} {g : Nat} {sg : List Int} (ht : WfT t) : (cerC t h).set 20 (.slice (some ⟨g, 0, none⟩) 1 1) = cerC (sgnT t sg) (sgnH h g) := by
  have l19 : (vals cerS t.cer).length = 19 := by rw [vals_len (okT_len ht.cer)]; rfl
  show (vals cerS t.cer ++ [_, _]).set 20 _ = vals cerS t.cer ++ [_, _]
  rw [List.set_append_right _ _ (by omega), l19]
  rfl
theorem places66 : ∃ fs, Tryz.prog.underlying 66 = some (.struct fs) ∧ fs.toList.mapM (fun f => (Tryz.prog.info? f.type).map fun i => (f.offset, i.size)) = some [(0, 1), (1, 281)] := ⟨_, Tryz.underlying66, by kernel_rfl⟩
theorem b66s (sg : List Int) (hs : sg.length = 281) (w : World) : (Instr.build 66 #[(0, .int .i64 1), (1, .agg (vals sigS sg).toArray)]).run Tryz.prog w = .ok (.agg (vals sgnS (1 :: sg)).toArray) w := by
  refine run_build w 66 _ _ ?_
  obtain ⟨it, hi, hz, _, _⟩ := info_parts infoG
  obtain ⟨fs, hu, hp⟩ := places66
  unfold Program.built
  rw [hi, hu]
  simp only [hz, hp]
  have hvs : (vals sigS sg).length = 281 := (vals_len (hs.trans sgl281.symm)).trans sgl281
  have hzs : (vals sigS (zeros 281)).length = 281 := (vals_len ((zeros_len 281).trans sgl281.symm)).trans sgl281
  have hz0 : vals sgnS (zeros 282) = [Value.int .i64 0] ++ vals sigS (zeros 281) := rfl
  refine (fill_part (L := []) (M := [Value.int .i64 0]) (R := vals sigS (zeros 281)) (ys := [Value.int .i64 1]) (o := 0) (n := 1) rfl (by rw [hz0]; simp [Value.cells]) rfl rfl (by simp [Value.cells]) rfl).trans ?_
  refine (fill_part (L := [Value.int .i64 1]) (M := vals sigS (zeros 281)) (R := []) (ys := vals sigS sg) (o := 1) (n := 281) rfl (by simp) rfl hzs (by simp [Value.cells]) hvs).trans ?_
  rw [fill_nil]
  simp [vals, sgnS, sigS, cellV]
theorem run_bld66 {o : Oper} {ev : Operand → Value} {w : World} {sg : List Int} (h : sg.length = 281) (ho : o.op = .build 66 #[(0, .const (.int .i64 1)), (1, .tmp 94)]) (h0 : ev (.const (.int .i64 1)) = .int .i64 1) (h1 : ev (.tmp 94) = .agg (vals sigS sg).toArray) : (execOp ev o).run Tryz.prog w = .ok (.value (.agg (vals sgnS (1 :: sg)).toArray)) w := by
  unfold execOp
  simp only [ho, List.map_toArray, List.map_cons, List.map_nil, h0, h1, Sem.run_bind, b66s sg h, Result.andThen_ok, Sem.run_pure]
section
variable {H : Type} {enc' : TypeId × Value → H} {w : World} {base : Nat} {held : Bool}
theorem sig_of {r : Reach} {b0 : Nat} {v : Value} {d : DataW H} {p : List MemPlace} (hv : Value.okWide Tryz.prog w r b0 58 v) (hd : DataW.Trod enc' Tryz.prog w base (fun _ => true) held 58 v d p) :
    ∃ (sg : List Int), v = .agg (vals sigS sg).toArray ∧ okT okA sigS sg := by
  obtain ⟨cs, rfl⟩ := okWide_structT Tryz.underlying58 hv
  obtain ⟨fuel, h⟩ := hd
  obtain ⟨sg, h1, h2⟩ := opn_sig.2 _ _ _ h
  simp only [Value.cells] at h2
  exact ⟨sg, by rw [← h2], h1⟩
end
end Go.Proofs.YtffaddefnpkcgaaGreatDoor

