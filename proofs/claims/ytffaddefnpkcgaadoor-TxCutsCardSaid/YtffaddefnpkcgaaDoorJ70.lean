/-
  A row of bytes of the call's own (Ob); the document's Num in that form; append in a region; records' bytes piece by piece.
-/
import Derived.Test.YtffaddefnpkcgaaDoorHC
import Derived.Test.YtffaddefnpkcgaaDoorJB
import Derived.Test.YtffaddefnpkcgaaDoorJR
namespace Go.Proofs.YtffaddefnpkcgaaDoor
open Go.RowKit
set_option maxRecDepth 100000
/-- a row of bytes that this call made -/
def Ob (base : Nat) (w : World) (A : Option Addr) (n c : Nat) (xs : List Int) : Prop := w.ownsRow base 5 1 (.slice A n c) n (bvals xs)
theorem ob_len {base : Nat} {w : World} {A : Option Addr} {n c : Nat} {xs : List Int} (h : Ob base w A n c xs) : xs.length = n := by
  obtain ⟨_, _, e, _, hl, _⟩ := own_row h
  exact hl
theorem ob_src {base : Nat} {w : World} {A : Option Addr} {n c : Nat} {xs : List Int} (h : Ob base w A n c xs) : Src w A n xs := by
  obtain ⟨_, _, e, hr, hl, _⟩ := own_row h
  cases e
  exact src_row hl hr
theorem ob_row {base : Nat} {w : World} {A : Option Addr} {n c : Nat} {xs : List Int} (h : Ob base w A n c xs) : Row w A xs := by
  obtain ⟨_, _, e, hr, hl, _⟩ := own_row h
  cases e
  exact hr
theorem ob_cap {base : Nat} {w : World} {A : Option Addr} {n c : Nat} {xs : List Int} (h : Ob base w A n c xs) : n ≤ c ∧ c ≤ 9223372036854775807 ∧ (A = none → c = 0) := by
  rcases h.2 with ⟨e, h0⟩ | ⟨g, cap, cur, e, h1, h2, h3, h4, _⟩
  · cases e
    have := h.1
    refine ⟨?_, by decide, fun _ => rfl⟩
    rw [h0] at this
    simp at this
    omega
  · cases e
    exact ⟨h3, by unfold maxLen at h4; omega, fun h => by cases h⟩
theorem ob_low {base b2 : Nat} {w : World} {A : Option Addr} {n c : Nat} {xs : List Int} (h : Ob base w A n c xs) (hb : b2 ≤ base) : Ob b2 w A n c xs := by
  refine ⟨h.1, ?_⟩
  rcases h.2 with h2 | ⟨g, cap, cur, e, hb2, h3⟩
  · exact .inl h2
  · exact .inr ⟨g, cap, cur, e, Nat.le_trans hb hb2, h3⟩
theorem ob_keep {base : Nat} {w W : World} {A : Option Addr} {n c : Nat} {xs : List Int} (h : Ob base w A n c xs) (hb : Below w.heap.size w W) : Ob base W A n c xs :=
  own_keep h fun q hq => hb.block q (own_lt h q hq)
theorem ob_drew {base : Nat} {w : World} {A : Option Addr} {n c : Nat} {xs : List Int} (h : Ob base w A n c xs) : Ob base w.drew A n c xs := own_keep h fun _ _ => rfl
theorem ob_eq {base : Nat} {w : World} {A : Option Addr} {n m c : Nat} {xs ys : List Int} (h : Ob base w A n c xs) (hn : n = m) (hx : xs = ys) : Ob base w A m c ys := by subst hn hx; exact h
theorem sl_eq {A : Option Addr} {n m c : Nat} (h : n = m) : Value.slice A n c = Value.slice A m c := by rw [h]
theorem ob_nil (base : Nat) (w : World) : Ob base w none 0 0 [] := own_nil w base
theorem ob_others {base : Nat} {w w' : World} {A : Option Addr} {n c : Nat} {xs : List Int} (h : Ob base w A n c xs) (hg : w.grownBy w' (Value.slice A n c).ownBlock) (q : Nat) (cs : Array Value) (T : TypeId) (hT : T ≠ 5) (hq : w.heap[q]? = some (.cells cs T (0, 0))) : w'.heap[q]? = w.heap[q]? := by
  refine hg.block q (lt_of_block hq) fun e => ?_
  rcases h.2 with ⟨e1, _⟩ | ⟨g, cap, cur, e1, _, h3, _⟩
  · rw [e1] at e; cases e
  · rw [e1] at e
    simp [Value.ownBlock] at e
    subst e
    rw [h3] at hq
    cases hq
    exact hT rfl
theorem step_ap {w : World} {ops : Array Oper} {o : Oper} {a : Act} {K : Act → World → Prop} {Q : Exit → Act → World → Prop} {E : Prop} (hgd : o.guard = none) (s x : Operand)
    (ho : o.op = .call { callee := .builtin .append, args := #[s, x], argTypes := #[43, 43] })
    (base n : Nat) (A0 : Option Addr) (c0 : Nat) (xs : List Int) (hv : a.eval s = .slice A0 n c0) (hown : Ob base w A0 n c0 xs) (A : Option Addr) (m c : Nat) (ys : List Int) (hx : a.eval x = .slice A m c) (hs : Src w A m ys) (hc : A = none → c = 0)
    (h63 : n + m ≤ 1000000) (hbase : base ≤ w.heap.size)
    (h : ∀ A' c' w', Ob base w' A' (n + m) c' (xs ++ ys) → Below base w w' → (∀ (q : Nat) (cs : Array Value) (T : TypeId), T ≠ 5 → w.heap[q]? = some (.cells cs T (0, 0)) → w'.heap[q]? = w.heap[q]?) → K (a.put o.dst (.slice A' (n + m) c')) w') :
    if Region.wanted o (yielded ops a.tmps) = true then Oper.wp Tryd.prog o a w K Q else E := by
  obtain ⟨i0, hi, hz0, hz1, hz2⟩ := info_parts info5
  exact step_app hgd s x 43 ho i0 Tryd.underlying43 hi hz0 hz1 hz2 base n _ xs hv hown A m c ys hx hs hc (by unfold maxLen; omega) (by omega) hbase
    fun A' c' w' h1 h2 _ => h A' c' w' h1 ((Below.refl _ _).grown h2 hbase (own_base hown)) (ob_others hown h2)
theorem wpList_ap {w : World} {ops : Array Oper} {rest : List Oper} {o : Oper} {a : Act} {Q : Exit → Act → World → Prop} (hgd : o.guard = none) (s x : Operand)
    (ho : o.op = .call { callee := .builtin .append, args := #[s, x], argTypes := #[43, 43] })
    (base n : Nat) (A0 : Option Addr) (c0 : Nat) (xs : List Int) (hv : a.eval s = .slice A0 n c0) (hown : Ob base w A0 n c0 xs) (A : Option Addr) (m c : Nat) (ys : List Int) (hx : a.eval x = .slice A m c) (hs : Src w A m ys) (hc : A = none → c = 0)
    (h63 : n + m ≤ 1000000) (hbase : base ≤ w.heap.size)
    (h : ∀ A' c' w', Ob base w' A' (n + m) c' (xs ++ ys) → Below base w w' → (∀ (q : Nat) (cs : Array Value) (T : TypeId), T ≠ 5 → w.heap[q]? = some (.cells cs T (0, 0)) → w'.heap[q]? = w.heap[q]?) → wpList Tryd.prog ops Q rest (a.put o.dst (.slice A' (n + m) c')) w') : wpList Tryd.prog ops Q (o :: rest) a w := by
  obtain ⟨i0, hi, hz0, hz1, hz2⟩ := info_parts info5
  exact wpList_app hgd s x 43 ho i0 Tryd.underlying43 hi hz0 hz1 hz2 base n _ xs hv hown A m c ys hx hs hc (by unfold maxLen; omega) (by omega) hbase
    fun A' c' w' h1 h2 _ => h A' c' w' h1 ((Below.refl _ _).grown h2 hbase (own_base hown)) (ob_others hown h2)
/-- some bytes of a range -/
theorem src_seg {w : World} {b o i k : Nat} {xs : List Int} (h : w.rangeAt b o (bvals xs)) (hl : i + k ≤ xs.length) : Src w (some ⟨b, o + i, none⟩) k (seg xs i k) := by
  refine ⟨seg_len hl, .inr ⟨b, o + i, rfl, fun j hj => ?_⟩⟩
  have h1 : (bvals xs)[i + j]? = some (.int .u8 (xs.getD (i + j) 0)) := by
    simp [bvals, List.getD, show i + j < xs.length by omega]
  have h2 := h (i + j) _ h1
  rw [Nat.add_assoc, h2]
  have : (seg xs i k).getD j 0 = xs.getD (i + j) 0 := cel_seg (r := xs) hj
  rw [this]
theorem src_all {w : World} {b o k : Nat} {xs : List Int} (h : w.rangeAt b o (bvals xs)) (hl : xs.length = k) : Src w (some ⟨b, o, none⟩) k xs := by
  refine ⟨hl, .inr ⟨b, o, rfl, fun j hj => ?_⟩⟩
  exact h j _ (by simp [bvals, List.getD, show j < xs.length by omega])
theorem seg_next (r : List Int) (i k m : Nat) : seg r i (k + m) = seg r i k ++ seg r (i + k) m := by
  unfold seg
  rw [List.take_add, List.drop_drop]
theorem seg_zero (r : List Int) (i : Nat) : seg r i 0 = [] := by simp [seg]
theorem dseg_seg {r : List Int} {i k a m : Nat} (h : a + m ≤ k) : seg (seg r i k) a m = seg r (i + a) m := by
  unfold seg
  rw [List.drop_take, List.drop_drop, List.take_take, Nat.min_eq_left (by omega)]
theorem enc_h {T : Sch} {r : List Int} (h : 8 ≤ r.length) : enc (hS ++ T) r = seg r 0 8 ++ enc T (r.drop 8) := by
  rw [enc_app (show hS.length ≤ r.length from h), seg_0]
  have e : enc hS (r.take hS.length) = r.take hS.length := enc_byt 8 _ (take_len rfl h)
  rw [e]
  rfl
theorem enc_n {k : Nat} {T : Sch} {r : List Int} (h : 1 ≤ r.length) : enc (some k :: T) r = digs (cel r 0) k ++ enc T (r.drop 1) := by
  cases r with
  | nil => simp at h
  | cons x r => rfl
theorem enc_b {k : Nat} {r : List Int} (h : r.length = k) : enc (List.replicate k none) r = r := enc_byt k r h
theorem enc_nil (r : List Int) : enc [] r = [] := by cases r <;> rfl
theorem enc_out {r : List Int} (h : r.length = 9) : enc outS r = (seg r 0 8 ++ digs (cel r 8) 7) := by
  rw [outS, enc_h (by omega), enc_n (by rw [List.length_drop]; omega), enc_nil, List.append_nil, cel_drop]
theorem enc_sig {r : List Int} (h : r.length = 281) : enc sigS r = digs (cel r 0) 1 ++ seg r 1 280 := by
  rw [show sigS = some 1 :: List.replicate 280 none from rfl, enc_n (by omega), enc_b (by rw [List.length_drop]; omega), seg_all (by omega)]
theorem enc_in {r : List Int} (h : r.length = 298) : enc inS r = ((seg r 0 8 ++ digs (cel r 8) 1) ++ seg r 9 8) ++ enc sigS (seg r 17 281) := by
  rw [show inS = hS ++ (some 1 :: (hS ++ sigS)) from rfl, enc_h (by omega), enc_n (by rw [List.length_drop]; omega), enc_h (by rw [List.length_drop, List.length_drop]; omega), cel_drop, List.drop_drop, List.drop_drop, seg_all (r := r) (i := 17) (by omega)]
  simp only [List.append_assoc, seg, List.drop_drop]
theorem enc_fwd {r : List Int} (h : r.length = 11) : enc fwdS r = ((digs (cel r 0) 1 ++ digs (cel r 1) 2) ++ seg r 2 8) ++ digs (cel r 10) 7 := by
  rw [show fwdS = some 1 :: some 2 :: (hS ++ [some 7]) from rfl, enc_n (by omega), enc_n (by rw [List.length_drop]; omega), enc_h (by rw [List.length_drop, List.length_drop]; omega), enc_n (by rw [List.length_drop, List.length_drop, List.length_drop]; omega), enc_nil]
  simp only [cel_drop, List.append_assoc, seg, List.drop_drop, List.append_nil]
theorem enc_par {r : List Int} (h : r.length = 3) : enc parS r = (digs (cel r 0) 1 ++ digs (cel r 1) 1) ++ digs (cel r 2) 1 := by
  rw [parS, enc_n (by omega), enc_n (by rw [List.length_drop]; omega), enc_n (by rw [List.length_drop, List.length_drop]; omega), enc_nil]
  simp only [cel_drop, List.append_assoc, List.drop_drop, List.append_nil]
theorem enc_cer {r : List Int} (h : r.length = 19) : enc cerS r = (((digs (cel r 0) 1 ++ digs (cel r 1) 4) ++ digs (cel r 2) 4) ++ seg r 3 8) ++ seg r 11 8 := by
  rw [show cerS = some 1 :: some 4 :: some 4 :: (hS ++ hS) from rfl, enc_n (by omega), enc_n (by rw [List.length_drop]; omega), enc_n (by rw [List.length_drop, List.length_drop]; omega), enc_h (by rw [List.length_drop, List.length_drop, List.length_drop]; omega), show hS = List.replicate 8 none from rfl, enc_b (by simp only [List.length_drop]; omega), seg_all (r := r) (i := 11) (by omega)]
  simp only [cel_drop, List.append_assoc, seg, List.drop_drop]
theorem enc_sgn {r : List Int} (h : r.length = 282) : enc sgnS r = digs (cel r 0) 1 ++ enc sigS (seg r 1 281) := by
  rw [show sgnS = some 1 :: sigS from rfl, enc_n (by omega), seg_all (r := r) (i := 1) (by omega)]
theorem enc_cla {r : List Int} (h : r.length = 140) : enc claS r = (((digs (cel r 0) 1 ++ digs (cel r 1) 2) ++ seg r 2 8) ++ digs (cel r 10) 7) ++ digs (cel r 11) 1 ++ seg r 12 128 := by
  rw [show claS = some 1 :: some 2 :: (hS ++ (some 7 :: some 1 :: List.replicate 128 none)) from rfl, enc_n (by omega), enc_n (by rw [List.length_drop]; omega), enc_h (by simp only [List.length_drop]; omega), enc_n (by simp only [List.length_drop]; omega), enc_n (by simp only [List.length_drop]; omega), enc_b (by simp only [List.length_drop]; omega), seg_all (r := r) (i := 12) (by omega)]
  simp only [cel_drop, List.append_assoc, seg, List.drop_drop]
theorem flat_le {S : Sch} {rs : List (List Int)} (h : ∀ r ∈ rs, r.length = S.length) : (rs.flatMap (enc S)).length = rs.length * wid S := by
  induction rs with
  | nil => simp
  | cons r rs ih => rw [List.flatMap_cons, List.length_append, ih fun q hq => h q (List.mem_cons_of_mem _ hq), enc_len (h r (by simp)), List.length_cons, Nat.succ_mul, Nat.add_comm]
theorem flat_take {S : Sch} {rs : List (List Int)} {k : Nat} (h : ∀ r ∈ rs, r.length = S.length) (hk : k ≤ rs.length) : ((rs.take k).flatMap (enc S)).length = k * wid S := by
  rw [flat_le fun r hr => h r (List.mem_of_mem_take hr), List.length_take, Nat.min_eq_left hk]
theorem flat_next {S : Sch} {rs : List (List Int)} {k : Nat} (h : k < rs.length) : (rs.take (k + 1)).flatMap (enc S) = (rs.take k).flatMap (enc S) ++ enc S (rcd rs k) := by
  have : rs.take (k + 1) = rs.take k ++ [rcd rs k] := by rw [List.take_add_one, List.getElem?_eq_getElem h]; simp [rcd, List.getD, h]
  rw [this, List.flatMap_append]
  simp
theorem allR_len {S : Sch} {rs : List (List Int)} (h : AllR S rs) : ∀ r ∈ rs, r.length = S.length := fun r hr => okT_len (h r hr)
end Go.Proofs.YtffaddefnpkcgaaDoor

namespace Go.Proofs.YtffaddefnpkcgaaDoor
open Go.RowKit
set_option maxRecDepth 100000
structure V3 (S : Nat) (w0 : World) (x : TxP) (h : TxH) (w : World) : Prop where
  bel : Below S w0 w
  x : BL w S (txC x h) 39
  sz : S + 1 ≤ w.heap.size
theorem V3.step {S : Nat} {w0 : World} {x : TxP} {h : TxH} {w w' : World} (v : V3 S w0 x h w) (hb : Below w.heap.size w w') : V3 S w0 x h w' :=
  ⟨v.bel.trans (hb.mono (by have := v.sz; omega)), bl_keep v.x (hb.block S (by have := v.sz; omega)), Nat.le_trans v.sz hb.size⟩
theorem v3_0 (w : World) (x : TxP) (h : TxH) : V3 w.heap.size w x h (w.alloc (Obj.cells (txC x h).toArray 39)) :=
  ⟨(Below.refl _ w).alloc (Nat.le_refl _) _, heap_alloc_last w _, by simp⟩
def EncR (t : TxP) (A : Option Addr) (c : Nat) (w : World) : Prop := Row w A (encT t) ∧ (encT t).length ≤ c ∧ (A = none → c = 0) ∧ c ≤ 9223372036854775807
theorem EncR.keep {t : TxP} {A : Option Addr} {c : Nat} {w w' : World} (h : EncR t A c w) (hb : Below w.heap.size w w') : EncR t A c w' := ⟨row_keep h.1 hb.block, h.2⟩
structure C3 (S : Nat) (w0 : World) (x : TxP) (h : TxH) : Prop where
  aw : ∀ w, V3 S w0 x h w → Calls Tryd.prog 4 #[] w fun e w' => e = .returned (.bool true) ∧ Below w.heap.size w w'
  fx : ∀ w, V3 S w0 x h w → Calls Tryd.prog 5 #[.agg (txC x h).toArray] w fun e w' => e = .returned (.bool (fewB x)) ∧ Below w.heap.size w w'
  ex0 : mayT x = false → ∀ w, V3 S w0 x h w → Calls Tryd.prog 6 #[.agg (txC x h).toArray] w fun e w' => e = .returned (.tuple #[.slice none 0 0, .int .i64 1]) ∧ Below w.heap.size w w'
  ex1 : mayT x = true → ∀ w, V3 S w0 x h w → Calls Tryd.prog 6 #[.agg (txC x h).toArray] w fun e w' => (∃ A c, e = .returned (.tuple #[.slice A (encT x).length c, .int .i64 0]) ∧ EncR x A c w') ∧ Below w.heap.size w w'
theorem c3_of (w : World) (x : TxP) (h : TxH) (hx : WfT x) (mx : Mem w x h) (hk : Keys w) : C3 w.heap.size w x h := by
  have h0 := keys_pos hk
  have KX : ∀ w', V3 w.heap.size w x h w' → Mem w' x h := fun w' v => mx.keep fun q hq => v.bel.block q hq
  exact ⟨fun w' v => tAwake w' (keys_below hk v.bel h0) (by have := v.sz; omega), fun w' v => tFew x h w' hx (KX w' v), fun c w' v => tEncN x h w' hx (KX w' v) c, fun c w' v => tEncY x h w' hx (KX w' v) c⟩
/-- none: the zero transaction, and why -/
def DecZ (n : Int) (w : World) (e : Ending) (w' : World) : Prop := ∃ h, e = .returned (.tuple #[.agg (txC tx0 h).toArray, .int .i64 n]) ∧ Below w.heap.size w w'
theorem dec_cut {t : TxP} (ht : WfT t) (hm : mayT t = true) {k c : Nat} {b o : Nat} {w : World} (hk : k < (encT t).length) (hr : Row w (some ⟨b, o, none⟩) (encT t)) :
    Calls Tryd.prog 7 #[.slice (some ⟨b, o, none⟩) k c] w (DecZ 2 w) := by
  have hs : Src w (some ⟨b, o, none⟩) k ((encT t).take k) := src_row (by rw [List.length_take]; omega) (row_take k hr)
  refine (tDecS (some ⟨b, o, none⟩) k c _ w hs (fun h => by cases h) (byt_take (byt_enc ht) k) (by have := enc_le ht hm; omega) (parT_cut ht hm hk)).mono ?_
  rintro e w' ⟨h', h1, _, _, h2⟩
  exact ⟨h', h1, h2⟩
theorem encL_wid {S : Sch} {rs : List (List Int)} {lo hi : Int} {p : List Int → Bool} {m : Nat} (ha : AllR S rs) (hm : mLis lo hi p rs = true) (hh : hi ≤ m) : (encL S rs).length ≤ 1 + m * wid S := by
  obtain ⟨_, h2, _⟩ := lis_all hm
  rw [encL, List.length_append, digs_len, flat_le (allR_len ha)]
  have : rs.length * wid S ≤ m * wid S := Nat.mul_le_mul_right _ (by omega)
  omega
theorem enc_lt {t : TxP} (hw : WfT t) (hm : mayT t = true) : (encT t).length ≤ 100000 := by
  have hf : mFld t = true := by
    have g := hm
    rw [may_zer, Bool.and_eq_true] at g
    exact g.2
  have w1 : wid outS = 15 := by decide
  have w2 : wid fwdS = 18 := by decide
  have w3 : wid inS = 298 := by simp [inS, wid, widA, hS, sigS]
  have w4 : wid sgnS = 282 := by simp [sgnS, wid, widA, sigS]
  have w5 : wid hS = 8 := by decide
  have w6 : wid claS ≤ 1000 := by simp [claS, hS, wid, widA]
  have w7 : wid cerS ≤ 100 := by decide
  have w8 : wid parS ≤ 100 := by decide
  unfold encT
  rw [List.length_append, digs_len]
  unfold mFld at hf
  rcases fld_kind (by unfold mFld; exact hf) with k | k | k | k | k
  · rw [if_pos k, mCbs, Bool.and_eq_true] at hf
    rw [bod_1 k, List.length_append, digs_len]
    have := encL_wid (m := 16) hw.outs hf.2 (by decide)
    omega
  · rw [if_neg (by omega), if_pos k, mPay, Bool.and_eq_true, Bool.and_eq_true, Bool.and_eq_true, mIns, Bool.and_eq_true] at hf
    rw [bod_2 k, List.length_append, List.length_append]
    have a := encL_wid (m := 8) hw.ins hf.1.1 (by decide)
    have b := encL_wid (m := 16) hw.outs hf.2.1 (by decide)
    have c := encL_wid (m := 16) hw.fwds hf.2.2.1 (by decide)
    omega
  · rw [if_neg (by omega), if_neg (by omega), if_pos k, mCre, mayP, mayK, Bool.and_eq_true, Bool.and_eq_true, win_iff] at hf
    rw [bod_3 k, List.length_append, encL, List.length_append, digs_len, flat_le (allR_len hw.keys), enc_len (okT_len hw.par)]
    have : t.keys.length * wid hS ≤ 5 * wid hS := Nat.mul_le_mul_right _ (by omega)
    omega
  · rw [if_neg (by omega), if_neg (by omega), if_neg (by omega), if_pos k, mCer, Bool.and_eq_true, Bool.and_eq_true, Bool.and_eq_true, Bool.and_eq_true] at hf
    rw [bod_4 k, List.length_append, List.length_append, enc_len (okT_len hw.cer)]
    have b := encL_wid (m := 16) hw.couts hf.2.2.2.1 (by decide)
    have c := encL_wid (m := 5) hw.csigs hf.2.2.2.2 (by decide)
    omega
  · rw [bod_5 k, enc_len (okT_len hw.cla)]
    omega
theorem dec_more {t : TxP} (ht : WfT t) (hm : mayT t = true) {c n : Nat} {A : Option Addr} {z : Int} {w : World} (hz : 0 ≤ z ∧ z < 256) (hs : Src w A n (encT t ++ [z])) (hc : A = none → c = 0) :
    Calls Tryd.prog 7 #[.slice A n c] w (DecZ 4 w) := by
  have hl := hs.1
  rw [List.length_append, List.length_singleton] at hl
  refine (tDecF A n c _ t [z] w hs hc (byt_ap (byt_enc ht) fun x hx => by rw [List.mem_singleton.1 hx]; exact hz) (by have := enc_lt ht hm; omega) (parT_enc [z] ht hm) (by simp)).mono ?_
  rintro e w' ⟨h', h1, _, _, h2⟩
  exact ⟨h', h1, h2⟩
attribute [local irreducible] ua da ba kk sw S8.run rt hs comp splice outB sha msg zeros win bvals vals parC cerC claC txC cel seg hash1 hash2 encT mayT strOfNums fewB
set_option maxHeartbeats 4000000 in
theorem n4_0 (x : TxP) (h : TxH) (u : Int) (w : World) (hx : WfT x) (mx : Mem w x h) (hk : Keys w) (e1 : fewB x = false) :
    Calls Tryd.prog 3 #[.agg (txC x h).toArray, .int .u16 u] w fun e w' => e = .returned (.bool true) ∧ Below w.heap.size w w' := by
  obtain ⟨S, hS⟩ : ∃ S, w.heap.size = S := ⟨_, rfl⟩
  have HS := Lib.hid hS
  have CC0 := c3_of w x h hx mx hk
  have V0 := v3_0 w x h
  rw [hS] at CC0 V0
  have AW := Lib.hid CC0.aw
  have FX := Lib.hid CC0.fx
  rw [e1] at FX
  have V := Lib.hid V0
  have HI : Hid ((Tryd.prog.info? 39).map (·.size) = some (txC x h).length) := szL i39 (txC_len h hx)
  clear hx mx hk CC0 V0
  go_enter Tryd.func3, Tryd.ntmps3
  go_upto_region 1 with (fail)
  generalize (w.alloc (Obj.cells (txC x h).toArray 39)) = v at *
  clear hS
  go_wp2_with (first
      | (go_at_call 4; refine (AW.out _ V.out).mono ?_; rintro e w' ⟨rfl, hb⟩; have V := Lib.hid (V.out.step hb); clear hb)
      | (refine wpList_load_midG (by rfl) 39 (.tmp 2) rfl S 0 rfl (txC x h) _ (range_of V.out.x) Tryd.underlying39 rfl HI.out ?_)
      | (go_at_call 5; refine (FX.out _ V.out).mono ?_; rintro e w' ⟨rfl, hb⟩; have V := Lib.hid (V.out.step hb); clear hb)
      | fail)
  go_ret
  exact ⟨rfl, by rw [HS.out]; exact V.out.bel⟩
set_option maxHeartbeats 4000000 in
theorem n4_1 (x : TxP) (h : TxH) (u : Int) (w : World) (hx : WfT x) (mx : Mem w x h) (hk : Keys w) (e1 : fewB x = true) (e2 : mayT x = false) :
    Calls Tryd.prog 3 #[.agg (txC x h).toArray, .int .u16 u] w fun e w' => e = .returned (.bool true) ∧ Below w.heap.size w w' := by
  obtain ⟨S, hS⟩ : ∃ S, w.heap.size = S := ⟨_, rfl⟩
  have HS := Lib.hid hS
  have CC0 := c3_of w x h hx mx hk
  have V0 := v3_0 w x h
  rw [hS] at CC0 V0
  have AW := Lib.hid CC0.aw
  have FX := Lib.hid CC0.fx
  rw [e1] at FX
  have V := Lib.hid V0
  have HI : Hid ((Tryd.prog.info? 39).map (·.size) = some (txC x h).length) := szL i39 (txC_len h hx)
  have EX := Lib.hid (CC0.ex0 e2)
  clear hx mx hk CC0 V0
  go_enter Tryd.func3, Tryd.ntmps3
  go_upto_region 1 with (fail)
  generalize (w.alloc (Obj.cells (txC x h).toArray 39)) = v at *
  clear hS
  go_wp2_with (first
      | (go_at_call 4; refine (AW.out _ V.out).mono ?_; rintro e w' ⟨rfl, hb⟩; have V := Lib.hid (V.out.step hb); clear hb)
      | (refine wpList_load_midG (by rfl) 39 (.tmp 2) rfl S 0 rfl (txC x h) _ (range_of V.out.x) Tryd.underlying39 rfl HI.out ?_)
      | (go_at_call 5; refine (FX.out _ V.out).mono ?_; rintro e w' ⟨rfl, hb⟩; have V := Lib.hid (V.out.step hb); clear hb)
      | (go_at_call 6; refine (EX.out _ V.out).mono ?_; rintro e w' ⟨rfl, hb⟩; have V := Lib.hid (V.out.step hb); clear hb)
      | fail)
  go_ret
  exact ⟨rfl, by rw [HS.out]; exact V.out.bel⟩
set_option maxHeartbeats 8000000 in
theorem p4 (x : TxP) (h : TxH) (u : Int) (w : World) (hx : WfT x) (mx : Mem w x h) (hk : Keys w) (e1 : fewB x = true) (e2 : mayT x = true) (hu : 0 ≤ u ∧ u ≤ 65535) :
    Calls Tryd.prog 3 #[.agg (txC x h).toArray, .int .u16 u] w fun e w' => e = .returned (.bool true) ∧ Below w.heap.size w w' := by
  obtain ⟨un, rfl⟩ := Int.eq_ofNat_of_zero_le hu.1
  obtain ⟨L, hL⟩ : ∃ L, (encT x).length = L := ⟨_, rfl⟩
  have h0 : 0 < L := by rw [← hL]; unfold encT; rw [List.length_append, digs_len]; omega
  have hLm : L ≤ 131072 := by rw [← hL]; have := enc_le hx e2; omega
  obtain ⟨k, hkk⟩ : ∃ k, un % L = k := ⟨_, rfl⟩
  have hkL : k < L := by rw [← hkk]; exact Nat.mod_lt _ h0
  have G1 : Hid ((un : Int).tmod (L : Int) = (k : Int)) := by show _ = _; rw [← hkk]; rfl
  have G2 : Hid (IntKind.i64.wrap (un : Int) = (un : Int)) := by show _ = _; rw [IntKind.wrap_i64]; omega
  have G3 : Hid (IntKind.i64.wrap (k : Int) = (k : Int)) := by show _ = _; rw [IntKind.wrap_i64]; omega
  have G4 : Hid (IntKind.i64.wrap (L : Int) = (L : Int)) := by show _ = _; rw [IntKind.wrap_i64]; omega
  have G5 : Hid (((L : Int) == 0) = false) := Lib.hid (beq_false_of_ne (by omega))
  have G6 : Hid (¬ (L : Int) = 0) := Lib.hid (by omega)
  obtain ⟨z, hz⟩ : ∃ z, IntKind.u8.wrap (un : Int) = z := ⟨_, rfl⟩
  have HZ : Hid (0 ≤ z ∧ z < 256) := Lib.hid (by rw [← hz, IntKind.wrap_u8]; omega)
  have GZ := Lib.hid hz
  have HL := Lib.hid hL
  obtain ⟨S, hS⟩ : ∃ S, w.heap.size = S := ⟨_, rfl⟩
  have HS := Lib.hid hS
  have CC0 := c3_of w x h hx mx hk
  have V0 := v3_0 w x h
  rw [hS] at CC0 V0
  have AW := Lib.hid CC0.aw
  have FX := Lib.hid CC0.fx
  rw [e1] at FX
  have V := Lib.hid V0
  have HI : Hid ((Tryd.prog.info? 39).map (·.size) = some (txC x h).length) := szL i39 (txC_len h hx)
  have EX := Lib.hid (CC0.ex1 e2)
  rw [hL] at EX
  have X1 : Hid (∀ h', ∀ v ∈ txC tx0 h', v.oneCell' = true) := Lib.hid fun h' => txC_one tx0 h'
  have HXL : Hid (∀ h', (txC tx0 h').length = 170) := Lib.hid fun h' => txC_len h' wf_tx0
  have DC : Hid (∀ w b o c, Row w (some ⟨b, o, none⟩) (encT x) → Calls Tryd.prog 7 #[.slice (some ⟨b, o, none⟩) k c] w (DecZ 2 w)) := Lib.hid fun w b o c hr => dec_cut hx e2 (by rw [hL]; exact hkL) hr
  have DM : Hid (∀ w A n c, Ob w.heap.size w A n c (encT x ++ [z]) → True) := Lib.hid fun _ _ _ _ _ => trivial
  have DF : Hid (∀ (w : World) (base : Nat) (A : Option Addr) (n c : Nat), Ob base w A n c (encT x ++ [z]) → Calls Tryd.prog 7 #[.slice A n c] w (DecZ 4 w)) := Lib.hid fun w base A n c ho => dec_more hx e2 HZ.out (ob_src ho) (ob_cap ho).2.2
  clear hx mx hk CC0 V0 e1 e2 hu hL hz hkk DM
  go_enter Tryd.func3, Tryd.ntmps3
  go_upto_region 1 with (fail)
  generalize (w.alloc (Obj.cells (txC x h).toArray 39)) = v at *
  clear hS
  go_upto_region 6 with (first
      | (go_at_call 4; refine (AW.out _ V.out).mono ?_; rintro e w' ⟨rfl, hb⟩; have V := Lib.hid (V.out.step hb); clear hb)
      | (refine wpList_load_midG (by rfl) 39 (.tmp 2) rfl S 0 rfl (txC x h) _ (range_of V.out.x) Tryd.underlying39 rfl HI.out ?_)
      | (go_at_call 5; refine (FX.out _ V.out).mono ?_; rintro e w' ⟨rfl, hb⟩; have V := Lib.hid (V.out.step hb); clear hb)
      | (go_at_call 6; refine (EX.out _ V.out).mono ?_; rintro e w1 ⟨⟨A, c, rfl, hr⟩, hb⟩; have R1 := Lib.hid hr; have V := Lib.hid (V.out.step hb); clear hb hr)
      | fail)
  obtain ⟨b, o, rfl⟩ : ∃ b o, A = some ⟨b, o, none⟩ := by
    rcases R1.out.1 with g | ⟨b, o, e, _⟩
    · have := HL.out
      rw [g] at this
      simp at this
      omega
    · exact ⟨b, o, e⟩
  have hcL : L ≤ c := by rw [← HL.out]; exact R1.out.2.1
  have hcm := R1.out.2.2.2
  have hkL2 : (k : Int) < (L : Int) := by omega
  have hkc : (k : Int) ≤ (c : Int) := by omega
  have hkc2 : k ≤ c := by omega
  have m1 := G1.out
  have m2 := G2.out
  have m3 := G3.out
  have m4 := G4.out
  have m5 := G5.out
  have m6 := G6.out
  have hz := z39
  go_upto_region 9 with (first
      | (go_at_call 7; refine (DC.out _ b o c R1.out.1).mono ?_; rintro e w2 ⟨h1, rfl, hb⟩; have V := Lib.hid (V.out.step hb); replace R1 := Lib.hid (R1.out.keep hb); have XA : Hid (BL (w2.alloc (Obj.cells (txC tx0 hd0).toArray 39)) w2.heap.size (txC tx0 hd0) 39) := Lib.hid (heap_alloc_last w2 _); clear hb)
      | (refine wpList_store_rowTo rfl 39 (.tmp 7) (.tmp 37) rfl rfl w2.heap.size (txC tx0 h1).toArray rfl rfl 39 (txC tx0 hd0).toArray XA.out (szA i39 (HXL.out h1)) (by rw [List.size_toArray, List.size_toArray, HXL.out hd0, HXL.out h1]) (all_oneCell_toArray (X1.out h1)) ?_)
      | fail)
  have hb2 := below_setRow ((Below.refl _ w2).alloc (Nat.le_refl _) (Obj.cells (txC tx0 hd0).toArray 39)) (Nat.le_refl _) (txC tx0 h1).toArray
  have V := Lib.hid (V.out.step hb2)
  replace R1 := Lib.hid (R1.out.keep hb2)
  clear hb2 XA
  generalize ((w2.alloc (Obj.cells (txC tx0 hd0).toArray 39)).setRow w2.heap.size (txC tx0 h1).toArray) = w3 at *
  have mz := GZ.out
  go_upto_region 10 with (first
      | (at_builtin; refine wpList_ap rfl (.tmp 40) (.tmp 41) rfl w3.heap.size 0 _ _ [] rfl (own_none w3) _ L _ (encT x) rfl ((src_row HL.out R1.out.1).keep fun q hq => Below.heap_alloc w3 _ q hq) (fun h => by cases h) (by omega) (by simp) ?_; intro A4 c4 w4 ho hb _; have O4 : Hid (Ob w3.heap.size w4 A4 L c4 (encT x)) := Lib.hid (ob_eq ho (Nat.zero_add L) (List.nil_append _)); have B4 : Hid (Below w3.heap.size w3 w4) := Lib.hid ((((Below.refl _ w3).alloc (Nat.le_refl _) _)).trans hb); clear ho hb)
      | (at_builtin; refine wpList_ap rfl (.tmp 42) (.tmp 45) rfl w3.heap.size L _ _ _ rfl (ob_keep O4.out ((Below.refl _ w4).alloc (Nat.le_refl _) _)) _ 1 1 [z] rfl (src_one w4 z) (fun h => by cases h) (by omega) (by have := B4.out.size; simp; omega) ?_; intro A5 c5 w5 ho hb _; have O5 : Hid (Ob w3.heap.size w5 A5 _ c5 (encT x ++ [z])) := Lib.hid ho; have B5 := Lib.hid (B4.out.trans ((((Below.refl _ w4).alloc B4.out.size _)).trans hb)); have V := Lib.hid (V.out.step B5.out); clear ho hb)
      | (go_at_call 7; refine (DF.out _ _ A5 _ c5 O5.out).mono ?_; rintro e w6 ⟨h2, rfl, hb⟩; have V := Lib.hid (V.out.step hb);  have XA : Hid (BL (w6.alloc (Obj.cells (txC tx0 hd0).toArray 39)) w6.heap.size (txC tx0 hd0) 39) := Lib.hid (heap_alloc_last w6 _); clear hb)
      | (refine wpList_store_rowTo rfl 39 (.tmp 9) (.tmp 48) rfl rfl w6.heap.size (txC tx0 h2).toArray rfl rfl 39 (txC tx0 hd0).toArray XA.out (szA i39 (HXL.out h2)) (by rw [List.size_toArray, List.size_toArray, HXL.out hd0, HXL.out h2]) (all_oneCell_toArray (X1.out h2)) ?_)
      | fail)
  have hb2 := below_setRow ((Below.refl _ w6).alloc (Nat.le_refl _) (Obj.cells (txC tx0 hd0).toArray 39)) (Nat.le_refl _) (txC tx0 h2).toArray
  have V := Lib.hid (V.out.step hb2)
  clear hb2 XA hz
  go_wp2
  go_ret
  exact ⟨rfl, by rw [HS.out]; exact V.out.bel⟩
theorem q7c (x : TxP) (h : TxH) (u : Int) (w : World) (hx : WfT x) (mx : Mem w x h) (hk : Keys w) (hu : 0 ≤ u ∧ u ≤ 65535) :
    Calls Tryd.prog 3 #[.agg (txC x h).toArray, .int .u16 u] w fun e w' => e = .returned (.bool true) ∧ Below w.heap.size w w' := by
  cases e1 : fewB x
  · exact n4_0 x h u w hx mx hk e1
  cases e2 : mayT x
  · exact n4_1 x h u w hx mx hk e1 e2
  · exact p4 x h u w hx mx hk e1 e2 hu
end Go.Proofs.YtffaddefnpkcgaaDoor
