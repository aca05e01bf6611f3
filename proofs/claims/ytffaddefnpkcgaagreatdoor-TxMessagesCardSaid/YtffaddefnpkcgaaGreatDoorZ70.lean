/-
  A row of bytes of the call's own (Ob); the document's Num in that form; append in a region; records' bytes piece by piece.
-/
import Derived.Test.YtffaddefnpkcgaaGreatDoorZHC
import Derived.Test.YtffaddefnpkcgaaGreatDoorZB
import Derived.Test.YtffaddefnpkcgaaGreatDoorZF
import Derived.Test.YtffaddefnpkcgaaGreatDoorZW
namespace Go.Proofs.YtffaddefnpkcgaaGreatDoor
open Go.RowKit
set_option maxRecDepth 100000
def Ob (base : Nat) (w : World) (A : Option Addr) (n c : Nat) (xs : List Int) : Prop := w.ownsRow base 5 1 (.slice A n c) n (bvals xs)
theorem ob_len {base : Nat} {w : World} {A : Option Addr} {n c : Nat} {xs : List Int} (h : Ob base w A n c xs) : xs.length = n := by
  obtain ⟨_, _, e, _, hl, _⟩ := own_row h
  exact hl
theorem ob_src {base : Nat} {w : World} {A : Option Addr} {n c : Nat} {xs : List Int} (h : Ob base w A n c xs) : Src w A n xs := by
  obtain ⟨_, _, e, hr, hl, _⟩ := own_row h
  cases e
  exact src_row hl hr
theorem ob_row {base : Nat} {w : World} {A : Option Addr} {n c : Nat} {xs : List Int} (h : Ob base w A n c xs) : Row w A xs := by
  obtain ⟨_, _, e, hr, hl, _⟩ := own_row h
  cases e
  exact hr
theorem ob_cap {base : Nat} {w : World} {A : Option Addr} {n c : Nat} {xs : List Int} (h : Ob base w A n c xs) : n ≤ c ∧ c ≤ 9223372036854775807 ∧ (A = none → c = 0) := by
  rcases h.2 with ⟨e, h0⟩ | ⟨g, cap, cur, e, h1, h2, h3, h4, _⟩
  · cases e
    have := h.1
    refine ⟨?_, by decide, fun _ => rfl⟩
    rw [h0] at this
    simp at this
    omega
  · cases e
    exact ⟨h3, by unfold maxLen at h4; omega, fun h => by cases h⟩
theorem ob_low {base b2 : Nat} {w : World} {A : Option Addr} {n c : Nat} {xs : List Int} (h : Ob base w A n c xs) (hb : b2 ≤ base) : Ob b2 w A n c xs := by
  refine ⟨h.1, ?_⟩
  rcases h.2 with h2 | ⟨g, cap, cur, e, hb2, h3⟩
  · exact .inl h2
  · exact .inr ⟨g, cap, cur, e, Nat.le_trans hb hb2, h3⟩
theorem ob_keep {base : Nat} {w W : World} {A : Option Addr} {n c : Nat} {xs : List Int} (h : Ob base w A n c xs) (hb : Below w.heap.size w W) : Ob base W A n c xs :=
  own_keep h fun q hq => hb.block q (own_lt h q hq)
theorem ob_drew {base : Nat} {w : World} {A : Option Addr} {n c : Nat} {xs : List Int} (h : Ob base w A n c xs) : Ob base w.drew A n c xs := own_keep h fun _ _ => rfl
theorem ob_eq {base : Nat} {w : World} {A : Option Addr} {n m c : Nat} {xs ys : List Int} (h : Ob base w A n c xs) (hn : n = m) (hx : xs = ys) : Ob base w A m c ys := by subst hn hx; exact h
theorem sl_eq {A : Option Addr} {n m c : Nat} (h : n = m) : Value.slice A n c = Value.slice A m c := by rw [h]
theorem dNum (n : Int) (k : Nat) (w : World) (hk : k ≤ 7) :
    Calls Tryz.prog 31 #[.int .i64 n, .int .i64 k] w fun e w' => ∃ A c, e = .returned (.slice A k c) ∧ Ob w.heap.size w' A k c (digs n k) ∧ Below w.heap.size w w' := c21 n k w hk
theorem ob_others {base : Nat} {w w' : World} {A : Option Addr} {n c : Nat} {xs : List Int} (h : Ob base w A n c xs) (hg : w.grownBy w' (Value.slice A n c).ownBlock) (q : Nat) (cs : Array Value) (T : TypeId) (hT : T ≠ 5) (hq : w.heap[q]? = some (.cells cs T (0, 0))) : w'.heap[q]? = w.heap[q]? := by
  refine hg.block q (lt_of_block hq) fun e => ?_
  rcases h.2 with ⟨e1, _⟩ | ⟨g, cap, cur, e1, _, h3, _⟩
  · rw [e1] at e; cases e
  · rw [e1] at e
    simp [Value.ownBlock] at e
    subst e
    rw [h3] at hq
    cases hq
    exact hT rfl
theorem step_ap {w : World} {ops : Array Oper} {o : Oper} {a : Act} {K : Act → World → Prop} {Q : Exit → Act → World → Prop} {E : Prop} (hgd : o.guard = none) (s x : Operand)
    (ho : o.op = .call { callee := .builtin .append, args := #[s, x], argTypes := #[42, 42] })
    (base n : Nat) (A0 : Option Addr) (c0 : Nat) (xs : List Int) (hv : a.eval s = .slice A0 n c0) (hown : Ob base w A0 n c0 xs) (A : Option Addr) (m c : Nat) (ys : List Int) (hx : a.eval x = .slice A m c) (hs : Src w A m ys) (hc : A = none → c = 0)
    (h63 : n + m ≤ 1000000) (hbase : base ≤ w.heap.size)
    (h : ∀ A' c' w', Ob base w' A' (n + m) c' (xs ++ ys) → Below base w w' → (∀ (q : Nat) (cs : Array Value) (T : TypeId), T ≠ 5 → w.heap[q]? = some (.cells cs T (0, 0)) → w'.heap[q]? = w.heap[q]?) → K (a.put o.dst (.slice A' (n + m) c')) w') :
    if Region.wanted o (yielded ops a.tmps) = true then Oper.wp Tryz.prog o a w K Q else E := by
  obtain ⟨i0, hi, hz0, hz1, hz2⟩ := info_parts info5
  exact step_app hgd s x 42 ho i0 Tryz.underlying42 hi hz0 hz1 hz2 base n _ xs hv hown A m c ys hx hs hc (by unfold maxLen; omega) (by omega) hbase
    fun A' c' w' h1 h2 _ => h A' c' w' h1 ((Below.refl _ _).grown h2 hbase (own_base hown)) (ob_others hown h2)
theorem wpList_ap {w : World} {ops : Array Oper} {rest : List Oper} {o : Oper} {a : Act} {Q : Exit → Act → World → Prop} (hgd : o.guard = none) (s x : Operand)
    (ho : o.op = .call { callee := .builtin .append, args := #[s, x], argTypes := #[42, 42] })
    (base n : Nat) (A0 : Option Addr) (c0 : Nat) (xs : List Int) (hv : a.eval s = .slice A0 n c0) (hown : Ob base w A0 n c0 xs) (A : Option Addr) (m c : Nat) (ys : List Int) (hx : a.eval x = .slice A m c) (hs : Src w A m ys) (hc : A = none → c = 0)
    (h63 : n + m ≤ 1000000) (hbase : base ≤ w.heap.size)
    (h : ∀ A' c' w', Ob base w' A' (n + m) c' (xs ++ ys) → Below base w w' → (∀ (q : Nat) (cs : Array Value) (T : TypeId), T ≠ 5 → w.heap[q]? = some (.cells cs T (0, 0)) → w'.heap[q]? = w.heap[q]?) → wpList Tryz.prog ops Q rest (a.put o.dst (.slice A' (n + m) c')) w') : wpList Tryz.prog ops Q (o :: rest) a w := by
  obtain ⟨i0, hi, hz0, hz1, hz2⟩ := info_parts info5
  exact wpList_app hgd s x 42 ho i0 Tryz.underlying42 hi hz0 hz1 hz2 base n _ xs hv hown A m c ys hx hs hc (by unfold maxLen; omega) (by omega) hbase
    fun A' c' w' h1 h2 _ => h A' c' w' h1 ((Below.refl _ _).grown h2 hbase (own_base hown)) (ob_others hown h2)
theorem src_seg {w : World} {b o i k : Nat} {xs : List Int} (h : w.rangeAt b o (bvals xs)) (hl : i + k ≤ xs.length) : Src w (some ⟨b, o + i, none⟩) k (seg xs i k) := by
  refine ⟨seg_len hl, .inr ⟨b, o + i, rfl, fun j hj => ?_⟩⟩
  have h1 : (bvals xs)[i + j]? = some (.int .u8 (xs.getD (i + j) 0)) := by
    simp [bvals, List.getD, show i + j < xs.length by omega]
  have h2 := h (i + j) _ h1
  rw [Nat.add_assoc, h2]
  have : (seg xs i k).getD j 0 = xs.getD (i + j) 0 := cel_seg (r := xs) hj
  rw [this]
theorem src_all {w : World} {b o k : Nat} {xs : List Int} (h : w.rangeAt b o (bvals xs)) (hl : xs.length = k) : Src w (some ⟨b, o, none⟩) k xs := by
  refine ⟨hl, .inr ⟨b, o, rfl, fun j hj => ?_⟩⟩
  exact h j _ (by simp [bvals, List.getD, show j < xs.length by omega])
theorem seg_next (r : List Int) (i k m : Nat) : seg r i (k + m) = seg r i k ++ seg r (i + k) m := by
  unfold seg
  rw [List.take_add, List.drop_drop]
theorem seg_zero (r : List Int) (i : Nat) : seg r i 0 = [] := by simp [seg]
theorem dseg_seg {r : List Int} {i k a m : Nat} (h : a + m ≤ k) : seg (seg r i k) a m = seg r (i + a) m := by
  unfold seg
  rw [List.drop_take, List.drop_drop, List.take_take, Nat.min_eq_left (by omega)]
theorem enc_h {T : Sch} {r : List Int} (h : 8 ≤ r.length) : enc (hS ++ T) r = seg r 0 8 ++ enc T (r.drop 8) := by
  rw [enc_app (show hS.length ≤ r.length from h), seg_0]
  have e : enc hS (r.take hS.length) = r.take hS.length := enc_byt 8 _ (take_len rfl h)
  rw [e]
  rfl
theorem enc_n {k : Nat} {T : Sch} {r : List Int} (h : 1 ≤ r.length) : enc (some k :: T) r = digs (cel r 0) k ++ enc T (r.drop 1) := by
  cases r with
  | nil => simp at h
  | cons x r => rfl
theorem enc_b {k : Nat} {r : List Int} (h : r.length = k) : enc (List.replicate k none) r = r := enc_byt k r h
theorem enc_nil (r : List Int) : enc [] r = [] := by cases r <;> rfl
theorem enc_out {r : List Int} (h : r.length = 9) : enc outS r = (seg r 0 8 ++ digs (cel r 8) 7) := by
  rw [outS, enc_h (by omega), enc_n (by rw [List.length_drop]; omega), enc_nil, List.append_nil, cel_drop]
theorem enc_sig {r : List Int} (h : r.length = 281) : enc sigS r = digs (cel r 0) 1 ++ seg r 1 280 := by
  rw [show sigS = some 1 :: List.replicate 280 none from rfl, enc_n (by omega), enc_b (by rw [List.length_drop]; omega), seg_all (by omega)]
theorem enc_in {r : List Int} (h : r.length = 298) : enc inS r = ((seg r 0 8 ++ digs (cel r 8) 1) ++ seg r 9 8) ++ enc sigS (seg r 17 281) := by
  rw [show inS = hS ++ (some 1 :: (hS ++ sigS)) from rfl, enc_h (by omega), enc_n (by rw [List.length_drop]; omega), enc_h (by rw [List.length_drop, List.length_drop]; omega), cel_drop, List.drop_drop, List.drop_drop, seg_all (r := r) (i := 17) (by omega)]
  simp only [List.append_assoc, seg, List.drop_drop]
theorem enc_fwd {r : List Int} (h : r.length = 11) : enc fwdS r = ((digs (cel r 0) 1 ++ digs (cel r 1) 2) ++ seg r 2 8) ++ digs (cel r 10) 7 := by
  rw [show fwdS = some 1 :: some 2 :: (hS ++ [some 7]) from rfl, enc_n (by omega), enc_n (by rw [List.length_drop]; omega), enc_h (by rw [List.length_drop, List.length_drop]; omega), enc_n (by rw [List.length_drop, List.length_drop, List.length_drop]; omega), enc_nil]
  simp only [cel_drop, List.append_assoc, seg, List.drop_drop, List.append_nil]
theorem enc_par {r : List Int} (h : r.length = 3) : enc parS r = (digs (cel r 0) 1 ++ digs (cel r 1) 1) ++ digs (cel r 2) 1 := by
  rw [parS, enc_n (by omega), enc_n (by rw [List.length_drop]; omega), enc_n (by rw [List.length_drop, List.length_drop]; omega), enc_nil]
  simp only [cel_drop, List.append_assoc, List.drop_drop, List.append_nil]
theorem enc_cer {r : List Int} (h : r.length = 19) : enc cerS r = (((digs (cel r 0) 1 ++ digs (cel r 1) 4) ++ digs (cel r 2) 4) ++ seg r 3 8) ++ seg r 11 8 := by
  rw [show cerS = some 1 :: some 4 :: some 4 :: (hS ++ hS) from rfl, enc_n (by omega), enc_n (by rw [List.length_drop]; omega), enc_n (by rw [List.length_drop, List.length_drop]; omega), enc_h (by rw [List.length_drop, List.length_drop, List.length_drop]; omega), show hS = List.replicate 8 none from rfl, enc_b (by simp only [List.length_drop]; omega), seg_all (r := r) (i := 11) (by omega)]
  simp only [cel_drop, List.append_assoc, seg, List.drop_drop]
theorem enc_sgn {r : List Int} (h : r.length = 282) : enc sgnS r = digs (cel r 0) 1 ++ enc sigS (seg r 1 281) := by
  rw [show sgnS = some 1 :: sigS from rfl, enc_n (by omega), seg_all (r := r) (i := 1) (by omega)]
theorem enc_cla {r : List Int} (h : r.length = 140) : enc claS r = (((digs (cel r 0) 1 ++ digs (cel r 1) 2) ++ seg r 2 8) ++ digs (cel r 10) 7) ++ digs (cel r 11) 1 ++ seg r 12 128 := by
  rw [show claS = some 1 :: some 2 :: (hS ++ (some 7 :: some 1 :: List.replicate 128 none)) from rfl, enc_n (by omega), enc_n (by rw [List.length_drop]; omega), enc_h (by simp only [List.length_drop]; omega), enc_n (by simp only [List.length_drop]; omega), enc_n (by simp only [List.length_drop]; omega), enc_b (by simp only [List.length_drop]; omega), seg_all (r := r) (i := 12) (by omega)]
  simp only [cel_drop, List.append_assoc, seg, List.drop_drop]
theorem flat_next {S : Sch} {rs : List (List Int)} {k : Nat} (h : k < rs.length) : (rs.take (k + 1)).flatMap (enc S) = (rs.take k).flatMap (enc S) ++ enc S (rcd rs k) := by
  have : rs.take (k + 1) = rs.take k ++ [rcd rs k] := by rw [List.take_add_one, List.getElem?_eq_getElem h]; simp [rcd, List.getD, h]
  rw [this, List.flatMap_append]
  simp
end Go.Proofs.YtffaddefnpkcgaaGreatDoor
namespace Go.Proofs.YtffaddefnpkcgaaGreatDoor
open Go.RowKit
set_option maxRecDepth 100000
theorem dsig_len {r : List Int} (hl : r.length = 281) : (vals sigS r).length = 281 := vals_len hl
theorem sig_rng {w : World} {S : Nat} {r : List Int} (h : BL w S (vals sigS r) 58) (hl : r.length = 281) : w.rangeAt S 1 (bvals (seg r 1 280)) ∧ (seg r 1 280).length = 280 := by
  have := (sig_at (range_of h) hl).2
  rw [Nat.zero_add] at this
  exact ⟨this, seg_len (by omega)⟩
theorem sig_src {w : World} {S : Nat} {r : List Int} (h : BL w S (vals sigS r) 58) (hl : r.length = 281) (o k : Nat) (ho : 1 ≤ o ∧ o + 8 ≤ 281) (hk : o = k) : Src w (some ⟨S, k, none⟩) 8 (seg r o 8) := by
  subst hk
  obtain ⟨h1, h2⟩ := sig_rng h hl
  have h3 := src_seg (i := o - 1) (k := 8) h1 (by omega)
  rw [dseg_seg (by omega), show 1 + (o - 1) = o by omega] at h3
  exact h3
def sgB (r : List Int) (m : Nat) : List Int := digs (cel r 0) 1 ++ seg r 1 m
theorem sgB_next (r : List Int) (m : Nat) : sgB r (m + 8) = sgB r m ++ seg r (1 + m) 8 := by rw [sgB, seg_next, sgB, List.append_assoc]
theorem sgB_0 (r : List Int) : sgB r 0 = digs (cel r 0) 1 := by rw [sgB, seg_zero, List.append_nil]
attribute [local irreducible] bvals vals cel seg digs sgB enc
set_option maxHeartbeats 4000000 in
theorem dSig (r : List Int) (w : World) (hl : r.length = 281) :
    Calls Tryz.prog 70 #[.agg (vals sigS r).toArray] w fun e w' => ∃ A c, e = .returned (.slice A 281 c) ∧ Ob w.heap.size w' A 281 c (enc sigS r) ∧ Below w.heap.size w w' := by
  obtain ⟨S, hS⟩ : ∃ S, w.heap.size = S := ⟨_, rfl⟩
  have HS := Lib.hid hS
  have X : Hid (BL (w.alloc (Obj.cells (vals sigS r).toArray 58)) S (vals sigS r) 58) := by rw [← hS]; exact heap_alloc_last w _
  have B0 : Hid (Below S w (w.alloc (Obj.cells (vals sigS r).toArray 58))) := by rw [← hS]; exact (Below.refl _ w).alloc (Nat.le_refl _) _
  have Z0 : Hid ((w.alloc (Obj.cells (vals sigS r).toArray 58)).heap.size = S + 1) := by show _ = _; rw [World.size_alloc, hS]
  have k0 : (w.alloc (Obj.cells (vals sigS r).toArray 58)).cell? ⟨S, 0, none⟩ = some (.int .i64 (cel r 0)) := (sig_at (range_of X.out) hl).1
  have HL := Lib.hid hl
  have HE : Hid (enc sigS r = sgB r 280) := Lib.hid ((enc_sig hl).trans (by unfold sgB; rfl))
  clear hl
  go_enter Tryz.func70, Tryz.ntmps70
  go_upto_region 1 with (fail)
  generalize (w.alloc (Obj.cells (vals sigS r).toArray 58)) = v at *
  clear hS
  go_upto_region 2 with (first
    | (go_at_call 31; refine (dNum (cel r 0) 1 _ (by decide)).mono ?_; rintro e w1 ⟨A1, c1, rfl, ho, hb⟩; have O1 : Hid (Ob (S + 1) w1 A1 1 c1 (sgB r 0)) := Lib.hid (by rw [sgB_0]; exact ob_low ho (Nat.le_of_eq Z0.out.symm)); have B1 : Hid (Below (S + 1) v w1) := Lib.hid (by rw [← Z0.out]; exact hb); clear ho hb)
    | fail)
  clear k0
  go_wp2
  go_loopw [3, 4] (fun x i wr => ∃ (k : Nat) (A : Option Addr) (c : Nat), k ≤ 16 ∧ i = .int .i64 k ∧ x = .slice A (1 + (0 + k * 8)) c ∧ Ob (S + 1) wr A (1 + (0 + k * 8)) c (sgB r (0 + k * 8)) ∧ Below (S + 1) v wr) (fun _ i _ => 16 - (intOf i).toNat)
  case atStart => exact ⟨0, A1, c1, by omega, rfl, rfl, O1.out, B1.out⟩
  case round =>
    obtain ⟨k1, A6, c6, hk, rfl, rfl, hown, hbel⟩ := hrel
    have O21 := Lib.hid hown
    have B21 := Lib.hid hbel
    clear hown hbel
    by_cases hlt : k1 < 16
    · have h1 : (k1 : Int) < 16 := by omega
      have X2 := Lib.hid (bl_keep X.out (B21.out.block S (by omega)))
      go_wp2_with (first
        | (at_builtin; refine wpList_ap rfl (.tmp 14) (.tmp 18) rfl (S + 1) (1 + (0 + k1 * 8)) _ _ _ rfl O21.out _ 8 _ _ rfl (sig_src X2.out HL.out (1 + (0 + k1 * 8)) _ (by omega) (by omega)) (fun h => by cases h) (by omega) (by have := B21.out.size; have := Z0.out; omega) ?_; intro A2 c2 w2 ho hb _; have O3 := Lib.hid ho; have B3 := Lib.hid (B21.out.trans hb); clear ho hb)
        | fail)
      have HN : Hid (1 + (0 + k1 * 8) + 8 = 1 + (0 + (k1 + 1) * 8)) := Lib.hid (by omega)
      have HM : Hid (sgB r (0 + (k1 + 1) * 8) = sgB r (0 + k1 * 8) ++ seg r (1 + (0 + k1 * 8)) 8) := Lib.hid (by rw [show 0 + (k1 + 1) * 8 = 0 + k1 * 8 + 8 by omega, sgB_next, show 1 + (0 + k1 * 8) = 1 + (0 + k1 * 8) from rfl])
      go_roundw
      case rel => exact ⟨k1 + 1, A2, c2, by omega, by go_num, sl_eq (by omega), ob_eq O3.out HN.out HM.out.symm, B3.out⟩
      case measure => simp [intOf]; omega
    · have h1 : ¬ (k1 : Int) < 16 := by omega
      have hk1 : k1 = 16 := by omega
      clear hlt hk
      go_wp2
      go_loopw [3, 5] (fun x i wr => ∃ (k : Nat) (A : Option Addr) (c : Nat), k ≤ 16 ∧ i = .int .i64 k ∧ x = .slice A (1 + (128 + k * 8)) c ∧ Ob (S + 1) wr A (1 + (128 + k * 8)) c (sgB r (128 + k * 8)) ∧ Below (S + 1) v wr) (fun _ i _ => 16 - (intOf i).toNat)
      case atStart => exact ⟨0, A6, c6, by omega, rfl, sl_eq (by omega), ob_eq O21.out (by omega) (by rw [show 128 + 0 * 8 = 0 + k1 * 8 by omega]), B21.out⟩
      case round =>
        obtain ⟨k2, A7, c7, hk, rfl, rfl, hown, hbel⟩ := hrel
        have O22 := Lib.hid hown
        have B22 := Lib.hid hbel
        clear hown hbel
        by_cases hlt : k2 < 16
        · have h1 : (k2 : Int) < 16 := by omega
          have X2 := Lib.hid (bl_keep X.out (B22.out.block S (by omega)))
          go_wp2_with (first
            | (at_builtin; refine wpList_ap rfl (.tmp 24) (.tmp 28) rfl (S + 1) (1 + (128 + k2 * 8)) _ _ _ rfl O22.out _ 8 _ _ rfl (sig_src X2.out HL.out (1 + (128 + k2 * 8)) _ (by omega) (by omega)) (fun h => by cases h) (by omega) (by have := B22.out.size; have := Z0.out; omega) ?_; intro A2 c2 w2 ho hb _; have O3 := Lib.hid ho; have B3 := Lib.hid (B22.out.trans hb); clear ho hb)
            | fail)
          have HN : Hid (1 + (128 + k2 * 8) + 8 = 1 + (128 + (k2 + 1) * 8)) := Lib.hid (by omega)
          have HM : Hid (sgB r (128 + (k2 + 1) * 8) = sgB r (128 + k2 * 8) ++ seg r (1 + (128 + k2 * 8)) 8) := Lib.hid (by rw [show 128 + (k2 + 1) * 8 = 128 + k2 * 8 + 8 by omega, sgB_next, show 1 + (128 + k2 * 8) = 1 + (128 + k2 * 8) from rfl])
          go_roundw
          case rel => exact ⟨k2 + 1, A2, c2, by omega, by go_num, sl_eq (by omega), ob_eq O3.out HN.out HM.out.symm, B3.out⟩
          case measure => simp [intOf]; omega
        · have h1 : ¬ (k2 : Int) < 16 := by omega
          have hk2 : k2 = 16 := by omega
          clear hlt hk
          go_wp2
          go_loopw [3, 6] (fun x i wr => ∃ (k : Nat) (A : Option Addr) (c : Nat), k ≤ 3 ∧ i = .int .i64 k ∧ x = .slice A (1 + (256 + k * 8)) c ∧ Ob (S + 1) wr A (1 + (256 + k * 8)) c (sgB r (256 + k * 8)) ∧ Below (S + 1) v wr) (fun _ i _ => 3 - (intOf i).toNat)
          case atStart => exact ⟨0, A7, c7, by omega, rfl, sl_eq (by omega), ob_eq O22.out (by omega) (by rw [show 256 + 0 * 8 = 128 + k2 * 8 by omega]), B22.out⟩
          case round =>
            obtain ⟨k3, A8, c8, hk, rfl, rfl, hown, hbel⟩ := hrel
            have O23 := Lib.hid hown
            have B23 := Lib.hid hbel
            clear hown hbel
            by_cases hlt : k3 < 3
            · have h1 : (k3 : Int) < 3 := by omega
              have X2 := Lib.hid (bl_keep X.out (B23.out.block S (by omega)))
              go_wp2_with (first
                | (at_builtin; refine wpList_ap rfl (.tmp 34) (.tmp 38) rfl (S + 1) (1 + (256 + k3 * 8)) _ _ _ rfl O23.out _ 8 _ _ rfl (sig_src X2.out HL.out (1 + (256 + k3 * 8)) _ (by omega) (by omega)) (fun h => by cases h) (by omega) (by have := B23.out.size; have := Z0.out; omega) ?_; intro A2 c2 w2 ho hb _; have O3 := Lib.hid ho; have B3 := Lib.hid (B23.out.trans hb); clear ho hb)
                | fail)
              have HN : Hid (1 + (256 + k3 * 8) + 8 = 1 + (256 + (k3 + 1) * 8)) := Lib.hid (by omega)
              have HM : Hid (sgB r (256 + (k3 + 1) * 8) = sgB r (256 + k3 * 8) ++ seg r (1 + (256 + k3 * 8)) 8) := Lib.hid (by rw [show 256 + (k3 + 1) * 8 = 256 + k3 * 8 + 8 by omega, sgB_next, show 1 + (256 + k3 * 8) = 1 + (256 + k3 * 8) from rfl])
              go_roundw
              case rel => exact ⟨k3 + 1, A2, c2, by omega, by go_num, sl_eq (by omega), ob_eq O3.out HN.out HM.out.symm, B3.out⟩
              case measure => simp [intOf]; omega
            · have h1 : ¬ (k3 : Int) < 3 := by omega
              have hk3 : k3 = 3 := by omega
              clear hlt hk
              go_wp2
              go_ret
              exact ⟨A8, c8, congrArg _ (sl_eq (by omega)), by rw [HS.out, HE.out]; exact ob_eq (ob_low O23.out (by omega)) (by omega) (by rw [show 280 = 256 + k3 * 8 by omega]), by rw [HS.out]; exact B0.out.trans (B23.out.mono (by omega))⟩
end Go.Proofs.YtffaddefnpkcgaaGreatDoor
namespace Go.Proofs.YtffaddefnpkcgaaGreatDoor
open Go.RowKit
set_option maxRecDepth 100000
theorem encL_take (S : Sch) (rs : List (List Int)) : encL S rs = digs rs.length 1 ++ (rs.take rs.length).flatMap (enc S) := by rw [List.take_length]; rfl
def rwB (S : Sch) (rs : List (List Int)) (k : Nat) : List Int := digs rs.length 1 ++ (rs.take k).flatMap (enc S)
theorem rwB_0 (S : Sch) (rs : List (List Int)) : rwB S rs 0 = digs rs.length 1 := by simp [rwB]
theorem rwB_all (S : Sch) (rs : List (List Int)) : rwB S rs rs.length = encL S rs := (encL_take S rs).symm
theorem rwB_next {S : Sch} {rs : List (List Int)} {k : Nat} (h : k < rs.length) : rwB S rs (k + 1) = rwB S rs k ++ enc S (rcd rs k) := by rw [rwB, flat_next h, rwB, List.append_assoc]
attribute [local irreducible] bvals vals cel seg digs enc rwB rcd
set_option maxHeartbeats 4000000 in
theorem dOutsB (A0 : Option Addr) (len c0 : Nat) (rs : List (List Int)) (w : World) (hn : rs.length = len) (hr : LRow outS w A0 rs) (ha : AllR outS rs) (hc : len ≤ c0) (h100 : len ≤ 100) :
    Calls Tryz.prog 32 #[.slice A0 len c0] w fun e w' => ∃ A c, e = .returned (.slice A (1 + len * 15) c) ∧ Ob w.heap.size w' A (1 + len * 15) c (encL outS rs) ∧ Below w.heap.size w w' := by
  obtain ⟨S, hS⟩ : ∃ S, w.heap.size = S := ⟨_, rfl⟩
  have HS := Lib.hid hS
  have HN := Lib.hid hn
  have HR := Lib.hid hr
  have HA := Lib.hid ha
  have HC : Hid (len ≤ c0) := Lib.hid hc
  have h1 : IntKind.i64.wrap (len : Int) = (len : Int) := by rw [IntKind.wrap_i64]; omega
  clear hn hr ha
  go_enter Tryz.func32, Tryz.ntmps32
  go_upto_region 2 with (first
    | (go_at_call 31; refine (dNum (len : Int) 1 _ (by decide)).mono ?_; rintro e w1 ⟨A1, c1, rfl, ho, hb⟩; have O1 : Hid (Ob S w1 A1 1 c1 (rwB outS rs 0)) := Lib.hid (by rw [rwB_0, HN.out]; exact ob_low ho (Nat.le_of_eq hS.symm)); have B1 : Hid (Below S w w1) := Lib.hid (by rw [← hS]; exact hb); clear ho hb)
    | fail)
  go_wp2
  go_loopw [3, 4] (fun x i wr => ∃ (k : Nat) (A : Option Addr) (c : Nat), k ≤ len ∧ i = .int .i64 k ∧ x = .slice A (1 + k * 15) c ∧ Ob S wr A (1 + k * 15) c (rwB outS rs k) ∧ Below S w wr) (fun _ i _ => len - (intOf i).toNat)
  case atStart => exact ⟨0, A1, c1, by omega, rfl, rfl, O1.out, B1.out⟩
  case round =>
    obtain ⟨k, A, c, hk, rfl, rfl, hown, hbel⟩ := hrel
    have O2 := Lib.hid hown
    have B2 := Lib.hid hbel
    have WN : Hid (S ≤ wr.heap.size) := Lib.hid (by have := hbel.size; omega)
    clear hown hbel O1 B1
    by_cases hlt : k < len
    · have h2 : (k : Int) < (len : Int) := by omega
      have h3 : IntKind.i64.wrap (k : Int) = (k : Int) := by rw [IntKind.wrap_i64]; omega
      obtain ⟨b, o, rfl, hrow⟩ := lrow_at HR.out (by rw [HN.out]; omega)
      have hk2 := hrow k (by rw [HN.out]; exact hlt)
      have hl := lrow_len HA.out (show k < rs.length by rw [HN.out]; exact hlt)
      have hl9 : (rcd rs k).length = 9 := hl
      have hbS : b < S := by
        rw [← hS]
        exact World.block_lt_of_cell? w _ (out_at hk2 hl9).2
      have RK : Hid (∀ w' : World, (∀ q, q < S → w'.heap[q]? = wr.heap[q]?) → w'.rangeAt b (o + k * 9) (vals outS (rcd rs k))) := Lib.hid fun w' h => range_keep1 hk2 ((h b hbS).trans (B2.out.block b hbS))
      have HE := Lib.hid (rwB_next (S := outS) (show k < rs.length by rw [HN.out]; exact hlt))
      rw [enc_out hl9] at HE
      have HL9 := Lib.hid hl9
      have HT : Hid (1 + k * 15 + 8 + 7 = 1 + (k + 1) * 15) := Lib.hid (by omega)
      obtain ⟨r, hr⟩ : ∃ r, rcd rs k = r := ⟨_, rfl⟩
      rw [hr] at RK HE HL9
      clear hrow hk2 hl hl9 hr hbS
      go_wp2_with fail
      rename_i K hK
      have XX : Hid (Below S wr wr.drew) := (Below.refl _ _).drew
      replace O2 := Lib.hid (ob_drew O2.out)
      refine wp_region_held_drew (S := (fun w' : World => ∀ q, q < S → w'.heap[q]? = wr.heap[q]?)) (by kernel_rfl) (by exact fun _ _ => rfl) (fun hHeld => ?_)
      refine tk (i := 0) (v := ?_) rfl (Or.inl ⟨by rfl, ?_⟩) (by assumption) ?_
      rotate_left
      · (intro w hSw; (try dsimp only at hSw); go_simp; try with_reducible rfl)
      simp only [Act.put, ly1, ly3, ly4, ly5, ly6]
      refine tk (i := 1) (v := ?_) rfl (Or.inl ⟨by rfl, ?_⟩) (by assumption) ?_
      rotate_left
      · (intro w hSw; (try dsimp only at hSw); go_simp; try with_reducible rfl)
      simp only [Act.put, ly1, ly2, ly3, ly4, ly5, ly6]
      refine tk (i := 2) (v := ?_) rfl (Or.inl ⟨by rfl, ?_⟩) (by assumption) ?_
      rotate_left
      · (intro w hSw; (try dsimp only at hSw); go_simp; try with_reducible rfl)
      simp only [Act.put, ly1, ly2, ly3, ly4, ly5, ly6]
      refine tk (i := 3) (v := ?_) rfl (Or.inl ⟨by rfl, ?_⟩) (by assumption) ?_
      rotate_left
      · (intro w hSw; (try dsimp only at hSw); go_simp; try with_reducible rfl)
      simp only [Act.put, ly1, ly2, ly3, ly4, ly5, ly6]
      refine tk (i := 4) (v := ?_) rfl (Or.inl ⟨by rfl, ?_⟩) (by assumption) ?_
      rotate_left
      · (intro w hSw; (try dsimp only at hSw); go_simp; try with_reducible rfl)
      simp only [Act.put, ly1, ly2, ly3, ly4, ly5, ly6]
      refine tk (i := 5) (v := ?_) rfl (Or.inl ⟨by rfl, ?_⟩) (by assumption) ?_
      rotate_left
      · (intro w hSw; (try dsimp only at hSw); go_simp; try with_reducible rfl)
      simp only [Act.put, ly1, ly2, ly3, ly4, ly5, ly6]
      refine tk (i := 7) (v := ?_) rfl (Or.inl ⟨by rfl, ?_⟩) (by assumption) ?_
      rotate_left
      · (intro w hSw; (try dsimp only at hSw); go_simp; try with_reducible rfl)
      simp only [Act.put, ly1, ly2, ly3, ly4, ly5, ly6]
      refine tk (i := 8) (v := ?_) rfl (Or.inl ⟨by rfl, ?_⟩) (by assumption) ?_
      rotate_left
      · (intro w hSw; (try dsimp only at hSw); go_simp; try with_reducible rfl)
      simp only [Act.put, ly1, ly2, ly3, ly4, ly5, ly6]
      refine tk (i := 9) (v := ?_) rfl (Or.inl ⟨by rfl, ?_⟩) (by assumption) ?_
      rotate_left
      · (intro w hSw; (try dsimp only at hSw); go_simp; try with_reducible rfl)
      simp only [Act.put, ly1, ly2, ly3, ly4, ly5, ly6]
      refine tk (i := 10) (v := ?_) rfl (Or.inl ⟨by rfl, ?_⟩) (by assumption) ?_
      rotate_left
      · (intro w hSw; (try dsimp only at hSw); go_simp; try with_reducible rfl)
      simp only [Act.put, ly1, ly2, ly3, ly4, ly5, ly6]
      refine tk (i := 11) (v := ?_) rfl (Or.inl ⟨by rfl, ?_⟩) (by assumption) ?_
      rotate_left
      · (intro w hSw; (try dsimp only at hSw); have c1 := (out_at (RK.out w hSw) HL9.out).2; go_simp; try with_reducible rfl)
      simp only [Act.put, ly1, ly2, ly3, ly4, ly5, ly6]
      refine wpAnyH_ready (rs := [6]) (by kernel_rfl) (by simp) ?_
      refine AllReadyH.cons rfl (fun K hK => ?_) AllReadyH.nil
      refine step_ap rfl (.tmp 14) (.tmp 19) rfl (S) (1 + k * 15) _ _ _ rfl O2.out _ (8) _ _ rfl (src_all (out_at (RK.out _ (by exact fun q hq => XX.out.block q hq)) HL9.out).1 (seg_len (by rw [HL9.out]; omega))) (fun h => by cases h) (by omega) (by have := XX.out.size; have := WN.out; omega) ?_
      intro A3 c3 wc1 hob hba hot
      have XN : Hid (Below S wr wc1) := XX.out.trans (hba.mono (by omega))
      have O3 : Hid (Ob S wc1 A3 _ c3 (rwB outS rs k ++ seg r 0 8)) := Lib.hid (hob)
      clear XX hba hob hot hHeld
      have XX := XN
      clear XN
      refine hK.out _ _ (by exact fun q hq => XX.out.block q hq) (fun hHeld => ?_)
      clear hK K
      refine wpAnyH_ready (rs := [12]) (by kernel_rfl) (by simp) ?_
      refine AllReadyH.cons rfl (fun K hK => ?_) AllReadyH.nil
      go_simp
      go_at_call 31
      refine (dNum (cel r 8) 7 _ (by decide)).mono ?_
      rintro e wc2 ⟨AN, cN, rfl, hob, hba⟩
      have XN : Hid (Below S wr wc2) := XX.out.trans (hba.mono (by have := XX.out.size; have := WN.out; omega))
      replace O3 := Lib.hid (ob_keep O3.out hba)
      have ON : Hid (Ob S wc2 AN _ cN (digs (cel r 8) 7)) := Lib.hid (ob_low hob (by have := XX.out.size; have := WN.out; omega))
      clear XX hba hob hHeld
      have XX := XN
      clear XN
      (try go_wp2_with fail)
      refine hK.out _ _ (by exact fun q hq => XX.out.block q hq) (fun hHeld => ?_)
      clear hK K
      refine wpAnyH_ready (rs := [13]) (by kernel_rfl) (by simp) ?_
      refine AllReadyH.cons rfl (fun K hK => ?_) AllReadyH.nil
      refine step_ap rfl (.tmp 20) (.tmp 26) rfl (S) (1 + k * 15 + 8) _ _ _ rfl O3.out _ (7) _ _ rfl (ob_src ON.out) ((ob_cap ON.out).2.2) (by omega) (by have := XX.out.size; have := WN.out; omega) ?_
      intro A4 c4 wc3 hob hba hot
      have XN : Hid (Below S wr wc3) := XX.out.trans (hba.mono (by omega))
      have O4 : Hid (Ob S wc3 A4 _ c4 (rwB outS rs k ++ seg r 0 8 ++ digs (cel r 8) 7)) := Lib.hid (hob)
      clear XX hba hob hot hHeld
      have XX := XN
      clear XN
      refine hK.out _ _ (by exact fun q hq => XX.out.block q hq) (fun hHeld => ?_)
      clear hK K
      refine tk (i := 14) (v := ?_) rfl (Or.inl ⟨by rfl, ?_⟩) (by assumption) ?_
      rotate_left
      · (intro w hSw; (try dsimp only at hSw); go_simp; try with_reducible rfl)
      simp only [Act.put, ly1, ly2, ly3, ly4, ly5, ly6]
      refine wpAnyH_done (by kernel_rfl) ?_ _
      show K _ _
      refine hK _ _ ?_
      clear hK K hHeld
      go_wp2
      go_roundw
      case rel => exact ⟨k + 1, _, _, by omega, by go_num, by rw [HT.out], by rw [HE.out, ← HT.out, ← List.append_assoc]; exact O4.out, B2.out.trans XX.out⟩
      case measure => simp [intOf]; omega
    · obtain rfl : k = len := by omega
      go_wp2
      go_ret
      exact ⟨A, c, rfl, by rw [HS.out, ← rwB_all, HN.out]; exact O2.out, by rw [HS.out]; exact B2.out⟩
end Go.Proofs.YtffaddefnpkcgaaGreatDoor

