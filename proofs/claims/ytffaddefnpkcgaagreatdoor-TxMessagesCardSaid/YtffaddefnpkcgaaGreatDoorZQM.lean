/-
  Which parameters may be: quorum's May, the document's.
-/
import Derived.Test.YtffaddefnpkcgaaGreatDoorZB
import Derived.Test.YtffaddefnpkcgaaGreatDoorZHD
import Derived.Deep.DeepCutAuto
import Derived.Shelf.SlicesQ.Contains
import Derived.BigQuiet
import Derived.Test.YtffaddefnpkcgaaGreatDoorZW
namespace Go.Proofs.YtffaddefnpkcgaaGreatDoor
open Go.RowKit
set_option maxRecDepth 100000
theorem win_no1 {lo hi x : Int} (h : x < lo) : win lo hi x = false := by unfold win; rw [decide_eq_false (by omega : ¬ lo ≤ x), Bool.false_and]
theorem win_no2 {lo hi x : Int} (h : hi < x) : win lo hi x = false := by unfold win; rw [decide_eq_false (by omega : ¬ x ≤ hi), Bool.and_false]
theorem win_yes {lo hi x : Int} (h : lo ≤ x) (h2 : x ≤ hi) : win lo hi x = true := by unfold win; rw [decide_eq_true h, decide_eq_true h2]; rfl
theorem kWithin (n lo hi : Int) (w : World) : Calls Tryz.prog 106 #[.int .i64 n, .int .i64 lo, .int .i64 hi] w fun e w' => e = .returned (.bool (win lo hi n)) ∧ w = w' := by
  obtain ⟨c1, h1⟩ : ∃ c, decide (lo ≤ n) = c := ⟨_, rfl⟩
  obtain ⟨c2, h2⟩ : ∃ c, decide (n ≤ hi) = c := ⟨_, rfl⟩
  have hw : win lo hi n = (c1 && c2) := by unfold win; rw [h1, h2]
  rw [hw]
  clear hw
  cases c1 <;> cases c2 <;>
  · go_enter Tryz.func106, Tryz.ntmps106
    go_wp2
    go_ret
    exact ⟨rfl, rfl⟩
theorem ba_new {w : World} {S : Nat} (h : w.heap.size = S) (xs : List Int) (t : TypeId) : BA (w.alloc (Obj.cells (ba xs) t)) S t xs := by subst h; exact heap_alloc_last w _
theorem eqhL (x y : List Int) (w : World) (hx : x.length = 8) (hy : y.length = 8) : (Op.equalIn 10000 29 (.agg (ba x)) (.agg (ba y))).run Tryz.prog w = .ok (decide (x = y)) w := eq_ba 29 8 9998 Tryz.underlying29 x y w hx hy
theorem kZero (x : List Int) (w : World) (hx : x.length = 8) : Calls Tryz.prog 78 #[.agg (ba x)] w fun e w' => e = .returned (.bool (decide (x = zeros 8))) ∧ Below w.heap.size w w' := by
  have f1 := fun w => eqhL x (zeros 8) w hx (zeros_len 8)
  rw [ba8] at f1
  have HX := Lib.hid hx
  obtain ⟨S, hS⟩ : ∃ S, w.heap.size = S := ⟨_, rfl⟩
  have HS := Lib.hid hS
  have X0 := Lib.hid (ba_new hS x 29)
  have B0 : Hid (Below S w (w.alloc (Obj.cells (ba x) 29))) := by subst hS; exact (Below.refl _ w).alloc (Nat.le_refl _) _
  clear hx
  go_enter Tryz.func78, Tryz.ntmps78
  go_wp2_with (first
    | (refine wpList_load_row rfl 29 (.tmp 1) rfl S rfl 29 (ba x) (0, 0) _ X0.out Tryz.underlying29 rfl (sz s27 (by rw [ba_size, HX.out])) ?_)
    | fail)
  go_ret
  exact ⟨rfl, by rw [HS.out]; exact B0.out⟩
def at8 (l : List Int) (s : Nat) : List Int := (l.drop (8 * s)).take 8
def PB (w : World) (q : Nat) (a b c : Int) (v : Value) : Prop := w.heap[q]? = some (.cells #[.int .i64 a, .int .i64 b, .int .i64 c, v] 27 (0, 0))
theorem pb_cells {w : World} {q : Nat} {a b c : Int} {v : Value} (h : PB w q a b c v) : w.cell? ⟨q, 0, none⟩ = some (.int .i64 a) ∧ w.cell? ⟨q, 1, none⟩ = some (.int .i64 b) ∧ w.cell? ⟨q, 2, none⟩ = some (.int .i64 c) ∧ w.cell? ⟨q, 3, none⟩ = some v := by
  refine ⟨?_, ?_, ?_, ?_⟩ <;> rw [cell_of_row w q _ _ 27 (0, 0) h] <;> rfl
theorem pb_new {w : World} {S : Nat} (h : w.heap.size = S) (a b c : Int) (v : Value) : PB (w.alloc (Obj.cells #[.int .i64 a, .int .i64 b, .int .i64 c, v] 27)) S a b c v := by subst h; exact heap_alloc_last w _
theorem at8_len {l : List Int} {n s : Nat} (h : l.length = 8 * n) (hs : s < n) : (at8 l s).length = 8 := by unfold at8; rw [List.length_take, List.length_drop]; omega
theorem bvals_len (L : List Int) : (bvals L).length = L.length := by simp [bvals]
theorem key_range {w : World} {b o n k : Nat} {l : List Int} (h : Src w (some ⟨b, o, none⟩) (8 * n) l) (hk : k < n) : w.rangeAt b (o + k * 8) (bvals (at8 l k)) := fun j v hv => by
  rcases h.2 with h0 | ⟨b', o', e, hc⟩
  · omega
  · cases e
    have hj := (List.getElem?_eq_some_iff.1 hv).1
    have h8 := at8_len (n := n) h.1 hk
    rw [bvals_len, h8] at hj
    rw [show o + k * 8 + j = o + (k * 8 + j) by omega, hc (k * 8 + j) (by omega), ← hv]
    have hl := h.1
    unfold at8
    rw [Nat.mul_comm 8 k]
    simp [bvals, List.getD, hj, show k * 8 + j < l.length by omega]
theorem src_at {w : World} {A : Option Addr} {n : Nat} {l : List Int} (h : Src w A (8 * n) l) (hn : 1 ≤ n) : ∃ g o, A = some ⟨g, o, none⟩ := by
  rcases h.2 with h2 | ⟨g, o, h3, _⟩
  · omega
  · exact ⟨g, o, h3⟩
def en (x : List Int) : List Value := (List.range 8).map fun j => .int .u8 (x.getD j 0)
theorem eight (l : List Int) (h : l.length = 8) : ∃ x0 x1 x2 x3 x4 x5 x6 x7, l = [x0, x1, x2, x3, x4, x5, x6, x7] := by
  match l, h with
  | [a0, a1, a2, a3, a4, a5, a6, a7], _ => exact ⟨a0, a1, a2, a3, a4, a5, a6, a7, rfl⟩
def nm (x : List Int) : List Int := (List.range 8).map fun j => x.getD j 0
theorem en_nm (x : List Int) : en x = bvals (nm x) := by simp [en, nm, bvals]
theorem en_len (x : List Int) : (en x).length = 8 := by simp [en]
theorem eql_h (x y : List Int) (w : World) (hx : x.length = 8) (hy : y.length = 8) : (binOp .eql 29 (.agg (ba x)) (.agg (ba y))).run Tryz.prog w = .ok (.bool (decide (x = y))) w := by
  rw [run_eql_struct]
  simp only [eqhL x y w hx hy, Result.andThen_ok]
theorem nm_len (x : List Int) : (nm x).length = 8 := by simp [nm]
theorem eqlH : Go.Proofs.EqlAt Tryz.prog 29 (fun x : List Int => .agg (en x).toArray) (fun x y => decide (nm x = nm y)) := by
  refine ⟨fun x y w => ?_, GuardAt.agg _ (by kernel_rfl)⟩
  show (binOp .eql 29 (.agg (en x).toArray) (.agg (en y).toArray)).run Tryz.prog w = .ok (.bool (decide (nm x = nm y))) w
  rw [en_nm, en_nm]
  exact eql_h (nm x) (nm y) w (nm_len x) (nm_len y)
def lays7_ren : Go.Shelf.Ren := ⟨fun | 6 => 133 | 7 => 125 | n => n, fun | 0 => 0 | 3 => 3 | 4 => 4 | 22 => 25 | 24 => 29 | n => n, fun | n => n⟩
theorem lays7 : Go.Proofs.SlLaysQ.n7 Tryz.prog lays7_ren := {
  mixed := by kernel_rfl
  f6 := ⟨"slices.Index[[]drawbridge/api.Hash,drawbridge/api.Hash]", by kernel_rfl, Tryz.func133.trans (congrArg some (by kernel_rfl))⟩
  f7 := ⟨"slices.Contains[[]drawbridge/api.Hash,drawbridge/api.Hash]", by kernel_rfl, Tryz.func125.trans (congrArg some (by kernel_rfl))⟩
  t0 := Tryz.underlying0
  a0 := Tryz.isAgg0
  z0 := Tryz.sizeOf0
  v0 := Tryz.zeroValue0
  t3 := Tryz.underlying3
  a3 := Tryz.isAgg3
  z3 := Tryz.sizeOf3
  v3 := Tryz.zeroValue3
  t4 := Tryz.underlying4
  a4 := Tryz.isAgg4
  z4 := Tryz.sizeOf4
  v4 := Tryz.zeroValue4
  t22 := Tryz.underlying25
  a22 := Tryz.isAgg25
  z22 := Tryz.sizeOf25
  v22 := Tryz.zeroValue25 }
theorem nm_eq {x : List Int} (h : x.length = 8) : nm x = x := by
  match x, h with
  | [a0, a1, a2, a3, a4, a5, a6, a7], _ => rfl
theorem kContains (b o n k cap : Nat) (flat x : List Int) (w : World) (hs : Src w (some ⟨b, o, none⟩) (8 * n) flat) (hx : x.length = 8) (hk : k ≤ n) (h64 : n ≤ 65536) :
    Calls Tryz.prog 125 #[.slice (some ⟨b, o, none⟩) k cap, .agg (ba x)] w fun e w' => e = .returned (.bool (decide (∃ j, j < k ∧ at8 flat j = x))) ∧ Below w.heap.size w w' := by
  obtain ⟨zs, hz⟩ : ∃ zs, (List.range n).map (at8 flat) = zs := ⟨_, rfl⟩
  have hzl : zs.length = n := by rw [← hz]; simp
  have hza : ∀ j, j < n → zs[j]! = at8 flat j := fun j hj => by
    rw [getElem!_pos _ _ (by omega)]
    subst hz
    simp
  have C := AnyQ.slices_Contains lays7 8 Tryz.isAgg29 Tryz.sizeOf29 en en_len _ eqlH b o k cap zs x w (by omega) (by omega) (fun j hj i v hv => by
    rw [hza j (by omega), en_nm, nm_eq (at8_len (n := n) hs.1 (by omega))] at hv
    exact key_range hs (by omega) i v hv)
  rw [en_nm, nm_eq hx] at C
  have e : ((zs.take k).any fun y => decide (x = nm y)) = decide (∃ j, j < k ∧ at8 flat j = x) := by
    rw [Bool.eq_iff_iff, List.any_eq_true, decide_eq_true_eq]
    constructor
    · rintro ⟨y, hy, h2⟩
      obtain ⟨j, hj, e⟩ := List.mem_iff_getElem.1 hy
      rw [List.length_take] at hj
      have h3 := hza j (by omega)
      rw [getElem!_pos _ _ (by omega)] at h3
      rw [List.getElem_take, h3] at e
      rw [← e, nm_eq (at8_len (n := n) hs.1 (by omega))] at h2
      exact ⟨j, by omega, (of_decide_eq_true h2).symm⟩
    · rintro ⟨j, hj, h2⟩
      refine ⟨at8 flat j, ?_, ?_⟩
      · rw [← hza j (by omega), getElem!_pos _ _ (by omega)]
        exact List.mem_iff_getElem.2 ⟨j, by rw [List.length_take]; omega, List.getElem_take⟩
      · rw [nm_eq (at8_len (n := n) hs.1 (by omega)), h2, decide_eq_true rfl]
  rw [e] at C
  exact C
theorem fine_eq (F : Nat → List Int) (i : Nat) : decide (fine F i) = (!decide (F i = zeros 8) && !decide (∃ j, j < i ∧ F j = F i)) := by
  rw [Bool.eq_iff_iff, decide_eq_true_eq, Bool.and_eq_true]
  simp only [Bool.not_eq_true', decide_eq_false_iff_not]
  unfold fine
  constructor
  · rintro ⟨h1, h2⟩
    exact ⟨h1, fun ⟨j, hj, e⟩ => h2 j hj e⟩
  · rintro ⟨h1, h2⟩
    exact ⟨h1, fun k hk e => h2 ⟨k, hk, e⟩⟩
theorem ba_bvals (xs : List Int) : ba xs = (bvals xs).toArray := rfl
theorem fineP_of {F : Nat → List Int} {n : Nat} (h : ∀ j, j < n → fine F j) : fineP F n := h
theorem fineP_at {F : Nat → List Int} {n : Nat} (h : fineP F n) (j : Nat) (hj : j < n) : fine F j := h j hj
theorem inf23 (l : List Int) (h : l.length = 8) : (Tryz.prog.info? 29).map (·.size) = some (bvals l).length := by rw [s27, bvals_len, h]
set_option maxRecDepth 100000 in
theorem sl_front (g o n cap k : Nat) (w : World) (hk : k ≤ cap) (h0 : 1 ≤ cap) : (Instr.slice 25 (.slice (some ⟨g, o, none⟩) n cap) none (some (.int .i64 k)) none).run Tryz.prog w = .ok (.slice (some ⟨g, o, none⟩) k cap) w := by
  rw [run_slice_h w 25 _ n cap Tryz.underlying25 .i64 k (by omega) (by omega)]
  have hs : (sizeOf (Tryz.prog.elem 25)).run Tryz.prog w = .ok 8 w := Tryz.sizeOf29 w
  rw [hs]
  simp only [Result.andThen, sliced, Int.toNat_natCast, Nat.sub_zero]
  rw [if_neg (by omega)]
  simp [Addr.add]
attribute [local irreducible] ua da ba kk sw S8.run rt hs comp splice outB sha msg bvals zeros at8 fineP win
set_option maxRecDepth 100000 in
set_option maxHeartbeats 8000000 in
theorem kMayKeys (A : Option Addr) (n cap : Nat) (flat : List Int) (w : World) (hs : Src w A (8 * n) flat) (hc : n ≤ cap) (hc2 : cap ≤ maxLen) :
    Calls Tryz.prog 105 #[.slice A n cap] w fun e w' => e = .returned (.bool (mayK (at8 flat) n)) ∧ Below w.heap.size w w' := by
  have h4 := z27
  have HSR := Lib.hid hs
  obtain ⟨S, hS⟩ : ∃ S, w.heap.size = S := ⟨_, rfl⟩
  have HS := Lib.hid hS
  unfold maxLen at hc2
  have B0 : Hid (Below S w w) := Below.refl _ _
  obtain ⟨c, hcc⟩ : ∃ c, win 1 5 n = c := ⟨_, rfl⟩
  have C17 : Hid (∀ w', Calls Tryz.prog 106 #[.int .i64 n, .int .i64 1, .int .i64 5] w' fun e w'' => e = .returned (.bool c) ∧ w' = w'') := fun w' => by
    have := kWithin n 1 5 w'
    rw [hcc] at this
    exact this
  have HC := Lib.hid hcc
  clear hs hcc
  cases c
  · have hm : mayK (at8 flat) n = false := by unfold mayK; rw [HC.out, Bool.false_and]
    rw [hm]
    clear hm hS
    go_enter Tryz.func105, Tryz.ntmps105
    go_wp2_with (first | (go_at_call 106; refine (C17.out _).mono ?_; rintro e w' ⟨rfl, rfl⟩) | fail)
    go_ret
    exact ⟨rfl, by rw [HS.out]; exact B0.out⟩
  · have hm : mayK (at8 flat) n = decide (fineP (at8 flat) n) := by unfold mayK; rw [HC.out, Bool.true_and]
    rw [hm]
    have hn5 : 1 ≤ n ∧ n ≤ 5 := by
      have := HC.out
      simp only [win, Bool.and_eq_true, decide_eq_true_eq] at this
      omega
    obtain ⟨b, o, rfl⟩ := src_at HSR.out hn5.1
    have H5 := Lib.hid hn5
    clear hm hS hn5
    go_enter Tryz.func105, Tryz.ntmps105
    go_wp2_with (first | (go_at_call 106; refine (C17.out _).mono ?_; rintro e w' ⟨rfl, rfl⟩) | fail)
    go_loopw [11] (fun i wr => ∃ q : Nat, q ≤ n ∧ i = .int .i64 q ∧ (∀ j, j < q → fine (at8 flat) j) ∧ Below S w wr) (fun i _ => n - (intOf i).toNat)
    case atStart => exact ⟨0, Nat.zero_le _, rfl, fun j hj => by omega, B0.out⟩
    case round =>
      obtain ⟨q, hq, rfl, hj, hb⟩ := hrel
      have JR := Lib.hid hj
      have BR := Lib.hid hb
      have SVwr : Hid (S ≤ wr.heap.size) := by show _ ≤ _; rw [← HS.out]; have := hb.size; exact this
      clear hj hb
      by_cases hlt : q < n
      · have s0 : (0 : Int) ≤ (q : Int) := by omega
        have s1 : (q : Int) < (n : Int) := by omega
        obtain ⟨x, hx⟩ : ∃ x, at8 flat q = x := ⟨_, rfl⟩
        have HX := Lib.hid hx
        have LX : Hid (x.length = 8) := by rw [← hx]; exact at8_len (n := n) HSR.out.1 hlt
        have hix := inf23 x LX.out
        have RX : Hid (wr.rangeAt b (o + q * 8) (bvals x)) := by
          show World.rangeAt _ _ _ _
          rw [← hx]
          exact key_range (HSR.out.keep fun k hk => BR.out.block k (by rw [← HS.out]; exact hk)) hlt
        have HLT := Lib.hid hlt
        clear hx
        go_wp2_with (first
          | (refine wpList_load_mid rfl 29 (.tmp 14) rfl b (o + q * 8) rfl (bvals x) _ RX.out Tryz.underlying29 rfl hix ?_
             rw [← ba_bvals x]
             obtain ⟨T, hT⟩ : ∃ q, wr.heap.size = q := ⟨_, rfl⟩
             have Y0a := Lib.hid (ba_new hT (zeros 8) 29)
             have TS : Hid (S ≤ T) := by show _ ≤ _; rw [← hT]; exact SVwr.out)
          | (refine wpList_store_rowTo rfl 29 (.tmp 4) (.tmp 15) rfl rfl T (ba x) rfl rfl 29 (ba (zeros 8)) Y0a.out (sz s27 (by rw [ba_size, LX.out])) (by rw [ba_size, ba_size, LX.out, zeros_len]) (ba_one x) ?_
             have Ya : Hid (BA ((wr.alloc (Obj.cells (ba (zeros 8)) 29)).setRow T (ba x)) T 29 x) := setRow_heap _ _ _ _ _ _ Y0a.out
             have BWa : Hid (Below T wr ((wr.alloc (Obj.cells (ba (zeros 8)) 29)).setRow T (ba x))) := below_setRow ((Below.refl _ _).alloc (Nat.le_of_eq hT.symm) _) (Nat.le_refl _) _
             have BRa : Hid (Below S w ((wr.alloc (Obj.cells (ba (zeros 8)) 29)).setRow T (ba x))) := BR.out.trans (BWa.out.mono TS.out)
             have LAa : Hid (T < ((wr.alloc (Obj.cells (ba (zeros 8)) 29)).setRow T (ba x)).heap.size) := lt_of_block Ya.out
             have SVv3 : Hid (S ≤ ((wr.alloc (Obj.cells (ba (zeros 8)) 29)).setRow T (ba x)).heap.size) := Nat.le_trans TS.out (Nat.le_of_lt LAa.out)
             clear Y0a BWa hT  BR
             generalize ((wr.alloc (Obj.cells (ba (zeros 8)) 29)).setRow T (ba x)) = v3 at *)
          | fail)
        have YB := Ya
        have BB := BRa
        obtain ⟨N, hN⟩ : ∃ N, v3.heap.size = N := ⟨_, rfl⟩
        have WN : Hid (v3.heap.size = N) := hN
        have LN : Hid (T < N ∧ S ≤ N) := by show _ ∧ _; rw [← hN]; exact ⟨LAa.out, SVv3.out⟩
        have KN : Hid (∀ w', Below N v3 w' → Below S w w') := fun w' hb => BB.out.trans (hb.mono LN.out.2)
        obtain ⟨z, hz⟩ : ∃ z, decide (x = zeros 8) = z := ⟨_, rfl⟩
        obtain ⟨d, hd⟩ : ∃ d, decide (∃ j, j < q ∧ at8 flat j = x) = d := ⟨_, rfl⟩
        have HF : Hid (decide (fine (at8 flat) q) = (!z && !d)) := by
          show _ = _
          rw [fine_eq, HX.out, hz, hd]
        have f1 : ∀ w, (Op.equalIn 10000 29 (.agg (bvals x).toArray) (.agg (ba (zeros 8)))).run Tryz.prog w = .ok z w := fun w => by
          have := eqhL x (zeros 8) w LX.out (zeros_len 8)
          rw [hz, ba_bvals x] at this
          exact this
        have sl := fun w => sl_front b o n cap q w (by omega) (by omega)
        have C25 : Hid (∀ w', Below S w w' → Calls Tryz.prog 125 #[.slice (some ⟨b, o, none⟩) q cap, .agg (bvals x).toArray] w' fun e w'' => e = .returned (.bool d) ∧ Below w'.heap.size w' w'') := fun w' hb => by
          have := kContains b o n q cap flat x w' (HSR.out.keep fun k hk => hb.block k (by rw [← HS.out]; exact hk)) LX.out hq (by have := H5.out; omega)
          rw [hd, ba_bvals x] at this
          exact this
        clear hz hd hN Ya BRa RX
        generalize v3 = wB at *
        have NO : Hid ((!z && !d) = false → decide (fineP (at8 flat) n) = false) := fun h => by
          refine decide_eq_false fun h2 => ?_
          have h3 := HF.out
          rw [h, decide_eq_true (fineP_at h2 q HLT.out)] at h3
          cases h3
        have YES : Hid ((!z && !d) = true → fine (at8 flat) q) := fun h => by
          have h3 := HF.out
          rw [h] at h3
          exact of_decide_eq_true h3
        cases z
        · cases d
          · have XX : Hid (Below N wB wB.drew) := (Below.refl _ _).drew
            refine wp_region_held_drew (S := (fun w' : World => ∀ q, q < N → w'.heap[q]? = wB.heap[q]?)) (by kernel_rfl) (by exact fun _ _ => rfl) (fun hHeld => ?_)
            refine tk (i := 0) rfl (yieldsIf_load_mid (by rfl) 29 (.tmp 4) rfl (T) (0) rfl (bvals x) _ (fun w h => ba_range (t := 29) ((h _ (by have := LN.out; omega)).trans YB.out)) Tryz.underlying29 rfl hix) (by assumption) ?_
            simp only [Act.put, ly1, ly3, ly4, ly5, ly6]
            refine tk (i := 1) (v := ?_) rfl (Or.inl ⟨by rfl, ?_⟩) (by assumption) ?_
            rotate_left
            · (intro w hSw; (try dsimp only at hSw); go_simp; try with_reducible rfl)
            simp only [Act.put, ly1, ly2, ly3, ly4, ly5, ly6]
            refine tk (i := 2) (v := ?_) rfl (Or.inl ⟨by rfl, ?_⟩) (by assumption) ?_
            rotate_left
            · (intro w hSw; (try dsimp only at hSw); go_simp; try with_reducible rfl)
            simp only [Act.put, ly1, ly2, ly3, ly4, ly5, ly6]
            refine tk (i := 3) (v := ?_) rfl (Or.inl ⟨by rfl, ?_⟩) (by assumption) ?_
            rotate_left
            · (intro w hSw; (try dsimp only at hSw); go_simp; try with_reducible rfl)
            simp only [Act.put, ly1, ly2, ly3, ly4, ly5, ly6]
            refine tk (i := 4) (v := ?_) rfl (Or.inl ⟨by rfl, ?_⟩) (by assumption) ?_
            rotate_left
            · (intro w hSw; (try dsimp only at hSw); go_simp; try with_reducible rfl)
            simp only [Act.put, ly1, ly2, ly3, ly4, ly5, ly6]
            refine tk (i := 5) (v := ?_) rfl (Or.inl ⟨by rfl, ?_⟩) (by assumption) ?_
            rotate_left
            · (intro w hSw; (try dsimp only at hSw); go_simp; try with_reducible rfl)
            simp only [Act.put, ly1, ly2, ly3, ly4, ly5, ly6]
            refine tk (i := 6) (v := ?_) rfl (Or.inl ⟨by rfl, ?_⟩) (by assumption) ?_
            rotate_left
            · (intro w hSw; (try dsimp only at hSw); go_simp; try with_reducible rfl)
            simp only [Act.put, ly1, ly2, ly3, ly4, ly5, ly6]
            refine tk (i := 7) rfl (yieldsIf_load_mid (by rfl) 29 (.tmp 4) rfl (T) (0) rfl (bvals x) _ (fun w h => ba_range (t := 29) ((h _ (by have := LN.out; omega)).trans YB.out)) Tryz.underlying29 rfl hix) (by assumption) ?_
            simp only [Act.put, ly1, ly2, ly3, ly4, ly5, ly6]
            refine wpAnyH_ready (rs := [8]) (by kernel_rfl) (by simp) ?_
            refine AllReadyH.cons rfl (fun K hK => ?_) AllReadyH.nil
            go_simp
            go_at_call 125
            refine (C25.out _ (KN.out _ XX.out)).mono ?_
            rintro e wc1 ⟨rfl, hba⟩
            have XN : Hid (Below N wB wc1) := XX.out.trans (hba.mono (by have := XX.out.size; have := WN.out; omega))
            clear XX hba hHeld
            have XX := XN
            clear XN
            (try go_wp2_with fail)
            refine hK.out _ _ (by exact fun q hq => XX.out.block q hq) (fun hHeld => ?_)
            clear hK K
            refine tk (i := 9) (v := ?_) rfl (Or.inl ⟨by rfl, ?_⟩) (by assumption) ?_
            rotate_left
            · (intro w hSw; (try dsimp only at hSw); go_simp; try with_reducible rfl)
            simp only [Act.put, ly1, ly2, ly3, ly4, ly5, ly6]
            refine wpAnyH_done (by kernel_rfl) ?_ _
            go_wp2
            go_roundw
            case rel => exact ⟨q + 1, by omega, by go_num, fun j hj => by
              by_cases e : j = q
              · subst e; exact YES.out rfl
              · exact JR.out j (by omega), KN.out _ XX.out⟩
            case measure => simp [intOf]; omega
          · have XX : Hid (Below N wB wB.drew) := (Below.refl _ _).drew
            refine wp_region_held_drew (S := (fun w' : World => ∀ q, q < N → w'.heap[q]? = wB.heap[q]?)) (by kernel_rfl) (by exact fun _ _ => rfl) (fun hHeld => ?_)
            refine tk (i := 0) rfl (yieldsIf_load_mid (by rfl) 29 (.tmp 4) rfl (T) (0) rfl (bvals x) _ (fun w h => ba_range (t := 29) ((h _ (by have := LN.out; omega)).trans YB.out)) Tryz.underlying29 rfl hix) (by assumption) ?_
            simp only [Act.put, ly1, ly3, ly4, ly5, ly6]
            refine tk (i := 1) (v := ?_) rfl (Or.inl ⟨by rfl, ?_⟩) (by assumption) ?_
            rotate_left
            · (intro w hSw; (try dsimp only at hSw); go_simp; try with_reducible rfl)
            simp only [Act.put, ly1, ly2, ly3, ly4, ly5, ly6]
            refine tk (i := 2) (v := ?_) rfl (Or.inl ⟨by rfl, ?_⟩) (by assumption) ?_
            rotate_left
            · (intro w hSw; (try dsimp only at hSw); go_simp; try with_reducible rfl)
            simp only [Act.put, ly1, ly2, ly3, ly4, ly5, ly6]
            refine tk (i := 3) (v := ?_) rfl (Or.inl ⟨by rfl, ?_⟩) (by assumption) ?_
            rotate_left
            · (intro w hSw; (try dsimp only at hSw); go_simp; try with_reducible rfl)
            simp only [Act.put, ly1, ly2, ly3, ly4, ly5, ly6]
            refine tk (i := 4) (v := ?_) rfl (Or.inl ⟨by rfl, ?_⟩) (by assumption) ?_
            rotate_left
            · (intro w hSw; (try dsimp only at hSw); go_simp; try with_reducible rfl)
            simp only [Act.put, ly1, ly2, ly3, ly4, ly5, ly6]
            refine tk (i := 5) (v := ?_) rfl (Or.inl ⟨by rfl, ?_⟩) (by assumption) ?_
            rotate_left
            · (intro w hSw; (try dsimp only at hSw); go_simp; try with_reducible rfl)
            simp only [Act.put, ly1, ly2, ly3, ly4, ly5, ly6]
            refine tk (i := 6) (v := ?_) rfl (Or.inl ⟨by rfl, ?_⟩) (by assumption) ?_
            rotate_left
            · (intro w hSw; (try dsimp only at hSw); go_simp; try with_reducible rfl)
            simp only [Act.put, ly1, ly2, ly3, ly4, ly5, ly6]
            refine tk (i := 7) rfl (yieldsIf_load_mid (by rfl) 29 (.tmp 4) rfl (T) (0) rfl (bvals x) _ (fun w h => ba_range (t := 29) ((h _ (by have := LN.out; omega)).trans YB.out)) Tryz.underlying29 rfl hix) (by assumption) ?_
            simp only [Act.put, ly1, ly2, ly3, ly4, ly5, ly6]
            refine wpAnyH_ready (rs := [8]) (by kernel_rfl) (by simp) ?_
            refine AllReadyH.cons rfl (fun K hK => ?_) AllReadyH.nil
            go_simp
            go_at_call 125
            refine (C25.out _ (KN.out _ XX.out)).mono ?_
            rintro e wc1 ⟨rfl, hba⟩
            have XN : Hid (Below N wB wc1) := XX.out.trans (hba.mono (by have := XX.out.size; have := WN.out; omega))
            clear XX hba hHeld
            have XX := XN
            clear XN
            (try go_wp2_with fail)
            refine hK.out _ _ (by exact fun q hq => XX.out.block q hq) (fun hHeld => ?_)
            clear hK K
            refine tk (i := 9) (v := ?_) rfl (Or.inl ⟨by rfl, ?_⟩) (by assumption) ?_
            rotate_left
            · (intro w hSw; (try dsimp only at hSw); go_simp; try with_reducible rfl)
            simp only [Act.put, ly1, ly2, ly3, ly4, ly5, ly6]
            refine wpAnyH_done (by kernel_rfl) ?_ _
            go_wp2
            go_ret
            exact ⟨by rw [NO.out rfl]; rfl, by rw [HS.out]; exact KN.out _ XX.out⟩
        · have XX : Hid (Below N wB wB.drew) := (Below.refl _ _).drew
          refine wp_region_held_drew (S := (fun w' : World => ∀ q, q < N → w'.heap[q]? = wB.heap[q]?)) (by kernel_rfl) (by exact fun _ _ => rfl) (fun hHeld => ?_)
          refine tk (i := 0) rfl (yieldsIf_load_mid (by rfl) 29 (.tmp 4) rfl (T) (0) rfl (bvals x) _ (fun w h => ba_range (t := 29) ((h _ (by have := LN.out; omega)).trans YB.out)) Tryz.underlying29 rfl hix) (by assumption) ?_
          simp only [Act.put, ly1, ly3, ly4, ly5, ly6]
          refine tk (i := 1) (v := ?_) rfl (Or.inl ⟨by rfl, ?_⟩) (by assumption) ?_
          rotate_left
          · (intro w hSw; (try dsimp only at hSw); go_simp; try with_reducible rfl)
          simp only [Act.put, ly1, ly2, ly3, ly4, ly5, ly6]
          refine tk (i := 2) (v := ?_) rfl (Or.inl ⟨by rfl, ?_⟩) (by assumption) ?_
          rotate_left
          · (intro w hSw; (try dsimp only at hSw); go_simp; try with_reducible rfl)
          simp only [Act.put, ly1, ly2, ly3, ly4, ly5, ly6]
          refine tk (i := 3) (v := ?_) rfl (Or.inl ⟨by rfl, ?_⟩) (by assumption) ?_
          rotate_left
          · (intro w hSw; (try dsimp only at hSw); go_simp; try with_reducible rfl)
          simp only [Act.put, ly1, ly2, ly3, ly4, ly5, ly6]
          refine tk (i := 4) rfl (Or.inr ⟨by rfl, rfl⟩) (by assumption) ?_
          simp only [Act.put, ly1, ly2, ly3, ly4, ly5, ly6]
          refine tk (i := 5) rfl (Or.inr ⟨by rfl, rfl⟩) (by assumption) ?_
          simp only [Act.put, ly1, ly2, ly3, ly4, ly5, ly6]
          refine tk (i := 6) rfl (Or.inr ⟨by rfl, rfl⟩) (by assumption) ?_
          simp only [Act.put, ly1, ly2, ly3, ly4, ly5, ly6]
          refine tk (i := 7) rfl (Or.inr ⟨by rfl, rfl⟩) (by assumption) ?_
          simp only [Act.put, ly1, ly2, ly3, ly4, ly5, ly6]
          refine tk (i := 8) rfl (Or.inr ⟨by rfl, rfl⟩) (by assumption) ?_
          simp only [Act.put, ly1, ly2, ly3, ly4, ly5, ly6]
          refine tk (i := 9) (v := ?_) rfl (Or.inl ⟨by rfl, ?_⟩) (by assumption) ?_
          rotate_left
          · (intro w hSw; (try dsimp only at hSw); go_simp; try with_reducible rfl)
          simp only [Act.put, ly1, ly2, ly3, ly4, ly5, ly6]
          refine wpAnyH_done (by kernel_rfl) ?_ _
          go_wp2
          go_ret
          exact ⟨by rw [NO.out rfl]; rfl, by rw [HS.out]; exact KN.out _ XX.out⟩
      · have hf : fineP (at8 flat) n := fineP_of fun j hj => JR.out j (by omega)
        have hqn : q = n := by omega
        subst hqn
        go_wp2
        go_ret
        exact ⟨by rw [decide_eq_true hf]; rfl, by rw [HS.out]; exact BR.out⟩
attribute [local irreducible] mayK
set_option maxRecDepth 100000 in
set_option maxHeartbeats 8000000 in
theorem kMay (A : Option Addr) (n cap : Nat) (flat : List Int) (a b c : Int) (w : World) (hs : Src w A (8 * n) flat) (hc : n ≤ cap) (hc2 : cap ≤ maxLen) :
    Calls Tryz.prog 74 #[.agg #[.int .i64 a, .int .i64 b, .int .i64 c, .slice A n cap]] w fun e w' => e = .returned (.bool (mayP (at8 flat) n a b c)) ∧ Below w.heap.size w w' := by
  have HSR := Lib.hid hs
  obtain ⟨S, hS⟩ : ∃ S, w.heap.size = S := ⟨_, rfl⟩
  have HS := Lib.hid hS
  have P0 := Lib.hid (pb_new hS a b c (.slice A n cap))
  have B0 : Hid (Below S w (w.alloc (Obj.cells #[.int .i64 a, .int .i64 b, .int .i64 c, .slice A n cap] 27))) := by subst hS; exact (Below.refl _ w).alloc (Nat.le_refl _) _
  have C16 : Hid (∀ w', Below S w w' → Calls Tryz.prog 105 #[.slice A n cap] w' fun e w'' => e = .returned (.bool (mayK (at8 flat) n)) ∧ Below w'.heap.size w' w'') := fun w' hb => kMayKeys A n cap flat w' (HSR.out.keep fun k hk => hb.block k (by rw [← HS.out]; exact hk)) hc hc2
  unfold mayP
  obtain ⟨x0, h0⟩ : ∃ x, mayK (at8 flat) n = x := ⟨_, rfl⟩
  obtain ⟨x1, h1⟩ : ∃ x, win 1 n c = x := ⟨_, rfl⟩
  obtain ⟨x2, h2⟩ : ∃ x, win 2 64 a = x := ⟨_, rfl⟩
  obtain ⟨x3, h3⟩ : ∃ x, win 1 a b = x := ⟨_, rfl⟩
  rw [h0] at C16 ⊢
  rw [h1, h2, h3]
  have PS : Hid (S < (w.alloc (Obj.cells #[.int .i64 a, .int .i64 b, .int .i64 c, .slice A n cap] 27)).heap.size) := lt_of_block P0.out
  obtain ⟨wp, hwp⟩ : ∃ wp, w.alloc (Obj.cells #[.int .i64 a, .int .i64 b, .int .i64 c, .slice A n cap] 27) = wp := ⟨_, rfl⟩
  clear hs h0
  cases x0
  · go_enter Tryz.func74, Tryz.ntmps74
    rw [hwp] at *
    obtain ⟨c0, c1, c2, c3⟩ := pb_cells P0.out
    go_wp2_with (first
      | (go_at_call 105
         refine (C16.out _ B0.out).mono ?_
         rintro e w1 ⟨rfl, hb⟩
         have B1 : Hid (Below S w w1) := B0.out.trans (hb.mono (by have := PS.out; omega))
         obtain ⟨g0, g1, g2, g3⟩ := pb_cells ((hb.block _ PS.out).trans P0.out)
         clear hb c0 c1 c2 c3)
      | (go_at_call 106; refine (kWithin _ _ _ _).mono ?_; rintro e w' ⟨rfl, rfl⟩)
      | fail)
    go_ret
    exact ⟨rfl, by (try rw [HS.out]); exact B1.out⟩
  · cases x1
    · go_enter Tryz.func74, Tryz.ntmps74
      rw [hwp] at *
      obtain ⟨c0, c1, c2, c3⟩ := pb_cells P0.out
      go_wp2_with (first
        | (go_at_call 105
           refine (C16.out _ B0.out).mono ?_
           rintro e w1 ⟨rfl, hb⟩
           have B1 : Hid (Below S w w1) := B0.out.trans (hb.mono (by have := PS.out; omega))
           obtain ⟨g0, g1, g2, g3⟩ := pb_cells ((hb.block _ PS.out).trans P0.out)
           clear hb c0 c1 c2 c3)
        | (go_at_call 106; refine (kWithin _ _ _ _).mono ?_; rintro e w' ⟨rfl, rfl⟩)
        | fail)
      go_ret
      exact ⟨rfl, by (try rw [HS.out]); exact B1.out⟩
    · cases x2
      · go_enter Tryz.func74, Tryz.ntmps74
        rw [hwp] at *
        obtain ⟨c0, c1, c2, c3⟩ := pb_cells P0.out
        go_wp2_with (first
          | (go_at_call 105
             refine (C16.out _ B0.out).mono ?_
             rintro e w1 ⟨rfl, hb⟩
             have B1 : Hid (Below S w w1) := B0.out.trans (hb.mono (by have := PS.out; omega))
             obtain ⟨g0, g1, g2, g3⟩ := pb_cells ((hb.block _ PS.out).trans P0.out)
             clear hb c0 c1 c2 c3)
          | (go_at_call 106; refine (kWithin _ _ _ _).mono ?_; rintro e w' ⟨rfl, rfl⟩)
          | fail)
        go_ret
        exact ⟨rfl, by (try rw [HS.out]); exact B1.out⟩
      · go_enter Tryz.func74, Tryz.ntmps74
        rw [hwp] at *
        obtain ⟨c0, c1, c2, c3⟩ := pb_cells P0.out
        go_wp2_with (first
          | (go_at_call 105
             refine (C16.out _ B0.out).mono ?_
             rintro e w1 ⟨rfl, hb⟩
             have B1 : Hid (Below S w w1) := B0.out.trans (hb.mono (by have := PS.out; omega))
             obtain ⟨g0, g1, g2, g3⟩ := pb_cells ((hb.block _ PS.out).trans P0.out)
             clear hb c0 c1 c2 c3)
          | (go_at_call 106; refine (kWithin _ _ _ _).mono ?_; rintro e w' ⟨rfl, rfl⟩)
          | fail)
        go_ret
        exact ⟨rfl, by (try rw [HS.out]); exact B1.out⟩
set_option maxRecDepth 100000 in
set_option maxHeartbeats 16000000 in
theorem dMay (A : Option Addr) (n cap : Nat) (flat : List Int) (a b c : Int) (w : World) (hs : Src w A (8 * n) flat) (hc : n ≤ cap) (hc2 : cap ≤ maxLen) :
    Calls Tryz.prog 46 #[.agg #[.int .i64 a, .int .i64 b, .int .i64 c, .slice A n cap]] w fun e w' => e = .returned (.bool (mayP (at8 flat) n a b c)) ∧ Below w.heap.size w w' := by
  have HSR := Lib.hid hs
  obtain ⟨S, hS⟩ : ∃ S, w.heap.size = S := ⟨_, rfl⟩
  have HS := Lib.hid hS
  unfold maxLen at hc2
  have P0 := Lib.hid (pb_new hS a b c (.slice A n cap))
  have B0 : Hid (Below S w (w.alloc (Obj.cells #[.int .i64 a, .int .i64 b, .int .i64 c, .slice A n cap] 27))) := by subst hS; exact (Below.refl _ w).alloc (Nat.le_refl _) _
  have PS : Hid (S < (w.alloc (Obj.cells #[.int .i64 a, .int .i64 b, .int .i64 c, .slice A n cap] 27)).heap.size) := lt_of_block P0.out
  obtain ⟨wp, hwp⟩ : ∃ wp, w.alloc (Obj.cells #[.int .i64 a, .int .i64 b, .int .i64 c, .slice A n cap] 27) = wp := ⟨_, rfl⟩
  clear hs
  by_cases h0 : (n : Int) < 1
  · have hm : mayP (at8 flat) n a b c = false := by
      unfold mayP
      exact (by unfold mayK; rw [win_no1 h0, Bool.false_and, Bool.false_and])
    rw [hm]
    clear hm
    go_enter Tryz.func46, Tryz.ntmps46
    rw [hwp] at *
    obtain ⟨c0, c1, c2, c3⟩ := pb_cells P0.out
    go_wp2
    go_ret
    exact ⟨rfl, by (try rw [HS.out]); exact B0.out⟩
  · skip
    by_cases h1 : 5 < (n : Int)
    · have hm : mayP (at8 flat) n a b c = false := by
        unfold mayP
        exact (by unfold mayK; rw [win_no2 h1, Bool.false_and, Bool.false_and])
      rw [hm]
      clear hm
      go_enter Tryz.func46, Tryz.ntmps46
      rw [hwp] at *
      obtain ⟨c0, c1, c2, c3⟩ := pb_cells P0.out
      go_wp2
      go_ret
      exact ⟨rfl, by (try rw [HS.out]); exact B0.out⟩
    · skip
      by_cases h2 : c < 1
      · have hm : mayP (at8 flat) n a b c = false := by
          unfold mayP
          exact (by rw [win_no1 h2]; simp)
        rw [hm]
        clear hm
        go_enter Tryz.func46, Tryz.ntmps46
        rw [hwp] at *
        obtain ⟨c0, c1, c2, c3⟩ := pb_cells P0.out
        go_wp2
        go_ret
        exact ⟨rfl, by (try rw [HS.out]); exact B0.out⟩
      · skip
        by_cases h3 : (n : Int) < c
        · have hm : mayP (at8 flat) n a b c = false := by
            unfold mayP
            exact (by rw [win_no2 h3]; simp)
          rw [hm]
          clear hm
          go_enter Tryz.func46, Tryz.ntmps46
          rw [hwp] at *
          obtain ⟨c0, c1, c2, c3⟩ := pb_cells P0.out
          go_wp2
          go_ret
          exact ⟨rfl, by (try rw [HS.out]); exact B0.out⟩
        · skip
          by_cases h4 : a < 2
          · have hm : mayP (at8 flat) n a b c = false := by
              unfold mayP
              exact (by rw [win_no1 h4]; simp)
            rw [hm]
            clear hm
            go_enter Tryz.func46, Tryz.ntmps46
            rw [hwp] at *
            obtain ⟨c0, c1, c2, c3⟩ := pb_cells P0.out
            go_wp2
            go_ret
            exact ⟨rfl, by (try rw [HS.out]); exact B0.out⟩
          · skip
            by_cases h5 : 64 < a
            · have hm : mayP (at8 flat) n a b c = false := by
                unfold mayP
                exact (by rw [win_no2 h5]; simp)
              rw [hm]
              clear hm
              go_enter Tryz.func46, Tryz.ntmps46
              rw [hwp] at *
              obtain ⟨c0, c1, c2, c3⟩ := pb_cells P0.out
              go_wp2
              go_ret
              exact ⟨rfl, by (try rw [HS.out]); exact B0.out⟩
            · skip
              by_cases h6 : b < 1
              · have hm : mayP (at8 flat) n a b c = false := by
                  unfold mayP
                  exact (by rw [win_no1 h6]; simp)
                rw [hm]
                clear hm
                go_enter Tryz.func46, Tryz.ntmps46
                rw [hwp] at *
                obtain ⟨c0, c1, c2, c3⟩ := pb_cells P0.out
                go_wp2
                go_ret
                exact ⟨rfl, by (try rw [HS.out]); exact B0.out⟩
              · skip
                by_cases h7 : a < b
                · have hm : mayP (at8 flat) n a b c = false := by
                    unfold mayP
                    exact (by rw [win_no2 h7]; simp)
                  rw [hm]
                  clear hm
                  go_enter Tryz.func46, Tryz.ntmps46
                  rw [hwp] at *
                  obtain ⟨c0, c1, c2, c3⟩ := pb_cells P0.out
                  go_wp2
                  go_ret
                  exact ⟨rfl, by (try rw [HS.out]); exact B0.out⟩
                · have hm : mayP (at8 flat) n a b c = decide (fineP (at8 flat) n) := by
                    unfold mayP mayK
                    rw [win_yes (by omega) (by omega), win_yes (by omega) (by omega), win_yes (by omega) (by omega), win_yes (by omega) (by omega)]
                    simp
                  rw [hm]
                  clear hm
                  obtain ⟨bq, o, rfl⟩ := src_at HSR.out (by omega)
                  have H5 : Hid (1 ≤ n ∧ n ≤ 5) := by show _ ∧ _; omega
                  go_enter Tryz.func46, Tryz.ntmps46
                  rw [hwp] at *
                  obtain ⟨c0, c1, c2, c3⟩ := pb_cells P0.out
                  go_wp2
                  clear c0 c1 c2 c3 h0 h1 h2 h3 h4 h5 h6 h7 hwp hS
                  go_loopw [3] (fun i wr => ∃ q : Nat, q ≤ n ∧ i = .int .i64 q ∧ (∀ j, j < q → fine (at8 flat) j) ∧ Below S w wr ∧ PB wr S a b c (.slice (some ⟨bq, o, none⟩) n cap)) (fun i _ => n - (intOf i).toNat)
                  case atStart => exact ⟨0, Nat.zero_le _, rfl, fun j hj => by omega, B0.out, P0.out⟩
                  case round =>
                    obtain ⟨q, hq, rfl, hj, hb, hp⟩ := hrel
                    have JR := Lib.hid hj
                    have BR := Lib.hid hb
                    have PR := Lib.hid hp
                    have PSr : Hid (S < wr.heap.size) := lt_of_block hp
                    clear hj hb hp
                    obtain ⟨c0, c1, c2, c3⟩ := pb_cells PR.out
                    by_cases hlt : q < n
                    · have s0 : (0 : Int) ≤ (q : Int) := by omega
                      have s1 : (q : Int) < (n : Int) := by omega
                      obtain ⟨x, hx⟩ : ∃ x, at8 flat q = x := ⟨_, rfl⟩
                      have HX := Lib.hid hx
                      have LX : Hid (x.length = 8) := by rw [← hx]; exact at8_len (n := n) HSR.out.1 hlt
                      have hix := inf23 x LX.out
                      have HLT := Lib.hid hlt
                      clear hx
                      go_wp2_with fail
                      clear c0 c1 c2 c3
                      go_loopw [4] (fun i wr => ∃ k : Nat, k ≤ q ∧ i = .int .i64 k ∧ (∀ j, j < k → at8 flat j ≠ x) ∧ Below S w wr ∧ PB wr S a b c (.slice (some ⟨bq, o, none⟩) n cap)) (fun i _ => q - (intOf i).toNat)
                      case atStart => exact ⟨0, Nat.zero_le _, rfl, fun j hj => by omega, BR.out, PR.out⟩
                      case round =>
                        obtain ⟨k, hk, rfl, hj, hb, hp⟩ := hrel
                        have JI := Lib.hid hj
                        have BI := Lib.hid hb
                        have PQ := Lib.hid hp
                        have PSi : Hid (S < wr.heap.size) := lt_of_block hp
                        clear hj hb hp
                        by_cases hkq : k < q
                        · have k0 : (0 : Int) ≤ (k : Int) := by omega
                          have k1 : (k : Int) < (n : Int) := by omega
                          have k2 : (k : Int) < (q : Int) := by omega
                          obtain ⟨y, hy⟩ : ∃ y, at8 flat k = y := ⟨_, rfl⟩
                          have HY := Lib.hid hy
                          have LY : Hid (y.length = 8) := by rw [← hy]; exact at8_len (n := n) HSR.out.1 (by omega)
                          have hiy := inf23 y LY.out
                          obtain ⟨d, hd⟩ : ∃ d, decide (y = x) = d := ⟨_, rfl⟩
                          have HD := Lib.hid hd
                          have f1 : ∀ w, (Op.equalIn 10000 29 (.agg (bvals y).toArray) (.agg (bvals x).toArray)).run Tryz.prog w = .ok d w := fun w => by
                            have := eqhL y x w LY.out LX.out
                            rw [hd, ba_bvals x, ba_bvals y] at this
                            exact this
                          have SK : Hid (∀ w' : World, (∀ q', q' < wr.heap.size → w'.heap[q']? = wr.heap[q']?) → Src w' (some ⟨bq, o, none⟩) (8 * n) flat) := fun w' h => (HSR.out.keep fun q' hq' => BI.out.block q' (by rw [← HS.out]; exact hq')).keep h
                          have YR : Hid (∀ w' : World, (∀ q', q' < wr.heap.size → w'.heap[q']? = wr.heap[q']?) → w'.rangeAt bq (o + k * 8) (bvals y)) := fun w' h => by rw [← hy]; exact key_range (SK.out w' h) (by omega)
                          have XR : Hid (∀ w' : World, (∀ q', q' < wr.heap.size → w'.heap[q']? = wr.heap[q']?) → w'.rangeAt bq (o + q * 8) (bvals x)) := fun w' h => by rw [← HX.out]; exact key_range (SK.out w' h) hlt
                          clear hy hd
                          go_wp2_with fail
                          generalize wr = wB at *
                          obtain ⟨N, hN⟩ : ∃ N, wB.heap.size = N := ⟨_, rfl⟩
                          have WN : Hid (wB.heap.size = N) := hN
                          have LN : Hid (S < N) := by show _ < _; rw [← hN]; exact PSi.out
                          have KN : Hid (∀ w', Below N wB w' → Below S w w') := fun w' hb => BI.out.trans (hb.mono (Nat.le_of_lt LN.out))
                          clear hN
                          cases d
                          · have XX : Hid (Below N wB wB.drew) := (Below.refl _ _).drew
                            refine wp_region_held_drew (S := (fun w' : World => ∀ q, q < N → w'.heap[q]? = wB.heap[q]?)) (by kernel_rfl) (by exact fun _ _ => rfl) (fun hHeld => ?_)
                            refine tk (i := 0) (v := ?_) rfl (Or.inl ⟨by rfl, ?_⟩) (by assumption) ?_
                            rotate_left
                            · (intro w hSw; (try dsimp only at hSw); obtain ⟨c0, c1, c2, c3⟩ := pb_cells ((hSw _ LN.out).trans PQ.out); go_simp; try with_reducible rfl)
                            simp only [Act.put, ly1, ly3, ly4, ly5, ly6]
                            refine tk (i := 1) (v := ?_) rfl (Or.inl ⟨by rfl, ?_⟩) (by assumption) ?_
                            rotate_left
                            · (intro w hSw; (try dsimp only at hSw); obtain ⟨c0, c1, c2, c3⟩ := pb_cells ((hSw _ LN.out).trans PQ.out); go_simp; try with_reducible rfl)
                            simp only [Act.put, ly1, ly2, ly3, ly4, ly5, ly6]
                            refine tk (i := 2) (v := ?_) rfl (Or.inl ⟨by rfl, ?_⟩) (by assumption) ?_
                            rotate_left
                            · (intro w hSw; (try dsimp only at hSw); go_simp; try with_reducible rfl)
                            simp only [Act.put, ly1, ly2, ly3, ly4, ly5, ly6]
                            refine tk (i := 3) (v := ?_) rfl (Or.inl ⟨by rfl, ?_⟩) (by assumption) ?_
                            rotate_left
                            · (intro w hSw; (try dsimp only at hSw); go_simp; try with_reducible rfl)
                            simp only [Act.put, ly1, ly2, ly3, ly4, ly5, ly6]
                            refine tk (i := 4) rfl (yieldsIf_load_mid (by rfl) 29 (.tmp 65) rfl (bq) (o + k * 8) rfl (bvals y) _ (fun w h => YR.out _ (fun q' hq' => h q' (by rw [← WN.out]; exact hq'))) Tryz.underlying29 rfl hiy) (by assumption) ?_
                            simp only [Act.put, ly1, ly2, ly3, ly4, ly5, ly6]
                            refine tk (i := 5) (v := ?_) rfl (Or.inl ⟨by rfl, ?_⟩) (by assumption) ?_
                            rotate_left
                            · (intro w hSw; (try dsimp only at hSw); obtain ⟨c0, c1, c2, c3⟩ := pb_cells ((hSw _ LN.out).trans PQ.out); go_simp; try with_reducible rfl)
                            simp only [Act.put, ly1, ly2, ly3, ly4, ly5, ly6]
                            refine tk (i := 6) (v := ?_) rfl (Or.inl ⟨by rfl, ?_⟩) (by assumption) ?_
                            rotate_left
                            · (intro w hSw; (try dsimp only at hSw); obtain ⟨c0, c1, c2, c3⟩ := pb_cells ((hSw _ LN.out).trans PQ.out); go_simp; try with_reducible rfl)
                            simp only [Act.put, ly1, ly2, ly3, ly4, ly5, ly6]
                            refine tk (i := 7) (v := ?_) rfl (Or.inl ⟨by rfl, ?_⟩) (by assumption) ?_
                            rotate_left
                            · (intro w hSw; (try dsimp only at hSw); go_simp; try with_reducible rfl)
                            simp only [Act.put, ly1, ly2, ly3, ly4, ly5, ly6]
                            refine tk (i := 8) (v := ?_) rfl (Or.inl ⟨by rfl, ?_⟩) (by assumption) ?_
                            rotate_left
                            · (intro w hSw; (try dsimp only at hSw); go_simp; try with_reducible rfl)
                            simp only [Act.put, ly1, ly2, ly3, ly4, ly5, ly6]
                            refine tk (i := 9) rfl (yieldsIf_load_mid (by rfl) 29 (.tmp 70) rfl (bq) (o + q * 8) rfl (bvals x) _ (fun w h => XR.out _ (fun q' hq' => h q' (by rw [← WN.out]; exact hq'))) Tryz.underlying29 rfl hix) (by assumption) ?_
                            simp only [Act.put, ly1, ly2, ly3, ly4, ly5, ly6]
                            refine tk (i := 10) (v := ?_) rfl (Or.inl ⟨by rfl, ?_⟩) (by assumption) ?_
                            rotate_left
                            · (intro w hSw; (try dsimp only at hSw); go_simp; try with_reducible rfl)
                            simp only [Act.put, ly1, ly2, ly3, ly4, ly5, ly6]
                            refine wpAnyH_done (by kernel_rfl) ?_ _
                            go_wp2
                            go_roundw
                            case rel => exact ⟨k + 1, by omega, by go_num, fun j hj => by
                              by_cases e : j = k
                              · subst e
                                rw [HY.out]
                                exact of_decide_eq_false HD.out
                              · exact JI.out j (by omega), KN.out _ XX.out, (XX.out.block _ LN.out).trans PQ.out⟩
                            case measure => simp [intOf]; omega
                          · have XX : Hid (Below N wB wB.drew) := (Below.refl _ _).drew
                            refine wp_region_held_drew (S := (fun w' : World => ∀ q, q < N → w'.heap[q]? = wB.heap[q]?)) (by kernel_rfl) (by exact fun _ _ => rfl) (fun hHeld => ?_)
                            refine tk (i := 0) (v := ?_) rfl (Or.inl ⟨by rfl, ?_⟩) (by assumption) ?_
                            rotate_left
                            · (intro w hSw; (try dsimp only at hSw); obtain ⟨c0, c1, c2, c3⟩ := pb_cells ((hSw _ LN.out).trans PQ.out); go_simp; try with_reducible rfl)
                            simp only [Act.put, ly1, ly3, ly4, ly5, ly6]
                            refine tk (i := 1) (v := ?_) rfl (Or.inl ⟨by rfl, ?_⟩) (by assumption) ?_
                            rotate_left
                            · (intro w hSw; (try dsimp only at hSw); obtain ⟨c0, c1, c2, c3⟩ := pb_cells ((hSw _ LN.out).trans PQ.out); go_simp; try with_reducible rfl)
                            simp only [Act.put, ly1, ly2, ly3, ly4, ly5, ly6]
                            refine tk (i := 2) (v := ?_) rfl (Or.inl ⟨by rfl, ?_⟩) (by assumption) ?_
                            rotate_left
                            · (intro w hSw; (try dsimp only at hSw); go_simp; try with_reducible rfl)
                            simp only [Act.put, ly1, ly2, ly3, ly4, ly5, ly6]
                            refine tk (i := 3) (v := ?_) rfl (Or.inl ⟨by rfl, ?_⟩) (by assumption) ?_
                            rotate_left
                            · (intro w hSw; (try dsimp only at hSw); go_simp; try with_reducible rfl)
                            simp only [Act.put, ly1, ly2, ly3, ly4, ly5, ly6]
                            refine tk (i := 4) rfl (yieldsIf_load_mid (by rfl) 29 (.tmp 65) rfl (bq) (o + k * 8) rfl (bvals y) _ (fun w h => YR.out _ (fun q' hq' => h q' (by rw [← WN.out]; exact hq'))) Tryz.underlying29 rfl hiy) (by assumption) ?_
                            simp only [Act.put, ly1, ly2, ly3, ly4, ly5, ly6]
                            refine tk (i := 5) (v := ?_) rfl (Or.inl ⟨by rfl, ?_⟩) (by assumption) ?_
                            rotate_left
                            · (intro w hSw; (try dsimp only at hSw); obtain ⟨c0, c1, c2, c3⟩ := pb_cells ((hSw _ LN.out).trans PQ.out); go_simp; try with_reducible rfl)
                            simp only [Act.put, ly1, ly2, ly3, ly4, ly5, ly6]
                            refine tk (i := 6) (v := ?_) rfl (Or.inl ⟨by rfl, ?_⟩) (by assumption) ?_
                            rotate_left
                            · (intro w hSw; (try dsimp only at hSw); obtain ⟨c0, c1, c2, c3⟩ := pb_cells ((hSw _ LN.out).trans PQ.out); go_simp; try with_reducible rfl)
                            simp only [Act.put, ly1, ly2, ly3, ly4, ly5, ly6]
                            refine tk (i := 7) (v := ?_) rfl (Or.inl ⟨by rfl, ?_⟩) (by assumption) ?_
                            rotate_left
                            · (intro w hSw; (try dsimp only at hSw); go_simp; try with_reducible rfl)
                            simp only [Act.put, ly1, ly2, ly3, ly4, ly5, ly6]
                            refine tk (i := 8) (v := ?_) rfl (Or.inl ⟨by rfl, ?_⟩) (by assumption) ?_
                            rotate_left
                            · (intro w hSw; (try dsimp only at hSw); go_simp; try with_reducible rfl)
                            simp only [Act.put, ly1, ly2, ly3, ly4, ly5, ly6]
                            refine tk (i := 9) rfl (yieldsIf_load_mid (by rfl) 29 (.tmp 70) rfl (bq) (o + q * 8) rfl (bvals x) _ (fun w h => XR.out _ (fun q' hq' => h q' (by rw [← WN.out]; exact hq'))) Tryz.underlying29 rfl hix) (by assumption) ?_
                            simp only [Act.put, ly1, ly2, ly3, ly4, ly5, ly6]
                            refine tk (i := 10) (v := ?_) rfl (Or.inl ⟨by rfl, ?_⟩) (by assumption) ?_
                            rotate_left
                            · (intro w hSw; (try dsimp only at hSw); go_simp; try with_reducible rfl)
                            simp only [Act.put, ly1, ly2, ly3, ly4, ly5, ly6]
                            refine wpAnyH_done (by kernel_rfl) ?_ _
                            go_wp2
                            go_ret
                            refine ⟨?_, by rw [HS.out]; exact KN.out _ XX.out⟩
                            have hno : ¬ fineP (at8 flat) n := fun h => by
                              refine (fineP_at h q HLT.out).2 k hkq ?_
                              rw [HY.out, HX.out]
                              exact of_decide_eq_true HD.out
                            rw [decide_eq_false hno]
                            rfl
                        · obtain rfl : k = q := by omega
                          obtain ⟨z, hz⟩ : ∃ z, decide (x = zeros 8) = z := ⟨_, rfl⟩
                          have HZ := Lib.hid hz
                          have C18 : Hid (Calls Tryz.prog 78 #[.agg (ba x)] wr fun e w'' => e = .returned (.bool z) ∧ Below wr.heap.size wr w'') := by
                            have := kZero x wr LX.out
                            rw [hz] at this
                            exact this
                          have RX : Hid (wr.rangeAt bq (o + k * 8) (bvals x)) := by
                            show World.rangeAt _ _ _ _
                            rw [← HX.out]
                            exact key_range (HSR.out.keep fun q' hq' => BI.out.block q' (by rw [← HS.out]; exact hq')) hlt
                          obtain ⟨c0, c1, c2, c3⟩ := pb_cells PQ.out
                          clear hz
                          cases z
                          · go_wp2_with (first
                              | (refine wpList_load_mid rfl 29 (.tmp 76) rfl bq (o + k * 8) rfl (bvals x) _ RX.out Tryz.underlying29 rfl hix ?_
                                 rw [← ba_bvals x])
                              | (go_at_call 78
                                 refine C18.out.mono ?_
                                 rintro e w5 ⟨rfl, hb⟩
                                 have B5 : Hid (Below S w w5) := BI.out.trans (hb.mono (Nat.le_of_lt PSi.out))
                                 have P5 : Hid (PB w5 S a b c (.slice (some ⟨bq, o, none⟩) n cap)) := (hb.block _ PSi.out).trans PQ.out
                                 clear hb c0 c1 c2 c3)
                              | fail)
                            go_roundw
                            case rel => exact ⟨k + 1, by omega, by go_num, fun j hj => by
                              by_cases e : j = k
                              · subst e
                                refine ⟨?_, fun i hi => ?_⟩
                                · rw [HX.out]; exact of_decide_eq_false HZ.out
                                · rw [HX.out]; exact JI.out i hi
                              · exact JR.out j (by omega), B5.out, P5.out⟩
                            case measure => simp [intOf]; omega
                          · go_wp2_with (first
                              | (refine wpList_load_mid rfl 29 (.tmp 76) rfl bq (o + k * 8) rfl (bvals x) _ RX.out Tryz.underlying29 rfl hix ?_
                                 rw [← ba_bvals x])
                              | (go_at_call 78
                                 refine C18.out.mono ?_
                                 rintro e w5 ⟨rfl, hb⟩
                                 have B5 : Hid (Below S w w5) := BI.out.trans (hb.mono (Nat.le_of_lt PSi.out))
                                 clear hb c0 c1 c2 c3)
                              | fail)
                            go_ret
                            refine ⟨?_, by rw [HS.out]; exact B5.out⟩
                            have hno : ¬ fineP (at8 flat) n := fun h => by
                              refine (fineP_at h k HLT.out).1 ?_
                              rw [HX.out]
                              exact of_decide_eq_true HZ.out
                            rw [decide_eq_false hno]
                            rfl
                    · have hqn : q = n := by omega
                      subst hqn
                      have hf : fineP (at8 flat) q := fineP_of fun j hj => JR.out j hj
                      go_wp2
                      go_ret
                      exact ⟨by rw [decide_eq_true hf]; rfl, by rw [HS.out]; exact BR.out⟩
end Go.Proofs.YtffaddefnpkcgaaGreatDoor

