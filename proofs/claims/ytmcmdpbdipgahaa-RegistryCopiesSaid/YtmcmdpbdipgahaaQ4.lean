/-
  Contains, mayKeys, May; the document's MayParams.
-/
import Derived.Test.YtmcmdpbdipgahaaQ3
import Derived.Test.YtmcmdpbdipgahaaQ1
import Derived.Test.YtmcmdpbdipgahaaK4
import Derived.Test.YtmcmdpbdipgahaaMD
import Derived.Shelf.SlicesQ.Contains
namespace Go.Proofs.Ytmcmdpbdipgahaa
open Go.RowKit
open Go.Shelf in
def lays7_ren : Go.Shelf.Ren := ⟨fun | 6 => 68 | 7 => 62 | n => n, fun | 0 => 0 | 3 => 3 | 4 => 4 | 22 => 36 | 24 => 31 | n => n, fun | n => n⟩
theorem lays7 : Go.Proofs.SlLaysQ.n7 Try.prog lays7_ren := {
  mixed := by kernel_rfl
  f6 := ⟨"slices.Index[[]drawbridge/api.Hash,drawbridge/api.Hash]", by kernel_rfl, Try.func68.trans (congrArg some (by kernel_rfl))⟩
  f7 := ⟨"slices.Contains[[]drawbridge/api.Hash,drawbridge/api.Hash]", by kernel_rfl, Try.func62.trans (congrArg some (by kernel_rfl))⟩
  t0 := Try.underlying0
  a0 := Try.isAgg0
  z0 := Try.sizeOf0
  v0 := Try.zeroValue0
  t3 := Try.underlying3
  a3 := Try.isAgg3
  z3 := Try.sizeOf3
  v3 := Try.zeroValue3
  t4 := Try.underlying4
  a4 := Try.isAgg4
  z4 := Try.sizeOf4
  v4 := Try.zeroValue4
  t22 := Try.underlying36
  a22 := Try.isAgg36
  z22 := Try.sizeOf36
  v22 := Try.zeroValue36 }
/-- eight of them -/
def nm (x : List Int) : List Int := (List.range 8).map fun j => x.getD j 0
theorem nm_len (x : List Int) : (nm x).length = 8 := by simp [nm]
theorem en_nm (x : List Int) : en x = bvals (nm x) := by simp [en, nm, bvals]
theorem nm_eq {x : List Int} (h : x.length = 8) : nm x = x := by
  match x, h with
  | [a0, a1, a2, a3, a4, a5, a6, a7], _ => rfl
theorem eql_h (x y : List Int) (w : World) (hx : x.length = 8) (hy : y.length = 8) : (binOp .eql 31 (.agg (ba x)) (.agg (ba y))).run Try.prog w = .ok (.bool (decide (x = y))) w := by
  rw [run_eql_struct]
  simp only [eqhL x y w hx hy, Result.andThen_ok]
theorem eqlH : Go.Proofs.EqlAt Try.prog 31 (fun x : List Int => .agg (en x).toArray) (fun x y => decide (nm x = nm y)) := by
  refine ⟨fun x y w => ?_, GuardAt.agg _ (by kernel_rfl)⟩
  show (binOp .eql 31 (.agg (en x).toArray) (.agg (en y).toArray)).run Try.prog w = .ok (.bool (decide (nm x = nm y))) w
  rw [en_nm, en_nm]
  exact eql_h (nm x) (nm y) w (nm_len x) (nm_len y)
theorem key_range {w : World} {b o n k : Nat} {l : List Int} (h : Src w (some ⟨b, o, none⟩) (8 * n) l) (hk : k < n) : w.rangeAt b (o + k * 8) (bvals (at8 l k)) := fun j v hv => by
  rcases h.2 with h0 | ⟨b', o', e, hc⟩
  · omega
  · cases e
    have hj := (List.getElem?_eq_some_iff.1 hv).1
    have h8 := at8_len (n := n) h.1 hk
    rw [bvals_len, h8] at hj
    rw [show o + k * 8 + j = o + (k * 8 + j) by omega, hc (k * 8 + j) (by omega), ← hv]
    have hl := h.1
    unfold at8
    rw [Nat.mul_comm 8 k]
    simp [bvals, List.getD, hj, show k * 8 + j < l.length by omega]
/-- does a key stand among the first of a row? -/
theorem kContains (b o n k cap : Nat) (flat x : List Int) (w : World) (hs : Src w (some ⟨b, o, none⟩) (8 * n) flat) (hx : x.length = 8) (hk : k ≤ n) (h64 : n ≤ 65536) :
    Calls Try.prog 62 #[.slice (some ⟨b, o, none⟩) k cap, .agg (ba x)] w fun e w' => e = .returned (.bool (decide (∃ j, j < k ∧ at8 flat j = x))) ∧ Below w.heap.size w w' := by
  obtain ⟨zs, hz⟩ : ∃ zs, (List.range n).map (at8 flat) = zs := ⟨_, rfl⟩
  have hzl : zs.length = n := by rw [← hz]; simp
  have hza : ∀ j, j < n → zs[j]! = at8 flat j := fun j hj => by
    rw [getElem!_pos _ _ (by omega)]
    subst hz
    simp
  have C := AnyQ.slices_Contains lays7 8 Try.isAgg31 Try.sizeOf31 en en_len _ eqlH b o k cap zs x w (by omega) (by omega) (fun j hj i v hv => by
    rw [hza j (by omega), en_nm, nm_eq (at8_len (n := n) hs.1 (by omega))] at hv
    exact key_range hs (by omega) i v hv)
  rw [en_nm, nm_eq hx] at C
  have e : ((zs.take k).any fun y => decide (x = nm y)) = decide (∃ j, j < k ∧ at8 flat j = x) := by
    rw [Bool.eq_iff_iff, List.any_eq_true, decide_eq_true_eq]
    constructor
    · rintro ⟨y, hy, h2⟩
      obtain ⟨j, hj, e⟩ := List.mem_iff_getElem.1 hy
      rw [List.length_take] at hj
      have h3 := hza j (by omega)
      rw [getElem!_pos _ _ (by omega)] at h3
      rw [List.getElem_take, h3] at e
      rw [← e, nm_eq (at8_len (n := n) hs.1 (by omega))] at h2
      exact ⟨j, by omega, (of_decide_eq_true h2).symm⟩
    · rintro ⟨j, hj, h2⟩
      refine ⟨at8 flat j, ?_, ?_⟩
      · rw [← hza j (by omega), getElem!_pos _ _ (by omega)]
        exact List.mem_iff_getElem.2 ⟨j, by rw [List.length_take]; omega, List.getElem_take⟩
      · rw [nm_eq (at8_len (n := n) hs.1 (by omega)), h2, decide_eq_true rfl]
  rw [e] at C
  exact C
theorem fineP_of {F : Nat → List Int} {n : Nat} (h : ∀ j, j < n → fine F j) : fineP F n := h
theorem fineP_at {F : Nat → List Int} {n : Nat} (h : fineP F n) (j : Nat) (hj : j < n) : fine F j := h j hj
theorem fine_eq (F : Nat → List Int) (i : Nat) : decide (fine F i) = (!decide (F i = zeros 8) && !decide (∃ j, j < i ∧ F j = F i)) := by
  rw [Bool.eq_iff_iff, decide_eq_true_eq, Bool.and_eq_true]
  simp only [Bool.not_eq_true', decide_eq_false_iff_not]
  unfold fine
  constructor
  · rintro ⟨h1, h2⟩
    exact ⟨h1, fun ⟨j, hj, e⟩ => h2 j hj e⟩
  · rintro ⟨h1, h2⟩
    exact ⟨h1, fun k hk e => h2 ⟨k, hk, e⟩⟩
attribute [local irreducible] ua da ba kk sw S8.run rt hs comp splice outB sha msg bvals zeros sg at8 fineP

set_option maxRecDepth 100000 in
set_option maxHeartbeats 8000000 in
/-- mayKeys -/
theorem kMayKeys (A : Option Addr) (n cap : Nat) (flat : List Int) (w : World) (hs : Src w A (8 * n) flat) (hc : n ≤ cap) (hc2 : cap ≤ maxLen) :
    Calls Try.prog 47 #[.slice A n cap] w fun e w' => e = .returned (.bool (mayK (at8 flat) n)) ∧ Below w.heap.size w w' := by
  have h4 := z27
  have HSR := Lib.hid hs
  obtain ⟨S, hS⟩ : ∃ S, w.heap.size = S := ⟨_, rfl⟩
  have HS := Lib.hid hS
  unfold maxLen at hc2
  have B0 : Hid (Below S w w) := Below.refl _ _
  obtain ⟨c, hcc⟩ : ∃ c, win 1 5 n = c := ⟨_, rfl⟩
  have C17 : Hid (∀ w', Calls Try.prog 48 #[.int .i64 n, .int .i64 1, .int .i64 5] w' fun e w'' => e = .returned (.bool c) ∧ w' = w'') := fun w' => by
    have := kWithin n 1 5 w'
    rw [hcc] at this
    exact this
  have HC := Lib.hid hcc
  clear hs hcc
  cases c
  · have hm : mayK (at8 flat) n = false := by unfold mayK; rw [HC.out, Bool.false_and]
    rw [hm]
    clear hm hS
    go_enter Try.func47, Try.ntmps47
    go_wp2_with (first | (go_at_call 48; refine (C17.out _).mono ?_; rintro e w' ⟨rfl, rfl⟩) | fail)
    go_ret
    exact ⟨rfl, by rw [HS.out]; exact B0.out⟩
  · have hm : mayK (at8 flat) n = decide (fineP (at8 flat) n) := by unfold mayK; rw [HC.out, Bool.true_and]
    rw [hm]
    have hn5 : 1 ≤ n ∧ n ≤ 5 := by
      have := HC.out
      simp only [win, Bool.and_eq_true, decide_eq_true_eq] at this
      omega
    obtain ⟨b, o, rfl⟩ := src_at HSR.out hn5.1
    have H5 := Lib.hid hn5
    clear hm hS hn5
    go_enter Try.func47, Try.ntmps47
    go_wp2_with (first | (go_at_call 48; refine (C17.out _).mono ?_; rintro e w' ⟨rfl, rfl⟩) | fail)
    go_loopw [11] (fun i wr => ∃ q : Nat, q ≤ n ∧ i = .int .i64 q ∧ (∀ j, j < q → fine (at8 flat) j) ∧ Below S w wr) (fun i _ => n - (intOf i).toNat)
    case atStart => exact ⟨0, Nat.zero_le _, rfl, fun j hj => by omega, B0.out⟩
    case round =>
      obtain ⟨q, hq, rfl, hj, hb⟩ := hrel
      have JR := Lib.hid hj
      have BR := Lib.hid hb
      have SVwr : Hid (S ≤ wr.heap.size) := by show _ ≤ _; rw [← HS.out]; have := hb.size; exact this
      clear hj hb
      by_cases hlt : q < n
      · have s0 : (0 : Int) ≤ (q : Int) := by omega
        have s1 : (q : Int) < (n : Int) := by omega
        obtain ⟨x, hx⟩ : ∃ x, at8 flat q = x := ⟨_, rfl⟩
        have HX := Lib.hid hx
        have LX : Hid (x.length = 8) := by rw [← hx]; exact at8_len (n := n) HSR.out.1 hlt
        have hix := inf23 x LX.out
        have RX : Hid (wr.rangeAt b (o + q * 8) (bvals x)) := by
          show World.rangeAt _ _ _ _
          rw [← hx]
          exact key_range (HSR.out.keep fun k hk => BR.out.block k (by rw [← HS.out]; exact hk)) hlt
        have HLT := Lib.hid hlt
        clear hx
        go_wp2_with (first
          | (refine wpList_load_mid rfl 31 (.tmp 14) rfl b (o + q * 8) rfl (bvals x) _ RX.out Try.underlying31 rfl hix ?_
             rw [← ba_bvals x]
             obtain ⟨T, hT⟩ : ∃ q, wr.heap.size = q := ⟨_, rfl⟩
             have Y0a := Lib.hid (ba_new hT (zeros 8) 31)
             have TS : Hid (S ≤ T) := by show _ ≤ _; rw [← hT]; exact SVwr.out)
          | (refine wpList_store_rowTo rfl 31 (.tmp 4) (.tmp 15) rfl rfl T (ba x) rfl rfl 31 (ba (zeros 8)) Y0a.out (sz s27 (by rw [ba_size, LX.out])) (by rw [ba_size, ba_size, LX.out, zeros_len]) (ba_one x) ?_
             have Ya : Hid (BA ((wr.alloc (Obj.cells (ba (zeros 8)) 31)).setRow T (ba x)) T 31 x) := setRow_heap _ _ _ _ _ _ Y0a.out
             have BWa : Hid (Below T wr ((wr.alloc (Obj.cells (ba (zeros 8)) 31)).setRow T (ba x))) := below_setRow ((Below.refl _ _).alloc (Nat.le_of_eq hT.symm) _) (Nat.le_refl _) _
             have BRa : Hid (Below S w ((wr.alloc (Obj.cells (ba (zeros 8)) 31)).setRow T (ba x))) := BR.out.trans (BWa.out.mono TS.out)
             have LAa : Hid (T < ((wr.alloc (Obj.cells (ba (zeros 8)) 31)).setRow T (ba x)).heap.size) := lt_of_block Ya.out
             have SVv3 : Hid (S ≤ ((wr.alloc (Obj.cells (ba (zeros 8)) 31)).setRow T (ba x)).heap.size) := Nat.le_trans TS.out (Nat.le_of_lt LAa.out)
             clear Y0a BWa hT  BR
             generalize ((wr.alloc (Obj.cells (ba (zeros 8)) 31)).setRow T (ba x)) = v3 at *)
          | fail)
        have YB := Ya
        have BB := BRa
        obtain ⟨N, hN⟩ : ∃ N, v3.heap.size = N := ⟨_, rfl⟩
        have WN : Hid (v3.heap.size = N) := hN
        have LN : Hid (T < N ∧ S ≤ N) := by show _ ∧ _; rw [← hN]; exact ⟨LAa.out, SVv3.out⟩
        have KN : Hid (∀ w', Below N v3 w' → Below S w w') := fun w' hb => BB.out.trans (hb.mono LN.out.2)
        obtain ⟨z, hz⟩ : ∃ z, decide (x = zeros 8) = z := ⟨_, rfl⟩
        obtain ⟨d, hd⟩ : ∃ d, decide (∃ j, j < q ∧ at8 flat j = x) = d := ⟨_, rfl⟩
        have HF : Hid (decide (fine (at8 flat) q) = (!z && !d)) := by
          show _ = _
          rw [fine_eq, HX.out, hz, hd]
        have f1 : ∀ w, (Op.equalIn 10000 31 (.agg (bvals x).toArray) (.agg (ba (zeros 8)))).run Try.prog w = .ok z w := fun w => by
          have := eqhL x (zeros 8) w LX.out (zeros_len 8)
          rw [hz, ba_bvals x] at this
          exact this
        have sl := fun w => sl_front b o n cap q w (by omega) (by omega)
        have C25 : Hid (∀ w', Below S w w' → Calls Try.prog 62 #[.slice (some ⟨b, o, none⟩) q cap, .agg (bvals x).toArray] w' fun e w'' => e = .returned (.bool d) ∧ Below w'.heap.size w' w'') := fun w' hb => by
          have := kContains b o n q cap flat x w' (HSR.out.keep fun k hk => hb.block k (by rw [← HS.out]; exact hk)) LX.out hq (by have := H5.out; omega)
          rw [hd, ba_bvals x] at this
          exact this
        clear hz hd hN Ya BRa RX
        generalize v3 = wB at *
        have NO : Hid ((!z && !d) = false → decide (fineP (at8 flat) n) = false) := fun h => by
          refine decide_eq_false fun h2 => ?_
          have h3 := HF.out
          rw [h, decide_eq_true (fineP_at h2 q HLT.out)] at h3
          cases h3
        have YES : Hid ((!z && !d) = true → fine (at8 flat) q) := fun h => by
          have h3 := HF.out
          rw [h] at h3
          exact of_decide_eq_true h3
        cases z
        · cases d
          · have XX : Hid (Below N wB wB.drew) := (Below.refl _ _).drew
            refine wp_region_held_drew (S := (fun w' : World => ∀ q, q < N → w'.heap[q]? = wB.heap[q]?)) (by kernel_rfl) (by exact fun _ _ => rfl) (fun hHeld => ?_)
            refine wpAnyH_take (i := 0) rfl (by kernel_rfl) (by kernel_rfl) (by kernel_rfl) (fun _ _ _ h => h) (yieldsIf_load_mid (by rfl) 31 (.tmp 4) rfl (T) (0) rfl (bvals x) _ (fun w h => ba_range (t := 31) ((h _ (by have := LN.out; omega)).trans YB.out)) Try.underlying31 rfl hix) (by assumption) ?_
            simp only [Act.put, List.getElem_toArray, List.getElem_cons_zero, List.setIfInBounds_toArray, List.set_cons_zero, List.set_cons_succ]
            refine wpAnyH_take (i := 1) (v := ?_) rfl (by kernel_rfl) (by kernel_rfl) (by kernel_rfl) (fun _ _ _ h => h) (Or.inl ⟨by rfl, ?_⟩) (by assumption) ?_
            rotate_left
            · (intro w hSw; (try dsimp only at hSw); go_simp; try with_reducible rfl)
            simp only [Act.put, List.getElem_toArray, List.getElem_cons_succ, List.getElem_cons_zero, List.setIfInBounds_toArray, List.set_cons_zero, List.set_cons_succ]
            refine wpAnyH_take (i := 2) (v := ?_) rfl (by kernel_rfl) (by kernel_rfl) (by kernel_rfl) (fun _ _ _ h => h) (Or.inl ⟨by rfl, ?_⟩) (by assumption) ?_
            rotate_left
            · (intro w hSw; (try dsimp only at hSw); go_simp; try with_reducible rfl)
            simp only [Act.put, List.getElem_toArray, List.getElem_cons_succ, List.getElem_cons_zero, List.setIfInBounds_toArray, List.set_cons_zero, List.set_cons_succ]
            refine wpAnyH_take (i := 3) (v := ?_) rfl (by kernel_rfl) (by kernel_rfl) (by kernel_rfl) (fun _ _ _ h => h) (Or.inl ⟨by rfl, ?_⟩) (by assumption) ?_
            rotate_left
            · (intro w hSw; (try dsimp only at hSw); go_simp; try with_reducible rfl)
            simp only [Act.put, List.getElem_toArray, List.getElem_cons_succ, List.getElem_cons_zero, List.setIfInBounds_toArray, List.set_cons_zero, List.set_cons_succ]
            refine wpAnyH_take (i := 4) (v := ?_) rfl (by kernel_rfl) (by kernel_rfl) (by kernel_rfl) (fun _ _ _ h => h) (Or.inl ⟨by rfl, ?_⟩) (by assumption) ?_
            rotate_left
            · (intro w hSw; (try dsimp only at hSw); go_simp; try with_reducible rfl)
            simp only [Act.put, List.getElem_toArray, List.getElem_cons_succ, List.getElem_cons_zero, List.setIfInBounds_toArray, List.set_cons_zero, List.set_cons_succ]
            refine wpAnyH_take (i := 5) (v := ?_) rfl (by kernel_rfl) (by kernel_rfl) (by kernel_rfl) (fun _ _ _ h => h) (Or.inl ⟨by rfl, ?_⟩) (by assumption) ?_
            rotate_left
            · (intro w hSw; (try dsimp only at hSw); go_simp; try with_reducible rfl)
            simp only [Act.put, List.getElem_toArray, List.getElem_cons_succ, List.getElem_cons_zero, List.setIfInBounds_toArray, List.set_cons_zero, List.set_cons_succ]
            refine wpAnyH_take (i := 6) (v := ?_) rfl (by kernel_rfl) (by kernel_rfl) (by kernel_rfl) (fun _ _ _ h => h) (Or.inl ⟨by rfl, ?_⟩) (by assumption) ?_
            rotate_left
            · (intro w hSw; (try dsimp only at hSw); go_simp; try with_reducible rfl)
            simp only [Act.put, List.getElem_toArray, List.getElem_cons_succ, List.getElem_cons_zero, List.setIfInBounds_toArray, List.set_cons_zero, List.set_cons_succ]
            refine wpAnyH_take (i := 7) rfl (by kernel_rfl) (by kernel_rfl) (by kernel_rfl) (fun _ _ _ h => h) (yieldsIf_load_mid (by rfl) 31 (.tmp 4) rfl (T) (0) rfl (bvals x) _ (fun w h => ba_range (t := 31) ((h _ (by have := LN.out; omega)).trans YB.out)) Try.underlying31 rfl hix) (by assumption) ?_
            simp only [Act.put, List.getElem_toArray, List.getElem_cons_succ, List.getElem_cons_zero, List.setIfInBounds_toArray, List.set_cons_zero, List.set_cons_succ]
            refine wpAnyH_ready (rs := [8]) (by kernel_rfl) (by simp) ?_
            refine AllReadyH.cons rfl (fun K hK => ?_) AllReadyH.nil
            go_simp
            go_at_call 62
            refine (C25.out _ (KN.out _ XX.out)).mono ?_
            rintro e wc1 ⟨rfl, hba⟩
            have XN : Hid (Below N wB wc1) := XX.out.trans (hba.mono (by have := XX.out.size; have := WN.out; omega))
            clear XX hba hHeld
            have XX := XN
            clear XN
            (try go_wp2_with fail)
            refine hK.out _ _ (by exact fun q hq => XX.out.block q hq) (fun hHeld => ?_)
            clear hK K
            refine wpAnyH_take (i := 9) (v := ?_) rfl (by kernel_rfl) (by kernel_rfl) (by kernel_rfl) (fun _ _ _ h => h) (Or.inl ⟨by rfl, ?_⟩) (by assumption) ?_
            rotate_left
            · (intro w hSw; (try dsimp only at hSw); go_simp; try with_reducible rfl)
            simp only [Act.put, List.getElem_toArray, List.getElem_cons_succ, List.getElem_cons_zero, List.setIfInBounds_toArray, List.set_cons_zero, List.set_cons_succ]
            refine wpAnyH_done (by kernel_rfl) ?_ _
            go_wp2
            go_roundw
            case rel => exact ⟨q + 1, by omega, by go_num, fun j hj => by
              by_cases e : j = q
              · subst e; exact YES.out rfl
              · exact JR.out j (by omega), KN.out _ XX.out⟩
            case measure => simp [intOf]; omega
          · have XX : Hid (Below N wB wB.drew) := (Below.refl _ _).drew
            refine wp_region_held_drew (S := (fun w' : World => ∀ q, q < N → w'.heap[q]? = wB.heap[q]?)) (by kernel_rfl) (by exact fun _ _ => rfl) (fun hHeld => ?_)
            refine wpAnyH_take (i := 0) rfl (by kernel_rfl) (by kernel_rfl) (by kernel_rfl) (fun _ _ _ h => h) (yieldsIf_load_mid (by rfl) 31 (.tmp 4) rfl (T) (0) rfl (bvals x) _ (fun w h => ba_range (t := 31) ((h _ (by have := LN.out; omega)).trans YB.out)) Try.underlying31 rfl hix) (by assumption) ?_
            simp only [Act.put, List.getElem_toArray, List.getElem_cons_zero, List.setIfInBounds_toArray, List.set_cons_zero, List.set_cons_succ]
            refine wpAnyH_take (i := 1) (v := ?_) rfl (by kernel_rfl) (by kernel_rfl) (by kernel_rfl) (fun _ _ _ h => h) (Or.inl ⟨by rfl, ?_⟩) (by assumption) ?_
            rotate_left
            · (intro w hSw; (try dsimp only at hSw); go_simp; try with_reducible rfl)
            simp only [Act.put, List.getElem_toArray, List.getElem_cons_succ, List.getElem_cons_zero, List.setIfInBounds_toArray, List.set_cons_zero, List.set_cons_succ]
            refine wpAnyH_take (i := 2) (v := ?_) rfl (by kernel_rfl) (by kernel_rfl) (by kernel_rfl) (fun _ _ _ h => h) (Or.inl ⟨by rfl, ?_⟩) (by assumption) ?_
            rotate_left
            · (intro w hSw; (try dsimp only at hSw); go_simp; try with_reducible rfl)
            simp only [Act.put, List.getElem_toArray, List.getElem_cons_succ, List.getElem_cons_zero, List.setIfInBounds_toArray, List.set_cons_zero, List.set_cons_succ]
            refine wpAnyH_take (i := 3) (v := ?_) rfl (by kernel_rfl) (by kernel_rfl) (by kernel_rfl) (fun _ _ _ h => h) (Or.inl ⟨by rfl, ?_⟩) (by assumption) ?_
            rotate_left
            · (intro w hSw; (try dsimp only at hSw); go_simp; try with_reducible rfl)
            simp only [Act.put, List.getElem_toArray, List.getElem_cons_succ, List.getElem_cons_zero, List.setIfInBounds_toArray, List.set_cons_zero, List.set_cons_succ]
            refine wpAnyH_take (i := 4) (v := ?_) rfl (by kernel_rfl) (by kernel_rfl) (by kernel_rfl) (fun _ _ _ h => h) (Or.inl ⟨by rfl, ?_⟩) (by assumption) ?_
            rotate_left
            · (intro w hSw; (try dsimp only at hSw); go_simp; try with_reducible rfl)
            simp only [Act.put, List.getElem_toArray, List.getElem_cons_succ, List.getElem_cons_zero, List.setIfInBounds_toArray, List.set_cons_zero, List.set_cons_succ]
            refine wpAnyH_take (i := 5) (v := ?_) rfl (by kernel_rfl) (by kernel_rfl) (by kernel_rfl) (fun _ _ _ h => h) (Or.inl ⟨by rfl, ?_⟩) (by assumption) ?_
            rotate_left
            · (intro w hSw; (try dsimp only at hSw); go_simp; try with_reducible rfl)
            simp only [Act.put, List.getElem_toArray, List.getElem_cons_succ, List.getElem_cons_zero, List.setIfInBounds_toArray, List.set_cons_zero, List.set_cons_succ]
            refine wpAnyH_take (i := 6) (v := ?_) rfl (by kernel_rfl) (by kernel_rfl) (by kernel_rfl) (fun _ _ _ h => h) (Or.inl ⟨by rfl, ?_⟩) (by assumption) ?_
            rotate_left
            · (intro w hSw; (try dsimp only at hSw); go_simp; try with_reducible rfl)
            simp only [Act.put, List.getElem_toArray, List.getElem_cons_succ, List.getElem_cons_zero, List.setIfInBounds_toArray, List.set_cons_zero, List.set_cons_succ]
            refine wpAnyH_take (i := 7) rfl (by kernel_rfl) (by kernel_rfl) (by kernel_rfl) (fun _ _ _ h => h) (yieldsIf_load_mid (by rfl) 31 (.tmp 4) rfl (T) (0) rfl (bvals x) _ (fun w h => ba_range (t := 31) ((h _ (by have := LN.out; omega)).trans YB.out)) Try.underlying31 rfl hix) (by assumption) ?_
            simp only [Act.put, List.getElem_toArray, List.getElem_cons_succ, List.getElem_cons_zero, List.setIfInBounds_toArray, List.set_cons_zero, List.set_cons_succ]
            refine wpAnyH_ready (rs := [8]) (by kernel_rfl) (by simp) ?_
            refine AllReadyH.cons rfl (fun K hK => ?_) AllReadyH.nil
            go_simp
            go_at_call 62
            refine (C25.out _ (KN.out _ XX.out)).mono ?_
            rintro e wc1 ⟨rfl, hba⟩
            have XN : Hid (Below N wB wc1) := XX.out.trans (hba.mono (by have := XX.out.size; have := WN.out; omega))
            clear XX hba hHeld
            have XX := XN
            clear XN
            (try go_wp2_with fail)
            refine hK.out _ _ (by exact fun q hq => XX.out.block q hq) (fun hHeld => ?_)
            clear hK K
            refine wpAnyH_take (i := 9) (v := ?_) rfl (by kernel_rfl) (by kernel_rfl) (by kernel_rfl) (fun _ _ _ h => h) (Or.inl ⟨by rfl, ?_⟩) (by assumption) ?_
            rotate_left
            · (intro w hSw; (try dsimp only at hSw); go_simp; try with_reducible rfl)
            simp only [Act.put, List.getElem_toArray, List.getElem_cons_succ, List.getElem_cons_zero, List.setIfInBounds_toArray, List.set_cons_zero, List.set_cons_succ]
            refine wpAnyH_done (by kernel_rfl) ?_ _
            go_wp2
            go_ret
            exact ⟨by rw [NO.out rfl]; rfl, by rw [HS.out]; exact KN.out _ XX.out⟩
        · have XX : Hid (Below N wB wB.drew) := (Below.refl _ _).drew
          refine wp_region_held_drew (S := (fun w' : World => ∀ q, q < N → w'.heap[q]? = wB.heap[q]?)) (by kernel_rfl) (by exact fun _ _ => rfl) (fun hHeld => ?_)
          refine wpAnyH_take (i := 0) rfl (by kernel_rfl) (by kernel_rfl) (by kernel_rfl) (fun _ _ _ h => h) (yieldsIf_load_mid (by rfl) 31 (.tmp 4) rfl (T) (0) rfl (bvals x) _ (fun w h => ba_range (t := 31) ((h _ (by have := LN.out; omega)).trans YB.out)) Try.underlying31 rfl hix) (by assumption) ?_
          simp only [Act.put, List.getElem_toArray, List.getElem_cons_zero, List.setIfInBounds_toArray, List.set_cons_zero, List.set_cons_succ]
          refine wpAnyH_take (i := 1) (v := ?_) rfl (by kernel_rfl) (by kernel_rfl) (by kernel_rfl) (fun _ _ _ h => h) (Or.inl ⟨by rfl, ?_⟩) (by assumption) ?_
          rotate_left
          · (intro w hSw; (try dsimp only at hSw); go_simp; try with_reducible rfl)
          simp only [Act.put, List.getElem_toArray, List.getElem_cons_succ, List.getElem_cons_zero, List.setIfInBounds_toArray, List.set_cons_zero, List.set_cons_succ]
          refine wpAnyH_take (i := 2) (v := ?_) rfl (by kernel_rfl) (by kernel_rfl) (by kernel_rfl) (fun _ _ _ h => h) (Or.inl ⟨by rfl, ?_⟩) (by assumption) ?_
          rotate_left
          · (intro w hSw; (try dsimp only at hSw); go_simp; try with_reducible rfl)
          simp only [Act.put, List.getElem_toArray, List.getElem_cons_succ, List.getElem_cons_zero, List.setIfInBounds_toArray, List.set_cons_zero, List.set_cons_succ]
          refine wpAnyH_take (i := 3) (v := ?_) rfl (by kernel_rfl) (by kernel_rfl) (by kernel_rfl) (fun _ _ _ h => h) (Or.inl ⟨by rfl, ?_⟩) (by assumption) ?_
          rotate_left
          · (intro w hSw; (try dsimp only at hSw); go_simp; try with_reducible rfl)
          simp only [Act.put, List.getElem_toArray, List.getElem_cons_succ, List.getElem_cons_zero, List.setIfInBounds_toArray, List.set_cons_zero, List.set_cons_succ]
          refine wpAnyH_take (i := 4) rfl (by kernel_rfl) (by kernel_rfl) (by kernel_rfl) (fun _ _ _ h => h) (Or.inr ⟨by rfl, rfl⟩) (by assumption) ?_
          simp only [Act.put, List.getElem_toArray, List.getElem_cons_succ, List.getElem_cons_zero, List.setIfInBounds_toArray, List.set_cons_zero, List.set_cons_succ]
          refine wpAnyH_take (i := 5) rfl (by kernel_rfl) (by kernel_rfl) (by kernel_rfl) (fun _ _ _ h => h) (Or.inr ⟨by rfl, rfl⟩) (by assumption) ?_
          simp only [Act.put, List.getElem_toArray, List.getElem_cons_succ, List.getElem_cons_zero, List.setIfInBounds_toArray, List.set_cons_zero, List.set_cons_succ]
          refine wpAnyH_take (i := 6) rfl (by kernel_rfl) (by kernel_rfl) (by kernel_rfl) (fun _ _ _ h => h) (Or.inr ⟨by rfl, rfl⟩) (by assumption) ?_
          simp only [Act.put, List.getElem_toArray, List.getElem_cons_succ, List.getElem_cons_zero, List.setIfInBounds_toArray, List.set_cons_zero, List.set_cons_succ]
          refine wpAnyH_take (i := 7) rfl (by kernel_rfl) (by kernel_rfl) (by kernel_rfl) (fun _ _ _ h => h) (Or.inr ⟨by rfl, rfl⟩) (by assumption) ?_
          simp only [Act.put, List.getElem_toArray, List.getElem_cons_succ, List.getElem_cons_zero, List.setIfInBounds_toArray, List.set_cons_zero, List.set_cons_succ]
          refine wpAnyH_take (i := 8) rfl (by kernel_rfl) (by kernel_rfl) (by kernel_rfl) (fun _ _ _ h => h) (Or.inr ⟨by rfl, rfl⟩) (by assumption) ?_
          simp only [Act.put, List.getElem_toArray, List.getElem_cons_succ, List.getElem_cons_zero, List.setIfInBounds_toArray, List.set_cons_zero, List.set_cons_succ]
          refine wpAnyH_take (i := 9) (v := ?_) rfl (by kernel_rfl) (by kernel_rfl) (by kernel_rfl) (fun _ _ _ h => h) (Or.inl ⟨by rfl, ?_⟩) (by assumption) ?_
          rotate_left
          · (intro w hSw; (try dsimp only at hSw); go_simp; try with_reducible rfl)
          simp only [Act.put, List.getElem_toArray, List.getElem_cons_succ, List.getElem_cons_zero, List.setIfInBounds_toArray, List.set_cons_zero, List.set_cons_succ]
          refine wpAnyH_done (by kernel_rfl) ?_ _
          go_wp2
          go_ret
          exact ⟨by rw [NO.out rfl]; rfl, by rw [HS.out]; exact KN.out _ XX.out⟩
      · have hf : fineP (at8 flat) n := fineP_of fun j hj => JR.out j (by omega)
        have hqn : q = n := by omega
        subst hqn
        go_wp2
        go_ret
        exact ⟨by rw [decide_eq_true hf]; rfl, by rw [HS.out]; exact BR.out⟩
end Go.Proofs.Ytmcmdpbdipgahaa
