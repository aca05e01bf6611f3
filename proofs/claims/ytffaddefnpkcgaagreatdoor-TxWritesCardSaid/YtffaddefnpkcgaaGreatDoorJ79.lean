/-
  The document's SameTx.
-/
import Derived.Test.YtffaddefnpkcgaaGreatDoorJT78
import Derived.Test.YtffaddefnpkcgaaGreatDoorJR
namespace Go.Proofs.YtffaddefnpkcgaaGreatDoor
open Go.RowKit
set_option maxRecDepth 100000
theorem dEncN (t : TxP) (h : TxH) (w : World) (ht : WfT t) (hm : Mem w t h) (hf : FewT t) (hc : mayT t = false) :
    Calls Tryz.prog 12 #[.agg (txC t h).toArray] w fun e w' => e = .returned (.tuple #[.slice none 0 0, .int .i64 1]) ∧ Below w.heap.size w w' := by
  refine (dEncT t h w ht hm hf).mono fun e w' g => ⟨?_, g.2⟩
  have := g.1
  rwa [if_neg (by rw [hc]; decide)] at this
theorem dEncY (t : TxP) (h : TxH) (w : World) (ht : WfT t) (hm : Mem w t h) (hf : FewT t) (hc : mayT t = true) :
    Calls Tryz.prog 12 #[.agg (txC t h).toArray] w fun e w' => (∃ A c, e = .returned (.tuple #[.slice A (encT t).length c, .int .i64 0]) ∧ Row w' A (encT t) ∧ (encT t).length ≤ c ∧ (A = none → c = 0) ∧ c ≤ 9223372036854775807) ∧ Below w.heap.size w w' := by
  refine (dEncT t h w ht hm hf).mono fun e w' g => ⟨?_, g.2⟩
  have := g.1
  rw [if_pos hc] at this
  obtain ⟨A, c, h1, h2⟩ := this
  exact ⟨A, c, h1, ob_row h2, (ob_cap h2).1, (ob_cap h2).2.2, (ob_cap h2).2.1⟩
attribute [local irreducible] ua da ba kk sw S8.run rt hs comp splice outB sha msg zeros win bvals vals parC cerC claC txC cel seg hash1 hash2 encT mayT strOfNums
set_option maxHeartbeats 4000000 in
theorem dSameTx (a b : TxP) (h k : TxH) (w : World) (ha : WfT a) (hb : WfT b) (ma : Mem w a h) (mb : Mem w b k) (fa : FewT a) (fb : FewT b) :
    Calls Tryz.prog 20 #[.agg (txC a h).toArray, .agg (txC b k).toArray] w fun e w' => e = .returned (.bool (sameT a b)) ∧ Below w.heap.size w w' := by
  obtain ⟨c1, hc1⟩ : ∃ c, mayT a = c := ⟨_, rfl⟩
  obtain ⟨c2, hc2⟩ : ∃ c, mayT b = c := ⟨_, rfl⟩
  have HC1 := Lib.hid hc1
  have HC2 := Lib.hid hc2
  obtain ⟨S, hS⟩ : ∃ S, w.heap.size = S := ⟨_, rfl⟩
  have HS := Lib.hid hS
  have R1 : Hid (((w.alloc (Obj.cells (txC a h).toArray 39)).alloc (Obj.cells (txC b k).toArray 39)).rangeAt S 0 (txC a h)) := by rw [← hS]; exact range_keep1 (range_new w _ _) (Below.heap_alloc _ _ _ (by simp))
  have R2 : Hid (((w.alloc (Obj.cells (txC a h).toArray 39)).alloc (Obj.cells (txC b k).toArray 39)).rangeAt (S + 1) 0 (txC b k)) := by
    have := range_new (w.alloc (Obj.cells (txC a h).toArray 39)) (txC b k) 39
    rw [World.size_alloc, hS] at this
    exact this
  have BC : Hid (Below S w ((w.alloc (Obj.cells (txC a h).toArray 39)).alloc (Obj.cells (txC b k).toArray 39))) := by rw [← hS]; exact ((Below.refl _ w).alloc (Nat.le_refl _) _).alloc (by simp) _
  have SZ : Hid (((w.alloc (Obj.cells (txC a h).toArray 39)).alloc (Obj.cells (txC b k).toArray 39)).heap.size = S + 2) := by show _ = _; rw [World.size_alloc, World.size_alloc, hS]
  have HA := Lib.hid ha
  have HB := Lib.hid hb
  have MA : Hid (∀ w', Below S w w' → Mem w' a h) := fun w' g => ma.keep fun q hq => g.block q (by rw [← hS]; exact hq)
  have MB : Hid (∀ w', Below S w w' → Mem w' b k) := fun w' g => mb.keep fun q hq => g.block q (by rw [← hS]; exact hq)
  have HI : Hid ((Tryz.prog.info? 39).map (·.size) = some (txC a h).length) := szL i39 (txC_len h ha)
  have HJ : Hid ((Tryz.prog.info? 39).map (·.size) = some (txC b k).length) := szL i39 (txC_len k hb)
  have E1 : Hid (∀ w', Below S w w' → Calls Tryz.prog 12 #[.agg (txC a h).toArray] w' (DEnc a w')) := Lib.hid fun w' g => dEncT a h w' HA.out (MA.out w' g) fa
  have E2 : Hid (∀ w', Below S w w' → Calls Tryz.prog 12 #[.agg (txC b k).toArray] w' (DEnc b w')) := Lib.hid fun w' g => dEncT b k w' HB.out (MB.out w' g) fb
  unfold DEnc at E1 E2
  rw [hc1] at E1
  rw [hc2] at E2
  have hs : sameT a b = (c1 && (c2 && decide (encT a = encT b))) := by unfold sameT; rw [hc1, hc2]
  have HSM := Lib.hid hs
  obtain ⟨q, hq⟩ : ∃ q, decide (encT a = encT b) = q := ⟨_, rfl⟩
  have SE := Lib.hid (str_eq (byt_enc ha) (byt_enc hb))
  rw [hq] at SE HSM
  clear ha hb ma mb hc1 hc2 hs hq fa fb MA MB
  go_enter Tryz.func20, Tryz.ntmps20
  go_upto_region 1 with (fail)
  generalize ((w.alloc (Obj.cells (txC a h).toArray 39)).alloc (Obj.cells (txC b k).toArray 39)) = v at *
  clear hS
  cases c1
  · cases c2
    · go_upto_region 3 with (first
        | (refine wpList_load_midG (by rfl) 39 (.tmp 2) rfl S 0 rfl (txC a h) _ R1.out Tryz.underlying39 rfl HI.out ?_)
        | (refine wpList_load_midG (by rfl) 39 (.tmp 3) rfl (S + 1) 0 rfl (txC b k) _ RB.out Tryz.underlying39 rfl HJ.out ?_)
        | (go_at_call 12; refine (E1.out v BC.out).mono ?_; rintro e w1 ⟨he, hb⟩; simp only [Bool.false_eq_true, if_false] at he; subst he; have RB : Hid (w1.rangeAt (S + 1) 0 (txC b k)) := Lib.hid (range_keep1 R2.out (hb.block _ (by rw [SZ.out]; omega))); have B1 := Lib.hid (BC.out.trans (hb.mono (by rw [SZ.out]; omega))); have S1 : Hid (S + 2 ≤ w1.heap.size) := Lib.hid (by rw [← SZ.out]; exact hb.size); clear hb E1 R2 BC)
        | (go_at_call 12; refine (E2.out w1 B1.out).mono ?_; rintro e w2 ⟨he, hb⟩; simp only [Bool.false_eq_true, if_false] at he; subst he;  have B2 := Lib.hid (B1.out.trans (hb.mono (by have := S1.out; omega))); clear hb B1)
        | fail)
      go_wp2
      go_ret
      exact ⟨by rw [HSM.out]; rfl, by rw [HS.out]; exact B2.out⟩
    · go_upto_region 3 with (first
        | (refine wpList_load_midG (by rfl) 39 (.tmp 2) rfl S 0 rfl (txC a h) _ R1.out Tryz.underlying39 rfl HI.out ?_)
        | (refine wpList_load_midG (by rfl) 39 (.tmp 3) rfl (S + 1) 0 rfl (txC b k) _ RB.out Tryz.underlying39 rfl HJ.out ?_)
        | (go_at_call 12; refine (E1.out v BC.out).mono ?_; rintro e w1 ⟨he, hb⟩; simp only [Bool.false_eq_true, if_false] at he; subst he; have RB : Hid (w1.rangeAt (S + 1) 0 (txC b k)) := Lib.hid (range_keep1 R2.out (hb.block _ (by rw [SZ.out]; omega))); have B1 := Lib.hid (BC.out.trans (hb.mono (by rw [SZ.out]; omega))); have S1 : Hid (S + 2 ≤ w1.heap.size) := Lib.hid (by rw [← SZ.out]; exact hb.size); clear hb E1 R2 BC)
        | (go_at_call 12; refine (E2.out w1 B1.out).mono ?_; rintro e w2 ⟨he, hb⟩; simp only [if_true] at he; obtain ⟨A2, c2, rfl, ho⟩ := he; have O4 := Lib.hid ho; clear ho;  have B2 := Lib.hid (B1.out.trans (hb.mono (by have := S1.out; omega))); clear hb B1)
        | fail)
      go_wp2
      go_ret
      exact ⟨by rw [HSM.out]; rfl, by rw [HS.out]; exact B2.out⟩
  · cases c2
    · go_upto_region 3 with (first
        | (refine wpList_load_midG (by rfl) 39 (.tmp 2) rfl S 0 rfl (txC a h) _ R1.out Tryz.underlying39 rfl HI.out ?_)
        | (refine wpList_load_midG (by rfl) 39 (.tmp 3) rfl (S + 1) 0 rfl (txC b k) _ RB.out Tryz.underlying39 rfl HJ.out ?_)
        | (go_at_call 12; refine (E1.out v BC.out).mono ?_; rintro e w1 ⟨he, hb⟩; simp only [if_true] at he; obtain ⟨A, c, rfl, ho⟩ := he; have O3 := Lib.hid ho; clear ho; have RB : Hid (w1.rangeAt (S + 1) 0 (txC b k)) := Lib.hid (range_keep1 R2.out (hb.block _ (by rw [SZ.out]; omega))); have B1 := Lib.hid (BC.out.trans (hb.mono (by rw [SZ.out]; omega))); have S1 : Hid (S + 2 ≤ w1.heap.size) := Lib.hid (by rw [← SZ.out]; exact hb.size); clear hb E1 R2 BC)
        | (go_at_call 12; refine (E2.out w1 B1.out).mono ?_; rintro e w2 ⟨he, hb⟩; simp only [Bool.false_eq_true, if_false] at he; subst he;  have B2 := Lib.hid (B1.out.trans (hb.mono (by have := S1.out; omega))); clear hb B1)
        | fail)
      go_wp2
      go_ret
      exact ⟨by rw [HSM.out]; rfl, by rw [HS.out]; exact B2.out⟩
    · go_upto_region 3 with (first
        | (refine wpList_load_midG (by rfl) 39 (.tmp 2) rfl S 0 rfl (txC a h) _ R1.out Tryz.underlying39 rfl HI.out ?_)
        | (refine wpList_load_midG (by rfl) 39 (.tmp 3) rfl (S + 1) 0 rfl (txC b k) _ RB.out Tryz.underlying39 rfl HJ.out ?_)
        | (go_at_call 12; refine (E1.out v BC.out).mono ?_; rintro e w1 ⟨he, hb⟩; simp only [if_true] at he; obtain ⟨A, c, rfl, ho⟩ := he; have O3 := Lib.hid ho; clear ho; have RB : Hid (w1.rangeAt (S + 1) 0 (txC b k)) := Lib.hid (range_keep1 R2.out (hb.block _ (by rw [SZ.out]; omega))); have B1 := Lib.hid (BC.out.trans (hb.mono (by rw [SZ.out]; omega))); have S1 : Hid (S + 2 ≤ w1.heap.size) := Lib.hid (by rw [← SZ.out]; exact hb.size); clear hb E1 R2 BC)
        | (go_at_call 12; refine (E2.out w1 B1.out).mono ?_; rintro e w2 ⟨he, hb⟩; simp only [if_true] at he; obtain ⟨A2, c2, rfl, ho⟩ := he; have O4 := Lib.hid ho; clear ho; have O5 := Lib.hid (ob_keep O3.out hb); have B2 := Lib.hid (B1.out.trans (hb.mono (by have := S1.out; omega))); clear hb B1)
        | fail)
      have h1 := conv (w := w2) c rfl (ob_row O5.out)
      have h2 := conv (w := w2) c2 rfl (ob_row O4.out)
      have h3 := SE.out
      clear O3 O4 O5 SE
      go_wp2
      go_ret
      exact ⟨by rw [HSM.out, Bool.true_and, Bool.true_and]; rfl, by rw [HS.out]; exact B2.out⟩
end Go.Proofs.YtffaddefnpkcgaaGreatDoor

namespace Go.Proofs.YtffaddefnpkcgaaGreatDoor
open Go.RowKit
set_option maxRecDepth 100000
/-- where both lie -/
structure V5 (S : Nat) (w0 : World) (x : TxP) (h : TxH) (y : TxP) (k : TxH) (w : World) : Prop where
  bel : Below S w0 w
  x : BL w S (txC x h) 39
  y : BL w (S + 1) (txC y k) 39
  sz : S + 2 ≤ w.heap.size
theorem V5.step {S : Nat} {w0 : World} {x : TxP} {h : TxH} {y : TxP} {k : TxH} {w w' : World} (v : V5 S w0 x h y k w) (hb : Below w.heap.size w w') : V5 S w0 x h y k w' :=
  ⟨v.bel.trans (hb.mono (by have := v.sz; omega)), bl_keep v.x (hb.block S (by have := v.sz; omega)), bl_keep v.y (hb.block (S + 1) (by have := v.sz; omega)), Nat.le_trans v.sz hb.size⟩
theorem v5_0 (w : World) (x : TxP) (h : TxH) (y : TxP) (k : TxH) : V5 w.heap.size w x h y k ((w.alloc (Obj.cells (txC x h).toArray 39)).alloc (Obj.cells (txC y k).toArray 39)) := by
  refine ⟨((Below.refl _ w).alloc (Nat.le_refl _) _).alloc (by simp) _, ?_, ?_, by simp⟩
  · exact bl_keep (heap_alloc_last w _) (Below.heap_alloc _ _ _ (by simp))
  · have := heap_alloc_last (w.alloc (Obj.cells (txC x h).toArray 39)) (Obj.cells (txC y k).toArray 39)
    rwa [World.size_alloc] at this
/-- bytes that were written -/
def EncR (t : TxP) (A : Option Addr) (c : Nat) (w : World) : Prop := Row w A (encT t) ∧ (encT t).length ≤ c ∧ (A = none → c = 0) ∧ c ≤ 9223372036854775807
theorem EncR.keep {t : TxP} {A : Option Addr} {c : Nat} {w w' : World} (h : EncR t A c w) (hb : Below w.heap.size w w') : EncR t A c w' := ⟨row_keep h.1 hb.block, h.2⟩
/-- what the walks of TxBack call -/
structure C5 (S : Nat) (w0 : World) (x : TxP) (h : TxH) (y : TxP) (k : TxH) : Prop where
  aw : ∀ w, V5 S w0 x h y k w → Calls Tryz.prog 9 #[] w fun e w' => e = .returned (.bool true) ∧ Below w.heap.size w w'
  fx : ∀ w, V5 S w0 x h y k w → Calls Tryz.prog 10 #[.agg (txC x h).toArray] w fun e w' => e = .returned (.bool (fewB x)) ∧ Below w.heap.size w w'
  fy : ∀ w, V5 S w0 x h y k w → Calls Tryz.prog 10 #[.agg (txC y k).toArray] w fun e w' => e = .returned (.bool (fewB y)) ∧ Below w.heap.size w w'
  ex0 : mayT x = false → ∀ w, V5 S w0 x h y k w → Calls Tryz.prog 11 #[.agg (txC x h).toArray] w fun e w' => e = .returned (.tuple #[.slice none 0 0, .int .i64 1]) ∧ Below w.heap.size w w'
  ex1 : mayT x = true → ∀ w, V5 S w0 x h y k w → Calls Tryz.prog 11 #[.agg (txC x h).toArray] w fun e w' => (∃ A c, e = .returned (.tuple #[.slice A (encT x).length c, .int .i64 0]) ∧ EncR x A c w') ∧ Below w.heap.size w w'
  ey0 : mayT y = false → ∀ w, V5 S w0 x h y k w → Calls Tryz.prog 11 #[.agg (txC y k).toArray] w fun e w' => e = .returned (.tuple #[.slice none 0 0, .int .i64 1]) ∧ Below w.heap.size w w'
  ey1 : mayT y = true → ∀ w, V5 S w0 x h y k w → Calls Tryz.prog 11 #[.agg (txC y k).toArray] w fun e w' => (∃ A c, e = .returned (.tuple #[.slice A (encT y).length c, .int .i64 0]) ∧ EncR y A c w') ∧ Below w.heap.size w w'
  dx : mayT x = true → ∀ w A c, EncR x A c w → Calls Tryz.prog 17 #[.slice A (encT x).length c] w fun e w' => (∃ h', e = .returned (.tuple #[.agg (txC x h').toArray, .int .i64 0]) ∧ Mem w' x h') ∧ Below w.heap.size w w'
  sd : mayT x = true → fewB x = true → ∀ w h', V5 S w0 x h y k w → Mem w x h' → Calls Tryz.prog 20 #[.agg (txC x h').toArray, .agg (txC x h).toArray] w fun e w' => e = .returned (.bool true) ∧ Below w.heap.size w w'
  st : mayT x = true → ∀ w h', V5 S w0 x h y k w → Mem w x h' → Calls Tryz.prog 21 #[.agg (txC x h').toArray, .agg (txC x h).toArray] w fun e w' => e = .returned (.bool true) ∧ Below w.heap.size w w'
  sm : ∀ w, V5 S w0 x h y k w → Calls Tryz.prog 21 #[.agg (txC x h).toArray, .agg (txC y k).toArray] w fun e w' => e = .returned (.bool (sameT x y)) ∧ Below w.heap.size w w'
theorem same_self {t : TxP} (h : mayT t = true) : sameT t t = true := by unfold sameT; rw [h]; simp
theorem c5_of (w : World) (x : TxP) (h : TxH) (y : TxP) (k : TxH) (hx : WfT x) (hy : WfT y) (mx : Mem w x h) (my : Mem w y k) (hk : Keys w) : C5 w.heap.size w x h y k := by
  have h0 := keys_pos hk
  have KX : ∀ w', V5 w.heap.size w x h y k w' → Mem w' x h := fun w' v => mx.keep fun q hq => v.bel.block q hq
  have KY : ∀ w', V5 w.heap.size w x h y k w' → Mem w' y k := fun w' v => my.keep fun q hq => v.bel.block q hq
  refine ⟨fun w' v => tAwake w' (keys_below hk v.bel h0) (by have := v.sz; omega), fun w' v => tFew x h w' hx (KX w' v), fun w' v => tFew y k w' hy (KY w' v), fun c w' v => tEncN x h w' hx (KX w' v) c, fun c w' v => tEncY x h w' hx (KX w' v) c, fun c w' v => tEncN y k w' hy (KY w' v) c, fun c w' v => tEncY y k w' hy (KY w' v) c, fun c w' A cc g => ?_, fun c f w' h' v m => ?_, fun c w' h' v m => ?_, fun w' v => tSame x y h k w' hx hy (KX w' v) (KY w' v)⟩
  · have hp := parT_enc [] hx c
    rw [List.append_nil] at hp
    refine (tDecY A _ cc (encT x) x w' (src_row rfl g.1) g.2.2.1 (byt_enc hx) (by have := enc_le hx c; omega) hp c).mono ?_
    rintro e w2 ⟨h', a, b, _, d⟩
    exact ⟨⟨h', a, b⟩, d⟩
  · have := dSameTx x x h' h w' hx hx m (KX w' v) (few_t f) (few_t f)
    rwa [same_self c] at this
  · have := tSame x x h' h w' hx hx m (KX w' v)
    rwa [same_self c] at this
attribute [local irreducible] ua da ba kk sw S8.run rt hs comp splice outB sha msg zeros win bvals vals parC cerC claC txC cel seg hash1 hash2 encT mayT strOfNums sameT fewB
set_option maxHeartbeats 4000000 in
theorem n5_0 (x : TxP) (h : TxH) (y : TxP) (k : TxH) (w : World) (hx : WfT x) (hy : WfT y) (mx : Mem w x h) (my : Mem w y k) (hk : Keys w) (e1 : fewB x = false) :
    Calls Tryz.prog 5 #[.agg (txC x h).toArray, .agg (txC y k).toArray] w fun e w' => e = .returned (.bool true) ∧ Below w.heap.size w w' := by
  obtain ⟨S, hS⟩ : ∃ S, w.heap.size = S := ⟨_, rfl⟩
  have HS := Lib.hid hS
  have CC0 := c5_of w x h y k hx hy mx my hk
  have V0 := v5_0 w x h y k
  rw [hS] at CC0 V0
  have AW := Lib.hid CC0.aw
  have FX := Lib.hid CC0.fx
  rw [e1] at FX
  have V := Lib.hid V0
  have HI : Hid ((Tryz.prog.info? 39).map (·.size) = some (txC x h).length) := szL i39 (txC_len h hx)
  have _HJ : Hid ((Tryz.prog.info? 39).map (·.size) = some (txC y k).length) := szL i39 (txC_len k hy)
  have T1 : Hid True := Lib.hid trivial
  clear hx hy mx my hk CC0 V0
  go_enter Tryz.func5, Tryz.ntmps5
  go_upto_region 1 with (fail)
  generalize ((w.alloc (Obj.cells (txC x h).toArray 39)).alloc (Obj.cells (txC y k).toArray 39)) = v at *
  clear hS
  go_wp2_with (first
      | (go_at_call 9; refine (AW.out _ V.out).mono ?_; rintro e w' ⟨rfl, hb⟩; have V := Lib.hid (V.out.step hb); clear hb)
      | (refine wpList_load_midG (by rfl) 39 (.tmp 2) rfl S 0 rfl (txC x h) _ (range_of V.out.x) Tryz.underlying39 rfl HI.out ?_)
      | (clear T1; go_at_call 10; refine (FX.out _ V.out).mono ?_; rintro e w' ⟨rfl, hb⟩; have V := Lib.hid (V.out.step hb); clear hb)
      | fail)
  go_ret
  exact ⟨rfl, by rw [HS.out]; exact V.out.bel⟩
set_option maxHeartbeats 4000000 in
theorem n5_1 (x : TxP) (h : TxH) (y : TxP) (k : TxH) (w : World) (hx : WfT x) (hy : WfT y) (mx : Mem w x h) (my : Mem w y k) (hk : Keys w) (e1 : fewB x = true) (e2 : fewB y = false) :
    Calls Tryz.prog 5 #[.agg (txC x h).toArray, .agg (txC y k).toArray] w fun e w' => e = .returned (.bool true) ∧ Below w.heap.size w w' := by
  obtain ⟨S, hS⟩ : ∃ S, w.heap.size = S := ⟨_, rfl⟩
  have HS := Lib.hid hS
  have CC0 := c5_of w x h y k hx hy mx my hk
  have V0 := v5_0 w x h y k
  rw [hS] at CC0 V0
  have AW := Lib.hid CC0.aw
  have FX := Lib.hid CC0.fx
  have FY := Lib.hid CC0.fy
  rw [e1] at FX
  rw [e2] at FY
  have V := Lib.hid V0
  have HI : Hid ((Tryz.prog.info? 39).map (·.size) = some (txC x h).length) := szL i39 (txC_len h hx)
  have HJ : Hid ((Tryz.prog.info? 39).map (·.size) = some (txC y k).length) := szL i39 (txC_len k hy)
  have T1 : Hid True := Lib.hid trivial
  clear hx hy mx my hk CC0 V0
  go_enter Tryz.func5, Tryz.ntmps5
  go_upto_region 1 with (fail)
  generalize ((w.alloc (Obj.cells (txC x h).toArray 39)).alloc (Obj.cells (txC y k).toArray 39)) = v at *
  clear hS
  go_wp2_with (first
      | (go_at_call 9; refine (AW.out _ V.out).mono ?_; rintro e w' ⟨rfl, hb⟩; have V := Lib.hid (V.out.step hb); clear hb)
      | (refine wpList_load_midG (by rfl) 39 (.tmp 2) rfl S 0 rfl (txC x h) _ (range_of V.out.x) Tryz.underlying39 rfl HI.out ?_)
      | (clear T1; go_at_call 10; refine (FX.out _ V.out).mono ?_; rintro e w' ⟨rfl, hb⟩; have V := Lib.hid (V.out.step hb); clear hb)
      | (refine wpList_load_midG (by rfl) 39 (.tmp 3) rfl (S + 1) 0 rfl (txC y k) _ (range_of V.out.y) Tryz.underlying39 rfl HJ.out ?_)
      | (go_at_call 10; refine (FY.out _ V.out).mono ?_; rintro e w' ⟨rfl, hb⟩; have V := Lib.hid (V.out.step hb); clear hb)
      | fail)
  go_ret
  exact ⟨rfl, by rw [HS.out]; exact V.out.bel⟩
set_option maxHeartbeats 8000000 in
theorem p5_00 (x : TxP) (h : TxH) (y : TxP) (k : TxH) (w : World) (hx : WfT x) (hy : WfT y) (mx : Mem w x h) (my : Mem w y k) (hk : Keys w) (e1 : fewB x = true) (e2 : fewB y = true) (e3 : mayT x = false) (e4 : mayT y = false) :
    Calls Tryz.prog 5 #[.agg (txC x h).toArray, .agg (txC y k).toArray] w fun e w' => e = .returned (.bool true) ∧ Below w.heap.size w w' := by
  obtain ⟨S, hS⟩ : ∃ S, w.heap.size = S := ⟨_, rfl⟩
  have HS := Lib.hid hS
  have CC0 := c5_of w x h y k hx hy mx my hk
  have V0 := v5_0 w x h y k
  rw [hS] at CC0 V0
  have AW := Lib.hid CC0.aw
  have FX := Lib.hid CC0.fx
  have FY := Lib.hid CC0.fy
  rw [e1] at FX
  rw [e2] at FY
  have V := Lib.hid V0
  have HI : Hid ((Tryz.prog.info? 39).map (·.size) = some (txC x h).length) := szL i39 (txC_len h hx)
  have HJ : Hid ((Tryz.prog.info? 39).map (·.size) = some (txC y k).length) := szL i39 (txC_len k hy)
  have T1 : Hid True := Lib.hid trivial
  have EX := Lib.hid (CC0.ex0 e3)
  have EY := Lib.hid (CC0.ey0 e4)
  have SM := Lib.hid CC0.sm
  have hs : sameT x y = false := by unfold sameT; rw [e3, e4]; simp
  rw [hs] at SM
  clear hs
  clear hx hy mx my hk CC0 V0 e1 e2 e3 e4
  go_enter Tryz.func5, Tryz.ntmps5
  go_upto_region 1 with (fail)
  generalize ((w.alloc (Obj.cells (txC x h).toArray 39)).alloc (Obj.cells (txC y k).toArray 39)) = v at *
  clear hS
  go_upto_region 5 with (first
      | (go_at_call 9; refine (AW.out _ V.out).mono ?_; rintro e w' ⟨rfl, hb⟩; have V := Lib.hid (V.out.step hb); clear hb)
      | (refine wpList_load_midG (by rfl) 39 (.tmp 2) rfl S 0 rfl (txC x h) _ (range_of V.out.x) Tryz.underlying39 rfl HI.out ?_)
      | (refine wpList_load_midG (by rfl) 39 (.tmp 3) rfl (S + 1) 0 rfl (txC y k) _ (range_of V.out.y) Tryz.underlying39 rfl HJ.out ?_)
      | (clear T1; go_at_call 10; refine (FX.out _ V.out).mono ?_; rintro e w' ⟨rfl, hb⟩; have V := Lib.hid (V.out.step hb); clear hb)
      | (go_at_call 10; refine (FY.out _ V.out).mono ?_; rintro e w' ⟨rfl, hb⟩; have V := Lib.hid (V.out.step hb); clear hb)
      | fail)
  go_upto_region 6 with (first
      | (refine wpList_load_midG (by rfl) 39 (.tmp 2) rfl S 0 rfl (txC x h) _ (range_of V.out.x) Tryz.underlying39 rfl HI.out ?_)
      | (go_at_call 11; refine (EX.out _ V.out).mono ?_; rintro e w' ⟨rfl, hb⟩; have V := Lib.hid (V.out.step hb); clear hb)
      | fail)
  go_upto_region 7 with (first
      | (refine wpList_load_midG (by rfl) 39 (.tmp 3) rfl (S + 1) 0 rfl (txC y k) _ (range_of V.out.y) Tryz.underlying39 rfl HJ.out ?_)
      | (go_at_call 11; refine (EY.out _ V.out).mono ?_; rintro e w' ⟨rfl, hb⟩; have V := Lib.hid (V.out.step hb); clear hb)
      | fail)
  go_upto_region 11 with fail
  go_wp2_with (first
      | (refine wpList_load_midG (by rfl) 39 (.tmp 2) rfl S 0 rfl (txC x h) _ (range_of V.out.x) Tryz.underlying39 rfl HI.out ?_)
      | (refine wpList_load_midG (by rfl) 39 (.tmp 3) rfl (S + 1) 0 rfl (txC y k) _ (range_of V.out.y) Tryz.underlying39 rfl HJ.out ?_)
      | (go_at_call 21; refine (SM.out _ V.out).mono ?_; rintro e w8 ⟨rfl, hb⟩; have V := Lib.hid (V.out.step hb); clear hb)
      | fail)
  go_ret
  exact ⟨rfl, by rw [HS.out]; exact V.out.bel⟩
set_option maxHeartbeats 8000000 in
theorem p5_01 (x : TxP) (h : TxH) (y : TxP) (k : TxH) (w : World) (hx : WfT x) (hy : WfT y) (mx : Mem w x h) (my : Mem w y k) (hk : Keys w) (e1 : fewB x = true) (e2 : fewB y = true) (e3 : mayT x = false) (e4 : mayT y = true) :
    Calls Tryz.prog 5 #[.agg (txC x h).toArray, .agg (txC y k).toArray] w fun e w' => e = .returned (.bool true) ∧ Below w.heap.size w w' := by
  obtain ⟨S, hS⟩ : ∃ S, w.heap.size = S := ⟨_, rfl⟩
  have HS := Lib.hid hS
  have CC0 := c5_of w x h y k hx hy mx my hk
  have V0 := v5_0 w x h y k
  rw [hS] at CC0 V0
  have AW := Lib.hid CC0.aw
  have FX := Lib.hid CC0.fx
  have FY := Lib.hid CC0.fy
  rw [e1] at FX
  rw [e2] at FY
  have V := Lib.hid V0
  have HI : Hid ((Tryz.prog.info? 39).map (·.size) = some (txC x h).length) := szL i39 (txC_len h hx)
  have HJ : Hid ((Tryz.prog.info? 39).map (·.size) = some (txC y k).length) := szL i39 (txC_len k hy)
  have T1 : Hid True := Lib.hid trivial
  have EX := Lib.hid (CC0.ex0 e3)
  have EY := Lib.hid (CC0.ey1 e4)
  have SM := Lib.hid CC0.sm
  have hs : sameT x y = false := by unfold sameT; rw [e3, e4]; simp
  rw [hs] at SM
  clear hs
  clear hx hy mx my hk CC0 V0 e1 e2 e3 e4
  go_enter Tryz.func5, Tryz.ntmps5
  go_upto_region 1 with (fail)
  generalize ((w.alloc (Obj.cells (txC x h).toArray 39)).alloc (Obj.cells (txC y k).toArray 39)) = v at *
  clear hS
  go_upto_region 5 with (first
      | (go_at_call 9; refine (AW.out _ V.out).mono ?_; rintro e w' ⟨rfl, hb⟩; have V := Lib.hid (V.out.step hb); clear hb)
      | (refine wpList_load_midG (by rfl) 39 (.tmp 2) rfl S 0 rfl (txC x h) _ (range_of V.out.x) Tryz.underlying39 rfl HI.out ?_)
      | (refine wpList_load_midG (by rfl) 39 (.tmp 3) rfl (S + 1) 0 rfl (txC y k) _ (range_of V.out.y) Tryz.underlying39 rfl HJ.out ?_)
      | (clear T1; go_at_call 10; refine (FX.out _ V.out).mono ?_; rintro e w' ⟨rfl, hb⟩; have V := Lib.hid (V.out.step hb); clear hb)
      | (go_at_call 10; refine (FY.out _ V.out).mono ?_; rintro e w' ⟨rfl, hb⟩; have V := Lib.hid (V.out.step hb); clear hb)
      | fail)
  go_upto_region 6 with (first
      | (refine wpList_load_midG (by rfl) 39 (.tmp 2) rfl S 0 rfl (txC x h) _ (range_of V.out.x) Tryz.underlying39 rfl HI.out ?_)
      | (go_at_call 11; refine (EX.out _ V.out).mono ?_; rintro e w' ⟨rfl, hb⟩; have V := Lib.hid (V.out.step hb); clear hb)
      | fail)
  go_upto_region 7 with (first
      | (refine wpList_load_midG (by rfl) 39 (.tmp 3) rfl (S + 1) 0 rfl (txC y k) _ (range_of V.out.y) Tryz.underlying39 rfl HJ.out ?_)
      | (go_at_call 11; refine (EY.out _ V.out).mono ?_; rintro e w' ⟨⟨A2, c2, rfl, hr⟩, hb⟩; have R2 := Lib.hid hr; have V := Lib.hid (V.out.step hb); clear hb hr)
      | fail)
  go_upto_region 11 with fail
  go_wp2_with (first
      | (refine wpList_load_midG (by rfl) 39 (.tmp 2) rfl S 0 rfl (txC x h) _ (range_of V.out.x) Tryz.underlying39 rfl HI.out ?_)
      | (refine wpList_load_midG (by rfl) 39 (.tmp 3) rfl (S + 1) 0 rfl (txC y k) _ (range_of V.out.y) Tryz.underlying39 rfl HJ.out ?_)
      | (go_at_call 21; refine (SM.out _ V.out).mono ?_; rintro e w8 ⟨rfl, hb⟩; have V := Lib.hid (V.out.step hb); clear hb)
      | fail)
  go_ret
  exact ⟨rfl, by rw [HS.out]; exact V.out.bel⟩
set_option maxHeartbeats 8000000 in
theorem p5_10 (x : TxP) (h : TxH) (y : TxP) (k : TxH) (w : World) (hx : WfT x) (hy : WfT y) (mx : Mem w x h) (my : Mem w y k) (hk : Keys w) (e1 : fewB x = true) (e2 : fewB y = true) (e3 : mayT x = true) (e4 : mayT y = false) :
    Calls Tryz.prog 5 #[.agg (txC x h).toArray, .agg (txC y k).toArray] w fun e w' => e = .returned (.bool true) ∧ Below w.heap.size w w' := by
  obtain ⟨S, hS⟩ : ∃ S, w.heap.size = S := ⟨_, rfl⟩
  have HS := Lib.hid hS
  have CC0 := c5_of w x h y k hx hy mx my hk
  have V0 := v5_0 w x h y k
  rw [hS] at CC0 V0
  have AW := Lib.hid CC0.aw
  have FX := Lib.hid CC0.fx
  have FY := Lib.hid CC0.fy
  rw [e1] at FX
  rw [e2] at FY
  have V := Lib.hid V0
  have HI : Hid ((Tryz.prog.info? 39).map (·.size) = some (txC x h).length) := szL i39 (txC_len h hx)
  have HJ : Hid ((Tryz.prog.info? 39).map (·.size) = some (txC y k).length) := szL i39 (txC_len k hy)
  have T1 : Hid True := Lib.hid trivial
  have EX := Lib.hid (CC0.ex1 e3)
  have EY := Lib.hid (CC0.ey0 e4)
  have SM := Lib.hid CC0.sm
  have DX := Lib.hid (CC0.dx e3)
  have SD := Lib.hid (CC0.sd e3 e1)
  have ST := Lib.hid (CC0.st e3)
  have X1 : Hid (∀ h', ∀ v ∈ txC x h', v.oneCell' = true) := Lib.hid fun h' => txC_one x h'
  have HXL : Hid (∀ h', (txC x h').length = 170) := Lib.hid fun h' => txC_len h' hx
  have H0L : Hid ((txC tx0 hd0).length = 170) := Lib.hid (txC_len _ wf_tx0)
  have hs : sameT x y = false := by unfold sameT; rw [e3, e4]; simp
  rw [hs] at SM
  clear hs
  clear hx hy mx my hk CC0 V0 e1 e2 e3 e4
  go_enter Tryz.func5, Tryz.ntmps5
  go_upto_region 1 with (fail)
  generalize ((w.alloc (Obj.cells (txC x h).toArray 39)).alloc (Obj.cells (txC y k).toArray 39)) = v at *
  clear hS
  go_upto_region 5 with (first
      | (go_at_call 9; refine (AW.out _ V.out).mono ?_; rintro e w' ⟨rfl, hb⟩; have V := Lib.hid (V.out.step hb); clear hb)
      | (refine wpList_load_midG (by rfl) 39 (.tmp 2) rfl S 0 rfl (txC x h) _ (range_of V.out.x) Tryz.underlying39 rfl HI.out ?_)
      | (refine wpList_load_midG (by rfl) 39 (.tmp 3) rfl (S + 1) 0 rfl (txC y k) _ (range_of V.out.y) Tryz.underlying39 rfl HJ.out ?_)
      | (clear T1; go_at_call 10; refine (FX.out _ V.out).mono ?_; rintro e w' ⟨rfl, hb⟩; have V := Lib.hid (V.out.step hb); clear hb)
      | (go_at_call 10; refine (FY.out _ V.out).mono ?_; rintro e w' ⟨rfl, hb⟩; have V := Lib.hid (V.out.step hb); clear hb)
      | fail)
  go_upto_region 6 with (first
      | (refine wpList_load_midG (by rfl) 39 (.tmp 2) rfl S 0 rfl (txC x h) _ (range_of V.out.x) Tryz.underlying39 rfl HI.out ?_)
      | (go_at_call 11; refine (EX.out _ V.out).mono ?_; rintro e w' ⟨⟨A1, c1, rfl, hr⟩, hb⟩; have R1 := Lib.hid hr; have V := Lib.hid (V.out.step hb); clear hb hr)
      | fail)
  go_upto_region 7 with (first
      | (refine wpList_load_midG (by rfl) 39 (.tmp 3) rfl (S + 1) 0 rfl (txC y k) _ (range_of V.out.y) Tryz.underlying39 rfl HJ.out ?_)
      | (go_at_call 11; refine (EY.out _ V.out).mono ?_; rintro e w' ⟨rfl, hb⟩; have V := Lib.hid (V.out.step hb); replace R1 := Lib.hid (R1.out.keep hb); clear hb)
      | fail)
  have hz := z39
  go_upto_region 9 with (first
      | (go_at_call 17; refine (DX.out _ A1 c1 R1.out).mono ?_; rintro e w4 ⟨⟨h3, rfl, hm3⟩, hb⟩; have V := Lib.hid (V.out.step hb); replace R1 := Lib.hid (R1.out.keep hb); have M4 := Lib.hid hm3; have XA : Hid (BL (w4.alloc (Obj.cells (txC tx0 hd0).toArray 39)) w4.heap.size (txC tx0 hd0) 39) := Lib.hid (heap_alloc_last w4 _); clear hb hm3)
      | (refine wpList_store_rowTo rfl 39 (.tmp 9) (.tmp 36) rfl rfl w4.heap.size (txC x h3).toArray rfl rfl 39 (txC tx0 hd0).toArray XA.out (szA i39 (HXL.out h3)) (by rw [List.size_toArray, List.size_toArray, H0L.out, HXL.out h3]) (all_oneCell_toArray (X1.out h3)) ?_)
      | fail)
  have hb2 := below_setRow ((Below.refl _ w4).alloc (Nat.le_refl _) (Obj.cells (txC tx0 hd0).toArray 39)) (Nat.le_refl _) (txC x h3).toArray
  have V := Lib.hid (V.out.step hb2)
  replace R1 := Lib.hid (R1.out.keep hb2)
  replace M4 := Lib.hid (M4.out.keep hb2.block)
  have XN : Hid (BL ((w4.alloc (Obj.cells (txC tx0 hd0).toArray 39)).setRow w4.heap.size (txC x h3).toArray) w4.heap.size (txC x h3) 39) := Lib.hid (setRow_heap _ _ _ _ _ _ XA.out)
  clear hz hb2 XA H0L X1
  generalize w4.heap.size = N at *
  generalize ((w4.alloc (Obj.cells (txC tx0 hd0).toArray 39)).setRow N (txC x h3).toArray) = w5 at *
  have HI3 : Hid ((Tryz.prog.info? 39).map (·.size) = some (txC x h3).length) := szL i39 (HXL.out h3)
  go_upto_region 11 with (first
      | (refine wpList_load_midG (by rfl) 39 (.tmp 9) rfl N 0 rfl (txC x h3) _ (range_of XN.out) Tryz.underlying39 rfl HI3.out ?_)
      | (refine wpList_load_midG (by rfl) 39 (.tmp 2) rfl S 0 rfl (txC x h) _ (range_of V.out.x) Tryz.underlying39 rfl HI.out ?_)
      | (go_at_call 20; refine (SD.out _ h3 V.out M4.out).mono ?_; rintro e w6 ⟨rfl, hb⟩; have V := Lib.hid (V.out.step hb); replace R1 := Lib.hid (R1.out.keep hb); replace M4 := Lib.hid (M4.out.keep hb.block); replace XN := Lib.hid (bl_keep XN.out (hb.block N (bl_lt XN.out))); clear hb)
      | (go_at_call 21; refine (ST.out _ h3 V.out M4.out).mono ?_; rintro e w7 ⟨rfl, hb⟩; have V := Lib.hid (V.out.step hb); replace R1 := Lib.hid (R1.out.keep hb); clear hb M4 XN)
      | fail)
  go_wp2_with (first
      | (refine wpList_load_midG (by rfl) 39 (.tmp 2) rfl S 0 rfl (txC x h) _ (range_of V.out.x) Tryz.underlying39 rfl HI.out ?_)
      | (refine wpList_load_midG (by rfl) 39 (.tmp 3) rfl (S + 1) 0 rfl (txC y k) _ (range_of V.out.y) Tryz.underlying39 rfl HJ.out ?_)
      | (go_at_call 21; refine (SM.out _ V.out).mono ?_; rintro e w8 ⟨rfl, hb⟩; have V := Lib.hid (V.out.step hb); clear hb)
      | fail)
  go_ret
  exact ⟨rfl, by rw [HS.out]; exact V.out.bel⟩
set_option maxHeartbeats 8000000 in
theorem p5_11 (x : TxP) (h : TxH) (y : TxP) (k : TxH) (w : World) (hx : WfT x) (hy : WfT y) (mx : Mem w x h) (my : Mem w y k) (hk : Keys w) (e1 : fewB x = true) (e2 : fewB y = true) (e3 : mayT x = true) (e4 : mayT y = true) :
    Calls Tryz.prog 5 #[.agg (txC x h).toArray, .agg (txC y k).toArray] w fun e w' => e = .returned (.bool true) ∧ Below w.heap.size w w' := by
  obtain ⟨S, hS⟩ : ∃ S, w.heap.size = S := ⟨_, rfl⟩
  have HS := Lib.hid hS
  have CC0 := c5_of w x h y k hx hy mx my hk
  have V0 := v5_0 w x h y k
  rw [hS] at CC0 V0
  have AW := Lib.hid CC0.aw
  have FX := Lib.hid CC0.fx
  have FY := Lib.hid CC0.fy
  rw [e1] at FX
  rw [e2] at FY
  have V := Lib.hid V0
  have HI : Hid ((Tryz.prog.info? 39).map (·.size) = some (txC x h).length) := szL i39 (txC_len h hx)
  have HJ : Hid ((Tryz.prog.info? 39).map (·.size) = some (txC y k).length) := szL i39 (txC_len k hy)
  have T1 : Hid True := Lib.hid trivial
  have EX := Lib.hid (CC0.ex1 e3)
  have EY := Lib.hid (CC0.ey1 e4)
  have SM := Lib.hid CC0.sm
  have DX := Lib.hid (CC0.dx e3)
  have SD := Lib.hid (CC0.sd e3 e1)
  have ST := Lib.hid (CC0.st e3)
  have X1 : Hid (∀ h', ∀ v ∈ txC x h', v.oneCell' = true) := Lib.hid fun h' => txC_one x h'
  have HXL : Hid (∀ h', (txC x h').length = 170) := Lib.hid fun h' => txC_len h' hx
  have H0L : Hid ((txC tx0 hd0).length = 170) := Lib.hid (txC_len _ wf_tx0)
  obtain ⟨q, hq⟩ : ∃ q, decide (encT x = encT y) = q := ⟨_, rfl⟩
  have hs : sameT x y = q := by unfold sameT; rw [e3, e4, hq, Bool.true_and, Bool.true_and]
  have SE := Lib.hid (str_eq (byt_enc hx) (byt_enc hy))
  rw [hq] at SE
  rw [hs] at SM
  clear hq hs
  clear hx hy mx my hk CC0 V0 e1 e2 e3 e4
  go_enter Tryz.func5, Tryz.ntmps5
  go_upto_region 1 with (fail)
  generalize ((w.alloc (Obj.cells (txC x h).toArray 39)).alloc (Obj.cells (txC y k).toArray 39)) = v at *
  clear hS
  go_upto_region 5 with (first
      | (go_at_call 9; refine (AW.out _ V.out).mono ?_; rintro e w' ⟨rfl, hb⟩; have V := Lib.hid (V.out.step hb); clear hb)
      | (refine wpList_load_midG (by rfl) 39 (.tmp 2) rfl S 0 rfl (txC x h) _ (range_of V.out.x) Tryz.underlying39 rfl HI.out ?_)
      | (refine wpList_load_midG (by rfl) 39 (.tmp 3) rfl (S + 1) 0 rfl (txC y k) _ (range_of V.out.y) Tryz.underlying39 rfl HJ.out ?_)
      | (clear T1; go_at_call 10; refine (FX.out _ V.out).mono ?_; rintro e w' ⟨rfl, hb⟩; have V := Lib.hid (V.out.step hb); clear hb)
      | (go_at_call 10; refine (FY.out _ V.out).mono ?_; rintro e w' ⟨rfl, hb⟩; have V := Lib.hid (V.out.step hb); clear hb)
      | fail)
  go_upto_region 6 with (first
      | (refine wpList_load_midG (by rfl) 39 (.tmp 2) rfl S 0 rfl (txC x h) _ (range_of V.out.x) Tryz.underlying39 rfl HI.out ?_)
      | (go_at_call 11; refine (EX.out _ V.out).mono ?_; rintro e w' ⟨⟨A1, c1, rfl, hr⟩, hb⟩; have R1 := Lib.hid hr; have V := Lib.hid (V.out.step hb); clear hb hr)
      | fail)
  go_upto_region 7 with (first
      | (refine wpList_load_midG (by rfl) 39 (.tmp 3) rfl (S + 1) 0 rfl (txC y k) _ (range_of V.out.y) Tryz.underlying39 rfl HJ.out ?_)
      | (go_at_call 11; refine (EY.out _ V.out).mono ?_; rintro e w' ⟨⟨A2, c2, rfl, hr⟩, hb⟩; have R2 := Lib.hid hr; have V := Lib.hid (V.out.step hb); replace R1 := Lib.hid (R1.out.keep hb); clear hb hr)
      | fail)
  have hz := z39
  go_upto_region 9 with (first
      | (go_at_call 17; refine (DX.out _ A1 c1 R1.out).mono ?_; rintro e w4 ⟨⟨h3, rfl, hm3⟩, hb⟩; have V := Lib.hid (V.out.step hb); replace R1 := Lib.hid (R1.out.keep hb); replace R2 := Lib.hid (R2.out.keep hb); have M4 := Lib.hid hm3; have XA : Hid (BL (w4.alloc (Obj.cells (txC tx0 hd0).toArray 39)) w4.heap.size (txC tx0 hd0) 39) := Lib.hid (heap_alloc_last w4 _); clear hb hm3)
      | (refine wpList_store_rowTo rfl 39 (.tmp 9) (.tmp 36) rfl rfl w4.heap.size (txC x h3).toArray rfl rfl 39 (txC tx0 hd0).toArray XA.out (szA i39 (HXL.out h3)) (by rw [List.size_toArray, List.size_toArray, H0L.out, HXL.out h3]) (all_oneCell_toArray (X1.out h3)) ?_)
      | fail)
  have hb2 := below_setRow ((Below.refl _ w4).alloc (Nat.le_refl _) (Obj.cells (txC tx0 hd0).toArray 39)) (Nat.le_refl _) (txC x h3).toArray
  have V := Lib.hid (V.out.step hb2)
  replace R1 := Lib.hid (R1.out.keep hb2)
  replace R2 := Lib.hid (R2.out.keep hb2)
  replace M4 := Lib.hid (M4.out.keep hb2.block)
  have XN : Hid (BL ((w4.alloc (Obj.cells (txC tx0 hd0).toArray 39)).setRow w4.heap.size (txC x h3).toArray) w4.heap.size (txC x h3) 39) := Lib.hid (setRow_heap _ _ _ _ _ _ XA.out)
  clear hz hb2 XA H0L X1
  generalize w4.heap.size = N at *
  generalize ((w4.alloc (Obj.cells (txC tx0 hd0).toArray 39)).setRow N (txC x h3).toArray) = w5 at *
  have HI3 : Hid ((Tryz.prog.info? 39).map (·.size) = some (txC x h3).length) := szL i39 (HXL.out h3)
  go_upto_region 11 with (first
      | (refine wpList_load_midG (by rfl) 39 (.tmp 9) rfl N 0 rfl (txC x h3) _ (range_of XN.out) Tryz.underlying39 rfl HI3.out ?_)
      | (refine wpList_load_midG (by rfl) 39 (.tmp 2) rfl S 0 rfl (txC x h) _ (range_of V.out.x) Tryz.underlying39 rfl HI.out ?_)
      | (go_at_call 20; refine (SD.out _ h3 V.out M4.out).mono ?_; rintro e w6 ⟨rfl, hb⟩; have V := Lib.hid (V.out.step hb); replace R1 := Lib.hid (R1.out.keep hb); replace R2 := Lib.hid (R2.out.keep hb); replace M4 := Lib.hid (M4.out.keep hb.block); replace XN := Lib.hid (bl_keep XN.out (hb.block N (bl_lt XN.out))); clear hb)
      | (go_at_call 21; refine (ST.out _ h3 V.out M4.out).mono ?_; rintro e w7 ⟨rfl, hb⟩; have V := Lib.hid (V.out.step hb); replace R1 := Lib.hid (R1.out.keep hb); replace R2 := Lib.hid (R2.out.keep hb); clear hb M4 XN)
      | fail)
  obtain ⟨n1, hn1⟩ : ∃ n, (encT x).length = n := ⟨_, rfl⟩
  obtain ⟨n2, hn2⟩ : ∃ n, (encT y).length = n := ⟨_, rfl⟩
  rw [hn1, hn2]
  have N1 := Lib.hid hn1
  have N2 := Lib.hid hn2
  clear hn1 hn2
  have h3' := SE.out
  go_wp2_with (first
      | (refine wpList_load_midG (by rfl) 39 (.tmp 2) rfl S 0 rfl (txC x h) _ (range_of V.out.x) Tryz.underlying39 rfl HI.out ?_)
      | (refine wpList_load_midG (by rfl) 39 (.tmp 3) rfl (S + 1) 0 rfl (txC y k) _ (range_of V.out.y) Tryz.underlying39 rfl HJ.out ?_)
      | (go_at_call 21; refine (SM.out _ V.out).mono ?_; rintro e w8 ⟨rfl, hb⟩; have V := Lib.hid (V.out.step hb); have h1 := conv (w := w8) c1 N1.out (R1.out.keep hb).1; have h2 := conv (w := w8) c2 N2.out (R2.out.keep hb).1; clear hb)
      | fail)
  go_ret
  refine ⟨?_, by rw [HS.out]; exact V.out.bel⟩
  cases q <;> rfl
theorem q5 (x : TxP) (h : TxH) (y : TxP) (k : TxH) (w : World) (hx : WfT x) (hy : WfT y) (mx : Mem w x h) (my : Mem w y k) (hk : Keys w) :
    Calls Tryz.prog 5 #[.agg (txC x h).toArray, .agg (txC y k).toArray] w fun e w' => e = .returned (.bool true) ∧ Below w.heap.size w w' := by
  cases e1 : fewB x
  · exact n5_0 x h y k w hx hy mx my hk e1
  cases e2 : fewB y
  · exact n5_1 x h y k w hx hy mx my hk e1 e2
  cases e3 : mayT x <;> cases e4 : mayT y
  · exact p5_00 x h y k w hx hy mx my hk e1 e2 e3 e4
  · exact p5_01 x h y k w hx hy mx my hk e1 e2 e3 e4
  · exact p5_10 x h y k w hx hy mx my hk e1 e2 e3 e4
  · exact p5_11 x h y k w hx hy mx my hk e1 e2 e3 e4
end Go.Proofs.YtffaddefnpkcgaaGreatDoor
