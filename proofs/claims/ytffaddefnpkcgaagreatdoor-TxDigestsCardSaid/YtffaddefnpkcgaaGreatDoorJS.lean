/-
  TxKinds: a field of another kind.
-/
import Derived.Test.YtffaddefnpkcgaaGreatDoorJT40
import Derived.Test.YtffaddefnpkcgaaGreatDoorJR
namespace Go.Proofs.YtffaddefnpkcgaaGreatDoor
open Go.RowKit
set_option maxRecDepth 100000

def mixT (x y : TxP) : TxP := if y.kind = 1 then { x with height := y.height } else if y.kind = 2 then { x with ins := y.ins } else if y.kind = 3 then { x with par := y.par, keys := y.keys }
  else if y.kind = 4 then { x with cer := y.cer, couts := y.couts, csigs := y.csigs } else { x with cla := y.cla }
theorem mix_not {x y : TxP} (hy : mayT y = true) (hne : x.kind ≠ y.kind) : mayT (mixT x y) = false := by
  have hf : mFld y = true := by rw [may_zer, Bool.and_eq_true] at hy; exact hy.2
  rw [may_zer]
  rcases fld_kind hf with k | k | k | k | k <;> rw [k] at hne
  · have hh : y.height ≠ 0 := by
      unfold mFld mCbs at hf
      rw [if_pos k, Bool.and_eq_true, win_iff] at hf
      omega
    rw [show zerT (mixT x y) = false from ?_, Bool.false_and]
    unfold zerT zH mixT
    rw [if_pos k]
    rw [decide_eq_false (show ¬ x.kind = 1 from hne), decide_eq_false (show ¬ y.height = 0 from hh)]
    rfl
  · have hh : y.ins.length ≠ 0 := by
      unfold mFld mPay mIns mLis at hf
      rw [if_neg (by omega), if_pos k] at hf
      simp only [Bool.and_eq_true, win_iff] at hf
      omega
    rw [show zerT (mixT x y) = false from ?_, Bool.false_and]
    unfold zerT zI mixT
    rw [if_neg (by omega), if_pos k]
    rw [decide_eq_false (show ¬ x.kind = 2 from hne), decide_eq_false (show ¬ y.ins.length = 0 from hh)]
    simp
  · have hh : y.keys.length ≠ 0 := by
      unfold mFld mCre mayP mayK at hf
      rw [if_neg (by omega), if_neg (by omega), if_pos k] at hf
      simp only [Bool.and_eq_true, win_iff] at hf
      omega
    rw [show zerT (mixT x y) = false from ?_, Bool.false_and]
    unfold zerT zP mixT
    rw [if_neg (by omega), if_neg (by omega), if_pos k]
    rw [decide_eq_false (show ¬ x.kind = 3 from hne), decide_eq_false (show ¬ y.keys.length = 0 from hh)]
    simp
  · have hh : y.csigs.length ≠ 0 := by
      unfold mFld mCer mLis at hf
      rw [if_neg (by omega), if_neg (by omega), if_neg (by omega), if_pos k] at hf
      simp only [Bool.and_eq_true, win_iff] at hf
      omega
    rw [show zerT (mixT x y) = false from ?_, Bool.false_and]
    unfold zerT zC mixT
    rw [if_neg (by omega), if_neg (by omega), if_neg (by omega), if_pos k]
    rw [decide_eq_false (show ¬ x.kind = 4 from hne), decide_eq_false (show ¬ y.csigs.length = 0 from hh)]
    simp
  · have hh : y.cla ≠ zeros 140 := by
      intro h
      unfold mFld mCla mHave at hf
      rw [if_neg (by omega), if_neg (by omega), if_neg (by omega), if_neg (by omega), if_pos k, h] at hf
      simp only [Bool.and_eq_true] at hf
      have := hf.2.1.1
      rw [show seg (zeros 140) 2 8 = zeros 8 by decide] at this
      simp at this
    rw [show zerT (mixT x y) = false from ?_, Bool.false_and]
    unfold zerT zL mixT
    rw [if_neg (by omega), if_neg (by omega), if_neg (by omega), if_neg (by omega)]
    rw [decide_eq_false (show ¬ x.kind = 5 from hne), decide_eq_false (show ¬ y.cla = zeros 140 from hh)]
    simp
def mixH (y : TxP) (h k : TxH) : TxH := if y.kind = 1 then h else if y.kind = 2 then { h with i := k.i } else if y.kind = 3 then { h with k := k.k } else if y.kind = 4 then { h with co := k.co, cs := k.cs } else h
theorem mix_wf {x y : TxP} (hx : WfT x) (hy : WfT y) : WfT (mixT x y) := by
  unfold mixT
  split
  · exact { hx with height := hy.height }
  split
  · exact { hx with ins := hy.ins }
  split
  · exact { hx with par := hy.par, keys := hy.keys }
  split
  · exact { hx with cer := hy.cer, couts := hy.couts, csigs := hy.csigs }
  · exact { hx with cla := hy.cla }
theorem mix_mem {w : World} {x y : TxP} {h k : TxH} (hx : Mem w x h) (hy : Mem w y k) : Mem w (mixT x y) (mixH y h k) := by
  unfold mixT mixH
  split
  · exact ⟨hx.i, hx.o, hx.f, hx.k, hx.co, hx.cs, hx.ic, hx.oc, hx.fc, hx.kc, hx.coc, hx.csc⟩
  split
  · exact ⟨hy.i, hx.o, hx.f, hx.k, hx.co, hx.cs, hy.ic, hx.oc, hx.fc, hx.kc, hx.coc, hx.csc⟩
  split
  · exact ⟨hx.i, hx.o, hx.f, hy.k, hx.co, hx.cs, hx.ic, hx.oc, hx.fc, hy.kc, hx.coc, hx.csc⟩
  split
  · exact ⟨hx.i, hx.o, hx.f, hx.k, hy.co, hy.cs, hx.ic, hx.oc, hx.fc, hx.kc, hy.coc, hy.csc⟩
  · exact ⟨hx.i, hx.o, hx.f, hx.k, hx.co, hx.cs, hx.ic, hx.oc, hx.fc, hx.kc, hx.coc, hx.csc⟩
/-- where both lie -/
structure V7 (S : Nat) (w0 : World) (x : TxP) (h : TxH) (y : TxP) (k : TxH) (w : World) : Prop where
  bel : Below S w0 w
  x : BL w S (txC x h) 39
  y : BL w (S + 1) (txC y k) 39
  sz : S + 2 ≤ w.heap.size
theorem V7.step {S : Nat} {w0 : World} {x : TxP} {h : TxH} {y : TxP} {k : TxH} {w w' : World} (v : V7 S w0 x h y k w) (hb : Below w.heap.size w w') : V7 S w0 x h y k w' :=
  ⟨v.bel.trans (hb.mono (by have := v.sz; omega)), bl_keep v.x (hb.block S (by have := v.sz; omega)), bl_keep v.y (hb.block (S + 1) (by have := v.sz; omega)), Nat.le_trans v.sz hb.size⟩
/-- what the walks of TxKinds call -/
structure C7 (S : Nat) (w0 : World) (x : TxP) (h : TxH) (y : TxP) (k : TxH) (c1 c2 c3 c4 : Bool) : Prop where
  aw : ∀ w, V7 S w0 x h y k w → Calls Tryz.prog 9 #[] w fun e w' => e = .returned (.bool true) ∧ Below w.heap.size w w'
  fx : ∀ w, V7 S w0 x h y k w → Calls Tryz.prog 10 #[.agg (txC x h).toArray] w fun e w' => e = .returned (.bool c1) ∧ Below w.heap.size w w'
  fy : ∀ w, V7 S w0 x h y k w → Calls Tryz.prog 10 #[.agg (txC y k).toArray] w fun e w' => e = .returned (.bool c2) ∧ Below w.heap.size w w'
  mx : c1 = true → ∀ w, V7 S w0 x h y k w → Calls Tryz.prog 16 #[.agg (txC x h).toArray] w fun e w' => e = .returned (.bool c3) ∧ Below w.heap.size w w'
  my : c2 = true → ∀ w, V7 S w0 x h y k w → Calls Tryz.prog 16 #[.agg (txC y k).toArray] w fun e w' => e = .returned (.bool c4) ∧ Below w.heap.size w w'
theorem c7_of (w : World) (x : TxP) (h : TxH) (y : TxP) (k : TxH) (hx : WfT x) (hy : WfT y) (mx : Mem w x h) (my : Mem w y k) (hk : Keys w) : C7 w.heap.size w x h y k (fewB x) (fewB y) (mayT x) (mayT y) := by
  have h0 := keys_pos hk
  have KX : ∀ w', V7 w.heap.size w x h y k w' → Mem w' x h := fun w' v => mx.keep fun q hq => v.bel.block q hq
  have KY : ∀ w', V7 w.heap.size w x h y k w' → Mem w' y k := fun w' v => my.keep fun q hq => v.bel.block q hq
  exact ⟨fun w' v => tAwake w' (keys_below hk v.bel h0) (by have := v.sz; omega), fun w' v => tFew x h w' hx (KX w' v), fun w' v => tFew y k w' hy (KY w' v), fun c w' v => dMayTx x h w' hx (KX w' v) (few_t c), fun c w' v => dMayTx y k w' hy (KY w' v) (few_t c)⟩
theorem V7.kx {S : Nat} {w0 : World} {x : TxP} {h : TxH} {y : TxP} {k : TxH} {w : World} (v : V7 S w0 x h y k w) : w.cell? ⟨S, 0, none⟩ = some (.int .i64 x.kind) := range_cell (range_of v.x) (i := 0) rfl
theorem V7.ky {S : Nat} {w0 : World} {x : TxP} {h : TxH} {y : TxP} {k : TxH} {w : World} (v : V7 S w0 x h y k w) : w.cell? ⟨S + 1, 0, none⟩ = some (.int .i64 y.kind) := range_cell (range_of v.y) (i := 0) rfl
theorem v7_0 (w : World) (x : TxP) (h : TxH) (y : TxP) (k : TxH) : V7 w.heap.size w x h y k ((w.alloc (Obj.cells (txC x h).toArray 39)).alloc (Obj.cells (txC y k).toArray 39)) := by
  refine ⟨((Below.refl _ w).alloc (Nat.le_refl _) _).alloc (by simp) _, ?_, ?_, by simp⟩
  · exact bl_keep (heap_alloc_last w _) (Below.heap_alloc _ _ _ (by simp))
  · have := heap_alloc_last (w.alloc (Obj.cells (txC x h).toArray 39)) (Obj.cells (txC y k).toArray 39)
    rwa [World.size_alloc] at this
end Go.Proofs.YtffaddefnpkcgaaGreatDoor

namespace Go.Proofs.YtffaddefnpkcgaaGreatDoor
open Go.RowKit
set_option maxRecDepth 100000
attribute [local irreducible] txC
set_option maxHeartbeats 4000000 in
theorem n7_0 (x : TxP) (h : TxH) (y : TxP) (k : TxH) (w : World) (hx : WfT x) (hy : WfT y) (mx : Mem w x h) (my : Mem w y k) (hk : Keys w) (e1 : fewB x = false) :
    Calls Tryz.prog 7 #[.agg (txC x h).toArray, .agg (txC y k).toArray] w fun e w' => e = .returned (.bool true) ∧ Below w.heap.size w w' := by
  obtain ⟨S, hS⟩ : ∃ S, w.heap.size = S := ⟨_, rfl⟩
  have HS := Lib.hid hS
  have CC0 := c7_of w x h y k hx hy mx my hk
  have V0 := v7_0 w x h y k
  rw [hS] at CC0 V0
  rw [e1] at CC0
  have CC := Lib.hid CC0
  have V := Lib.hid V0
  have HI : Hid ((Tryz.prog.info? 39).map (·.size) = some (txC x h).length) := szL i39 (txC_len h hx)
  have HJ : Hid ((Tryz.prog.info? 39).map (·.size) = some (txC y k).length) := szL i39 (txC_len k hy)
  clear hx hy mx my hk CC0 V0
  have T1 := Lib.hid trivial
  have T2 := Lib.hid trivial
  have T3 := Lib.hid trivial
  have T4 := Lib.hid trivial
  go_enter Tryz.func7, Tryz.ntmps7
  go_upto_region 1 with (fail)
  generalize ((w.alloc (Obj.cells (txC x h).toArray 39)).alloc (Obj.cells (txC y k).toArray 39)) = v at *
  clear hS
  go_wp2_with (first
      | (refine wpList_load_midG (by rfl) 39 (.tmp 2) rfl S 0 rfl (txC x h) _ (range_of V.out.x) Tryz.underlying39 rfl HI.out ?_)
      | (refine wpList_load_midG (by rfl) 39 (.tmp 3) rfl (S + 1) 0 rfl (txC y k) _ (range_of V.out.y) Tryz.underlying39 rfl HJ.out ?_)
      | (go_at_call 9; refine (CC.out.aw _ V.out).mono ?_; rintro e w' ⟨rfl, hb⟩; have V := Lib.hid (V.out.step hb); clear hb)
      | (clear T1; go_at_call 10; refine (CC.out.fx _ V.out).mono ?_; rintro e w' ⟨rfl, hb⟩; have V := Lib.hid (V.out.step hb); clear hb)
      | fail)
  go_ret
  exact ⟨rfl, by rw [HS.out]; exact V.out.bel⟩

set_option maxHeartbeats 4000000 in
theorem n7_1 (x : TxP) (h : TxH) (y : TxP) (k : TxH) (w : World) (hx : WfT x) (hy : WfT y) (mx : Mem w x h) (my : Mem w y k) (hk : Keys w) (e1 : fewB x = true) (e2 : fewB y = false) :
    Calls Tryz.prog 7 #[.agg (txC x h).toArray, .agg (txC y k).toArray] w fun e w' => e = .returned (.bool true) ∧ Below w.heap.size w w' := by
  obtain ⟨S, hS⟩ : ∃ S, w.heap.size = S := ⟨_, rfl⟩
  have HS := Lib.hid hS
  have CC0 := c7_of w x h y k hx hy mx my hk
  have V0 := v7_0 w x h y k
  rw [hS] at CC0 V0
  rw [e1, e2] at CC0
  have CC := Lib.hid CC0
  have V := Lib.hid V0
  have HI : Hid ((Tryz.prog.info? 39).map (·.size) = some (txC x h).length) := szL i39 (txC_len h hx)
  have HJ : Hid ((Tryz.prog.info? 39).map (·.size) = some (txC y k).length) := szL i39 (txC_len k hy)
  clear hx hy mx my hk CC0 V0
  have T1 := Lib.hid trivial
  have T2 := Lib.hid trivial
  have T3 := Lib.hid trivial
  have T4 := Lib.hid trivial
  go_enter Tryz.func7, Tryz.ntmps7
  go_upto_region 1 with (fail)
  generalize ((w.alloc (Obj.cells (txC x h).toArray 39)).alloc (Obj.cells (txC y k).toArray 39)) = v at *
  clear hS
  go_wp2_with (first
      | (refine wpList_load_midG (by rfl) 39 (.tmp 2) rfl S 0 rfl (txC x h) _ (range_of V.out.x) Tryz.underlying39 rfl HI.out ?_)
      | (refine wpList_load_midG (by rfl) 39 (.tmp 3) rfl (S + 1) 0 rfl (txC y k) _ (range_of V.out.y) Tryz.underlying39 rfl HJ.out ?_)
      | (go_at_call 9; refine (CC.out.aw _ V.out).mono ?_; rintro e w' ⟨rfl, hb⟩; have V := Lib.hid (V.out.step hb); clear hb)
      | (clear T1; go_at_call 10; refine (CC.out.fx _ V.out).mono ?_; rintro e w' ⟨rfl, hb⟩; have V := Lib.hid (V.out.step hb); clear hb)
      | (clear T2; go_at_call 10; refine (CC.out.fy _ V.out).mono ?_; rintro e w' ⟨rfl, hb⟩; have V := Lib.hid (V.out.step hb); clear hb)
      | fail)
  go_ret
  exact ⟨rfl, by rw [HS.out]; exact V.out.bel⟩

set_option maxHeartbeats 4000000 in
theorem n7_2 (x : TxP) (h : TxH) (y : TxP) (k : TxH) (w : World) (hx : WfT x) (hy : WfT y) (mx : Mem w x h) (my : Mem w y k) (hk : Keys w) (e1 : fewB x = true) (e2 : fewB y = true) (e3 : mayT x = false) :
    Calls Tryz.prog 7 #[.agg (txC x h).toArray, .agg (txC y k).toArray] w fun e w' => e = .returned (.bool true) ∧ Below w.heap.size w w' := by
  obtain ⟨S, hS⟩ : ∃ S, w.heap.size = S := ⟨_, rfl⟩
  have HS := Lib.hid hS
  have CC0 := c7_of w x h y k hx hy mx my hk
  have V0 := v7_0 w x h y k
  rw [hS] at CC0 V0
  rw [e1, e2, e3] at CC0
  have CC := Lib.hid CC0
  have V := Lib.hid V0
  have HI : Hid ((Tryz.prog.info? 39).map (·.size) = some (txC x h).length) := szL i39 (txC_len h hx)
  have HJ : Hid ((Tryz.prog.info? 39).map (·.size) = some (txC y k).length) := szL i39 (txC_len k hy)
  clear hx hy mx my hk CC0 V0
  have T1 := Lib.hid trivial
  have T2 := Lib.hid trivial
  have T3 := Lib.hid trivial
  have T4 := Lib.hid trivial
  go_enter Tryz.func7, Tryz.ntmps7
  go_upto_region 1 with (fail)
  generalize ((w.alloc (Obj.cells (txC x h).toArray 39)).alloc (Obj.cells (txC y k).toArray 39)) = v at *
  clear hS
  go_wp2_with (first
      | (refine wpList_load_midG (by rfl) 39 (.tmp 2) rfl S 0 rfl (txC x h) _ (range_of V.out.x) Tryz.underlying39 rfl HI.out ?_)
      | (refine wpList_load_midG (by rfl) 39 (.tmp 3) rfl (S + 1) 0 rfl (txC y k) _ (range_of V.out.y) Tryz.underlying39 rfl HJ.out ?_)
      | (go_at_call 9; refine (CC.out.aw _ V.out).mono ?_; rintro e w' ⟨rfl, hb⟩; have V := Lib.hid (V.out.step hb); clear hb)
      | (clear T1; go_at_call 10; refine (CC.out.fx _ V.out).mono ?_; rintro e w' ⟨rfl, hb⟩; have V := Lib.hid (V.out.step hb); clear hb)
      | (clear T2; go_at_call 10; refine (CC.out.fy _ V.out).mono ?_; rintro e w' ⟨rfl, hb⟩; have V := Lib.hid (V.out.step hb); clear hb)
      | (clear T3; go_at_call 16; refine (CC.out.mx rfl _ V.out).mono ?_; rintro e w' ⟨rfl, hb⟩; have V := Lib.hid (V.out.step hb); clear hb)
      | fail)
  go_ret
  exact ⟨rfl, by rw [HS.out]; exact V.out.bel⟩

set_option maxHeartbeats 4000000 in
theorem n7_3 (x : TxP) (h : TxH) (y : TxP) (k : TxH) (w : World) (hx : WfT x) (hy : WfT y) (mx : Mem w x h) (my : Mem w y k) (hk : Keys w) (e1 : fewB x = true) (e2 : fewB y = true) (e3 : mayT x = true) (e4 : mayT y = false) :
    Calls Tryz.prog 7 #[.agg (txC x h).toArray, .agg (txC y k).toArray] w fun e w' => e = .returned (.bool true) ∧ Below w.heap.size w w' := by
  obtain ⟨S, hS⟩ : ∃ S, w.heap.size = S := ⟨_, rfl⟩
  have HS := Lib.hid hS
  have CC0 := c7_of w x h y k hx hy mx my hk
  have V0 := v7_0 w x h y k
  rw [hS] at CC0 V0
  rw [e1, e2, e3, e4] at CC0
  have CC := Lib.hid CC0
  have V := Lib.hid V0
  have HI : Hid ((Tryz.prog.info? 39).map (·.size) = some (txC x h).length) := szL i39 (txC_len h hx)
  have HJ : Hid ((Tryz.prog.info? 39).map (·.size) = some (txC y k).length) := szL i39 (txC_len k hy)
  clear hx hy mx my hk CC0 V0
  have T1 := Lib.hid trivial
  have T2 := Lib.hid trivial
  have T3 := Lib.hid trivial
  have T4 := Lib.hid trivial
  go_enter Tryz.func7, Tryz.ntmps7
  go_upto_region 1 with (fail)
  generalize ((w.alloc (Obj.cells (txC x h).toArray 39)).alloc (Obj.cells (txC y k).toArray 39)) = v at *
  clear hS
  go_wp2_with (first
      | (refine wpList_load_midG (by rfl) 39 (.tmp 2) rfl S 0 rfl (txC x h) _ (range_of V.out.x) Tryz.underlying39 rfl HI.out ?_)
      | (refine wpList_load_midG (by rfl) 39 (.tmp 3) rfl (S + 1) 0 rfl (txC y k) _ (range_of V.out.y) Tryz.underlying39 rfl HJ.out ?_)
      | (go_at_call 9; refine (CC.out.aw _ V.out).mono ?_; rintro e w' ⟨rfl, hb⟩; have V := Lib.hid (V.out.step hb); clear hb)
      | (clear T1; go_at_call 10; refine (CC.out.fx _ V.out).mono ?_; rintro e w' ⟨rfl, hb⟩; have V := Lib.hid (V.out.step hb); clear hb)
      | (clear T2; go_at_call 10; refine (CC.out.fy _ V.out).mono ?_; rintro e w' ⟨rfl, hb⟩; have V := Lib.hid (V.out.step hb); clear hb)
      | (clear T3; go_at_call 16; refine (CC.out.mx rfl _ V.out).mono ?_; rintro e w' ⟨rfl, hb⟩; have V := Lib.hid (V.out.step hb); clear hb)
      | (clear T4; go_at_call 16; refine (CC.out.my rfl _ V.out).mono ?_; rintro e w' ⟨rfl, hb⟩; have V := Lib.hid (V.out.step hb); clear hb)
      | fail)
  go_ret
  exact ⟨rfl, by rw [HS.out]; exact V.out.bel⟩

set_option maxHeartbeats 4000000 in
theorem n7_4 (x : TxP) (h : TxH) (y : TxP) (k : TxH) (w : World) (hx : WfT x) (hy : WfT y) (mx : Mem w x h) (my : Mem w y k) (hk : Keys w) (e1 : fewB x = true) (e2 : fewB y = true) (e3 : mayT x = true) (e4 : mayT y = true) (e5 : x.kind = y.kind) :
    Calls Tryz.prog 7 #[.agg (txC x h).toArray, .agg (txC y k).toArray] w fun e w' => e = .returned (.bool true) ∧ Below w.heap.size w w' := by
  obtain ⟨S, hS⟩ : ∃ S, w.heap.size = S := ⟨_, rfl⟩
  have HS := Lib.hid hS
  have CC0 := c7_of w x h y k hx hy mx my hk
  have V0 := v7_0 w x h y k
  rw [hS] at CC0 V0
  rw [e1, e2, e3, e4] at CC0
  have CC := Lib.hid CC0
  have V := Lib.hid V0
  have HI : Hid ((Tryz.prog.info? 39).map (·.size) = some (txC x h).length) := szL i39 (txC_len h hx)
  have HJ : Hid ((Tryz.prog.info? 39).map (·.size) = some (txC y k).length) := szL i39 (txC_len k hy)
  have E5 := Lib.hid e5
  clear hx hy mx my hk CC0 V0 e5
  have T1 := Lib.hid trivial
  have T2 := Lib.hid trivial
  have T3 := Lib.hid trivial
  have T4 := Lib.hid trivial
  go_enter Tryz.func7, Tryz.ntmps7
  go_upto_region 1 with (fail)
  generalize ((w.alloc (Obj.cells (txC x h).toArray 39)).alloc (Obj.cells (txC y k).toArray 39)) = v at *
  clear hS
  have KV : Hid (∀ w', V7 S w x h y k w' → w'.cell? ⟨S, 0, none⟩ = some (.int .i64 x.kind) ∧ w'.cell? ⟨S + 1, 0, none⟩ = some (.int .i64 x.kind)) := fun w' v => ⟨v.kx, by rw [E5.out]; exact v.ky⟩
  go_wp2_with (first
      | (refine wpList_load_midG (by rfl) 39 (.tmp 2) rfl S 0 rfl (txC x h) _ (range_of V.out.x) Tryz.underlying39 rfl HI.out ?_)
      | (refine wpList_load_midG (by rfl) 39 (.tmp 3) rfl (S + 1) 0 rfl (txC y k) _ (range_of V.out.y) Tryz.underlying39 rfl HJ.out ?_)
      | (go_at_call 9; refine (CC.out.aw _ V.out).mono ?_; rintro e w' ⟨rfl, hb⟩; have V := Lib.hid (V.out.step hb); clear hb)
      | (clear T1; go_at_call 10; refine (CC.out.fx _ V.out).mono ?_; rintro e w' ⟨rfl, hb⟩; have V := Lib.hid (V.out.step hb); clear hb)
      | (clear T2; go_at_call 10; refine (CC.out.fy _ V.out).mono ?_; rintro e w' ⟨rfl, hb⟩; have V := Lib.hid (V.out.step hb); clear hb)
      | (clear T3; go_at_call 16; refine (CC.out.mx rfl _ V.out).mono ?_; rintro e w' ⟨rfl, hb⟩; have V := Lib.hid (V.out.step hb); clear hb)
      | (clear T4; go_at_call 16; refine (CC.out.my rfl _ V.out).mono ?_; rintro e w' ⟨rfl, hb⟩; have V := Lib.hid (V.out.step hb); have k1 := (KV.out _ V.out).1; have k2 := (KV.out _ V.out).2; clear hb)
      | fail)
  go_ret
  exact ⟨rfl, by rw [HS.out]; exact V.out.bel⟩
end Go.Proofs.YtffaddefnpkcgaaGreatDoor

namespace Go.Proofs.YtffaddefnpkcgaaGreatDoor
open Go.RowKit
set_option maxRecDepth 100000

theorem mid_set {A P P' R : List Value} {o n : Nat} (hA : A.length = o) (hP : P.length = n) : (A ++ (P ++ R)).take o ++ (P' ++ (A ++ (P ++ R)).drop (o + n)) = A ++ (P' ++ R) := by
  subst hA hP
  rw [List.take_left, ← List.append_assoc A P R, ← List.length_append, List.drop_left]
theorem z1 {w : World} {N : Nat} {x y : TxP} {h k : TxH} (b : BL w N (txC x h) 39) (e : y.kind = 1) : BL (w.setCell ⟨N, 1, none⟩ (.int .i64 y.height)) N (txC (mixT x y) (mixH y h k)) 39 := by
  unfold mixT mixH
  rw [if_pos e, if_pos e]
  exact bl_set b 1 _
theorem z2 {w : World} {N : Nat} {x y : TxP} {h k : TxH} (b : BL w N (txC x h) 39) (e : y.kind = 2) : BL (w.setCell ⟨N, 2, none⟩ (.slice k.i.A y.ins.length k.i.c)) N (txC (mixT x y) (mixH y h k)) 39 := by
  unfold mixT mixH
  rw [if_neg (by omega), if_pos e, if_neg (by omega), if_pos e]
  exact bl_set b 2 _
theorem z3 {w : World} {N : Nat} {x y : TxP} {h k : TxH} (hx : WfT x) (hy : WfT y) (b : BL w N (txC x h) 39) (e : y.kind = 3) : BL (w.setCells N 5 (parC y k)) N (txC (mixT x y) (mixH y h k)) 39 := by
  have := bl_sets (parC y k) 5 b (by rw [parC_len k hy, txC_len h hx] <;> omega)
  unfold mixT mixH
  rw [if_neg (by omega), if_neg (by omega), if_pos e, if_neg (by omega), if_neg (by omega), if_pos e]
  rw [parC_len k hy] at this
  refine Eq.trans this ?_
  have e2 := mid_set (A := [Value.int .i64 x.kind, .int .i64 x.height, h.i.v x.ins.length, h.o.v x.outs.length, h.f.v x.fwds.length]) (P := parC x h) (P' := parC y k) (R := cerC x h ++ claC x) rfl (parC_len h hx)
  exact congrArg (fun l : List Value => some (Obj.cells l.toArray 39 (0, 0))) e2
theorem z4 {w : World} {N : Nat} {x y : TxP} {h k : TxH} (hx : WfT x) (hy : WfT y) (b : BL w N (txC x h) 39) (e : y.kind = 4) : BL (w.setCells N 9 (cerC y k)) N (txC (mixT x y) (mixH y h k)) 39 := by
  have := bl_sets (cerC y k) 9 b (by rw [cerC_len k hy, txC_len h hx] <;> omega)
  unfold mixT mixH
  rw [if_neg (by omega), if_neg (by omega), if_neg (by omega), if_pos e, if_neg (by omega), if_neg (by omega), if_neg (by omega), if_pos e]
  rw [cerC_len k hy] at this
  refine Eq.trans this ?_
  have e2 := mid_set (A := [Value.int .i64 x.kind, .int .i64 x.height, h.i.v x.ins.length, h.o.v x.outs.length, h.f.v x.fwds.length] ++ parC x h) (P := cerC x h) (P' := cerC y k) (R := claC x) (by rw [List.length_append, parC_len h hx]) (cerC_len h hx)
  rw [List.append_assoc, List.append_assoc] at e2
  exact congrArg (fun l : List Value => some (Obj.cells l.toArray 39 (0, 0))) e2
theorem z5 {w : World} {N : Nat} {x y : TxP} {h k : TxH} (hx : WfT x) (hy : WfT y) (b : BL w N (txC x h) 39) (e : y.kind = 5) : BL (w.setCells N 30 (claC y)) N (txC (mixT x y) (mixH y h k)) 39 := by
  have := bl_sets (claC y) 30 b (by rw [claC_len hy, txC_len h hx] <;> omega)
  unfold mixT mixH
  rw [if_neg (by omega), if_neg (by omega), if_neg (by omega), if_neg (by omega), if_neg (by omega), if_neg (by omega), if_neg (by omega), if_neg (by omega)]
  rw [claC_len hy] at this
  refine Eq.trans this ?_
  have e2 := mid_set (A := ([Value.int .i64 x.kind, .int .i64 x.height, h.i.v x.ins.length, h.o.v x.outs.length, h.f.v x.fwds.length] ++ parC x h) ++ cerC x h) (P := claC x) (P' := claC y) (R := []) (by rw [List.length_append, List.length_append, parC_len h hx, cerC_len h hx]) (claC_len hx)
  rw [List.append_nil, List.append_nil, List.append_assoc, List.append_assoc, List.append_assoc, List.append_assoc] at e2
  exact congrArg (fun l : List Value => some (Obj.cells l.toArray 39 (0, 0))) e2
theorem V7.set {S : Nat} {w0 : World} {x : TxP} {h : TxH} {y : TxP} {k : TxH} {w : World} (v : V7 S w0 x h y k w) {N : Nat} (hN : S + 2 ≤ N) (i : Nat) (u : Value) : V7 S w0 x h y k (w.setCell ⟨N, i, none⟩ u) :=
  ⟨v.bel.setCell (show S ≤ N by omega) u, bl_keep v.x (heap_setCell_other _ _ _ _ (show S ≠ N by omega)), bl_keep v.y (heap_setCell_other _ _ _ _ (show S + 1 ≠ N by omega)), by simpa [World.setCell] using v.sz⟩
theorem V7.sets {S : Nat} {w0 : World} {x : TxP} {h : TxH} {y : TxP} {k : TxH} {w : World} (v : V7 S w0 x h y k w) {N : Nat} (hN : S + 2 ≤ N) (i : Nat) (us : List Value) : V7 S w0 x h y k (w.setCells N i us) :=
  ⟨below_sets us i v.bel (by omega), bl_keep v.x (heap_sets us w i S (by omega)), bl_keep v.y (heap_sets us w i (S + 1) (by omega)), Nat.le_trans v.sz (below_sets (B := 0) us i (Below.refl 0 w) (Nat.zero_le _)).size⟩
/-- .. and the third -/
structure V8 (S : Nat) (w0 : World) (x : TxP) (h : TxH) (y : TxP) (k : TxH) (N : Nat) (z : TxP) (l : TxH) (w : World) : Prop where
  v : V7 S w0 x h y k w
  z : BL w N (txC z l) 39
  lt : N < w.heap.size
theorem V8.step {S : Nat} {w0 : World} {x : TxP} {h : TxH} {y : TxP} {k : TxH} {N : Nat} {z : TxP} {l : TxH} {w w' : World} (v : V8 S w0 x h y k N z l w) (hb : Below w.heap.size w w') : V8 S w0 x h y k N z l w' :=
  ⟨v.v.step hb, bl_keep v.z (hb.block N v.lt), Nat.lt_of_lt_of_le v.lt hb.size⟩
structure D8 (S : Nat) (w0 : World) (x : TxP) (h : TxH) (y : TxP) (k : TxH) (N : Nat) (z : TxP) (l : TxH) (d : List Int) : Prop where
  en : ∀ w, V8 S w0 x h y k N z l w → Calls Tryz.prog 11 #[.agg (txC z l).toArray] w fun e w' => e = .returned (.tuple #[.slice none 0 0, .int .i64 1]) ∧ Below w.heap.size w w'
  id : ∀ w, V8 S w0 x h y k N z l w → Calls Tryz.prog 13 #[.agg (txC z l).toArray] w fun e w' => e = .returned (.tuple #[.agg (bvals d).toArray, .bool false]) ∧ Below w.heap.size w w'
  mx : ∀ w, V8 S w0 x h y k N z l w → Calls Tryz.prog 15 #[.agg (txC x h).toArray] w fun e w' => e = .returned (.bool true) ∧ Below w.heap.size w w'
  my : ∀ w, V8 S w0 x h y k N z l w → Calls Tryz.prog 15 #[.agg (txC y k).toArray] w fun e w' => e = .returned (.bool true) ∧ Below w.heap.size w w'
  mz : ∀ w, V8 S w0 x h y k N z l w → Calls Tryz.prog 15 #[.agg (txC z l).toArray] w fun e w' => e = .returned (.bool false) ∧ Below w.heap.size w w'
  sm : ∀ w, V8 S w0 x h y k N z l w → Calls Tryz.prog 21 #[.agg (txC z l).toArray, .agg (txC z l).toArray] w fun e w' => e = .returned (.bool false) ∧ Below w.heap.size w w'
theorem d8_of (w : World) (x : TxP) (h : TxH) (y : TxP) (k : TxH) (N : Nat) (hx : WfT x) (hy : WfT y) (mx : Mem w x h) (my : Mem w y k) (hk : Keys w) (e3 : mayT x = true) (e4 : mayT y = true) (hne : x.kind ≠ y.kind) :
    D8 w.heap.size w x h y k N (mixT x y) (mixH y h k) (DigP (mixT x y) (hash1 120)) := by
  have h0 := keys_pos hk
  have hz := mix_wf hx hy
  have hm := mix_not (x := x) e4 hne
  have KX : ∀ w', V8 w.heap.size w x h y k N (mixT x y) (mixH y h k) w' → Mem w' x h := fun w' v => mx.keep fun q hq => v.v.bel.block q hq
  have KY : ∀ w', V8 w.heap.size w x h y k N (mixT x y) (mixH y h k) w' → Mem w' y k := fun w' v => my.keep fun q hq => v.v.bel.block q hq
  have KZ : ∀ w', V8 w.heap.size w x h y k N (mixT x y) (mixH y h k) w' → Mem w' (mixT x y) (mixH y h k) := fun w' v => mix_mem (KX w' v) (KY w' v)
  refine ⟨fun w' v => tEncN _ _ w' hz (KZ w' v) hm, fun w' v => ?_, fun w' v => ?_, fun w' v => ?_, fun w' v => ?_, fun w' v => ?_⟩
  · have := tID _ _ w' hz (KZ w' v) (keys_below hk v.v.bel h0) (by have := v.lt; omega)
    rwa [hm] at this
  · have := tMay x h w' hx (KX w' v)
    rwa [e3] at this
  · have := tMay y k w' hy (KY w' v)
    rwa [e4] at this
  · have := tMay _ _ w' hz (KZ w' v)
    rwa [hm] at this
  · have := tSame _ _ _ _ w' hz hz (KZ w' v) (KZ w' v)
    rwa [show sameT (mixT x y) (mixT x y) = false by unfold sameT; rw [hm]; rfl] at this
theorem V7.new {S : Nat} {w0 : World} {x : TxP} {h : TxH} {y : TxP} {k : TxH} {w : World} (v : V7 S w0 x h y k w) {N : Nat} (hN : w.heap.size = N) : V7 S w0 x h y k ((w.alloc (Obj.cells (txC tx0 hd0).toArray 39)).setRow N (txC x h).toArray) ∧ BL ((w.alloc (Obj.cells (txC tx0 hd0).toArray 39)).setRow N (txC x h).toArray) N (txC x h) 39 ∧ S + 2 ≤ N := by
  subst hN
  exact ⟨v.step (below_setRow ((Below.refl _ w).alloc (Nat.le_refl _) _) (Nat.le_refl _) _), setRow_heap _ _ _ _ _ _ (heap_alloc_last w _), v.sz⟩
end Go.Proofs.YtffaddefnpkcgaaGreatDoor
