/-
  Guarded operations of a region that draws its order, by an open guard; S may be made stronger on the way.
-/
import Derived.Test.YtffaddefnpkcgaaDoorJB
import Derived.Deep.RegionHeld3
import Derived.Deep.DrawnRows
import Derived.Test.YtffaddefnpkcgaaDoorJF
import Derived.Deep.DeepCutAuto
namespace Go.Proofs.YtffaddefnpkcgaaDoor
open Go.RowKit

theorem want_of {o : Oper} {ops : Array Oper} {tmps : Array Value} {i : Nat} {b g : Bool} (ho : o.guard = some (i, b)) (hy : yielded ops tmps i = some g) : Region.wanted o (yielded ops tmps) = (g == b) := by
  simp only [Region.wanted, ho, hy]
  cases g <;> cases b <;> rfl
theorem want_t {o : Oper} {ops : Array Oper} {tmps : Array Value} {i : Nat} {g : Bool} (ho : o.guard = some (i, true)) (hy : yielded ops tmps i = some g) : Region.wanted o (yielded ops tmps) = g := by
  rw [want_of ho hy]; cases g <;> rfl
theorem yif_g {P : Program} {ops : Array Oper} {S : World → Prop} {o : Oper} {v : Value} {a : Act} {g : Bool} (hw : Region.wanted o (yielded ops a.tmps) = g) (h : g = true → ∀ w, S w → (execOp a.eval o).run P w = .ok (.value v) w) : YieldsIf P ops S o (if g = true then v else undef) a := by
  cases g
  · exact .inr ⟨hw, rfl⟩
  · exact .inl ⟨hw, fun w hs => h rfl w hs⟩
theorem yif_t {P : Program} {ops : Array Oper} {S : World → Prop} {o : Oper} {v : Value} {a : Act} (hw : Region.wanted o (yielded ops a.tmps) = true) (h : ∀ w, S w → (execOp a.eval o).run P w = .ok (.value v) w) : YieldsIf P ops S o v a := .inl ⟨hw, h⟩
/-- a call that may be guarded: whether it is made or not the region goes on from whatever world it may leave -/
theorem step_callG {P : Program} {ops : Array Oper} {o : Oper} {a : Act} {w : World} {K : Act → World → Prop} {Q : Exit → Act → World → Prop} {g : Bool} {F : Nat} {args : Array Value} {v : Value} {R : World → Prop} (hw : Region.wanted o (yielded ops a.tmps) = g)
    (hrun : g = true → (execOp a.eval o).run P w = .ok (.enter F args) w) (hc : g = true → Calls P F args w fun e w' => e = .returned v ∧ R w') (h0 : g = false → R w)
    (hK : ∀ w', R w' → K (a.put o.dst (if g = true then v else undef)) w') : if Region.wanted o (yielded ops a.tmps) = true then Oper.wp P o a w K Q else K (a.put o.dst undef) w := by
  cases g
  · rw [if_neg (by rw [hw]; decide)]
    exact hK w (h0 rfl)
  · rw [if_pos hw]
    unfold Oper.wp
    rw [hrun rfl]
    refine (hc rfl).mono ?_
    rintro e w' ⟨rfl, hr⟩
    exact hK w' hr
theorem wpAnyH_mono {P : Program} {md : Region.Mode} {ops : Array Oper} {Q : Exit → Act → World → Prop} {S T : World → Prop} (h : ∀ w, T w → S w) : ∀ (fuel : Nat) (listed : Array Bool) (a : Act) (w : World), wpAnyH P md ops Q T fuel listed a w → wpAnyH P md ops Q S fuel listed a w
  | 0, _, _, _, g => g
  | fuel + 1, _, _, _, g => ⟨g.1, fun i hi => wpOp_mono (fun _ _ h' => ⟨h _ h'.1, wpAnyH_mono h fuel _ _ _ h'.2⟩) (g.2 i hi)⟩
/-- a plain region: an operation that may be guarded by an open guard -/
theorem wpList_g {P : Program} {ops : Array Oper} {rest : List Oper} {o : Oper} {a : Act} {w : World} {Q : Exit → Act → World → Prop} {g : Bool} {v : Value} (hw : Region.wanted o (yielded ops a.tmps) = g) (hr : g = true → (execOp a.eval o).run P w = .ok (.value v) w)
    (hK : wpList P ops Q rest (a.put o.dst (if g = true then v else undef)) w) : wpList P ops Q (o :: rest) a w := by
  unfold wpList
  cases g
  · rw [if_neg (by rw [hw]; decide)]
    exact hK
  · rw [if_pos hw]
    refine .inl ?_
    unfold Oper.wp
    rw [hr rfl]
    exact hK
theorem wpList_t {P : Program} {ops : Array Oper} {rest : List Oper} {o : Oper} {a : Act} {w : World} {Q : Exit → Act → World → Prop} {v : Value} (hw : Region.wanted o (yielded ops a.tmps) = true) (hr : (execOp a.eval o).run P w = .ok (.value v) w)
    (hK : wpList P ops Q rest (a.put o.dst v) w) : wpList P ops Q (o :: rest) a w := by
  unfold wpList
  rw [if_pos hw]
  refine .inl ?_
  unfold Oper.wp
  rw [hr]
  exact hK
theorem wpList_callG {P : Program} {ops : Array Oper} {rest : List Oper} {o : Oper} {a : Act} {w : World} {Q : Exit → Act → World → Prop} {g : Bool} {F : Nat} {args : Array Value} {v : Value} {R : World → Prop} (hw : Region.wanted o (yielded ops a.tmps) = g)
    (hrun : g = true → (execOp a.eval o).run P w = .ok (.enter F args) w) (hc : g = true → Calls P F args w fun e w' => e = .returned v ∧ R w') (h0 : g = false → R w)
    (hK : ∀ w', R w' → wpList P ops Q rest (a.put o.dst (if g = true then v else undef)) w') : wpList P ops Q (o :: rest) a w := by
  unfold wpList
  cases g
  · rw [if_neg (by rw [hw]; decide)]
    exact hK w (h0 rfl)
  · rw [if_pos hw]
    refine .inl ?_
    unfold Oper.wp
    rw [hrun rfl]
    refine (hc rfl).mono ?_
    rintro e w' ⟨rfl, hr⟩
    exact hK w' hr
end Go.Proofs.YtffaddefnpkcgaaDoor

namespace Go.Proofs.YtffaddefnpkcgaaDoor
open Go.RowKit
set_option maxRecDepth 100000

theorem step_al {w : World} {ops : Array Oper} {o : Oper} {a : Act} {K : Act → World → Prop} {Q : Exit → Act → World → Prop} {E : Prop} (hgd : o.guard = none) (T : TypeId) (z : Array Value) (ho : o.op = .alloc T) (hz : ∀ w, (zeroValue T).run Tryd.prog w = .ok (.agg z) w)
    (h : K (a.put o.dst (.pointer (some ⟨w.heap.size, 0, none⟩))) (w.alloc (Obj.cells z T))) : if Region.wanted o (yielded ops a.tmps) = true then Oper.wp Tryd.prog o a w K Q else E := by
  have hw : Region.wanted o (yielded ops a.tmps) = true := by simp [Region.wanted, hgd]
  rw [if_pos hw]
  unfold Oper.wp execOp
  simp [ho, go_sem, hz]
  exact h
theorem step_st {w : World} {ops : Array Oper} {o : Oper} {a : Act} {K : Act → World → Prop} {Q : Exit → Act → World → Prop} {E : Prop} (hgd : o.guard = none) (ty : TypeId) (x y : Operand) (ho : o.op = .store ty x y)
    (b : Nat) (old cs : List Value) (hx : a.eval x = .pointer (some ⟨b, 0, none⟩)) (hy : a.eval y = .agg cs.toArray) (hb : BL w b old ty) (hl : old.length = cs.length) (hi : (Tryd.prog.info? ty).map (·.size) = some cs.length) (h1 : ∀ v ∈ cs, v.oneCell' = true)
    (h : ∀ w', BL w' b cs ty → (∀ k, k ≠ b → w'.heap[k]? = w.heap[k]?) → (∀ B w0, Below B w0 w → B ≤ b → Below B w0 w') → K (a.put o.dst undef) w') : if Region.wanted o (yielded ops a.tmps) = true then Oper.wp Tryd.prog o a w K Q else E := by
  have hw : Region.wanted o (yielded ops a.tmps) = true := by simp [Region.wanted, hgd]
  rw [if_pos hw]
  refine wp_store_mid ty x y ho b 0 cs.toArray hx hy (by rw [List.size_toArray]; exact bl_there hb (by omega)) (by rw [List.size_toArray]; exact hi) (all_oneCell_toArray h1) ?_
  rw [List.toList_toArray]
  refine h _ ?_ (fun k hk => heap_sets cs w 0 k hk) fun B w0 hB hb => below_sets cs 0 hB hb
  have := bl_sets cs 0 hb (by omega)
  rw [List.take_zero, List.nil_append, List.drop_of_length_le (by omega), List.append_nil] at this
  exact this
theorem z27p (w : World) : (zeroValue 27).run Tryd.prog w = .ok (.agg (parC tx0 hd0).toArray) w := by kernel_rfl
theorem z32c (w : World) : (zeroValue 32).run Tryd.prog w = .ok (.agg (cerC tx0 hd0).toArray) w := by kernel_rfl
theorem par_zero {t : TxP} (h : t.par.length = 3) : decide (t.par = zeros 3) = (decide (cel t.par 0 = 0) && (decide (cel t.par 1 = 0) && decide (cel t.par 2 = 0))) := by
  rw [Bool.eq_iff_iff]
  simp only [Bool.and_eq_true, decide_eq_true_eq]
  rw [cel_ext (a := t.par) (b := zeros 3) (by rw [h]; rfl), h]
  constructor
  · intro g
    exact ⟨g 0 (by omega), g 1 (by omega), g 2 (by omega)⟩
  · rintro ⟨h0, h1, h2⟩ i hi
    match i, hi with
    | 0, _ => exact h0
    | 1, _ => exact h1
    | 2, _ => exact h2
theorem cel_zeros {n i : Nat} (h : i < n) : cel (zeros n) i = 0 := by simp [cel, zeros, List.getD, h]
theorem cer_zero {t : TxP} (h : t.cer.length = 19) : decide (t.cer = zeros 19) = (decide (cel t.cer 0 = 0) && (decide (cel t.cer 1 = 0) && (decide (cel t.cer 2 = 0) && (decide (seg t.cer 3 8 = zeros 8) && decide (seg t.cer 11 8 = zeros 8))))) := by
  rw [Bool.eq_iff_iff]
  simp only [Bool.and_eq_true, decide_eq_true_eq]
  have e8 : ∀ i, i + 8 ≤ 19 → (seg t.cer i 8 = zeros 8 ↔ ∀ j, j < 8 → cel t.cer (i + j) = 0) := fun i hi => by
    rw [cel_ext (by rw [seg_len (by omega), zeros_len]), seg_len (by omega)]
    constructor
    · intro g j hj
      have := g j hj
      rwa [cel_seg hj, cel_zeros hj] at this
    · intro g j hj
      rw [cel_seg hj, cel_zeros hj]
      exact g j hj
  rw [cel_ext (a := t.cer) (b := zeros 19) (by rw [h, zeros_len]), h, e8 3 (by omega), e8 11 (by omega)]
  constructor
  · intro g
    have g' : ∀ i, i < 19 → cel t.cer i = 0 := fun i hi => (g i hi).trans (cel_zeros hi)
    exact ⟨g' 0 (by omega), g' 1 (by omega), g' 2 (by omega), fun j hj => g' _ (by omega), fun j hj => g' _ (by omega)⟩
  · rintro ⟨h0, h1, h2, h3, h4⟩ i hi
    rw [cel_zeros hi]
    by_cases e0 : i = 0
    · subst e0; exact h0
    by_cases e1 : i = 1
    · subst e1; exact h1
    by_cases e2 : i = 2
    · subst e2; exact h2
    by_cases e3 : i < 11
    · have := h3 (i - 3) (by omega)
      rwa [show 3 + (i - 3) = i by omega] at this
    · have := h4 (i - 11) (by omega)
      rwa [show 11 + (i - 11) = i by omega] at this
theorem range8 {w : World} {b o : Nat} {x0 x1 x2 x3 x4 x5 x6 x7 : Int} (h : w.rangeAt b o (bvals [x0, x1, x2, x3, x4, x5, x6, x7])) :
    w.cell? ⟨b, o, none⟩ = some (.int .u8 x0) ∧ w.cell? ⟨b, o + 1, none⟩ = some (.int .u8 x1) ∧ w.cell? ⟨b, o + 2, none⟩ = some (.int .u8 x2) ∧ w.cell? ⟨b, o + 3, none⟩ = some (.int .u8 x3) ∧ w.cell? ⟨b, o + 4, none⟩ = some (.int .u8 x4) ∧ w.cell? ⟨b, o + 5, none⟩ = some (.int .u8 x5) ∧ w.cell? ⟨b, o + 6, none⟩ = some (.int .u8 x6) ∧ w.cell? ⟨b, o + 7, none⟩ = some (.int .u8 x7) :=
  ⟨h 0 _ rfl, h 1 _ rfl, h 2 _ rfl, h 3 _ rfl, h 4 _ rfl, h 5 _ rfl, h 6 _ rfl, h 7 _ rfl⟩
theorem eq_claB (t : TxP) (h : t.cla.length = 140) (w : World) : (Op.equalIn 10000 37 (.agg (claC t).toArray) (.agg (claC tx0).toArray)).run Tryd.prog w = .ok (zL t) w := eq_cla t.cla (zeros 140) h (zeros_len 140) w
attribute [local irreducible] ua da ba kk sw S8.run rt hs comp splice outB sha msg zeros win bvals vals parC cerC claC txC cel seg zL

end Go.Proofs.YtffaddefnpkcgaaDoor
