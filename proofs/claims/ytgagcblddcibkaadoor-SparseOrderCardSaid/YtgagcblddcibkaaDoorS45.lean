/-
  Cuts of the deeds that came in; deeds appended.
-/
import Derived.Test.YtgagcblddcibkaaDoorS44
import Derived.Deep.Upon
namespace Go.Proofs.YtgagcblddcibkaaDoor
open Go.RowKit
open Go.Maps
theorem sl_back9 (A : Option Addr) (n cap k : Nat) (w : World) (hk : k ≤ n) : (Instr.slice 22 (.slice A n cap) (some (.int .i64 k)) none none).run Tryd.prog w = .ok (.slice (if cap = k then A else A.map (·.add (k * 9))) (n - k) (cap - k)) w := by
  rw [run_slice_l w 22 _ n cap Tryd.underlying22 .i64 k (by omega) (by omega)]
  have hs : (sizeOf (Tryd.prog.elem 22)).run Tryd.prog w = .ok 9 w := Tryd.sizeOf45 w
  rw [hs]
  simp only [Result.andThen, sliced, Int.toNat_natCast]
theorem sl_front9 (A : Option Addr) (n cap k : Nat) (w : World) (hk : k ≤ cap) : (Instr.slice 22 (.slice A n cap) none (some (.int .i64 k)) none).run Tryd.prog w = .ok (.slice (if cap = 0 then A else A.map (·.add (0 * 9))) k cap) w := by
  rw [run_slice_h w 22 _ n cap Tryd.underlying22 .i64 k (by omega) (by omega)]
  have hs : (sizeOf (Tryd.prog.elem 22)).run Tryd.prog w = .ok 9 w := Tryd.sizeOf45 w
  rw [hs]
  simp only [Result.andThen, sliced, Int.toNat_natCast, Nat.sub_zero]
/-- m deeds, P from the a-th on, where A points -/
def SrcD (w : World) (A : Option Addr) (m : Nat) (P : Nat → Int × List Int) (a : Nat) : Prop := m = 0 ∨ ∃ b o, A = some ⟨b, o, none⟩ ∧ ∀ j, j < m * 9 → w.cell? ⟨b, o + j, none⟩ = some (cvP P (a * 9 + j))
theorem SrcD.keep {w W : World} {A : Option Addr} {m a : Nat} {P : Nat → Int × List Int} (h : SrcD w A m P a) (hb : ∀ k, k < w.heap.size → W.heap[k]? = w.heap[k]?) : SrcD W A m P a := by
  rcases h with h | ⟨b, o, rfl, hc⟩
  · exact .inl h
  · refine .inr ⟨b, o, rfl, fun j hj => ?_⟩
    rw [World.cell?_of_block (w := w) (w' := W) (a := ⟨b, o + j, none⟩) (hb b (World.block_lt_of_cell? w ⟨b, o + j, none⟩ (hc j hj)))]
    exact hc j hj
theorem add9 (b o j : Nat) : (⟨b, o, none⟩ : Addr).add j = ⟨b, o + j, none⟩ := by unfold Addr.add; split <;> simp_all
theorem Dds.back {w : World} {A : Option Addr} {n cap k : Nat} {P : Nat → Int × List Int} (h : Dds w A n P) (hk : k ≤ n) (hc : n ≤ cap) : SrcD w (if cap = k then A else A.map (·.add (k * 9))) (n - k) P k := by
  by_cases h0 : n - k = 0
  · exact .inl h0
  · rcases h.cell with h1 | ⟨b, off, rfl, _⟩
    · omega
    · refine .inr ⟨b, off + k * 9, ?_, fun j hj => ?_⟩
      · rw [if_neg (by omega), Option.map_some, add9]
      · rw [Nat.add_assoc]
        exact h.cv (k * 9 + j) (by omega)
theorem Dds.front {w : World} {A : Option Addr} {n cap k : Nat} {P : Nat → Int × List Int} (h : Dds w A n P) (hk : k ≤ n) (hc : n ≤ cap) : SrcD w (if cap = 0 then A else A.map (·.add (0 * 9))) k P 0 := by
  by_cases h0 : k = 0
  · exact .inl h0
  · rcases h.cell with h1 | ⟨b, off, rfl, _⟩
    · omega
    · refine .inr ⟨b, off, ?_, fun j hj => ?_⟩
      · rw [if_neg (by omega), Option.map_some, add9, Nat.zero_mul, Nat.add_zero]
      · rw [Nat.zero_mul, Nat.zero_add]
        exact h.cv j (by omega)
theorem run_appD2 {W : World} {base n m c a : Nat} {v : Value} {xs : List Value} {A : Option Addr} {P : Nat → Int × List Int} (h : W.ownsRow base 45 9 v n xs) (hs : SrcD W A m P a) (hn : n ≤ 1000) (hm : m ≤ 1000) (hbase : base ≤ W.heap.size) (ty : TypeId) :
    ∃ v' w', (Builtin.append_ #[22, 22] ty #[v, .slice A m c]).run Tryd.prog W = .ok v' w' ∧ w'.ownsRow base 45 9 v' (n + m) (xs ++ dls P a m) ∧ W.grownBy w' v.ownBlock ∧ (v'.ownBlock = v.ownBlock ∨ v'.ownBlock = some W.heap.size) := by
  obtain ⟨i, hi, hz, h1, h2⟩ := info_parts info45
  rcases hs with h0 | ⟨b, o, rfl, hc⟩
  · subst h0
    have e : dls P a 0 = [] := rfl
    rw [e, List.append_nil, Nat.add_zero]
    cases A with
    | some ad =>
      obtain ⟨v', w', r1, r2, r3, _, r5⟩ := run_append_own_at W base 22 ty 45 i _ 9 16 Tryd.underlying22 hi hz h1 h2 rfl (by decide) v n xs h ad 0 c [] rfl (fun j u hj => by cases hj) (fun u hu => by cases hu) (by unfold maxLen; omega) (by omega) hbase
      rw [List.append_nil, Nat.add_zero] at r2
      exact ⟨v', w', r1, r2, r3, r5⟩
    | none =>
      have hv : ∃ B sl sc, v = .slice B sl sc ∧ sl ≤ sc := by
        rcases h.2 with ⟨e1, e2⟩ | ⟨g, cap, cur, e1, _, _, e3, _⟩
        · exact ⟨none, 0, 0, e1, Nat.le_refl _⟩
        · exact ⟨_, _, _, e1, e3⟩
      obtain ⟨B, sl, sc, rfl, hle⟩ := hv
      refine ⟨_, W, run_append_nothing W 22 22 ty 45 i Tryd.underlying22 hi B sl sc hle _ ⟨.inl ⟨45, Tryd.underlying22⟩, fun w' => ?_, ?_, ?_, ?_, fun u hu => by cases hu⟩, h, ⟨rfl, rfl, rfl, Nat.le_refl _, fun _ _ _ => rfl⟩, .inl rfl⟩
      · simp [Builtin.lenOf]
      · simp [Builtin.firstCells]
      · simp [Builtin.firstCells]
      · simp
  · obtain ⟨v', w', r1, r2, r3, _, r5⟩ := run_appD (c := c) h hc hn hm hbase ty
    exact ⟨v', w', r1, r2, r3, r5⟩
theorem step_appD {W : World} {ops : Array Oper} {o : Oper} {act : Act} {K : Act → World → Prop} {Q : Exit → Act → World → Prop} {E : Prop} (hgd : o.guard = none) (s x : Operand)
    (ho : o.op = .call { callee := .builtin .append, args := #[s, x], argTypes := #[22, 22] }) (base n m c a : Nat) (v : Value) (xs : List Value) (A : Option Addr) (P : Nat → Int × List Int) (hs : act.eval s = v) (hx : act.eval x = .slice A m c) (h : W.ownsRow base 45 9 v n xs) (hsr : SrcD W A m P a) (hn : n ≤ 1000) (hm : m ≤ 1000) (w0 : World) (hw0 : base ≤ w0.heap.size) (hW : Below base w0 W)
    (hK : ∀ A' c' w', w'.ownsRow base 45 9 (.slice A' (n + m) c') (n + m) (xs ++ dls P a m) → Below base w0 w' → K (act.put o.dst (.slice A' (n + m) c')) w') :
    if Region.wanted o (yielded ops act.tmps) = true then Oper.wp Tryd.prog o act W K Q else E := by
  have hw : Region.wanted o (yielded ops act.tmps) = true := by simp [Region.wanted, hgd]
  rw [if_pos hw]
  have hbase : base ≤ W.heap.size := Nat.le_trans hw0 hW.size
  obtain ⟨v', w', hrun, hown, hg, _⟩ := run_appD2 (c := c) h hsr hn hm hbase o.type
  obtain ⟨A', c', rfl⟩ := ownG_slice hown
  unfold Oper.wp
  simp [execOp, ho, resolve, invoke, builtin, hs, hx, hrun, Result.andThen]
  exact hK A' c' w' hown (hW.trans ⟨hg.os, hg.tape, hg.output, hg.size, fun q hq => hg.block q (by omega) (fun e => by have := ownG_base h q e.symm; omega)⟩)
theorem b22 (w : World) : (Instr.buildSlice 22 0 #[]).run Tryd.prog w = .ok (.slice (some ⟨w.heap.size, 0, none⟩) 0 0) (w.alloc (.cells #[] 45)) := by kernel_rfl
theorem own22 {w : World} {base : Nat} (hb : base ≤ w.heap.size) : (w.alloc (.cells #[] 45)).ownsRow base 45 9 (.slice (some ⟨w.heap.size, 0, none⟩) 0 0) 0 [] := ⟨rfl, .inr ⟨w.heap.size, 0, #[], rfl, hb, heap_alloc_last w _, Nat.le_refl _, Nat.zero_le _, rfl, rfl⟩⟩
end Go.Proofs.YtgagcblddcibkaaDoor
