/-
  A slice of one hash that is written out; a store into one cell; as steps of a walk.
-/
import Derived.Test.YtmcmdpbdipgahaaK3c
namespace Go.Proofs.Ytmcmdpbdipgahaa
open Go.RowKit
theorem eight (l : List Int) (h : l.length = 8) : ∃ x0 x1 x2 x3 x4 x5 x6 x7, l = [x0, x1, x2, x3, x4, x5, x6, x7] := by
  match l, h with
  | [a0, a1, a2, a3, a4, a5, a6, a7], _ => exact ⟨a0, a1, a2, a3, a4, a5, a6, a7, rfl⟩
theorem run_bs8 (h : List Int) (hl : h.length = 8) (w : World) : (Instr.buildSlice 36 1 #[(0, .agg (ba h))]).run Try.prog w = .ok (.slice (some ⟨w.heap.size, 0, none⟩) 1 1) (w.alloc (.cells (ba h) 31)) := by
  obtain ⟨x0, x1, x2, x3, x4, x5, x6, x7, rfl⟩ := eight h hl
  rw [ba_lit]
  kernel_rfl
theorem wpList_bs8 {ops : Array Oper} {rest : List Oper} {o : Oper} {a : Act} {w : World} {Q : Exit → Act → World → Prop} (hg : o.guard = none) (x : Operand) (ho : o.op = .buildSlice 36 1 #[(0, x)]) (h : List Int) (hl : h.length = 8) (hx : a.eval x = .agg (ba h))
    (hK : wpList Try.prog ops Q rest (a.put o.dst (.slice (some ⟨w.heap.size, 0, none⟩) 1 1)) (w.alloc (.cells (ba h) 31))) : wpList Try.prog ops Q (o :: rest) a w := by
  refine wpList_plain hg fun K hK' => ?_
  unfold Oper.wp execOp
  have hp : (#[(0, x)] : Array (Nat × Operand)).map (fun (i, x) => (i, a.eval x)) = #[(0, .agg (ba h))] := by simp [hx]
  simp only [ho, hp, Sem.run_bind, run_bs8 h hl w, Result.andThen_ok]
  exact hK' _ _ hK
theorem step_bs8 {w : World} {ops : Array Oper} {o : Oper} {a : Act} {K : Act → World → Prop} {Q : Exit → Act → World → Prop} {E : Prop} (hgd : o.guard = none) (x : Operand) (ho : o.op = .buildSlice 36 1 #[(0, x)]) (h : List Int) (hl : h.length = 8) (hx : a.eval x = .agg (ba h))
    (hK : K (a.put o.dst (.slice (some ⟨w.heap.size, 0, none⟩) 1 1)) (w.alloc (.cells (ba h) 31))) : if Region.wanted o (yielded ops a.tmps) = true then Oper.wp Try.prog o a w K Q else E := by
  have hw : Region.wanted o (yielded ops a.tmps) = true := by simp [Region.wanted, hgd]
  rw [if_pos hw]
  have hp : (#[(0, x)] : Array (Nat × Operand)).map (fun (i, x) => (i, a.eval x)) = #[(0, .agg (ba h))] := by simp [hx]
  unfold Oper.wp execOp
  simp only [ho, hp, Sem.run_bind, run_bs8 h hl w, Result.andThen_ok]
  exact hK
/- a signature's parts in memory -/
theorem sb_opn {w : World} {b : Nat} {i : Int} {L : List Int} (h : SB w b i L) (hL : L.length = 280) : w.rangeAt b 1 (bvals (opn L)) := sb_range h 1 0 128 rfl (by omega)
theorem sb_sht {w : World} {b : Nat} {i : Int} {L : List Int} (h : SB w b i L) (hL : L.length = 280) : w.rangeAt b 129 (bvals (sht L)) := sb_range h 129 128 128 rfl (by omega)
theorem sb_way {w : World} {b : Nat} {i : Int} {L : List Int} (h : SB w b i L) (hL : L.length = 280) : Src w (some ⟨b, 257, none⟩) (8 * 3) (way L) := by
  have := sb_src h 257 256 24 rfl (by omega)
  rw [List.take_of_length_le (by rw [List.length_drop]; omega)] at this
  exact this
theorem sb_wayr {w : World} {b : Nat} {i : Int} {L : List Int} (h : SB w b i L) (hL : L.length = 280) : w.rangeAt b 257 (bvals (way L)) := by
  have := sb_range h 257 256 24 rfl (by omega)
  rw [List.take_of_length_le (by rw [List.length_drop]; omega)] at this
  exact this
theorem inf27 (l : List Int) (h : l.length = 128) : (Try.prog.info? 95).map (·.size) = some (bvals l).length := by rw [q27, bvals_len, h]
theorem inf23 (l : List Int) (h : l.length = 8) : (Try.prog.info? 31).map (·.size) = some (bvals l).length := by rw [s27, bvals_len, h]
theorem inf28 (l : List Int) (h : l.length = 24) : (Try.prog.info? 96).map (·.size) = some (bvals l).length := by rw [i28, bvals_len, h]
end Go.Proofs.Ytmcmdpbdipgahaa
