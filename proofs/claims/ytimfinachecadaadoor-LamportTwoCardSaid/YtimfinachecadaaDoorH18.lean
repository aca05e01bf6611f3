/-
  The walk of HashParts.
-/
import Derived.Test.YtimfinachecadaaDoorH17
import Derived.Test.YtimfinachecadaaDoorH14
import Derived.Deep.MidRow
namespace Go.Proofs.YtimfinachecadaaDoor
open Go.RowKit
theorem src_own {w : World} {base n : Nat} {A : Option Addr} {c : Nat} {xs : List Int} (h : w.ownsRow base 5 1 (.slice A n c) n (bvals xs)) : Src w A n xs ∧ n ≤ c ∧ (A = none → c = 0) ∧ c ≤ maxLen := by
  obtain ⟨A', c', e, hr, hl, hc⟩ := own_row h
  simp only [Value.slice.injEq] at e
  obtain ⟨rfl, _, rfl⟩ := e
  refine ⟨src_row hl hr, hc, fun ha => ?_, ?_⟩
  · rcases h.2 with ⟨h4, _⟩ | ⟨g, cap, cur, h4, _⟩
    · simp only [Value.slice.injEq] at h4; exact h4.2.2
    · simp only [Value.slice.injEq] at h4; rw [ha] at h4; cases h4.1
  · rcases h.2 with ⟨h4, _⟩ | ⟨g, cap, cur, h4, _, _, _, h5, _⟩
    · simp only [Value.slice.injEq] at h4; rw [h4.2.2]; exact Nat.zero_le _
    · simp only [Value.slice.injEq] at h4; omega
theorem own_one (w : World) (p : Int) : (w.alloc (Obj.cells #[.int .u8 p] 5)).ownsRow w.heap.size 5 1 (.slice (some ⟨w.heap.size, 0, none⟩) 1 1) 1 (bvals [p]) :=
  ⟨rfl, .inr ⟨w.heap.size, 1, #[.int .u8 p], rfl, Nat.le_refl _, heap_alloc_new w _, Nat.le_refl _, by decide, rfl, rfl⟩⟩
theorem num4 (n : Nat) (W : World) : Calls Tryd.prog 23 #[.int .i64 n, .int .i64 4] W fun e W' => ∃ A c, e = .returned (.slice A 4 c) ∧ W'.ownsRow W.heap.size 5 1 (.slice A 4 c) 4 (bvals (digs n 4)) ∧ Below W.heap.size W W' := c21 n 4 W (by omega)
theorem own_keepB {w W : World} {base n : Nat} {v : Value} {xs : List Value} (h : w.ownsRow base 5 1 v n xs) (hb : Below w.heap.size w W) : W.ownsRow base 5 1 v n xs := own_keep h fun q hq => hb.block q (own_lt h q hq)
theorem copied (y : List Int) (h : y.length = 8) : ((ba (zeros 8)).toList.take 0 ++ (bvals y ++ (ba (zeros 8)).toList.drop (0 + (bvals y).length))).toArray = ba y := by
  have : (bvals y).length = 8 := by simp [bvals, h]
  rw [this]
  simp [ba, zeros, bvals]
theorem msg2 (p : Int) (pl : Nat → Nat) (px : Nat → List Int) : msg p pl px 2 = [p] ++ digs (pl 0) 4 ++ px 0 ++ digs (pl 1) 4 ++ px 1 := rfl
theorem ba_range {w : World} {b : Nat} {t : TypeId} {xs : List Int} (h : BA w b t xs) : w.rangeAt b 0 (bvals xs) := by
  intro j v hv
  have hj : j < xs.length := by
    have := (List.getElem?_eq_some_iff.1 hv).1
    simpa [bvals] using this
  rw [Nat.zero_add, ba_cell h j hj, ← hv]
  simp [bvals, List.getD, hj]
theorem c8cells : ∀ (x : List Int), x.length = 8 → ∃ x0 x1 x2 x3 x4 x5 x6 x7, x = [x0, x1, x2, x3, x4, x5, x6, x7]
  | [x0, x1, x2, x3, x4, x5, x6, x7], _ => ⟨x0, x1, x2, x3, x4, x5, x6, x7, rfl⟩
theorem cells8 {w : World} {b : Nat} {t : TypeId} (x0 x1 x2 x3 x4 x5 x6 x7 : Int) (h : BA w b t [x0, x1, x2, x3, x4, x5, x6, x7]) : w.cell? ⟨b, 0, none⟩ = some (.int .u8 x0) ∧ w.cell? ⟨b, 1, none⟩ = some (.int .u8 x1) ∧ w.cell? ⟨b, 2, none⟩ = some (.int .u8 x2) ∧ w.cell? ⟨b, 3, none⟩ = some (.int .u8 x3) ∧ w.cell? ⟨b, 4, none⟩ = some (.int .u8 x4) ∧ w.cell? ⟨b, 5, none⟩ = some (.int .u8 x5) ∧ w.cell? ⟨b, 6, none⟩ = some (.int .u8 x6) ∧ w.cell? ⟨b, 7, none⟩ = some (.int .u8 x7) :=
  ⟨ba_cell h 0 (by simp), ba_cell h 1 (by simp), ba_cell h 2 (by simp), ba_cell h 3 (by simp), ba_cell h 4 (by simp), ba_cell h 5 (by simp), ba_cell h 6 (by simp), ba_cell h 7 (by simp)⟩
theorem eqT (x0 x1 x2 x3 x4 x5 x6 x7 : Int) (w : World) : (Op.equalIn 10000 23 (.agg #[.int .u8 x0, .int .u8 x1, .int .u8 x2, .int .u8 x3, .int .u8 x4, .int .u8 x5, .int .u8 x6, .int .u8 x7]) (.agg #[.int .u8 x0, .int .u8 x1, .int .u8 x2, .int .u8 x3, .int .u8 x4, .int .u8 x5, .int .u8 x6, .int .u8 x7])).run Tryd.prog w = .ok true w := by
  have := eq_ba 23 8 9998 Tryd.underlying23 [x0, x1, x2, x3, x4, x5, x6, x7] [x0, x1, x2, x3, x4, x5, x6, x7] w rfl rfl
  rw [decide_eq_true rfl] at this
  exact this
theorem eqS (m : List Int) (w : World) : (Op.equalIn 10000 54 (.agg (bvals (sha m)).toArray) (.agg (ba (sha m)))).run Tryd.prog w = .ok true w := by
  have := eq_ba 54 32 9998 Tryd.underlying54 (sha m) (sha m) w (sha_len m) (sha_len m)
  rw [decide_eq_true rfl] at this
  exact this
end Go.Proofs.YtimfinachecadaaDoor
