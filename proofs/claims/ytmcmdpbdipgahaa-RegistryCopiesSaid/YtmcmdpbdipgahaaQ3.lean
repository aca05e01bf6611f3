/-
  within, rise, Zero, Seed.
-/
import Derived.Test.YtmcmdpbdipgahaaQP
import Derived.Test.YtmcmdpbdipgahaaLD
import Derived.Deep.DeepCutAuto
namespace Go.Proofs.Ytmcmdpbdipgahaa
open Go.RowKit
attribute [local irreducible] ua da ba kk sw S8.run rt hs comp splice outB sha msg bvals zeros sg

/-- within -/
theorem kWithin (n lo hi : Int) (w : World) : Calls Try.prog 48 #[.int .i64 n, .int .i64 lo, .int .i64 hi] w fun e w' => e = .returned (.bool (win lo hi n)) ∧ w = w' := by
  obtain ⟨c1, h1⟩ : ∃ c, decide (lo ≤ n) = c := ⟨_, rfl⟩
  obtain ⟨c2, h2⟩ : ∃ c, decide (n ≤ hi) = c := ⟨_, rfl⟩
  have hw : win lo hi n = (c1 && c2) := by unfold win; rw [h1, h2]
  rw [hw]
  clear hw
  cases c1 <;> cases c2 <;>
  · go_enter Try.func48, Try.ntmps48
    go_wp2
    go_ret
    exact ⟨rfl, rfl⟩
/-- Zero -/
theorem kZero (x : List Int) (w : World) (hx : x.length = 8) : Calls Try.prog 49 #[.agg (ba x)] w fun e w' => e = .returned (.bool (decide (x = zeros 8))) ∧ Below w.heap.size w w' := by
  have f1 := fun w => eqhL x (zeros 8) w hx (zeros_len 8)
  rw [ba8] at f1
  have HX := Lib.hid hx
  obtain ⟨S, hS⟩ : ∃ S, w.heap.size = S := ⟨_, rfl⟩
  have HS := Lib.hid hS
  have X0 := Lib.hid (ba_new hS x 31)
  have B0 : Hid (Below S w (w.alloc (Obj.cells (ba x) 31))) := by subst hS; exact (Below.refl _ w).alloc (Nat.le_refl _) _
  clear hx
  go_enter Try.func49, Try.ntmps49
  go_wp2_with (first
    | (refine wpList_load_row rfl 31 (.tmp 1) rfl S rfl 31 (ba x) (0, 0) _ X0.out Try.underlying31 rfl (sz s27 (by rw [ba_size, HX.out])) ?_)
    | fail)
  go_ret
  exact ⟨rfl, by rw [HS.out]; exact B0.out⟩
theorem run_seed (x : Int) (w : World) : (Instr.build 31 #[(0, .int .u8 113), (1, .int .u8 x)]).run Try.prog w = .ok (.agg (ba [113, x, 0, 0, 0, 0, 0, 0])) w := by
  rw [ba_lit]
  kernel_rfl
theorem wpList_seed {ops : Array Oper} {rest : List Oper} {o : Oper} {a : Act} {w : World} {Q : Exit → Act → World → Prop} (hg : o.guard = none) (y : Operand) (ho : o.op = .build 31 #[(0, .const (.int .u8 113)), (1, y)]) (x : Int) (hy : a.eval y = .int .u8 x)
    (hK : wpList Try.prog ops Q rest (a.put o.dst (.agg (ba [113, x, 0, 0, 0, 0, 0, 0]))) w) : wpList Try.prog ops Q (o :: rest) a w := by
  refine wpList_plain hg fun K hK' => ?_
  unfold Oper.wp execOp
  have hp : (#[(0, .const (.int .u8 113)), (1, y)] : Array (Nat × Operand)).map (fun (i, x) => (i, a.eval x)) = #[(0, .int .u8 113), (1, .int .u8 x)] := by
    have h0 : a.eval (.const (.int .u8 113)) = .int .u8 113 := rfl
    simp [hy, h0]
  simp only [ho, hp, Sem.run_bind, run_seed x w, Result.andThen_ok]
  exact hK' _ _ hK
set_option maxHeartbeats 1000000 in
/-- Seed -/
theorem kSeed (k x : Int) (w : World) (hx : IntKind.u8.wrap k = x) : Calls Try.prog 32 #[.int .i64 k] w fun e w' => e = .returned (.agg (ba [113, x, 0, 0, 0, 0, 0, 0])) ∧ Below w.heap.size w w' := by
  have h4 := z27
  obtain ⟨S, hS⟩ : ∃ S, w.heap.size = S := ⟨_, rfl⟩
  have HS := Lib.hid hS
  have X0 := Lib.hid (ba_new hS (zeros 8) 31)
  have B0 : Hid (Below S w (w.alloc (Obj.cells (ba (zeros 8)) 31))) := by subst hS; exact (Below.refl _ w).alloc (Nat.le_refl _) _
  go_enter Try.func32, Try.ntmps32
  go_wp2_with (first
    | (refine wpList_seed rfl (.tmp 4) rfl x rfl ?_)
    | (refine wpList_store_rowTo rfl 31 (.tmp 2) (.tmp 5) rfl rfl S (ba [113, x, 0, 0, 0, 0, 0, 0]) rfl rfl 31 (ba (zeros 8)) X0.out (sz s27 (by rw [ba_size]; rfl)) (by rw [ba_size, ba_size, zeros_len]; rfl) (ba_one _) ?_)
    | fail)
  refine bodyPost_ret (v := .agg (ba [113, x, 0, 0, 0, 0, 0, 0])) (results_cell_row rfl _ _ S 31 _ (0, 0) _ rfl (setRow_heap _ _ _ _ _ _ X0.out) Try.underlying31 rfl (sz s27 (by rw [ba_size]; rfl))) rfl ⟨rfl, ?_⟩
  rw [HS.out]
  exact below_setRow B0.out (Nat.le_refl _) _
end Go.Proofs.Ytmcmdpbdipgahaa
