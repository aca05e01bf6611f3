/-
  within, rise, Zero, Seed.
-/
import Derived.Test.YtfneopmgckejdaaDoorQP
import Derived.Test.YtfneopmgckejdaaDoorLD
import Derived.Deep.DeepCutAuto
namespace Go.Proofs.YtfneopmgckejdaaDoor
open Go.RowKit
attribute [local irreducible] ua da ba kk sw S8.run rt hs comp splice outB sha msg bvals zeros sg
/-- within -/
theorem kWithin (n lo hi : Int) (w : World) : Calls Tryd.prog 17 #[.int .i64 n, .int .i64 lo, .int .i64 hi] w fun e w' => e = .returned (.bool (win lo hi n)) ∧ w = w' := by
  obtain ⟨c1, h1⟩ : ∃ c, decide (lo ≤ n) = c := ⟨_, rfl⟩
  obtain ⟨c2, h2⟩ : ∃ c, decide (n ≤ hi) = c := ⟨_, rfl⟩
  have hw : win lo hi n = (c1 && c2) := by unfold win; rw [h1, h2]
  rw [hw]
  clear hw
  cases c1 <;> cases c2 <;>
  · go_enter Tryd.func17, Tryd.ntmps17
    go_wp2
    go_ret
    exact ⟨rfl, rfl⟩
/-- Zero -/
theorem kZero (x : List Int) (w : World) (hx : x.length = 8) : Calls Tryd.prog 18 #[.agg (ba x)] w fun e w' => e = .returned (.bool (decide (x = zeros 8))) ∧ Below w.heap.size w w' := by
  have f1 := fun w => eqhL x (zeros 8) w hx (zeros_len 8)
  rw [ba8] at f1
  have HX := Lib.hid hx
  obtain ⟨S, hS⟩ : ∃ S, w.heap.size = S := ⟨_, rfl⟩
  have HS := Lib.hid hS
  have X0 := Lib.hid (ba_new hS x 32)
  have B0 : Hid (Below S w (w.alloc (Obj.cells (ba x) 32))) := by subst hS; exact (Below.refl _ w).alloc (Nat.le_refl _) _
  clear hx
  go_enter Tryd.func18, Tryd.ntmps18
  go_wp2_with (first
    | (refine wpList_load_row rfl 32 (.tmp 1) rfl S rfl 32 (ba x) (0, 0) _ X0.out Tryd.underlying32 rfl (sz s27 (by rw [ba_size, HX.out])) ?_)
    | fail)
  go_ret
  exact ⟨rfl, by rw [HS.out]; exact B0.out⟩
set_option maxRecDepth 100000 in
set_option maxHeartbeats 4000000 in
/-- rise -/
theorem kRise (A : Option Addr) (n cap : Nat) (xs : List Sgd) (w : World) (hr : SRow w A xs) (hn : xs.length = n) (hc : n ≤ cap) (hc2 : cap ≤ maxLen) :
    Calls Tryd.prog 22 #[.slice A n cap] w fun e w' => e = .returned (.bool (decide (riseP xs))) ∧ Below w.heap.size w w' := by
  have HR := Lib.hid hr
  have HN := Lib.hid hn
  obtain ⟨S, hS⟩ : ∃ S, w.heap.size = S := ⟨_, rfl⟩
  have HS := Lib.hid hS
  unfold maxLen at hc2
  have B0 : Hid (Below S w w) := Below.refl _ _
  clear hr hn hS
  go_enter Tryd.func22, Tryd.ntmps22
  go_wp2
  go_loopw [3] (fun i wr => ∃ q : Nat, (q + 1 ≤ n ∨ q = 0) ∧ i = .int .i64 ((q + 1 : Nat) : Int) ∧ (∀ j, j < q + 1 → j < n → j = 0 ∨ keyAt xs (j - 1) < keyAt xs j) ∧ Below S w wr) (fun i _ => n - (intOf i).toNat)
  case atStart => exact ⟨0, .inr rfl, rfl, fun j hj _ => .inl (by omega), B0.out⟩
  case round =>
    obtain ⟨q, hq, rfl, hj, hb⟩ := hrel
    have JR := Lib.hid hj
    have BR := Lib.hid hb
    clear hj hb
    by_cases hlt : q + 1 < n
    · obtain ⟨b, o, hA, hcells⟩ : ∃ b o, A = some ⟨b, o, none⟩ ∧ ∀ j, j < xs.length → w.rangeAt b (o + j * 282) (eS (xs.getD j sgd0)) := by
        rcases HR.out.2 with h2 | h2
        · have := HN.out
          rw [h2] at this
          simp at this
          omega
        · exact h2
      subst hA
      have c0 : ∀ j, j < n → wr.cell? ⟨b, o + j * 282, none⟩ = some (.int .i64 (keyAt xs j)) := fun j hj => by
        have h3 := hcells j (by rw [HN.out]; exact hj) 0 _ rfl
        rw [Nat.add_zero] at h3
        have hb2 : b < S := by rw [← HS.out]; exact World.block_lt_of_cell? w ⟨b, o + j * 282, none⟩ h3
        rw [BR.out.cell (p := ⟨b, o + j * 282, none⟩) hb2]
        exact h3
      have c1 := c0 (q + 1) hlt
      have c2 := c0 q (by omega)
      have s0 : wrap64 (((q + 1 : Nat) : Int) - 1) = (q : Int) := by unfold wrap64; omega
      have HLT := Lib.hid hlt
      obtain ⟨x, hx⟩ : ∃ x, keyAt xs (q + 1) = x := ⟨_, rfl⟩
      obtain ⟨y, hy⟩ : ∃ y, keyAt xs q = y := ⟨_, rfl⟩
      have HX := Lib.hid hx
      have HY := Lib.hid hy
      rw [hx] at c1
      rw [hy] at c2
      clear hcells c0 hx hy
      by_cases hxy : x ≤ y
      · go_wp2_with fail
        go_quiet (fail)
        go_wp2
        go_ret
        refine ⟨?_, by rw [HS.out]; exact below_drewN BR.out _⟩
        have : ¬ riseP xs := fun h => by
          rcases h (q + 1) (by rw [HN.out]; exact hlt) with h1 | h1
          · omega
          · rw [Nat.add_sub_cancel, HX.out, HY.out] at h1
            omega
        rw [decide_eq_false this]
        rfl
      · go_wp2_with fail
        go_quiet (fail)
        go_wp2
        go_roundw
        case rel => exact ⟨q + 1, .inl (by omega), by go_num, fun j hj hj2 => by
          by_cases e : j = q + 1
          · subst e
            rw [Nat.add_sub_cancel, HX.out, HY.out]
            exact .inr (by omega)
          · exact JR.out j (by omega) hj2, below_drewN BR.out _⟩
        case measure => simp [intOf]; omega
    · have hr2 : riseP xs := fun j hj => JR.out j (by have := HN.out; omega) (by rw [← HN.out]; exact hj)
      go_wp2
      go_ret
      exact ⟨by rw [decide_eq_true hr2]; rfl, by rw [HS.out]; exact BR.out⟩
theorem run_seed (x : Int) (w : World) : (Instr.build 32 #[(0, .int .u8 113), (1, .int .u8 x)]).run Tryd.prog w = .ok (.agg (ba [113, x, 0, 0, 0, 0, 0, 0])) w := by
  rw [ba_lit]
  kernel_rfl
theorem wpList_seed {ops : Array Oper} {rest : List Oper} {o : Oper} {a : Act} {w : World} {Q : Exit → Act → World → Prop} (hg : o.guard = none) (y : Operand) (ho : o.op = .build 32 #[(0, .const (.int .u8 113)), (1, y)]) (x : Int) (hy : a.eval y = .int .u8 x)
    (hK : wpList Tryd.prog ops Q rest (a.put o.dst (.agg (ba [113, x, 0, 0, 0, 0, 0, 0]))) w) : wpList Tryd.prog ops Q (o :: rest) a w := by
  refine wpList_plain hg fun K hK' => ?_
  unfold Oper.wp execOp
  have hp : (#[(0, .const (.int .u8 113)), (1, y)] : Array (Nat × Operand)).map (fun (i, x) => (i, a.eval x)) = #[(0, .int .u8 113), (1, .int .u8 x)] := by
    have h0 : a.eval (.const (.int .u8 113)) = .int .u8 113 := rfl
    simp [hy, h0]
  simp only [ho, hp, Sem.run_bind, run_seed x w, Result.andThen_ok]
  exact hK' _ _ hK
set_option maxHeartbeats 1000000 in
/-- Seed -/
theorem kSeed (k x : Int) (w : World) (hx : IntKind.u8.wrap k = x) : Calls Tryd.prog 20 #[.int .i64 k] w fun e w' => e = .returned (.agg (ba [113, x, 0, 0, 0, 0, 0, 0])) ∧ Below w.heap.size w w' := by
  have h4 := z27
  obtain ⟨S, hS⟩ : ∃ S, w.heap.size = S := ⟨_, rfl⟩
  have HS := Lib.hid hS
  have X0 := Lib.hid (ba_new hS (zeros 8) 32)
  have B0 : Hid (Below S w (w.alloc (Obj.cells (ba (zeros 8)) 32))) := by subst hS; exact (Below.refl _ w).alloc (Nat.le_refl _) _
  go_enter Tryd.func20, Tryd.ntmps20
  go_wp2_with (first
    | (refine wpList_seed rfl (.tmp 4) rfl x rfl ?_)
    | (refine wpList_store_rowTo rfl 32 (.tmp 2) (.tmp 5) rfl rfl S (ba [113, x, 0, 0, 0, 0, 0, 0]) rfl rfl 32 (ba (zeros 8)) X0.out (sz s27 (by rw [ba_size]; rfl)) (by rw [ba_size, ba_size, zeros_len]; rfl) (ba_one _) ?_)
    | fail)
  refine bodyPost_ret (v := .agg (ba [113, x, 0, 0, 0, 0, 0, 0])) (results_cell_row rfl _ _ S 32 _ (0, 0) _ rfl (setRow_heap _ _ _ _ _ _ X0.out) Tryd.underlying32 rfl (sz s27 (by rw [ba_size]; rfl))) rfl ⟨rfl, ?_⟩
  rw [HS.out]
  exact below_setRow B0.out (Nat.le_refl _) _
end Go.Proofs.YtfneopmgckejdaaDoor
