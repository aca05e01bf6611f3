/-
  The walk of EdgeOrder: of any three floats Compare is one order; their bytes are theirs again; all NaNs are one.
-/
import Derived.Test.YtibijjaeekameaaW6
import Derived.Deep.RegionHeld3
import Derived.Deep.QuietTactic
import Derived.BigQuiet
import Derived.LoopTactic
namespace Go.Proofs.Ytibijjaeekameaa
open Go.RowKit
open Fl
theorem same_canon (b : Nat) : sameB (canon b) b = true := by
  apply decide_eq_true
  by_cases h : infR < rung b
  · rw [canon_nan h, tkey_nan h]; decide
  · rw [canon_num (by omega)]
def Cells3 (L : Nat → Nat) (B : Nat) (w : World) : Prop := ∀ o, o < 3 → w.cell? ⟨B, o, none⟩ = some (.float .f64 (L o))
theorem keepS {L : Nat → Nat} {w0 W w1 : World} {k : Nat} {v : Value} (hS : W.cell? ⟨w0.heap.size, k, none⟩ = some v ∧ Below w0.heap.size w0 W ∧ Cells3 L w0.heap.size W) (hb : Below W.heap.size W w1) : w1.cell? ⟨w0.heap.size, k, none⟩ = some v ∧ Below w0.heap.size w0 w1 ∧ Cells3 L w0.heap.size w1 := by
  have hl := World.block_lt_of_cell? W _ hS.1
  exact ⟨(hb.cell (p := ⟨w0.heap.size, k, none⟩) hl).trans hS.1, hS.2.1.trans (hb.mono (Nat.le_of_lt hl)), fun o ho => (hb.cell (p := ⟨w0.heap.size, o, none⟩) hl).trans (hS.2.2 o ho)⟩
theorem keepD {L : Nat → Nat} {B : Nat} {w : World} (h : Cells3 L B w) : Cells3 L B w.drew := h
theorem keepN {L : Nat → Nat} {B : Nat} {w : World} (n : Nat) (h : Cells3 L B w) : Cells3 L B (w.drewN n) := h
theorem below_N {B : Nat} {a w : World} (n : Nat) (h : Below B a w) : Below B a (w.drewN n) := ⟨h.os, h.tape, h.output, h.size, h.block⟩
theorem c14' (a b : Nat) (w : World) (ha : a < 2 ^ 64) (hb : b < 2 ^ 64) : Calls Try.prog 14 #[.float .f64 a, .float .f64 b] w fun e w' => e = .returned (.int .i64 (cmpZ a b)) ∧ w' = w := (c14 a b w ha hb).mono fun _ _ h => ⟨h.1, h.2.symm⟩
theorem c25' (a b : Nat) (w : World) (ha : a < 2 ^ 64) (hb : b < 2 ^ 64) : Calls Try.prog 25 #[.float .f64 a, .float .f64 b] w fun e w' => e = .returned (.int .i64 (cmpZ a b)) ∧ w' = w := (c25 a b w ha hb).mono fun _ _ h => ⟨h.1, h.2.symm⟩
theorem c21' (a b : Nat) (w : World) (ha : a < 2 ^ 64) (hb : b < 2 ^ 64) : Calls Try.prog 21 #[.float .f64 a, .float .f64 b] w fun e w' => e = .returned (.bool (sameB a b)) ∧ w' = w := (c21 a b w ha hb).mono fun _ _ h => ⟨h.1, h.2.symm⟩
theorem cmp_same_iff (a b : Nat) : ((cmpZ a b == 0) != sameB a b) = false := by
  have h := cmp_zero a b
  unfold sameB
  by_cases g : tkey a = tkey b
  · rw [h.2 g, decide_eq_true g]; rfl
  · have : ¬ cmpZ a b = 0 := fun q => g (h.1 q)
    rw [decide_eq_false g, beq_eq_false_iff_ne.2 this]; rfl
theorem cmp_same_iff' (a b : Nat) : ((cmpZ a b == 0) == sameB a b) = true := by
  have h := cmp_same_iff a b
  unfold bne at h
  simpa using h
theorem cmp_anti (a b : Nat) : (cmpZ a b != -cmpZ b a) = false := by
  rw [← cmp_turn a b]; simp

set_option maxRecDepth 100000 in
set_option maxHeartbeats 4000000 in
theorem walkOrder (L : Nat → Nat) (hL : ∀ o, L o < 2 ^ 64) (w : World) : Calls Try.prog 6 #[.agg #[.float .f64 (L 0), .float .f64 (L 1), .float .f64 (L 2)]] w fun e w' => e = .returned (.bool true) ∧ Below w.heap.size w w' := by
  have HL := Lib.hid hL
  clear hL
  go_enter Try.func6, Try.ntmps6
  go_wp2_with (go_at_call 9; refine (c9 _).mono ?_; rintro e w' ⟨rfl, rfl⟩)
  go_loopw [3] (fun i wr => ∃ k : Nat, k ≤ 3 ∧ i = .int .i64 k ∧ Cells3 L w.heap.size wr ∧ Below w.heap.size w wr) (fun i _ => 3 - (intOf i).toNat)
  case atStart =>
    refine ⟨0, by omega, rfl, ?_, (Below.refl _ _).alloc (Nat.le_refl _) _⟩
    intro o ho
    match o, ho with
    | 0, _ => simp [go_sem]
    | 1, _ => simp [go_sem]
    | 2, _ => simp [go_sem]
  case round =>
    obtain ⟨k, hk, rfl, hcell, hbel⟩ := hrel
    by_cases hlt : k < 3
    · have hk0 : (0 : Int) ≤ (k : Int) := by omega
      have hk3 : (k : Int) < 3 := by omega
      have hx := hcell k hlt
      have heq := fun (x0 x1 x2 x3 x4 x5 x6 x7 : Int) (w : World) => eq40 x0 x1 x2 x3 x4 x5 x6 x7 w
      have hsc := same_canon (L k)
      go_wp2_with fail
      go_region_held3 (fun w' => w'.cell? ⟨w.heap.size, k, none⟩ = some (.float .f64 (L k)) ∧ Below w.heap.size w w' ∧ Cells3 L w.heap.size w') ((first | exact ⟨hx, hbel.drew, keepD hcell⟩ | assumption | exact keepS (by assumption) hb1)) (first
        | (go_at_call 23; refine (c23 _ _ (HL.out k)).mono ?_; rintro e w1 ⟨rfl, hb1⟩)
        | (go_at_call 24; refine (c24 _ _ (HL.out k)).mono ?_; rintro e w1 ⟨rfl, hb1⟩)
        | (go_at_call 22; refine (c22 _ _ (canon_lt (HL.out k))).mono ?_; rintro e w1 ⟨rfl, hb1⟩)
        | (go_at_call 21; refine (c21 _ _ _ (canon_lt (HL.out k)) (HL.out k)).mono ?_; rintro e w1 ⟨rfl, rfl⟩))
      have hS1 : Below w.heap.size w w1 ∧ Cells3 L w.heap.size w1 := (show _ ∧ Below w.heap.size w w1 ∧ Cells3 L w.heap.size w1 by assumption).2
      clear hx heq hsc hcell hbel
      obtain ⟨hbel, hcell⟩ := hS1
      go_wp2_with fail
      go_loopw [4] (fun j wr => ∃ m : Nat, m ≤ 3 ∧ j = .int .i64 m ∧ Cells3 L w.heap.size wr ∧ Below w.heap.size w wr) (fun j _ => 3 - (intOf j).toNat)
      case atStart => exact ⟨0, by omega, rfl, hcell, hbel⟩
      case round =>
        clear hbel hcell
        obtain ⟨m, hm, rfl, hcell, hbel⟩ := hrel
        by_cases hmt : m < 3
        · have hm0 : (0 : Int) ≤ (m : Int) := by omega
          have hm3 : (m : Int) < 3 := by omega
          have hx := hcell k hlt
          have hy := hcell m hmt
          have HCC := Lib.hid hcell
          clear hcell
          have g1 := cmp_anti (L k) (L m)
          have g2 := cmp_same_iff' (L k) (L m)
          have bd1 := cmp_bd (L k) (L m)
          have bd2 := cmp_bd (L m) (L k)
          obtain ⟨bd1a, bd1b⟩ := bd1
          obtain ⟨bd2a, bd2b⟩ := bd2
          go_wp2_with fail
          have hp : ∀ n, (wr.drewN n).cell? ⟨w.heap.size, k, none⟩ = some (.float .f64 (L k)) ∧ (wr.drewN n).cell? ⟨w.heap.size, m, none⟩ = some (.float .f64 (L m)) ∧ Cells3 L w.heap.size (wr.drewN n) ∧ Below w.heap.size w (wr.drewN n) := fun n => ⟨hx, hy, keepN n HCC.out, below_N n hbel⟩
          have HP := Lib.hid hp
          clear hp
          go_quiet ((go_at_call 14; exact Calls.quiet_of_same (c14' _ _ _ (HL.out _) (HL.out _))))
          go_wp2_with fail
          generalize hq : wr.drewN _ = wq
          have hp : wq.cell? ⟨w.heap.size, k, none⟩ = some (.float .f64 (L k)) ∧ wq.cell? ⟨w.heap.size, m, none⟩ = some (.float .f64 (L m)) ∧ Cells3 L w.heap.size wq ∧ Below w.heap.size w wq := by rw [← hq]; exact HP.out _
          clear hq HP hx hy hbel HCC
          obtain ⟨hx, hy, hcell, hbel⟩ := hp
          have HCC := Lib.hid hcell
          clear hcell
          have hp : ∀ n, Cells3 L w.heap.size (wq.drewN n) ∧ Below w.heap.size w (wq.drewN n) := fun n => ⟨keepN n HCC.out, below_N n hbel⟩
          have HP := Lib.hid hp
          clear hp
          go_quiet ((first | (go_at_call 14; exact Calls.quiet_of_same (c14' _ _ _ (HL.out _) (HL.out _))) | (go_at_call 25; exact Calls.quiet_of_same (c25' _ _ _ (HL.out _) (HL.out _))) | (go_at_call 21; exact Calls.quiet_of_same (c21' _ _ _ (HL.out _) (HL.out _)))))
          go_wp2_with fail
          generalize hq : wq.drewN _ = wz
          have hp : Cells3 L w.heap.size wz ∧ Below w.heap.size w wz := by rw [← hq]; exact HP.out _
          clear hq HP hx hy hbel HCC g1 g2
          obtain ⟨hcell, hbel⟩ := hp
          go_loopw [6] (fun j wr => ∃ n : Nat, n ≤ 3 ∧ j = .int .i64 n ∧ Cells3 L w.heap.size wr ∧ Below w.heap.size w wr) (fun j _ => 3 - (intOf j).toNat)
          case atStart => exact ⟨0, by omega, rfl, hcell, hbel⟩
          case round =>
            clear hbel hcell
            obtain ⟨n, hn, rfl, hcell, hbel⟩ := hrel
            by_cases hnt : n < 3
            · have hn0 : (0 : Int) ≤ (n : Int) := by omega
              have hn3 : (n : Int) < 3 := by omega
              have hx := hcell k hlt
              have hy := hcell m hmt
              have hz := hcell n hnt
              have hp : ∀ q, Cells3 L w.heap.size (wr.drewN q) ∧ Below w.heap.size w (wr.drewN q) := fun q => ⟨keepN q hcell, below_N q hbel⟩
              have HP := Lib.hid hp
              clear hp hcell
              have bd3 := cmp_bd (L m) (L n)
              have bd4 := cmp_bd (L k) (L n)
              obtain ⟨bd3a, bd3b⟩ := bd3
              obtain ⟨bd4a, bd4b⟩ := bd4
              by_cases t1 : cmpZ (L k) (L m) ≤ 0
              · by_cases t2 : cmpZ (L m) (L n) ≤ 0
                · have t3 := cmp_trans t1 t2
                  have d3 : decide (0 < cmpZ (L k) (L n)) = false := decide_eq_false (by omega)
                  go_wp2_with fail
                  go_quiet ((go_at_call 14; exact Calls.quiet_of_same (c14' _ _ _ (HL.out _) (HL.out _))))
                  go_wp2
                  go_roundw
                  case rel => exact ⟨n + 1, by omega, by go_num, (HP.out _).1, (HP.out _).2⟩
                  case measure => simp [intOf]; omega
                · have d2 : decide (cmpZ (L m) (L n) ≤ 0) = false := decide_eq_false t2
                  go_wp2_with fail
                  go_quiet ((go_at_call 14; exact Calls.quiet_of_same (c14' _ _ _ (HL.out _) (HL.out _))))
                  go_wp2
                  go_roundw
                  case rel => exact ⟨n + 1, by omega, by go_num, (HP.out _).1, (HP.out _).2⟩
                  case measure => simp [intOf]; omega
              · have d1 : decide (cmpZ (L k) (L m) ≤ 0) = false := decide_eq_false t1
                go_wp2_with fail
                go_quiet ((go_at_call 14; exact Calls.quiet_of_same (c14' _ _ _ (HL.out _) (HL.out _))))
                go_wp2
                go_roundw
                case rel => exact ⟨n + 1, by omega, by go_num, (HP.out _).1, (HP.out _).2⟩
                case measure => simp [intOf]; omega
            · go_wp2
              go_roundw
              case rel => exact ⟨m + 1, by omega, by go_num, hcell, hbel⟩
              case measure => simp [intOf]; omega
        · go_wp2
          go_roundw
          case rel => exact ⟨k + 1, by omega, by go_num, hcell, hbel⟩
          case measure => simp [intOf]; omega
    · go_wp2
      go_ret
      exact ⟨rfl, hbel⟩
end Go.Proofs.Ytibijjaeekameaa
