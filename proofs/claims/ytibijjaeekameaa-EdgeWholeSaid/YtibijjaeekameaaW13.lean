/-
  The walk of EdgeWhole at an empty row, at one that is too long, and at any.
-/
import Derived.Test.YtibijjaeekameaaW12
namespace Go.Proofs.Ytibijjaeekameaa
open Go.RowKit
open Fl

set_option maxRecDepth 100000 in
set_option maxHeartbeats 2000000 in
theorem walkWhole0 (n0 : Int) (m : Nat) (a : Option Addr) (cap : Nat) (w : World) (hm : n0 % 1048576 = m) (hn0 : 0 ≤ n0) (hn1 : n0 < 4294967296) :
    Calls Try.prog 7 #[.int .u32 n0, .slice a 0 cap] w fun e w' => e = .returned (.bool true) ∧ Below w.heap.size w w' := by
  have hml : m < 1048576 := by omega
  have i1 : infZ 1 = 9218868437227405312 := rfl
  have f1 := (in_yes (n := 1 + (m : Int)) (by omega)).1
  have f2 : floatZ (1 + (m : Int)) = near (m + 1) := by
    rw [(in_yes (n := 1 + (m : Int)) (by omega)).2, show (1 + (m : Int)).toNat = m + 1 by omega]
  obtain ⟨f3, f4⟩ := work_near (n := m + 1) (by omega) (by omega)
  have f3' : workZ (near (m + 1)) = 1 + (m : Int) := by rw [f3]; omega
  have f5 := (work_no (above_none (n := m + 1) (by omega))).2
  have f6 := (work_no (below_none (n := m + 1) (by omega) (by omega))).2
  have f7 := (work_no (b := negB (near (m + 1))) (by unfold negB; rw [neg_none (by omega) (by omega)]; decide)).2
  have l1 := near_63 (n := m + 1) (small53 (by omega))
  have l64 : (2 : Nat) ^ 63 < 2 ^ 64 := by decide
  have L1 : Hid (near (m + 1) < 2 ^ 64) := Nat.lt_trans l1 l64
  have L2 : Hid (near (m + 1) + 1 < 2 ^ 64) := by show near (m + 1) + 1 < 2 ^ 64; omega
  have L3 : Hid (near (m + 1) - 1 < 2 ^ 64) := by show near (m + 1) - 1 < 2 ^ 64; omega
  have L4 : Hid (negB (near (m + 1)) < 2 ^ 64) := Nat.xor_lt_two_pow L1.out l64
  have hneg : ∀ w, Sem.run Try.prog (Op.unary UnOp.neg (.float .f64 (near (m + 1)))) w = .ok (.float .f64 (negB (near (m + 1)))) w := fun _ => rfl
  have M1 := Lib.hid hml
  clear f3 l1 l64
  go_enter Try.func7, Try.ntmps7
  go_wp2_with (first | (go_at_call 9; refine (c9 _).mono ?_; rintro e w' ⟨rfl, rfl⟩) | (go_at_call 16; refine (c16 _ _).mono ?_; rintro e w' ⟨rfl, rfl⟩) | (go_at_call 11; refine (c11 _ _).mono ?_; rintro e w' ⟨rfl, rfl⟩) | (go_at_call 12; refine (c12 _ _ (by first | with_reducible exact L1.out | with_reducible exact L2.out | with_reducible exact L3.out | with_reducible exact L4.out)).mono ?_; rintro e w' ⟨rfl, rfl⟩) | (go_at_call_of 26 (Value.float .f64 9218868437227405312); refine (c26u (m + 1) _ (by omega) (by have := M1.out; omega)).mono ?_; rintro e w' ⟨rfl, rfl⟩) | (go_at_call_of 26 (Value.float .f64 0); refine (c26d (m + 1) _ (by omega) (by have := M1.out; omega)).mono ?_; rintro e w' ⟨rfl, rfl⟩))
  have s1 : sumZ [] = 0 := rfl
  have s2 : sumB [] = true := rfl
  refine wp_loop_rounds 1 ?_
  rw [rounds_succ]
  go_wp2_with (go_at_call 19; refine (c19 none 0 0 [] _ rfl (by omega) (by simp) (.inl rfl)).mono ?_; rintro e w' ⟨rfl, rfl⟩)
  go_ret
  exact ⟨rfl, Below.refl _ _⟩

theorem walkWholeA (n0 : Int) (a : Option Addr) (len cap : Nat) (w : World) (h : 400 < len) (hm : len ≤ 9223372036854775807) :
    Calls Try.prog 7 #[.int .u32 n0, .slice a len cap] w fun e w' => e = .returned (.bool true) ∧ Below w.heap.size w w' := by
  go_enter Try.func7, Try.ntmps7
  go_wp2_with (go_at_call 9; refine (c9 _).mono ?_; rintro e w' ⟨rfl, rfl⟩)
  go_ret
  exact ⟨rfl, Below.refl _ _⟩

theorem walkWholeAll (n0 : Int) (a : Option Addr) (len cap : Nat) (zs : List Int) (w : World) (hn0 : 0 ≤ n0) (hn1 : n0 < 4294967296) (hcap : len ≤ cap) (hcm : cap ≤ 9223372036854775807)
    (hz : ∀ i, i < len → 0 ≤ zs.getD i 0 ∧ zs.getD i 0 ≤ 65535) (hr : len = 0 ∨ ∃ b off, a = some ⟨b, off, none⟩ ∧ ∀ i, i < len → w.cell? ⟨b, off + i, none⟩ = some (.int .u16 (zs.getD i 0))) :
    Calls Try.prog 7 #[.int .u32 n0, .slice a len cap] w fun e w' => e = .returned (.bool true) ∧ Below w.heap.size w w' := by
  by_cases hl : 400 < len
  · exact walkWholeA n0 a len cap w hl (by omega)
  have hm : n0 % 1048576 = ((n0 % 1048576).toNat : Int) := by omega
  rcases hr with rfl | ⟨b, off, rfl, hc⟩
  · exact walkWhole0 n0 _ a cap w hm hn0 hn1
  · exact walkWhole n0 _ b off len cap (fun i => zs.getD i 0) w hm hn0 hn1 (by omega) hcap hcm hz hc
end Go.Proofs.Ytibijjaeekameaa
