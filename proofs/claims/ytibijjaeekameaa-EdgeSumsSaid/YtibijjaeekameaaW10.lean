/-
  The walk of EdgeSums where the row is empty, or longer than the statement speaks of; the walk at any row.
-/
import Derived.Test.YtibijjaeekameaaW9
namespace Go.Proofs.Ytibijjaeekameaa
open Go.RowKit
open Fl

set_option maxRecDepth 100000 in
set_option maxHeartbeats 2000000 in
theorem walkSumsB  (turn : Int) (w : World) :
    Calls Try.prog 5 #[.slice none 0 0, .int .u16 turn] w fun e w' => e = .returned (.bool true) ∧ Below w.heap.size w w' := by
  obtain ⟨i0, hi, hz0, hz1, hz2⟩ := info_parts info23
  have hr : Row w (none) [] := .inl rfl
  have HR := Lib.hid hr
  clear hr
  have B0 : Hid (Below w.heap.size w (w.alloc (Obj.cells #[] 23)).drew) := ((Below.refl _ _).alloc (Nat.le_refl _) _).drew
  have O0 := Lib.hid (own_none w)
  have S0 : Hid (∀ W : World, Src W (none) 0 []) := fun W => ⟨rfl, .inl rfl⟩
  go_enter Try.func5, Try.ntmps5
  go_wp2_with (first | (go_at_call 9; refine (c9 _).mono ?_; rintro e w' ⟨rfl, rfl⟩) | (go_at_call 19; refine (c19 _ 0 0 [] _ rfl (by omega) (by simp) (by exact HR.out)).mono ?_; rintro e w' ⟨rfl, rfl⟩) | (go_at_call 20; refine (c20 _ 0 0 [] _ rfl (by omega) (by simp) (by exact HR.out)).mono ?_; rintro e w' ⟨rfl, rfl⟩))
  go_region_law (first
    | (refine step_app rfl (.tmp 36) (.tmp 39) 33 rfl i0 Try.underlying33 hi hz0 hz1 hz2 w.heap.size 0 (.slice (some ⟨w.heap.size, 0, none⟩) 0 0) [] (by simp [Act.eval]) O0.out (none) 0 0 [] (by simp [Act.eval]) (S0.out _) (by simp) (by decide) (by decide) (by simp) ?_; intro A1 c1 w1 hown1 hrow1 hg1; have B1 := Lib.hid (B0.out.grown hg1 (by simp) (fun q hq => by simp [Value.ownBlock] at hq; omega)))
    | (refine step_app rfl (.tmp 40) (.tmp 43) 33 rfl i0 Try.underlying33 hi hz0 hz1 hz2 w.heap.size 0 (.slice A1 0 c1) [] (by simp [Act.eval]) hown1 (none) 0 0 [] (by simp [Act.eval]) (S0.out _) (by simp) (by decide) (by decide) B1.out.size ?_; intro A2 c2 w2 hown2 hrow2 hg2)
    | (go_simp; go_at_call 19; refine (c19 A2 0 c2 [] _ rfl (by omega) (by simp) hrow2).mono ?_; rintro e w' ⟨rfl, rfl⟩))
  all_goals
    have B2 := Lib.hid (B1.out.grown hg2 B1.out.size (own_base hown1))
    clear hown1 hrow1 hown2 hrow2
    go_wp2
    go_ret
    exact ⟨rfl, B2.out⟩

set_option maxRecDepth 100000 in
set_option maxHeartbeats 2000000 in
theorem walkSumsC (b off cap : Nat) (turn : Int) (w : World) :
    Calls Try.prog 5 #[.slice (some ⟨b, off, none⟩) 0 cap, .int .u16 turn] w fun e w' => e = .returned (.bool true) ∧ Below w.heap.size w w' := by
  obtain ⟨i0, hi, hz0, hz1, hz2⟩ := info_parts info23
  have hr : Row w (some ⟨b, off, none⟩) [] := .inl rfl
  have HR := Lib.hid hr
  clear hr
  have B0 : Hid (Below w.heap.size w (w.alloc (Obj.cells #[] 23)).drew) := ((Below.refl _ _).alloc (Nat.le_refl _) _).drew
  have O0 := Lib.hid (own_none w)
  have S0 : Hid (∀ W : World, Src W (some ⟨b, off, none⟩) 0 []) := fun W => ⟨rfl, .inl rfl⟩
  go_enter Try.func5, Try.ntmps5
  go_wp2_with (first | (go_at_call 9; refine (c9 _).mono ?_; rintro e w' ⟨rfl, rfl⟩) | (go_at_call 19; refine (c19 _ 0 cap [] _ rfl (by omega) (by simp) (by exact HR.out)).mono ?_; rintro e w' ⟨rfl, rfl⟩) | (go_at_call 20; refine (c20 _ 0 cap [] _ rfl (by omega) (by simp) (by exact HR.out)).mono ?_; rintro e w' ⟨rfl, rfl⟩))
  go_region_law (first
    | (refine step_app rfl (.tmp 36) (.tmp 39) 33 rfl i0 Try.underlying33 hi hz0 hz1 hz2 w.heap.size 0 (.slice (some ⟨w.heap.size, 0, none⟩) 0 0) [] (by simp [Act.eval]) O0.out (some ⟨b, off, none⟩) 0 cap [] (by simp [Act.eval]) (S0.out _) (by simp) (by decide) (by decide) (by simp) ?_; intro A1 c1 w1 hown1 hrow1 hg1; have B1 := Lib.hid (B0.out.grown hg1 (by simp) (fun q hq => by simp [Value.ownBlock] at hq; omega)))
    | (refine step_app rfl (.tmp 40) (.tmp 43) 33 rfl i0 Try.underlying33 hi hz0 hz1 hz2 w.heap.size 0 (.slice A1 0 c1) [] (by simp [Act.eval]) hown1 (some ⟨b, off, none⟩) 0 cap [] (by simp [Act.eval]) (S0.out _) (by simp) (by decide) (by decide) B1.out.size ?_; intro A2 c2 w2 hown2 hrow2 hg2)
    | (go_simp; go_at_call 19; refine (c19 A2 0 c2 [] _ rfl (by omega) (by simp) hrow2).mono ?_; rintro e w' ⟨rfl, rfl⟩))
  all_goals
    have B2 := Lib.hid (B1.out.grown hg2 B1.out.size (own_base hown1))
    clear hown1 hrow1 hown2 hrow2
    go_wp2
    go_ret
    exact ⟨rfl, B2.out⟩

set_option maxRecDepth 100000 in
set_option maxHeartbeats 2000000 in
theorem walkSumsE (x : Addr) (turn : Int) (w : World) :
    Calls Try.prog 5 #[.slice (some x) 0 0, .int .u16 turn] w fun e w' => e = .returned (.bool true) ∧ Below w.heap.size w w' := by
  obtain ⟨i0, hi, hz0, hz1, hz2⟩ := info_parts info23
  have hr : Row w (some x) [] := .inl rfl
  have HR := Lib.hid hr
  clear hr
  have B0 : Hid (Below w.heap.size w (w.alloc (Obj.cells #[] 23)).drew) := ((Below.refl _ _).alloc (Nat.le_refl _) _).drew
  have O0 := Lib.hid (own_none w)
  have S0 : Hid (∀ W : World, Src W (some x) 0 []) := fun W => ⟨rfl, .inl rfl⟩
  go_enter Try.func5, Try.ntmps5
  go_wp2_with (first | (go_at_call 9; refine (c9 _).mono ?_; rintro e w' ⟨rfl, rfl⟩) | (go_at_call 19; refine (c19 _ 0 0 [] _ rfl (by omega) (by simp) (by exact HR.out)).mono ?_; rintro e w' ⟨rfl, rfl⟩) | (go_at_call 20; refine (c20 _ 0 0 [] _ rfl (by omega) (by simp) (by exact HR.out)).mono ?_; rintro e w' ⟨rfl, rfl⟩))
  go_region_law (first
    | (refine step_app rfl (.tmp 36) (.tmp 39) 33 rfl i0 Try.underlying33 hi hz0 hz1 hz2 w.heap.size 0 (.slice (some ⟨w.heap.size, 0, none⟩) 0 0) [] (by simp [Act.eval]) O0.out (some x) 0 0 [] (by simp [Act.eval]) (S0.out _) (by simp) (by decide) (by decide) (by simp) ?_; intro A1 c1 w1 hown1 hrow1 hg1; have B1 := Lib.hid (B0.out.grown hg1 (by simp) (fun q hq => by simp [Value.ownBlock] at hq; omega)))
    | (refine step_app rfl (.tmp 40) (.tmp 43) 33 rfl i0 Try.underlying33 hi hz0 hz1 hz2 w.heap.size 0 (.slice A1 0 c1) [] (by simp [Act.eval]) hown1 (some x) 0 0 [] (by simp [Act.eval]) (S0.out _) (by simp) (by decide) (by decide) B1.out.size ?_; intro A2 c2 w2 hown2 hrow2 hg2)
    | (go_simp; go_at_call 19; refine (c19 A2 0 c2 [] _ rfl (by omega) (by simp) hrow2).mono ?_; rintro e w' ⟨rfl, rfl⟩))
  all_goals
    have B2 := Lib.hid (B1.out.grown hg2 B1.out.size (own_base hown1))
    clear hown1 hrow1 hown2 hrow2
    go_wp2
    go_ret
    exact ⟨rfl, B2.out⟩

theorem walkSumsA (a : Option Addr) (len cap : Nat) (turn : Int) (w : World) (h : 500 < len) (hm : len ≤ 9223372036854775807) :
    Calls Try.prog 5 #[.slice a len cap, .int .u16 turn] w fun e w' => e = .returned (.bool true) ∧ Below w.heap.size w w' := by
  go_enter Try.func5, Try.ntmps5
  go_wp2_with (go_at_call 9; refine (c9 _).mono ?_; rintro e w' ⟨rfl, rfl⟩)
  go_ret
  exact ⟨rfl, Below.refl _ _⟩

theorem walkSums (a : Option Addr) (len cap : Nat) (turn : Int) (xs : List Nat) (w : World) (hlen : xs.length = len) (hcap : len ≤ cap) (hcm : cap ≤ 9223372036854775807) (hw : ∀ x ∈ xs, x < 2 ^ 64)
    (hr : (a = none ∧ len = 0 ∧ cap = 0) ∨ (∃ x, a = some x ∧ len = 0 ∧ cap = 0) ∨ ∃ b off, a = some ⟨b, off, none⟩ ∧ ∀ i, i < len → w.cell? ⟨b, off + i, none⟩ = some (.float .f64 (xs.getD i 0))) (ht0 : 0 ≤ turn) (ht : turn < 65536) :
    Calls Try.prog 5 #[.slice a len cap, .int .u16 turn] w fun e w' => e = .returned (.bool true) ∧ Below w.heap.size w w' := by
  by_cases h5 : 500 < len
  · exact walkSumsA a len cap turn w h5 (by omega)
  rcases hr with ⟨rfl, rfl, rfl⟩ | ⟨x, rfl, rfl, rfl⟩ | ⟨b, off, rfl, hc⟩
  · exact walkSumsB turn w
  · exact walkSumsE x turn w
  · by_cases h0 : len = 0
    · subst h0
      exact walkSumsC b off cap turn w
    · have e := Int.emod_nonneg turn (show (len : Int) ≠ 0 by omega)
      exact walkSumsD b off len cap (turn % len).toNat turn xs w hlen (by omega) (by omega) hcap hcm hw hc ht0 ht (by omega)
end Go.Proofs.Ytibijjaeekameaa
