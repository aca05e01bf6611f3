/-
  EdgeSums, for every row of floats and every turn: Sum is the sum of the works in whole numbers, the document's own, in whatever order; one float that is none spoils it. No conditions.
-/
import Derived.Test.YtibijjaeekameaaRows
import Derived.Test.YtibijjaeekameaaW10
import Derived.Test.YtibijjaeekameaaArr
import Derived.Deep.Slices
import Derived.ChangeOld
import Derived.Below
namespace Go.Proofs.Ytibijjaeekameaa
namespace Sums
open Fl
open Go.ChangeShapes Go.WideShapes Go.ChangeAt Go.RowKit

theorem own : ownKnob Try.prog.godebug = none := by kernel_rfl
theorem laidOut : laidOutB Try.prog = true := by kernel_rfl

set_option maxRecDepth 100000 in
theorem lifted (os : Os) (started : os.Started) (H : Type) (enc : TypeId × Value → H) :
    ReturnsInHanded {} Try.checked os 5 .any (Rows.edgeSumsSpec.pre6 enc Try.prog Try.f5 Rows.edgeSumsRow.domain false) (Rows.edgeSumsSpec.post enc Try.prog Try.f5 false true false false) := by
  refine returnsInHanded_of_change (C := Try.checked) own started (by kernel_rfl) Try.func5
    (ChangeSpec.witness6 (enc := enc) (C := Try.checked) false ⟨#[], #[.slice none 0 0, .int .u16 0], []⟩ 8 (by kernel_rfl) (by kernel_rfl) (by kernel_rfl) (by kernel_rfl)) ?_
  intro W base args ds gs before hval0 hW hcnd _
  have hval : ∀ (j : Nat) t v, Try.f5.params[j]? = some t → args[j]? = some v → Value.okWide Try.prog W .any base t v := hval0
  have hW' := hW
  obtain ⟨p, q, hA0, hV, rfl, hfz, hnd⟩ := hW
  have hA : DataW.TrodAll enc Try.prog W 0 (fun _ => true) true Try.f5.params.toList args.toList ds p := hA0
  rw [Try.params5] at hA hval
  obtain ⟨v0, vs0, d0, ds0, p0, q0, hargs, rfl, rfl, h0, r0⟩ := trodAll_cons hA
  obtain ⟨v1, vs1, d1, ds1, p1, q1, rfl, rfl, rfl, h1, r1⟩ := trodAll_cons r0
  obtain ⟨rfl, rfl, rfl⟩ := trodAll_nil r1
  obtain rfl : args = #[v0, v1] := by cases args; simp_all
  obtain ⟨rfl, rfl⟩ := trodVars_none hV
  obtain ⟨a0, len0, cap0, rfl⟩ := okWide_slice Try.underlying33 (hval 0 33 v0 rfl rfl)
  have k0 := h0
  have lt0 : ∀ x ∈ p0, x.block < W.heap.size := by obtain ⟨m, hm⟩ := k0; exact DataW.trod_lt m _ _ _ hm
  obtain ⟨xs, hl, hcap, hcm, hw, hr⟩ : ∃ xs : List Nat, xs.length = len0 ∧ len0 ≤ cap0 ∧ cap0 ≤ 9223372036854775807 ∧ (∀ x ∈ xs, x < 2 ^ 64) ∧
      ((a0 = none ∧ len0 = 0 ∧ cap0 = 0) ∨ (∃ x, a0 = some x ∧ len0 = 0 ∧ cap0 = 0) ∨ ∃ b off, a0 = some ⟨b, off, none⟩ ∧ ∀ i, i < len0 → W.cell? ⟨b, off + i, none⟩ = some (.float .f64 (xs.getD i 0))) := by
    obtain ⟨fuel, hf⟩ := h0
    rcases Go.Deep.open_slice1 Try.underlying33 (by kernel_rfl) hf with ⟨hcs, _⟩ | ⟨x, l, c, m, n, V, D, Pl, hcs, _, hl, hm, hmm, _, hcell⟩
    · simp [Value.cells] at hcs
      obtain ⟨rfl, rfl, rfl⟩ := hcs
      exact ⟨[], rfl, by omega, by omega, by simp, .inl ⟨rfl, rfl, rfl⟩⟩
    · simp [Value.cells] at hcs
      obtain ⟨rfl, rfl, rfl⟩ := hcs
      simp only [if_true] at hmm
      have hh : ∀ i, ∃ z : Nat, z < 2 ^ 64 ∧ (i < len0 → W.cell? (x.add i) = some (.float .f64 z)) := by
        intro i
        by_cases hi : i < len0
        · obtain ⟨e1, e2⟩ := hcell i (by omega)
          obtain ⟨z, e3, wz⟩ := trod_float Try.underlying23 e2
          rw [e3] at e1
          exact ⟨z, by simpa [Lit.wf] using wz, fun _ => e1⟩
        · exact ⟨0, by decide, fun h => absurd h hi⟩
      obtain ⟨F, hF⟩ : ∃ F : Nat → Nat, ∀ i, F i < 2 ^ 64 ∧ (i < len0 → W.cell? (x.add i) = some (.float .f64 (F i))) := ⟨fun i => Classical.choose (hh i), fun i => Classical.choose_spec (hh i)⟩
      have hget : ∀ i, i < len0 → ((List.range len0).map F).getD i 0 = F i := fun i hi => by simp [List.getD, hi]
      have hmx : cap0 ≤ 9223372036854775807 := hm
      refine ⟨(List.range len0).map F, by simp, hl, hmx, fun y hy => ?_, ?_⟩
      · simp only [List.mem_map] at hy
        obtain ⟨j, _, rfl⟩ := hy
        exact (hF j).1
      · by_cases hz : cap0 = 0
        · exact .inr (.inl ⟨x, rfl, by omega, hz⟩)
        · obtain ⟨b, off, spot⟩ := x
          have h00 := (hcell 0 (by omega)).1
          have hspot : spot = none := by simpa [Addr.add] using World.cell?_spot h00
          subst hspot
          refine .inr (.inr ⟨b, off, rfl, fun i hi => ?_⟩)
          have ea : (⟨b, off, none⟩ : Addr).add i = ⟨b, off + i, none⟩ := by unfold Addr.add; split <;> simp_all
          rw [hget i hi, ← ea]
          exact (hF i).2 hi
  obtain ⟨a1, rfl, rfl, rfl, w1⟩ := open_int Try.underlying34 (hval 1 34 v1 rfl rfl) h1
  have ht : 0 ≤ a1 ∧ a1 ≤ 65535 := by simpa [Lit.wf, IntKind.min, IntKind.max, IntKind.signed, IntKind.bits] using w1
  clear hA0 hval0
  refine (walkSums a0 len0 cap0 a1 xs W hl hcap hcm hw hr ht.1 (by omega)).mono fun e W' ⟨he, bel⟩ => ?_
  subst he
  exact ⟨_, rfl, _, _, _, [], _, [], hW', trodAll_mk1 (shut_bool Try.underlying4 _), (trodAll_cons_mk (Below.trod laidOut (by kernel_rfl) (of_decide_eq_true (by kernel_rfl)) k0 bel lt0) (trodAll_cons_mk (shut_int Try.underlying34 w1) trodAll_mk0)), rfl, bel.frame _, fun h => by cases h⟩

theorem over : Rows.edgeSumsRow.holds Try.pinned (OpenSpec.ofChange Rows.edgeSumsSpec) :=
  OpenClaim.holds_of_wide 5 Try.f5 rfl rfl rfl rfl rfl rfl rfl ⟨rfl, rfl, rfl, rfl, rfl⟩ rfl rfl rfl rfl rfl (by kernel_rfl) Try.func5 (by kernel_rfl)
    (of_decide_eq_true (by kernel_rfl)) (by unfold Func.isWrapper; first | (rw [if_pos (by decide +kernel)]; kernel_rfl) | (rw [if_neg (by decide +kernel)]; exact ⟨rfl, rfl⟩))
    (fun os started H enc _ => lifted os started H enc)
end Sums

theorem sums_holds : Rows.EdgeSumsSaid := Sums.over
end Go.Proofs.Ytibijjaeekameaa
