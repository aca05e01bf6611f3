/-
  MoneyGuards, for every row and every depth: what goes beyond panics, however deep, and is recovered where it was begun; what was done ahead stays done. No conditions.
-/
import Derived.Test.YtbolcpglkjjheaaRows
import Derived.Test.YtbolcpglkjjheaaW16
import Derived.ProofKit
import Derived.OpenShut
import Derived.Laws.Cover2
import Derived.ChangeOld
import Derived.Below
import Derived.Deep.Slices
namespace Go.Proofs.Ytbolcpglkjjheaa
namespace PMoneyGuards
open Go.ChangeShapes Go.WideShapes Go.ChangeAt Go.RowKit
open Go.ChangeMaps (open_string shut_string)

theorem own : ownKnob Try.prog.godebug = none := by kernel_rfl
theorem laidOut : laidOutB Try.prog = true := by kernel_rfl

set_option maxRecDepth 100000 in
theorem lifted (os : Os) (started : os.Started) (H : Type) (enc : TypeId × Value → H) :
    ReturnsInHanded {} Try.checked os 5 .any (Rows.moneyGuardsSpec.pre6 enc Try.prog Try.f5 Rows.moneyGuardsRow.domain false) (Rows.moneyGuardsSpec.post enc Try.prog Try.f5 false true false false) := by
  refine returnsInHanded_of_change (C := Try.checked) own started (by kernel_rfl) Try.func5
    (ChangeSpec.witness6 (enc := enc) (C := Try.checked) false ⟨#[], #[.slice none 0 0, .int .u8 0], []⟩ 8 (by kernel_rfl) (by kernel_rfl) (by kernel_rfl) (by kernel_rfl)) ?_
  intro W base args ds gs before hval0 hW hcnd _
  have hval : ∀ (j : Nat) t v, Try.f5.params[j]? = some t → args[j]? = some v → Value.okWide Try.prog W .any base t v := hval0
  have hW' := hW
  obtain ⟨p, q, hA0, hV, rfl, hfz, hnd⟩ := hW
  have hA : DataW.TrodAll enc Try.prog W 0 (fun _ => true) true Try.f5.params.toList args.toList ds p := hA0
  rw [Try.params5] at hA hval
  obtain ⟨v0, vs0, d0, ds0, p0, q0, hargs, rfl, rfl, h0, r0⟩ := trodAll_cons hA
  obtain ⟨v1, vs1, d1, ds1, p1, q1, rfl, rfl, rfl, h1, r1⟩ := trodAll_cons r0
  obtain ⟨rfl, rfl, rfl⟩ := trodAll_nil r1
  obtain rfl : args = #[v0, v1] := by cases args; simp_all
  obtain ⟨rfl, rfl⟩ := trodVars_none hV
  have k0 := h0
  have lt0 : ∀ x ∈ p0, x.block < W.heap.size := by obtain ⟨m, hm⟩ := k0; exact DataW.trod_lt m _ _ _ hm
  obtain ⟨a0, len0, cap0, rfl⟩ := okWide_slice Try.underlying27 (hval 0 27 v0 rfl rfl)
  obtain ⟨xs0, hl0, hcap0, hcm0, hr0⟩ : ∃ xs : List Int, xs.length = len0 ∧ len0 ≤ cap0 ∧ cap0 ≤ 9223372036854775807 ∧
      ((a0 = none ∧ len0 = 0 ∧ cap0 = 0) ∨ (∃ x, a0 = some x ∧ len0 = 0 ∧ cap0 = 0) ∨ ∃ b off, a0 = some ⟨b, off, none⟩ ∧ 0 < cap0 ∧ ∀ i, i < len0 → W.cell? ⟨b, off + i, none⟩ = some (.int .i64 (xs.getD i 0))) := by
    obtain ⟨fuel, hf⟩ := h0
    rcases Go.Deep.open_slice1 Try.underlying27 (by kernel_rfl) hf with ⟨hcs, _⟩ | ⟨x, l, c, m, n, V, D, Pl, hcs, _, hl, hm, hmm, _, hcell⟩
    · simp [Value.cells] at hcs
      obtain ⟨rfl, rfl, rfl⟩ := hcs
      exact ⟨[], rfl, by omega, by omega, .inl ⟨rfl, rfl, rfl⟩⟩
    · simp [Value.cells] at hcs
      obtain ⟨rfl, rfl, rfl⟩ := hcs
      simp only [if_true] at hmm
      have hh : ∀ i, ∃ z : Int, i < len0 → W.cell? (x.add i) = some (.int .i64 z) := by
        intro i
        by_cases hi : i < len0
        · obtain ⟨e1, e2⟩ := hcell i (by omega)
          obtain ⟨z, e3, _, _⟩ := DataW.trod_int Try.underlying3 e2
          simp only [List.cons.injEq, and_true] at e3
          rw [e3] at e1
          exact ⟨z, fun _ => e1⟩
        · exact ⟨0, fun h => absurd h hi⟩
      obtain ⟨F, hF⟩ : ∃ F : Nat → Int, ∀ i, i < len0 → W.cell? (x.add i) = some (.int .i64 (F i)) := ⟨fun i => Classical.choose (hh i), fun i => Classical.choose_spec (hh i)⟩
      have hget : ∀ i, i < len0 → ((List.range len0).map F).getD i 0 = F i := fun i hi => by simp [List.getD, hi]
      have hmx : cap0 ≤ 9223372036854775807 := hm
      refine ⟨(List.range len0).map F, by simp, hl, hmx, ?_⟩
      by_cases hz : cap0 = 0
      · exact .inr (.inl ⟨x, rfl, by omega, hz⟩)
      · obtain ⟨b, off, spot⟩ := x
        have h00 := (hcell 0 (by omega)).1
        have hspot : spot = none := by simpa [Addr.add] using World.cell?_spot h00
        subst hspot
        refine .inr (.inr ⟨b, off, rfl, by omega, fun i hi => ?_⟩)
        have ea : (⟨b, off, none⟩ : Addr).add i = ⟨b, off + i, none⟩ := by unfold Addr.add; split <;> simp_all
        rw [hget i hi, ← ea]
        exact hF i hi
  have k1 := h1
  have lt1 : ∀ x ∈ p1, x.block < W.heap.size := by obtain ⟨m, hm⟩ := k1; exact DataW.trod_lt m _ _ _ hm
  obtain ⟨a1, rfl, rfl, rfl, w1⟩ := open_int Try.underlying5 (hval 1 5 v1 rfl rfl) h1
  have ht : 0 ≤ a1 ∧ a1 ≤ 255 := by simpa [Lit.wf, IntKind.min, IntKind.max, IntKind.signed, IntKind.bits] using w1
  clear hA0 hval0
  refine (walkGuards a0 len0 cap0 a1 xs0 W hl0 hcap0 hcm0 hr0 ht.1 ht.2).mono fun e W' ⟨he, bel⟩ => ?_
  subst he
  exact ⟨_, rfl, _, _, _, [], _, [], hW', trodAll_mk1 (shut_bool Try.underlying4 _), (trodAll_cons_mk (Below.trod laidOut (by kernel_rfl) (of_decide_eq_true (by kernel_rfl)) k0 bel lt0) (trodAll_cons_mk (Below.trod laidOut (by kernel_rfl) (of_decide_eq_true (by kernel_rfl)) k1 bel lt1) trodAll_mk0)), rfl, bel.frame _, fun h => by cases h⟩

theorem over : Rows.moneyGuardsRow.holds Try.pinned (OpenSpec.ofChange Rows.moneyGuardsSpec) :=
  OpenClaim.holds_of_wide 5 Try.f5 rfl rfl rfl rfl rfl rfl rfl ⟨rfl, rfl, rfl, rfl, rfl⟩ rfl rfl rfl rfl rfl (by kernel_rfl) Try.func5 (by kernel_rfl)
    (of_decide_eq_true (by kernel_rfl)) (by unfold Func.isWrapper; first | (rw [if_pos (by decide +kernel)]; kernel_rfl) | (rw [if_neg (by decide +kernel)]; exact ⟨rfl, rfl⟩))
    (fun os started H enc _ => lifted os started H enc)
end PMoneyGuards

theorem moneyGuards_holds : Rows.MoneyGuardsSaid := PMoneyGuards.over
end Go.Proofs.Ytbolcpglkjjheaa
