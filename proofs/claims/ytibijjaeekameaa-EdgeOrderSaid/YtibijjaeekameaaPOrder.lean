/-
  EdgeOrder, for every three floats: Compare is one order of them, the document's own; Of and Bits give them again; all NaNs are one. No conditions.
-/
import Derived.Test.YtibijjaeekameaaRows
import Derived.Test.YtibijjaeekameaaW7
import Derived.Test.YtibijjaeekameaaArr
import Derived.ChangeOld
import Derived.Below
namespace Go.Proofs.Ytibijjaeekameaa
namespace Order
open Go.ChangeShapes Go.WideShapes Go.ChangeAt Go.RowKit

theorem own : ownKnob Try.prog.godebug = none := by kernel_rfl
theorem laidOut : laidOutB Try.prog = true := by kernel_rfl

set_option maxRecDepth 100000 in
theorem lifted (os : Os) (started : os.Started) (H : Type) (enc : TypeId × Value → H) :
    ReturnsInHanded {} Try.checked os 6 .any (Rows.edgeOrderSpec.pre6 enc Try.prog Try.f6 Rows.edgeOrderRow.domain false) (Rows.edgeOrderSpec.post enc Try.prog Try.f6 false true false false) := by
  refine returnsInHanded_of_change (C := Try.checked) own started (by kernel_rfl) Try.func6
    (ChangeSpec.witness6 (enc := enc) (C := Try.checked) false ⟨#[], #[.agg #[.float .f64 0, .float .f64 0, .float .f64 0]], []⟩ 8 (by kernel_rfl) (by kernel_rfl) (by kernel_rfl) (by kernel_rfl)) ?_
  intro W base args ds gs before hval0 hW hcnd _
  have hval : ∀ (j : Nat) t v, Try.f6.params[j]? = some t → args[j]? = some v → Value.okWide Try.prog W .any base t v := hval0
  have hW' := hW
  obtain ⟨p, q, hA0, hV, rfl, hfz, hnd⟩ := hW
  have hA : DataW.TrodAll enc Try.prog W 0 (fun _ => true) true Try.f6.params.toList args.toList ds p := hA0
  rw [Try.params6] at hA hval
  obtain ⟨v0, vs0, d0, ds0, p0, q0, hargs, rfl, rfl, h0, r0⟩ := trodAll_cons hA
  obtain ⟨rfl, rfl, rfl⟩ := trodAll_nil r0
  obtain rfl : args = #[v0] := by cases args; simp_all
  obtain ⟨rfl, rfl⟩ := trodVars_none hV
  have k0 := h0
  have lt0 : ∀ x ∈ p0, x.block < W.heap.size := by obtain ⟨m, hm⟩ := k0; exact DataW.trod_lt m _ _ _ hm
  obtain ⟨cs, rfl, hl, hcs⟩ := open_array Try.underlying37 (by kernel_rfl) (by kernel_rfl) (hval 0 37 v0 rfl rfl) h0
  obtain ⟨L, hL⟩ : ∃ L : Nat → Nat, ∀ i, L i < 2 ^ 64 ∧ (i < 3 → cs[i]? = some (.float .f64 (L i))) := by
    have hh : ∀ i, ∃ z : Nat, z < 2 ^ 64 ∧ (i < 3 → cs[i]? = some (.float .f64 z)) := by
      intro i
      by_cases hi : i < 3
      · obtain ⟨c, m, y, e1, e2⟩ := hcs i hi
        obtain ⟨z, rfl, wz⟩ := trod_float Try.underlying23 e2
        exact ⟨z, by simpa [Lit.wf] using wz, fun _ => e1⟩
      · exact ⟨0, by decide, fun h => absurd h hi⟩
    exact ⟨fun i => Classical.choose (hh i), fun i => Classical.choose_spec (hh i)⟩
  obtain rfl : cs = [.float .f64 (L 0), .float .f64 (L 1), .float .f64 (L 2)] := by
    apply List.ext_getElem?
    intro i
    match i with
    | 0 => simpa using (hL 0).2 (by omega)
    | 1 => simpa using (hL 1).2 (by omega)
    | 2 => simpa using (hL 2).2 (by omega)
    | n + 3 => rw [List.getElem?_eq_none (by omega), List.getElem?_eq_none (by simp)]
  clear hA0 hval0
  refine (walkOrder L (fun o => (hL o).1) W).mono fun e W' ⟨he, bel⟩ => ?_
  subst he
  exact ⟨_, rfl, _, _, _, [], _, [], hW', trodAll_mk1 (shut_bool Try.underlying4 _), (trodAll_cons_mk (Below.trod laidOut (by kernel_rfl) (of_decide_eq_true (by kernel_rfl)) k0 bel lt0) trodAll_mk0), rfl, bel.frame _, fun h => by cases h⟩

theorem over : Rows.edgeOrderRow.holds Try.pinned (OpenSpec.ofChange Rows.edgeOrderSpec) :=
  OpenClaim.holds_of_wide 6 Try.f6 rfl rfl rfl rfl rfl rfl rfl ⟨rfl, rfl, rfl, rfl, rfl⟩ rfl rfl rfl rfl rfl (by kernel_rfl) Try.func6 (by kernel_rfl)
    (of_decide_eq_true (by kernel_rfl)) (by unfold Func.isWrapper; first | (rw [if_pos (by decide +kernel)]; kernel_rfl) | (rw [if_neg (by decide +kernel)]; exact ⟨rfl, rfl⟩))
    (fun os started H enc _ => lifted os started H enc)
end Order

theorem order_holds : Rows.EdgeOrderSaid := Order.over
end Go.Proofs.Ytibijjaeekameaa
