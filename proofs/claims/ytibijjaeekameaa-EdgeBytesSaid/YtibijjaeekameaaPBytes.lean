/-
  EdgeBytes, for every eight bytes: they are a float, whose bytes they are, or those of the one NaN. No conditions.
-/
import Derived.Test.YtibijjaeekameaaRows
import Derived.Test.YtibijjaeekameaaW6
import Derived.Test.YtibijjaeekameaaArr
import Derived.ChangeOld
import Derived.Below
namespace Go.Proofs.Ytibijjaeekameaa
namespace Bytes
open Go.ChangeShapes Go.WideShapes Go.ChangeAt Go.RowKit

theorem own : ownKnob Try.prog.godebug = none := by kernel_rfl
theorem laidOut : laidOutB Try.prog = true := by kernel_rfl

set_option maxRecDepth 100000 in
theorem lifted (os : Os) (started : os.Started) (H : Type) (enc : TypeId × Value → H) :
    ReturnsInHanded {} Try.checked os 8 .any (Rows.edgeBytesSpec.pre6 enc Try.prog Try.f8 Rows.edgeBytesRow.domain false) (Rows.edgeBytesSpec.post enc Try.prog Try.f8 false true false false) := by
  refine returnsInHanded_of_change (C := Try.checked) own started (by kernel_rfl) Try.func8
    (ChangeSpec.witness6 (enc := enc) (C := Try.checked) false ⟨#[], #[.agg #[.int .u8 0, .int .u8 0, .int .u8 0, .int .u8 0, .int .u8 0, .int .u8 0, .int .u8 0, .int .u8 0]], []⟩ 8 (by kernel_rfl) (by kernel_rfl) (by kernel_rfl) (by kernel_rfl)) ?_
  intro W base args ds gs before hval0 hW hcnd _
  have hval : ∀ (j : Nat) t v, Try.f8.params[j]? = some t → args[j]? = some v → Value.okWide Try.prog W .any base t v := hval0
  have hW' := hW
  obtain ⟨p, q, hA0, hV, rfl, hfz, hnd⟩ := hW
  have hA : DataW.TrodAll enc Try.prog W 0 (fun _ => true) true Try.f8.params.toList args.toList ds p := hA0
  rw [Try.params8] at hA hval
  obtain ⟨v0, vs0, d0, ds0, p0, q0, hargs, rfl, rfl, h0, r0⟩ := trodAll_cons hA
  obtain ⟨rfl, rfl, rfl⟩ := trodAll_nil r0
  obtain rfl : args = #[v0] := by cases args; simp_all
  obtain ⟨rfl, rfl⟩ := trodVars_none hV
  have k0 := h0
  have lt0 : ∀ x ∈ p0, x.block < W.heap.size := by obtain ⟨m, hm⟩ := k0; exact DataW.trod_lt m _ _ _ hm
  obtain ⟨cs, rfl, hl, hcs⟩ := open_array Try.underlying40 (by kernel_rfl) (by kernel_rfl) (hval 0 40 v0 rfl rfl) h0
  obtain ⟨a, ha⟩ : ∃ a : Nat → Int, ∀ i, i < 8 → cs[i]? = some (.int .u8 (a i)) ∧ 0 ≤ a i ∧ a i < 256 := by
    have hh : ∀ i, ∃ z : Int, i < 8 → cs[i]? = some (.int .u8 z) ∧ 0 ≤ z ∧ z < 256 := by
      intro i
      by_cases hi : i < 8
      · obtain ⟨c, m, y, e1, e2⟩ := hcs i hi
        obtain ⟨z, e3, _, wz⟩ := DataW.trod_int Try.underlying5 e2
        simp only [List.cons.injEq, and_true] at e3
        subst e3
        simp only [Lit.wf, IntKind.min, IntKind.max, IntKind.signed, IntKind.bits, Bool.and_eq_true] at wz
        exact ⟨z, fun _ => ⟨e1, by simpa using wz.1, by have := wz.2; simp at this; omega⟩⟩
      · exact ⟨0, fun h => absurd h hi⟩
    exact ⟨fun i => Classical.choose (hh i), fun i hi => Classical.choose_spec (hh i) hi⟩
  obtain ⟨u, hu, hcu⟩ : ∃ u : Nat, u < 18446744073709551616 ∧ cs.toArray = #[.int .u8 ((u : Int) % 256), .int .u8 ((u : Int) / 256 % 256), .int .u8 ((u : Int) / 65536 % 256), .int .u8 ((u : Int) / 16777216 % 256), .int .u8 ((u : Int) / 4294967296 % 256), .int .u8 ((u : Int) / 1099511627776 % 256), .int .u8 ((u : Int) / 281474976710656 % 256), .int .u8 ((u : Int) / 72057594037927936 % 256)] := by
    have g0 := ha 0 (by omega); have g1 := ha 1 (by omega); have g2 := ha 2 (by omega); have g3 := ha 3 (by omega)
    have g4 := ha 4 (by omega); have g5 := ha 5 (by omega); have g6 := ha 6 (by omega); have g7 := ha 7 (by omega)
    refine ⟨(a 0 + a 1 * 256 + a 2 * 65536 + a 3 * 16777216 + a 4 * 4294967296 + a 5 * 1099511627776 + a 6 * 281474976710656 + a 7 * 72057594037927936).toNat, by omega, ?_⟩
    have hc : cs = [.int .u8 (a 0), .int .u8 (a 1), .int .u8 (a 2), .int .u8 (a 3), .int .u8 (a 4), .int .u8 (a 5), .int .u8 (a 6), .int .u8 (a 7)] := by
      apply List.ext_getElem?
      intro i
      match i with
      | 0 => simpa using g0.1
      | 1 => simpa using g1.1
      | 2 => simpa using g2.1
      | 3 => simpa using g3.1
      | 4 => simpa using g4.1
      | 5 => simpa using g5.1
      | 6 => simpa using g6.1
      | 7 => simpa using g7.1
      | n + 8 => rw [List.getElem?_eq_none (by omega), List.getElem?_eq_none (by simp)]
    rw [hc]
    have hs : (((a 0 + a 1 * 256 + a 2 * 65536 + a 3 * 16777216 + a 4 * 4294967296 + a 5 * 1099511627776 + a 6 * 281474976710656 + a 7 * 72057594037927936).toNat : Nat) : Int) = a 0 + a 1 * 256 + a 2 * 65536 + a 3 * 16777216 + a 4 * 4294967296 + a 5 * 1099511627776 + a 6 * 281474976710656 + a 7 * 72057594037927936 := by omega
    rw [hs]
    obtain ⟨-, g0⟩ := g0; obtain ⟨-, g1⟩ := g1; obtain ⟨-, g2⟩ := g2; obtain ⟨-, g3⟩ := g3
    obtain ⟨-, g4⟩ := g4; obtain ⟨-, g5⟩ := g5; obtain ⟨-, g6⟩ := g6; obtain ⟨-, g7⟩ := g7
    have t0 : a 0 = (a 0 + a 1 * 256 + a 2 * 65536 + a 3 * 16777216 + a 4 * 4294967296 + a 5 * 1099511627776 + a 6 * 281474976710656 + a 7 * 72057594037927936) % 256 := by omega
    have t1 : a 1 = (a 0 + a 1 * 256 + a 2 * 65536 + a 3 * 16777216 + a 4 * 4294967296 + a 5 * 1099511627776 + a 6 * 281474976710656 + a 7 * 72057594037927936) / 256 % 256 := by omega
    have t2 : a 2 = (a 0 + a 1 * 256 + a 2 * 65536 + a 3 * 16777216 + a 4 * 4294967296 + a 5 * 1099511627776 + a 6 * 281474976710656 + a 7 * 72057594037927936) / 65536 % 256 := by omega
    have t3 : a 3 = (a 0 + a 1 * 256 + a 2 * 65536 + a 3 * 16777216 + a 4 * 4294967296 + a 5 * 1099511627776 + a 6 * 281474976710656 + a 7 * 72057594037927936) / 16777216 % 256 := by omega
    have t4 : a 4 = (a 0 + a 1 * 256 + a 2 * 65536 + a 3 * 16777216 + a 4 * 4294967296 + a 5 * 1099511627776 + a 6 * 281474976710656 + a 7 * 72057594037927936) / 4294967296 % 256 := by omega
    have t5 : a 5 = (a 0 + a 1 * 256 + a 2 * 65536 + a 3 * 16777216 + a 4 * 4294967296 + a 5 * 1099511627776 + a 6 * 281474976710656 + a 7 * 72057594037927936) / 1099511627776 % 256 := by omega
    have t6 : a 6 = (a 0 + a 1 * 256 + a 2 * 65536 + a 3 * 16777216 + a 4 * 4294967296 + a 5 * 1099511627776 + a 6 * 281474976710656 + a 7 * 72057594037927936) / 281474976710656 % 256 := by omega
    have t7 : a 7 = (a 0 + a 1 * 256 + a 2 * 65536 + a 3 * 16777216 + a 4 * 4294967296 + a 5 * 1099511627776 + a 6 * 281474976710656 + a 7 * 72057594037927936) / 72057594037927936 % 256 := by omega
    rw [← t0, ← t1, ← t2, ← t3, ← t4, ← t5, ← t6, ← t7]
  have wk := walkBytes u W hu
  rw [← hcu] at wk
  clear hA0 hval0
  refine wk.mono fun e W' ⟨he, bel⟩ => ?_
  subst he
  exact ⟨_, rfl, _, _, _, [], _, [], hW', trodAll_mk1 (shut_bool Try.underlying4 _), (trodAll_cons_mk (Below.trod laidOut (by kernel_rfl) (of_decide_eq_true (by kernel_rfl)) k0 bel lt0) trodAll_mk0), rfl, bel.frame _, fun h => by cases h⟩

theorem over : Rows.edgeBytesRow.holds Try.pinned (OpenSpec.ofChange Rows.edgeBytesSpec) :=
  OpenClaim.holds_of_wide 8 Try.f8 rfl rfl rfl rfl rfl rfl rfl ⟨rfl, rfl, rfl, rfl, rfl⟩ rfl rfl rfl rfl rfl (by kernel_rfl) Try.func8 (by kernel_rfl)
    (of_decide_eq_true (by kernel_rfl)) (by unfold Func.isWrapper; first | (rw [if_pos (by decide +kernel)]; kernel_rfl) | (rw [if_neg (by decide +kernel)]; exact ⟨rfl, rfl⟩))
    (fun os started H enc _ => lifted os started H enc)
end Bytes

theorem bytes_holds : Rows.EdgeBytesSaid := Bytes.over
end Go.Proofs.Ytibijjaeekameaa
