/-
  An array of numbers or of floats that comes in by value, opened cell by cell.
-/
import Derived.ProofKit
import Derived.OpenShut
import Derived.Laws.Cover2
namespace Go.Proofs.Ytibijjaeekameaa
open Go.ChangeShapes Go.WideShapes Go.ChangeAt Go.RowKit
section
variable {H : Type} {enc : TypeId × Value → H} {P : Program} {w : World} {base : Nat} {spare : Nat → Bool} {held : Bool}

theorem okWide_array {r : Reach} {b0 n : Nat} {t e : TypeId} {v : Value} (ht : P.underlying t = some (.array n e)) (h : Value.okWide P w r b0 t v) : ∃ cs : Array Value, v = .agg cs ∧ cs.size = P.cellsOf t := by
  simp only [Value.okWide, ht] at h
  obtain ⟨cs, h1, h2, _⟩ := h
  exact ⟨cs, h1, h2⟩

theorem open_array {r : Reach} {b0 n : Nat} {t e : TypeId} {v : Value} {d : DataW H} {p : List MemPlace} (ht : P.underlying t = some (.array n e)) (he : P.cellsOf e = 1) (hc : P.cellsOf t = n)
    (hv : Value.okWide P w r b0 t v) (hd : DataW.Trod enc P w base spare held t v d p) :
    ∃ cs : List Value, v = .agg cs.toArray ∧ cs.length = n ∧ ∀ i, i < n → ∃ (c : Value) (m : Nat) (y : DataW H × List MemPlace), cs[i]? = some c ∧ DataW.trod enc P w base spare held m e [c] = some y := by
  obtain ⟨cs, rfl, hsz⟩ := okWide_array ht hv
  obtain ⟨fuel, hf⟩ := hd
  obtain ⟨xs, m, _, _, hl, hx, hi⟩ := DataW.trod_array ht hf
  simp only [Value.cells] at hl hi
  have hlen : cs.toList.length = n := by rw [hl, hc]
  refine ⟨cs.toList, by simp, hlen, fun i hin => ?_⟩
  have h1 := hi i hin
  rw [he, Nat.mul_one] at h1
  have hg : (cs.toList.drop i).take 1 = [cs.toList[i]'(by omega)] := by
    rw [List.drop_eq_getElem_cons (by omega)]; rfl
  rw [hg, List.getElem?_eq_getElem (by omega)] at h1
  exact ⟨_, m, _, List.getElem?_eq_getElem (by omega), h1⟩

theorem trod_float {k : FloatKind} {t : TypeId} {fuel : Nat} {c : Value} {y : DataW H × List MemPlace} (ht : P.underlying t = some (.float k)) (h : DataW.trod enc P w base spare held fuel t [c] = some y) : ∃ b, c = .float k b ∧ (Lit.float k b).wf = true := by
  cases fuel with
  | zero => simp [DataW.trod] at h
  | succ n =>
    simp only [DataW.trod, ht] at h
    cases c <;> simp at h
    rename_i k' b
    by_cases hk : k = k' ∧ (Lit.float k b).wf = true
    · exact ⟨b, by rw [hk.1], hk.2⟩
    · exfalso
      obtain ⟨h1, h2⟩ := h
      apply hk
      first
        | exact ⟨h1.1, h1.2⟩
        | (subst h1; simp_all)
        | simp_all
end
end Go.Proofs.Ytibijjaeekameaa
