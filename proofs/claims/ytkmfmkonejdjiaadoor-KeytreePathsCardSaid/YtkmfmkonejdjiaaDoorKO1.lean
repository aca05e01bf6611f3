/-
  Two bytes that came in.
-/
import Derived.Test.YtkmfmkonejdjiaaDoorHO1
namespace Go.Proofs.YtkmfmkonejdjiaaDoor
open Go.ChangeShapes Go.WideShapes Go.ChangeAt Go.RowKit
section
variable {H : Type} {enc : TypeId × Value → H} {w : World} {base : Nat} {spare : Nat → Bool} {held : Bool}
theorem c38t : Tryd.prog.cellsOf 38 = 2 := by kernel_rfl
theorem arr2_of {r : Reach} {b0 : Nat} {v : Value} {d : DataW H} {p : List MemPlace} (hv : Value.okWide Tryd.prog w r b0 38 v) (hd : DataW.Trod enc Tryd.prog w base spare held 38 v d p) :
    ∃ l : List Int, v = .agg (ba l) ∧ l.length = 2 ∧ Byt l := by
  obtain ⟨cs, rfl, hsz⟩ := okWide_array Tryd.underlying38 hv
  obtain ⟨fuel, hf⟩ := hd
  obtain ⟨xs, m, _, _, hl, hx, hi⟩ := DataW.trod_array Tryd.underlying38 hf
  simp only [Value.cells] at hl hi
  rw [c38t] at hl
  have hall : ∀ i, i < 2 → ∃ z : Int, (0 ≤ z ∧ z < 256) ∧ cs.toList[i]? = some (.int .u8 z) := fun i hi2 => by
    have e := hi i hi2
    rw [c5c, Nat.mul_one, List.getElem?_eq_getElem (by omega)] at e
    obtain ⟨z, e1, _, e4⟩ := DataW.trod_int Tryd.underlying5 e
    have hb := bounds_u8 e4
    refine ⟨z, by omega, ?_⟩
    have : (cs.toList.drop i)[0]? = some (.int .u8 z) := by
      have := congrArg (fun l : List Value => l[0]?) e1
      simpa [List.getElem?_take] using this
    simpa using this
  obtain ⟨l, h1, h2, h3⟩ := rows_of hl hall
  exact ⟨l, by rw [show cs = ba l by apply Array.ext'; rw [h1]; simp [ba]], h2, h3⟩
end
end Go.Proofs.YtkmfmkonejdjiaaDoor
