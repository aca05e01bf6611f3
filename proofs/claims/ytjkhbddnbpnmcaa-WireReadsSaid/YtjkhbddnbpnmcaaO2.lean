/-
  A slice of pieces, and a slice of bytes, as an argument.
-/
import Derived.Test.YtjkhbddnbpnmcaaO1
import Derived.Test.YtjkhbddnbpnmcaaW10
namespace Go.Proofs.Ytjkhbddnbpnmcaa
open Go.ChangeShapes Go.WideShapes Go.ChangeAt Go.RowKit Go.Deep
section
variable {H : Type} {enc' : TypeId × Value → H} {w : World} {base : Nat} {spare : Nat → Bool} {held : Bool}
theorem parts_of {v : Value} {d : DataW H} {p : List MemPlace} {r : Reach} {b0 : Nat} (hv : Value.okWide Try.prog w r b0 22 v) (h : DataW.Trod enc' Try.prog w base spare held 22 v d p) (hs : ∀ n ∈ d.weights Try.prog 22, n ≤ reachBytes) :
    ∃ (A : Option Addr) (len cap : Nat) (P : Nat → Prt), v = .slice A len cap ∧ Parts w A len P ∧ len ≤ 140737488351232 ∧ ∀ i, i < len → (P i).len ≤ 140737488351232 := by
  obtain ⟨a, l, c, rfl⟩ := okWide_slice Try.underlying22 hv
  obtain ⟨fuel, hf⟩ := h
  obtain ⟨A, len, cap, P, e, hp, _, _, hw⟩ := open_parts hf
  simp [Value.cells] at e
  obtain ⟨rfl, rfl, rfl⟩ := e
  exact ⟨_, _, _, P, rfl, hp, hw _ hs⟩
theorem bytes_of {v : Value} {d : DataW H} {p : List MemPlace} {r : Reach} {b0 : Nat} (hv : Value.okWide Try.prog w r b0 25 v) (h : DataW.Trod enc' Try.prog w base spare held 25 v d p) (hs : ∀ n ∈ d.weights Try.prog 25, n ≤ reachBytes) :
    ∃ (A : Option Addr) (len cap : Nat) (bs : List Int), v = .slice A len cap ∧ Src w A len bs ∧ Byt bs ∧ len ≤ cap ∧ cap ≤ 9223372036854775807 ∧ (A = none → cap = 0) ∧ len ≤ 140737488351232 := by
  obtain ⟨a, l, c, rfl⟩ := okWide_slice Try.underlying25 hv
  obtain ⟨fuel, hf⟩ := h
  obtain ⟨A, len, cap, bs, e, h1, h2, h3, h4, h5, hw⟩ := open_bytes hf
  simp [Value.cells] at e
  obtain ⟨rfl, rfl, rfl⟩ := e
  exact ⟨_, _, _, bs, rfl, h1, h2, h3, h4, h5, hw _ hs⟩
end
end Go.Proofs.Ytjkhbddnbpnmcaa
