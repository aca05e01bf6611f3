/-
  A hash, a row of hashes that came in; what the listed table reads as.
-/
import Derived.Test.YtffaddefnpkcgaaGreatDoorZHA
import Derived.ProofKit
import Derived.OpenShut
import Derived.LaidMore
import Derived.Laws.Cover2
namespace Go.Proofs.YtffaddefnpkcgaaGreatDoor
open Go.ChangeShapes Go.WideShapes Go.ChangeAt Go.RowKit
set_option maxRecDepth 100000
section
variable {H : Type} {enc : TypeId × Value → H} {w : World} {base : Nat} {spare : Nat → Bool} {held : Bool}
theorem c43s : Tryz.prog.cellsOf 148 = 1 := by kernel_rfl
end
def laid1 {H : Type} : List (String × DataW H) := [("drawbridge/hash.keys", Rows.laid_drawbridge_hash_keys)]
theorem laidK {H : Type} : (Rows.laid_drawbridge_hash_keys : DataW H) = .agg (kk.map fun z => .lit (.int .u32 z)) := rfl
theorem gK : Tryz.prog.globalNamed "drawbridge/hash.keys" = some 0 := by kernel_rfl
theorem tK : (Tryz.prog.globals[0]?).map (·.type) = some 157 := by kernel_rfl
theorem keys_of_laid {W : World} (h : laidMetH Tryz.prog laid1 W) : Keys W := by
  rw [MakeChecks.laidMetH_plain _ _ _ (by kernel_rfl)] at h
  obtain ⟨ps, ⟨g0, t0, cs0, f0, p0, q0, hg0, ht0, hv0, hd0, _, _⟩, _, _⟩ := h
  obtain rfl := Option.some.inj (gK.symm.trans hg0)
  obtain rfl := Option.some.inj (tK.symm.trans ht0)
  intro i hi
  obtain ⟨xs, m, _, hx, hl, hn, hel⟩ := DataW.trod_array Tryz.underlying157 hd0
  have e := hel i hi
  rw [c43s, Nat.mul_one, List.getElem?_eq_getElem (by omega)] at e
  obtain ⟨z, e1, e2, _⟩ := DataW.trod_int Tryz.underlying148 e
  rw [World.var?_cell hg0 hv0 i]
  have h0 : (cs0.toList.drop i)[0]? = some (.int .u32 z) := by
    have := congrArg (fun l : List Value => l[0]?) e1
    simpa [List.getElem?_take] using this
  have h1 : cs0[i]? = some (.int .u32 z) := by simpa using h0
  rw [h1]
  simp only [laidK, Prod.mk.injEq, DataW.agg.injEq] at hx
  have h2 : (kk.map fun z => (DataW.lit (.int .u32 z)))[i]? = (xs.map (·.1))[i]? := by rw [hx.1]
  rw [List.getElem?_map, List.getElem?_map, List.getElem?_eq_getElem (show i < xs.length by omega), List.getElem?_eq_getElem (show i < kk.length from hi)] at h2
  simp [e2] at h2
  simp [List.getD, h2, show i < kk.length from hi]
theorem door_met (os : Os) (args : Array Value) : laidMetH Tryz.prog laid1 ((World.doorLaid Tryz.prog 400 os).forCall (fun _ _ => 0) ⟨#[], args, []⟩).memory :=
  laidMetH_of_parts3 (fuel := 8) (laidMet_of_run' 8 (by kernel_rfl) (by kernel_rfl)) (by kernel_rfl) (by kernel_rfl)
end Go.Proofs.YtffaddefnpkcgaaGreatDoor

