/-
  A hash, a row of hashes that came in; what the listed table reads as.
-/
import Derived.Test.YtffaddefnpkcgaaGreatDoorHA
import Derived.ProofKit
import Derived.OpenShut
import Derived.LaidMore
import Derived.Laws.Cover2
namespace Go.Proofs.YtffaddefnpkcgaaGreatDoor
open Go.ChangeShapes Go.WideShapes Go.ChangeAt Go.RowKit
set_option maxRecDepth 100000
section
variable {H : Type} {enc : TypeId × Value → H} {w : World} {base : Nat} {spare : Nat → Bool} {held : Bool}
theorem c27s : Tryz.prog.cellsOf 29 = 8 := by kernel_rfl
theorem c5c : Tryz.prog.cellsOf 5 = 1 := by kernel_rfl
theorem c43s : Tryz.prog.cellsOf 148 = 1 := by kernel_rfl
/-- cells that are bytes, one by one -/
theorem rows_of {n : Nat} {cs : List Value} (hl : cs.length = n) (h : ∀ i, i < n → ∃ z : Int, (0 ≤ z ∧ z < 256) ∧ cs[i]? = some (.int .u8 z)) : ∃ l : List Int, cs = bvals l ∧ l.length = n ∧ Byt l := by
  induction cs generalizing n with
  | nil => exact ⟨[], rfl, by simpa using hl, fun x hx => by cases hx⟩
  | cons c cs ih =>
    cases n with
    | zero => cases hl
    | succ n =>
      obtain ⟨z, hz, h0⟩ := h 0 (by omega)
      obtain ⟨l, h1, h2, h3⟩ := ih (n := n) (by simpa using hl) (fun i hi => by
        obtain ⟨y, hy, e⟩ := h (i + 1) (by omega)
        exact ⟨y, hy, by simpa using e⟩)
      simp at h0
      subst h0
      refine ⟨z :: l, by simp [bvals, h1], by simp [h2], fun x hx => ?_⟩
      rcases List.mem_cons.1 hx with rfl | hx
      · exact hz
      · exact h3 x hx
theorem open27 {fuel : Nat} {cs : List Value} {x : DataW H × List MemPlace} (h : DataW.trod enc Tryz.prog w base spare held fuel 29 cs = some x) :
    cs.length = 8 ∧ ∀ i, i < 8 → ∃ z : Int, (0 ≤ z ∧ z < 256) ∧ cs[i]? = some (.int .u8 z) := by
  obtain ⟨xs, m, _, _, hl, hx, hi⟩ := DataW.trod_array Tryz.underlying29 h
  rw [c27s] at hl
  refine ⟨hl, fun i hi8 => ?_⟩
  have e := hi i hi8
  rw [c5c, Nat.mul_one, List.getElem?_eq_getElem (by omega)] at e
  obtain ⟨z, e1, _, e4⟩ := DataW.trod_int Tryz.underlying5 e
  have hb := bounds_u8 e4
  refine ⟨z, by omega, ?_⟩
  have : (cs.drop i)[0]? = some (.int .u8 z) := by
    have := congrArg (fun l : List Value => l[0]?) e1
    simpa [List.getElem?_take] using this
  simpa using this
theorem okWide_array {P : Program} {r : Reach} {b0 n : Nat} {t e : TypeId} {v : Value} (ht : P.underlying t = some (.array n e)) (h : Value.okWide P w r b0 t v) : ∃ cs : Array Value, v = .agg cs ∧ cs.size = P.cellsOf t := by
  simp only [Value.okWide, ht] at h
  obtain ⟨cs, h1, h2, _⟩ := h
  exact ⟨cs, h1, h2⟩
/-- one hash that came in -/
theorem hash_of {r : Reach} {b0 : Nat} {v : Value} {d : DataW H} {p : List MemPlace} (hv : Value.okWide Tryz.prog w r b0 29 v) (hd : DataW.Trod enc Tryz.prog w base spare held 29 v d p) :
    ∃ l : List Int, v = .agg (ba l) ∧ l.length = 8 ∧ Byt l := by
  obtain ⟨cs, rfl, hsz⟩ := okWide_array Tryz.underlying29 hv
  obtain ⟨fuel, hf⟩ := hd
  obtain ⟨hl, hi⟩ := open27 hf
  simp only [Value.cells] at hl hi
  obtain ⟨l, h1, h2, h3⟩ := rows_of hl hi
  exact ⟨l, by rw [show cs = ba l by apply Array.ext'; rw [h1]; simp [ba]], h2, h3⟩
set_option maxRecDepth 100000 in
/-- a row of hashes that came in -/
theorem hashes_of {r : Reach} {b0 n : Nat} {t : TypeId} {v : Value} {d : DataW H} {p : List MemPlace} (ht : Tryz.prog.underlying t = some (.array n 29)) (hc : Tryz.prog.cellsOf t = 8 * n) (hv : Value.okWide Tryz.prog w r b0 t v) (hd : DataW.Trod enc Tryz.prog w base spare held t v d p) :
    ∃ l : List Int, v = .agg (ba l) ∧ l.length = 8 * n ∧ Byt l := by
  obtain ⟨cs, rfl, hsz⟩ := okWide_array ht hv
  obtain ⟨fuel, hf⟩ := hd
  obtain ⟨xs, m, _, _, hl, hx, hi⟩ := DataW.trod_array ht hf
  simp only [Value.cells] at hl hi
  rw [hc] at hl
  have hall : ∀ i, i < 8 * n → ∃ z : Int, (0 ≤ z ∧ z < 256) ∧ cs.toList[i]? = some (.int .u8 z) := fun i hin => by
    have e := hi (i / 8) (by omega)
    rw [c27s, List.getElem?_eq_getElem (by omega)] at e
    obtain ⟨_, hi2⟩ := open27 e
    obtain ⟨z, hz, e2⟩ := hi2 (i % 8) (by omega)
    refine ⟨z, hz, ?_⟩
    rw [List.getElem?_take, if_pos (by omega), List.getElem?_drop] at e2
    rw [← e2]
    congr 1
    omega
  obtain ⟨l, h1, h2, h3⟩ := rows_of hl hall
  exact ⟨l, by rw [show cs = ba l by apply Array.ext'; rw [h1]; simp [ba]], h2, h3⟩
end
/-- what every row of this seat lists -/
def laid1 {H : Type} : List (String × DataW H) := [("drawbridge/hash.keys", Rows.laid_drawbridge_hash_keys)]
theorem laidK {H : Type} : (Rows.laid_drawbridge_hash_keys : DataW H) = .agg (kk.map fun z => .lit (.int .u32 z)) := rfl
theorem gK : Tryz.prog.globalNamed "drawbridge/hash.keys" = some 0 := by kernel_rfl
theorem tK : (Tryz.prog.globals[0]?).map (·.type) = some 157 := by kernel_rfl
theorem keys_of_laid {W : World} (h : laidMetH Tryz.prog laid1 W) : Keys W := by
  rw [MakeChecks.laidMetH_plain _ _ _ (by kernel_rfl)] at h
  obtain ⟨ps, ⟨g0, t0, cs0, f0, p0, q0, hg0, ht0, hv0, hd0, _, _⟩, _, _⟩ := h
  obtain rfl := Option.some.inj (gK.symm.trans hg0)
  obtain rfl := Option.some.inj (tK.symm.trans ht0)
  intro i hi
  obtain ⟨xs, m, _, hx, hl, hn, hel⟩ := DataW.trod_array Tryz.underlying157 hd0
  have e := hel i hi
  rw [c43s, Nat.mul_one, List.getElem?_eq_getElem (by omega)] at e
  obtain ⟨z, e1, e2, _⟩ := DataW.trod_int Tryz.underlying148 e
  rw [World.var?_cell hg0 hv0 i]
  have h0 : (cs0.toList.drop i)[0]? = some (.int .u32 z) := by
    have := congrArg (fun l : List Value => l[0]?) e1
    simpa [List.getElem?_take] using this
  have h1 : cs0[i]? = some (.int .u32 z) := by simpa using h0
  rw [h1]
  simp only [laidK, Prod.mk.injEq, DataW.agg.injEq] at hx
  have h2 : (kk.map fun z => (DataW.lit (.int .u32 z)))[i]? = (xs.map (·.1))[i]? := by rw [hx.1]
  rw [List.getElem?_map, List.getElem?_map, List.getElem?_eq_getElem (show i < xs.length by omega), List.getElem?_eq_getElem (show i < kk.length from hi)] at h2
  simp [e2] at h2
  simp [List.getD, h2, show i < kk.length from hi]
theorem door_met (os : Os) (args : Array Value) : laidMetH Tryz.prog laid1 ((World.doorLaid Tryz.prog 400 os).forCall (fun _ _ => 0) ⟨#[], args, []⟩).memory :=
  laidMetH_of_parts3 (fuel := 8) (laidMet_of_run' 8 (by kernel_rfl) (by kernel_rfl)) (by kernel_rfl) (by kernel_rfl)
end Go.Proofs.YtffaddefnpkcgaaGreatDoor
