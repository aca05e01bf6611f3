/-
  A row of deeds that came in.
-/
import Derived.Test.YtgagcblddcibkaaDoorHO1
import Derived.Test.YtgagcblddcibkaaDoorS24
import Derived.WideShapes
import Derived.Deep.Slices
namespace Go.Proofs.YtgagcblddcibkaaDoor
open Go.RowKit
open Go.ChangeShapes Go.WideShapes Go.ChangeAt Go.Deep
section
variable {H : Type} {enc' : TypeId × Value → H} {w : World} {base : Nat} {spare : Nat → Bool} {held : Bool}
theorem open_deed {fuel : Nat} {b o : Nat} {cs : List Value} {x : DataW H × List MemPlace} (h : DataW.trod enc' Tryd.prog w base spare held fuel 45 cs = some x) (hc : ∀ j, j < 9 → w.cell? ⟨b, o + j, none⟩ = cs[j]?) :
    ∃ q : Int × List Int, (w.cell? ⟨b, o, none⟩ = some (.int .i64 q.1) ∧ ∀ c, c < 8 → w.cell? ⟨b, o + 1 + c, none⟩ = some (.int .u8 (q.2.getD c 0))) ∧ q.2.length = 8 := by
  obtain ⟨ys, n, _, hx, hcl, hyl, hf⟩ := DataW.trod_struct Tryd.underlying45 h
  have k45 : Tryd.prog.cellsOf 45 = 9 := by kernel_rfl
  have k3 : Tryd.prog.cellsOf 3 = 1 := by kernel_rfl
  rw [k45] at hcl
  match cs, hcl with
  | [c0, c1, c2, c3, c4, c5, c6, c7, c8], _ =>
    match ys, hyl with
    | [y0, y1], _ =>
      have f0 : DataW.trod enc' Tryd.prog w base spare held n 3 (([c0, c1, c2, c3, c4, c5, c6, c7, c8].drop 0).take (Tryd.prog.cellsOf 3)) = some y0 := hf 0 _ rfl
      have f1 : DataW.trod enc' Tryd.prog w base spare held n 29 (([c0, c1, c2, c3, c4, c5, c6, c7, c8].drop 1).take (Tryd.prog.cellsOf 29)) = some y1 := hf 1 _ rfl
      rw [k3] at f0
      rw [c27s] at f1
      obtain ⟨a, e1, _, _⟩ := DataW.trod_int Tryd.underlying3 f0
      simp at e1
      obtain ⟨hl8, hi8⟩ := open27 f1
      obtain ⟨ol, h1, h2, _⟩ := rows_of hl8 hi8
      subst e1
      refine ⟨(a, ol), ⟨hc 0 (by decide), fun c hc8 => ?_⟩, h2⟩
      have e := hc (1 + c) (by omega)
      rw [← Nat.add_assoc] at e
      rw [e]
      have e2 : ([Value.int .i64 a, c1, c2, c3, c4, c5, c6, c7, c8] : List Value)[1 + c]? = (bvals ol)[c]? := by
        rw [← h1, Nat.add_comm]; simp [hc8]
      rw [e2]
      simp [bvals, List.getD, List.getElem?_eq_getElem (show c < ol.length by omega)]
theorem open_deeds {fuel : Nat} {cs : List Value} {x : DataW H × List MemPlace} (h : DataW.trod enc' Tryd.prog w base spare held fuel 22 cs = some x) :
    ∃ (A : Option Addr) (len cap : Nat) (P : Nat → Int × List Int), cs = [.slice A len cap] ∧ Dds w A len P ∧ len ≤ cap ∧ cap ≤ 9223372036854775807 := by
  have k45 : Tryd.prog.cellsOf 45 = 9 := by kernel_rfl
  rcases open_slice Tryd.underlying22 h with ⟨rfl, hx⟩ | ⟨a, l, c, m, n, D, Pl, rfl, hb, hl, hm, hmm, hx, hcell⟩
  · exact ⟨none, 0, 0, fun _ => (0, []), rfl, ⟨.inl rfl, fun i hi => by omega⟩, Nat.le_refl _, by decide⟩
  · have hml : l ≤ m := by rw [hmm]; split <;> omega
    unfold maxLen at hm
    by_cases hz : l = 0
    · subst hz
      exact ⟨some a, 0, c, fun _ => (0, []), rfl, ⟨.inl rfl, fun i hi => by omega⟩, hl, hm⟩
    · obtain ⟨b, off, spot⟩ := a
      have hspot : spot = none := by
        obtain ⟨cs', h1, h2⟩ := hcell 0 (by omega)
        obtain ⟨_, _, h3⟩ := World.cells?_some h1
        obtain ⟨_, _, _, _, hcl, _⟩ := DataW.trod_struct Tryd.underlying45 h2
        have h4 := h3 0 (by rw [k45]; decide)
        rw [List.getElem?_eq_getElem (by rw [hcl, k45]; decide)] at h4
        simpa [Addr.add] using World.cell?_spot h4
      subst hspot
      have ea : ∀ i, (⟨b, off, none⟩ : Addr).add i = ⟨b, off + i, none⟩ := fun i => by unfold Addr.add; split <;> simp_all
      have ea2 : ∀ o i, (⟨b, o, none⟩ : Addr).add i = ⟨b, o + i, none⟩ := fun o i => by unfold Addr.add; split <;> simp_all
      have hh : ∀ i, ∃ q : Int × List Int, i < l → (w.cell? ⟨b, off + i * 9, none⟩ = some (.int .i64 q.1) ∧ ∀ c, c < 8 → w.cell? ⟨b, off + i * 9 + 1 + c, none⟩ = some (.int .u8 (q.2.getD c 0))) ∧ q.2.length = 8 := by
        intro i
        by_cases hi : i < l
        · obtain ⟨cs', h1, h2⟩ := hcell i (by omega)
          obtain ⟨_, _, h3⟩ := World.cells?_some h1
          rw [k45] at h3
          obtain ⟨q, hq⟩ := open_deed (b := b) (o := off + i * 9) h2 (fun j hj => by
            have := h3 j hj
            rwa [ea, ea2] at this)
          exact ⟨q, fun _ => hq⟩
        · exact ⟨(0, []), fun h => absurd h hi⟩
      refine ⟨some ⟨b, off, none⟩, l, c, fun i => Classical.choose (hh i), rfl, ⟨.inr ⟨b, off, rfl, fun i hi => (Classical.choose_spec (hh i) hi).1⟩, fun i hi => (Classical.choose_spec (hh i) hi).2⟩, hl, hm⟩
/-- a row of deeds that came in -/
theorem deeds_of {r : Reach} {b0 : Nat} {v : Value} {d : DataW H} {p : List MemPlace} (hv : Value.okWide Tryd.prog w r b0 22 v) (hd : DataW.Trod enc' Tryd.prog w base spare held 22 v d p) :
    ∃ (A : Option Addr) (len cap : Nat) (P : Nat → Int × List Int), v = .slice A len cap ∧ Dds w A len P ∧ len ≤ cap ∧ cap ≤ 9223372036854775807 := by
  obtain ⟨a, l, c, rfl⟩ := okWide_slice Tryd.underlying22 hv
  obtain ⟨fuel, hf⟩ := hd
  obtain ⟨A, len, cap, P, e, rest⟩ := open_deeds hf
  simp [Value.cells] at e
  obtain ⟨rfl, rfl, rfl⟩ := e
  exact ⟨_, _, _, P, rfl, rest⟩
end
end Go.Proofs.YtgagcblddcibkaaDoor
