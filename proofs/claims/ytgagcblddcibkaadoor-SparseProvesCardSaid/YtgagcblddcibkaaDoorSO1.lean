/-
  An account that came in by value; a row of deeds that came in.
-/
import Derived.Test.YtgagcblddcibkaaDoorHO1
import Derived.Test.YtgagcblddcibkaaDoorS15
import Derived.Deep.Slices
namespace Go.Proofs.YtgagcblddcibkaaDoor
open Go.RowKit
open Go.ChangeShapes Go.WideShapes Go.ChangeAt Go.Deep
section
variable {H : Type} {enc' : TypeId × Value → H} {w : World} {base : Nat} {spare : Nat → Bool} {held : Bool}
theorem okWide_struct {P : Program} {r : Reach} {b0 : Nat} {t : TypeId} {fs : Array Field} {v : Value} (ht : P.underlying t = some (.struct fs)) (h : Value.okWide P w r b0 t v) : ∃ cs : Array Value, v = .agg cs ∧ cs.size = P.cellsOf t := by
  simp only [Value.okWide, ht] at h
  obtain ⟨cs, h1, h2, _⟩ := h
  exact ⟨cs, h1, h2⟩
theorem acct_of {r : Reach} {b0 : Nat} {v : Value} {d : DataW H} {p : List MemPlace} (hv : Value.okWide Tryd.prog w r b0 50 v) (hd : DataW.Trod enc' Tryd.prog w base spare held 50 v d p) :
    ∃ o0 o1 o2 o3 o4 o5 o6 o7 am no : Int, v = .agg #[.int .u8 o0, .int .u8 o1, .int .u8 o2, .int .u8 o3, .int .u8 o4, .int .u8 o5, .int .u8 o6, .int .u8 o7, .int .i64 am, .int .i64 no] := by
  obtain ⟨cs, rfl, hsz⟩ := okWide_struct Tryd.underlying50 hv
  obtain ⟨fuel, h⟩ := hd
  obtain ⟨ys, n, _, hx, hcl, hyl, hf⟩ := DataW.trod_struct Tryd.underlying50 h
  have k50 : Tryd.prog.cellsOf 50 = 10 := by kernel_rfl
  have k3 : Tryd.prog.cellsOf 3 = 1 := by kernel_rfl
  simp only [Value.cells] at hcl hf
  rw [k50] at hcl
  obtain ⟨l, hl⟩ : ∃ l, cs.toList = l := ⟨_, rfl⟩
  have hcs : cs = l.toArray := by rw [← hl]
  rw [hl] at hcl hf
  match l, hcl with
  | [c0, c1, c2, c3, c4, c5, c6, c7, c8, c9], _ =>
    match ys, hyl with
    | [y0, y1, y2], _ =>
      have f0 : DataW.trod enc' Tryd.prog w base spare held n 29 (([c0, c1, c2, c3, c4, c5, c6, c7, c8, c9].drop 0).take (Tryd.prog.cellsOf 29)) = some y0 := hf 0 _ rfl
      have f1 : DataW.trod enc' Tryd.prog w base spare held n 3 (([c0, c1, c2, c3, c4, c5, c6, c7, c8, c9].drop 8).take (Tryd.prog.cellsOf 3)) = some y1 := hf 1 _ rfl
      have f2 : DataW.trod enc' Tryd.prog w base spare held n 3 (([c0, c1, c2, c3, c4, c5, c6, c7, c8, c9].drop 9).take (Tryd.prog.cellsOf 3)) = some y2 := hf 2 _ rfl
      rw [c27s] at f0
      rw [k3] at f1 f2
      obtain ⟨a, e1, _, _⟩ := DataW.trod_int Tryd.underlying3 f1
      obtain ⟨b, e2, _, _⟩ := DataW.trod_int Tryd.underlying3 f2
      simp at e1 e2
      obtain ⟨hl8, hi8⟩ := open27 f0
      obtain ⟨ol, h1, h2, _⟩ := rows_of hl8 hi8
      obtain ⟨o0, o1, o2, o3, o4, o5, o6, o7, rfl⟩ := c8cells ol h2
      simp [bvals] at h1
      obtain ⟨rfl, rfl, rfl, rfl, rfl, rfl, rfl, rfl⟩ := h1
      subst e1 e2
      exact ⟨o0, o1, o2, o3, o4, o5, o6, o7, a, b, by rw [hcs]⟩
end
end Go.Proofs.YtgagcblddcibkaaDoor
