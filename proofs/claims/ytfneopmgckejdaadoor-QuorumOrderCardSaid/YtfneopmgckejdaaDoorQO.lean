/-
  Parameters, a slice of numbers, a slice of bools, two bytes that came in.
-/
import Derived.Test.YtfneopmgckejdaaDoorMO1
import Derived.Test.YtfneopmgckejdaaDoorQ12
namespace Go.Proofs.YtfneopmgckejdaaDoor
open Go.ChangeShapes Go.WideShapes Go.ChangeAt Go.RowKit Go.Deep
section
variable {H : Type} {enc' : TypeId × Value → H} {w : World} {base : Nat} {spare : Nat → Bool} {held : Bool}
theorem c4s : Tryd.prog.cellsOf 4 = 1 := by kernel_rfl
theorem open_irow {fuel : Nat} {cs : List Value} {x : DataW H × List MemPlace} (h : DataW.trod enc' Tryd.prog w base spare held fuel 28 cs = some x) :
    ∃ (A : Option Addr) (len cap : Nat) (l : List Int), cs = [.slice A len cap] ∧ IRow w A l ∧ l.length = len ∧ len ≤ cap ∧ cap ≤ 9223372036854775807 := by
  rcases open_slice1 Tryd.underlying28 c3s h with ⟨rfl, hx⟩ | ⟨a, l, c, m, n, V, D, Pl, rfl, hb, hl, hm, hmm, hx, hcell⟩
  · exact ⟨none, 0, 0, [], rfl, .inl rfl, rfl, Nat.le_refl _, by decide⟩
  · have hml : l ≤ m := by rw [hmm]; split <;> omega
    unfold maxLen at hm
    by_cases hz : l = 0
    · subst hz
      exact ⟨some a, 0, c, [], rfl, .inl rfl, rfl, hl, hm⟩
    · obtain ⟨b, off, spot⟩ := a
      have hspot : spot = none := by
        have h4 := (hcell 0 (by omega)).1
        simpa [Addr.add] using World.cell?_spot h4
      subst hspot
      have hh : ∀ i, ∃ z : Int, i < l → w.cell? ⟨b, off + i, none⟩ = some (.int .i64 z) := by
        intro i
        by_cases hi : i < l
        · obtain ⟨h1, h2⟩ := hcell i (by omega)
          obtain ⟨z, e1, _, _⟩ := DataW.trod_int Tryd.underlying3 h2
          simp only [List.cons.injEq, and_true] at e1
          refine ⟨z, fun _ => ?_⟩
          rw [Addr.add_mid, e1] at h1
          exact h1
        · exact ⟨0, fun h => absurd h hi⟩
      obtain ⟨F, hF⟩ : ∃ F : Nat → Int, ∀ i, i < l → w.cell? ⟨b, off + i, none⟩ = some (.int .i64 (F i)) := ⟨fun i => Classical.choose (hh i), fun i => Classical.choose_spec (hh i)⟩
      refine ⟨some ⟨b, off, none⟩, l, c, (List.range l).map F, rfl, .inr ⟨b, off, rfl, fun i hi => ?_⟩, by simp, hl, hm⟩
      rw [List.length_map, List.length_range] at hi
      rw [show ((List.range l).map F).getD i 0 = F i by simp [List.getD, hi]]
      exact hF i hi
theorem open_lrow {fuel : Nat} {cs : List Value} {x : DataW H × List MemPlace} (h : DataW.trod enc' Tryd.prog w base spare held fuel 29 cs = some x) :
    ∃ (A : Option Addr) (len cap : Nat) (l : List Bool), cs = [.slice A len cap] ∧ LRow w A l ∧ l.length = len ∧ len ≤ cap ∧ cap ≤ 9223372036854775807 := by
  rcases open_slice1 Tryd.underlying29 c4s h with ⟨rfl, hx⟩ | ⟨a, l, c, m, n, V, D, Pl, rfl, hb, hl, hm, hmm, hx, hcell⟩
  · exact ⟨none, 0, 0, [], rfl, .inl rfl, rfl, Nat.le_refl _, by decide⟩
  · have hml : l ≤ m := by rw [hmm]; split <;> omega
    unfold maxLen at hm
    by_cases hz : l = 0
    · subst hz
      exact ⟨some a, 0, c, [], rfl, .inl rfl, rfl, hl, hm⟩
    · obtain ⟨b, off, spot⟩ := a
      have hspot : spot = none := by
        have h4 := (hcell 0 (by omega)).1
        simpa [Addr.add] using World.cell?_spot h4
      subst hspot
      have hh : ∀ i, ∃ z : Bool, i < l → w.cell? ⟨b, off + i, none⟩ = some (.bool z) := by
        intro i
        by_cases hi : i < l
        · obtain ⟨h1, h2⟩ := hcell i (by omega)
          obtain ⟨z, e1, _⟩ := DataW.trod_bool Tryd.underlying4 h2
          simp only [List.cons.injEq, and_true] at e1
          refine ⟨z, fun _ => ?_⟩
          rw [Addr.add_mid, e1] at h1
          exact h1
        · exact ⟨false, fun h => absurd h hi⟩
      obtain ⟨F, hF⟩ : ∃ F : Nat → Bool, ∀ i, i < l → w.cell? ⟨b, off + i, none⟩ = some (.bool (F i)) := ⟨fun i => Classical.choose (hh i), fun i => Classical.choose_spec (hh i)⟩
      refine ⟨some ⟨b, off, none⟩, l, c, (List.range l).map F, rfl, .inr ⟨b, off, rfl, fun i hi => ?_⟩, by simp, hl, hm⟩
      rw [List.length_map, List.length_range] at hi
      rw [show ((List.range l).map F).getD i false = F i by simp [List.getD, hi]]
      exact hF i hi
/-- a slice of numbers that came in -/
theorem irow_of {r : Reach} {b0 : Nat} {v : Value} {d : DataW H} {p : List MemPlace} (hv : Value.okWide Tryd.prog w r b0 28 v) (hd : DataW.Trod enc' Tryd.prog w base spare held 28 v d p) :
    ∃ (A : Option Addr) (len cap : Nat) (l : List Int), v = .slice A len cap ∧ IRow w A l ∧ l.length = len ∧ len ≤ cap ∧ cap ≤ 9223372036854775807 := by
  obtain ⟨a, l, c, rfl⟩ := okWide_slice Tryd.underlying28 hv
  obtain ⟨fuel, hf⟩ := hd
  obtain ⟨A, len, cap, l, e, rest⟩ := open_irow hf
  simp [Value.cells] at e
  obtain ⟨rfl, rfl, rfl⟩ := e
  exact ⟨_, _, _, l, rfl, rest⟩
/-- a slice of bools that came in -/
theorem lrow_of {r : Reach} {b0 : Nat} {v : Value} {d : DataW H} {p : List MemPlace} (hv : Value.okWide Tryd.prog w r b0 29 v) (hd : DataW.Trod enc' Tryd.prog w base spare held 29 v d p) :
    ∃ (A : Option Addr) (len cap : Nat) (l : List Bool), v = .slice A len cap ∧ LRow w A l ∧ l.length = len ∧ len ≤ cap ∧ cap ≤ 9223372036854775807 := by
  obtain ⟨a, l, c, rfl⟩ := okWide_slice Tryd.underlying29 hv
  obtain ⟨fuel, hf⟩ := hd
  obtain ⟨A, len, cap, l, e, rest⟩ := open_lrow hf
  simp [Value.cells] at e
  obtain ⟨rfl, rfl, rfl⟩ := e
  exact ⟨_, _, _, l, rfl, rest⟩
theorem okWide_structQ {P : Program} {r : Reach} {b0 : Nat} {v : Value} {t : TypeId} {fs : Array Field} (ht : P.underlying t = some (.struct fs)) (h : Value.okWide P w r b0 t v) : ∃ cs : Array Value, v = .agg cs ∧ cs.size = P.cellsOf t := by
  simp only [Value.okWide, ht] at h
  obtain ⟨cs, h1, h2, _⟩ := h
  exact ⟨cs, h1, h2⟩
/-- parameters that came in -/
theorem params_of {r : Reach} {b0 : Nat} {v : Value} {d : DataW H} {p : List MemPlace} (hv : Value.okWide Tryd.prog w r b0 24 v) (hd : DataW.Trod enc' Tryd.prog w base spare held 24 v d p) :
    ∃ (a b c : Int) (A : Option Addr) (len cap : Nat) (l : List Int), v = .agg #[.int .i64 a, .int .i64 b, .int .i64 c, .slice A len cap] ∧ Src w A (8 * len) l ∧ len ≤ cap ∧ cap ≤ 9223372036854775807 := by
  obtain ⟨cs, rfl, hsz⟩ := okWide_structQ Tryd.underlying24 hv
  obtain ⟨fuel, h⟩ := hd
  obtain ⟨ys, n, _, hx, hcl, hyl, hf⟩ := DataW.trod_struct Tryd.underlying24 h
  have k24 : Tryd.prog.cellsOf 24 = 4 := by kernel_rfl
  have k22 : Tryd.prog.cellsOf 22 = 1 := by kernel_rfl
  simp only [Value.cells] at hcl hf
  rw [k24] at hcl
  obtain ⟨l, hl⟩ : ∃ l, cs.toList = l := ⟨_, rfl⟩
  have hcs : cs = l.toArray := by rw [← hl]
  rw [hl] at hcl hf
  match l, hcl with
  | [c0, c1, c2, c3], _ =>
    match ys, hyl with
    | [y0, y1, y2, y3], _ =>
      have f0 : DataW.trod enc' Tryd.prog w base spare held n 3 (([c0, c1, c2, c3].drop 0).take (Tryd.prog.cellsOf 3)) = some y0 := hf 0 _ rfl
      have f1 : DataW.trod enc' Tryd.prog w base spare held n 3 (([c0, c1, c2, c3].drop 1).take (Tryd.prog.cellsOf 3)) = some y1 := hf 1 _ rfl
      have f2 : DataW.trod enc' Tryd.prog w base spare held n 3 (([c0, c1, c2, c3].drop 2).take (Tryd.prog.cellsOf 3)) = some y2 := hf 2 _ rfl
      have f3 : DataW.trod enc' Tryd.prog w base spare held n 22 (([c0, c1, c2, c3].drop 3).take (Tryd.prog.cellsOf 22)) = some y3 := hf 3 _ rfl
      rw [c3s] at f0 f1 f2
      rw [k22] at f3
      obtain ⟨a, e0, _, _⟩ := DataW.trod_int Tryd.underlying3 f0
      obtain ⟨b, e1, _, _⟩ := DataW.trod_int Tryd.underlying3 f1
      obtain ⟨c, e2, _, _⟩ := DataW.trod_int Tryd.underlying3 f2
      obtain ⟨A, len, cap, fl, e3, hs, _, h1, h2⟩ := open_hrow f3
      simp at e0 e1 e2 e3
      subst e0 e1 e2 e3
      exact ⟨a, b, c, A, len, cap, fl, by rw [hcs], hs, h1, h2⟩
theorem c27t : Tryd.prog.cellsOf 27 = 2 := by kernel_rfl
/-- two bytes that came in -/
theorem arr2_of {r : Reach} {b0 : Nat} {v : Value} {d : DataW H} {p : List MemPlace} (hv : Value.okWide Tryd.prog w r b0 27 v) (hd : DataW.Trod enc' Tryd.prog w base spare held 27 v d p) :
    ∃ l : List Int, v = .agg (ba l) ∧ l.length = 2 ∧ Byt l := by
  obtain ⟨cs, rfl, hsz⟩ := okWide_array Tryd.underlying27 hv
  obtain ⟨fuel, hf⟩ := hd
  obtain ⟨xs, m, _, _, hl, hx, hi⟩ := DataW.trod_array Tryd.underlying27 hf
  simp only [Value.cells] at hl hi
  rw [c27t] at hl
  have hall : ∀ i, i < 2 → ∃ z : Int, (0 ≤ z ∧ z < 256) ∧ cs.toList[i]? = some (.int .u8 z) := fun i hi2 => by
    have e := hi i hi2
    rw [c5c, Nat.mul_one, List.getElem?_eq_getElem (by omega)] at e
    obtain ⟨z, e1, _, e4⟩ := DataW.trod_int Tryd.underlying5 e
    have hb := bounds_u8 e4
    refine ⟨z, by omega, ?_⟩
    have : (cs.toList.drop i)[0]? = some (.int .u8 z) := by
      have := congrArg (fun l : List Value => l[0]?) e1
      simpa [List.getElem?_take] using this
    simpa using this
  obtain ⟨l, h1, h2, h3⟩ := rows_of hl hall
  exact ⟨l, by rw [show cs = ba l by apply Array.ext'; rw [h1]; simp [ba]], h2, h3⟩
end
end Go.Proofs.YtfneopmgckejdaaDoor
