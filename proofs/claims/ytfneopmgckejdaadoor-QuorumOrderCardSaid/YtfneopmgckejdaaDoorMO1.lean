/-
  A slice of hashes, a row of numbers that came in.
-/
import Derived.Test.YtfneopmgckejdaaDoorHO1
import Derived.Deep.Slices
namespace Go.Proofs.YtfneopmgckejdaaDoor
open Go.ChangeShapes Go.WideShapes Go.ChangeAt Go.RowKit Go.Deep
section
variable {H : Type} {enc' : TypeId × Value → H} {w : World} {base : Nat} {spare : Nat → Bool} {held : Bool}
theorem open_hrow {fuel : Nat} {cs : List Value} {x : DataW H × List MemPlace} (h : DataW.trod enc' Tryd.prog w base spare held fuel 22 cs = some x) :
    ∃ (A : Option Addr) (len cap : Nat) (l : List Int), cs = [.slice A len cap] ∧ Src w A (8 * len) l ∧ Byt l ∧ len ≤ cap ∧ cap ≤ 9223372036854775807 := by
  rcases open_slice Tryd.underlying22 h with ⟨rfl, hx⟩ | ⟨a, l, c, m, n, D, Pl, rfl, hb, hl, hm, hmm, hx, hcell⟩
  · exact ⟨none, 0, 0, [], rfl, ⟨rfl, .inl rfl⟩, (fun x hx => by cases hx), Nat.le_refl _, by decide⟩
  · have hml : l ≤ m := by rw [hmm]; split <;> omega
    unfold maxLen at hm
    by_cases hz : l = 0
    · subst hz
      exact ⟨some a, 0, c, [], rfl, ⟨rfl, .inl rfl⟩, (fun x hx => by cases hx), hl, hm⟩
    · obtain ⟨b, off, spot⟩ := a
      have hspot : spot = none := by
        obtain ⟨cs', h1, h2⟩ := hcell 0 (by omega)
        obtain ⟨_, _, h3⟩ := World.cells?_some h1
        obtain ⟨hcl, _⟩ := open27 h2
        have h4 := h3 0 (by rw [c27s]; decide)
        rw [List.getElem?_eq_getElem (by omega)] at h4
        simpa [Addr.add] using World.cell?_spot h4
      subst hspot
      have ea : ∀ o i, (⟨b, o, none⟩ : Addr).add i = ⟨b, o + i, none⟩ := fun o i => by unfold Addr.add; split <;> simp_all
      have hh : ∀ i, ∃ z : Int, i < 8 * l → w.cell? ⟨b, off + i, none⟩ = some (.int .u8 z) ∧ 0 ≤ z ∧ z < 256 := by
        intro i
        by_cases hi : i < 8 * l
        · obtain ⟨cs', h1, h2⟩ := hcell (i / 8) (by omega)
          obtain ⟨_, _, h3⟩ := World.cells?_some h1
          rw [c27s] at h3
          obtain ⟨_, h4⟩ := open27 h2
          obtain ⟨z, hz, e⟩ := h4 (i % 8) (by omega)
          refine ⟨z, fun _ => ⟨?_, hz.1, hz.2⟩⟩
          have h5 := h3 (i % 8) (by omega)
          rw [ea, ea, e] at h5
          rw [show off + i = off + i / 8 * 8 + i % 8 by omega]
          exact h5
        · exact ⟨0, fun h => absurd h hi⟩
      obtain ⟨F, hF⟩ : ∃ F : Nat → Int, ∀ i, i < 8 * l → w.cell? ⟨b, off + i, none⟩ = some (.int .u8 (F i)) ∧ 0 ≤ F i ∧ F i < 256 := ⟨fun i => Classical.choose (hh i), fun i => Classical.choose_spec (hh i)⟩
      refine ⟨some ⟨b, off, none⟩, l, c, (List.range (8 * l)).map F, rfl, ⟨by simp, .inr ⟨b, off, rfl, fun i hi => ?_⟩⟩, ?_, hl, hm⟩
      · rw [show ((List.range (8 * l)).map F).getD i 0 = F i by simp [List.getD, hi]]
        exact (hF i hi).1
      · intro z hz
        simp only [List.mem_map, List.mem_range] at hz
        obtain ⟨i, hi, rfl⟩ := hz
        exact (hF i hi).2
/-- a slice of hashes that came in -/
theorem hrow_of {r : Reach} {b0 : Nat} {v : Value} {d : DataW H} {p : List MemPlace} (hv : Value.okWide Tryd.prog w r b0 22 v) (hd : DataW.Trod enc' Tryd.prog w base spare held 22 v d p) :
    ∃ (A : Option Addr) (len cap : Nat) (l : List Int), v = .slice A len cap ∧ Src w A (8 * len) l ∧ Byt l ∧ len ≤ cap ∧ cap ≤ 9223372036854775807 := by
  obtain ⟨a, l, c, rfl⟩ := okWide_slice Tryd.underlying22 hv
  obtain ⟨fuel, hf⟩ := hd
  obtain ⟨A, len, cap, l, e, rest⟩ := open_hrow hf
  simp [Value.cells] at e
  obtain ⟨rfl, rfl, rfl⟩ := e
  exact ⟨_, _, _, l, rfl, rest⟩
theorem nums_of {n : Nat} {cs : List Value} (hl : cs.length = n) (h : ∀ i, i < n → ∃ z : Int, cs[i]? = some (.int .i64 z)) : ∃ l : List Int, cs = l.map (.int .i64) ∧ l.length = n := by
  induction cs generalizing n with
  | nil => exact ⟨[], rfl, by simpa using hl⟩
  | cons c cs ih =>
    cases n with
    | zero => cases hl
    | succ n =>
      obtain ⟨z, h0⟩ := h 0 (by omega)
      obtain ⟨l, h1, h2⟩ := ih (n := n) (by simpa using hl) (fun i hi => by
        obtain ⟨y, e⟩ := h (i + 1) (by omega)
        exact ⟨y, by simpa using e⟩)
      simp at h0
      subst h0
      exact ⟨z :: l, by simp [h1], by simp [h2]⟩
theorem c3s : Tryd.prog.cellsOf 3 = 1 := by kernel_rfl
set_option maxRecDepth 100000 in
/-- a row of numbers that came in -/
theorem ints_of {r : Reach} {b0 n : Nat} {t : TypeId} {v : Value} {d : DataW H} {p : List MemPlace} (ht : Tryd.prog.underlying t = some (.array n 3)) (hc : Tryd.prog.cellsOf t = n) (hv : Value.okWide Tryd.prog w r b0 t v) (hd : DataW.Trod enc' Tryd.prog w base spare held t v d p) :
    ∃ l : List Int, v = .agg (l.map (.int .i64)).toArray ∧ l.length = n := by
  obtain ⟨cs, rfl, hsz⟩ := okWide_array ht hv
  obtain ⟨fuel, hf⟩ := hd
  obtain ⟨xs, m, _, _, hl, hx, hi⟩ := DataW.trod_array ht hf
  simp only [Value.cells] at hl hi
  rw [hc] at hl
  obtain ⟨l, h1, h2⟩ := nums_of hl fun i hin => by
    have e := hi i hin
    rw [c3s, Nat.mul_one, List.getElem?_eq_getElem (by omega)] at e
    obtain ⟨z, e1, _⟩ := DataW.trod_int Tryd.underlying3 e
    refine ⟨z, ?_⟩
    have : (cs.toList.drop i)[0]? = some (.int .i64 z) := by
      have := congrArg (fun l : List Value => l[0]?) e1
      simpa [List.getElem?_take] using this
    simpa using this
  exact ⟨l, by rw [show cs = (l.map (.int .i64)).toArray by apply Array.ext'; rw [h1]], h2⟩
end
end Go.Proofs.YtfneopmgckejdaaDoor
