/-
  A slice of slices of bytes that came in, opened to its cells.
-/
import Derived.Test.YtimhjofnaoljjaaDoorO2
import Derived.Test.YtimhjofnaoljjaaDoorW20
namespace Go.Proofs.YtimhjofnaoljjaaDoor
open Go.ChangeShapes Go.WideShapes Go.ChangeAt Go.RowKit Go.Deep
section
variable {H : Type} {enc' : TypeId × Value → H} {w : World} {base : Nat} {spare : Nat → Bool} {held : Bool}
/-- one part -/
structure Pt where
  A : Option Addr
  l : Nat
  c : Nat
  bs : List Int
def Pt.ok (w : World) (b o : Nat) (p : Pt) : Prop := w.cell? ⟨b, o, none⟩ = some (.slice p.A p.l p.c) ∧ Src w p.A p.l p.bs ∧ Byt p.bs ∧ p.l ≤ p.c ∧ p.c ≤ 9223372036854775807 ∧ (p.A = none → p.c = 0)
theorem open_rows {fuel : Nat} {cs : List Value} {x : DataW H × List MemPlace} (h : DataW.trod enc' Tryd.prog w base spare held fuel 31 cs = some x) :
    ∃ (A : Option Addr) (len cap : Nat) (P : Nat → Pt), cs = [.slice A len cap] ∧ (len = 0 ∨ ∃ b off, A = some ⟨b, off, none⟩ ∧ ∀ i, i < len → (P i).ok w b (off + i)) ∧ len ≤ cap ∧ cap ≤ 9223372036854775807 ∧ (∀ N, (∀ n ∈ x.1.weights Tryd.prog 31, n ≤ N) → len ≤ N ∧ ∀ i, i < len → (P i).l ≤ N) := by
  have k25 : Tryd.prog.cellsOf 25 = 1 := by kernel_rfl
  rcases open_slice Tryd.underlying31 h with ⟨rfl, hx⟩ | ⟨a, l, c, m, n, D, Pl, rfl, hb, hl, hm, hmm, hx, hcell⟩
  · exact ⟨none, 0, 0, fun _ => ⟨none, 0, 0, []⟩, rfl, .inl rfl, Nat.le_refl _, by decide, fun N _ => ⟨Nat.zero_le _, fun i hi => by omega⟩⟩
  · have hml : l ≤ m := by rw [hmm]; split <;> omega
    unfold maxLen at hm
    by_cases hz : l = 0
    · subst hz
      exact ⟨some a, 0, c, fun _ => ⟨none, 0, 0, []⟩, rfl, .inl rfl, hl, hm, fun N _ => ⟨Nat.zero_le _, fun i hi => by omega⟩⟩
    · obtain ⟨b, off, spot⟩ := a
      have key : ∀ i, i < l → ∃ p : Pt, w.cell? ((⟨b, off, spot⟩ : Addr).add i) = some (.slice p.A p.l p.c) ∧ Src w p.A p.l p.bs ∧ Byt p.bs ∧ p.l ≤ p.c ∧ p.c ≤ 9223372036854775807 ∧ (p.A = none → p.c = 0) ∧ (∀ N, (∀ n ∈ (D i).weights Tryd.prog 25, n ≤ N) → p.l ≤ N) := by
        intro i hi
        obtain ⟨cs', h1, h2⟩ := hcell i (by omega)
        obtain ⟨_, _, h3⟩ := World.cells?_some h1
        rw [k25] at h3
        obtain ⟨A, len, cap, bs, e, hs, hby, hle, hcm, hcn, hw⟩ := open_bytes h2
        subst e
        have h4 := h3 0 (by decide)
        have ez : ∀ (q : Addr), q.add 0 = q := fun q => by unfold Addr.add; split <;> simp_all
        rw [ez] at h4
        exact ⟨⟨A, len, cap, bs⟩, by simpa using h4, hs, hby, hle, hcm, hcn, hw⟩
      have hspot : spot = none := by
        obtain ⟨p, h4, _⟩ := key 0 (by omega)
        simpa [Addr.add] using World.cell?_spot h4
      subst hspot
      have ea : ∀ i, (⟨b, off, none⟩ : Addr).add i = ⟨b, off + i, none⟩ := fun i => by unfold Addr.add; split <;> simp_all
      have hh : ∀ i, ∃ p : Pt, i < l → p.ok w b (off + i) ∧ (∀ N, (∀ n ∈ (D i).weights Tryd.prog 25, n ≤ N) → p.l ≤ N) := by
        intro i
        by_cases hi : i < l
        · obtain ⟨p, h1, h2, h3, h4, h5, h6, h7⟩ := key i hi
          rw [ea] at h1
          exact ⟨p, fun _ => ⟨⟨h1, h2, h3, h4, h5, h6⟩, h7⟩⟩
        · exact ⟨⟨none, 0, 0, []⟩, fun h => absurd h hi⟩
      refine ⟨some ⟨b, off, none⟩, l, c, fun i => Classical.choose (hh i), rfl, .inr ⟨b, off, rfl, fun i hi => (Classical.choose_spec (hh i) hi).1⟩, hl, hm, fun N hN => ⟨?_, fun i hi => (Classical.choose_spec (hh i) hi).2 N fun k hk => hN k ?_⟩⟩
      · rw [hx] at hN
        have := hN _ (by simp only [DataW.weights, Tryd.underlying31]; exact List.mem_cons_self)
        have hby : Tryd.prog.bytesOf 25 = 24 := by kernel_rfl
        rw [hby] at this
        simp at this
        omega
      · rw [hx]
        simp only [DataW.weights, Tryd.underlying31]
        refine List.mem_cons_of_mem _ (List.mem_append_left _ (weights_all (d := D i) ?_ hk))
        simp only [List.mem_map, List.mem_range]
        exact ⟨i, hi, rfl⟩
theorem rows31 {v : Value} {d : DataW H} {p : List MemPlace} {r : Reach} {b0 : Nat} (hv : Value.okWide Tryd.prog w r b0 31 v) (h : DataW.Trod enc' Tryd.prog w base spare held 31 v d p) (hs : ∀ n ∈ d.weights Tryd.prog 31, n ≤ reachBytes) :
    ∃ (A : Option Addr) (n cap : Nat) (pa : Nat → Option Addr) (pl pc : Nat → Nat) (px : Nat → List Int), v = .slice A n cap ∧ Prts w A n pa pl pc px ∧ (∀ i, i < n → pa i = none → pc i = 0) ∧ n ≤ 140737488351232 ∧ ∀ i, i < n → pl i ≤ 140737488351232 := by
  obtain ⟨a, l, c, rfl⟩ := okWide_slice Tryd.underlying31 hv
  obtain ⟨fuel, hf⟩ := h
  obtain ⟨A, len, cap, P, e, hp, _, _, hw⟩ := open_rows hf
  simp [Value.cells] at e
  obtain ⟨rfl, rfl, rfl⟩ := e
  have hget : ∀ i, i < l → ∃ b off, a = some ⟨b, off, none⟩ ∧ (P i).ok w b (off + i) := fun i hi => by
    rcases hp with h0 | ⟨b, off, e, h⟩
    · omega
    · exact ⟨b, off, e, h i hi⟩
  refine ⟨_, _, _, fun i => (P i).A, fun i => (P i).l, fun i => (P i).c, fun i => (P i).bs, rfl, ⟨?_, fun i hi => ?_, fun i hi => ?_⟩, fun i hi => ?_, (hw _ hs).1, (hw _ hs).2⟩
  · rcases hp with h0 | ⟨b, off, e, h⟩
    · exact .inl h0
    · exact .inr ⟨b, off, e, fun i hi => (h i hi).1⟩
  · obtain ⟨b, off, _, h⟩ := hget i hi
    exact h.2.1
  · obtain ⟨b, off, _, h⟩ := hget i hi
    exact ⟨h.2.2.2.1, h.2.2.2.2.1⟩
  · obtain ⟨b, off, _, h⟩ := hget i hi
    exact h.2.2.2.2.2
end
end Go.Proofs.YtimhjofnaoljjaaDoor
