/-
  A slice of bytes that came in, opened to its cells.
-/
import Derived.Test.YtimhjofnaoljjaaDoorW0
import Derived.ProofKit
import Derived.OpenShut
import Derived.Laws.Cover2
import Derived.Deep.Slices
import Derived.SizedLaws
namespace Go.Proofs.YtimhjofnaoljjaaDoor
open Go.ChangeShapes Go.WideShapes Go.ChangeAt Go.RowKit Go.Deep
section
variable {H : Type} {enc' : TypeId × Value → H} {w : World} {base : Nat} {spare : Nat → Bool} {held : Bool}

theorem weights_all {P : Program} {e : TypeId} {n : Nat} : ∀ {ds : List (DataW H)} {d : DataW H}, d ∈ ds → n ∈ d.weights P e → n ∈ DataW.weightsAll P e ds
  | [], d, h, _ => by cases h
  | x :: xs, d, h, hn => by
    rw [DataW.weightsAll, List.mem_append]
    rcases List.mem_cons.1 h with rfl | h
    · exact .inl hn
    · exact .inr (weights_all h hn)

theorem open_bytes {fuel : Nat} {cs : List Value} {x : DataW H × List MemPlace} (h : DataW.trod enc' Tryd.prog w base spare held fuel 25 cs = some x) :
    ∃ A len cap bs, cs = [.slice A len cap] ∧ Src w A len bs ∧ Byt bs ∧ len ≤ cap ∧ cap ≤ 9223372036854775807 ∧ (A = none → cap = 0) ∧ (∀ N, (∀ n ∈ x.1.weights Tryd.prog 25, n ≤ N) → len ≤ N) := by
  rcases open_slice1 Tryd.underlying25 (by kernel_rfl) h with ⟨rfl, hx⟩ | ⟨a, l, c, m, n, V, D, Pl, rfl, hb, hl, hm, hmm, hx, hcell⟩
  · exact ⟨none, 0, 0, [], rfl, ⟨rfl, .inl rfl⟩, (fun x hx => by cases hx), Nat.le_refl _, by decide, fun _ => rfl, fun _ _ => Nat.zero_le _⟩
  · have hml : l ≤ m := by rw [hmm]; split <;> omega
    have hh : ∀ i, ∃ z : Int, i < l → w.cell? (a.add i) = some (.int .u8 z) ∧ 0 ≤ z ∧ z < 256 := by
      intro i
      by_cases hi : i < l
      · obtain ⟨e1, e2⟩ := hcell i (by omega)
        obtain ⟨z, e3, _, e4⟩ := DataW.trod_int Tryd.underlying5 e2
        simp only [List.cons.injEq, and_true] at e3
        rw [e3] at e1
        have e5 : 0 ≤ z ∧ z ≤ 255 := by
          have h : IntKind.u8.min ≤ z ∧ z ≤ IntKind.u8.max := by simpa [Lit.wf] using e4
          exact h
        exact ⟨z, fun _ => ⟨e1, e5.1, by omega⟩⟩
      · exact ⟨0, fun h => absurd h hi⟩
    obtain ⟨F, hF⟩ : ∃ F : Nat → Int, ∀ i, i < l → w.cell? (a.add i) = some (.int .u8 (F i)) ∧ 0 ≤ F i ∧ F i < 256 := ⟨fun i => Classical.choose (hh i), fun i => Classical.choose_spec (hh i)⟩
    have hget : ∀ i, i < l → ((List.range l).map F).getD i 0 = F i := fun i hi => by simp [List.getD, hi]
    unfold maxLen at hm
    refine ⟨some a, l, c, (List.range l).map F, rfl, ⟨by simp, ?_⟩, ?_, hl, hm, (fun e => by cases e), fun N hN => ?_⟩
    · by_cases hz : l = 0
      · exact .inl hz
      · obtain ⟨b, off, spot⟩ := a
        have h00 := (hF 0 (by omega)).1
        have hspot : spot = none := by simpa [Addr.add] using World.cell?_spot h00
        subst hspot
        refine .inr ⟨b, off, rfl, fun i hi => ?_⟩
        have ea : (⟨b, off, none⟩ : Addr).add i = ⟨b, off + i, none⟩ := by unfold Addr.add; split <;> simp_all
        rw [hget i hi, ← ea]
        exact (hF i hi).1
    · intro z hz
      simp only [List.mem_map, List.mem_range] at hz
      obtain ⟨i, hi, rfl⟩ := hz
      exact (hF i hi).2
    · rw [hx] at hN
      have := hN _ (by simp only [DataW.weights, Tryd.underlying25]; exact List.mem_cons_self)
      have hby : Tryd.prog.bytesOf 5 = 1 := by kernel_rfl
      rw [hby] at this
      simp at this
      omega

theorem bytes_of {v : Value} {d : DataW H} {p : List MemPlace} {r : Reach} {b0 : Nat} (hv : Value.okWide Tryd.prog w r b0 25 v) (h : DataW.Trod enc' Tryd.prog w base spare held 25 v d p) (hs : ∀ n ∈ d.weights Tryd.prog 25, n ≤ reachBytes) :
    ∃ (A : Option Addr) (len cap : Nat) (bs : List Int), v = .slice A len cap ∧ Src w A len bs ∧ Byt bs ∧ len ≤ cap ∧ cap ≤ 9223372036854775807 ∧ (A = none → cap = 0) ∧ len ≤ 140737488351232 := by
  obtain ⟨a, l, c, rfl⟩ := okWide_slice Tryd.underlying25 hv
  obtain ⟨fuel, hf⟩ := h
  obtain ⟨A, len, cap, bs, e, h1, h2, h3, h4, h5, hw⟩ := open_bytes hf
  simp [Value.cells] at e
  obtain ⟨rfl, rfl, rfl⟩ := e
  exact ⟨_, _, _, bs, rfl, h1, h2, h3, h4, h5, hw _ hs⟩
end
end Go.Proofs.YtimhjofnaoljjaaDoor
