/-
  A row of hashes turned round.
-/
import Derived.Test.YthdejiadokpafaaDoorH18
import Derived.Shelf.SlicesQ.Reverse
namespace Go.Proofs.YthdejiadokpafaaDoor
open Go.RowKit Go.Shelf Go.Sort
def lays35_ren : Go.Shelf.Ren := ⟨fun | 35 => 19 | n => n, fun | 0 => 0 | 3 => 3 | 4 => 4 | 22 => 22 | 23 => 27 | n => n, fun | n => n⟩
theorem lays35 : Go.Proofs.SlLaysE0.n35 Tryd.prog lays35_ren := {
  mixed := by kernel_rfl
  f35 := ⟨"slices.Reverse[[]drawbridge/api.Hash,drawbridge/api.Hash]", by kernel_rfl, Tryd.func19.trans (congrArg some (by kernel_rfl))⟩
  t0 := Tryd.underlying0
  a0 := Tryd.isAgg0
  z0 := Tryd.sizeOf0
  v0 := Tryd.zeroValue0
  t3 := Tryd.underlying3
  a3 := Tryd.isAgg3
  z3 := Tryd.sizeOf3
  v3 := Tryd.zeroValue3
  t4 := Tryd.underlying4
  a4 := Tryd.isAgg4
  z4 := Tryd.sizeOf4
  v4 := Tryd.zeroValue4
  t22 := Tryd.underlying22
  a22 := Tryd.isAgg22
  z22 := Tryd.sizeOf22
  v22 := Tryd.zeroValue22 }
/-- a hash as cells -/
def en (x : List Int) : List Value := (List.range 8).map fun j => .int .u8 (x.getD j 0)
theorem en_len (x : List Int) : (en x).length = 8 := by simp [en]
theorem en_one (x : List Int) : ∀ v ∈ en x, v.oneCell' = true := fun v hv => by
  simp only [en, List.mem_map] at hv
  obtain ⟨j, _, rfl⟩ := hv
  rfl
theorem en_get (x : List Int) (j : Nat) (h : j < 8) : (en x)[j]! = .int .u8 (x.getD j 0) := by
  rw [getElem!_pos _ _ (by rw [en_len]; exact h)]
  simp [en]
theorem flat_len : ∀ (L : List (List Int)), (∀ x ∈ L, x.length = 8) → L.flatten.length = 8 * L.length
  | [], _ => rfl
  | x :: L, h => by
    rw [List.flatten_cons, List.length_append, flat_len L fun y hy => h y (List.mem_cons_of_mem _ hy), h x (List.mem_cons_self ..), List.length_cons]
    omega
theorem flat_getD : ∀ (L : List (List Int)), (∀ x ∈ L, x.length = 8) → ∀ j, L.flatten.getD j 0 = (L.getD (j / 8) []).getD (j % 8) 0
  | [], _, j => by simp
  | x :: L, h, j => by
    have hx := h x (List.mem_cons_self ..)
    by_cases hj : j < 8
    · rw [Nat.div_eq_of_lt hj, Nat.mod_eq_of_lt hj, List.flatten_cons]
      simp only [List.getD_eq_getElem?_getD, List.getElem?_cons_zero, Option.getD_some]
      rw [List.getElem?_append_left (by omega)]
    · have := flat_getD L (fun y hy => h y (List.mem_cons_of_mem _ hy)) (j - 8)
      have e1 : j / 8 = (j - 8) / 8 + 1 := by omega
      have e2 : j % 8 = (j - 8) % 8 := by omega
      rw [e1, e2, List.flatten_cons]
      simp only [List.getD_eq_getElem?_getD, List.getElem?_cons_succ] at this ⊢
      rw [List.getElem?_append_right (by omega), hx, this]
theorem toArr_get (L : List (List Int)) (i : Nat) (h : i < L.length) : L.toArray[i]! = L.getD i [] := by
  rw [getElem!_pos _ _ (by simpa using h)]
  simp [List.getD_eq_getElem?_getD, h]
/-- the cells of a row of hashes -/
theorem flatK_get (L : List (List Int)) (h8 : ∀ x ∈ L, x.length = 8) (j : Nat) (h : j < 8 * L.length) : (flatK en 8 L.toArray)[j]! = .int .u8 (L.flatten.getD j 0) := by
  rw [get_flatK en 8 L.toArray j (by simp; omega), toArr_get L _ (by omega), en_get _ _ (by omega), flat_getD L h8]
theorem own8_src {w : World} {base n cap : Nat} {A : Option Addr} {l : List Int} (h : w.ownsRow base 27 8 (.slice A n cap) n (bvals l)) : Src w A (8 * n) l ∧ n ≤ cap ∧ cap ≤ maxLen := by
  obtain ⟨h1, h2⟩ := h
  have hl : l.length = 8 * n := by simpa [bvals, Nat.mul_comm] using h1
  rcases h2 with ⟨e, hn⟩ | ⟨g, c, cur, e, _, hg, hc1, hc2, hs, ht⟩
  · cases e
    exact ⟨⟨hl, .inl (by omega)⟩, by omega, by unfold maxLen; omega⟩
  · cases e
    refine ⟨⟨hl, .inr ⟨g, 0, rfl, fun i hi => ?_⟩⟩, hc1, hc2⟩
    rw [cell_of_row w g (0 + i) _ 27 (0, 0) hg, Nat.zero_add, ← Array.getElem?_toList]
    have e2 : (cur.toList.take (n * 8))[i]? = (bvals l)[i]? := by rw [ht]
    rw [List.getElem?_take, if_pos (by omega)] at e2
    rw [e2]
    simp [bvals, List.getD_eq_getElem?_getD, show i < l.length by omega]
theorem own8_holds {w : World} {base g cap : Nat} {L : List (List Int)} (h8 : ∀ x ∈ L, x.length = 8) (h : w.ownsRow base 27 8 (.slice (some ⟨g, 0, none⟩) L.length cap) L.length (bvals L.flatten)) : HoldsK en 8 w g 0 L.toArray := by
  have hs := (own8_src h).1
  intro j hj
  have hj' : j < 8 * L.length := by simp at hj; omega
  refine ⟨?_, ?_⟩
  · rcases hs.2 with h0 | ⟨g', o', e, hc⟩
    · omega
    · cases e
      rw [hc j hj', flatK_get L h8 j hj']
      rfl
  · rcases h.2 with ⟨e, hn⟩ | ⟨g', c, cur, e, _, hg, hc1, hc2, hs, ht⟩
    · cases e
    · cases e
      simp [World.frozen?, hg]
theorem holds_src {w : World} {g : Nat} {L : List (List Int)} (h8 : ∀ x ∈ L, x.length = 8) (h : HoldsK en 8 w g 0 L.toArray) : Src w (some ⟨g, 0, none⟩) (8 * L.length) L.flatten := by
  refine ⟨flat_len L h8, .inr ⟨g, 0, rfl, fun i hi => ?_⟩⟩
  have := (h i (by simp; omega)).1
  rw [this, flatK_get L h8 i hi]
  rfl
/-- slices.Reverse over a row of hashes of the call's own -/
theorem p19 (base : Nat) (A : Option Addr) (cap : Nat) (L : List (List Int)) (w : World) (h8 : ∀ x ∈ L, x.length = 8) (hn : L.length ≤ 65536) (h : w.ownsRow base 27 8 (.slice A L.length cap) L.length (bvals L.flatten)) :
    Calls Tryd.prog 19 #[.slice A L.length cap] w fun e w' => e = .returned (.tuple #[]) ∧ Src w' A (8 * L.length) L.reverse.flatten ∧ Below base w w' := by
  have hs := own8_src h
  have hx := h.2
  rcases hx with ⟨e, h0⟩ | ⟨g, c, cur, e, hbg, hg, _⟩
  · have hL : L = [] := List.eq_nil_of_length_eq_zero h0
    subst hL
    clear h hs h0
    obtain ⟨rfl, rfl⟩ : A = none ∧ cap = 0 := by injection e with a b c; exact ⟨a, c⟩
    refine (AnyQ.slices_Reverse_empty lays35 none 0 w).mono ?_
    rintro e w' ⟨rfl, rfl⟩
    exact ⟨rfl, ⟨rfl, .inl rfl⟩, Below.refl _ _⟩
  · obtain ⟨rfl, rfl⟩ : A = some ⟨g, 0, none⟩ ∧ cap = c := by injection e with a b c; exact ⟨a, c⟩
    have C := AnyQ.slices_Reverse lays35 8 Tryd.isAgg27 Tryd.sizeOf27 en en_len en_one g 0 cap L.toArray w (own8_holds h8 h) (by simp; omega)
    rw [List.size_toArray] at C
    refine C.mono ?_
    rintro e w' ⟨rfl, n, rfl⟩
    have hH := holdsK_putRowK en 8 (Sort.ahead w n) g 0 L.toArray L.toArray.reverse (holdsK_ahead en 8 w n g 0 _ (own8_holds h8 h)) (by simp)
    rw [List.reverse_toArray] at hH ⊢
    refine ⟨rfl, ?_, ?_⟩
    · have := holds_src (fun x hx => h8 x (List.mem_reverse.1 hx)) hH
      rwa [List.length_reverse] at this
    · refine ⟨rfl, rfl, rfl, by simp [putRowK, putRow, mapBlock, Sort.ahead], fun k hk => ?_⟩
      simp [putRowK, putRow, mapBlock, Sort.ahead, Array.getElem?_modify, show g ≠ k by omega]
end Go.Proofs.YthdejiadokpafaaDoor
