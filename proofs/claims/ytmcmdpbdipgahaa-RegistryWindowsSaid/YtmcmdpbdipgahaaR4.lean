/-
  The registry in memory; its small functions; put.
-/
import Derived.Test.YtmcmdpbdipgahaaRM2
namespace Go.Proofs.Ytmcmdpbdipgahaa
open Go.RowKit Go.Maps
set_option maxRecDepth 100000
def fnS (xs : List Sm) (k : Int) : Option (List Value) := if 0 ≤ k ∧ k < xs.length then some (sdV (xs.getD k.toNat sm0)) else none
def mapOkV (w : World) (xs : List Sm) : Option Nat → Prop
  | none => xs = []
  | some b => MapV w b xs.length (fnS xs)
/-- what may be written -/
def isP (S : Nat) (m : Option Nat) (q : Nat) : Prop := q = S ∨ m = some q
structure RegM (w : World) (S : Nat) (m : Option Nat) (xs : List Sm) : Prop where
  blk : BL w S [.map m] 76
  map : mapOkV w xs m
  rows : ∀ x ∈ xs, SdAt w (isP S m) x
theorem RegM.lt {w : World} {S : Nat} {m : Option Nat} {xs : List Sm} (h : RegM w S m xs) : ∀ q, isP S m q → q < w.heap.size := by
  rintro q (rfl | rfl)
  · exact bl_lt h.blk
  · exact MapV.lt h.map
theorem mapOkV.keep {w w' : World} {xs : List Sm} {m : Option Nat} (h : mapOkV w xs m) (hb : ∀ b, m = some b → w'.heap[b]? = w.heap[b]?) : mapOkV w' xs m := by
  cases m with
  | none => exact h
  | some b => exact MapV.keep h (hb b rfl)
theorem RegM.keep {w w' : World} {S : Nat} {m : Option Nat} {xs : List Sm} {P : Nat → Prop} (h : RegM w S m xs) (hf : Fr w w' P) (hp : ∀ q, isP S m q → ¬ P q) (hr : ∀ x ∈ xs, SdAt w (fun q => isP S m q ∨ P q) x) : RegM w' S m xs :=
  ⟨bl_keep h.blk (hf.block S (h.lt S (.inl rfl)) (hp S (.inl rfl))), h.map.keep fun b e => hf.block b (h.lt b (.inr e)) (hp b (.inr e)), fun x hx => (hr x hx).keep hf.size (fun q hq hn => hf.block q hq fun hp => hn (.inr hp)) fun _ _ h => .inl h⟩
theorem RegM.grow {w w' : World} {S : Nat} {m : Option Nat} {xs : List Sm} (h : RegM w S m xs) (hb : Below w.heap.size w w') : RegM w' S m xs :=
  ⟨bl_keep h.blk (hb.block S (h.lt S (.inl rfl))), h.map.keep fun b e => hb.block b (h.lt b (.inr e)), fun x hx => (h.rows x hx).grow hb⟩
theorem RegM.c0 {w : World} {S : Nat} {m : Option Nat} {xs : List Sm} (h : RegM w S m xs) : w.cell? ⟨S, 0, none⟩ = some (.map m) := by
  have := range_of h.blk 0 _ rfl
  rwa [Nat.zero_add] at this
theorem map_neV {w : World} {b n q : Nat} {F : Int → Option (List Value)} {cs : List Value} {T : TypeId} (h : MapV w b n F) (g : BL w q cs T) : q ≠ b := by
  rintro rfl
  obtain ⟨D, ⟨es, clock, h1, _⟩, _⟩ := h
  unfold BL at g
  rw [h1] at g
  cases g
/-- x is laid at a place, or behind all -/
def putS {α : Type} (xs : List α) (i : Nat) (x : α) : List α := if i < xs.length then xs.set i x else xs ++ [x]
theorem putS_map {α β : Type} (f : α → β) (xs : List α) (i : Nat) (x : α) : (putS xs i x).map f = putS (xs.map f) i (f x) := by
  unfold putS
  rw [List.length_map]
  split
  · rw [List.map_set]
  · simp
theorem putS_len {α : Type} (xs : List α) (i : Nat) (x : α) : (putS xs i x).length = if i < xs.length then xs.length else xs.length + 1 := by
  unfold putS
  split <;> simp
theorem putS_mem {α : Type} {xs : List α} {i : Nat} {x y : α} (h : y ∈ putS xs i x) : y ∈ xs ∨ y = x := by
  unfold putS at h
  split at h
  · exact List.mem_or_eq_of_mem_set h
  · simpa using h
theorem putS_getD {α : Type} (xs : List α) (i j : Nat) (x d : α) (hi : i ≤ xs.length) : (putS xs i x).getD j d = if j = i then x else xs.getD j d := by
  unfold putS
  by_cases h : i < xs.length
  · rw [if_pos h]
    by_cases e : j = i
    · subst e
      rw [if_pos rfl]
      simp [List.getD, h]
    · rw [if_neg e]
      simp [List.getD, Ne.symm e]
  · rw [if_neg h]
    have : i = xs.length := by omega
    subst this
    by_cases e : j = xs.length
    · subst e
      rw [if_pos rfl]
      simp [List.getD]
    · rw [if_neg e]
      by_cases h2 : j < xs.length
      · simp [List.getD, List.getElem?_append_left h2]
      · simp [List.getD, List.getElem?_append_right (show xs.length ≤ j by omega), List.getElem?_eq_none (show xs.length ≤ j by omega), show j - xs.length ≠ 0 by omega]
theorem fn_put (xs : List Sm) (i : Nat) (x : Sm) (hi : i ≤ xs.length) : updV (fnS xs) (i : Int) (sdV x) = fnS (putS xs i x) := by
  funext k
  unfold updV fnS
  rw [putS_len]
  by_cases e : k = (i : Int)
  · subst e
    rw [if_pos rfl, if_pos (by split <;> omega), Int.toNat_natCast, putS_getD _ _ _ _ _ hi, if_pos rfl]
  · rw [if_neg e]
    by_cases h : 0 ≤ k ∧ k < xs.length
    · rw [if_pos h, if_pos (by split <;> omega), putS_getD _ _ _ _ _ hi, if_neg (by omega)]
    · rw [if_neg h, if_neg (by split <;> omega)]
theorem fn_some (xs : List Sm) (i : Nat) : (fnS xs (i : Int)).isSome = decide (i < xs.length) := by
  unfold fnS
  by_cases h : i < xs.length
  · rw [if_pos (by omega), decide_eq_true h]; rfl
  · rw [if_neg (by omega), decide_eq_false h]; rfl
theorem rWithin (n lo hi : Int) (w : World) : Calls Try.prog 39 #[.int .i64 n, .int .i64 lo, .int .i64 hi] w fun e w' => e = .returned (.bool (decide (lo ≤ n) && decide (n ≤ hi))) ∧ w = w' := by
  obtain ⟨c1, h1⟩ : ∃ c, decide (lo ≤ n) = c := ⟨_, rfl⟩
  obtain ⟨c2, h2⟩ : ∃ c, decide (n ≤ hi) = c := ⟨_, rfl⟩
  rw [h1, h2]
  cases c1 <;> cases c2 <;>
  · go_enter Try.func39, Try.ntmps39
    go_wp2
    go_ret
    exact ⟨rfl, rfl⟩
theorem rMayM (n : Int) (w : World) : Calls Try.prog 36 #[.int .i64 n] w fun e w' => e = .returned (.bool (decide (0 ≤ n) && decide (n ≤ 1125899906842624))) ∧ w = w' := by
  by_cases h0 : 0 ≤ n <;> by_cases h1 : n ≤ 1125899906842624 <;>
  · simp only [h0, h1, decide_true, decide_false, Bool.and_true, Bool.and_false]
    go_enter Try.func36, Try.ntmps36
    go_wp2
    go_ret
    exact ⟨rfl, rfl⟩
theorem rRoom (a b : Int) (w : World) (hb : 1 ≤ b ∧ b ≤ 1125899906842624) : Calls Try.prog 37 #[.int .i64 a, .int .i64 b] w fun e w' => e = .returned (.bool (decide (a ≤ 1125899906842624 - b))) ∧ w = w' := by
  have hw : wrap64 (1125899906842624 - b) = 1125899906842624 - b := by unfold wrap64; omega
  obtain ⟨c, hc⟩ : ∃ c, 1125899906842624 - b = c := ⟨_, rfl⟩
  rw [hc] at hw ⊢
  go_enter Try.func37, Try.ntmps37
  go_wp2
  go_ret
  exact ⟨rfl, rfl⟩
theorem rNew (w : World) : Calls Try.prog 10 #[] w fun e w' => e = .returned (.pointer (some ⟨w.heap.size, 0, none⟩)) ∧ RegM w' w.heap.size none [] ∧ Below w.heap.size w w' := by
  go_enter Try.func10, Try.ntmps10
  go_wp2
  go_ret
  exact ⟨rfl, ⟨heap_alloc_last w _, rfl, fun x hx => by cases hx⟩, (Below.refl _ w).alloc (Nat.le_refl _) _⟩
theorem rLen (S : Nat) (m : Option Nat) (xs : List Sm) (w : World) (h : RegM w S m xs) : Calls Try.prog 28 #[.pointer (some ⟨S, 0, none⟩)] w fun e w' => e = .returned (.int .i64 xs.length) ∧ w = w' := by
  have c0 := h.c0
  have hm := h.map
  cases m with
  | none =>
    have hm : xs = [] := hm
    subst hm
    have ln := fun ty => len_nilV w ty
    clear h
    go_enter Try.func28, Try.ntmps28
    go_wp2
    go_ret
    exact ⟨rfl, rfl⟩
  | some b =>
    have ln := fun ty => MapV.len hm ty
    clear h hm
    obtain ⟨n, hn⟩ : ∃ n, xs.length = n := ⟨_, rfl⟩
    rw [hn] at ln ⊢
    go_enter Try.func28, Try.ntmps28
    go_wp2
    go_ret
    exact ⟨rfl, rfl⟩
end Go.Proofs.Ytmcmdpbdipgahaa
