/-
  A map's copy.
-/
import Derived.Test.YtgagcblddcibkaaDoorS39
import Derived.Shelf.SlMaps.Clone
namespace Go.Proofs.YtgagcblddcibkaaDoor
open Go.RowKit
open Go.Maps
def laysC_ren : Go.Shelf.Ren := ⟨fun | 5 => 29 | 7 => 40 | n => n, fun | 4 => 4 | 20 => 20 | 23 => 55 | 25 => 3 | 3 => 29 | n => n, fun | n => n⟩
theorem laysC : Go.Proofs.SlLaysW.n5 Tryd.prog laysC_ren := {
  mixed := by kernel_rfl
  f5 := ⟨"maps.Clone[map[int]drawbridge/api.Hash,int,drawbridge/api.Hash]", by kernel_rfl, Tryd.func29.trans (congrArg some (by kernel_rfl))⟩
  f7 := Tryd.func40.trans (congrArg some (by kernel_rfl))
  t4 := Tryd.underlying4
  a4 := Tryd.isAgg4
  z4 := Tryd.sizeOf4
  v4 := Tryd.zeroValue4
  t20 := Tryd.underlying20
  a20 := Tryd.isAgg20
  z20 := Tryd.sizeOf20
  v20 := Tryd.zeroValue20
  t23 := Tryd.underlying55
  a23 := Tryd.isAgg55
  z23 := Tryd.sizeOf55
  v23 := Tryd.zeroValue55 }
theorem p29 {b n : Nat} {f : Int → List Int} {w : World} (h : MapIs w b n f) : Calls Tryd.prog 29 #[.map (some b)] w fun e w' => e = .returned (.map (some w.heap.size)) ∧ MapIs w' w.heap.size n f ∧ Below w.heap.size w w' := by
  obtain ⟨D, h1, h2, h3⟩ := h
  exact (AnyW.maps_Clone_owns laysC 3 hashR b n D w h1).mono fun e w' h => ⟨h.1, ⟨D, h.2.1, h2, h3⟩, h.2.2.2⟩
theorem p29nil (w : World) : Calls Tryd.prog 29 #[.map none] w fun e w' => e = .returned (.map none) ∧ w' = w := AnyW.maps_Clone_nil laysC w
theorem Tr.congr {w : World} {B T N : Nat} {ms : Nat → Option Nat} {F G : Nat → Int → List Int} (h : Tr w B T ms F N) (e : ∀ s, s < 17 → F s = G s) : Tr w B T ms G N :=
  ⟨h.row, h.lo, fun s hs hm k => by rw [← e s hs]; exact h.nil s hs hm k, fun s b hs hm => by rw [← e s hs]; exact h.map s b hs hm, h.inj⟩
/-- a map that was just made is laid into a tree's row -/
theorem Tr.place {w wa : World} {B T N s q : Nat} {ms : Nat → Option Nat} {F : Nat → Int → List Int} {f : Int → List Int} (h : Tr w B T ms F N) (hs : s < 17) (hb : ∀ k, k < w.heap.size → wa.heap[k]? = w.heap[k]?) (hq : w.heap.size ≤ q) (hm : MapIs wa q N f) : Tr (wa.setCell ⟨T, s, none⟩ (.map (some q))) B T (updm ms s (some q)) (updL F s f) N := by
  have hlt := h.lt
  have h' : Tr wa B T ms F N := h.keep hb
  have hoth : ∀ k, k ≠ T → (wa.setCell ⟨T, s, none⟩ (.map (some q))).heap[k]? = wa.heap[k]? := fun k hk => heap_setCell_other _ ⟨T, s, none⟩ k _ hk
  have hqT : q ≠ T := by omega
  refine ⟨?_, h.lo, fun j hj hj2 k => ?_, fun j b hj hb2 => ?_, fun i j b hi hj hb2 hc => ?_⟩
  · rw [heap_setCell_same _ T s _ 58 _ h'.row, mrow_set]
  · by_cases e : j = s
    · rw [e, updm_same] at hj2
      cases hj2
    · rw [updm_other ms _ e] at hj2
      rw [updL_other F f e]
      exact h.nil j hj hj2 k
  · by_cases e : j = s
    · subst e
      rw [updm_same] at hb2
      obtain rfl := Option.some.inj hb2
      rw [updL_same]
      exact ⟨by have := h.lo; omega, hqT, hm.keep (hoth _ hqT)⟩
    · rw [updm_other ms _ e] at hb2
      rw [updL_other F f e]
      have h1 := h'.map j b hj hb2
      exact ⟨h1.1, h1.2.1, h1.2.2.keep (hoth b h1.2.1)⟩
  · by_cases e : i = s
    · by_cases e2 : j = s
      · rw [e, e2]
      · rw [e, updm_same] at hb2
        rw [updm_other ms _ e2] at hc
        obtain rfl := Option.some.inj hb2
        have := (h.map j _ hj hc).2.2.lt
        omega
    · by_cases e2 : j = s
      · rw [e2, updm_same] at hc
        rw [updm_other ms _ e] at hb2
        obtain rfl := Option.some.inj hc
        have := (h.map i _ hi hb2).2.2.lt
        omega
      · rw [updm_other ms _ e] at hb2
        rw [updm_other ms _ e2] at hc
        exact h.inj i j b hi hj hb2 hc
/-- nothing is laid where nothing was -/
theorem Tr.stay {w : World} {B T N s : Nat} {ms : Nat → Option Nat} {F : Nat → Int → List Int} (h : Tr w B T ms F N) (hn : ms s = none) : Tr (w.setCell ⟨T, s, none⟩ (.map none)) B T ms F N := by
  have hoth : ∀ k, k ≠ T → (w.setCell ⟨T, s, none⟩ (.map none)).heap[k]? = w.heap[k]? := fun k hk => heap_setCell_other _ ⟨T, s, none⟩ k _ hk
  refine ⟨?_, h.lo, h.nil, fun j b hj hb => ⟨(h.map j b hj hb).1, (h.map j b hj hb).2.1, (h.map j b hj hb).2.2.keep (hoth b (h.map j b hj hb).2.1)⟩, h.inj⟩
  have e : updm ms s none = ms := by
    funext j
    by_cases e : j = s
    · rw [e, updm_same, hn]
    · rw [updm_other ms _ e]
  rw [heap_setCell_same _ T s _ 58 _ h.row, mrow_set, e]
/-- the first s steps of F -/
def fst' (F : Nat → Int → List Int) (s : Nat) : Nat → Int → List Int := fun j => if j < s then F j else fun _ => zeros 8
theorem fst_zero (F : Nat → Int → List Int) : fst' F 0 = fun _ _ => zeros 8 := by funext j; unfold fst'; rw [if_neg (by omega)]
theorem fst_next (F : Nat → Int → List Int) (s : Nat) : updL (fst' F s) s (F s) = fst' F (s + 1) := by
  funext j
  by_cases e : j = s
  · subst e; rw [updL_same]; unfold fst'; rw [if_pos (by omega)]
  · rw [updL_other _ _ e]
    unfold fst'
    by_cases h : j < s
    · rw [if_pos h, if_pos (by omega)]
    · rw [if_neg h, if_neg (by omega)]
theorem fst_same (F : Nat → Int → List Int) (s : Nat) (h : ∀ k, F s k = zeros 8) : fst' F s = fst' F (s + 1) := by
  funext j
  unfold fst'
  by_cases e : j = s
  · subst e
    rw [if_neg (by omega), if_pos (by omega)]
    funext k
    exact (h k).symm
  · by_cases h : j < s
    · rw [if_pos h, if_pos (by omega)]
    · rw [if_neg h, if_neg (by omega)]
theorem fst_all (F : Nat → Int → List Int) (s : Nat) (h : s < 17) : fst' F 17 s = F s := by unfold fst'; rw [if_pos h]
theorem idx56 (ms : Nat → Option Nat) (s : Nat) (hs : s < 17) (w : World) : (Instr.index 56 (.agg (mrow ms)) (.int .i64 s)).run Tryd.prog w = .ok (.map (ms s)) w := by
  have h1 := Tryd.sizeOf55
  have hx := mrow_get ms s hs
  simp [Instr.index, asIntOf, run_underlying Tryd.underlying56, run_underlying Tryd.underlying55, part, isAgg, h1, hx, hs]
end Go.Proofs.YtgagcblddcibkaaDoor
