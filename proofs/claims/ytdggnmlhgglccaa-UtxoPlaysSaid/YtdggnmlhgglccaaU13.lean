/-
  slices.Backward at steps: what it hands back.
-/
import Derived.Test.YtdggnmlhgglccaaU12
namespace Go.Proofs.Ytdggnmlhgglccaa
open Go.RowKit
set_option maxRecDepth 100000
theorem uBw (A : Option Addr) (n c : Nat) (w : World) : Calls Try.prog 30 #[.slice A n c] w fun e w' => e = .returned (.func (.func 39) #[] #[.pointer (some ⟨w.heap.size, 0, none⟩)]) ∧ w' = w.alloc (.cells #[.slice A n c] 68) := by
  go_enter Try.func30, Try.ntmps30
  go_wp2
  go_ret
  exact ⟨rfl, rfl⟩
/-- the part of a row of steps from place u on, and up to it -/
theorem rowV_drop (L : List Stp) (k : Nat) : rowV L = rowV (L.drop k) ++ rowV (L.take k) := by
  unfold rowV
  rw [← List.flatten_append, ← List.map_append, ← List.reverse_append, List.take_append_drop]
theorem row_cut {w : World} {A : Option Addr} {c u : Nat} {L : List Stp} (h : w.ownsRow 0 75 21 (.slice A L.length c) L.length (rowV L)) (hs : ∀ x ∈ L, (stV x).length = 21) (hu : u ≤ L.length) :
    w.ownsRow 0 75 21 (.slice A u c) u (rowV (L.drop (L.length - u))) := by
  have hl : ∀ M : List Stp, (∀ x ∈ M, (stV x).length = 21) → (rowV M).length = M.length * 21 := by
    intro M hM
    induction M with
    | nil => rfl
    | cons x M ih =>
      rw [rowV_cons, List.length_append, ih fun y hy => hM y (List.mem_cons_of_mem _ hy), hM x (by simp), List.length_cons]
      omega
  have h1 : (rowV (L.drop (L.length - u))).length = u * 21 := by
    rw [hl _ fun x hx => hs x (List.mem_of_mem_drop hx), List.length_drop]
    congr 1
    omega
  refine ⟨h1, ?_⟩
  rcases h.2 with ⟨e1, e2⟩ | ⟨g, cap, cur, e1, g1, g2, g3, g4, g5, g6⟩
  · have : u = 0 := by omega
    subst this
    injection e1 with a1 a2 a3
    subst a1 a3
    exact .inl ⟨rfl, rfl⟩
  · injection e1 with a1 a2 a3
    subst a1 a3
    refine .inr ⟨g, c, cur, rfl, g1, g2, by omega, g4, g5, ?_⟩
    have h2 : cur.toList.take (u * 21) = (cur.toList.take (L.length * 21)).take (u * 21) := by
      rw [List.take_take, Nat.min_eq_left (by omega)]
    rw [h2, g6, rowV_drop L (L.length - u), List.take_left' h1]
end Go.Proofs.Ytdggnmlhgglccaa
