/-
  Add, Spend: a step comes to the row.
-/
import Derived.Test.YtdggnmlhgglccaaU9k
namespace Go.Proofs.Ytdggnmlhgglccaa
open Go.RowKit
set_option maxRecDepth 100000
theorem step_apS {w : World} {ops : Array Oper} {o : Oper} {a : Act} {K : Act → World → Prop} {Q : Exit → Act → World → Prop} {E : Prop} (hgd : o.guard = none) (s y : Operand)
    (ho : o.op = .call { callee := .builtin .append, args := #[s, y], argTypes := #[68, 68] })
    (A : Option Addr) (c : Nat) (R : List Stp) (x : Stp) (hv : a.eval s = .slice A R.length c) (hown : w.ownsRow 0 75 21 (.slice A R.length c) R.length (rowV R)) (q : Nat) (hx : a.eval y = .slice (some ⟨q, 0, none⟩) 1 1) (hp : okP x.p) (hc : x.c.ok) (hn : w.rangeAt q 0 (stV x)) (h63 : R.length ≤ 100000)
    (h : ∀ A' c' w', w'.ownsRow 0 75 21 (.slice A' (x :: R).length c') (x :: R).length (rowV (x :: R)) → w.grownBy w' (Value.slice A R.length c).ownBlock →
      ((Value.slice A' (R.length + 1) c').ownBlock = (Value.slice A R.length c).ownBlock ∨ (Value.slice A' (R.length + 1) c').ownBlock = some w.heap.size) → K (a.put o.dst (.slice A' (R.length + 1) c')) w') : if Region.wanted o (yielded ops a.tmps) = true then Oper.wp Try.prog o a w K Q else E := by
  have hw : Region.wanted o (yielded ops a.tmps) = true := by simp [Region.wanted, hgd]
  rw [if_pos hw]
  obtain ⟨A', c', w', hr, h1, h2, h3⟩ := run_apS o.type w A c R x hown q hp hc hn h63
  unfold Oper.wp execOp
  simp only [ho, resolve, invoke, builtin, Sem.run_bind, Sem.run_pure, Result.andThen_ok, List.map_toArray, List.map_cons, List.map_nil, hv, hx, hr]
  exact h A' c' w' h1 h2 h3
theorem row_own {w : World} {A : Option Addr} {n c : Nat} {xs : List Value} (h : w.ownsRow 0 75 21 (.slice A n c) n xs) {q : Nat} (hq : (Value.slice A n c).ownBlock = some q) : ∃ cur, w.heap[q]? = some (.cells cur 75 (0, 0)) := by
  rcases h.2 with ⟨e1, _⟩ | ⟨g, cap, cur, e1, _, h2, _⟩
  · rw [e1] at hq; cases hq
  · rw [e1] at hq
    simp [Value.ownBlock] at hq
    subst hq
    exact ⟨cur, h2⟩
theorem add_done {w u1 u2 : World} {S : Nat} {L R : List Stp} {x : Stp} {P : Nat → Prop} {m : Option Nat} {A A' : Option Addr} {k k' : Nat} (h : SetAt w S L R P m A k) (h1 : Below w.heap.size w u1)
    (hr : u2.ownsRow 0 75 21 (.slice A' (x :: R).length k') (x :: R).length (rowV (x :: R))) (hg : u1.grownBy u2 (Value.slice A R.length k).ownBlock)
    (ho : (Value.slice A' (R.length + 1) k').ownBlock = (Value.slice A R.length k).ownBlock ∨ (Value.slice A' (R.length + 1) k').ownBlock = some u1.heap.size) :
    ∃ P', Set2 (u2.setCell ⟨S, 2, none⟩ (.slice A' (R.length + 1) k')) S L (x :: R) P' ∧ (∀ q, P' q → P q ∨ w.heap.size ≤ q) ∧ Fr w (u2.setCell ⟨S, 2, none⟩ (.slice A' (R.length + 1) k')) P := by
  have hk : ∀ q, q < w.heap.size → some q ≠ (Value.slice A R.length k).ownBlock → u2.heap[q]? = w.heap[q]? := fun q h2 h3 => (hg.block q (Nat.lt_of_lt_of_le h2 h1.size) h3).trans (h1.block q h2)
  have hS0 := h.lt S h.inS
  have hSo : some S ≠ (Value.slice A R.length k).ownBlock := fun e => by
    obtain ⟨cur, h3⟩ := row_own h.row e.symm
    exact row_ne h.blk h3 rfl
  have hsz : w.heap.size ≤ u2.heap.size := Nat.le_trans h1.size hg.size
  have hset : ∀ q, q ≠ S → (u2.setCell ⟨S, 2, none⟩ (.slice A' (R.length + 1) k')).heap[q]? = u2.heap[q]? := fun q hq => heap_set1 _ _ _ hq
  have hss : (u2.setCell ⟨S, 2, none⟩ (.slice A' (R.length + 1) k')).heap.size = u2.heap.size := World.size_setCell _ _ _
  refine ⟨fun q => P q ∨ (w.heap.size ≤ q ∧ q < u2.heap.size), ⟨m, A', k', ⟨?_, ?_, ⟨hr.1, ?_⟩, ?_, h.ok, .inl h.inS, ?_⟩⟩, fun q hq => hq.imp id And.left, ?_⟩
  · exact bl_set (bl_keep h.blk (hk S hS0 hSo)) 2 _
  · have hm := h.map
    cases m with
    | none => exact hm
    | some b =>
      have hb : b < w.heap.size := h.lt b hm.2
      have hbo : some b ≠ (Value.slice A R.length k).ownBlock := fun e => by
        obtain ⟨cur, h3⟩ := row_own h.row e.symm
        exact map_ne hm.1 (cs := cur.toList) (T := 75) (by unfold BL; rw [h3]) rfl
      exact ⟨hm.1.keep ((hset b (set_ne h).symm).trans (hk b hb hbo)), .inl hm.2⟩
  · rcases hr.2 with g | ⟨g, cap, cur, e1, g1, g2, g3⟩
    · exact .inl g
    · exact .inr ⟨g, cap, cur, e1, g1, by rw [hset g (row_ne (bl_keep h.blk (hk S hS0 hSo)) g2)]; exact g2, g3⟩
  · intro q hq
    have hq : (Value.slice A' (R.length + 1) k').ownBlock = some q := hq
    rcases ho with e | e
    · rw [e] at hq
      exact .inl (h.rowP q hq)
    · rw [e] at hq
      cases hq
      obtain ⟨cur, h3⟩ := row_own hr e
      exact .inr ⟨h1.size, lt_of_block h3⟩
  · intro q hq
    rw [hss]
    rcases hq with hq | hq
    · exact Nat.lt_of_lt_of_le (h.lt q hq) hsz
    · exact hq.2
  · refine ⟨?_, ?_, ?_, by rw [hss]; exact hsz, fun q hq hn => ?_⟩
    · exact hg.os.trans h1.os
    · exact hg.tape.trans h1.tape
    · exact hg.output.trans h1.output
    · refine (hset q fun e => hn (e ▸ h.inS)).trans (hk q hq fun e => hn (h.rowP q e.symm))
end Go.Proofs.Ytdggnmlhgglccaa
