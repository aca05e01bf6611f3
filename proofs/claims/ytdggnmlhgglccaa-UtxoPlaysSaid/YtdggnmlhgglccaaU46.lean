/-
  The document's Coins: Add; a Set and Coins side by side.
-/
import Derived.Test.YtdggnmlhgglccaaU45
import Derived.Test.YtdggnmlhgglccaaU44b
namespace Go.Proofs.Ytdggnmlhgglccaa
open Go.RowKit
set_option maxRecDepth 100000
theorem ins_fine {ps : List (List Int)} {cs : List Cn} {p : List Int} {x : Cn} (hf : Fine cs) (h : cMay ps cs p x) : Fine (insC ps cs p x) := by
  obtain ⟨_, _, _, h4, h5⟩ := h
  refine ⟨fun y hy => ?_, ?_⟩
  · rcases List.mem_append.1 hy with hy | hy
    · exact hf.1 y (List.mem_of_mem_take hy)
    · rcases List.mem_cons.1 hy with rfl | hy
      · omega
      · exact hf.1 y (List.mem_of_mem_drop hy)
  · have e1 : totC (insC ps cs p x) = totC (cs.take (idxP ps p)) + totC (x :: cs.drop (idxP ps p)) := totC_app _ _
    have e2 : totC (x :: cs.drop (idxP ps p)) = amt x + totC (cs.drop (idxP ps p)) := by simp [totC]
    have e3 := totC_app (cs.take (idxP ps p)) (cs.drop (idxP ps p))
    rw [List.take_append_drop] at e3
    omega
theorem cAdd {B : Nat} {ps : List (List Int)} {cs : List Cn} {Q : Nat → Prop} {p : List Int} {x : Cn} {w : World} (h : CoIs w B ps cs Q) (hp : okP p) (hx : x.ok) (hf : Fine cs) (hl : ps.length ≤ 1000) :
    Calls Try.prog 10 #[.pointer (some ⟨B, 0, none⟩), .agg (ptV p).toArray, .agg (cnV x).toArray] w fun e w' => e = .returned (.bool (decide (cMay ps cs p x))) ∧ ∃ Q', CoIs w' B (if cMay ps cs p x then insP ps p else ps) (if cMay ps cs p x then insC ps cs p x else cs) Q' ∧ (∀ q, Q' q → Q q ∨ w.heap.size ≤ q) ∧ Fr w w' Q := by
  by_cases hm : cMay ps cs p x
  · rw [if_pos hm, if_pos hm, decide_eq_true hm]
    exact cAddYes h hp hx hf hl hm
  · rw [if_neg hm, if_neg hm, decide_eq_false hm]
    have no : ∀ {e : Ending} {w' : World}, e = .returned (.bool false) ∧ Below w.heap.size w w' → e = .returned (.bool false) ∧ ∃ Q', CoIs w' B ps cs Q' ∧ (∀ q, Q' q → Q q ∨ w.heap.size ≤ q) ∧ Fr w w' Q := fun {e w'} g => by
      refine ⟨g.1, Q, ?_, fun q hq => .inl hq, Fr.of_below g.2⟩
      obtain ⟨A, A2, c, c2, h⟩ := h
      exact ⟨A, A2, c, c2, h.grow g.2⟩
    by_cases g1 : hasP ps p = true
    · exact (cAddNo1 h hp hx hf hl g1).mono fun e w' g => no g
    have g1 : hasP ps p = false := by simpa using g1
    by_cases g2 : cel p 8 < 0
    · exact (cAddNo2 h hp hx hf hl g1 g2).mono fun e w' g => no g
    have g2 : 0 ≤ cel p 8 := by omega
    by_cases g3 : cel p 8 > 255
    · exact (cAddNo3 h hp hx hf hl g1 g2 g3).mono fun e w' g => no g
    have g3 : cel p 8 ≤ 255 := by omega
    by_cases g4 : amt x < 1
    · exact (cAddNo4 h hp hx hf hl g1 g2 g3 g4).mono fun e w' g => no g
    have g4 : 1 ≤ amt x := by omega
    by_cases g5 : amt x > 1125899906842624
    · exact (cAddNo5 h hp hx hf hl g1 g2 g3 g4 g5).mono fun e w' g => no g
    refine (cAddNo6 h hp hx hf hl g1 g2 g3 g4 (by omega) ?_).mono fun e w' g => no g
    have : ¬ (totC cs + amt x ≤ maxM) := fun h5 => hm ⟨g1, g2, g3, g4, h5⟩
    unfold maxM at this
    omega
theorem CoIs.plt {w : World} {B : Nat} {ps : List (List Int)} {cs : List Cn} {Q : Nat → Prop} (h : CoIs w B ps cs Q) : ∀ q, Q q → q < w.heap.size := by
  obtain ⟨A, A2, c, c2, h⟩ := h
  exact h.lt
theorem CoIs.nil (w : World) (B : Nat) (h : BL w B [.slice none 0 0, .slice none 0 0] 30) : CoIs w B [] [] (fun q => q = B) :=
  ⟨none, none, 0, 0, h, rfl, World.ownsRow_nil _ _ _ _, World.ownsRow_nil _ _ _ _, fun p hp => (by cases hp), fun p hp => (by cases hp), fun q hq => (by cases hq), fun q hq => (by cases hq), rfl, fun q hq => hq ▸ bl_lt h⟩
/-- a Set and the document's Coins, apart from each other -/
structure FW (N : Nat) (w0 w : World) (S B : Nat) (L : List Stp) (P : Nat → Prop) (ps : List (List Int)) (cs : List Cn) (Q : Nat → Prop) : Prop where
  bel : Below N w0 w
  sz : N ≤ w.heap.size
  a : SetIs w S L P
  b : CoIs w B ps cs Q
  fine : Fine cs
  la : ∀ q, P q → N ≤ q
  lb : ∀ q, Q q → N ≤ q
  ap : ∀ q, P q → ¬ Q q
section
variable {N : Nat} {w0 w : World} {S B : Nat} {L : List Stp} {P : Nat → Prop} {ps : List (List Int)} {cs : List Cn} {Q : Nat → Prop}
theorem FW.grow (h : FW N w0 w S B L P ps cs Q) {w' : World} (hb : Below w.heap.size w w') : FW N w0 w' S B L P ps cs Q :=
  ⟨h.bel.trans (hb.mono h.sz), Nat.le_trans h.sz hb.size, h.a.grow hb, h.b.keep (fun q hq => hb.block q (h.b.plt q hq)) hb.size, h.fine, h.la, h.lb, h.ap⟩
theorem FW.turnA (h : FW N w0 w S B L P ps cs Q) {w' : World} {L' : List Stp} {P' : Nat → Prop} (h1 : SetIs w' S L' P') (h2 : ∀ q, P' q → P q ∨ w.heap.size ≤ q) (h3 : Fr w w' P) : FW N w0 w' S B L' P' ps cs Q :=
  ⟨h.bel.trans (h3.below h.sz h.la), Nat.le_trans h.sz h3.size, h1, h.b.keep (fun q hq => h3.block q (h.b.plt q hq) fun e => h.ap q e hq) h3.size, h.fine,
   fun q hq => (h2 q hq).elim (h.la q) fun e => Nat.le_trans h.sz e, h.lb, fun q hq hq2 => (h2 q hq).elim (fun e => h.ap q e hq2) fun e => by have := h.b.plt q hq2; omega⟩
theorem FW.turnB (h : FW N w0 w S B L P ps cs Q) {w' : World} {ps' : List (List Int)} {cs' : List Cn} {Q' : Nat → Prop} (h1 : CoIs w' B ps' cs' Q') (hf : Fine cs') (h2 : ∀ q, Q' q → Q q ∨ w.heap.size ≤ q) (h3 : Fr w w' Q) : FW N w0 w' S B L P ps' cs' Q' :=
  ⟨h.bel.trans (h3.below h.sz h.lb), Nat.le_trans h.sz h3.size, h.a.keep (fun q hq => h3.block q (h.a.plt q hq) fun e => h.ap q hq e) h3.size, h1, hf,
   h.la, fun q hq => (h2 q hq).elim (h.lb q) fun e => Nat.le_trans h.sz e, fun q hq hq2 => (h2 q hq2).elim (fun e => h.ap q hq e) fun e => by have := h.a.plt q hq; omega⟩
end
end Go.Proofs.Ytdggnmlhgglccaa
