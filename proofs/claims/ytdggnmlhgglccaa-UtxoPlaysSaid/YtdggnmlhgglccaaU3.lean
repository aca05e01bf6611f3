/-
  money.May, money.Add; New, Total, Len, Mark.
-/
import Derived.Test.YtdggnmlhgglccaaU2
import Derived.Defers
import Derived.Recover
namespace Go.Proofs.Ytdggnmlhgglccaa
open Go.RowKit
set_option maxRecDepth 100000
def mayB (n : Int) : Bool := decide (0 ≤ n) && decide (n ≤ 1125899906842624)
def addB (a b : Int) : Bool := mayB a && mayB b && decide (a + b ≤ 1125899906842624)
def addZ (a b : Int) : Int := if addB a b = true then a + b else 0
def May (n : Int) : Prop := 0 ≤ n ∧ n ≤ 1125899906842624
theorem may_yes {n : Int} (h : 0 ≤ n ∧ n ≤ 1125899906842624) : mayB n = true := by unfold mayB; simp; exact h
theorem may_no {n : Int} (h : ¬ (0 ≤ n ∧ n ≤ 1125899906842624)) : mayB n = false := by unfold mayB; simp; omega
theorem add_yes {a b : Int} (h : 0 ≤ a ∧ a ≤ 1125899906842624 ∧ 0 ≤ b ∧ b ≤ 1125899906842624 ∧ a + b ≤ 1125899906842624) : addB a b = true ∧ addZ a b = a + b := by
  have : addB a b = true := by unfold addB mayB; simp; omega
  exact ⟨this, if_pos this⟩
theorem add_no {a b : Int} (h : ¬ (0 ≤ a ∧ a ≤ 1125899906842624 ∧ 0 ≤ b ∧ b ≤ 1125899906842624 ∧ a + b ≤ 1125899906842624)) : addB a b = false ∧ addZ a b = 0 := by
  have : addB a b = false := by unfold addB mayB; simp; omega
  exact ⟨this, by unfold addZ; rw [this]; rfl⟩
theorem add_iff {a b : Int} : addB a b = true ↔ (0 ≤ a ∧ a ≤ 1125899906842624 ∧ 0 ≤ b ∧ b ≤ 1125899906842624 ∧ a + b ≤ 1125899906842624) := by
  unfold addB mayB; simp; omega
theorem uMay (n : Int) (w : World) : Calls Try.prog 46 #[.int .i64 n] w fun e w' => e = .returned (.bool (mayB n)) ∧ w = w' := by
  by_cases h0 : 0 ≤ n
  · by_cases h1 : n ≤ 1125899906842624
    · rw [may_yes ⟨h0, h1⟩]
      go_enter Try.func46, Try.ntmps46
      go_wp2
      go_ret
      exact ⟨rfl, rfl⟩
    · rw [may_no (by omega)]
      go_enter Try.func46, Try.ntmps46
      go_wp2
      go_ret
      exact ⟨rfl, rfl⟩
  · rw [may_no (by omega)]
    go_enter Try.func46, Try.ntmps46
    go_wp2
    go_ret
    exact ⟨rfl, rfl⟩
theorem uAdd (a b : Int) (w : World) : Calls Try.prog 38 #[.int .i64 a, .int .i64 b] w fun e w' => e = .returned (.tuple #[.int .i64 (addZ a b), .bool (addB a b)]) ∧ w = w' := by
  by_cases ha : May a
  · have ma := may_yes ha
    by_cases hb : May b
    · have mb := may_yes hb
      by_cases hs : a + b ≤ 1125899906842624
      · rw [(add_yes ⟨ha.1, ha.2, hb.1, hb.2, hs⟩).1, (add_yes ⟨ha.1, ha.2, hb.1, hb.2, hs⟩).2]
        obtain ⟨a1, a2⟩ := ha
        obtain ⟨b1, b2⟩ := hb
        have ms : mayB (a + b) = true := may_yes ⟨by omega, by omega⟩
        go_enter Try.func38, Try.ntmps38
        go_wp2_with (go_at_call 46; refine (uMay _ _).mono ?_; rintro e w' ⟨rfl, rfl⟩)
        go_ret2
        exact ⟨rfl, rfl⟩
      · rw [(add_no (by omega)).1, (add_no (by omega)).2]
        obtain ⟨a1, a2⟩ := ha
        obtain ⟨b1, b2⟩ := hb
        have ms : mayB (a + b) = false := may_no (by omega)
        clear hs
        go_enter Try.func38, Try.ntmps38
        go_wp2_with (go_at_call 46; refine (uMay _ _).mono ?_; rintro e w' ⟨rfl, rfl⟩)
        go_ret2
        exact ⟨rfl, rfl⟩
    · have mb := may_no hb
      rw [(add_no (fun h => hb ⟨by omega, by omega⟩)).1, (add_no (fun h => hb ⟨by omega, by omega⟩)).2]
      clear ha hb
      go_enter Try.func38, Try.ntmps38
      go_wp2_with (go_at_call 46; refine (uMay _ _).mono ?_; rintro e w' ⟨rfl, rfl⟩)
      go_ret2
      exact ⟨rfl, rfl⟩
  · have ma := may_no ha
    rw [(add_no (fun h => ha ⟨by omega, by omega⟩)).1, (add_no (fun h => ha ⟨by omega, by omega⟩)).2]
    clear ha
    go_enter Try.func38, Try.ntmps38
    go_wp2_with (go_at_call 46; refine (uMay _ _).mono ?_; rintro e w' ⟨rfl, rfl⟩)
    go_ret2
    exact ⟨rfl, rfl⟩
theorem SetAt.c0 {w : World} {S : Nat} {L R : List Stp} {P : Nat → Prop} {m : Option Nat} {A : Option Addr} {c : Nat} (h : SetAt w S L R P m A c) : w.cell? ⟨S, 0, none⟩ = some (.map m) := by rw [cell_of_row w S 0 _ _ _ h.blk]; rfl
theorem SetAt.c1 {w : World} {S : Nat} {L R : List Stp} {P : Nat → Prop} {m : Option Nat} {A : Option Addr} {c : Nat} (h : SetAt w S L R P m A c) : w.cell? ⟨S, 1, none⟩ = some (.int .i64 (setT L)) := by rw [cell_of_row w S 1 _ _ _ h.blk]; rfl
theorem SetAt.c2 {w : World} {S : Nat} {L R : List Stp} {P : Nat → Prop} {m : Option Nat} {A : Option Addr} {c : Nat} (h : SetAt w S L R P m A c) : w.cell? ⟨S, 2, none⟩ = some (.slice A R.length c) := by rw [cell_of_row w S 2 _ _ _ h.blk]; rfl
theorem uTot (S : Nat) (L : List Stp) (P : Nat → Prop) (w : World) (h : SetIs w S L P) : Calls Try.prog 23 #[.pointer (some ⟨S, 0, none⟩)] w fun e w' => e = .returned (.int .i64 (setT L)) ∧ w = w' := by
  obtain ⟨m, A, c, h⟩ := h
  have c1 := h.c1
  clear h
  go_enter Try.func23, Try.ntmps23
  go_wp2
  go_ret
  exact ⟨rfl, rfl⟩
theorem uLen (S : Nat) (L : List Stp) (P : Nat → Prop) (w : World) (h : SetIs w S L P) : Calls Try.prog 24 #[.pointer (some ⟨S, 0, none⟩)] w fun e w' => e = .returned (.int .i64 (setN L)) ∧ w = w' := by
  obtain ⟨m, A, c, h⟩ := h
  have c0 := h.c0
  have hm := h.map
  clear h
  cases m with
  | none =>
    subst hm
    have hl := len_nilC w
    go_enter Try.func24, Try.ntmps24
    go_wp2
    go_ret
    exact ⟨rfl, rfl⟩
  | some b =>
    have hl := hm.1.len
    clear hm
    go_enter Try.func24, Try.ntmps24
    go_wp2
    go_ret
    exact ⟨rfl, rfl⟩
theorem i54 : (Try.prog.info? 54).map (·.size) = some 1 := by kernel_rfl
theorem i47 : (Try.prog.info? 47).map (·.size) = some 11 := by kernel_rfl
theorem i38 : (Try.prog.info? 38).map (·.size) = some 9 := by kernel_rfl
theorem i75 : (Try.prog.info? 75).map (·.size) = some 21 := by kernel_rfl
theorem i70 : (Try.prog.info? 70).map (·.size) = some 3 := by kernel_rfl
theorem uMark (S : Nat) (L : List Stp) (P : Nat → Prop) (w : World) (h : SetIs w S L P) : Calls Try.prog 15 #[.pointer (some ⟨S, 0, none⟩)] w fun e w' => e = .returned (.agg #[.int .i64 L.length]) ∧ Below w.heap.size w w' := by
  obtain ⟨m, A, c, h⟩ := h
  have c2 : (w.alloc (Obj.cells #[.int .i64 0] 54)).cell? ⟨S, 2, none⟩ = some (.slice A L.length c) := (World.cell?_of_block (w := w) (a := ⟨S, 2, none⟩) (Below.heap_alloc w _ S (h.lt S h.inS))).trans h.c2
  clear h
  go_enter Try.func15, Try.ntmps15
  go_wp2
  exact bodyPost_ret (results_cell_row rfl _ _ w.heap.size 54 _ (0, 0) _ rfl (heap_alloc_last w _) Try.underlying54 rfl i54) rfl ⟨rfl, (Below.refl w.heap.size w).alloc (Nat.le_refl _) _⟩
theorem setIs_new (w : World) : SetIs (w.alloc (.cells #[.map none, .int .i64 0, .slice none 0 0] 70)) w.heap.size [] (fun q => q = w.heap.size) :=
  ⟨none, none, 0, ⟨heap_alloc_last w _, rfl, ⟨rfl, .inl ⟨rfl, rfl⟩⟩, fun q hq => (by cases hq), trivial, rfl, fun q hq => (by rw [hq]; simp)⟩⟩
theorem uNew (w : World) : Calls Try.prog 8 #[] w fun e w' => e = .returned (.pointer (some ⟨w.heap.size, 0, none⟩)) ∧ SetIs w' w.heap.size [] (fun q => q = w.heap.size) ∧ Below w.heap.size w w' := by
  have hn := setIs_new w
  have hb := (Below.refl w.heap.size w).alloc (Nat.le_refl _) (.cells #[.map none, .int .i64 0, .slice none 0 0] 70)
  go_enter Try.func8, Try.ntmps8
  go_wp2
  go_ret
  exact ⟨rfl, hn, hb⟩
end Go.Proofs.Ytdggnmlhgglccaa
