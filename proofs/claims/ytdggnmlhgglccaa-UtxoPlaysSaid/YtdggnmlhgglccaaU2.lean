/-
  Sets of coins without Go: what was done, last first; a Set in memory.
-/
import Derived.Test.YtdggnmlhgglccaaU1
namespace Go.Proofs.Ytdggnmlhgglccaa
open Go.RowKit
set_option maxRecDepth 100000
/-- a step: where, which coin, is it spent? -/
structure Stp where
  p : List Int
  c : Cn
  s : Bool
def amt (c : Cn) : Int := cel c.r 8
def appF (F : List Int → Option Cn) (x : Stp) : List Int → Option Cn := updC F x.p (if x.s then none else some x.c)
/-- the coins that are there, their points, their total (the last step is the first of the list) -/
def setF : List Stp → List Int → Option Cn
  | [] => fun _ => none
  | x :: L => appF (setF L) x
def setK : List Stp → List (List Int)
  | [] => []
  | x :: L => if x.s then (setK L).filter (fun q => decide (q ≠ x.p)) else x.p :: setK L
def setT : List Stp → Int
  | [] => 0
  | x :: L => if x.s then setT L - amt x.c else setT L + amt x.c
def maxM : Int := 1125899906842624
def mayAdd (L : List Stp) (p : List Int) (c : Cn) : Prop := setF L p = none ∧ 0 < amt c ∧ setT L + amt c ≤ maxM ∧ 0 ≤ cel p 8 ∧ cel p 8 ≤ 255
def okS : List Stp → Prop
  | [] => True
  | x :: L => okS L ∧ okP x.p ∧ x.c.ok ∧ if x.s then setF L x.p = some x.c else mayAdd L x.p x.c
def amtF (F : List Int → Option Cn) (p : List Int) : Int := match F p with
  | some c => amt c
  | none => 0
theorem sum_filter {f : List Int → Int} {p : List Int} : ∀ {l : List (List Int)}, l.Nodup → p ∈ l → ((l.filter (fun q => decide (q ≠ p))).map f).sum + f p = (l.map f).sum ∧ (l.filter (fun q => decide (q ≠ p))).length + 1 = l.length
  | a :: l, hn, h => by
    obtain ⟨h1, h2⟩ := List.nodup_cons.1 hn
    by_cases e : a = p
    · subst e
      have : l.filter (fun q => decide (q ≠ a)) = l := List.filter_eq_self.2 fun q hq => by
        have : q ≠ a := fun e => h1 (e ▸ hq)
        simp [this]
      rw [List.filter_cons_of_neg (by simp), this]
      simp only [List.map_cons, List.sum_cons, List.length_cons]
      exact ⟨by omega, by simp⟩
    · have hm : p ∈ l := by
        rcases List.mem_cons.1 h with h | h
        · exact absurd h.symm e
        · exact h
      obtain ⟨g1, g2⟩ := sum_filter (f := f) h2 hm
      rw [List.filter_cons_of_pos (by simp [e])]
      simp only [List.map_cons, List.sum_cons, List.length_cons]
      exact ⟨by omega, by omega⟩
theorem sum_congr' {f g : List Int → Int} : ∀ {l : List (List Int)}, (∀ p ∈ l, f p = g p) → (l.map f).sum = (l.map g).sum
  | [], _ => rfl
  | a :: l, h => by
    simp only [List.map_cons, List.sum_cons]
    rw [h a (by simp), sum_congr' (l := l) fun p hp => h p (List.mem_cons_of_mem _ hp)]
theorem sum_nn {f : List Int → Int} : ∀ {l : List (List Int)}, (∀ p ∈ l, 0 ≤ f p) → 0 ≤ (l.map f).sum
  | [], _ => Int.le_refl 0
  | a :: l, h => by
    simp only [List.map_cons, List.sum_cons]
    have h1 := h a (by simp)
    have h2 := sum_nn (l := l) fun p hp => h p (List.mem_cons_of_mem _ hp)
    omega
structure Inv (L : List Stp) : Prop where
  nd : (setK L).Nodup
  mem : ∀ p, p ∈ setK L ↔ setF L p ≠ none
  sum : setT L = ((setK L).map (amtF (setF L))).sum
  ok : ∀ p c, setF L p = some c → okP p ∧ c.ok ∧ 0 < amt c
  mx : setT L ≤ maxM
theorem Inv.nn {L : List Stp} (h : Inv L) : 0 ≤ setT L := by
  rw [h.sum]
  refine sum_nn fun p hp => ?_
  unfold amtF
  cases e : setF L p with
  | none => exact Int.le_refl 0
  | some c => exact Int.le_of_lt (h.ok p c e).2.2
theorem setF_put {x : Stp} {L : List Stp} (h : x.s = false) : setF (x :: L) = updC (setF L) x.p (some x.c) := by show appF _ _ = _; unfold appF; rw [h]; rfl
theorem setF_del {x : Stp} {L : List Stp} (h : x.s = true) : setF (x :: L) = updC (setF L) x.p none := by show appF _ _ = _; unfold appF; rw [h]; rfl
theorem inv_of : ∀ {L : List Stp}, okS L → Inv L
  | [], _ => ⟨List.nodup_nil, fun p => by simp [setK, setF], rfl, fun p c h => (by cases h), by decide⟩
  | x :: L, h => by
    obtain ⟨h1, hp, hc, hx⟩ := h
    have I := inv_of h1
    cases hs : x.s with
    | false =>
      rw [hs] at hx
      obtain ⟨m1, m2, m3, m4, m5⟩ := hx
      have eK : setK (x :: L) = x.p :: setK L := by show (if x.s = true then _ else _) = _; rw [hs]; rfl
      have eT : setT (x :: L) = setT L + amt x.c := by show (if x.s = true then _ else _) = _; rw [hs]; rfl
      have eF := setF_put (L := L) hs
      have hn : x.p ∉ setK L := fun hm => (I.mem x.p).1 hm m1
      refine ⟨?_, fun p => ?_, ?_, fun p c hF => ?_, by rw [eT]; exact m3⟩
      · rw [eK]; exact List.nodup_cons.2 ⟨hn, I.nd⟩
      · rw [eK, eF, List.mem_cons]
        by_cases e : p = x.p
        · subst e; rw [updC_same]; simp
        · rw [updC_other _ _ e, I.mem p]; simp [e]
      · rw [eT, eK, eF, List.map_cons, List.sum_cons, I.sum]
        have a1 : amtF (updC (setF L) x.p (some x.c)) x.p = amt x.c := by unfold amtF; rw [updC_same]
        rw [a1, sum_congr' (f := amtF (updC (setF L) x.p (some x.c))) (g := amtF (setF L)) fun p hp => by
          unfold amtF
          rw [updC_other _ _ (show p ≠ x.p from fun e => hn (e ▸ hp))]]
        omega
      · rw [eF] at hF
        by_cases e : p = x.p
        · subst e
          rw [updC_same] at hF
          cases hF
          exact ⟨hp, hc, m2⟩
        · rw [updC_other _ _ e] at hF
          exact I.ok p c hF
    | true =>
      rw [hs] at hx
      have hx : setF L x.p = some x.c := hx
      have eK : setK (x :: L) = (setK L).filter (fun q => decide (q ≠ x.p)) := by show (if x.s = true then _ else _) = _; rw [hs]; rfl
      have eT : setT (x :: L) = setT L - amt x.c := by show (if x.s = true then _ else _) = _; rw [hs]; rfl
      have eF := setF_del (L := L) hs
      have hm : x.p ∈ setK L := (I.mem x.p).2 (by rw [hx]; simp)
      have hpos := (I.ok x.p x.c hx).2.2
      obtain ⟨s1, _⟩ := sum_filter (f := amtF (setF L)) I.nd hm
      refine ⟨?_, fun p => ?_, ?_, fun p c hF => ?_, by rw [eT]; have := I.mx; omega⟩
      · rw [eK]; exact I.nd.filter _
      · rw [eK, eF, List.mem_filter]
        by_cases e : p = x.p
        · subst e; rw [updC_same]; simp
        · rw [updC_other _ _ e, I.mem p]; simp [e]
      · rw [eT, eK, eF]
        have a1 : amtF (setF L) x.p = amt x.c := by unfold amtF; rw [hx]
        rw [a1] at s1
        rw [sum_congr' (f := amtF (updC (setF L) x.p none)) (g := amtF (setF L)) fun p hp => by
          unfold amtF
          have : p ≠ x.p := by simpa using (List.mem_filter.1 hp).2
          rw [updC_other _ _ this]]
        have := I.sum
        omega
      · rw [eF] at hF
        by_cases e : p = x.p
        · subst e
          rw [updC_same] at hF
          cases hF
        · rw [updC_other _ _ e] at hF
          exact I.ok p c hF
def setN (L : List Stp) : Nat := (setK L).length
theorem setN_put {x : Stp} {L : List Stp} (h : x.s = false) : setN (x :: L) = setN L + 1 := by
  unfold setN
  show (if x.s = true then _ else _ : List (List Int)).length = _
  rw [h]; rfl
theorem setN_del {x : Stp} {L : List Stp} (ho : okS (x :: L)) (h : x.s = true) : setN L = setN (x :: L) + 1 := by
  obtain ⟨h1, hp, hc, hx⟩ := ho
  rw [h] at hx
  have hx : setF L x.p = some x.c := hx
  have I := inv_of h1
  have hm : x.p ∈ setK L := (I.mem x.p).2 (by rw [hx]; simp)
  obtain ⟨_, s2⟩ := sum_filter (f := fun _ => 0) I.nd hm
  unfold setN
  show _ = (if x.s = true then _ else _ : List (List Int)).length + 1
  rw [h]
  exact s2.symm
theorem setN_le : ∀ (L : List Stp), setN L ≤ L.length
  | [] => Nat.le_refl _
  | x :: L => by
    have := setN_le L
    unfold setN at *
    show (if x.s = true then _ else _ : List (List Int)).length ≤ _
    split
    · have := List.length_filter_le (fun q => decide (q ≠ x.p)) (setK L)
      simp only [List.length_cons]; omega
    · simp only [List.length_cons]; omega
/-! ### in memory -/
def stV (x : Stp) : List Value := ptV x.p ++ (cnV x.c ++ [.bool x.s])
def rowV (L : List Stp) : List Value := (L.reverse.map stV).flatten
/-- all that is in no block of P stays -/
structure Fr (w w' : World) (P : Nat → Prop) : Prop where
  os : w'.os = w.os
  tape : w'.tape = w.tape
  output : w'.output = w.output
  size : w.heap.size ≤ w'.heap.size
  block : ∀ q, q < w.heap.size → ¬ P q → w'.heap[q]? = w.heap[q]?
theorem Fr.refl (w : World) (P : Nat → Prop) : Fr w w P := ⟨rfl, rfl, rfl, Nat.le_refl _, fun _ _ _ => rfl⟩
theorem Fr.of_below {w w' : World} {P : Nat → Prop} (h : Below w.heap.size w w') : Fr w w' P := ⟨h.os, h.tape, h.output, h.size, fun q hq _ => h.block q hq⟩
theorem Fr.trans {w w' w'' : World} {P P' : Nat → Prop} (h : Fr w w' P) (g : Fr w' w'' P') (hp : ∀ q, P' q → P q ∨ w.heap.size ≤ q) : Fr w w'' P :=
  ⟨g.os.trans h.os, g.tape.trans h.tape, g.output.trans h.output, Nat.le_trans h.size g.size, fun q hq hn => (g.block q (Nat.lt_of_lt_of_le hq h.size) fun e => (hp q e).elim hn fun h2 => by omega).trans (h.block q hq hn)⟩
theorem Fr.mono {w w' : World} {P P' : Nat → Prop} (h : Fr w w' P) (hp : ∀ q, P q → P' q) : Fr w w' P' := ⟨h.os, h.tape, h.output, h.size, fun q hq hn => h.block q hq fun e => hn (hp q e)⟩
theorem Fr.below {w w' : World} {P : Nat → Prop} {B : Nat} (h : Fr w w' P) (hB : B ≤ w.heap.size) (hp : ∀ q, P q → B ≤ q) : Below B w w' := ⟨h.os, h.tape, h.output, h.size, fun q hq => h.block q (by omega) fun e => by have := hp q e; omega⟩
def mapOk (w : World) (L : List Stp) (P : Nat → Prop) : Option Nat → Prop
  | none => L = []
  | some b => MapC w b (setN L) (setF L) ∧ P b
/-- the Set at block S, its map m, its row; all that it may write is in P -/
structure SetAt (w : World) (S : Nat) (L R : List Stp) (P : Nat → Prop) (m : Option Nat) (A : Option Addr) (c : Nat) : Prop where
  blk : BL w S [.map m, .int .i64 (setT L), .slice A R.length c] 70
  map : mapOk w L P m
  row : w.ownsRow 0 75 21 (.slice A R.length c) R.length (rowV R)
  rowP : ∀ q, (Value.slice A R.length c).ownBlock = some q → P q
  ok : okS L
  inS : P S
  lt : ∀ q, P q → q < w.heap.size
/-- the coins are those of L, the row is that of R -/
def Set2 (w : World) (S : Nat) (L R : List Stp) (P : Nat → Prop) : Prop := ∃ m A c, SetAt w S L R P m A c
def SetIs (w : World) (S : Nat) (L : List Stp) (P : Nat → Prop) : Prop := Set2 w S L L P
theorem SetAt.keep {w w' : World} {S : Nat} {L R : List Stp} {P : Nat → Prop} {m : Option Nat} {A : Option Addr} {c : Nat} (h : SetAt w S L R P m A c) (hb : ∀ q, P q → w'.heap[q]? = w.heap[q]?) (hs : w.heap.size ≤ w'.heap.size) : SetAt w' S L R P m A c := by
  refine ⟨bl_keep h.blk (hb S h.inS), ?_, ?_, h.rowP, h.ok, h.inS, fun q hq => Nat.lt_of_lt_of_le (h.lt q hq) hs⟩
  · have := h.map
    cases m with
    | none => exact this
    | some b => exact ⟨this.1.keep (hb b this.2), this.2⟩
  · refine ⟨h.row.1, ?_⟩
    rcases h.row.2 with h2 | ⟨g, cap, cur, e1, h1, h2, h3⟩
    · exact .inl h2
    · exact .inr ⟨g, cap, cur, e1, h1, by rw [hb g (h.rowP g (by rw [e1]; rfl))]; exact h2, h3⟩
theorem SetIs.keep {w w' : World} {S : Nat} {L : List Stp} {P : Nat → Prop} (h : SetIs w S L P) (hb : ∀ q, P q → w'.heap[q]? = w.heap[q]?) (hs : w.heap.size ≤ w'.heap.size) : SetIs w' S L P := by
  obtain ⟨m, A, c, h⟩ := h
  exact ⟨m, A, c, h.keep hb hs⟩
theorem SetIs.grow {w w' : World} {S : Nat} {L : List Stp} {P : Nat → Prop} (h : SetIs w S L P) (hb : Below w.heap.size w w') : SetIs w' S L P := by
  obtain ⟨m, A, c, h⟩ := h
  exact ⟨m, A, c, h.keep (fun q hq => hb.block q (h.lt q hq)) hb.size⟩
end Go.Proofs.Ytdggnmlhgglccaa
