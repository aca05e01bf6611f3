/-
  UtxoSums without the walk: sums over the points, the Set beside a row of points.
-/
import Derived.Test.YtdggnmlhgglccaaU47
namespace Go.Proofs.Ytdggnmlhgglccaa
open Go.RowKit
set_option maxRecDepth 100000
def sF (F : List Int → Option Cn) (l : List (List Int)) : Int := (l.map (amtF F)).sum
theorem sF_perm {F : List Int → Option Cn} {a b : List (List Int)} (h : a.Perm b) : sF F a = sF F b := by
  induction h with
  | nil => rfl
  | cons x _ ih =>
    show amtF F x + sF F _ = amtF F x + sF F _
    rw [ih]
  | swap x y l =>
    show amtF F y + (amtF F x + sF F l) = amtF F x + (amtF F y + sF F l)
    omega
  | trans _ _ h1 h2 => exact h1.trans h2
theorem ord_perm {ps K : List (List Int)} (h : Ord ps K) (hK : K.Nodup) : ps.Perm K := (List.perm_ext_iff_of_nodup h.nd hK).2 h.mem
theorem sF_all {L : List Stp} {ps : List (List Int)} (hL : okS L) (h : Ord ps (setK L)) : sF (setF L) ps = setT L ∧ ps.length = setN L := by
  have I := inv_of hL
  have hp := ord_perm h I.nd
  exact ⟨(sF_perm hp).trans I.sum.symm, hp.length_eq⟩
theorem sF_app (F : List Int → Option Cn) (a b : List (List Int)) : sF F (a ++ b) = sF F a + sF F b := by simp [sF]
theorem sF_nn {L : List Stp} {l : List (List Int)} (hL : okS L) : 0 ≤ sF (setF L) l := sum_nn fun p _ => by
  have I := inv_of hL
  unfold amtF
  cases e : setF L p with
  | none => exact Int.le_refl 0
  | some c => exact Int.le_of_lt (I.ok p c e).2.2
theorem sF_snoc {F : List Int → Option Cn} {ps : List (List Int)} {i : Nat} (h : i < ps.length) {c : Cn} (hc : F (ps.getD i []) = some c) : sF F (ps.take (i + 1)) = sF F (ps.take i) + amt c ∧ sF F (ps.drop i) = amt c + sF F (ps.drop (i + 1)) := by
  have e : ps.getD i [] = ps[i] := by rw [List.getD_eq_getElem?_getD, List.getElem?_eq_getElem h]; rfl
  rw [e] at hc
  have ha : amtF F ps[i] = amt c := by unfold amtF; rw [hc]
  constructor
  · rw [List.take_succ_eq_append_getElem h, sF_app]
    show _ + (amtF F ps[i] + 0) = _
    rw [ha]; omega
  · rw [List.drop_eq_getElem_cons h]
    show amtF F ps[i] + _ = _
    rw [ha]
    rfl
theorem sF_bnd {L : List Stp} {ps : List (List Int)} (hL : okS L) (h : Ord ps (setK L)) (i : Nat) : 0 ≤ sF (setF L) (ps.take i) ∧ 0 ≤ sF (setF L) (ps.drop i) ∧ sF (setF L) (ps.take i) + sF (setF L) (ps.drop i) ≤ maxM := by
  have I := inv_of hL
  have e := sF_app (setF L) (ps.take i) (ps.drop i)
  rw [List.take_append_drop, (sF_all hL h).1] at e
  have := I.mx
  exact ⟨sF_nn hL, sF_nn hL, by omega⟩
theorem pt_there {L : List Stp} {ps : List (List Int)} (hL : okS L) (h : Ord ps (setK L)) {i : Nat} (hi : i < ps.length) : ∃ c, setF L (ps.getD i []) = some c ∧ okP (ps.getD i []) ∧ c.ok := by
  have I := inv_of hL
  have hm := (h.mem _).1 (getD_mem (d := []) hi)
  cases e : setF L (ps.getD i []) with
  | none => exact absurd e ((I.mem _).1 hm)
  | some c => exact ⟨c, rfl, (I.ok _ c e).1, (I.ok _ c e).2.1⟩
theorem pt_lt {ps K : List (List Int)} (h : Ord ps K) {i : Nat} (hi : i + 1 < ps.length) : lessP (ps.getD i []) (ps.getD (i + 1) []) = true := by
  have := List.pairwise_iff_getElem.1 h.lt i (i + 1) (by omega) hi (by omega)
  rw [List.getD_eq_getElem?_getD, List.getD_eq_getElem?_getD, List.getElem?_eq_getElem (by omega), List.getElem?_eq_getElem hi]
  exact this
/-- what is left when the first i points are spent -/
def Left (L L' : List Stp) (ps : List (List Int)) (i : Nat) : Prop := (∀ p, setF L' p = if p ∈ ps.take i then none else setF L p) ∧ setT L' = sF (setF L) (ps.drop i) ∧ L'.length ≤ L.length + i
theorem left_start {L : List Stp} {ps : List (List Int)} (hL : okS L) (h : Ord ps (setK L)) : Left L L ps 0 := ⟨fun p => by simp, by rw [List.drop_zero]; exact (sF_all hL h).1.symm, Nat.le_refl _⟩
theorem left_at {L L' : List Stp} {ps : List (List Int)} {i : Nat} (h : Left L L' ps i) {K : List (List Int)} (ho : Ord ps K) (hi : i < ps.length) : setF L' (ps.getD i []) = setF L (ps.getD i []) := by
  rw [h.1, if_neg fun hm => ?_]
  obtain ⟨j, hj, e⟩ := List.getElem_of_mem hm
  rw [List.length_take] at hj
  rw [List.getElem_take, List.getD_eq_getElem?_getD, List.getElem?_eq_getElem hi] at e
  have := List.pairwise_iff_getElem.1 ho.nd j i (by omega) hi (by omega)
  exact this e
theorem left_step {L L' : List Stp} {ps : List (List Int)} {i : Nat} (h : Left L L' ps i) (hi : i < ps.length) {c : Cn} (hc : setF L (ps.getD i []) = some c) : Left L (⟨ps.getD i [], c, true⟩ :: L') ps (i + 1) := by
  have e : ps.getD i [] = ps[i] := by rw [List.getD_eq_getElem?_getD, List.getElem?_eq_getElem hi]; rfl
  refine ⟨fun p => ?_, ?_, ?_⟩
  · have tk : ps.take (i + 1) = ps.take i ++ [ps[i]] := List.take_succ_eq_append_getElem hi
    rw [setF_del rfl, tk]
    show updC (setF L') (ps.getD i []) none p = _
    by_cases hp : p = ps.getD i []
    · subst hp
      rw [updC_same, if_pos (List.mem_append.2 (.inr (List.mem_singleton.2 e)))]
    · rw [updC_other _ _ hp, h.1]
      rw [e] at hp
      have : p ∈ ps.take i ++ [ps[i]] ↔ p ∈ ps.take i := ⟨fun h => (List.mem_append.1 h).elim id fun h => absurd (List.mem_singleton.1 h) hp, fun h => List.mem_append.2 (.inl h)⟩
      simp only [this]
  · show setT L' - amt c = _
    rw [h.2.1, (sF_snoc hi hc).2]; omega
  · have := h.2.2
    simp only [List.length_cons]; omega
theorem left_end {L L' : List Stp} {ps : List (List Int)} (hL : okS L') (h : Left L L' ps ps.length) (ho : Ord ps (setK L)) (hLL : okS L) : setN L' = 0 ∧ setT L' = 0 := by
  have I := inv_of hL
  have I2 := inv_of hLL
  have hn : setK L' = [] := by
    refine List.eq_nil_iff_forall_not_mem.2 fun p hp => ?_
    have h1 := (I.mem p).1 hp
    rw [h.1, List.take_length] at h1
    by_cases hm : p ∈ ps
    · rw [if_pos hm] at h1; exact h1 rfl
    · rw [if_neg hm] at h1
      exact hm ((ho.mem p).2 ((I2.mem p).2 h1))
  refine ⟨by unfold setN; rw [hn]; rfl, ?_⟩
  rw [h.2.1, List.drop_length]; rfl
theorem spend_yes {L : List Stp} {p : List Int} {c : Cn} (h : setF L p = some c) : spendL L p = ⟨p, c, true⟩ :: L := by unfold spendL; rw [h]
theorem spend_no {L : List Stp} {p : List Int} (h : setF L p = none) : spendL L p = L := by unfold spendL; rw [h]
/-- a Set, and a row of points beside it -/
structure SW (N : Nat) (w0 w : World) (S : Nat) (L : List Stp) (P : Nat → Prop) (A : Option Addr) (ps : List (List Int)) : Prop where
  bel : Below N w0 w
  sz : N ≤ w.heap.size
  a : SetIs w S L P
  la : ∀ q, P q → N ≤ q
  row : ps = [] ∨ ∃ g, A = some ⟨g, 0, none⟩ ∧ g < w.heap.size ∧ ¬ P g ∧ ∀ i, i < ps.length → w.rangeAt g (i * 9) (ptV (ps.getD i []))
section
variable {N : Nat} {w0 w : World} {S : Nat} {L : List Stp} {P : Nat → Prop} {A : Option Addr} {ps : List (List Int)}
theorem SW.grow (h : SW N w0 w S L P A ps) {w' : World} (hb : Below w.heap.size w w') : SW N w0 w' S L P A ps :=
  ⟨h.bel.trans (hb.mono h.sz), Nat.le_trans h.sz hb.size, h.a.grow hb, h.la, h.row.imp id fun ⟨g, e, hg, hn, hr⟩ => ⟨g, e, Nat.lt_of_lt_of_le hg hb.size, hn, fun i hi => range_keep1 (hr i hi) (hb.block g hg)⟩⟩
theorem SW.turn (h : SW N w0 w S L P A ps) {w' : World} {L' : List Stp} {P' : Nat → Prop} (h1 : SetIs w' S L' P') (h2 : ∀ q, P' q → P q ∨ w.heap.size ≤ q) (h3 : Fr w w' P) : SW N w0 w' S L' P' A ps :=
  ⟨h.bel.trans (h3.below h.sz h.la), Nat.le_trans h.sz h3.size, h1, fun q hq => (h2 q hq).elim (h.la q) fun e => Nat.le_trans h.sz e, h.row.imp id fun ⟨g, e, hg, hn, hr⟩ => ⟨g, e, Nat.lt_of_lt_of_le hg h3.size, fun hp => (h2 g hp).elim hn fun e => by omega, fun i hi => range_keep1 (hr i hi) (h3.block g hg hn)⟩⟩
theorem SW.pt (h : SW N w0 w S L P A ps) {i : Nat} (hi : i < ps.length) : ∃ g, A = some ⟨g, 0, none⟩ ∧ g < w.heap.size ∧ ¬ P g ∧ w.rangeAt g (i * 9) (ptV (ps.getD i [])) := by
  rcases h.row with rfl | ⟨g, e, hg, hn, hr⟩
  · simp at hi
  · exact ⟨g, e, hg, hn, hr i hi⟩
/-- .. and a coin beside them -/
def SC (N : Nat) (w0 w : World) (S : Nat) (L : List Stp) (A : Option Addr) (ps : List (List Int)) (F : Nat) (c : Cn) : Prop := ∃ P, SW N w0 w S L P A ps ∧ BL w F (cnV c) 47 ∧ ¬ P F
theorem SC.grow {F : Nat} {c : Cn} (h : SC N w0 w S L A ps F c) {w' : World} (hb : Below w.heap.size w w') : SC N w0 w' S L A ps F c := by
  obtain ⟨P, h1, h2, h3⟩ := h
  exact ⟨P, h1.grow hb, bl_keep h2 (hb.block F (bl_lt h2)), h3⟩
theorem SC.turn {F : Nat} {c : Cn} (h1 : SW N w0 w S L P A ps) (h2 : BL w F (cnV c) 47) (h3 : ¬ P F) {w' : World} {L' : List Stp} {P' : Nat → Prop} (g1 : SetIs w' S L' P') (g2 : ∀ q, P' q → P q ∨ w.heap.size ≤ q) (g3 : Fr w w' P) : SC N w0 w' S L' A ps F c :=
  ⟨P', h1.turn g1 g2 g3, bl_keep h2 (g3.block F (bl_lt h2) h3), fun hp => (g2 F hp).elim h3 fun e => by have := bl_lt h2; omega⟩
theorem SC.pt {F : Nat} {c : Cn} {g : Nat} (h : SC N w0 w S L (some ⟨g, 0, none⟩) ps F c) {i : Nat} (hi : i < ps.length) : w.rangeAt g (i * 9) (ptV (ps.getD i [])) := by
  obtain ⟨P, h1, _⟩ := h
  obtain ⟨g', e, _, _, hr⟩ := h1.pt hi
  cases e
  exact hr
theorem SC.cn {F : Nat} {c : Cn} (h : SC N w0 w S L A ps F c) : w.rangeAt F 0 (cnV c) := by
  obtain ⟨P, _, h2, _⟩ := h
  exact range_of h2
end
/-- Add of a point that is there: false, and all stays -/
theorem scAdd {N : Nat} {w0 w : World} {S : Nat} {L : List Stp} {A : Option Addr} {ps : List (List Int)} {F : Nat} {c y : Cn} {p : List Int} (h : SC N w0 w S L A ps F c) (hp : okP p) (hy : y.ok) (hl : L.length < 1000) (hF : setF L p ≠ none) :
    Calls Try.prog 11 #[.pointer (some ⟨S, 0, none⟩), .agg (ptV p).toArray, .agg (cnV y).toArray] w fun e w' => e = .returned (.bool false) ∧ SC N w0 w' S L A ps F c := by
  obtain ⟨P, h1, h2, h3⟩ := h
  have hm : ¬ mayAdd L p y := fun h => hF h.1
  have := uAddC S L P p y w h1.a hp hy hl
  rw [if_neg hm, decide_eq_false hm] at this
  exact this.mono fun e w' ⟨e1, P', g1, g2, g3⟩ => ⟨e1, SC.turn h1 h2 h3 g1 g2 g3⟩
theorem DRow.keep {w w' : World} {A : Option Addr} {n : Nat} {D : Nat → Dd} (h : DRow w A n D) (hb : Below w.heap.size w w') : DRow w' A n D := by
  rcases h with h | ⟨b, o, e, hr⟩
  · exact .inl h
  · exact .inr ⟨b, o, e, fun i hi => range_keep1 (hr i hi) (hb.block b (cell_lt (hr i hi 0 _ (by rfl))))⟩
end Go.Proofs.Ytdggnmlhgglccaa
