/-
  Back.
-/
import Derived.Test.YtdggnmlhgglccaaU18
namespace Go.Proofs.Ytdggnmlhgglccaa
open Go.RowKit
set_option maxRecDepth 100000
theorem okS_all : ∀ {L : List Stp}, okS L → allOk L
  | [], _ => fun x hx => (by cases hx)
  | y :: L, h => fun x hx => by
    obtain ⟨h1, h2, h3, _⟩ := h
    rcases List.mem_cons.1 hx with e | e
    · exact e ▸ ⟨h2, h3⟩
    · exact okS_all h1 x e
theorem okS_drop : ∀ {L : List Stp} (k : Nat), okS L → okS (L.drop k)
  | _, 0, h => h
  | [], _ + 1, h => h
  | _ :: _, k + 1, h => okS_drop k h.1
theorem atS_take {L : List Stp} {n k : Nat} (h : k < (L.take n).length) : L.drop k = atS (L.take n) k :: L.drop (k + 1) := by
  have hk : k < L.length := by rw [List.length_take] at h; omega
  rw [List.drop_eq_getElem_cons hk]
  congr 1
  unfold atS
  rw [List.getD_eq_getElem?_getD, List.getElem?_eq_getElem h, Option.getD_some, List.getElem_take]
/-- undoing the step that stands last -/
theorem und_last {x : Stp} {M : List Stp} (h : okS (x :: M)) (hl : M.length < 100000) : undF (setF (x :: M)) x = setF M ∧ undN (setF (x :: M)) (setN (x :: M)) x = setN M ∧ undT (setT (x :: M)) x = setT M := by
  have I := inv_of h.1
  have h1 := I.nn
  have h2 := I.mx
  unfold maxM at h2
  unfold undF undN undT
  cases hs : x.s with
  | true =>
    have C := comes_back h hs hl
    simp only [if_true, C.no, Option.isSome_none, Bool.false_eq_true, if_false]
    refine ⟨C.F.symm, C.N.symm, ?_⟩
    rw [← C.T]
    unfold wrap64
    omega
  | false =>
    have C := goes_back h hs
    simp only [Bool.false_eq_true, if_false, C.is, Option.isSome_some, if_true]
    refine ⟨C.F.symm, by rw [C.N]; omega, ?_⟩
    rw [← C.T]
    unfold wrap64
    omega
theorem undN_le (F : List Int → Option Cn) (n : Nat) (x : Stp) : undN F n x ≤ n + 1 := by unfold undN; split <;> split <;> omega
/-- what stands behind Back -/
theorem back_end {w v W w' : World} {S u c : Nat} {L : List Stp} (hL : allOk L) {P : Nat → Prop} {m : Option Nat} {A : Option Addr} (hlt : ∀ q, P q → q < w.heap.size) (hb : Below w.heap.size w v) (hv : v.heap.size = w.heap.size + 2) (hu : u ≤ L.length)
    (hs : SetAt W S (L.drop (L.length - u)) L P m A c) (hf : Fr v W P) (h1 : w'.os = W.os) (h2 : w'.tape = W.tape) (h3 : w'.output = W.output) (h4 : w'.heap.size = W.heap.size)
    (h5 : ∀ q, q < w.heap.size + 2 → w'.heap[q]? = (W.setCell ⟨S, 2, none⟩ (.slice A u c)).heap[q]?) : SetIs w' S (L.drop (L.length - u)) P ∧ Fr w w' P := by
  have hS := hlt S hs.inS
  have ho : ∀ q, q < w.heap.size + 2 → q ≠ S → w'.heap[q]? = W.heap[q]? := fun q hq hn => (h5 q hq).trans (heap_set1 _ _ _ hn)
  have hl : (L.drop (L.length - u)).length = u := by rw [List.length_drop]; omega
  have hbS : BL w' S [.map m, .int .i64 (setT (L.drop (L.length - u))), .slice A u c] 70 := bl_keep (bl_set hs.blk 2 (.slice A u c)) (h5 S (by omega))
  have hw0 := hs.ok
  refine ⟨⟨m, A, c, ?_⟩, ?_⟩
  · refine ⟨by rw [hl]; exact hbS, ?_, ?_, ?_, hs.ok, hs.inS, fun q hq => by have := hs.lt q hq; omega⟩
    · have := hs.map
      cases m with
      | none => exact this
      | some b => exact ⟨this.1.keep (ho b (by have := hlt b this.2; omega) (map_ne this.1 hs.blk).symm), this.2⟩
    · rw [hl]
      refine row_cut (L := L) ⟨hs.row.1, ?_⟩ (fun x hx => stV_len (hL x hx).1 (hL x hx).2) hu
      rcases hs.row.2 with g | ⟨g, cap, cur, e1, r1, r3, r4⟩
      · exact .inl g
      · exact .inr ⟨g, cap, cur, e1, r1, by rw [ho g (by have := hlt g (hs.rowP g (by rw [e1]; rfl)); omega) (row_ne hs.blk r3)]; exact r3, r4⟩
    · intro q hq
      refine hs.rowP q ?_
      rw [hl] at hq
      cases A with
      | none => cases hq
      | some a => exact hq
  · exact ⟨h1.trans (hf.os.trans hb.os), h2.trans (hf.tape.trans hb.tape), h3.trans (hf.output.trans hb.output), by have := hf.size; omega, fun q hq hn =>
      (ho q (by omega) (fun e => hn (e ▸ hs.inS))).trans ((hf.block q (by omega) hn).trans (hb.block q hq))⟩
theorem ownsRow_keep {w w' : World} {P : Nat → Prop} {v : Value} {n : Nat} {xs : List Value} (h : w.ownsRow 0 75 21 v n xs) (hp : ∀ q, v.ownBlock = some q → P q) (hb : ∀ q, P q → w'.heap[q]? = w.heap[q]?) : w'.ownsRow 0 75 21 v n xs := by
  refine ⟨h.1, ?_⟩
  rcases h.2 with g | ⟨g, cap, cur, e1, r1, r3, r4⟩
  · exact .inl g
  · exact .inr ⟨g, cap, cur, e1, r1, by rw [hb g (hp g (by rw [e1]; rfl))]; exact r3, r4⟩
set_option maxHeartbeats 1000000 in
theorem uBackYes (S : Nat) (L : List Stp) (P : Nat → Prop) (u : Nat) (w : World) (h : SetIs w S L P) (hL : L.length < 50000) (hu : u ≤ L.length) :
    Calls Try.prog 16 #[.pointer (some ⟨S, 0, none⟩), .agg #[.int .i64 u]] w fun e w' => e = .returned (.bool true) ∧ SetIs w' S (L.drop (L.length - u)) P ∧ Fr w w' P := by
  obtain ⟨m, A, c, h⟩ := h
  have hA := okS_all h.ok
  have hlt := h.lt
  have hbv := boxW_below w S u
  have hvs := boxW_size w S u
  have hv : SetAt (boxW w S u) S L L P m A c := h.keep (fun q hq => hbv.block q (hlt q hq)) hbv.size
  have hMl : (L.take (L.length - u)).length = L.length - u := by rw [List.length_take]; omega
  obtain ⟨g, o, B, bn, bc, hsB, hsF, hg, hR⟩ := row_parts hA (by have := h.lt S h.inS; omega) h.row hu
  have hS := hlt S h.inS
  have hM : allOk (L.take (L.length - u)) := fun x hx => hA x (List.mem_of_mem_take hx)
  -- what stays of the boxes
  have hbox : ∀ W, Fr (boxW w S u) W P → W.cell? ⟨w.heap.size, 0, none⟩ = some (.pointer (some ⟨S, 0, none⟩)) ∧ W.cell? ⟨w.heap.size + 1, 0, none⟩ = some (.int .i64 u) := fun W hf =>
    ⟨bl_c0 (bl_keep (boxW_s w S u) (hf.block _ (by omega) fun hq => by have := hlt _ hq; omega)), bl_c0 (bl_keep (boxW_u w S u) (hf.block _ (by omega) fun hq => by have := hlt _ hq; omega))⟩
  have hfr0 : ∀ W, Below (w.heap.size + 2) (boxW w S u) W → Fr (boxW w S u) W P := fun W hb => ⟨hb.os, hb.tape, hb.output, hb.size, fun q hq _ => hb.block q (by omega)⟩
  have hR' : ∀ W, Below (w.heap.size + 2) (boxW w S u) W → RowS W g o (.slice B bn bc) (L.take (L.length - u)) := fun W hb =>
    (hR W (by have := hb.size; omega) (ownsRow_keep (P := P) hv.row h.rowP fun q hq => hb.block q (by have := hlt q hq; omega))).1
  have hgrow : ∀ {X Y : World} {row : Option Nat}, X.grownBy Y row → (∀ r, row = some r → w.heap.size + 2 ≤ r ∧ ∃ o : Obj, X.heap[r]? = some o ∧ o.isCells = false) → w.heap.size + 3 ≤ X.heap.size → Fr (boxW w S u) X P → Fr (boxW w S u) Y P ∧ ∀ q, P q → Y.heap[q]? = X.heap[q]? := fun {X Y row} hgb hr hs hf => by
    have hk : ∀ q, q < w.heap.size + 2 → Y.heap[q]? = X.heap[q]? := fun q hq => hgb.block q (by omega) fun e => by have := (hr q e.symm).1; omega
    exact ⟨⟨hgb.os.trans hf.os, hgb.tape.trans hf.tape, hgb.output.trans hf.output, Nat.le_trans hf.size hgb.size, fun q hq hn => (hk q (by omega)).trans (hf.block q hq hn)⟩, fun q hq => hk q (by have := hlt q hq; omega)⟩
  cases m with
  | none =>
    have hL0 : L = [] := h.map
    subst hL0
    refine (back_walk S u _ c g o A _ hM (by omega) B bn bc w hu hsB hsF hS hg hv.c2 hR'
      (fun _ W => SetAt W S [] [] P none A c ∧ Fr (boxW w S u) W P ∧ w.heap.size + 3 ≤ W.heap.size) ?_ ?_ ?_ ?_).mono ?_
    · rintro pre X Y row ⟨i1, i2, i3⟩ hgb hr
      obtain ⟨j1, j2⟩ := hgrow hgb hr i3 i2
      exact ⟨i1.keep j2 hgb.size, j1, Nat.le_trans i3 hgb.size⟩
    · rintro W hb hs
      exact ⟨hv.keep (fun q hq => hb.block q (by have := hlt q hq; omega)) hb.size, hfr0 W hb, hs⟩
    · rintro pre W ⟨i1, i2, i3⟩
      obtain ⟨b1, b2⟩ := hbox W i2
      exact ⟨b1, b2, i1.c2, bl_free i1.blk 2, i3⟩
    · rintro pre x W _ hp
      simp at hp
    · rintro e w' ⟨rfl, W, ⟨i1, i2, i3⟩, h1, h2, h3, h4, h5⟩
      have i1 : SetAt W S (([] : List Stp).drop (([] : List Stp).length - u)) [] P none A c := by rw [List.drop_nil]; exact i1
      exact ⟨rfl, back_end (L := []) hA hlt hbv hvs hu i1 i2 h1 h2 h3 h4 h5⟩
  | some b =>
    refine (back_walk S u _ c g o A _ hM (by omega) B bn bc w hu hsB hsF hS hg hv.c2 hR'
      (fun pre W => (∃ F n T, WAt W S F n T L P b A c ∧ n ≤ L.length + pre.length ∧ (pre = List.range pre.length → F = setF (L.drop pre.length) ∧ n = setN (L.drop pre.length) ∧ T = setT (L.drop pre.length))) ∧ pre.length ≤ L.length ∧ Fr (boxW w S u) W P ∧ w.heap.size + 3 ≤ W.heap.size) ?_ ?_ ?_ ?_).mono ?_
    · rintro pre X Y row ⟨⟨F, n, T, i1, i5, i6⟩, i4, i2, i3⟩ hgb hr
      obtain ⟨j1, j2⟩ := hgrow hgb hr i3 i2
      exact ⟨⟨F, n, T, i1.keep j2 hgb.size, i5, i6⟩, i4, j1, Nat.le_trans i3 hgb.size⟩
    · rintro W hb hs
      exact ⟨⟨_, _, _, WAt.of (hv.keep (fun q hq => hb.block q (by have := hlt q hq; omega)) hb.size), setN_le L, fun _ => ⟨rfl, rfl, rfl⟩⟩, Nat.zero_le _, hfr0 W hb, hs⟩
    · rintro pre W ⟨⟨F, n, T, i1, i5, i6⟩, i4, i2, i3⟩
      obtain ⟨b1, b2⟩ := hbox W i2
      exact ⟨b1, b2, by rw [cell_of_row W S 2 _ _ _ i1.blk]; rfl, bl_free i1.blk 2, i3⟩
    · rintro pre x W ⟨⟨F, n, T, i1, i5, i6⟩, i4, i2, i3⟩ hp
      obtain ⟨x1, x2⟩ := atS_ok hM x
      refine (uUndoW S b n c F T L P A _ W i1 x1 x2 (by omega)).mono ?_
      rintro e W' ⟨rfl, g1, g2⟩
      have hlen : (pre ++ [x]).length = pre.length + 1 := by simp
      refine ⟨rfl, ⟨⟨_, _, _, g1, ?_, ?_⟩, by rw [hlen]; omega, i2.trans g2 (fun q hq => .inl hq), Nat.le_trans i3 g2.size⟩, fun q hq hl => g2.block q hl fun hq2 => (by have := hlt q hq2; omega), g2.size, fun _ => ?_⟩
      · have := undN_le F n (atS (L.take (L.length - u)) x)
        rw [hlen]; omega
      · intro he
        rw [hlen, List.range_succ] at he
        obtain ⟨e1, e2⟩ := List.append_inj' he rfl
        have e2 : x = pre.length := by simpa using e2
        obtain ⟨f1, f2, f3⟩ := i6 e1
        rw [hlen]
        have hd := atS_take hp
        have ho : okS (L.drop pre.length) := okS_drop _ h.ok
        rw [hd] at f1 f2 f3 ho
        rw [e2, f1, f2, f3]
        exact und_last ho (by rw [List.length_drop]; omega)
      · have := g1.row
        exact (hR W' (by have := g2.size; omega) this).2
    · rintro e w' ⟨rfl, W, ⟨⟨F, n, T, i1, i5, i6⟩, i4, i2, i3⟩, h1, h2, h3, h4, h5⟩
      rw [List.length_range] at i6
      obtain ⟨f1, f2, f3⟩ := i6 rfl
      rw [hMl] at f1 f2 f3
      subst f1 f2 f3
      exact ⟨rfl, back_end hA hlt hbv hvs hu (i1.to (okS_drop _ h.ok)) i2 h1 h2 h3 h4 h5⟩
/-- Back, to whatever mark -/
theorem uBack (S : Nat) (L : List Stp) (P : Nat → Prop) (u : Nat) (w : World) (h : SetIs w S L P) (hL : L.length < 50000) :
    Calls Try.prog 16 #[.pointer (some ⟨S, 0, none⟩), .agg #[.int .i64 u]] w fun e w' => e = .returned (.bool (decide (u ≤ L.length))) ∧ SetIs w' S (if u ≤ L.length then L.drop (L.length - u) else L) P ∧ Fr w w' P := by
  by_cases hu : u ≤ L.length
  · rw [if_pos hu, decide_eq_true hu]
    exact uBackYes S L P u w h hL hu
  · rw [if_neg hu, decide_eq_false hu]
    exact (uBackNo S L P u w h (by omega)).mono fun e w' ⟨h1, h2⟩ => ⟨h1, h.grow h2, Fr.of_below h2⟩
end Go.Proofs.Ytdggnmlhgglccaa
