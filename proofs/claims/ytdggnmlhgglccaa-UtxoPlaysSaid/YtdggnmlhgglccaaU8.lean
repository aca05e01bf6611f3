/-
  undo; the law's Coin.
-/
import Derived.Test.YtdggnmlhgglccaaU7
namespace Go.Proofs.Ytdggnmlhgglccaa
open Go.RowKit
set_option maxRecDepth 100000
theorem Set2.grow {w w' : World} {S : Nat} {L R : List Stp} {P : Nat → Prop} (h : Set2 w S L R P) (hb : Below w.heap.size w w') : Set2 w' S L R P := by
  obtain ⟨m, A, c, h⟩ := h
  exact ⟨m, A, c, h.keep (fun q hq => hb.block q (h.lt q hq)) hb.size⟩
theorem Set2.ok {w : World} {S : Nat} {L R : List Stp} {P : Nat → Prop} (h : Set2 w S L R P) : okS L := by
  obtain ⟨m, A, c, h⟩ := h
  exact h.ok
theorem comes_back {x : Stp} {M : List Stp} (h : okS (x :: M)) (hs : x.s = true) (hl : M.length < 100000) : Comes (x :: M) M x.p x.c := by
  have h0 := h
  obtain ⟨h1, h2, h3, h4⟩ := h
  rw [hs] at h4
  have h4 : setF M x.p = some x.c := h4
  have eF := setF_del (L := M) hs
  have eT : setT (x :: M) = setT M - amt x.c := by show (if x.s = true then _ else _) = _; rw [hs]; rfl
  refine ⟨h2, h3, by rw [eF, updC_same], ?_, by rw [eT]; omega, setN_del h0 hs, h1, by simp only [List.length_cons]; omega⟩
  rw [eF, ← h4, updC_back]
theorem goes_back {x : Stp} {M : List Stp} (h : okS (x :: M)) (hs : x.s = false) : Goes (x :: M) M x.p x.c := by
  obtain ⟨h1, h2, h3, h4⟩ := h
  rw [hs] at h4
  have h4 : mayAdd M x.p x.c := h4
  have eF := setF_put (L := M) hs
  have eT : setT (x :: M) = setT M + amt x.c := by show (if x.s = true then _ else _) = _; rw [hs]; rfl
  refine ⟨h2, h3, by rw [eF, updC_same], ?_, by rw [eT]; omega, setN_put hs, h1⟩
  rw [eF, ← h4.1, updC_back]
theorem stV_len {x : Stp} (hp : okP x.p) (hc : x.c.ok) : (stV x).length = 21 := by unfold stV; rw [List.length_append, List.length_append, ptV_len hp, cnV_len hc.len]; rfl
theorem st_rng {x : Stp} (hp : okP x.p) (hc : x.c.ok) {w : World} {b o : Nat} (h : w.rangeAt b o (stV x)) : w.rangeAt b o (ptV x.p) ∧ w.rangeAt b (o + 9) (cnV x.c) ∧ w.cell? ⟨b, o + 20, none⟩ = some (.bool x.s) := by
  obtain ⟨h1, h2⟩ := range_app h
  obtain ⟨h3, h4⟩ := range_app h2
  rw [ptV_len hp] at h3 h4
  rw [cnV_len hc.len] at h4
  exact ⟨h1, h3, range_cell h4 (i := 0) rfl⟩
attribute [local irreducible] ptV cnV zeros MapC stV
set_option maxHeartbeats 4000000 in
theorem uUndoX (S : Nat) (x : Stp) (M R : List Stp) (P : Nat → Prop) (w : World) (h : Set2 w S (x :: M) R P) (hl : M.length < 100000) :
    Calls Try.prog 31 #[.pointer (some ⟨S, 0, none⟩), .agg (stV x).toArray] w fun e w' => e = .returned (.tuple #[]) ∧ ∃ P', Set2 w' S M R P' ∧ (∀ q, P' q → P q) ∧ Fr w w' P := by
  obtain ⟨N, hN⟩ : ∃ N, w.heap.size = N := ⟨_, rfl⟩
  have HN := Lib.hid hN
  have OK := Lib.hid h.ok
  have HP : Hid (okP x.p) := OK.out.2.1
  have HC : Hid x.c.ok := OK.out.2.2.1
  have HL := Lib.hid hl
  obtain ⟨v, hv⟩ : ∃ v, w.alloc (Obj.cells (stV x).toArray 75) = v := ⟨_, rfl⟩
  have RX : Hid (v.rangeAt N 0 (stV x)) := by subst hv hN; exact range_new w _ _
  have BV : Hid (Below w.heap.size w v) := by subst hv; exact (Below.refl _ w).alloc (Nat.le_refl _) _
  have HV : Hid (Set2 v S (x :: M) R P) := Lib.hid (h.grow BV.out)
  obtain ⟨r1, r2, cB⟩ := st_rng HP.out HC.out RX.out
  rw [Nat.zero_add] at r2 cB
  have R1 := Lib.hid r1
  have R2 := Lib.hid r2
  have FIN : ∀ w2 P', Set2 w2 S M R P' → (∀ q, P' q → P q) → Fr v w2 P → ∃ P', Set2 w2 S M R P' ∧ (∀ q, P' q → P q) ∧ Fr w w2 P := fun w2 P' g1 g2 g3 =>
    ⟨P', g1, g2, (Fr.of_below BV.out).trans g3 fun q hq => .inl hq⟩
  have HF := Lib.hid FIN
  clear h hl r1 r2 RX FIN
  cases hs : x.s
  · have CK := Lib.hid (uDelX S (x :: M) M R P x.p x.c v HV.out (goes_back OK.out hs) OK.out)
    rw [hs] at cB
    clear hs
    go_enter Try.func31, Try.ntmps31
    go_wp2_with (first
      | (refine wpList_load_midG (by rfl) 38 (.tmp 13) rfl N 0 rfl (ptV x.p) _ R1.out Try.underlying38 rfl (szP HP.out) ?_)
      | (refine wpList_load_midG (by rfl) 47 (.tmp 15) rfl N 9 rfl (cnV x.c) _ R2.out Try.underlying47 rfl (szC HC.out.len) ?_)
      | (go_at_call 29; refine CK.out.mono ?_; rintro e w2 ⟨rfl, P', g1, g2, g3⟩)
      | fail)
    refine bodyPost_end (v := .tuple #[]) (by simp [results, go_sem, Try.results31]) rfl ⟨rfl, HF.out w2 P' g1 g2 g3⟩
  · have CK := Lib.hid (uPutX S (x :: M) M R P x.p x.c v HV.out (comes_back OK.out hs HL.out) OK.out)
    rw [hs] at cB
    clear hs
    go_enter Try.func31, Try.ntmps31
    go_wp2_with (first
      | (refine wpList_load_midG (by rfl) 38 (.tmp 7) rfl N 0 rfl (ptV x.p) _ R1.out Try.underlying38 rfl (szP HP.out) ?_)
      | (refine wpList_load_midG (by rfl) 47 (.tmp 9) rfl N 9 rfl (cnV x.c) _ R2.out Try.underlying47 rfl (szC HC.out.len) ?_)
      | (go_at_call 28; refine CK.out.mono ?_; rintro e w2 ⟨rfl, P', g1, g2, g3⟩)
      | fail)
    refine bodyPost_end (v := .tuple #[]) (by simp [results, go_sem, Try.results31]) rfl ⟨rfl, HF.out w2 P' g1 (fun q hq => (g2 q hq).elim id fun e => by cases e.1) g3⟩
end Go.Proofs.Ytdggnmlhgglccaa
