/-
  Joined: U50, U51.
-/
import Derived.Test.YtdggnmlhgglccaaU48
/-
  What the document's Coins hold is what the Set holds.
-/
namespace Go.Proofs.Ytdggnmlhgglccaa
open Go.RowKit
set_option maxRecDepth 100000
/-- the document's rows are the Set's, in order -/
structure Twin (L : List Stp) (ps : List (List Int)) (cs : List Cn) : Prop where
  ord : Ord ps (setK L)
  co : cs = ps.map fun p => (setF L p).getD cn0
theorem twin_nil : Twin [] [] [] := ⟨⟨List.nodup_nil, fun _ => Iff.rfl, List.Pairwise.nil⟩, rfl⟩
theorem Twin.okp {L : List Stp} {ps : List (List Int)} {cs : List Cn} (h : Twin L ps cs) (hL : okS L) : ∀ q ∈ ps, okP q := fun q hq => by
  have I := inv_of hL
  have hm := (h.ord.mem q).1 hq
  cases e : setF L q with
  | none => exact absurd e ((I.mem q).1 hm)
  | some c => exact (I.ok q c e).1
theorem Twin.mem {L : List Stp} {ps : List (List Int)} {cs : List Cn} (h : Twin L ps cs) (hL : okS L) (p : List Int) : p ∈ ps ↔ setF L p ≠ none := (h.ord.mem p).trans ((inv_of hL).mem p)
/-- a row in order, cut where p is or would be -/
theorem idx_split : ∀ {ps : List (List Int)} {p : List Int}, ps.Pairwise (fun a b => lessP a b = true) → (∀ q ∈ ps.take (idxP ps p), lessP q p = true) ∧ ∀ q ∈ ps.drop (idxP ps p), lessP q p = false
  | [], p, _ => ⟨fun q hq => by simp at hq, fun q hq => by simp at hq⟩
  | a :: l, p, h => by
    obtain ⟨h1, h2⟩ := List.pairwise_cons.1 h
    unfold idxP
    cases e : lessP a p with
    | true =>
      rw [if_pos rfl]
      obtain ⟨g1, g2⟩ := idx_split (p := p) h2
      refine ⟨fun q hq => ?_, fun q hq => g2 q (by simpa using hq)⟩
      rw [List.take_succ_cons] at hq
      rcases List.mem_cons.1 hq with rfl | hq
      · exact e
      · exact g1 q hq
    | false =>
      rw [if_neg (by decide)]
      refine ⟨fun q hq => by simp at hq, fun q hq => ?_⟩
      rw [List.drop_zero] at hq
      rcases List.mem_cons.1 hq with rfl | hq
      · exact e
      · cases e2 : lessP q p with
        | false => rfl
        | true =>
          have := lessP_trans (h1 q hq) e2
          rw [e] at this
          cases this
theorem has_mem {ps : List (List Int)} {p : List Int} (h : ps.Pairwise (fun a b => lessP a b = true)) (hp : okP p) : hasP ps p = decide (p ∈ ps) := by
  obtain ⟨g1, g2⟩ := idx_split (p := p) h
  unfold hasP
  by_cases hm : p ∈ ps
  · rw [decide_eq_true hm, decide_eq_true_eq]
    have hd : p ∈ ps.drop (idxP ps p) := by
      rw [← List.take_append_drop (idxP ps p) ps] at hm
      rcases List.mem_append.1 hm with hm | hm
      · have := g1 p hm
        rw [lessP_irr] at this
        cases this
      · exact hm
    have hpw : (ps.drop (idxP ps p)).Pairwise (fun a b => lessP a b = true) := h.sublist (List.drop_sublist _ _)
    have hget : ps.getD (idxP ps p) [] = (ps.drop (idxP ps p)).getD 0 [] := by
      rw [List.getD_eq_getElem?_getD, List.getD_eq_getElem?_getD, List.getElem?_drop, Nat.add_zero]
    rw [hget]
    cases hh : ps.drop (idxP ps p) with
    | nil => rw [hh] at hd; cases hd
    | cons a r =>
      rw [hh] at hd hpw g2
      rcases List.mem_cons.1 hd with rfl | hd
      · rfl
      · have h1 := (List.pairwise_cons.1 hpw).1 p hd
        have h2 := g2 a (by simp)
        rw [h1] at h2
        cases h2
  · rw [decide_eq_false hm, decide_eq_false_iff_not]
    intro e
    by_cases hi : idxP ps p < ps.length
    · refine hm (e ▸ ?_)
      rw [List.getD_eq_getElem?_getD, List.getElem?_eq_getElem hi]
      exact List.getElem_mem _
    · rw [List.getD_eq_getElem?_getD, List.getElem?_eq_none (by omega)] at e
      have h9 := okT_len hp
      rw [← e] at h9
      cases h9
theorem Twin.has {L : List Stp} {ps : List (List Int)} {cs : List Cn} (h : Twin L ps cs) (hL : okS L) {p : List Int} (hp : okP p) : hasP ps p = (setF L p).isSome := by
  rw [has_mem h.ord.lt hp]
  cases e : setF L p with
  | none => rw [decide_eq_false fun hm => (h.mem hL p).1 hm e]; rfl
  | some c => rw [decide_eq_true ((h.mem hL p).2 (by rw [e]; simp))]; rfl
theorem amt0 : amt cn0 = 0 := by unfold amt cn0 cel zeros; rfl
theorem tot_map (F : List Int → Option Cn) (ps : List (List Int)) : totC (ps.map fun p => (F p).getD cn0) = sF F ps := by
  unfold totC sF
  rw [List.map_map]
  congr 1
  refine List.map_congr_left fun p _ => ?_
  show amt ((F p).getD cn0) = amtF F p
  unfold amtF
  cases F p with
  | none => exact amt0
  | some c => rfl
theorem Twin.tot {L : List Stp} {ps : List (List Int)} {cs : List Cn} (h : Twin L ps cs) (hL : okS L) : totC cs = setT L ∧ ps.length = setN L := by
  have := sF_all hL h.ord
  rw [h.co, tot_map]
  exact this
theorem Twin.may {L : List Stp} {ps : List (List Int)} {cs : List Cn} (h : Twin L ps cs) (hL : okS L) {p : List Int} (hp : okP p) (x : Cn) : cMay ps cs p x ↔ mayAdd L p x := by
  unfold cMay mayAdd
  rw [h.has hL hp, (h.tot hL).1, Option.isSome_eq_false_iff, Option.isNone_iff_eq_none]
  constructor
  · rintro ⟨a, b, c, d, e⟩
    exact ⟨a, by omega, by omega, b, c⟩
  · rintro ⟨a, d, e, b, c⟩
    exact ⟨a, b, c, by omega, by omega⟩
theorem map_upd {F : List Int → Option Cn} {p : List Int} {x : Option Cn} {l : List (List Int)} (h : p ∉ l) : (l.map fun q => (updC F p x q).getD cn0) = l.map fun q => (F q).getD cn0 :=
  List.map_congr_left fun q hq => by rw [updC_other F x (show q ≠ p from fun e => h (e ▸ hq))]
theorem twin_put {L : List Stp} {ps : List (List Int)} {cs : List Cn} (h : Twin L ps cs) (hL : okS L) {p : List Int} (hp : okP p) {x : Cn} (hn : setF L p = none) : Twin (⟨p, x, false⟩ :: L) (insP ps p) (insC ps cs p x) := by
  have hm : p ∉ ps := fun hm => (h.mem hL p).1 hm hn
  have ht : p ∉ ps.take (idxP ps p) := fun hq => hm (List.mem_of_mem_take hq)
  have hd : p ∉ ps.drop (idxP ps p) := fun hq => hm (List.mem_of_mem_drop hq)
  obtain ⟨g1, g2⟩ := idx_split (p := p) h.ord.lt
  have hperm : (insP ps p).Perm (p :: ps) := by
    unfold insP
    refine List.perm_middle.trans ?_
    rw [List.take_append_drop]
  have eK : setK ((⟨p, x, false⟩ : Stp) :: L) = p :: setK L := rfl
  have eF : setF ((⟨p, x, false⟩ : Stp) :: L) = updC (setF L) p (some x) := setF_put rfl
  refine ⟨⟨hperm.nodup_iff.2 (List.nodup_cons.2 ⟨hm, h.ord.nd⟩), fun q => ?_, ?_⟩, ?_⟩
  · rw [hperm.mem_iff, eK, List.mem_cons, List.mem_cons, h.ord.mem q]
  · unfold insP
    have pw := h.ord.lt
    rw [← List.take_append_drop (idxP ps p) ps] at pw
    obtain ⟨p1, p2, p3⟩ := List.pairwise_append.1 pw
    refine List.pairwise_append.2 ⟨p1, List.pairwise_cons.2 ⟨fun q hq => ?_, p2⟩, fun a ha b hb => ?_⟩
    · cases e : lessP p q with
      | true => rfl
      | false =>
        have := lessP_tot hp (h.okp hL q (List.mem_of_mem_drop hq)) e (g2 q hq)
        exact absurd (this ▸ hq) hd
    · rcases List.mem_cons.1 hb with rfl | hb
      · exact g1 a ha
      · exact p3 a ha b hb
  · unfold insC insP
    rw [eF, List.map_append, List.map_cons, updC_same, map_upd ht, map_upd hd, h.co, ← List.map_take, ← List.map_drop]
    rfl
theorem twin_add {L : List Stp} {ps : List (List Int)} {cs : List Cn} (h : Twin L ps cs) (hL : okS L) {p : List Int} (hp : okP p) (x : Cn) : Twin (if mayAdd L p x then (⟨p, x, false⟩ : Stp) :: L else L) (if cMay ps cs p x then insP ps p else ps) (if cMay ps cs p x then insC ps cs p x else cs) := by
  by_cases hm : mayAdd L p x
  · rw [if_pos hm, if_pos ((h.may hL hp x).2 hm), if_pos ((h.may hL hp x).2 hm)]
    exact twin_put h hL hp hm.1
  · rw [if_neg hm, if_neg fun g => hm ((h.may hL hp x).1 g), if_neg fun g => hm ((h.may hL hp x).1 g)]
    exact h
/-- two rows in order with the same members are one -/
theorem ord_same : ∀ {a b : List (List Int)}, a.Pairwise (fun x y => lessP x y = true) → b.Pairwise (fun x y => lessP x y = true) → (∀ p, p ∈ a ↔ p ∈ b) → a = b
  | [], [], _, _, _ => rfl
  | [], y :: b, _, _, h => absurd ((h y).2 (by simp)) (by simp)
  | x :: a, [], _, _, h => absurd ((h x).1 (by simp)) (by simp)
  | x :: a, y :: b, ha, hb, h => by
    obtain ⟨a1, a2⟩ := List.pairwise_cons.1 ha
    obtain ⟨b1, b2⟩ := List.pairwise_cons.1 hb
    have e : x = y := by
      rcases List.mem_cons.1 ((h x).1 (by simp)) with e | hx
      · exact e
      · rcases List.mem_cons.1 ((h y).2 (by simp)) with e | hy
        · exact e.symm
        · have := lessP_asym (a1 y hy)
          rw [b1 x hx] at this
          cases this
    subst e
    refine congrArg _ (ord_same a2 b2 fun p => ?_)
    have hp := h p
    rw [List.mem_cons, List.mem_cons] at hp
    constructor
    · intro hm
      rcases hp.1 (.inr hm) with e | e
      · have := a1 p hm
        rw [e, lessP_irr] at this
        cases this
      · exact e
    · intro hm
      rcases hp.2 (.inr hm) with e | e
      · have := b1 p hm
        rw [e, lessP_irr] at this
        cases this
      · exact e
theorem Twin.pts {L : List Stp} {ps ps' : List (List Int)} {cs : List Cn} (h : Twin L ps cs) (o : Ord ps' (setK L)) : ps' = ps := ord_same o.lt h.ord.lt fun p => (o.mem p).trans (h.ord.mem p).symm
theorem Twin.at' {L : List Stp} {ps : List (List Int)} {cs : List Cn} (h : Twin L ps cs) (hL : okS L) {i : Nat} (hi : i < ps.length) : cs.length = ps.length ∧ setF L (ps.getD i []) = some (cs.getD i cn0) ∧ okP (ps.getD i []) ∧ (cs.getD i cn0).ok := by
  have hl : cs.length = ps.length := by rw [h.co, List.length_map]
  have hm : ps.getD i [] ∈ ps := by
    rw [List.getD_eq_getElem?_getD, List.getElem?_eq_getElem hi]
    exact List.getElem_mem _
  have I := inv_of hL
  have e1 : cs.getD i cn0 = (setF L (ps.getD i [])).getD cn0 := by
    rw [h.co, List.getD_eq_getElem?_getD, List.getElem?_map, List.getD_eq_getElem?_getD, List.getElem?_eq_getElem hi]
    rfl
  cases e : setF L (ps.getD i []) with
  | none => exact absurd e ((h.mem hL _).1 hm)
  | some c =>
    rw [e] at e1
    have e1 : cs.getD i cn0 = c := e1
    have := I.ok _ _ e
    exact ⟨hl, by rw [e1], this.1, by rw [e1]; exact this.2.1⟩
end Go.Proofs.Ytdggnmlhgglccaa

/-
  Fill: what both hold is the same.
-/
namespace Go.Proofs.Ytdggnmlhgglccaa
open Go.RowKit
set_option maxRecDepth 100000
attribute [local irreducible] ptV cnV zeros MapC stV ptsV csV
set_option maxHeartbeats 8000000 in
theorem uFill2 (A0 : Option Addr) (len0 cap0 : Nat) (D : Nat → Dd) (w : World) (hd : DRow w A0 len0 D) (hok : ∀ i, (D i).ok) (h60 : len0 ≤ 100) :
    Calls Try.prog 18 #[.slice A0 len0 cap0] w fun e w' => ∃ (S B : Nat) (L : List Stp) (P : Nat → Prop) (ps : List (List Int)) (cs : List Cn) (Q : Nat → Prop), e = .returned (.tuple #[.pointer (some ⟨S, 0, none⟩), .pointer (some ⟨B, 0, none⟩)]) ∧ FW w.heap.size w w' S B L P ps cs Q ∧ L.length ≤ len0 ∧ ps.length ≤ len0 ∧ Twin L ps cs := by
  have CN := Lib.hid (uNew)
  have HD := Lib.hid hd
  have HOK := Lib.hid hok
  have H60 := Lib.hid h60
  obtain ⟨N, hN⟩ : ∃ N, w.heap.size = N := ⟨_, rfl⟩
  have HN := Lib.hid hN
  clear hd hok h60
  go_enter Try.func18, Try.ntmps18
  go_wp2_with (first
    | (go_at_call 8; refine (CN.out _).mono ?_; rintro e w1 ⟨rfl, g1, g2⟩; have G1 := Lib.hid g1; have G2 := Lib.hid g2; clear g1 g2)
    | fail)
  have F0 : Hid (∀ B, B = w1.heap.size → FW N w (w1.alloc (Obj.cells #[.slice none 0 0, .slice none 0 0] 30)) w.heap.size B [] (fun q => q = w.heap.size) [] [] (fun q => q = B)) := Lib.hid fun B hB => by
    subst hB
    have b1 : Below w1.heap.size w1 (w1.alloc (Obj.cells #[.slice none 0 0, .slice none 0 0] 30)) := (Below.refl _ _).alloc (Nat.le_refl _) _
    have lt := G1.out.plt w.heap.size rfl
    have hn := HN.out
    exact ⟨(by rw [← hn]; exact G2.out.trans (b1.mono G2.out.size)), by have := b1.size; omega, SetIs.grow G1.out b1, CoIs.nil _ _ (heap_alloc_last w1 _), fine_nil, fun q hq => by omega, fun q hq => by omega, fun q h1 h2 => by omega⟩
  obtain ⟨B, hB⟩ : ∃ B, w1.heap.size = B := ⟨_, rfl⟩
  have F1 := Lib.hid (F0.out B hB.symm)
  rw [hN] at F1
  clear F0 G1 G2 CN
  generalize w1.alloc (Obj.cells #[.slice none 0 0, .slice none 0 0] 30) = w5 at *
  rw [hB]
  clear hB hN
  go_loopw [6] (fun iv wr => ∃ (i : Nat) (L : List Stp) (P : Nat → Prop) (ps : List (List Int)) (cs : List Cn) (Q : Nat → Prop), i ≤ len0 ∧ iv = .int .i64 i ∧ FW N w wr N B L P ps cs Q ∧ L.length ≤ i ∧ ps.length ≤ i ∧ Twin L ps cs) (fun iv _ => len0 - (intOf iv).toNat)
  case atStart => exact ⟨0, [], _, [], [], _, Nat.zero_le _, rfl, F1.out, Nat.le_refl _, Nat.le_refl _, twin_nil⟩
  case round =>
    clear F1
    obtain ⟨i, L, P, ps, cs, Q, hi, rfl, hf, hLi, hpi, htw⟩ := hrel
    have TW := Lib.hid htw
    clear htw
    by_cases hlt : i < len0
    · obtain ⟨d, hdi⟩ : ∃ d, D i = d := ⟨_, rfl⟩
      have HDO : Hid d.ok := Lib.hid (hdi ▸ HOK.out i)
      have HIN := Lib.hid (And.intro hlt H60.out)
      have AB : ∃ b o, A0 = some ⟨b, o, none⟩ ∧ b < N ∧ ∀ w', Below N w w' → w'.rangeAt b (o + i * 22) (dV d) := by
        rcases HD.out with h0 | ⟨b, o, e, hrow⟩
        · omega
        · have hb0 : b < N := by rw [← HN.out]; exact cell_lt (hrow i hlt 0 _ (by rfl))
          refine ⟨b, o, e, hb0, fun w' hb => ?_⟩
          rw [← hdi]
          exact range_keep1 (hrow i hlt) (hb.block b hb0)
      obtain ⟨b, o, rfl, hbN, hrow⟩ := AB
      have HBB := Lib.hid hbN
      have ROW := Lib.hid hrow
      have F1 := Lib.hid hf
      have OKL : Hid (okS L) := Lib.hid hf.a.okL
      have i1 : (i : Int) < (len0 : Int) := by omega
      have i0 : (0 : Int) ≤ (i : Int) := by omega
      have HLI := Lib.hid (And.intro hLi hpi)
      have HLL : Hid (L.length < 1000) := Lib.hid (by have := H60.out; omega)
      have HPL : Hid (ps.length ≤ 1000) := Lib.hid (by have := H60.out; omega)
      have IW : Hid (wrap64 ((i : Int) + 1) = ((i + 1 : Nat) : Int)) := Lib.hid (by have := H60.out; unfold wrap64; omega)
      obtain ⟨r1, r2⟩ := dd_rng HDO.out (ROW.out wr F1.out.bel)
      have RP := Lib.hid r1
      have RC := Lib.hid r2
      clear hf hLi hpi hi hrow hdi hlt hbN r1 r2
      go_wp2_with fail
      have HBP : Hid (¬ P b) := Lib.hid fun e => by have := F1.out.la b e; have := HBB.out; omega
      obtain ⟨NX, hNX⟩ : ∃ n, wr.heap.size = n := ⟨_, rfl⟩
      have WX := Lib.hid hNX
      have HBN : Hid (b < NX) := Lib.hid (by have := HBB.out; have := F1.out.sz; omega)
      clear hNX
      refine wp_region_held_drew (S := (fun w' : World => ∀ q, q < NX → ¬ P q → w'.heap[q]? = wr.heap[q]?)) (by kernel_rfl) (by exact fun _ _ _ => rfl) (fun hHeld => ?_)
      refine wpAnyH_take (i := 0) (v := ?_) rfl (by kernel_rfl) (by kernel_rfl) (by kernel_rfl) (fun _ _ _ h => h) (Or.inl ⟨by rfl, ?_⟩) (by assumption) ?_
      rotate_left
      · (intro w hSw; (try dsimp only at hSw); go_simp; try with_reducible rfl)
      simp only [Act.put, List.getElem_toArray, List.getElem_cons_zero, List.setIfInBounds_toArray, List.set_cons_zero, List.set_cons_succ]
      refine wpAnyH_take (i := 1) (v := ?_) rfl (by kernel_rfl) (by kernel_rfl) (by kernel_rfl) (fun _ _ _ h => h) (Or.inl ⟨by rfl, ?_⟩) (by assumption) ?_
      rotate_left
      · (intro w hSw; (try dsimp only at hSw); go_simp; try with_reducible rfl)
      simp only [Act.put, List.getElem_toArray, List.getElem_cons_succ, List.getElem_cons_zero, List.setIfInBounds_toArray, List.set_cons_zero, List.set_cons_succ]
      refine wpAnyH_take (i := 2) (v := ?_) rfl (by kernel_rfl) (by kernel_rfl) (by kernel_rfl) (fun _ _ _ h => h) (Or.inl ⟨by rfl, ?_⟩) (by assumption) ?_
      rotate_left
      · (intro w hSw; (try dsimp only at hSw); go_simp; try with_reducible rfl)
      simp only [Act.put, List.getElem_toArray, List.getElem_cons_succ, List.getElem_cons_zero, List.setIfInBounds_toArray, List.set_cons_zero, List.set_cons_succ]
      refine wpAnyH_take (i := 3) (v := ?_) rfl (by kernel_rfl) (by kernel_rfl) (by kernel_rfl) (fun _ _ _ h => h) (Or.inl ⟨by rfl, ?_⟩) (by assumption) ?_
      rotate_left
      · (intro w hSw; (try dsimp only at hSw); go_simp; try with_reducible rfl)
      simp only [Act.put, List.getElem_toArray, List.getElem_cons_succ, List.getElem_cons_zero, List.setIfInBounds_toArray, List.set_cons_zero, List.set_cons_succ]
      refine wpAnyH_take (i := 4) (v := ?_) rfl (by kernel_rfl) (by kernel_rfl) (by kernel_rfl) (fun _ _ _ h => h) (Or.inl ⟨by rfl, ?_⟩) (by assumption) ?_
      rotate_left
      · (intro w hSw; (try dsimp only at hSw); go_simp; try with_reducible rfl)
      simp only [Act.put, List.getElem_toArray, List.getElem_cons_succ, List.getElem_cons_zero, List.setIfInBounds_toArray, List.set_cons_zero, List.set_cons_succ]
      refine wpAnyH_take (i := 5) rfl (by kernel_rfl) (by kernel_rfl) (by kernel_rfl) (fun _ _ _ h => h) (yieldsIf_load_mid (by rfl) 38 (.tmp 24) rfl b (o + i * 22 + 2) rfl (ptV d.p) _ (fun w h => range_keep1 RP.out (h b HBN.out HBP.out)) Try.underlying38 rfl (szP HDO.out.1)) (by assumption) ?_
      simp only [Act.put, List.getElem_toArray, List.getElem_cons_succ, List.getElem_cons_zero, List.setIfInBounds_toArray, List.set_cons_zero, List.set_cons_succ]
      refine wpAnyH_take (i := 6) (v := ?_) rfl (by kernel_rfl) (by kernel_rfl) (by kernel_rfl) (fun _ _ _ h => h) (Or.inl ⟨by rfl, ?_⟩) (by assumption) ?_
      rotate_left
      · (intro w hSw; (try dsimp only at hSw); go_simp; try with_reducible rfl)
      simp only [Act.put, List.getElem_toArray, List.getElem_cons_succ, List.getElem_cons_zero, List.setIfInBounds_toArray, List.set_cons_zero, List.set_cons_succ]
      refine wpAnyH_take (i := 7) (v := ?_) rfl (by kernel_rfl) (by kernel_rfl) (by kernel_rfl) (fun _ _ _ h => h) (Or.inl ⟨by rfl, ?_⟩) (by assumption) ?_
      rotate_left
      · (intro w hSw; (try dsimp only at hSw); go_simp; try with_reducible rfl)
      simp only [Act.put, List.getElem_toArray, List.getElem_cons_succ, List.getElem_cons_zero, List.setIfInBounds_toArray, List.set_cons_zero, List.set_cons_succ]
      refine wpAnyH_take (i := 8) (v := ?_) rfl (by kernel_rfl) (by kernel_rfl) (by kernel_rfl) (fun _ _ _ h => h) (Or.inl ⟨by rfl, ?_⟩) (by assumption) ?_
      rotate_left
      · (intro w hSw; (try dsimp only at hSw); go_simp; try with_reducible rfl)
      simp only [Act.put, List.getElem_toArray, List.getElem_cons_succ, List.getElem_cons_zero, List.setIfInBounds_toArray, List.set_cons_zero, List.set_cons_succ]
      refine wpAnyH_take (i := 9) (v := ?_) rfl (by kernel_rfl) (by kernel_rfl) (by kernel_rfl) (fun _ _ _ h => h) (Or.inl ⟨by rfl, ?_⟩) (by assumption) ?_
      rotate_left
      · (intro w hSw; (try dsimp only at hSw); go_simp; try with_reducible rfl)
      simp only [Act.put, List.getElem_toArray, List.getElem_cons_succ, List.getElem_cons_zero, List.setIfInBounds_toArray, List.set_cons_zero, List.set_cons_succ]
      refine wpAnyH_take (i := 10) rfl (by kernel_rfl) (by kernel_rfl) (by kernel_rfl) (fun _ _ _ h => h) (yieldsIf_load_mid (by rfl) 42 (.tmp 29) rfl b (o + i * 22 + 11) rfl (cnV d.c) _ (fun w h => range_keep1 RC.out (h b HBN.out HBP.out)) Try.underlying42 rfl (szL i42c (cnV_len HDO.out.2.1.len))) (by assumption) ?_
      simp only [Act.put, List.getElem_toArray, List.getElem_cons_succ, List.getElem_cons_zero, List.setIfInBounds_toArray, List.set_cons_zero, List.set_cons_succ]
      refine wpAnyH_ready (rs := [11]) (by kernel_rfl) (by simp) ?_
      refine AllReadyH.cons rfl (fun K hK => ?_) AllReadyH.nil
      go_simp
      go_at_call 12
      refine (uCoin d.c _ HDO.out.2.1.len).mono ?_
      rintro e wy ⟨rfl, hba⟩
      have F2 := Lib.hid ((F1.out.grow (Below.refl _ _).drew).grow hba)
      have XY : Hid (∀ q, q < NX → ¬ P q → wy.heap[q]? = wr.heap[q]?) := Lib.hid fun q hq _ => hba.block q (by have := WX.out; show q < wr.heap.size; omega)
      have SY : Hid (NX ≤ wy.heap.size) := Lib.hid (by have := hba.size; have := WX.out; have : wr.heap.size ≤ wy.heap.size := hba.size; omega)
      clear hba hHeld
      (try go_wp2_with fail)
      refine hK.out _ _ XY.out (fun hHeld => ?_)
      clear hK K
      refine wpAnyH_ready (rs := [12]) (by kernel_rfl) (by simp) ?_
      refine AllReadyH.cons rfl (fun K hK => ?_) AllReadyH.nil
      go_simp
      go_at_call 11
      refine (uAddC N L P d.p d.c _ F2.out.a HDO.out.1 HDO.out.2.1 HLL.out).mono ?_
      rintro e wz ⟨rfl, P2, g1, g2, g3⟩
      have F3 := Lib.hid (F2.out.turnA g1 g2 g3)
      have XZ : Hid (∀ q, q < NX → ¬ P q → wz.heap[q]? = wr.heap[q]?) := Lib.hid fun q hq hn => (g3.block q (by have := SY.out; omega) hn).trans (XY.out q hq hn)
      clear g1 g2 g3 hHeld
      (try go_wp2_with fail)
      refine hK.out _ _ XZ.out (fun hHeld => ?_)
      clear hK K hHeld
      refine wpAnyH_done (by kernel_rfl) ?_ _
      clear XY XZ SY WX HBN HBP F2
      go_upto_region 6 with (fail)
      obtain ⟨r1, r2⟩ := dd_rng HDO.out (ROW.out wz F3.out.bel)
      have RPz := Lib.hid r1
      have RCz := Lib.hid r2
      clear r1 r2
      have HBP : Hid (¬ Q b) := Lib.hid fun e => by have := F3.out.lb b e; have := HBB.out; omega
      obtain ⟨NZ, hNX⟩ : ∃ n, wz.heap.size = n := ⟨_, rfl⟩
      have WX := Lib.hid hNX
      have HBN : Hid (b < NZ) := Lib.hid (by have := HBB.out; have := F3.out.sz; omega)
      clear hNX
      refine wp_region_held_drew (S := (fun w' : World => ∀ q, q < NZ → ¬ Q q → w'.heap[q]? = wz.heap[q]?)) (by kernel_rfl) (by exact fun _ _ _ => rfl) (fun hHeld => ?_)
      refine wpAnyH_take (i := 0) (v := ?_) rfl (by kernel_rfl) (by kernel_rfl) (by kernel_rfl) (fun _ _ _ h => h) (Or.inl ⟨by rfl, ?_⟩) (by assumption) ?_
      rotate_left
      · (intro w hSw; (try dsimp only at hSw); go_simp; try with_reducible rfl)
      simp only [Act.put, List.getElem_toArray, List.getElem_cons_zero, List.setIfInBounds_toArray, List.set_cons_zero, List.set_cons_succ]
      refine wpAnyH_take (i := 1) (v := ?_) rfl (by kernel_rfl) (by kernel_rfl) (by kernel_rfl) (fun _ _ _ h => h) (Or.inl ⟨by rfl, ?_⟩) (by assumption) ?_
      rotate_left
      · (intro w hSw; (try dsimp only at hSw); go_simp; try with_reducible rfl)
      simp only [Act.put, List.getElem_toArray, List.getElem_cons_succ, List.getElem_cons_zero, List.setIfInBounds_toArray, List.set_cons_zero, List.set_cons_succ]
      refine wpAnyH_take (i := 2) (v := ?_) rfl (by kernel_rfl) (by kernel_rfl) (by kernel_rfl) (fun _ _ _ h => h) (Or.inl ⟨by rfl, ?_⟩) (by assumption) ?_
      rotate_left
      · (intro w hSw; (try dsimp only at hSw); go_simp; try with_reducible rfl)
      simp only [Act.put, List.getElem_toArray, List.getElem_cons_succ, List.getElem_cons_zero, List.setIfInBounds_toArray, List.set_cons_zero, List.set_cons_succ]
      refine wpAnyH_take (i := 3) (v := ?_) rfl (by kernel_rfl) (by kernel_rfl) (by kernel_rfl) (fun _ _ _ h => h) (Or.inl ⟨by rfl, ?_⟩) (by assumption) ?_
      rotate_left
      · (intro w hSw; (try dsimp only at hSw); go_simp; try with_reducible rfl)
      simp only [Act.put, List.getElem_toArray, List.getElem_cons_succ, List.getElem_cons_zero, List.setIfInBounds_toArray, List.set_cons_zero, List.set_cons_succ]
      refine wpAnyH_take (i := 4) (v := ?_) rfl (by kernel_rfl) (by kernel_rfl) (by kernel_rfl) (fun _ _ _ h => h) (Or.inl ⟨by rfl, ?_⟩) (by assumption) ?_
      rotate_left
      · (intro w hSw; (try dsimp only at hSw); go_simp; try with_reducible rfl)
      simp only [Act.put, List.getElem_toArray, List.getElem_cons_succ, List.getElem_cons_zero, List.setIfInBounds_toArray, List.set_cons_zero, List.set_cons_succ]
      refine wpAnyH_take (i := 5) rfl (by kernel_rfl) (by kernel_rfl) (by kernel_rfl) (fun _ _ _ h => h) (yieldsIf_load_mid (by rfl) 38 (.tmp 37) rfl b (o + i * 22 + 2) rfl (ptV d.p) _ (fun w h => range_keep1 RPz.out (h b HBN.out HBP.out)) Try.underlying38 rfl (szP HDO.out.1)) (by assumption) ?_
      simp only [Act.put, List.getElem_toArray, List.getElem_cons_succ, List.getElem_cons_zero, List.setIfInBounds_toArray, List.set_cons_zero, List.set_cons_succ]
      refine wpAnyH_take (i := 6) (v := ?_) rfl (by kernel_rfl) (by kernel_rfl) (by kernel_rfl) (fun _ _ _ h => h) (Or.inl ⟨by rfl, ?_⟩) (by assumption) ?_
      rotate_left
      · (intro w hSw; (try dsimp only at hSw); go_simp; try with_reducible rfl)
      simp only [Act.put, List.getElem_toArray, List.getElem_cons_succ, List.getElem_cons_zero, List.setIfInBounds_toArray, List.set_cons_zero, List.set_cons_succ]
      refine wpAnyH_take (i := 7) (v := ?_) rfl (by kernel_rfl) (by kernel_rfl) (by kernel_rfl) (fun _ _ _ h => h) (Or.inl ⟨by rfl, ?_⟩) (by assumption) ?_
      rotate_left
      · (intro w hSw; (try dsimp only at hSw); go_simp; try with_reducible rfl)
      simp only [Act.put, List.getElem_toArray, List.getElem_cons_succ, List.getElem_cons_zero, List.setIfInBounds_toArray, List.set_cons_zero, List.set_cons_succ]
      refine wpAnyH_take (i := 8) (v := ?_) rfl (by kernel_rfl) (by kernel_rfl) (by kernel_rfl) (fun _ _ _ h => h) (Or.inl ⟨by rfl, ?_⟩) (by assumption) ?_
      rotate_left
      · (intro w hSw; (try dsimp only at hSw); go_simp; try with_reducible rfl)
      simp only [Act.put, List.getElem_toArray, List.getElem_cons_succ, List.getElem_cons_zero, List.setIfInBounds_toArray, List.set_cons_zero, List.set_cons_succ]
      refine wpAnyH_take (i := 9) (v := ?_) rfl (by kernel_rfl) (by kernel_rfl) (by kernel_rfl) (fun _ _ _ h => h) (Or.inl ⟨by rfl, ?_⟩) (by assumption) ?_
      rotate_left
      · (intro w hSw; (try dsimp only at hSw); go_simp; try with_reducible rfl)
      simp only [Act.put, List.getElem_toArray, List.getElem_cons_succ, List.getElem_cons_zero, List.setIfInBounds_toArray, List.set_cons_zero, List.set_cons_succ]
      refine wpAnyH_take (i := 10) rfl (by kernel_rfl) (by kernel_rfl) (by kernel_rfl) (fun _ _ _ h => h) (yieldsIf_load_mid (by rfl) 42 (.tmp 42) rfl b (o + i * 22 + 11) rfl (cnV d.c) _ (fun w h => range_keep1 RCz.out (h b HBN.out HBP.out)) Try.underlying42 rfl (szL i42c (cnV_len HDO.out.2.1.len))) (by assumption) ?_
      simp only [Act.put, List.getElem_toArray, List.getElem_cons_succ, List.getElem_cons_zero, List.setIfInBounds_toArray, List.set_cons_zero, List.set_cons_succ]
      refine wpAnyH_ready (rs := [11]) (by kernel_rfl) (by simp) ?_
      refine AllReadyH.cons rfl (fun K hK => ?_) AllReadyH.nil
      go_simp
      go_at_call 10
      refine (cAdd (F3.out.grow (Below.refl _ _).drew).b HDO.out.1 HDO.out.2.1 F3.out.fine HPL.out).mono ?_
      rintro e wv ⟨rfl, Q2, g1, g2, g3⟩
      have F4 := Lib.hid ((F3.out.grow (Below.refl _ _).drew).turnB g1 (fine_if F3.out.fine) g2 g3)
      have XZ : Hid (∀ q, q < NZ → ¬ Q q → wv.heap[q]? = wz.heap[q]?) := Lib.hid fun q hq hn => g3.block q (by have := WX.out; show q < wz.heap.size; omega) hn
      clear g1 g2 g3 hHeld
      (try go_wp2_with fail)
      refine hK.out _ _ XZ.out (fun hHeld => ?_)
      clear hK K hHeld
      refine wpAnyH_done (by kernel_rfl) ?_ _
      clear XZ WX HBN HBP
      go_wp2_with fail
      go_roundw
      case rel => exact ⟨i + 1, _, _, _, _, _, HIN.out.1, congrArg _ IW.out, F4.out, put_le HLI.out.1, ins_le HLI.out.2, twin_add TW.out OKL.out HDO.out.1 d.c⟩
      case measure => exact meas_up IW.out HIN.out.1
    · obtain rfl : i = len0 := by omega
      have R := Lib.hid (And.intro hf (And.intro hLi hpi))
      clear hf hLi hpi hi hlt
      go_wp2_with fail
      go_ret2
      exact ⟨N, B, L, P, ps, cs, Q, rfl, HN.out ▸ R.out.1, R.out.2.1, R.out.2.2, TW.out⟩
end Go.Proofs.Ytdggnmlhgglccaa
