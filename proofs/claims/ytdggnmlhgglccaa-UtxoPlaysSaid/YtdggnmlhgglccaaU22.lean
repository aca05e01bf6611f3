/-
  Two Sets side by side, and a row of marks.
-/
import Derived.Test.YtdggnmlhgglccaaU21
namespace Go.Proofs.Ytdggnmlhgglccaa
open Go.RowKit
set_option maxRecDepth 100000
/-- nothing lies in what there is not -/
theorem SetIs.plt {w : World} {S : Nat} {L : List Stp} {P : Nat → Prop} (h : SetIs w S L P) : ∀ q, P q → q < w.heap.size := by obtain ⟨_, _, _, h⟩ := h; exact h.lt
theorem SetIs.inS {w : World} {S : Nat} {L : List Stp} {P : Nat → Prop} (h : SetIs w S L P) : P S := by obtain ⟨_, _, _, h⟩ := h; exact h.inS
theorem SetIs.okL {w : World} {S : Nat} {L : List Stp} {P : Nat → Prop} (h : SetIs w S L P) : okS L := by obtain ⟨_, _, _, h⟩ := h; exact h.ok
/-- two Sets apart, above N; a box F; a row of marks apart from all -/
structure NW (N : Nat) (w0 w : World) (Sa Sb : Nat) (L M : List Stp) (Pa Pb : Nat → Prop) (F : Nat) (v : Value) (ms : List Nat) : Prop where
  bel : Below N w0 w
  sz : N ≤ w.heap.size
  a : SetIs w Sa L Pa
  b : SetIs w Sb M Pb
  la : ∀ q, Pa q → N ≤ q
  lb : ∀ q, Pb q → N ≤ q
  ap : ∀ q, Pa q → ¬ Pb q
  f : BL w F [.int .i64 0] 54
  fn : N ≤ F ∧ ¬ Pa F ∧ ¬ Pb F
  m : w.ownsRow N 54 1 v ms.length (ms.map fun m : Nat => Value.int .i64 (m : Int))
  mn : ∀ g, v.ownBlock = some g → g < w.heap.size ∧ ¬ Pa g ∧ ¬ Pb g ∧ g ≠ F
section
variable {N : Nat} {w0 w : World} {Sa Sb : Nat} {L M : List Stp} {Pa Pb : Nat → Prop} {F : Nat} {v : Value} {ms : List Nat}
theorem row_keepO {w w' : World} {base n sz : Nat} {t : TypeId} {v : Value} {xs : List Value} (h : w.ownsRow base t sz v n xs) (hb : ∀ g, v.ownBlock = some g → w'.heap[g]? = w.heap[g]?) : w'.ownsRow base t sz v n xs := by
  refine ⟨h.1, ?_⟩
  rcases h.2 with g | ⟨g, cap, cur, e1, r1, r3, r4⟩
  · exact .inl g
  · exact .inr ⟨g, cap, cur, e1, r1, by rw [hb g (by rw [e1]; rfl)]; exact r3, r4⟩
theorem NW.grow (h : NW N w0 w Sa Sb L M Pa Pb F v ms) {w' : World} (hb : Below w.heap.size w w') : NW N w0 w' Sa Sb L M Pa Pb F v ms :=
  ⟨h.bel.trans (hb.mono h.sz), Nat.le_trans h.sz hb.size, h.a.grow hb, h.b.grow hb, h.la, h.lb, h.ap, bl_keep h.f (hb.block F (bl_lt h.f)), h.fn, row_keepO h.m fun g hg => hb.block g (h.mn g hg).1, fun g hg => ⟨Nat.lt_of_lt_of_le (h.mn g hg).1 hb.size, (h.mn g hg).2⟩⟩
/-- the first Set turns -/
theorem NW.turnA (h : NW N w0 w Sa Sb L M Pa Pb F v ms) {w' : World} {L' : List Stp} {P' : Nat → Prop} (h1 : SetIs w' Sa L' P') (h2 : ∀ q, P' q → Pa q ∨ w.heap.size ≤ q) (h3 : Fr w w' Pa) : NW N w0 w' Sa Sb L' M P' Pb F v ms := by
  have hn : ∀ q, q < w.heap.size → ¬ Pa q → ¬ P' q := fun q hq hp e => (h2 q e).elim hp fun g => by omega
  refine ⟨h.bel.trans (h3.below h.sz h.la), Nat.le_trans h.sz h3.size, h1, h.b.keep (fun q hq => h3.block q (h.b.plt q hq) fun e => h.ap q e hq) h3.size, fun q hq => (h2 q hq).elim (h.la q) fun g => Nat.le_trans h.sz g, h.lb,
    fun q hq e => (h2 q hq).elim (fun g => h.ap q g e) fun g => by have := h.b.plt q e; omega, h3.bl h.f h.fn.2.1, ⟨h.fn.1, hn F (bl_lt h.f) h.fn.2.1, h.fn.2.2⟩, row_keepO h.m fun g hg => h3.block g (h.mn g hg).1 (h.mn g hg).2.1, fun g hg => ?_⟩
  obtain ⟨m1, m2, m3, m4⟩ := h.mn g hg
  exact ⟨Nat.lt_of_lt_of_le m1 h3.size, hn g m1 m2, m3, m4⟩
/-- the second Set turns -/
theorem NW.turnB (h : NW N w0 w Sa Sb L M Pa Pb F v ms) {w' : World} {M' : List Stp} {P' : Nat → Prop} (h1 : SetIs w' Sb M' P') (h2 : ∀ q, P' q → Pb q ∨ w.heap.size ≤ q) (h3 : Fr w w' Pb) : NW N w0 w' Sa Sb L M' Pa P' F v ms := by
  have hn : ∀ q, q < w.heap.size → ¬ Pb q → ¬ P' q := fun q hq hp e => (h2 q e).elim hp fun g => by omega
  refine ⟨h.bel.trans (h3.below h.sz h.lb), Nat.le_trans h.sz h3.size, h.a.keep (fun q hq => h3.block q (h.a.plt q hq) fun e => h.ap q hq e) h3.size, h1, h.la, fun q hq => (h2 q hq).elim (h.lb q) fun g => Nat.le_trans h.sz g,
    fun q hq e => (h2 q e).elim (fun g => h.ap q hq g) fun g => by have := h.a.plt q hq; omega, h3.bl h.f h.fn.2.2, ⟨h.fn.1, h.fn.2.1, hn F (bl_lt h.f) h.fn.2.2⟩, row_keepO h.m fun g hg => h3.block g (h.mn g hg).1 (h.mn g hg).2.2.1, fun g hg => ?_⟩
  obtain ⟨m1, m2, m3, m4⟩ := h.mn g hg
  exact ⟨Nat.lt_of_lt_of_le m1 h3.size, m2, hn g m1 m3, m4⟩
/-- a mark is read -/
theorem NW.mark (h : NW N w0 w Sa Sb L M Pa Pb F v ms) {k : Nat} (hk : k < ms.length) : ∃ g c, v = .slice (some ⟨g, 0, none⟩) ms.length c ∧ ms.length ≤ c ∧ w.cell? ⟨g, k, none⟩ = some (.int .i64 (ms.getD k 0)) := by
  rcases h.m.2 with ⟨_, e⟩ | ⟨g, c, cur, e1, _, h3, h4, h5, h6, h7⟩
  · omega
  · refine ⟨g, c, e1, h4, ?_⟩
    rw [cell_of_row w g k _ _ _ h3]
    have : (cur.toList.take (ms.length * 1))[k]? = some (.int .i64 (ms.getD k 0 : Nat)) := by
      rw [h7, List.getElem?_map, List.getElem?_eq_getElem hk]
      simp [List.getD, List.getElem?_eq_getElem hk]
    rw [List.getElem?_take_of_lt (by omega)] at this
    simpa using this
end
theorem infoU : (Try.prog.info? 54).map (fun i => (i.zero, i.size, i.bytes)) = some (some (.agg #[.int .i64 0]), 1, 8) := by kernel_rfl
theorem own_sl {w : World} {base n : Nat} {t : TypeId} {sz : Nat} {v : Value} {xs : List Value} (h : w.ownsRow base t sz v n xs) : ∃ A c, v = .slice A n c := by
  rcases h.2 with ⟨e, e2⟩ | ⟨g, c, cur, e1, _⟩
  · exact ⟨none, 0, by rw [e, e2]⟩
  · exact ⟨_, c, e1⟩
/-- one more mark -/
theorem wpList_appU {w : World} {ops : Array Oper} {rest : List Oper} {o : Oper} {a : Act} {Q : Exit → Act → World → Prop} (hgd : o.guard = none) (s x : Operand)
    (ho : o.op = .call { callee := .builtin .append, args := #[s, x], argTypes := #[31, 31] })
    (base : Nat) (v : Value) (ps : List Nat) (hv : a.eval s = v) (hown : w.ownsRow base 54 1 v ps.length (ps.map fun m : Nat => Value.int .i64 (m : Int))) (g p c : Nat) (hx : a.eval x = .slice (some ⟨g, 0, none⟩) 1 c) (hb : w.heap[g]? = some (.cells #[.int .i64 (p : Int)] 54 (0, 0)))
    (hn : ps.length ≤ 65536) (hbase : base ≤ w.heap.size)
    (hK : ∀ A' c' w', w'.ownsRow base 54 1 (.slice A' (ps ++ [p]).length c') (ps ++ [p]).length ((ps ++ [p]).map fun m : Nat => Value.int .i64 (m : Int)) → w.grownBy w' v.ownBlock → ((Value.slice A' (ps ++ [p]).length c').ownBlock = v.ownBlock ∨ (Value.slice A' (ps ++ [p]).length c').ownBlock = some w.heap.size) → wpList Try.prog ops Q rest (a.put o.dst (.slice A' (ps ++ [p]).length c')) w') : wpList Try.prog ops Q (o :: rest) a w := by
  obtain ⟨i, hi, hz, h1, h2⟩ := info_parts infoU
  refine wpList_append_own_at w hgd s x 31 ho base 54 i _ 1 8 Try.underlying31 hi hz h1 h2 rfl (by decide) v ps.length _ hv hown ⟨g, 0, none⟩ 1 c [.int .i64 (p : Int)] hx rfl ?_ (fun u hu => by rw [List.mem_singleton.1 hu]; rfl) (by unfold maxLen; omega) (by omega) hbase ?_
  · intro j u hj
    rw [Addr.add_mid, cell_of_row w g (0 + j) _ 54 (0, 0) hb, ← hj]
    simp
  · intro v' w' hown' hg _ hq
    obtain ⟨A', c', rfl⟩ := own_sl hown'
    have e1 : (ps.map fun m : Nat => Value.int .i64 (m : Int)) ++ [.int .i64 (p : Int)] = (ps ++ [p]).map fun m : Nat => Value.int .i64 (m : Int) := by simp
    have e2 : ps.length + 1 = (ps ++ [p]).length := by simp
    rw [e1, e2] at hown'
    rw [e2] at hq ⊢
    exact hK A' c' w' hown' hg hq
theorem i42c : (Try.prog.info? 42).map (·.size) = some 11 := by kernel_rfl
/-- a deed's point and coin -/
theorem dd_rng {d : Dd} (h : d.ok) {w : World} {b o : Nat} (hr : w.rangeAt b o (dV d)) : w.rangeAt b (o + 2) (ptV d.p) ∧ w.rangeAt b (o + 11) (cnV d.c) := by
  obtain ⟨_, h2⟩ := range_app (xs := [.int .i64 d.d, .int .i64 d.n]) (ys := ptV d.p ++ cnV d.c) hr
  obtain ⟨h3, h4⟩ := range_app h2
  rw [ptV_len h.1] at h4
  exact ⟨h3, h4⟩
theorem spendL_len (L : List Stp) (p : List Int) : L.length ≤ (spendL L p).length ∧ (spendL L p).length ≤ L.length + 1 := by
  unfold spendL
  split
  · simp
  · simp
theorem uLen0 (S : Nat) (P : Nat → Prop) (w : World) (h : SetIs w S [] P) : Calls Try.prog 24 #[.pointer (some ⟨S, 0, none⟩)] w fun e w' => e = .returned (.int .i64 0) ∧ w = w' := uLen S [] P w h
theorem uTot0 (S : Nat) (P : Nat → Prop) (w : World) (h : SetIs w S [] P) : Calls Try.prog 23 #[.pointer (some ⟨S, 0, none⟩)] w fun e w' => e = .returned (.int .i64 0) ∧ w = w' := uTot S [] P w h
theorem uBack0 (S : Nat) (L : List Stp) (P : Nat → Prop) (w : World) (h : SetIs w S L P) (hL : L.length < 50000) :
    Calls Try.prog 16 #[.pointer (some ⟨S, 0, none⟩), .agg #[.int .i64 0]] w fun e w' => e = .returned (.bool true) ∧ SetIs w' S [] P ∧ Fr w w' P := by
  have := uBackYes S L P 0 w h hL (Nat.zero_le _)
  rw [Nat.sub_zero, List.drop_length] at this
  exact this
theorem mark_at {N : Nat} {w0 w : World} {Sa Sb : Nat} {L M : List Stp} {Pa Pb : Nat → Prop} {F : Nat} {g c k m : Nat} {ms : List Nat} (h : NW N w0 w Sa Sb L M Pa Pb F (.slice (some ⟨g, 0, none⟩) ms.length c) ms) (hk : k < ms.length) (hm : ms.getD k 0 = m) : w.cell? ⟨g, k, none⟩ = some (.int .i64 m) := by
  obtain ⟨g', c', e, _, ck⟩ := h.mark hk
  injection e with e1 e2 e3
  cases e1
  rw [ck, hm]
theorem pair_le : ∀ {l : List Nat}, l.Pairwise (· ≤ ·) → ∀ {i j : Nat}, i ≤ j → j < l.length → l.getD i 0 ≤ l.getD j 0
  | [], _, i, j, _, h => by simp at h
  | a :: l, hp, i, j, hij, h => by
    obtain ⟨h1, h2⟩ := List.pairwise_cons.1 hp
    cases i with
    | zero =>
      cases j with
      | zero => exact Nat.le_refl _
      | succ j =>
        have hj : j < l.length := by simpa using h
        show a ≤ l.getD j 0
        rw [List.getD_eq_getElem?_getD, List.getElem?_eq_getElem hj]
        exact h1 _ (List.getElem_mem hj)
    | succ i =>
      cases j with
      | zero => omega
      | succ j => exact pair_le h2 (i := i) (j := j) (by omega) (by simpa using h)
theorem meas_dn {k : Nat} (h : wrap64 ((k : Int) - 1) = (k : Int) - 1) : (intOf (.int .i64 (wrap64 ((k : Int) - 1))) + 1).toNat < (intOf (.int .i64 (k : Int)) + 1).toNat := by
  rw [h]
  show ((k : Int) - 1 + 1).toNat < ((k : Int) + 1).toNat
  omega
theorem own_blk {w : World} {base n : Nat} {t : TypeId} {sz : Nat} {v : Value} {xs : List Value} (h : w.ownsRow base t sz v n xs) {g : Nat} (hg : v.ownBlock = some g) : base ≤ g ∧ g < w.heap.size := by
  rcases h.2 with ⟨e, e2⟩ | ⟨g', c, cur, e1, h2, h3, _⟩
  · rw [e] at hg; cases hg
  · rw [e1] at hg
    cases hg
    exact ⟨h2, lt_of_block h3⟩
theorem NW.push {N : Nat} {w0 w : World} {Sa Sb : Nat} {L M : List Stp} {Pa Pb : Nat → Prop} {F : Nat} {v : Value} {ms : List Nat} (h : NW N w0 w Sa Sb L M Pa Pb F v ms) {w' : World} {v' : Value} {p : Nat}
    (ho : w'.ownsRow N 54 1 v' (ms ++ [p]).length ((ms ++ [p]).map fun m : Nat => Value.int .i64 (m : Int))) (hg : w.grownBy w' v.ownBlock) (hq : v'.ownBlock = v.ownBlock ∨ v'.ownBlock = some w.heap.size) : NW N w0 w' Sa Sb L M Pa Pb F v' (ms ++ [p]) := by
  have hk : ∀ q, q < w.heap.size → (∀ g, v.ownBlock = some g → q ≠ g) → w'.heap[q]? = w.heap[q]? := fun q hq hn => hg.block q hq fun e => hn q e.symm rfl
  have hA : ∀ q, Pa q → w'.heap[q]? = w.heap[q]? := fun q hp => hk q (h.a.plt q hp) fun g e e2 => (h.mn g e).2.1 (e2 ▸ hp)
  have hB : ∀ q, Pb q → w'.heap[q]? = w.heap[q]? := fun q hp => hk q (h.b.plt q hp) fun g e e2 => (h.mn g e).2.2.1 (e2 ▸ hp)
  refine ⟨h.bel.trans ⟨hg.os, hg.tape, hg.output, hg.size, fun q hq => hk q (by have := h.sz; omega) fun g e e2 => by have := (own_blk h.m e).1; omega⟩, Nat.le_trans h.sz hg.size, h.a.keep hA hg.size, h.b.keep hB hg.size, h.la, h.lb, h.ap,
    bl_keep h.f (hk F (bl_lt h.f) fun g e e2 => (h.mn g e).2.2.2 e2.symm), h.fn, ho, fun g e => ⟨(own_blk ho e).2, ?_⟩⟩
  rcases hq with e2 | e2
  · exact (h.mn g (e2 ▸ e)).2
  · rw [e2] at e
    cases e
    exact ⟨fun e => by have := h.a.plt _ e; omega, fun e => by have := h.b.plt _ e; omega, fun e => by have := bl_lt h.f; omega⟩
end Go.Proofs.Ytdggnmlhgglccaa
