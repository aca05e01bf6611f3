/-
  A tree in memory while it is made and when it is made; append of one more key, one more public; a copy of hashes.
-/
import Derived.Test.YtkmfmkonejdjiaaDoorK2
namespace Go.Proofs.YtkmfmkonejdjiaaDoor
open Go.RowKit
def ptr (b : Nat) : Value := .pointer (some ⟨b, 0, none⟩)
theorem info49 : (Tryd.prog.info? 49).map (fun i => (i.zero, i.size, i.bytes)) = some (some (.pointer none), 1, 8) := by kernel_rfl
/- rows of pointers of the call's own -/
theorem own1_base {w : World} {base n : Nat} {v : Value} {xs : List Value} (h : w.ownsRow base 49 1 v n xs) : ∀ q, v.ownBlock = some q → base ≤ q := by
  intro q hq
  rcases h.2 with ⟨rfl, _⟩ | ⟨g, cap, cur, rfl, hb, _⟩
  · cases hq
  · simp [Value.ownBlock] at hq; omega
theorem own_type {w : World} {base t k n : Nat} {v : Value} {xs : List Value} (h : w.ownsRow base t k v n xs) : ∀ q, v.ownBlock = some q → ∃ cs, w.heap[q]? = some (.cells cs t (0, 0)) := by
  intro q hq
  rcases h.2 with ⟨rfl, _⟩ | ⟨g, cap, cur, rfl, hb, hg, _⟩
  · cases hq
  · simp [Value.ownBlock] at hq
    subst hq
    exact ⟨_, hg⟩
theorem own_same {w W : World} {base t k n : Nat} {v : Value} {xs : List Value} (h : w.ownsRow base t k v n xs) (hk : ∀ q, v.ownBlock = some q → W.heap[q]? = w.heap[q]?) : W.ownsRow base t k v n xs := by
  refine ⟨h.1, ?_⟩
  rcases h.2 with h2 | ⟨g, cap, cur, rfl, hb, hg, h3⟩
  · exact .inl h2
  · exact .inr ⟨g, cap, cur, rfl, hb, by rw [hk g rfl]; exact hg, h3⟩
theorem own1_slice {w : World} {base n : Nat} {v : Value} {xs : List Value} (h : w.ownsRow base 49 1 v n xs) : ∃ A c, v = .slice A n c := by
  rcases h.2 with ⟨rfl, rfl⟩ | ⟨g, cap, cur, rfl, _⟩
  · exact ⟨none, 0, rfl⟩
  · exact ⟨_, _, rfl⟩
/-- blocks of two types are two -/
theorem types_ne {w : World} {a b t u : Nat} {xs ys : Array Value} (h : w.heap[a]? = some (.cells xs t (0, 0))) (h2 : w.heap[b]? = some (.cells ys u (0, 0))) (ne : t ≠ u) : a ≠ b := fun e => by
  subst e
  rw [h] at h2
  injection h2 with h2
  injection h2 with _ h3
  exact ne h3
/-- a tree that is made -/
structure Tre (w : World) (base T : Nat) (seed : List Int) (a b : Nat) (v u : Value) (ks : List Nat) : Prop where
  t : w.heap[T]? = some (.cells #[v, u] 48 (0, 0))
  k : w.ownsRow base 49 1 v a (ks.map ptr)
  p : w.ownsRow base 23 8 u b (bvals (cat (pubF seed) b))
  n : ks.length = a
  m : ∀ j, j < a → BA w (ks.getD j 0) 67 (keyL seed j)
  z : T < base
theorem Tre.below {w W : World} {base T a b : Nat} {seed : List Int} {v u : Value} {ks : List Nat} (h : Tre w base T seed a b v u ks) (hb : Below w.heap.size w W) : Tre W base T seed a b v u ks where
  t := (hb.block _ (lt_of_block h.t)).trans h.t
  k := own_same h.k fun q hq => by obtain ⟨cs, hc⟩ := own_type h.k q hq; exact hb.block q (lt_of_block hc)
  p := own_same h.p fun q hq => by obtain ⟨cs, hc⟩ := own_type h.p q hq; exact hb.block q (lt_of_block hc)
  n := h.n
  m := fun j hj => (hb.block _ (lt_of_block (h.m j hj))).trans (h.m j hj)
  z := h.z
theorem Tre.cell0 {w : World} {base T a b : Nat} {seed : List Int} {v u : Value} {ks : List Nat} (h : Tre w base T seed a b v u ks) : w.cell? ⟨T, 0, none⟩ = some v := by
  rw [cell_of_row w T 0 _ 48 (0, 0) h.t]; rfl
theorem Tre.cell1 {w : World} {base T a b : Nat} {seed : List Int} {v u : Value} {ks : List Nat} (h : Tre w base T seed a b v u ks) : w.cell? ⟨T, 1, none⟩ = some u := by
  rw [cell_of_row w T 1 _ 48 (0, 0) h.t]; rfl
/-- one key more -/
theorem Tre.key {w W : World} {base T a b K : Nat} {seed : List Int} {v u v' : Value} {ks : List Nat} (h : Tre w base T seed a b v u ks) (hK : BA w K 67 (keyL seed a)) (hg : w.grownBy W v.ownBlock) (ho : W.ownsRow base 49 1 v' (a + 1) ((ks ++ [K]).map ptr)) :
    Tre (W.setCell ⟨T, 0, none⟩ v') base T seed (a + 1) b v' u (ks ++ [K]) := by
  have nT : some T ≠ v.ownBlock := fun e => by have := own1_base h.k T e.symm; have := h.z; omega
  have hT : W.heap[T]? = some (.cells #[v, u] 48 (0, 0)) := (hg.block T (lt_of_block h.t) nT).trans h.t
  have hM : ∀ q l, BA w q 67 l → BA (W.setCell ⟨T, 0, none⟩ v') q 67 l := fun q l hq => by
    have n1 : some q ≠ v.ownBlock := fun e => by
      obtain ⟨cs, hc⟩ := own_type h.k q e.symm
      exact types_ne hc hq (by decide) rfl
    exact (heap_setCell_other W ⟨T, 0, none⟩ q v' (types_ne hq h.t (by decide))).trans ((hg.block q (lt_of_block hq) n1).trans hq)
  refine ⟨?_, ?_, ?_, by rw [List.length_append, h.n]; rfl, ?_, h.z⟩
  · rw [heap_setCell_same W T 0 _ 48 _ hT]; rfl
  · exact own_same ho fun q hq => heap_setCell_other W ⟨T, 0, none⟩ q v' (by have := own1_base ho q hq; have := h.z; show q ≠ T; omega)
  · refine own_same h.p fun q hq => ?_
    obtain ⟨cs, hc⟩ := own_type h.p q hq
    have n1 : some q ≠ v.ownBlock := fun e => by
      obtain ⟨ds, hd⟩ := own_type h.k q e.symm
      exact types_ne hd hc (by decide) rfl
    exact (heap_setCell_other W ⟨T, 0, none⟩ q v' (types_ne hc h.t (by decide))).trans (hg.block q (lt_of_block hc) n1)
  · intro j hj
    by_cases e : j = a
    · subst e
      have : (ks ++ [K]).getD j 0 = K := by rw [← h.n]; simp [List.getD]
      rw [this]
      exact hM _ _ hK
    · have : (ks ++ [K]).getD j 0 = ks.getD j 0 := by
        have := h.n
        simp only [List.getD_eq_getElem?_getD]
        rw [List.getElem?_append_left (by omega)]
      rw [this]
      exact hM _ _ (h.m j (by omega))
/-- one public more -/
theorem Tre.pub {w W : World} {base T a b : Nat} {seed : List Int} {v u u' : Value} {ks : List Nat} (h : Tre w base T seed a b v u ks) (hg : w.grownBy W u.ownBlock) (ho : W.ownsRow base 23 8 u' (b + 1) (bvals (cat (pubF seed) (b + 1)))) :
    Tre (W.setCell ⟨T, 1, none⟩ u') base T seed a (b + 1) v u' ks := by
  have nT : some T ≠ u.ownBlock := fun e => by have := own8_base h.p T e.symm; have := h.z; omega
  have hT : W.heap[T]? = some (.cells #[v, u] 48 (0, 0)) := (hg.block T (lt_of_block h.t) nT).trans h.t
  refine ⟨?_, ?_, ?_, h.n, ?_, h.z⟩
  · rw [heap_setCell_same W T 1 _ 48 _ hT]; rfl
  · refine own_same h.k fun q hq => ?_
    obtain ⟨cs, hc⟩ := own_type h.k q hq
    have n1 : some q ≠ u.ownBlock := fun e => by
      obtain ⟨ds, hd⟩ := own_type h.p q e.symm
      exact types_ne hd hc (by decide) rfl
    exact (heap_setCell_other W ⟨T, 1, none⟩ q u' (types_ne hc h.t (by decide))).trans (hg.block q (lt_of_block hc) n1)
  · exact own_same ho fun q hq => heap_setCell_other W ⟨T, 1, none⟩ q u' (by have := own8_base ho q hq; have := h.z; show q ≠ T; omega)
  · intro j hj
    have hq := h.m j hj
    have n1 : some (ks.getD j 0) ≠ u.ownBlock := fun e => by
      obtain ⟨cs, hc⟩ := own_type h.p _ e.symm
      exact types_ne hc hq (by decide) rfl
    exact (heap_setCell_other W ⟨T, 1, none⟩ _ u' (types_ne hq h.t (by decide))).trans ((hg.block _ (lt_of_block hq) n1).trans hq)
/-- a tree, as others read it -/
structure TA (w : World) (T : Nat) (seed : List Int) (gk ck gp cp : Nat) (ks : Nat → Nat) : Prop where
  t : w.heap[T]? = some (.cells #[.slice (some ⟨gk, 0, none⟩) 8 ck, .slice (some ⟨gp, 0, none⟩) 8 cp] 48 (0, 0))
  k : ∀ j, j < 8 → w.cell? ⟨gk, j, none⟩ = some (ptr (ks j))
  p : Src w (some ⟨gp, 0, none⟩) (8 * 8) (pubs seed)
  c : 8 ≤ ck ∧ 8 ≤ cp ∧ cp ≤ maxLen
  m : ∀ j, j < 8 → BA w (ks j) 67 (keyL seed j)
theorem TA.keep {w W : World} {T gk ck gp cp : Nat} {seed : List Int} {ks : Nat → Nat} (h : TA w T seed gk ck gp cp ks) (hb : Below w.heap.size w W) : TA W T seed gk ck gp cp ks where
  t := (hb.block _ (lt_of_block h.t)).trans h.t
  k := fun j hj => by rw [hb.cell (p := ⟨gk, j, none⟩) (World.block_lt_of_cell? w ⟨gk, j, none⟩ (h.k j hj))]; exact h.k j hj
  p := h.p.keep hb.block
  c := h.c
  m := fun j hj => (hb.block _ (lt_of_block (h.m j hj))).trans (h.m j hj)
theorem Tre.done {w : World} {base T : Nat} {seed : List Int} {v u : Value} {ks : List Nat} (h : Tre w base T seed 8 8 v u ks) : ∃ gk ck gp cp, TA w T seed gk ck gp cp (fun j => ks.getD j 0) := by
  rcases h.k.2 with ⟨_, e⟩ | ⟨gk, ck, cur, rfl, _, hg, hc1, hc2, hs, ht⟩
  · cases e
  rcases h.p.2 with ⟨_, e⟩ | ⟨gp, cp, _, rfl, _⟩
  · cases e
  have hp := own8_src h.p
  refine ⟨gk, ck, gp, cp, h.t, fun j hj => ?_, hp.1, ⟨hc1, hp.2⟩, h.m⟩
  rw [cell_of_row w gk j _ 49 (0, 0) hg, ← Array.getElem?_toList]
  have e2 : (cur.toList.take (8 * 1))[j]? = (ks.map ptr)[j]? := by rw [ht]
  rw [List.getElem?_take, if_pos (by omega)] at e2
  rw [e2]
  have hn := h.n
  simp [List.getD_eq_getElem?_getD, show j < ks.length by omega]
/-- 'append(row, pointer)' onto a row of the call's own -/
theorem wpList_app1 {w : World} {ops : Array Oper} {rest : List Oper} {o : Oper} {a : Act} {Q : Exit → Act → World → Prop} (hgd : o.guard = none) (s x : Operand)
    (ho : o.op = .call { callee := .builtin .append, args := #[s, x], argTypes := #[46, 46] })
    (base n : Nat) (v : Value) (ks : List Nat) (hv : a.eval s = v) (hown : w.ownsRow base 49 1 v n (ks.map ptr)) (g K c : Nat) (hx : a.eval x = .slice (some ⟨g, 0, none⟩) 1 c) (hb : w.heap[g]? = some (.cells #[ptr K] 49 (0, 0)))
    (hn : n ≤ 65536) (hbase : base ≤ w.heap.size)
    (hK : ∀ A' c' w', w'.ownsRow base 49 1 (.slice A' (n + 1) c') (n + 1) ((ks ++ [K]).map ptr) → w.grownBy w' v.ownBlock → wpList Tryd.prog ops Q rest (a.put o.dst (.slice A' (n + 1) c')) w') : wpList Tryd.prog ops Q (o :: rest) a w := by
  obtain ⟨i, hi, hz, h1, h2⟩ := info_parts info49
  refine wpList_append_own_at w hgd s x 46 ho base 49 i _ 1 8 Tryd.underlying46 hi hz h1 h2 rfl (by decide) v n (ks.map ptr) hv hown ⟨g, 0, none⟩ 1 c [ptr K] hx rfl ?_ (fun u hu => by rw [List.mem_singleton.1 hu]; rfl) (by unfold maxLen; omega) (by omega) hbase ?_
  · intro j u hj
    rw [Addr.add_mid, cell_of_row w g (0 + j) _ 49 (0, 0) hb, ← hj]
    simp
  · intro v' w' hown' hg _ _
    obtain ⟨A', c', rfl⟩ := own1_slice hown'
    have e : ks.map ptr ++ [ptr K] = (ks ++ [K]).map ptr := by simp
    rw [e] at hown'
    exact hK A' c' w' hown' hg
/-- the same of a hash, as a step of a region that draws its order -/
theorem step_app8 {w : World} {ops : Array Oper} {o : Oper} {a : Act} {K : Act → World → Prop} {Q : Exit → Act → World → Prop} {E : Prop} (hgd : o.guard = none) (s x : Operand)
    (ho : o.op = .call { callee := .builtin .append, args := #[s, x], argTypes := #[40, 40] })
    (base n : Nat) (v : Value) (l : List Int) (hv : a.eval s = v) (hown : w.ownsRow base 23 8 v n (bvals l)) (g c : Nat) (h : List Int) (hx : a.eval x = .slice (some ⟨g, 0, none⟩) 1 c) (hb : BA w g 23 h) (hl : h.length = 8)
    (hn : n ≤ 65536) (hbase : base ≤ w.heap.size)
    (hK : ∀ A' c' w', w'.ownsRow base 23 8 (.slice A' (n + 1) c') (n + 1) (bvals (l ++ h)) → w.grownBy w' v.ownBlock → K (a.put o.dst (.slice A' (n + 1) c')) w') : if Region.wanted o (yielded ops a.tmps) = true then Oper.wp Tryd.prog o a w K Q else E := by
  have hw : Region.wanted o (yielded ops a.tmps) = true := by simp [Region.wanted, hgd]
  rw [if_pos hw]
  obtain ⟨i, hi, hz, h1, h2⟩ := info_parts info27
  obtain ⟨v', w', hr, hown', hg, _⟩ := run_append_own_at (P := Tryd.prog) w base 40 o.type 23 i _ 8 8 Tryd.underlying40 hi hz h1 h2 rfl (by decide) v n (bvals l) hown ⟨g, 0, none⟩ 1 c (bvals h) (by simp [bvals, hl]) (fun j u hj => by rw [Addr.add_mid]; exact ba_range hb j u hj) (bvals_one h) (by unfold maxLen; omega) (by omega) hbase
  unfold Oper.wp execOp
  simp only [ho, resolve, invoke, builtin, Sem.run_bind, Sem.run_pure, Result.andThen_ok, List.map_toArray, List.map_cons, List.map_nil, hv, hx, hr]
  obtain ⟨A', c', rfl⟩ := own8_slice hown'
  have e : bvals l ++ bvals h = bvals (l ++ h) := by simp [bvals]
  rw [e] at hown'
  exact hK A' c' w' hown' hg
/-- 'copy' of three hashes into three -/
theorem run_copy3 (w : World) (ty : TypeId) (g o g2 o2 c2 : Nat) (P : List Int) (hP : Src w (some ⟨g2, o2, none⟩) (8 * 3) P) (ht : w.there g o 24) :
    (Builtin.copy_ #[40, 40] ty #[.slice (some ⟨g, o, none⟩) 3 3, .slice (some ⟨g2, o2, none⟩) 3 c2]).run Tryd.prog w = .ok (goInt 3) (w.setCells g o (bvals P)) := by
  have hl : (bvals P).length = 24 := by rw [bvals_len]; exact hP.1
  have hsrc : ∀ j v, (bvals P)[j]? = some v → w.cell? ((⟨g2, o2, none⟩ : Addr).add j) = some v := fun j v hj => by
    have hj2 := (List.getElem?_eq_some_iff.1 hj).1
    rcases hP.2 with h0 | ⟨g', o', e, hc⟩
    · cases h0
    · cases e
      rw [Addr.add_mid, hc j (by omega), ← hj]
      have := hP.1
      simp [bvals, List.getD, show j < P.length by omega]
  have hld := run_loadCells_list (P := Tryd.prog) w ⟨g2, o2, none⟩ (bvals P) hsrc
  rw [hl] at hld
  have hst := run_storeCells_cells (P := Tryd.prog) g o (bvals P) 0 w (fun j hj => by simpa using (ht j (by omega)).1) (fun j hj => by simpa using (ht j (by omega)).2) (bvals_one P)
  rw [Nat.add_zero] at hst
  obtain ⟨i, hi, _, h1, _⟩ := info_parts info27
  simp [Builtin.copy_, run_underlying Tryd.underlying40, Builtin.lenOf, Builtin.firstCells, sizeOf, typeInfo, hi, h1, hld, hst]
theorem wpList_copy3 {w : World} {ops : Array Oper} {rest : List Oper} {o : Oper} {a : Act} {Q : Exit → Act → World → Prop} (hgd : o.guard = none) (d s : Operand)
    (ho : o.op = .call { callee := .builtin .copy, args := #[d, s], argTypes := #[40, 40] }) (g p : Nat) (A : Option Addr) (c : Nat) (P : List Int) (hd : a.eval d = .slice (some ⟨g, p, none⟩) 3 3) (hs : a.eval s = .slice A 3 c)
    (hP : Src w A (8 * 3) P) (ht : w.there g p 24) (h : wpList Tryd.prog ops Q rest (a.put o.dst (goInt 3)) (w.setCells g p (bvals P))) : wpList Tryd.prog ops Q (o :: rest) a w := by
  refine wpList_plain hgd fun K hK => ?_
  obtain ⟨g2, o2, rfl⟩ := src_at hP (by omega)
  have hr := run_copy3 w o.type g p g2 o2 c P hP ht
  unfold Oper.wp execOp
  simp only [ho, resolve, invoke, builtin, Sem.run_bind, Sem.run_pure, Result.andThen_ok, List.map_toArray, List.map_cons, List.map_nil, hd, hs, hr]
  exact hK _ _ h
end Go.Proofs.YtkmfmkonejdjiaaDoor
