/-
  A row of signatures in memory; what builds one and appends one; a row of keys.
-/
import Derived.Test.YtmcmdpbdipgahaaK1
import Derived.Great.BuildSlice
import Derived.Maps.AppendAt
namespace Go.Proofs.Ytmcmdpbdipgahaa
open Go.RowKit
/-- one of a sidechain's signatures: of which key, with which index, its bytes -/
structure Sgd where
  key : Int
  idx : Int
  sig : List Int
def sgd0 : Sgd := ⟨0, 0, []⟩
def eS (x : Sgd) : List Value := .int .i64 x.key :: sg x.idx x.sig
theorem eS_len {x : Sgd} (h : x.sig.length = 280) : (eS x).length = 282 := by simp [eS, sg_len, h]
theorem eS_one (x : Sgd) : ∀ v ∈ eS x, v.oneCell' = true := fun v hv => by
  rcases List.mem_cons.1 hv with rfl | h
  · rfl
  · exact sg_one _ _ v h
theorem eS_ones (x : Sgd) : (eS x).toArray.all (·.oneCell') = true := all_oneCell_toArray (eS_one x)
def zS : Sgd := ⟨0, 0, zeros 280⟩
theorem zS_len : zS.sig.length = 280 := zeros_len 280
theorem info45 : (Try.prog.info? 100).map (fun i => (i.zero, i.size, i.bytes)) = some (some (.agg (eS zS).toArray), 282, 296) := by kernel_rfl
theorem i45 : (Try.prog.info? 100).map (·.size) = some 282 := by kernel_rfl
theorem eS_info {x : Sgd} (h : x.sig.length = 280) : (Try.prog.info? 100).map (·.size) = some (eS x).length := by rw [i45, eS_len h]
theorem eS_infoA {x : Sgd} (h : x.sig.length = 280) : (Try.prog.info? 100).map (·.size) = some (eS x).toArray.size := by rw [i45, List.size_toArray, eS_len h]
theorem zS45 (w : World) : (zeroValue 100).run Try.prog w = .ok (.agg (eS zS).toArray) w := by kernel_rfl
/- whole parts laid into a row -/
theorem fold_set {α : Type} : ∀ (ys : List α) (o k : Nat) (L M R : List α), L.length = o + k → M.length = ys.length → ((ys.zipIdx k).foldl (fun (cs : Array α) (p : α × Nat) => cs.setIfInBounds (o + p.2) p.1) (L ++ M ++ R).toArray).toList = L ++ ys ++ R
  | [], _, _, L, M, R, _, h => by
    have : M = [] := List.eq_nil_of_length_eq_zero h
    subst this
    rfl
  | y :: ys, o, k, L, m :: M, R, hL, h => by
    have ih := fold_set ys o (k + 1) (L ++ [y]) M R (by simp; omega) (by simpa using h)
    have e : ((L ++ m :: M ++ R).toArray.setIfInBounds (o + k) y) = (L ++ [y] ++ M ++ R).toArray := by
      rw [← hL]
      simp
    rw [List.zipIdx_cons, List.foldl_cons, e, ih]
    simp
theorem fold_set' {α : Type} (ys L M R : List α) (o : Nat) (A : Array α) (hA : A.toList = L ++ M ++ R) (hL : L.length = o) (hM : M.length = ys.length) : (ys.zipIdx).foldl (fun (cs : Array α) (p : α × Nat) => cs.setIfInBounds (o + p.2) p.1) A = (L ++ ys ++ R).toArray := by
  have := fold_set ys o 0 L M R (by omega) hM
  rw [← hA] at this
  exact Array.ext' (by simpa using this)
theorem fold_arr {α : Type} (ys : Array α) (L M R : List α) (o : Nat) (A : Array α) (hA : A.toList = L ++ M ++ R) (hL : L.length = o) (hM : M.length = ys.size) : (ys.zipIdx).foldl (fun (cs : Array α) (p : α × Nat) => cs.setIfInBounds (o + p.2) p.1) A = (L ++ ys.toList ++ R).toArray := by
  have := fold_set' ys.toList L M R o A hA hL (by simpa using hM)
  rw [← this, ← Array.foldl_toList, Array.toList_zipIdx]
theorem fill_45 (k i : Int) (L : List Int) (hL : L.length = 280) : Instr.fill (#[(0, 1), (1, 281)][·]?) (eS zS).toArray [(0, .int .i64 k), (1, .agg (sg i L).toArray)] = some (eS ⟨k, i, L⟩).toArray := by
  have hz : (sg 0 (zeros 280)).length = 281 := by rw [sg_len, zeros_len]
  have hs : (sg i L).toArray.size = 281 := by rw [List.size_toArray, sg_len, hL]
  have e0 : (eS zS).toArray.size = 282 := by rw [List.size_toArray, eS_len zS_len]
  have f1 : (Value.int .i64 k).cells.zipIdx.foldl (fun (cs : Array Value) (p : Value × Nat) => cs.setIfInBounds (0 + p.2) p.1) (eS zS).toArray = (Value.int .i64 k :: sg 0 (zeros 280)).toArray := by
    refine (fold_arr #[Value.int .i64 k] [] [Value.int .i64 0] (sg 0 (zeros 280)) 0 (eS zS).toArray (by simp [eS, zS]) rfl rfl).trans ?_
    simp
  have f2 : (Value.agg (sg i L).toArray).cells.zipIdx.foldl (fun (cs : Array Value) (p : Value × Nat) => cs.setIfInBounds (1 + p.2) p.1) (Value.int .i64 k :: sg 0 (zeros 280)).toArray = (eS ⟨k, i, L⟩).toArray := by
    refine (fold_arr (sg i L).toArray [Value.int .i64 k] (sg 0 (zeros 280)) [] 1 _ (by simp) rfl (by rw [hs, hz])).trans ?_
    simp [eS]
  have g1 : ¬ ((Value.int .i64 k).cells.size ≠ 1 || decide (0 + (Value.int .i64 k).cells.size > (eS zS).toArray.size)) = true := by rw [e0]; simp [Value.cells]
  have g2 : ¬ ((Value.agg (sg i L).toArray).cells.size ≠ 281 || decide (1 + (Value.agg (sg i L).toArray).cells.size > (Value.int .i64 k :: sg 0 (zeros 280)).toArray.size)) = true := by
    have e1 : (Value.int .i64 k :: sg 0 (zeros 280)).toArray.size = 282 := by rw [List.size_toArray, List.length_cons, hz]
    have e2 : (Value.agg (sg i L).toArray).cells.size = 281 := hs
    rw [e1, e2]
    decide
  unfold Instr.fill
  simp only [show (#[(0, 1), (1, 281)] : Array (Nat × Nat))[0]? = some (0, 1) from rfl]
  rw [if_neg g1, f1]
  unfold Instr.fill
  simp only [show (#[(0, 1), (1, 281)] : Array (Nat × Nat))[1]? = some (1, 281) from rfl]
  rw [if_neg g2, f2]
  rfl
theorem places45 : ∃ fs, Try.prog.underlying 100 = some (.struct fs) ∧ fs.toList.mapM (fun f => (Try.prog.info? f.type).map fun i => (f.offset, i.size)) = some [(0, 1), (1, 281)] := ⟨_, Try.underlying100, by kernel_rfl⟩
theorem built45 (k i : Int) (L : List Int) (hL : L.length = 280) : Try.prog.built 100 [(0, .int .i64 k), (1, .agg (sg i L).toArray)] = some (eS ⟨k, i, L⟩).toArray := by
  obtain ⟨it, hi, hz, _, _⟩ := info_parts info45
  obtain ⟨fs, hu, hp⟩ := places45
  unfold Program.built
  rw [hi, hu]
  simp only [hz, hp]
  exact fill_45 k i L hL
theorem run_b45 (k i : Int) (L : List Int) (hL : L.length = 280) (w : World) : (Instr.build 100 #[(0, .int .i64 k), (1, .agg (sg i L).toArray)]).run Try.prog w = .ok (.agg (eS ⟨k, i, L⟩).toArray) w := run_build w 100 _ _ (built45 k i L hL)
theorem fill_all (A : Array Value) (x : Sgd) (hx : x.sig.length = 280) (hA : A.size = 282) : Instr.fill (fun i => some (i * 282, 282)) A [(0, .agg (eS x).toArray)] = some (eS x).toArray := by
  have hs : (eS x).toArray.size = 282 := by rw [List.size_toArray, eS_len hx]
  have f1 : (Value.agg (eS x).toArray).cells.zipIdx.foldl (fun (cs : Array Value) (p : Value × Nat) => cs.setIfInBounds (0 * 282 + p.2) p.1) A = (eS x).toArray := by
    refine (fold_arr (eS x).toArray [] A.toList [] _ A (by simp) rfl (by rw [hs]; simpa using hA)).trans ?_
    simp
  have g1 : ¬ ((Value.agg (eS x).toArray).cells.size ≠ 282 || decide (0 * 282 + (Value.agg (eS x).toArray).cells.size > A.size)) = true := by
    have e2 : (Value.agg (eS x).toArray).cells.size = 282 := hs
    rw [e2, hA]
    decide
  unfold Instr.fill
  simp only []
  rw [if_neg g1, f1]
  rfl
theorem run_bs45 (x : Sgd) (hx : x.sig.length = 280) (w : World) : (Instr.buildSlice 48 1 #[(0, .agg (eS x).toArray)]).run Try.prog w = .ok (.slice (some ⟨w.heap.size, 0, none⟩) 1 1) (w.alloc (.cells (eS x).toArray 100)) := by
  obtain ⟨it, hi, hz, hs, _⟩ := info_parts info45
  refine run_buildSlice w 48 100 1 _ _ it _ Try.underlying48 hi hz (by rw [hs]; decide) (by rw [hs]; decide) ?_
  rw [hs]
  exact fill_all _ x hx (by simp)
/- as steps -/
theorem step_b45 {w : World} {ops : Array Oper} {o : Oper} {a : Act} {K : Act → World → Prop} {Q : Exit → Act → World → Prop} {E : Prop} (hgd : o.guard = none) (x y : Operand) (ho : o.op = .build 100 #[(0, x), (1, y)]) (k i : Int) (L : List Int) (hL : L.length = 280) (hx : a.eval x = .int .i64 k) (hy : a.eval y = .agg (sg i L).toArray)
    (hK : K (a.put o.dst (.agg (eS ⟨k, i, L⟩).toArray)) w) : if Region.wanted o (yielded ops a.tmps) = true then Oper.wp Try.prog o a w K Q else E := by
  have hw : Region.wanted o (yielded ops a.tmps) = true := by simp [Region.wanted, hgd]
  rw [if_pos hw]
  have hp : (#[(0, x), (1, y)] : Array (Nat × Operand)).map (fun (i, x) => (i, a.eval x)) = #[(0, .int .i64 k), (1, .agg (sg i L).toArray)] := by simp [hx, hy]
  unfold Oper.wp execOp
  simp only [ho, hp, Sem.run_bind, run_b45 k i L hL w, Result.andThen_ok]
  exact hK
theorem step_bs45 {w : World} {ops : Array Oper} {o : Oper} {a : Act} {K : Act → World → Prop} {Q : Exit → Act → World → Prop} {E : Prop} (hgd : o.guard = none) (x : Operand) (ho : o.op = .buildSlice 48 1 #[(0, x)]) (y : Sgd) (hy : y.sig.length = 280) (hx : a.eval x = .agg (eS y).toArray)
    (hK : K (a.put o.dst (.slice (some ⟨w.heap.size, 0, none⟩) 1 1)) (w.alloc (.cells (eS y).toArray 100))) : if Region.wanted o (yielded ops a.tmps) = true then Oper.wp Try.prog o a w K Q else E := by
  have hw : Region.wanted o (yielded ops a.tmps) = true := by simp [Region.wanted, hgd]
  rw [if_pos hw]
  have hp : (#[(0, x)] : Array (Nat × Operand)).map (fun (i, x) => (i, a.eval x)) = #[(0, .agg (eS y).toArray)] := by simp [hx]
  unfold Oper.wp execOp
  simp only [ho, hp, Sem.run_bind, run_bs45 y hy w, Result.andThen_ok]
  exact hK
theorem info45p : ∃ i, Try.prog.info? 100 = some i ∧ i.zero = some (.agg (eS zS).toArray) ∧ i.size = 282 ∧ i.bytes = 296 := info_parts info45
theorem ownS_slice {w : World} {base n : Nat} {v : Value} {xs : List Value} (h : w.ownsRow base 100 282 v n xs) : ∃ A c, v = .slice A n c := by
  rcases h.2 with ⟨rfl, rfl⟩ | ⟨g, cap, cur, rfl, _⟩
  · exact ⟨none, 0, rfl⟩
  · exact ⟨_, _, rfl⟩
theorem ownS_nil (w : World) (base : Nat) : w.ownsRow base 100 282 (.slice none 0 0) 0 (([] : List Sgd).flatMap eS) := ⟨rfl, .inl ⟨rfl, rfl⟩⟩
/-- 'append(row, those of another row ..)' onto a row of the call's own, as a step -/
theorem run_appS {w : World} (ty base n m : Nat) (v : Value) (l : List Value) (hown : w.ownsRow base 100 282 v n l) (g o c : Nat) (h : List Value) (hx : w.rangeAt g o h) (hl : h.length = m * 282) (h1 : ∀ u ∈ h, u.oneCell' = true) (hn : n + m ≤ 65536) (hbase : base ≤ w.heap.size) :
    ∃ A' c' w', (Builtin.append_ #[48, 48] ty #[v, .slice (some ⟨g, o, none⟩) m c]).run Try.prog w = .ok (.slice A' (n + m) c') w' ∧ w'.ownsRow base 100 282 (.slice A' (n + m) c') (n + m) (l ++ h) ∧ w.grownBy w' v.ownBlock := by
  obtain ⟨i, hi, hz, hs, hb⟩ := info45p
  obtain ⟨v', w', hr, hown', hg, _⟩ := run_append_own_at (P := Try.prog) w base 48 ty 100 i _ 282 296 Try.underlying48 hi hz hs hb (by show (eS zS).toArray.size = 282; rw [List.size_toArray, eS_len zS_len]) (by decide) v n l hown ⟨g, o, none⟩ m c h hl (fun j u hj => by rw [Addr.add_mid]; exact hx j u hj) h1 (by unfold maxLen; omega) (by omega) hbase
  obtain ⟨A', c', rfl⟩ := ownS_slice hown'
  exact ⟨A', c', w', hr, hown', hg⟩
theorem step_appS {w : World} {ops : Array Oper} {o : Oper} {a : Act} {K : Act → World → Prop} {Q : Exit → Act → World → Prop} {E : Prop} (hgd : o.guard = none) (s x : Operand)
    (ho : o.op = .call { callee := .builtin .append, args := #[s, x], argTypes := #[48, 48] })
    (base n m : Nat) (v : Value) (l : List Value) (hv : a.eval s = v) (hown : w.ownsRow base 100 282 v n l) (g p c : Nat) (h : List Value) (hx : a.eval x = .slice (some ⟨g, p, none⟩) m c) (hr : w.rangeAt g p h) (hl : h.length = m * 282) (h1 : ∀ u ∈ h, u.oneCell' = true)
    (hn : n + m ≤ 65536) (hbase : base ≤ w.heap.size)
    (hK : ∀ A' c' w', w'.ownsRow base 100 282 (.slice A' (n + m) c') (n + m) (l ++ h) → w.grownBy w' v.ownBlock → K (a.put o.dst (.slice A' (n + m) c')) w') : if Region.wanted o (yielded ops a.tmps) = true then Oper.wp Try.prog o a w K Q else E := by
  have hw : Region.wanted o (yielded ops a.tmps) = true := by simp [Region.wanted, hgd]
  rw [if_pos hw]
  obtain ⟨A', c', w', hr2, hown', hg⟩ := run_appS o.type base n m v l hown g p c h hr hl h1 hn hbase
  unfold Oper.wp execOp
  simp only [ho, resolve, invoke, builtin, Sem.run_bind, Sem.run_pure, Result.andThen_ok, List.map_toArray, List.map_cons, List.map_nil, hv, hx, hr2]
  exact hK A' c' w' hown' hg
/- a row as others read it -/
def SRow (w : World) (A : Option Addr) (xs : List Sgd) : Prop := (∀ x ∈ xs, x.sig.length = 280) ∧ (xs = [] ∨ ∃ b o, A = some ⟨b, o, none⟩ ∧ ∀ j, j < xs.length → w.rangeAt b (o + j * 282) (eS (xs.getD j sgd0)))
theorem SRow.keep {w W : World} {A : Option Addr} {xs : List Sgd} (h : SRow w A xs) (hb : ∀ q, q < w.heap.size → W.heap[q]? = w.heap[q]?) : SRow W A xs := by
  refine ⟨h.1, ?_⟩
  rcases h.2 with h2 | ⟨b, o, e, h2⟩
  · exact .inl h2
  · by_cases hx : xs = []
    · exact .inl hx
    · refine .inr ⟨b, o, e, fun j hj i v hv => ?_⟩
      have h3 := h2 j hj i v hv
      have hlt := World.block_lt_of_cell? w ⟨b, o + j * 282 + i, none⟩ h3
      rw [← h3]
      simp only [World.cell?, hb b hlt]
theorem flat_eS : ∀ (xs : List Sgd), (∀ x ∈ xs, x.sig.length = 280) → ∀ j i, j < xs.length → i < 282 → (xs.flatMap eS)[j * 282 + i]? = (eS (xs.getD j sgd0))[i]?
  | [], _, j, _, h, _ => by cases h
  | x :: xs, h, 0, i, _, hi => by
    have hx := eS_len (h x (List.mem_cons_self ..))
    rw [List.flatMap_cons, List.getElem?_append_left (by omega)]
    simp
  | x :: xs, h, j + 1, i, hj, hi => by
    have hx := eS_len (h x (List.mem_cons_self ..))
    have ih := flat_eS xs (fun y hy => h y (List.mem_cons_of_mem _ hy)) j i (by simpa using hj) hi
    rw [List.flatMap_cons, List.getElem?_append_right (by omega), hx, show (j + 1) * 282 + i - 282 = j * 282 + i by omega, ih]
    simp
theorem flat_eS_len : ∀ (xs : List Sgd), (∀ x ∈ xs, x.sig.length = 280) → (xs.flatMap eS).length = xs.length * 282
  | [], _ => rfl
  | x :: xs, h => by
    rw [List.flatMap_cons, List.length_append, eS_len (h x (List.mem_cons_self ..)), flat_eS_len xs fun y hy => h y (List.mem_cons_of_mem _ hy), List.length_cons]
    omega
theorem own_srow {w : World} {base n c : Nat} {A : Option Addr} {xs : List Sgd} (h : w.ownsRow base 100 282 (.slice A n c) n (xs.flatMap eS)) (h8 : ∀ x ∈ xs, x.sig.length = 280) (hn : xs.length = n) : SRow w A xs ∧ n ≤ c ∧ c ≤ maxLen := by
  have hx := h.2
  rcases hx with ⟨e, h0⟩ | ⟨g, c', cur, e, _, _, h1, h2, _⟩
  · injection e with e1 e2 e3
    subst e1 e2 e3
    exact ⟨⟨h8, .inl (List.eq_nil_of_length_eq_zero hn)⟩, Nat.le_refl _, by unfold maxLen; omega⟩
  · injection e with e1 e2 e3
    subst e1 e3
    refine ⟨⟨h8, .inr ⟨g, 0, rfl, fun j hj i v hv => ?_⟩⟩, h1, h2⟩
    have hi : i < 282 := by
      have := (List.getElem?_eq_some_iff.1 hv).1
      rwa [eS_len (h8 _ (by rw [List.getD_eq_getElem?_getD, List.getElem?_eq_getElem hj]; exact List.getElem_mem hj))] at this
    rw [Nat.zero_add, h.cellAt (j * 282 + i) (by omega), flat_eS xs h8 j i hj hi]
    exact hv
end Go.Proofs.Ytmcmdpbdipgahaa
