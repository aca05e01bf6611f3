/-
  Blocks, ranges, rows of any kind.
-/
import Derived.Test.YtmcmdpbdipgahaaHC
import Derived.Great.BuildSlice
import Derived.Deep.MidRow
import Derived.Deep.WholeRow
import Derived.Deep.Upon
import Derived.Laws.Tables
import Derived.Deep.QuietTactic
import Derived.BigQuiet
import Derived.OwnWalk
namespace Go.Proofs.Ytmcmdpbdipgahaa
open Go.RowKit
set_option maxRecDepth 100000
theorem heap_set1 {b i : Nat} (x : Value) (w : World) (k : Nat) (h : k ≠ b) : (w.setCell ⟨b, i, none⟩ x).heap[k]? = w.heap[k]? := heap_setCell_other w ⟨b, i, none⟩ k x h
theorem range_keep {w W : World} {b o : Nat} {cs : List Value} (h : w.rangeAt b o cs) (hb : ∀ q, q < w.heap.size → W.heap[q]? = w.heap[q]?) : W.rangeAt b o cs := by
  intro i v hv
  have h3 := h i v hv
  have hlt := World.block_lt_of_cell? w ⟨b, o + i, none⟩ h3
  rw [← h3]
  simp only [World.cell?, hb b hlt]
theorem range_keep1 {w W : World} {b o : Nat} {cs : List Value} (h : w.rangeAt b o cs) (hb : W.heap[b]? = w.heap[b]?) : W.rangeAt b o cs := by
  intro i v hv
  have h3 := h i v hv
  rw [← h3]
  simp only [World.cell?, hb]
theorem range_app {w : World} {b o : Nat} {xs ys : List Value} (h : w.rangeAt b o (xs ++ ys)) : w.rangeAt b o xs ∧ w.rangeAt b (o + xs.length) ys := by
  constructor
  · intro i v hv
    have hi := (List.getElem?_eq_some_iff.1 hv).1
    exact h i v (by rw [List.getElem?_append_left hi]; exact hv)
  · intro i v hv
    rw [Nat.add_assoc]
    exact h (xs.length + i) v (by rw [List.getElem?_append_right (by omega), Nat.add_sub_cancel_left]; exact hv)
theorem range_join {w : World} {b o : Nat} {xs ys : List Value} (h : w.rangeAt b o xs) (g : w.rangeAt b (o + xs.length) ys) : w.rangeAt b o (xs ++ ys) := by
  intro i v hv
  by_cases hi : i < xs.length
  · rw [List.getElem?_append_left hi] at hv
    exact h i v hv
  · rw [List.getElem?_append_right (by omega)] at hv
    have := g (i - xs.length) v hv
    rwa [Nat.add_assoc, show xs.length + (i - xs.length) = i by omega] at this
theorem range_cell {w : World} {b o : Nat} {cs : List Value} (h : w.rangeAt b o cs) {i : Nat} {v : Value} (hv : cs[i]? = some v) : w.cell? ⟨b, o + i, none⟩ = some v := h i v hv
theorem range_of {w : World} {b : Nat} {cs : List Value} {t : TypeId} (h : w.heap[b]? = some (.cells cs.toArray t (0, 0))) : w.rangeAt b 0 cs := fun j u hj => by
  rw [Nat.zero_add, cell_of_row w b j _ t (0, 0) h, ← hj]
  simp
theorem range_new (w : World) (cs : List Value) (t : TypeId) : (w.alloc (.cells cs.toArray t)).rangeAt w.heap.size 0 cs := range_of (heap_alloc_last w _)
theorem wpList_load_midG {P : Program} {ops : Array Oper} {rest : List Oper} {op : Oper} {a : Act} {w : World} {Q : Exit → Act → World → Prop} (hw : Region.wanted op (yielded ops a.tmps) = true) (ty : TypeId) (x : Operand) (ho : op.op = .load ty x)
    (b o : Nat) (hx : a.eval x = .pointer (some ⟨b, o, none⟩)) (cs : List Value) (d : TypeDesc) (hc : w.rangeAt b o cs)
    (hu : P.underlying ty = some d) (hd : d.isRow = true) (hi : (P.info? ty).map (·.size) = some cs.length)
    (h : wpList P ops Q rest (a.put op.dst (.agg cs.toArray)) w) : wpList P ops Q (op :: rest) a w := by
  unfold wpList
  rw [if_pos hw]
  exact .inl (wp_load_mid ty x ho b o hx cs d hc hu hd hi h)
theorem szL {t n : Nat} {cs : List Value} (h : (Try.prog.info? t).map (·.size) = some n) (hl : cs.length = n) : (Try.prog.info? t).map (·.size) = some cs.length := by rw [hl]; exact h
theorem szA {t n : Nat} {cs : List Value} (h : (Try.prog.info? t).map (·.size) = some n) (hl : cs.length = n) : (Try.prog.info? t).map (·.size) = some cs.toArray.size := by rw [List.size_toArray, hl]; exact h
def BL (w : World) (b : Nat) (cs : List Value) (T : TypeId) : Prop := w.heap[b]? = some (.cells cs.toArray T (0, 0))
theorem bl_lt {w : World} {b : Nat} {cs : List Value} {T : TypeId} (h : BL w b cs T) : b < w.heap.size := lt_of_block h
theorem bl_set {w : World} {b : Nat} {cs : List Value} {T : TypeId} (h : BL w b cs T) (i : Nat) (v : Value) : BL (w.setCell ⟨b, i, none⟩ v) b (cs.set i v) T := by
  unfold BL at *
  rw [heap_setCell_same w b i _ T v h, List.setIfInBounds_toArray]
theorem bl_sets {b : Nat} {T : TypeId} : ∀ (vs : List Value) {w : World} {cs : List Value} (o : Nat), BL w b cs T → o + vs.length ≤ cs.length → BL (w.setCells b o vs) b (cs.take o ++ (vs ++ cs.drop (o + vs.length))) T
  | [], w, cs, o, h, _ => by
    rw [List.length_nil, Nat.add_zero, List.nil_append, List.take_append_drop]
    exact h
  | v :: vs, w, cs, o, h, hl => by
    rw [List.length_cons] at hl
    have h1 := bl_sets vs (o + 1) (bl_set h o v) (by rw [List.length_set]; omega)
    have e : (cs.set o v).take (o + 1) ++ (vs ++ (cs.set o v).drop (o + 1 + vs.length)) = cs.take o ++ (v :: vs ++ cs.drop (o + (v :: vs).length)) := by
      rw [List.drop_set_of_lt (by omega), List.length_cons, show o + (vs.length + 1) = o + 1 + vs.length by omega]
      rw [List.take_set, List.set_eq_take_append_cons_drop]
      rw [if_pos (by rw [List.length_take]; omega), List.take_take, Nat.min_eq_left (by omega), List.drop_of_length_le (by rw [List.length_take]; omega)]
      simp
    rw [e] at h1
    exact h1
theorem bl_there {w : World} {b : Nat} {cs : List Value} {T : TypeId} (h : BL w b cs T) {o n : Nat} (hl : o + n ≤ cs.length) : w.there b o n := fun j hj => by
  refine ⟨?_, free_of h _⟩
  rw [cell_of_row w b (o + j) _ T (0, 0) h]
  simp [show o + j < cs.length by omega]
theorem bl_free {w : World} {b : Nat} {cs : List Value} {T : TypeId} (h : BL w b cs T) (i : Nat) : w.frozen? ⟨b, i, none⟩ = false := free_of h i
theorem bl_keep {w W : World} {b : Nat} {cs : List Value} {T : TypeId} (h : BL w b cs T) (hb : W.heap[b]? = w.heap[b]?) : BL W b cs T := hb.trans h
theorem wpList_bld {ops : Array Oper} {rest : List Oper} {o : Oper} {a : Act} {w : World} {Q : Exit → Act → World → Prop} (hw : Region.wanted o (yielded ops a.tmps) = true) (T : TypeId) (v : Value) (ho : o.op = .build T #[]) (hr : ∀ w, (Instr.build T #[]).run Try.prog w = .ok v w)
    (hK : wpList Try.prog ops Q rest (a.put o.dst v) w) : wpList Try.prog ops Q (o :: rest) a w := by
  unfold wpList
  rw [if_pos hw]
  refine .inl ?_
  unfold Oper.wp execOp
  simp only [ho, List.map_toArray, List.map_nil, Sem.run_bind, hr, Result.andThen_ok]
  exact hK
theorem own_sl {w : World} {base n : Nat} {t : TypeId} {sz : Nat} {v : Value} {xs : List Value} (h : w.ownsRow base t sz v n xs) : ∃ A c, v = .slice A n c := by
  rcases h.2 with ⟨e, e2⟩ | ⟨g, c, cur, e1, _⟩
  · exact ⟨none, 0, by rw [e, e2]⟩
  · exact ⟨_, c, e1⟩
theorem own_blk {w : World} {base n : Nat} {t : TypeId} {sz : Nat} {v : Value} {xs : List Value} (h : w.ownsRow base t sz v n xs) {g : Nat} (hg : v.ownBlock = some g) : base ≤ g ∧ g < w.heap.size := by
  rcases h.2 with ⟨e, e2⟩ | ⟨g', c, cur, e1, h2, h3, _⟩
  · rw [e] at hg; cases hg
  · rw [e1] at hg
    cases hg
    exact ⟨h2, lt_of_block h3⟩
/-- all that is in no block of P stays -/
structure Fr (w w' : World) (P : Nat → Prop) : Prop where
  os : w'.os = w.os
  tape : w'.tape = w.tape
  output : w'.output = w.output
  size : w.heap.size ≤ w'.heap.size
  block : ∀ q, q < w.heap.size → ¬ P q → w'.heap[q]? = w.heap[q]?
theorem Fr.refl (w : World) (P : Nat → Prop) : Fr w w P := ⟨rfl, rfl, rfl, Nat.le_refl _, fun _ _ _ => rfl⟩
theorem Fr.of_below {w w' : World} {P : Nat → Prop} (h : Below w.heap.size w w') : Fr w w' P := ⟨h.os, h.tape, h.output, h.size, fun q hq _ => h.block q hq⟩
theorem Fr.trans {w w' w'' : World} {P P' : Nat → Prop} (h : Fr w w' P) (g : Fr w' w'' P') (hp : ∀ q, P' q → P q ∨ w.heap.size ≤ q) : Fr w w'' P :=
  ⟨g.os.trans h.os, g.tape.trans h.tape, g.output.trans h.output, Nat.le_trans h.size g.size, fun q hq hn => (g.block q (Nat.lt_of_lt_of_le hq h.size) fun e => (hp q e).elim hn fun h2 => by omega).trans (h.block q hq hn)⟩
theorem Fr.mono {w w' : World} {P P' : Nat → Prop} (h : Fr w w' P) (hp : ∀ q, P q → P' q) : Fr w w' P' := ⟨h.os, h.tape, h.output, h.size, fun q hq hn => h.block q hq fun e => hn (hp q e)⟩
theorem Fr.below {w w' : World} {P : Nat → Prop} {B : Nat} (h : Fr w w' P) (hB : B ≤ w.heap.size) (hp : ∀ q, P q → B ≤ q) : Below B w w' := ⟨h.os, h.tape, h.output, h.size, fun q hq => h.block q (by omega) fun e => by have := hp q e; omega⟩
theorem turned_fr {w w' : World} {b : Nat} (h : w.mapTurned w' b) : w'.os = w.os ∧ w'.tape = w.tape ∧ w'.output = w.output ∧ w'.heap.size = w.heap.size ∧ ∀ q, q ≠ b → w'.heap[q]? = w.heap[q]? := by
  obtain ⟨es, k, es', k', hb, rfl⟩ := h
  refine ⟨rfl, rfl, rfl, by simp [ChangeMaps.setBlock], fun q hq => ?_⟩
  simp [ChangeMaps.setBlock, Ne.symm hq]
theorem foldSet {α : Type} : ∀ (ys : List α) (o k : Nat) (L M R : List α), L.length = o + k → M.length = ys.length → ((ys.zipIdx k).foldl (fun (cs : Array α) (p : α × Nat) => cs.setIfInBounds (o + p.2) p.1) (L ++ M ++ R).toArray).toList = L ++ ys ++ R
  | [], _, _, L, M, R, _, h => by
    have : M = [] := List.eq_nil_of_length_eq_zero h
    subst this
    rfl
  | y :: ys, o, k, L, m :: M, R, hL, h => by
    have ih := foldSet ys o (k + 1) (L ++ [y]) M R (by simp; omega) (by simpa using h)
    have e : ((L ++ m :: M ++ R).toArray.setIfInBounds (o + k) y) = (L ++ [y] ++ M ++ R).toArray := by
      rw [← hL]
      simp
    rw [List.zipIdx_cons, List.foldl_cons, e, ih]
    simp
theorem foldArr {α : Type} (ys : Array α) (L M R : List α) (o : Nat) (A : Array α) (hA : A.toList = L ++ M ++ R) (hL : L.length = o) (hM : M.length = ys.size) : (ys.zipIdx).foldl (fun (cs : Array α) (p : α × Nat) => cs.setIfInBounds (o + p.2) p.1) A = (L ++ ys.toList ++ R).toArray := by
  have := foldSet ys.toList o 0 L M R (by omega) (by simpa using hM)
  rw [← hA] at this
  rw [← Array.foldl_toList, Array.toList_zipIdx]
  exact Array.ext' (by simpa using this)
theorem fill_part {f : Nat → Option (Nat × Nat)} {A : Array Value} {L M R ys : List Value} {v : Value} {i o n : Nat} {rest : List (Nat × Value)} (hf : f i = some (o, n)) (hA : A.toList = L ++ M ++ R) (hL : L.length = o) (hM : M.length = n) (hv : v.cells.toList = ys) (hy : ys.length = n) :
    Instr.fill f A ((i, v) :: rest) = Instr.fill f (L ++ ys ++ R).toArray rest := by
  have hs : v.cells.size = n := by rw [← hy, ← hv, Array.length_toList]
  have hz : A.size = o + n + R.length := by rw [← Array.length_toList, hA]; simp; omega
  have g : ¬ (v.cells.size ≠ n || decide (o + v.cells.size > A.size)) = true := by rw [hs, hz]; simp
  have e := foldArr v.cells L M R o A hA hL (by rw [hM, hs])
  rw [hv] at e
  conv => lhs; unfold Instr.fill
  simp only [hf]
  rw [if_neg g, e]
theorem fill_nil {f : Nat → Option (Nat × Nat)} {A : Array Value} : Instr.fill f A [] = some A := by unfold Instr.fill; rfl
theorem run_bs1 {t e n b : Nat} {z : Value} {cs : List Value} (hu : Try.prog.underlying t = some (.slice e)) (hi : (Try.prog.info? e).map (fun i => (i.zero, i.size, i.bytes)) = some (some z, n, b)) (hl : cs.length = n) (h0 : 0 < n) (hm : n ≤ 1000) (w : World) :
    (Instr.buildSlice t 1 #[(0, .agg cs.toArray)]).run Try.prog w = .ok (.slice (some ⟨w.heap.size, 0, none⟩) 1 1) (w.alloc (.cells cs.toArray e)) := by
  obtain ⟨i0, h1, h2, h3, _⟩ := info_parts hi
  refine run_buildSlice w t e 1 _ cs.toArray i0 z hu h1 h2 (by rw [h3]; omega) (by rw [h3]; omega) ?_
  rw [h3]
  have := fill_part (f := fun i => some (i * n, n)) (A := (Array.range (1 * n)).map fun x => z.cells[x % z.cells.size]!) (L := []) (M := ((Array.range (1 * n)).map fun x => z.cells[x % z.cells.size]!).toList) (R := []) (ys := cs) (v := .agg cs.toArray) (i := 0) (o := 0) (n := n) (rest := []) (by simp) (by simp) rfl (by simp) (by simp [Value.cells]) hl
  refine this.trans ?_
  rw [fill_nil]
  simp
theorem wpList_bs1 {ops : Array Oper} {rest : List Oper} {o : Oper} {a : Act} {w : World} {Q : Exit → Act → World → Prop} (hw : Region.wanted o (yielded ops a.tmps) = true) {t e n b : Nat} {z : Value} (x : Operand) (cs : List Value) (ho : o.op = .buildSlice t 1 #[(0, x)]) (hx : a.eval x = .agg cs.toArray)
    (hu : Try.prog.underlying t = some (.slice e)) (hi : (Try.prog.info? e).map (fun i => (i.zero, i.size, i.bytes)) = some (some z, n, b)) (hl : cs.length = n) (h0 : 0 < n) (hm : n ≤ 1000)
    (hK : wpList Try.prog ops Q rest (a.put o.dst (.slice (some ⟨w.heap.size, 0, none⟩) 1 1)) (w.alloc (.cells cs.toArray e))) : wpList Try.prog ops Q (o :: rest) a w := by
  unfold wpList
  rw [if_pos hw]
  refine .inl ?_
  unfold Oper.wp execOp
  simp only [ho, List.map_toArray, List.map_cons, List.map_nil, hx, Sem.run_bind, run_bs1 hu hi hl h0 hm, Result.andThen_ok, Sem.run_pure]
  exact hK
theorem meas_up {k n : Nat} {z : Int} (h : z = ((k + 1 : Nat) : Int)) (hk : k < n) : n - (intOf (.int .i64 z)).toNat < n - (intOf (.int .i64 (k : Int))).toNat := by
  subst h
  show n - ((k + 1 : Nat) : Int).toNat < n - ((k : Nat) : Int).toNat
  rw [Int.toNat_natCast, Int.toNat_natCast]
  omega
theorem cell_lt {w : World} {b i : Nat} {v : Value} (h : w.cell? ⟨b, i, none⟩ = some v) : b < w.heap.size := by
  rcases Nat.lt_or_ge b w.heap.size with g | g
  · exact g
  · simp [World.cell?, Array.getElem?_eq_none g] at h
/-- m elements, ys, where A points -/
def SrcG (w : World) (sz : Nat) (A : Option Addr) (m : Nat) (ys : List Value) : Prop := ys.length = m * sz ∧ (∀ u ∈ ys, u.oneCell' = true) ∧ (m = 0 ∨ ∃ b o, A = some ⟨b, o, none⟩ ∧ b < w.heap.size ∧ w.rangeAt b o ys)
theorem SrcG.keep {w w' : World} {sz m : Nat} {A : Option Addr} {ys : List Value} (h : SrcG w sz A m ys) (hb : Below w.heap.size w w') : SrcG w' sz A m ys := by
  obtain ⟨h1, h2, h3⟩ := h
  refine ⟨h1, h2, h3.imp id ?_⟩
  rintro ⟨b, o, e, hl, hr⟩
  exact ⟨b, o, e, Nat.lt_of_lt_of_le hl hb.size, range_keep1 hr (hb.block b hl)⟩
theorem rng_take {w : World} {b o k : Nat} {xs : List Value} (h : w.rangeAt b o xs) : w.rangeAt b o (xs.take k) := (range_app (xs := xs.take k) (ys := xs.drop k) (by rw [List.take_append_drop]; exact h)).1
theorem rng_drop {w : World} {b o k : Nat} {xs : List Value} (h : w.rangeAt b o xs) (hk : k ≤ xs.length) : w.rangeAt b (o + k) (xs.drop k) := by
  have := (range_app (xs := xs.take k) (ys := xs.drop k) (by rw [List.take_append_drop]; exact h)).2
  rwa [List.length_take, Nat.min_eq_left hk] at this
theorem ownG_rng {w : World} {base n sz c g : Nat} {t : TypeId} {xs : List Value} (h : w.ownsRow base t sz (.slice (some ⟨g, 0, none⟩) n c) n xs) : g < w.heap.size ∧ n ≤ c ∧ w.rangeAt g 0 xs := by
  rcases h.2 with ⟨e, _⟩ | ⟨g', c', cur, e, _, h3, h4, _, _, h6⟩
  · cases e
  · injection e with e1 e2 e3
    cases e1
    subst e3
    refine ⟨lt_of_block h3, h4, ?_⟩
    have r1 : w.rangeAt g 0 cur.toList := range_of (t := t) (by rw [Array.toArray_toList]; exact h3)
    rw [← h6]
    exact rng_take r1
theorem ownG_nil {w : World} {base n sz c : Nat} {t : TypeId} {xs : List Value} (h : w.ownsRow base t sz (.slice none n c) n xs) : n = 0 ∧ c = 0 := by
  rcases h.2 with ⟨e, e2⟩ | ⟨g', c', cur, e, _⟩
  · injection e with e1 e3 e4
    exact ⟨e2, e4⟩
  · cases e
theorem own_addr {w : World} {base n sz c : Nat} {t : TypeId} {xs : List Value} {A : Option Addr} (h : w.ownsRow base t sz (.slice A n c) n xs) : (A = none ∧ n = 0 ∧ c = 0) ∨ ∃ g, A = some ⟨g, 0, none⟩ := by
  cases A with
  | none => exact .inl ⟨rfl, ownG_nil h⟩
  | some a =>
    rcases h.2 with ⟨e, _⟩ | ⟨g', c', cur, e, _⟩
    · cases e
    · injection e with e1
      exact .inr ⟨g', e1⟩
theorem ownG_base {w : World} {base n e k : Nat} {v : Value} {xs : List Value} (h : w.ownsRow base e k v n xs) : ∀ q, v.ownBlock = some q → base ≤ q := fun _ hq => (own_blk h hq).1
/-- append of many to a row of one's own -/
theorem run_appG {sl t : TypeId} {z : Value} {sz by' : Nat} (hu : Try.prog.underlying sl = some (.slice t)) (hi : (Try.prog.info? t).map (fun i => (i.zero, i.size, i.bytes)) = some (some z, sz, by')) (hz : z.cells.size = sz) (h0 : 0 < sz) (hb : by' ≤ 1000) {W : World} {base n m c : Nat} {v : Value} {xs ys : List Value} {B : Option Addr} (h : W.ownsRow base t sz v n xs) (hs : SrcG W sz B m ys) (hn : n ≤ 100000) (hm : m ≤ 100000) (hbase : base ≤ W.heap.size) (ty : TypeId) :
    ∃ A c' w', (Builtin.append_ #[sl, sl] ty #[v, .slice B m c]).run Try.prog W = .ok (.slice A (n + m) c') w' ∧ w'.ownsRow base t sz (.slice A (n + m) c') (n + m) (xs ++ ys) ∧ Below base W w' := by
  obtain ⟨i, i1, i2, i3, i4⟩ := info_parts hi
  obtain ⟨s1, s2, s3⟩ := hs
  have hby : (n + m) * by' ≤ 140737488355328 := Nat.le_trans (Nat.mul_le_mul (show n + m ≤ 200000 by omega) hb) (by decide)
  have fin : ∀ {v' : Value} {w' : World}, w'.ownsRow base t sz v' (n + m) (xs ++ ys) → W.grownBy w' v.ownBlock → Below base W w' := fun ho hg => ⟨hg.os, hg.tape, hg.output, hg.size, fun q hq => hg.block q (by omega) fun e => by have := ownG_base h q e.symm; omega⟩
  by_cases hm0 : m = 0
  · subst hm0
    obtain rfl : ys = [] := List.length_eq_zero_iff.1 (by omega)
    cases B with
    | some ad =>
      obtain ⟨v', w', r1, r2, r3, _, _⟩ := run_append_own_at W base sl ty t i z sz by' hu i1 i2 i3 i4 hz h0 v n xs h ad 0 c [] (by omega) (fun j u hj => by cases hj) (fun u hu => by cases hu) (by unfold maxLen; omega) hby hbase
      obtain ⟨A, c', rfl⟩ := own_sl r2
      exact ⟨A, c', w', r1, r2, fin r2 r3⟩
    | none =>
      obtain ⟨A, c', rfl⟩ := own_sl h
      have hle : n ≤ c' := by
        rcases own_addr h with ⟨_, e1, e2⟩ | ⟨g, rfl⟩
        · omega
        · exact (ownG_rng h).2.1
      refine ⟨A, c', W, ?_, by rw [List.append_nil, Nat.add_zero]; exact h, Below.refl _ _⟩
      refine run_append_nothing W sl sl ty t i hu i1 A n c' hle _ ⟨.inl ⟨t, hu⟩, fun w' => ?_, ?_, ?_, ?_, fun u hu => by cases hu⟩
      · simp [Builtin.lenOf]
      · simp [Builtin.firstCells]
      · simp [Builtin.firstCells]
      · simp
  · rcases s3 with h3 | ⟨b, o, rfl, hl, hr⟩
    · exact absurd h3 hm0
    · obtain ⟨v', w', r1, r2, r3, _, _⟩ := run_append_own_at W base sl ty t i z sz by' hu i1 i2 i3 i4 hz h0 v n xs h ⟨b, o, none⟩ m c ys s1 (fun j u hj => by rw [Addr.add_mid]; exact hr j u hj) s2 (by unfold maxLen; omega) hby hbase
      obtain ⟨A, c', rfl⟩ := own_sl r2
      exact ⟨A, c', w', r1, r2, fin r2 r3⟩
theorem step_appG {sl t : TypeId} {z : Value} {sz by' : Nat} (hu : Try.prog.underlying sl = some (.slice t)) (hi : (Try.prog.info? t).map (fun i => (i.zero, i.size, i.bytes)) = some (some z, sz, by')) (hz : z.cells.size = sz) (h0 : 0 < sz) (hb : by' ≤ 1000) {w : World} {ops : Array Oper} {o : Oper} {a : Act} {K : Act → World → Prop} {Q : Exit → Act → World → Prop} {E : Prop} (hgd : o.guard = none) (s y : Operand)
    (ho : o.op = .call { callee := .builtin .append, args := #[s, y], argTypes := #[sl, sl] }) (base n m c : Nat) (v : Value) (xs ys : List Value) (B : Option Addr) (hv : a.eval s = v) (hx : a.eval y = .slice B m c) (hown : w.ownsRow base t sz v n xs) (hs : SrcG w sz B m ys) (hn : n ≤ 100000) (hm : m ≤ 100000) (hbase : base ≤ w.heap.size)
    (h : ∀ A c' w', w'.ownsRow base t sz (.slice A (n + m) c') (n + m) (xs ++ ys) → Below base w w' → K (a.put o.dst (.slice A (n + m) c')) w') : if Region.wanted o (yielded ops a.tmps) = true then Oper.wp Try.prog o a w K Q else E := by
  have hw : Region.wanted o (yielded ops a.tmps) = true := by simp [Region.wanted, hgd]
  rw [if_pos hw]
  obtain ⟨A, c', w', hr, h1, h2⟩ := run_appG (c := c) hu hi hz h0 hb hown hs hn hm hbase o.type
  unfold Oper.wp execOp
  simp only [ho, resolve, invoke, builtin, Sem.run_bind, Sem.run_pure, Result.andThen_ok, List.map_toArray, List.map_cons, List.map_nil, hv, hx, hr]
  exact h A c' w' h1 h2
section
variable {P : Program} {ops : Array Oper} {C : World → Prop}
theorem wp_region_class {id : Nat} {Q : Exit → Act → World → Prop} {a : Act} {w : World} {l : List Oper} (hm : P.follows .mixedOrders = true) (hB : Region.lexB .any l.toArray = true) (hC : C { w with drawn := w.drawn + 1 })
    (h : wpQuiet P l.toArray C (fun a' => ∀ w', C w' → Q .normal a' w') l a) : (Code.region id l.toArray true).wp P Q a w :=
  wp_region_quiet (C := C) hm hB hC (by simpa using h)
theorem quiet_val {o : Oper} {a : Act} {K : Act → Prop} {E : Prop} (hw : Region.wanted o (yielded ops a.tmps) = true) {v : Value} (h : ∀ w, C w → (execOp a.eval o).run P w = .ok (.value v) w) (hK : K (a.put o.dst v)) : if Region.wanted o (yielded ops a.tmps) then o.quiet P a C K else E := by
  rw [if_pos hw]
  refine ⟨v, fun w hC => ?_, hK⟩
  unfold Oper.quietAt
  rw [h w hC]
  exact ⟨rfl, rfl⟩
theorem quiet_load {o : Oper} {a : Act} {K : Act → Prop} {E : Prop} (hw : Region.wanted o (yielded ops a.tmps) = true) (ty : TypeId) (x : Operand) (ho : o.op = .load ty x)
    (b f : Nat) (hx : a.eval x = .pointer (some ⟨b, f, none⟩)) (cs : List Value) (d : TypeDesc) (hS : ∀ w, C w → w.rangeAt b f cs)
    (hu : P.underlying ty = some d) (hd : d.isRow = true) (hi : (P.info? ty).map (·.size) = some cs.length) (hK : K (a.put o.dst (.agg cs.toArray))) : if Region.wanted o (yielded ops a.tmps) then o.quiet P a C K else E :=
  quiet_val hw (fun w hw' => by
    unfold execOp
    simp only [ho, hx, Instr.loadAt, Instr.sureAddr, Sem.run_bind, Sem.run_pure, Result.andThen_ok, run_loadVar_mid w b f ty cs d (hS w hw') hu hd hi]) hK
theorem quiet_call {o : Oper} {a : Act} {K : Act → Prop} {E : Prop} (hw : Region.wanted o (yielded ops a.tmps) = true) {v : Value} (f : FuncId) (args : Array Value) (h : ∀ w, C w → (execOp a.eval o).run P w = .ok (.enter f args) w) (hc : ∀ w, C w → Calls P f args w fun e w' => e = .returned v ∧ C w') (hK : K (a.put o.dst v)) : if Region.wanted o (yielded ops a.tmps) then o.quiet P a C K else E := by
  rw [if_pos hw]
  refine ⟨v, fun w hC => ?_, hK⟩
  unfold Oper.quietAt
  rw [h w hC]
  exact ⟨rfl, hc w hC⟩
end
end Go.Proofs.Ytmcmdpbdipgahaa
