/-
  Joined: RM, R0, R1, R2, R3.
-/
import Derived.Test.YtmcmdpbdipgahaaHC
import Derived.Great.BuildSlice
import Derived.Deep.MidRow
import Derived.Deep.WholeRow
import Derived.Deep.Upon
import Derived.Laws.Tables
import Derived.Deep.QuietTactic
import Derived.BigQuiet
import Derived.OwnWalk
import Derived.Maps.OwnSet
import Derived.Maps.Views
import Derived.Maps.AppendAt
import Derived.Maps.RangeWalk
/-
  Blocks, ranges, rows of any kind.
-/
namespace Go.Proofs.Ytmcmdpbdipgahaa
open Go.RowKit
set_option maxRecDepth 100000
theorem heap_set1 {b i : Nat} (x : Value) (w : World) (k : Nat) (h : k ≠ b) : (w.setCell ⟨b, i, none⟩ x).heap[k]? = w.heap[k]? := heap_setCell_other w ⟨b, i, none⟩ k x h
theorem range_keep {w W : World} {b o : Nat} {cs : List Value} (h : w.rangeAt b o cs) (hb : ∀ q, q < w.heap.size → W.heap[q]? = w.heap[q]?) : W.rangeAt b o cs := by
  intro i v hv
  have h3 := h i v hv
  have hlt := World.block_lt_of_cell? w ⟨b, o + i, none⟩ h3
  rw [← h3]
  simp only [World.cell?, hb b hlt]
theorem range_keep1 {w W : World} {b o : Nat} {cs : List Value} (h : w.rangeAt b o cs) (hb : W.heap[b]? = w.heap[b]?) : W.rangeAt b o cs := by
  intro i v hv
  have h3 := h i v hv
  rw [← h3]
  simp only [World.cell?, hb]
theorem range_app {w : World} {b o : Nat} {xs ys : List Value} (h : w.rangeAt b o (xs ++ ys)) : w.rangeAt b o xs ∧ w.rangeAt b (o + xs.length) ys := by
  constructor
  · intro i v hv
    have hi := (List.getElem?_eq_some_iff.1 hv).1
    exact h i v (by rw [List.getElem?_append_left hi]; exact hv)
  · intro i v hv
    rw [Nat.add_assoc]
    exact h (xs.length + i) v (by rw [List.getElem?_append_right (by omega), Nat.add_sub_cancel_left]; exact hv)
theorem range_join {w : World} {b o : Nat} {xs ys : List Value} (h : w.rangeAt b o xs) (g : w.rangeAt b (o + xs.length) ys) : w.rangeAt b o (xs ++ ys) := by
  intro i v hv
  by_cases hi : i < xs.length
  · rw [List.getElem?_append_left hi] at hv
    exact h i v hv
  · rw [List.getElem?_append_right (by omega)] at hv
    have := g (i - xs.length) v hv
    rwa [Nat.add_assoc, show xs.length + (i - xs.length) = i by omega] at this
theorem range_cell {w : World} {b o : Nat} {cs : List Value} (h : w.rangeAt b o cs) {i : Nat} {v : Value} (hv : cs[i]? = some v) : w.cell? ⟨b, o + i, none⟩ = some v := h i v hv
theorem range_of {w : World} {b : Nat} {cs : List Value} {t : TypeId} (h : w.heap[b]? = some (.cells cs.toArray t (0, 0))) : w.rangeAt b 0 cs := fun j u hj => by
  rw [Nat.zero_add, cell_of_row w b j _ t (0, 0) h, ← hj]
  simp
theorem range_new (w : World) (cs : List Value) (t : TypeId) : (w.alloc (.cells cs.toArray t)).rangeAt w.heap.size 0 cs := range_of (heap_alloc_last w _)
theorem wpList_load_midG {P : Program} {ops : Array Oper} {rest : List Oper} {op : Oper} {a : Act} {w : World} {Q : Exit → Act → World → Prop} (hw : Region.wanted op (yielded ops a.tmps) = true) (ty : TypeId) (x : Operand) (ho : op.op = .load ty x)
    (b o : Nat) (hx : a.eval x = .pointer (some ⟨b, o, none⟩)) (cs : List Value) (d : TypeDesc) (hc : w.rangeAt b o cs)
    (hu : P.underlying ty = some d) (hd : d.isRow = true) (hi : (P.info? ty).map (·.size) = some cs.length)
    (h : wpList P ops Q rest (a.put op.dst (.agg cs.toArray)) w) : wpList P ops Q (op :: rest) a w := by
  unfold wpList
  rw [if_pos hw]
  exact .inl (wp_load_mid ty x ho b o hx cs d hc hu hd hi h)
theorem szL {t n : Nat} {cs : List Value} (h : (Try.prog.info? t).map (·.size) = some n) (hl : cs.length = n) : (Try.prog.info? t).map (·.size) = some cs.length := by rw [hl]; exact h
theorem szA {t n : Nat} {cs : List Value} (h : (Try.prog.info? t).map (·.size) = some n) (hl : cs.length = n) : (Try.prog.info? t).map (·.size) = some cs.toArray.size := by rw [List.size_toArray, hl]; exact h
def BL (w : World) (b : Nat) (cs : List Value) (T : TypeId) : Prop := w.heap[b]? = some (.cells cs.toArray T (0, 0))
theorem bl_lt {w : World} {b : Nat} {cs : List Value} {T : TypeId} (h : BL w b cs T) : b < w.heap.size := lt_of_block h
theorem bl_set {w : World} {b : Nat} {cs : List Value} {T : TypeId} (h : BL w b cs T) (i : Nat) (v : Value) : BL (w.setCell ⟨b, i, none⟩ v) b (cs.set i v) T := by
  unfold BL at *
  rw [heap_setCell_same w b i _ T v h, List.setIfInBounds_toArray]
theorem bl_sets {b : Nat} {T : TypeId} : ∀ (vs : List Value) {w : World} {cs : List Value} (o : Nat), BL w b cs T → o + vs.length ≤ cs.length → BL (w.setCells b o vs) b (cs.take o ++ (vs ++ cs.drop (o + vs.length))) T
  | [], w, cs, o, h, _ => by
    rw [List.length_nil, Nat.add_zero, List.nil_append, List.take_append_drop]
    exact h
  | v :: vs, w, cs, o, h, hl => by
    rw [List.length_cons] at hl
    have h1 := bl_sets vs (o + 1) (bl_set h o v) (by rw [List.length_set]; omega)
    have e : (cs.set o v).take (o + 1) ++ (vs ++ (cs.set o v).drop (o + 1 + vs.length)) = cs.take o ++ (v :: vs ++ cs.drop (o + (v :: vs).length)) := by
      rw [List.drop_set_of_lt (by omega), List.length_cons, show o + (vs.length + 1) = o + 1 + vs.length by omega]
      rw [List.take_set, List.set_eq_take_append_cons_drop]
      rw [if_pos (by rw [List.length_take]; omega), List.take_take, Nat.min_eq_left (by omega), List.drop_of_length_le (by rw [List.length_take]; omega)]
      simp
    rw [e] at h1
    exact h1
theorem bl_there {w : World} {b : Nat} {cs : List Value} {T : TypeId} (h : BL w b cs T) {o n : Nat} (hl : o + n ≤ cs.length) : w.there b o n := fun j hj => by
  refine ⟨?_, free_of h _⟩
  rw [cell_of_row w b (o + j) _ T (0, 0) h]
  simp [show o + j < cs.length by omega]
theorem bl_free {w : World} {b : Nat} {cs : List Value} {T : TypeId} (h : BL w b cs T) (i : Nat) : w.frozen? ⟨b, i, none⟩ = false := free_of h i
theorem bl_keep {w W : World} {b : Nat} {cs : List Value} {T : TypeId} (h : BL w b cs T) (hb : W.heap[b]? = w.heap[b]?) : BL W b cs T := hb.trans h
theorem wpList_bld {ops : Array Oper} {rest : List Oper} {o : Oper} {a : Act} {w : World} {Q : Exit → Act → World → Prop} (hw : Region.wanted o (yielded ops a.tmps) = true) (T : TypeId) (v : Value) (ho : o.op = .build T #[]) (hr : ∀ w, (Instr.build T #[]).run Try.prog w = .ok v w)
    (hK : wpList Try.prog ops Q rest (a.put o.dst v) w) : wpList Try.prog ops Q (o :: rest) a w := by
  unfold wpList
  rw [if_pos hw]
  refine .inl ?_
  unfold Oper.wp execOp
  simp only [ho, List.map_toArray, List.map_nil, Sem.run_bind, hr, Result.andThen_ok]
  exact hK
theorem own_sl {w : World} {base n : Nat} {t : TypeId} {sz : Nat} {v : Value} {xs : List Value} (h : w.ownsRow base t sz v n xs) : ∃ A c, v = .slice A n c := by
  rcases h.2 with ⟨e, e2⟩ | ⟨g, c, cur, e1, _⟩
  · exact ⟨none, 0, by rw [e, e2]⟩
  · exact ⟨_, c, e1⟩
theorem own_blk {w : World} {base n : Nat} {t : TypeId} {sz : Nat} {v : Value} {xs : List Value} (h : w.ownsRow base t sz v n xs) {g : Nat} (hg : v.ownBlock = some g) : base ≤ g ∧ g < w.heap.size := by
  rcases h.2 with ⟨e, e2⟩ | ⟨g', c, cur, e1, h2, h3, _⟩
  · rw [e] at hg; cases hg
  · rw [e1] at hg
    cases hg
    exact ⟨h2, lt_of_block h3⟩
/-- all that is in no block of P stays -/
structure Fr (w w' : World) (P : Nat → Prop) : Prop where
  os : w'.os = w.os
  tape : w'.tape = w.tape
  output : w'.output = w.output
  size : w.heap.size ≤ w'.heap.size
  block : ∀ q, q < w.heap.size → ¬ P q → w'.heap[q]? = w.heap[q]?
theorem Fr.refl (w : World) (P : Nat → Prop) : Fr w w P := ⟨rfl, rfl, rfl, Nat.le_refl _, fun _ _ _ => rfl⟩
theorem Fr.of_below {w w' : World} {P : Nat → Prop} (h : Below w.heap.size w w') : Fr w w' P := ⟨h.os, h.tape, h.output, h.size, fun q hq _ => h.block q hq⟩
theorem Fr.trans {w w' w'' : World} {P P' : Nat → Prop} (h : Fr w w' P) (g : Fr w' w'' P') (hp : ∀ q, P' q → P q ∨ w.heap.size ≤ q) : Fr w w'' P :=
  ⟨g.os.trans h.os, g.tape.trans h.tape, g.output.trans h.output, Nat.le_trans h.size g.size, fun q hq hn => (g.block q (Nat.lt_of_lt_of_le hq h.size) fun e => (hp q e).elim hn fun h2 => by omega).trans (h.block q hq hn)⟩
theorem Fr.mono {w w' : World} {P P' : Nat → Prop} (h : Fr w w' P) (hp : ∀ q, P q → P' q) : Fr w w' P' := ⟨h.os, h.tape, h.output, h.size, fun q hq hn => h.block q hq fun e => hn (hp q e)⟩
theorem Fr.below {w w' : World} {P : Nat → Prop} {B : Nat} (h : Fr w w' P) (hB : B ≤ w.heap.size) (hp : ∀ q, P q → B ≤ q) : Below B w w' := ⟨h.os, h.tape, h.output, h.size, fun q hq => h.block q (by omega) fun e => by have := hp q e; omega⟩
theorem turned_fr {w w' : World} {b : Nat} (h : w.mapTurned w' b) : w'.os = w.os ∧ w'.tape = w.tape ∧ w'.output = w.output ∧ w'.heap.size = w.heap.size ∧ ∀ q, q ≠ b → w'.heap[q]? = w.heap[q]? := by
  obtain ⟨es, k, es', k', hb, rfl⟩ := h
  refine ⟨rfl, rfl, rfl, by simp [ChangeMaps.setBlock], fun q hq => ?_⟩
  simp [ChangeMaps.setBlock, Ne.symm hq]
theorem foldSet {α : Type} : ∀ (ys : List α) (o k : Nat) (L M R : List α), L.length = o + k → M.length = ys.length → ((ys.zipIdx k).foldl (fun (cs : Array α) (p : α × Nat) => cs.setIfInBounds (o + p.2) p.1) (L ++ M ++ R).toArray).toList = L ++ ys ++ R
  | [], _, _, L, M, R, _, h => by
    have : M = [] := List.eq_nil_of_length_eq_zero h
    subst this
    rfl
  | y :: ys, o, k, L, m :: M, R, hL, h => by
    have ih := foldSet ys o (k + 1) (L ++ [y]) M R (by simp; omega) (by simpa using h)
    have e : ((L ++ m :: M ++ R).toArray.setIfInBounds (o + k) y) = (L ++ [y] ++ M ++ R).toArray := by
      rw [← hL]
      simp
    rw [List.zipIdx_cons, List.foldl_cons, e, ih]
    simp
theorem foldArr {α : Type} (ys : Array α) (L M R : List α) (o : Nat) (A : Array α) (hA : A.toList = L ++ M ++ R) (hL : L.length = o) (hM : M.length = ys.size) : (ys.zipIdx).foldl (fun (cs : Array α) (p : α × Nat) => cs.setIfInBounds (o + p.2) p.1) A = (L ++ ys.toList ++ R).toArray := by
  have := foldSet ys.toList o 0 L M R (by omega) (by simpa using hM)
  rw [← hA] at this
  rw [← Array.foldl_toList, Array.toList_zipIdx]
  exact Array.ext' (by simpa using this)
theorem fill_part {f : Nat → Option (Nat × Nat)} {A : Array Value} {L M R ys : List Value} {v : Value} {i o n : Nat} {rest : List (Nat × Value)} (hf : f i = some (o, n)) (hA : A.toList = L ++ M ++ R) (hL : L.length = o) (hM : M.length = n) (hv : v.cells.toList = ys) (hy : ys.length = n) :
    Instr.fill f A ((i, v) :: rest) = Instr.fill f (L ++ ys ++ R).toArray rest := by
  have hs : v.cells.size = n := by rw [← hy, ← hv, Array.length_toList]
  have hz : A.size = o + n + R.length := by rw [← Array.length_toList, hA]; simp; omega
  have g : ¬ (v.cells.size ≠ n || decide (o + v.cells.size > A.size)) = true := by rw [hs, hz]; simp
  have e := foldArr v.cells L M R o A hA hL (by rw [hM, hs])
  rw [hv] at e
  conv => lhs; unfold Instr.fill
  simp only [hf]
  rw [if_neg g, e]
theorem fill_nil {f : Nat → Option (Nat × Nat)} {A : Array Value} : Instr.fill f A [] = some A := by unfold Instr.fill; rfl
theorem run_bs1 {t e n b : Nat} {z : Value} {cs : List Value} (hu : Try.prog.underlying t = some (.slice e)) (hi : (Try.prog.info? e).map (fun i => (i.zero, i.size, i.bytes)) = some (some z, n, b)) (hl : cs.length = n) (h0 : 0 < n) (hm : n ≤ 1000) (w : World) :
    (Instr.buildSlice t 1 #[(0, .agg cs.toArray)]).run Try.prog w = .ok (.slice (some ⟨w.heap.size, 0, none⟩) 1 1) (w.alloc (.cells cs.toArray e)) := by
  obtain ⟨i0, h1, h2, h3, _⟩ := info_parts hi
  refine run_buildSlice w t e 1 _ cs.toArray i0 z hu h1 h2 (by rw [h3]; omega) (by rw [h3]; omega) ?_
  rw [h3]
  have := fill_part (f := fun i => some (i * n, n)) (A := (Array.range (1 * n)).map fun x => z.cells[x % z.cells.size]!) (L := []) (M := ((Array.range (1 * n)).map fun x => z.cells[x % z.cells.size]!).toList) (R := []) (ys := cs) (v := .agg cs.toArray) (i := 0) (o := 0) (n := n) (rest := []) (by simp) (by simp) rfl (by simp) (by simp [Value.cells]) hl
  refine this.trans ?_
  rw [fill_nil]
  simp
theorem wpList_bs1 {ops : Array Oper} {rest : List Oper} {o : Oper} {a : Act} {w : World} {Q : Exit → Act → World → Prop} (hw : Region.wanted o (yielded ops a.tmps) = true) {t e n b : Nat} {z : Value} (x : Operand) (cs : List Value) (ho : o.op = .buildSlice t 1 #[(0, x)]) (hx : a.eval x = .agg cs.toArray)
    (hu : Try.prog.underlying t = some (.slice e)) (hi : (Try.prog.info? e).map (fun i => (i.zero, i.size, i.bytes)) = some (some z, n, b)) (hl : cs.length = n) (h0 : 0 < n) (hm : n ≤ 1000)
    (hK : wpList Try.prog ops Q rest (a.put o.dst (.slice (some ⟨w.heap.size, 0, none⟩) 1 1)) (w.alloc (.cells cs.toArray e))) : wpList Try.prog ops Q (o :: rest) a w := by
  unfold wpList
  rw [if_pos hw]
  refine .inl ?_
  unfold Oper.wp execOp
  simp only [ho, List.map_toArray, List.map_cons, List.map_nil, hx, Sem.run_bind, run_bs1 hu hi hl h0 hm, Result.andThen_ok, Sem.run_pure]
  exact hK
theorem meas_up {k n : Nat} {z : Int} (h : z = ((k + 1 : Nat) : Int)) (hk : k < n) : n - (intOf (.int .i64 z)).toNat < n - (intOf (.int .i64 (k : Int))).toNat := by
  subst h
  show n - ((k + 1 : Nat) : Int).toNat < n - ((k : Nat) : Int).toNat
  rw [Int.toNat_natCast, Int.toNat_natCast]
  omega
theorem cell_lt {w : World} {b i : Nat} {v : Value} (h : w.cell? ⟨b, i, none⟩ = some v) : b < w.heap.size := by
  rcases Nat.lt_or_ge b w.heap.size with g | g
  · exact g
  · simp [World.cell?, Array.getElem?_eq_none g] at h
/-- m elements, ys, where A points -/
def SrcG (w : World) (sz : Nat) (A : Option Addr) (m : Nat) (ys : List Value) : Prop := ys.length = m * sz ∧ (∀ u ∈ ys, u.oneCell' = true) ∧ (m = 0 ∨ ∃ b o, A = some ⟨b, o, none⟩ ∧ b < w.heap.size ∧ w.rangeAt b o ys)
theorem SrcG.keep {w w' : World} {sz m : Nat} {A : Option Addr} {ys : List Value} (h : SrcG w sz A m ys) (hb : Below w.heap.size w w') : SrcG w' sz A m ys := by
  obtain ⟨h1, h2, h3⟩ := h
  refine ⟨h1, h2, h3.imp id ?_⟩
  rintro ⟨b, o, e, hl, hr⟩
  exact ⟨b, o, e, Nat.lt_of_lt_of_le hl hb.size, range_keep1 hr (hb.block b hl)⟩
theorem rng_take {w : World} {b o k : Nat} {xs : List Value} (h : w.rangeAt b o xs) : w.rangeAt b o (xs.take k) := (range_app (xs := xs.take k) (ys := xs.drop k) (by rw [List.take_append_drop]; exact h)).1
theorem rng_drop {w : World} {b o k : Nat} {xs : List Value} (h : w.rangeAt b o xs) (hk : k ≤ xs.length) : w.rangeAt b (o + k) (xs.drop k) := by
  have := (range_app (xs := xs.take k) (ys := xs.drop k) (by rw [List.take_append_drop]; exact h)).2
  rwa [List.length_take, Nat.min_eq_left hk] at this
theorem ownG_rng {w : World} {base n sz c g : Nat} {t : TypeId} {xs : List Value} (h : w.ownsRow base t sz (.slice (some ⟨g, 0, none⟩) n c) n xs) : g < w.heap.size ∧ n ≤ c ∧ w.rangeAt g 0 xs := by
  rcases h.2 with ⟨e, _⟩ | ⟨g', c', cur, e, _, h3, h4, _, _, h6⟩
  · cases e
  · injection e with e1 e2 e3
    cases e1
    subst e3
    refine ⟨lt_of_block h3, h4, ?_⟩
    have r1 : w.rangeAt g 0 cur.toList := range_of (t := t) (by rw [Array.toArray_toList]; exact h3)
    rw [← h6]
    exact rng_take r1
theorem ownG_nil {w : World} {base n sz c : Nat} {t : TypeId} {xs : List Value} (h : w.ownsRow base t sz (.slice none n c) n xs) : n = 0 ∧ c = 0 := by
  rcases h.2 with ⟨e, e2⟩ | ⟨g', c', cur, e, _⟩
  · injection e with e1 e3 e4
    exact ⟨e2, e4⟩
  · cases e
theorem own_addr {w : World} {base n sz c : Nat} {t : TypeId} {xs : List Value} {A : Option Addr} (h : w.ownsRow base t sz (.slice A n c) n xs) : (A = none ∧ n = 0 ∧ c = 0) ∨ ∃ g, A = some ⟨g, 0, none⟩ := by
  cases A with
  | none => exact .inl ⟨rfl, ownG_nil h⟩
  | some a =>
    rcases h.2 with ⟨e, _⟩ | ⟨g', c', cur, e, _⟩
    · cases e
    · injection e with e1
      exact .inr ⟨g', e1⟩
theorem ownG_base {w : World} {base n e k : Nat} {v : Value} {xs : List Value} (h : w.ownsRow base e k v n xs) : ∀ q, v.ownBlock = some q → base ≤ q := fun _ hq => (own_blk h hq).1
/-- append of many to a row of one's own -/
theorem run_appG {sl t : TypeId} {z : Value} {sz by' : Nat} (hu : Try.prog.underlying sl = some (.slice t)) (hi : (Try.prog.info? t).map (fun i => (i.zero, i.size, i.bytes)) = some (some z, sz, by')) (hz : z.cells.size = sz) (h0 : 0 < sz) (hb : by' ≤ 1000) {W : World} {base n m c : Nat} {v : Value} {xs ys : List Value} {B : Option Addr} (h : W.ownsRow base t sz v n xs) (hs : SrcG W sz B m ys) (hn : n ≤ 100000) (hm : m ≤ 100000) (hbase : base ≤ W.heap.size) (ty : TypeId) :
    ∃ A c' w', (Builtin.append_ #[sl, sl] ty #[v, .slice B m c]).run Try.prog W = .ok (.slice A (n + m) c') w' ∧ w'.ownsRow base t sz (.slice A (n + m) c') (n + m) (xs ++ ys) ∧ Below base W w' := by
  obtain ⟨i, i1, i2, i3, i4⟩ := info_parts hi
  obtain ⟨s1, s2, s3⟩ := hs
  have hby : (n + m) * by' ≤ 140737488355328 := Nat.le_trans (Nat.mul_le_mul (show n + m ≤ 200000 by omega) hb) (by decide)
  have fin : ∀ {v' : Value} {w' : World}, w'.ownsRow base t sz v' (n + m) (xs ++ ys) → W.grownBy w' v.ownBlock → Below base W w' := fun ho hg => ⟨hg.os, hg.tape, hg.output, hg.size, fun q hq => hg.block q (by omega) fun e => by have := ownG_base h q e.symm; omega⟩
  by_cases hm0 : m = 0
  · subst hm0
    obtain rfl : ys = [] := List.length_eq_zero_iff.1 (by omega)
    cases B with
    | some ad =>
      obtain ⟨v', w', r1, r2, r3, _, _⟩ := run_append_own_at W base sl ty t i z sz by' hu i1 i2 i3 i4 hz h0 v n xs h ad 0 c [] (by omega) (fun j u hj => by cases hj) (fun u hu => by cases hu) (by unfold maxLen; omega) hby hbase
      obtain ⟨A, c', rfl⟩ := own_sl r2
      exact ⟨A, c', w', r1, r2, fin r2 r3⟩
    | none =>
      obtain ⟨A, c', rfl⟩ := own_sl h
      have hle : n ≤ c' := by
        rcases own_addr h with ⟨_, e1, e2⟩ | ⟨g, rfl⟩
        · omega
        · exact (ownG_rng h).2.1
      refine ⟨A, c', W, ?_, by rw [List.append_nil, Nat.add_zero]; exact h, Below.refl _ _⟩
      refine run_append_nothing W sl sl ty t i hu i1 A n c' hle _ ⟨.inl ⟨t, hu⟩, fun w' => ?_, ?_, ?_, ?_, fun u hu => by cases hu⟩
      · simp [Builtin.lenOf]
      · simp [Builtin.firstCells]
      · simp [Builtin.firstCells]
      · simp
  · rcases s3 with h3 | ⟨b, o, rfl, hl, hr⟩
    · exact absurd h3 hm0
    · obtain ⟨v', w', r1, r2, r3, _, _⟩ := run_append_own_at W base sl ty t i z sz by' hu i1 i2 i3 i4 hz h0 v n xs h ⟨b, o, none⟩ m c ys s1 (fun j u hj => by rw [Addr.add_mid]; exact hr j u hj) s2 (by unfold maxLen; omega) hby hbase
      obtain ⟨A, c', rfl⟩ := own_sl r2
      exact ⟨A, c', w', r1, r2, fin r2 r3⟩
theorem step_appG {sl t : TypeId} {z : Value} {sz by' : Nat} (hu : Try.prog.underlying sl = some (.slice t)) (hi : (Try.prog.info? t).map (fun i => (i.zero, i.size, i.bytes)) = some (some z, sz, by')) (hz : z.cells.size = sz) (h0 : 0 < sz) (hb : by' ≤ 1000) {w : World} {ops : Array Oper} {o : Oper} {a : Act} {K : Act → World → Prop} {Q : Exit → Act → World → Prop} {E : Prop} (hgd : o.guard = none) (s y : Operand)
    (ho : o.op = .call { callee := .builtin .append, args := #[s, y], argTypes := #[sl, sl] }) (base n m c : Nat) (v : Value) (xs ys : List Value) (B : Option Addr) (hv : a.eval s = v) (hx : a.eval y = .slice B m c) (hown : w.ownsRow base t sz v n xs) (hs : SrcG w sz B m ys) (hn : n ≤ 100000) (hm : m ≤ 100000) (hbase : base ≤ w.heap.size)
    (h : ∀ A c' w', w'.ownsRow base t sz (.slice A (n + m) c') (n + m) (xs ++ ys) → Below base w w' → K (a.put o.dst (.slice A (n + m) c')) w') : if Region.wanted o (yielded ops a.tmps) = true then Oper.wp Try.prog o a w K Q else E := by
  have hw : Region.wanted o (yielded ops a.tmps) = true := by simp [Region.wanted, hgd]
  rw [if_pos hw]
  obtain ⟨A, c', w', hr, h1, h2⟩ := run_appG (c := c) hu hi hz h0 hb hown hs hn hm hbase o.type
  unfold Oper.wp execOp
  simp only [ho, resolve, invoke, builtin, Sem.run_bind, Sem.run_pure, Result.andThen_ok, List.map_toArray, List.map_cons, List.map_nil, hv, hx, hr]
  exact h A c' w' h1 h2
section
variable {P : Program} {ops : Array Oper} {C : World → Prop}
theorem wp_region_class {id : Nat} {Q : Exit → Act → World → Prop} {a : Act} {w : World} {l : List Oper} (hm : P.follows .mixedOrders = true) (hB : Region.lexB .any l.toArray = true) (hC : C { w with drawn := w.drawn + 1 })
    (h : wpQuiet P l.toArray C (fun a' => ∀ w', C w' → Q .normal a' w') l a) : (Code.region id l.toArray true).wp P Q a w :=
  wp_region_quiet (C := C) hm hB hC (by simpa using h)
theorem quiet_val {o : Oper} {a : Act} {K : Act → Prop} {E : Prop} (hw : Region.wanted o (yielded ops a.tmps) = true) {v : Value} (h : ∀ w, C w → (execOp a.eval o).run P w = .ok (.value v) w) (hK : K (a.put o.dst v)) : if Region.wanted o (yielded ops a.tmps) then o.quiet P a C K else E := by
  rw [if_pos hw]
  refine ⟨v, fun w hC => ?_, hK⟩
  unfold Oper.quietAt
  rw [h w hC]
  exact ⟨rfl, rfl⟩
theorem quiet_load {o : Oper} {a : Act} {K : Act → Prop} {E : Prop} (hw : Region.wanted o (yielded ops a.tmps) = true) (ty : TypeId) (x : Operand) (ho : o.op = .load ty x)
    (b f : Nat) (hx : a.eval x = .pointer (some ⟨b, f, none⟩)) (cs : List Value) (d : TypeDesc) (hS : ∀ w, C w → w.rangeAt b f cs)
    (hu : P.underlying ty = some d) (hd : d.isRow = true) (hi : (P.info? ty).map (·.size) = some cs.length) (hK : K (a.put o.dst (.agg cs.toArray))) : if Region.wanted o (yielded ops a.tmps) then o.quiet P a C K else E :=
  quiet_val hw (fun w hw' => by
    unfold execOp
    simp only [ho, hx, Instr.loadAt, Instr.sureAddr, Sem.run_bind, Sem.run_pure, Result.andThen_ok, run_loadVar_mid w b f ty cs d (hS w hw') hu hd hi]) hK
theorem quiet_call {o : Oper} {a : Act} {K : Act → Prop} {E : Prop} (hw : Region.wanted o (yielded ops a.tmps) = true) {v : Value} (f : FuncId) (args : Array Value) (h : ∀ w, C w → (execOp a.eval o).run P w = .ok (.enter f args) w) (hc : ∀ w, C w → Calls P f args w fun e w' => e = .returned v ∧ C w') (hK : K (a.put o.dst v)) : if Region.wanted o (yielded ops a.tmps) then o.quiet P a C K else E := by
  rw [if_pos hw]
  refine ⟨v, fun w hC => ?_, hK⟩
  unfold Oper.quietAt
  rw [h w hC]
  exact ⟨rfl, hc w hC⟩
end
end Go.Proofs.Ytmcmdpbdipgahaa

/-
  A sidechain's record: its cells, its rows; plain values as a map's elements.
-/
namespace Go.Proofs.Ytmcmdpbdipgahaa
open Go.RowKit Go.Maps
set_option maxRecDepth 100000
/-- a row: where, how many, what -/
structure Rf where
  A : Option Addr
  n : Nat
  c : Nat
  ys : List Value
def rf0 : Rf := ⟨none, 0, 0, []⟩
/-- what a record holds beside its rows -/
structure Sc where
  a : Int
  b : Int
  c : Int
  made : Int
  bal : Int
  fwd : Int
  mat : Int
  cla : Int
  ce : Bool
  at' : Int
  rt : List Int
  pe : Bool
  c1 : Int
  c2 : Int
  c3 : Int
  ce1 : List Int
  ce2 : List Int
def h8 (l : List Int) : List Value := [.int .u8 (l.getD 0 0), .int .u8 (l.getD 1 0), .int .u8 (l.getD 2 0), .int .u8 (l.getD 3 0), .int .u8 (l.getD 4 0), .int .u8 (l.getD 5 0), .int .u8 (l.getD 6 0), .int .u8 (l.getD 7 0)]
/-- a record in memory -/
structure Sm where
  s : Sc
  K : Rf
  O : Rf
  G : Rf
  U : Rf
def sdV (x : Sm) : List Value :=
  .int .i64 x.s.a :: .int .i64 x.s.b :: .int .i64 x.s.c :: .slice x.K.A x.K.n x.K.c :: .int .i64 x.s.made :: .int .i64 x.s.bal :: .int .i64 x.s.fwd :: .int .i64 x.s.mat :: .int .i64 x.s.cla :: .bool x.s.ce :: .int .i64 x.s.at' ::
  .int .u8 (x.s.rt.getD 0 0) :: .int .u8 (x.s.rt.getD 1 0) :: .int .u8 (x.s.rt.getD 2 0) :: .int .u8 (x.s.rt.getD 3 0) :: .int .u8 (x.s.rt.getD 4 0) :: .int .u8 (x.s.rt.getD 5 0) :: .int .u8 (x.s.rt.getD 6 0) :: .int .u8 (x.s.rt.getD 7 0) ::
  .bool x.s.pe :: .int .i64 x.s.c1 :: .int .i64 x.s.c2 :: .int .i64 x.s.c3 ::
  .int .u8 (x.s.ce1.getD 0 0) :: .int .u8 (x.s.ce1.getD 1 0) :: .int .u8 (x.s.ce1.getD 2 0) :: .int .u8 (x.s.ce1.getD 3 0) :: .int .u8 (x.s.ce1.getD 4 0) :: .int .u8 (x.s.ce1.getD 5 0) :: .int .u8 (x.s.ce1.getD 6 0) :: .int .u8 (x.s.ce1.getD 7 0) ::
  .int .u8 (x.s.ce2.getD 0 0) :: .int .u8 (x.s.ce2.getD 1 0) :: .int .u8 (x.s.ce2.getD 2 0) :: .int .u8 (x.s.ce2.getD 3 0) :: .int .u8 (x.s.ce2.getD 4 0) :: .int .u8 (x.s.ce2.getD 5 0) :: .int .u8 (x.s.ce2.getD 6 0) :: .int .u8 (x.s.ce2.getD 7 0) ::
  .slice x.O.A x.O.n x.O.c :: .slice x.G.A x.G.n x.G.c :: .slice x.U.A x.U.n x.U.c :: []
theorem sd_len (x : Sm) : (sdV x).length = 42 := rfl
theorem sd_one (x : Sm) : ∀ v ∈ sdV x, v.oneCell' = true := by
  unfold sdV
  simp [Value.oneCell']
/-- what is in a record, wherever its rows lie -/
def Sm.con (x : Sm) : Sc × (Nat × List Value) × (Nat × List Value) × (Nat × List Value) × (Nat × List Value) := (x.s, (x.K.n, x.K.ys), (x.O.n, x.O.ys), (x.G.n, x.G.ys), (x.U.n, x.U.ys))
abbrev Con := Sc × (Nat × List Value) × (Nat × List Value) × (Nat × List Value) × (Nat × List Value)
/-- a row lies there, in none of the blocks that may be written -/
structure RfAt (w : World) (P : Nat → Prop) (sz : Nat) (r : Rf) : Prop where
  src : SrcG w sz r.A r.n r.ys
  cap : r.n ≤ r.c
  big : r.n ≤ 100
  pl : ∀ a, r.A = some a → a.spot = none ∧ a.block < w.heap.size ∧ ¬ P a.block
  nil : r.A = none → r.n = 0 ∧ r.c = 0
theorem RfAt.keep {w w' : World} {P P' : Nat → Prop} {sz : Nat} {r : Rf} (h : RfAt w P sz r) (hs : w.heap.size ≤ w'.heap.size) (hb : ∀ q, q < w.heap.size → ¬ P q → w'.heap[q]? = w.heap[q]?) (hp : ∀ q, q < w.heap.size → P' q → P q) : RfAt w' P' sz r := by
  obtain ⟨⟨s1, s2, s3⟩, h2, h3, h4, h5⟩ := h
  refine ⟨⟨s1, s2, ?_⟩, h2, h3, fun a ha => ?_, h5⟩
  · rcases s3 with s3 | ⟨b, o, e, hl, hr⟩
    · exact .inl s3
    · have := h4 _ e
      exact .inr ⟨b, o, e, by omega, range_keep1 hr (hb b hl this.2.2)⟩
  · have := h4 a ha
    exact ⟨this.1, by omega, fun hq => this.2.2 (hp _ this.2.1 hq)⟩
theorem RfAt.grow {w w' : World} {P : Nat → Prop} {sz : Nat} {r : Rf} (h : RfAt w P sz r) (hb : Below w.heap.size w w') : RfAt w' P sz r := h.keep hb.size (fun q hq _ => hb.block q hq) fun _ _ h => h
theorem rf0_at (w : World) (P : Nat → Prop) (sz : Nat) : RfAt w P sz rf0 := ⟨⟨by simp [rf0], fun u hu => (by cases hu), .inl rfl⟩, Nat.le_refl _, by decide, fun a h => (by cases h), fun _ => ⟨rfl, rfl⟩⟩
structure SdAt (w : World) (P : Nat → Prop) (x : Sm) : Prop where
  K : RfAt w P 8 x.K
  O : RfAt w P 9 x.O
  G : RfAt w P 282 x.G
  U : RfAt w P 1 x.U
theorem SdAt.keep {w w' : World} {P P' : Nat → Prop} {x : Sm} (h : SdAt w P x) (hs : w.heap.size ≤ w'.heap.size) (hb : ∀ q, q < w.heap.size → ¬ P q → w'.heap[q]? = w.heap[q]?) (hp : ∀ q, q < w.heap.size → P' q → P q) : SdAt w' P' x := ⟨h.K.keep hs hb hp, h.O.keep hs hb hp, h.G.keep hs hb hp, h.U.keep hs hb hp⟩
theorem SdAt.grow {w w' : World} {P : Nat → Prop} {x : Sm} (h : SdAt w P x) (hb : Below w.heap.size w w') : SdAt w' P x := ⟨h.K.grow hb, h.O.grow hb, h.G.grow hb, h.U.grow hb⟩
/- plain values -/
def plB : Value → Bool
  | .int _ _ => true
  | .bool _ => true
  | .slice none _ _ => true
  | .slice (some a) _ _ => a.spot.isNone
  | _ => false
def nD (n : Nat) : DataW Unit := .lit (.int .i64 n)
def vD : Value → DataW Unit
  | .int k x => .lit (.int k x)
  | .bool b => .lit (.bool b)
  | .slice none n c => .agg [nD n, nD c]
  | .slice (some a) n c => .agg [nD n, nD c, nD a.block, nD a.off]
  | _ => .nil
theorem nD_inj {a b : Nat} (h : nD a = nD b) : a = b := by
  unfold nD at h
  simp only [DataW.lit.injEq, Lit.int.injEq, true_and] at h
  omega
theorem pl_cases {v : Value} (h : plB v = true) : (∃ k x, v = .int k x) ∨ (∃ b, v = .bool b) ∨ (∃ n c, v = .slice none n c) ∨ ∃ b o n c, v = .slice (some ⟨b, o, none⟩) n c := by
  cases v with
  | int k x => exact .inl ⟨k, x, rfl⟩
  | bool b => exact .inr (.inl ⟨b, rfl⟩)
  | slice a n c =>
    cases a with
    | none => exact .inr (.inr (.inl ⟨n, c, rfl⟩))
    | some a =>
      obtain ⟨a1, a2, a3⟩ := a
      have h : a3.isNone = true := h
      rw [Option.isNone_iff_eq_none] at h
      subst h
      exact .inr (.inr (.inr ⟨a1, a2, n, c, rfl⟩))
  | _ => cases h
theorem vD_inj {u v : Value} (hu : plB u = true) (hv : plB v = true) (h : vD u = vD v) : u = v := by
  rcases pl_cases hu with ⟨k, x, rfl⟩ | ⟨b, rfl⟩ | ⟨n, c, rfl⟩ | ⟨b, o, n, c, rfl⟩ <;> rcases pl_cases hv with ⟨l, y, rfl⟩ | ⟨d, rfl⟩ | ⟨m, d, rfl⟩ | ⟨d, q, m, e, rfl⟩ <;> clear hu hv <;>
    simp only [vD, DataW.lit.injEq, Lit.int.injEq, Lit.bool.injEq, DataW.agg.injEq, List.cons.injEq, and_true, reduceCtorEq, and_false] at h
  · rw [h.1, h.2]
  · rw [h]
  · rw [nD_inj h.1, nD_inj h.2]
  · rw [nD_inj h.1, nD_inj h.2.1, nD_inj h.2.2.1, nD_inj h.2.2.2]
theorem vDs_inj : ∀ {xs ys : List Value}, xs.all plB = true → ys.all plB = true → xs.map vD = ys.map vD → xs = ys
  | [], [], _, _, _ => rfl
  | [], _ :: _, _, _, h => by simp at h
  | _ :: _, [], _, _, h => by simp at h
  | x :: xs, y :: ys, hx, hy, h => by
    simp only [List.all_cons, Bool.and_eq_true] at hx hy
    simp only [List.map_cons, List.cons.injEq] at h
    rw [vD_inj hx.1 hy.1 h.1, vDs_inj hx.2 hy.2 h.2]
def pD (xs : List Value) : DataW Unit := .agg (xs.map vD)
def plain (n : Nat) (xs : List Value) : Prop := xs.length = n ∧ xs.all plB = true
theorem pD_inj {n : Nat} {xs ys : List Value} (hx : plain n xs) (hy : plain n ys) (h : pD xs = pD ys) : xs = ys := vDs_inj hx.2 hy.2 (DataW.agg.inj h)
open Classical in
noncomputable def plR (n : Nat) (v : Value) : Option (DataW Unit × List MemPlace) := if h : ∃ xs : List Value, v = .agg xs.toArray ∧ plain n xs then some (pD h.choose, []) else none
theorem agg_inj {xs ys : List Value} (h : Value.agg xs.toArray = .agg ys.toArray) : xs = ys := by
  have := congrArg Array.toList (Value.agg.inj h)
  simpa using this
theorem plR_mk {n : Nat} {xs : List Value} (h : plain n xs) : plR n (.agg xs.toArray) = some (pD xs, []) := by
  have he : ∃ ys : List Value, (Value.agg xs.toArray) = .agg ys.toArray ∧ plain n ys := ⟨xs, rfl, h⟩
  unfold plR
  rw [dif_pos he]
  rw [← agg_inj he.choose_spec.1]
theorem plR_inv {n : Nat} {v : Value} {z : DataW Unit × List MemPlace} (h : plR n v = some z) : ∃ xs : List Value, v = .agg xs.toArray ∧ plain n xs ∧ z = (pD xs, []) := by
  unfold plR at h
  split at h
  · rename_i he
    exact ⟨he.choose, he.choose_spec.1, he.choose_spec.2, (Option.some.inj h).symm⟩
  · cases h
theorem rf_pl {w : World} {P : Nat → Prop} {sz : Nat} {r : Rf} (h : RfAt w P sz r) : plB (.slice r.A r.n r.c) = true := by
  cases e : r.A with
  | none => rfl
  | some a => simp [plB, (h.pl a e).1]
theorem plI (k : IntKind) (x : Int) : plB (.int k x) = true := rfl
theorem plBo (b : Bool) : plB (.bool b) = true := rfl
theorem sd_plain {w : World} {P : Nat → Prop} {x : Sm} (h : SdAt w P x) : plain 42 (sdV x) := by
  refine ⟨rfl, ?_⟩
  unfold sdV
  simp only [List.all_cons, List.all_nil, Bool.and_true, rf_pl h.K, rf_pl h.O, rf_pl h.G, rf_pl h.U, plI, plBo]
def sc0 : Sc := ⟨0, 0, 0, 0, 0, 0, 0, 0, false, 0, [], false, 0, 0, 0, [], []⟩
def sm0 : Sm := ⟨sc0, rf0, rf0, rf0, rf0⟩
theorem sm0_plain : plain 42 (sdV sm0) := ⟨rfl, rfl⟩
theorem z53 (w : World) : (zeroValue 53).run Try.prog w = .ok (.agg (sdV sm0).toArray) w := by kernel_rfl
end Go.Proofs.Ytmcmdpbdipgahaa

/-
  The map of records as a function of its numbers; a row's copy.
-/
namespace Go.Proofs.Ytmcmdpbdipgahaa
open Go.RowKit Go.Maps Go.WideMaps Go.MapKept
set_option maxRecDepth 100000
theorem ki3 : Keyed Try.prog 3 := int_keyed Try.underlying3
def wfI (k : Int) : Prop := -9223372036854775808 ≤ k ∧ k < 9223372036854775808
theorem wfI_lit {k : Int} (h : wfI k) : (Lit.int .i64 k).wf = true := by
  obtain ⟨h1, h2⟩ := h
  show (decide (IntKind.i64.min ≤ k) && decide (k ≤ IntKind.i64.max)) = true
  rw [show IntKind.i64.min = -9223372036854775808 by decide, show IntKind.i64.max = 9223372036854775807 by decide]
  simp; omega
theorem lit_wfI {k : Int} (h : (Lit.int .i64 k).wf = true) : wfI k := by
  have h : (decide (IntKind.i64.min ≤ k) && decide (k ≤ IntKind.i64.max)) = true := h
  rw [show IntKind.i64.min = -9223372036854775808 by decide, show IntKind.i64.max = 9223372036854775807 by decide] at h
  simp at h
  unfold wfI; omega
theorem key3 {k : Int} (h : wfI k) : keyOf Try.prog 3 (.int .i64 k) = some (.int .i64 k) := keyOf_int_mk Try.underlying3 (wfI_lit h)
theorem key3_inv {v : Value} {l : Lit} (h : keyOf Try.prog 3 v = some l) : ∃ k, v = .int .i64 k ∧ l = .int .i64 k ∧ wfI k := by
  obtain ⟨x, rfl, h2, h3⟩ := keyOf_int_inv Try.underlying3 h
  exact ⟨x, rfl, h2, lit_wfI (by rw [← h2] at *; simpa using h3)⟩
def z0 : List Value := sdV sm0
/-- block b is the map of just the n records that F tells -/
def MapV (w : World) (b n : Nat) (F : Int → Option (List Value)) : Prop :=
  ∃ D : DataW Unit, w.ownsMap Try.prog 3 (plR 42) b n D ∧ size D = n ∧ (∀ k, wfI k → has D (.int .i64 k) = (F k).isSome ∧ D.atKey (.int .i64 k) (pD z0) = pD ((F k).getD z0)) ∧ ∀ k x, F k = some x → plain 42 x
theorem MapV.keep {w w' : World} {b n : Nat} {F : Int → Option (List Value)} (h : MapV w b n F) (hb : w'.heap[b]? = w.heap[b]?) : MapV w' b n F := by
  obtain ⟨D, ⟨es, clock, h1, r⟩, h2⟩ := h
  exact ⟨D, ⟨es, clock, hb.trans h1, r⟩, h2⟩
theorem MapV.lt {w : World} {b n : Nat} {F : Int → Option (List Value)} (h : MapV w b n F) : b < w.heap.size := by
  obtain ⟨D, h1, _⟩ := h
  exact h1.lt
theorem MapV.get {w : World} {b n : Nat} {F : Int → Option (List Value)} (h : MapV w b n F) {k : Int} (hk : wfI k) :
    (Instr.lookup 74 (.map (some b)) (.int .i64 k) true).run Try.prog w = .ok (.tuple #[.agg ((F k).getD z0).toArray, .bool (F k).isSome]) w := by
  obtain ⟨D, h1, _, h2, h5⟩ := h
  obtain ⟨v, ps, hrun, hv⟩ := h1.look_ok ki3 Try.underlying74 (z53 w) (plR_mk sm0_plain) (key3 hk)
  obtain ⟨x, rfl, hx, hz⟩ := plR_inv hv
  obtain ⟨h3, h4⟩ := h2 k hk
  have hz : D.atKey (.int .i64 k) (pD z0) = pD x := (Prod.mk.inj hz).1
  rw [h4] at hz
  have hF : plain 42 ((F k).getD z0) := by
    cases e : F k with
    | none => exact sm0_plain
    | some y => exact h5 k y e
  rw [← pD_inj hF hx hz, h3] at hrun
  exact hrun
theorem get_nilV (w : World) {k : Int} (hk : wfI k) : (Instr.lookup 74 (.map none) (.int .i64 k) true).run Try.prog w = .ok (.tuple #[.agg z0.toArray, .bool false]) w := Maps.look_nil true ki3 Try.underlying74 (z53 w) (key3 hk)
theorem ownsMap_tightV {w : World} {b n m : Nat} {D : DataW Unit} (h : w.ownsMap Try.prog 3 (plR 42) b n D) (hs : size D = m) : w.ownsMap Try.prog 3 (plR 42) b m D := by
  obtain ⟨es, clock, h1, h2, h3, rfl⟩ := h
  refine ⟨es, clock, h1, h2, ?_, rfl⟩
  have : size (DataW.map ((es.toList.map (WideElems.rg Try.prog 3 (plR 42))).foldr DataW.insert [])) = es.size := by simp [Maps.size, length_sorted]
  omega
/-- a function with k's value turned -/
def updV (F : Int → Option (List Value)) (k : Int) (x : List Value) : Int → Option (List Value) := fun j => if j = k then some x else F j
theorem MapV.put {w : World} {b n : Nat} {F : Int → Option (List Value)} (h : MapV w b n F) (hn : n < maxLen) {k : Int} (hk : wfI k) {x : List Value} (hx : plain 42 x) :
    ∃ w', (Instr.mapUpdate 74 (.map (some b)) (.int .i64 k) (.agg x.toArray)).run Try.prog w = .ok () w' ∧ MapV w' b (if (F k).isSome then n else n + 1) (updV F k x) ∧ w.mapTurned w' b := by
  obtain ⟨D, h1, hs, h2, h5⟩ := h
  obtain ⟨w', hrun, ho, ht⟩ := h1.store ki3 Try.underlying74 hn (key3 hk) (plR_mk hx)
  have hl := ki3.key (key3 hk)
  have hsz : size (D.put (.int .i64 k) (pD x)) = if (F k).isSome then n else n + 1 := by
    rw [size_put (h1.tidy ki3), (h2 k hk).1, hs]
  refine ⟨w', hrun, ⟨_, ownsMap_tightV ho hsz, hsz, fun j hj => ?_, fun j y hy => ?_⟩, ht⟩
  · by_cases e : j = k
    · subst e
      rw [has_put_same h1.isMap hl, atKey_put_same h1.isMap hl]
      unfold updV
      rw [if_pos rfl]
      exact ⟨rfl, rfl⟩
    · have hne : (Lit.int .i64 j) ≠ .int .i64 k := fun h => e (by simpa using h)
      rw [has_put_other hne, atKey_put_other hne]
      unfold updV
      rw [if_neg e]
      exact h2 j hj
  · unfold updV at hy
    by_cases e : j = k
    · rw [if_pos e] at hy
      cases hy
      exact hx
    · rw [if_neg e] at hy
      exact h5 j y hy
theorem MapV_made (w : World) : MapV (w.alloc (.map #[] 0)) w.heap.size 0 (fun _ => none) := ⟨_, World.ownsMap_made w _ _ _, rfl, fun _ _ => ⟨by simp [has], rfl⟩, fun _ _ h => by cases h⟩
theorem MapV.len {w : World} {b n : Nat} {F : Int → Option (List Value)} (h : MapV w b n F) (ty : TypeId) : (Builtin.len_ #[74] ty #[.map (some b)]).run Try.prog w = .ok (.int .i64 n) w := by
  obtain ⟨D, h1, hs, _⟩ := h
  rw [h1.len Try.underlying74 ty, hs]
theorem len_nilV (w : World) (ty : TypeId) : (Builtin.len_ #[74] ty #[.map none]).run Try.prog w = .ok (.int .i64 0) w := Maps.len_nil Try.underlying74 ty
theorem step_mputV {w : World} {ops : Array Oper} {o : Oper} {a : Act} {K : Act → World → Prop} {Q : Exit → Act → World → Prop} {E : Prop} (hgd : o.guard = none) (m x v : Operand) (hop : o.op = Op.mapUpdate 74 m x v)
    (b n : Nat) (F : Int → Option (List Value)) (k : Int) (y : List Value) (hm : a.eval m = .map (some b)) (hx : a.eval x = .int .i64 k) (hv : a.eval v = .agg y.toArray) (h : MapV w b n F) (hn : n < maxLen) (hk : wfI k) (hy : plain 42 y)
    (hK : ∀ w', MapV w' b (if (F k).isSome then n else n + 1) (updV F k y) → w.mapTurned w' b → K (a.put o.dst undef) w') : if Region.wanted o (yielded ops a.tmps) = true then Oper.wp Try.prog o a w K Q else E := by
  have hw : Region.wanted o (yielded ops a.tmps) = true := by simp [Region.wanted, hgd]
  rw [if_pos hw]
  obtain ⟨w', hrun, r1, r2⟩ := h.put hn hk hy
  unfold Oper.wp
  simp [execOp, hop, hm, hx, hv, hrun, Result.andThen]
  exact hK w' r1 r2
/-- append of many, in a walk -/
theorem wpList_appG {sl t : TypeId} {z : Value} {sz by' : Nat} (hu : Try.prog.underlying sl = some (.slice t)) (hi : (Try.prog.info? t).map (fun i => (i.zero, i.size, i.bytes)) = some (some z, sz, by')) (hz : z.cells.size = sz) (h0 : 0 < sz) (hb : by' ≤ 1000)
    {w : World} {ops : Array Oper} {rest : List Oper} {o : Oper} {a : Act} {Q : Exit → Act → World → Prop} (hgd : o.guard = none) (s y : Operand)
    (ho : o.op = .call { callee := .builtin .append, args := #[s, y], argTypes := #[sl, sl] }) (base n m c : Nat) (v : Value) (xs ys : List Value) (B : Option Addr) (hv : a.eval s = v) (hx : a.eval y = .slice B m c) (hown : w.ownsRow base t sz v n xs) (hs : SrcG w sz B m ys) (hn : n ≤ 100000) (hm : m ≤ 100000) (hbase : base ≤ w.heap.size)
    (h : ∀ A c' w', w'.ownsRow base t sz (.slice A (n + m) c') (n + m) (xs ++ ys) → Below base w w' → wpList Try.prog ops Q rest (a.put o.dst (.slice A (n + m) c')) w') : wpList Try.prog ops Q (o :: rest) a w := by
  refine wpList_plain hgd fun K hK => ?_
  obtain ⟨A, c', w', hr, h1, h2⟩ := run_appG (c := c) hu hi hz h0 hb hown hs hn hm hbase o.type
  unfold Oper.wp execOp
  simp only [ho, resolve, invoke, builtin, Sem.run_bind, Sem.run_pure, Result.andThen_ok, List.map_toArray, List.map_cons, List.map_nil, hv, hx, hr]
  exact hK _ _ (h A c' w' h1 h2)
theorem own_noneG (w : World) (t : TypeId) (sz : Nat) : (w.alloc (Obj.cells #[] t)).ownsRow w.heap.size t sz (.slice (some ⟨w.heap.size, 0, none⟩) 0 0) 0 [] :=
  ⟨by simp, .inr ⟨w.heap.size, 0, #[], rfl, Nat.le_refl _, heap_alloc_new w _, Nat.le_refl _, Nat.zero_le _, by simp, by simp⟩⟩
/-- what a row of the call's own is -/
theorem rf_own {w : World} {base n c sz : Nat} {t : TypeId} {A : Option Addr} {ys : List Value} (h : w.ownsRow base t sz (.slice A n c) n ys) (h1 : ∀ u ∈ ys, u.oneCell' = true) (hn : n ≤ 100) (P : Nat → Prop) (hP : ∀ q, P q → q < base) : RfAt w P sz ⟨A, n, c, ys⟩ := by
  rcases own_addr h with ⟨rfl, e1, e2⟩ | ⟨g, rfl⟩
  · refine ⟨⟨h.1, h1, .inl e1⟩, (by show n ≤ c; omega), hn, fun a ha => (by cases ha), fun _ => ⟨e1, e2⟩⟩
  · have r := ownG_rng h
    have hb := ownG_base h g rfl
    exact ⟨⟨h.1, h1, .inr ⟨g, 0, rfl, r.1, r.2.2⟩⟩, r.2.1, hn, fun a ha => by cases ha; exact ⟨rfl, r.1, fun hp => by have : g < base := hP _ hp; omega⟩, fun ha => (by cases ha)⟩
end Go.Proofs.Ytmcmdpbdipgahaa

/-
  Rows copied; a record with rows of its own.
-/
namespace Go.Proofs.Ytmcmdpbdipgahaa
open Go.RowKit
set_option maxRecDepth 100000
theorem below_alloc0 (w : World) (o : Obj) : Below w.heap.size w (w.alloc o) := (Below.refl _ w).alloc (Nat.le_refl _) _
theorem ziH : ∃ z by', (Try.prog.info? 31).map (fun i => (i.zero, i.size, i.bytes)) = some (some z, 8, by') ∧ z.cells.size = 8 ∧ by' ≤ 1000 := by
  refine ⟨.agg (List.replicate 8 (.int .u8 0)).toArray, 8, by kernel_rfl, by kernel_rfl, by decide⟩
set_option maxHeartbeats 1000000 in
theorem cloneH (P : Nat → Prop) (r : Rf) (w : World) (h : RfAt w P 8 r) :
    Calls Try.prog 50 #[.slice r.A r.n r.c] w fun e w' => ∃ r' : Rf, e = .returned (.slice r'.A r'.n r'.c) ∧ r'.n = r.n ∧ r'.ys = r.ys ∧ RfAt w' (fun q => q < w.heap.size) 8 r' ∧ Below w.heap.size w w' := by
  obtain ⟨A, n, c, ys⟩ := r
  cases A with
  | none =>
    obtain ⟨h1, h2⟩ := h.nil rfl
    have h3 := h.src.1
    have h1 : n = 0 := h1
    have h2 : c = 0 := h2
    subst h1 h2
    have h3 : ys = [] := List.eq_nil_of_length_eq_zero (by simpa using h3)
    subst h3
    have hnil : ∀ w : World, (binOp BinOp.eql 36 (.slice none 0 0) (.slice none 0 0)).run Try.prog w = .ok (.bool true) w := fun _ => by kernel_rfl
    show Calls Try.prog 50 #[.slice none 0 0] w _
    clear h
    go_enter Try.func50, Try.ntmps50
    go_wp2
    go_ret
    exact ⟨rf0, rfl, rfl, rfl, rf0_at _ _ _, Below.refl _ _⟩
  | some ad =>
    obtain ⟨z, by', g1, g2, g3⟩ := ziH
    have hnil : ∀ w : World, (binOp BinOp.eql 36 (.slice (some ad) n c) (.slice none 0 0)).run Try.prog w = .ok (.bool false) w := fun _ => rfl
    have HS : Hid (SrcG (w.alloc (Obj.cells #[] 31)) 8 (some ad) n ys) := Lib.hid (h.src.keep (below_alloc0 w _))
    have H100 : Hid (n ≤ 100) := Lib.hid h.big
    have H1 : Hid (∀ u ∈ ys, u.oneCell' = true) := Lib.hid h.src.2.1
    have G1 := Lib.hid g1
    have G2 := Lib.hid g2
    have G3 := Lib.hid g3
    show Calls Try.prog 50 #[.slice (some ad) n c] w _
    clear h g1 g2 g3
    go_enter Try.func50, Try.ntmps50
    go_wp2_with (at_builtin; refine wpList_appG Try.underlying36 G1.out G2.out (by decide) G3.out rfl (.tmp 5) (.tmp 6) rfl w.heap.size 0 n c (.slice (some ⟨w.heap.size, 0, none⟩) 0 0) [] ys (some ad) rfl rfl (own_noneG w 31 8) HS.out (by omega) (by have := H100.out; omega) (by simp) ?_; intro A2 c2 w2 hown2 hb2; rw [Nat.zero_add, List.nil_append] at hown2; have O2 := Lib.hid hown2; have B2 := Lib.hid hb2; clear hown2 hb2)
    go_ret
    exact ⟨⟨A2, n, c2, ys⟩, by first | rfl | (simp; done), rfl, rfl, rf_own O2.out H1.out H100.out _ fun q hq => hq, (below_alloc0 w _).trans B2.out⟩
theorem ziO : ∃ z by', (Try.prog.info? 93).map (fun i => (i.zero, i.size, i.bytes)) = some (some z, 9, by') ∧ z.cells.size = 9 ∧ by' ≤ 1000 := by
  refine ⟨.agg (List.replicate 8 (Value.int .u8 0) ++ [Value.int .i64 0]).toArray, 16, by kernel_rfl, by kernel_rfl, by decide⟩
set_option maxHeartbeats 1000000 in
theorem cloneO (P : Nat → Prop) (r : Rf) (w : World) (h : RfAt w P 9 r) :
    Calls Try.prog 51 #[.slice r.A r.n r.c] w fun e w' => ∃ r' : Rf, e = .returned (.slice r'.A r'.n r'.c) ∧ r'.n = r.n ∧ r'.ys = r.ys ∧ RfAt w' (fun q => q < w.heap.size) 9 r' ∧ Below w.heap.size w w' := by
  obtain ⟨A, n, c, ys⟩ := r
  cases A with
  | none =>
    obtain ⟨h1, h2⟩ := h.nil rfl
    have h3 := h.src.1
    have h1 : n = 0 := h1
    have h2 : c = 0 := h2
    subst h1 h2
    have h3 : ys = [] := List.eq_nil_of_length_eq_zero (by simpa using h3)
    subst h3
    have hnil : ∀ w : World, (binOp BinOp.eql 47 (.slice none 0 0) (.slice none 0 0)).run Try.prog w = .ok (.bool true) w := fun _ => by kernel_rfl
    show Calls Try.prog 51 #[.slice none 0 0] w _
    clear h
    go_enter Try.func51, Try.ntmps51
    go_wp2
    go_ret
    exact ⟨rf0, rfl, rfl, rfl, rf0_at _ _ _, Below.refl _ _⟩
  | some ad =>
    obtain ⟨z, by', g1, g2, g3⟩ := ziO
    have hnil : ∀ w : World, (binOp BinOp.eql 47 (.slice (some ad) n c) (.slice none 0 0)).run Try.prog w = .ok (.bool false) w := fun _ => rfl
    have HS : Hid (SrcG (w.alloc (Obj.cells #[] 93)) 9 (some ad) n ys) := Lib.hid (h.src.keep (below_alloc0 w _))
    have H100 : Hid (n ≤ 100) := Lib.hid h.big
    have H1 : Hid (∀ u ∈ ys, u.oneCell' = true) := Lib.hid h.src.2.1
    have G1 := Lib.hid g1
    have G2 := Lib.hid g2
    have G3 := Lib.hid g3
    show Calls Try.prog 51 #[.slice (some ad) n c] w _
    clear h g1 g2 g3
    go_enter Try.func51, Try.ntmps51
    go_wp2_with (at_builtin; refine wpList_appG Try.underlying47 G1.out G2.out (by decide) G3.out rfl (.tmp 5) (.tmp 6) rfl w.heap.size 0 n c (.slice (some ⟨w.heap.size, 0, none⟩) 0 0) [] ys (some ad) rfl rfl (own_noneG w 93 9) HS.out (by omega) (by have := H100.out; omega) (by simp) ?_; intro A2 c2 w2 hown2 hb2; rw [Nat.zero_add, List.nil_append] at hown2; have O2 := Lib.hid hown2; have B2 := Lib.hid hb2; clear hown2 hb2)
    go_ret
    exact ⟨⟨A2, n, c2, ys⟩, by first | rfl | (simp; done), rfl, rfl, rf_own O2.out H1.out H100.out _ fun q hq => hq, (below_alloc0 w _).trans B2.out⟩
theorem ziG : ∃ z by', (Try.prog.info? 100).map (fun i => (i.zero, i.size, i.bytes)) = some (some z, 282, by') ∧ z.cells.size = 282 ∧ by' ≤ 1000 := by
  refine ⟨.agg ([Value.int .i64 0, Value.int .i64 0] ++ List.replicate 280 (Value.int .u8 0)).toArray, 296, by kernel_rfl, by kernel_rfl, by decide⟩
set_option maxHeartbeats 1000000 in
theorem cloneG (P : Nat → Prop) (r : Rf) (w : World) (h : RfAt w P 282 r) :
    Calls Try.prog 52 #[.slice r.A r.n r.c] w fun e w' => ∃ r' : Rf, e = .returned (.slice r'.A r'.n r'.c) ∧ r'.n = r.n ∧ r'.ys = r.ys ∧ RfAt w' (fun q => q < w.heap.size) 282 r' ∧ Below w.heap.size w w' := by
  obtain ⟨A, n, c, ys⟩ := r
  cases A with
  | none =>
    obtain ⟨h1, h2⟩ := h.nil rfl
    have h3 := h.src.1
    have h1 : n = 0 := h1
    have h2 : c = 0 := h2
    subst h1 h2
    have h3 : ys = [] := List.eq_nil_of_length_eq_zero (by simpa using h3)
    subst h3
    have hnil : ∀ w : World, (binOp BinOp.eql 48 (.slice none 0 0) (.slice none 0 0)).run Try.prog w = .ok (.bool true) w := fun _ => by kernel_rfl
    show Calls Try.prog 52 #[.slice none 0 0] w _
    clear h
    go_enter Try.func52, Try.ntmps52
    go_wp2
    go_ret
    exact ⟨rf0, rfl, rfl, rfl, rf0_at _ _ _, Below.refl _ _⟩
  | some ad =>
    obtain ⟨z, by', g1, g2, g3⟩ := ziG
    have hnil : ∀ w : World, (binOp BinOp.eql 48 (.slice (some ad) n c) (.slice none 0 0)).run Try.prog w = .ok (.bool false) w := fun _ => rfl
    have HS : Hid (SrcG (w.alloc (Obj.cells #[] 100)) 282 (some ad) n ys) := Lib.hid (h.src.keep (below_alloc0 w _))
    have H100 : Hid (n ≤ 100) := Lib.hid h.big
    have H1 : Hid (∀ u ∈ ys, u.oneCell' = true) := Lib.hid h.src.2.1
    have G1 := Lib.hid g1
    have G2 := Lib.hid g2
    have G3 := Lib.hid g3
    show Calls Try.prog 52 #[.slice (some ad) n c] w _
    clear h g1 g2 g3
    go_enter Try.func52, Try.ntmps52
    go_wp2_with (at_builtin; refine wpList_appG Try.underlying48 G1.out G2.out (by decide) G3.out rfl (.tmp 5) (.tmp 6) rfl w.heap.size 0 n c (.slice (some ⟨w.heap.size, 0, none⟩) 0 0) [] ys (some ad) rfl rfl (own_noneG w 100 282) HS.out (by omega) (by have := H100.out; omega) (by simp) ?_; intro A2 c2 w2 hown2 hb2; rw [Nat.zero_add, List.nil_append] at hown2; have O2 := Lib.hid hown2; have B2 := Lib.hid hb2; clear hown2 hb2)
    go_ret
    exact ⟨⟨A2, n, c2, ys⟩, by first | rfl | (simp; done), rfl, rfl, rf_own O2.out H1.out H100.out _ fun q hq => hq, (below_alloc0 w _).trans B2.out⟩
theorem ziI : ∃ z by', (Try.prog.info? 3).map (fun i => (i.zero, i.size, i.bytes)) = some (some z, 1, by') ∧ z.cells.size = 1 ∧ by' ≤ 1000 := by
  refine ⟨.int .i64 0, 8, by kernel_rfl, by kernel_rfl, by decide⟩
set_option maxHeartbeats 1000000 in
theorem cloneI (P : Nat → Prop) (r : Rf) (w : World) (h : RfAt w P 1 r) :
    Calls Try.prog 53 #[.slice r.A r.n r.c] w fun e w' => ∃ r' : Rf, e = .returned (.slice r'.A r'.n r'.c) ∧ r'.n = r.n ∧ r'.ys = r.ys ∧ RfAt w' (fun q => q < w.heap.size) 1 r' ∧ Below w.heap.size w w' := by
  obtain ⟨A, n, c, ys⟩ := r
  cases A with
  | none =>
    obtain ⟨h1, h2⟩ := h.nil rfl
    have h3 := h.src.1
    have h1 : n = 0 := h1
    have h2 : c = 0 := h2
    subst h1 h2
    have h3 : ys = [] := List.eq_nil_of_length_eq_zero (by simpa using h3)
    subst h3
    have hnil : ∀ w : World, (binOp BinOp.eql 51 (.slice none 0 0) (.slice none 0 0)).run Try.prog w = .ok (.bool true) w := fun _ => by kernel_rfl
    show Calls Try.prog 53 #[.slice none 0 0] w _
    clear h
    go_enter Try.func53, Try.ntmps53
    go_wp2
    go_ret
    exact ⟨rf0, rfl, rfl, rfl, rf0_at _ _ _, Below.refl _ _⟩
  | some ad =>
    obtain ⟨z, by', g1, g2, g3⟩ := ziI
    have hnil : ∀ w : World, (binOp BinOp.eql 51 (.slice (some ad) n c) (.slice none 0 0)).run Try.prog w = .ok (.bool false) w := fun _ => rfl
    have HS : Hid (SrcG (w.alloc (Obj.cells #[] 3)) 1 (some ad) n ys) := Lib.hid (h.src.keep (below_alloc0 w _))
    have H100 : Hid (n ≤ 100) := Lib.hid h.big
    have H1 : Hid (∀ u ∈ ys, u.oneCell' = true) := Lib.hid h.src.2.1
    have G1 := Lib.hid g1
    have G2 := Lib.hid g2
    have G3 := Lib.hid g3
    show Calls Try.prog 53 #[.slice (some ad) n c] w _
    clear h g1 g2 g3
    go_enter Try.func53, Try.ntmps53
    go_wp2_with (at_builtin; refine wpList_appG Try.underlying51 G1.out G2.out (by decide) G3.out rfl (.tmp 5) (.tmp 6) rfl w.heap.size 0 n c (.slice (some ⟨w.heap.size, 0, none⟩) 0 0) [] ys (some ad) rfl rfl (own_noneG w 3 1) HS.out (by omega) (by have := H100.out; omega) (by simp) ?_; intro A2 c2 w2 hown2 hb2; rw [Nat.zero_add, List.nil_append] at hown2; have O2 := Lib.hid hown2; have B2 := Lib.hid hb2; clear hown2 hb2)
    go_ret
    exact ⟨⟨A2, n, c2, ys⟩, by first | rfl | (simp; done), rfl, rfl, rf_own O2.out H1.out H100.out _ fun q hq => hq, (below_alloc0 w _).trans B2.out⟩
end Go.Proofs.Ytmcmdpbdipgahaa

/-
  own: a record with rows of its own.
-/
namespace Go.Proofs.Ytmcmdpbdipgahaa
open Go.RowKit
set_option maxRecDepth 100000
theorem RfAt.old {w : World} {P : Nat → Prop} {sz : Nat} {r : Rf} (h : RfAt w P sz r) : RfAt w (fun q => w.heap.size ≤ q) sz r := ⟨h.src, h.cap, h.big, fun a ha => ⟨(h.pl a ha).1, (h.pl a ha).2.1, by have := (h.pl a ha).2.1; omega⟩, h.nil⟩
theorem RfAt.at {w v : World} {P : Nat → Prop} {sz S : Nat} {r : Rf} (h : RfAt w P sz r) (hS : w.heap.size = S) (hb : Below S w v) : RfAt v (fun q => S ≤ q) sz r := by
  subst hS
  exact h.old.keep hb.size (fun q hq _ => hb.block q hq) fun q hq h => h
/-- what the call lays, from N on, while one below N is written -/
theorem RfAt.low {w v : World} {P : Nat → Prop} {sz N : Nat} {r : Rf} (h : RfAt w P sz r) (hP : ∀ q, q < N → P q) (hs : w.heap.size ≤ v.heap.size) (hb : ∀ q, q < w.heap.size → N ≤ q → v.heap[q]? = w.heap[q]?) : RfAt v (fun q => q < N) sz r := by
  have h1 : RfAt w (fun q => q < N) sz r := ⟨h.src, h.cap, h.big, fun a ha => ⟨(h.pl a ha).1, (h.pl a ha).2.1, fun hq => (h.pl a ha).2.2 (hP _ hq)⟩, h.nil⟩
  exact h1.keep hs (fun q hq hn => hb q hq (by omega)) fun q _ h => h
theorem SdAt.old {w v : World} {P : Nat → Prop} {S : Nat} {x : Sm} (h : SdAt w P x) (hS : w.heap.size = S) (hb : Below S w v) : SdAt v (fun q => S ≤ q) x := ⟨h.K.at hS hb, h.O.at hS hb, h.G.at hS hb, h.U.at hS hb⟩
theorem sz53 : (Try.prog.info? 53).map (·.size) = some 42 := by kernel_rfl
theorem sd_at {w : World} {b : Nat} {x : Sm} {T : TypeId} (h : BL w b (sdV x) T) {i : Nat} {v : Value} (hv : (sdV x)[i]? = some v) : w.cell? ⟨b, i, none⟩ = some v := by
  have := (range_of h) i v hv
  rwa [Nat.zero_add] at this
set_option maxHeartbeats 4000000 in
theorem kOwn (P : Nat → Prop) (x : Sm) (w : World) (h : SdAt w P x) :
    Calls Try.prog 38 #[.agg (sdV x).toArray] w fun e w' => ∃ x' : Sm, e = .returned (.agg (sdV x').toArray) ∧ x'.con = x.con ∧ SdAt w' (fun q => q < w.heap.size) x' ∧ Below w.heap.size w w' := by
  obtain ⟨S, hS⟩ : ∃ S, w.heap.size = S := ⟨_, rfl⟩
  have HS := Lib.hid hS
  have HA : Hid (∀ v, Below S w v → SdAt v (fun q => S ≤ q) x) := Lib.hid fun v hb => h.old hS hb
  clear h
  obtain ⟨sc, K, O, G, U⟩ := x
  obtain ⟨v, hv⟩ : ∃ v, ((w.alloc (Obj.cells (sdV ⟨sc, K, O, G, U⟩).toArray 53)).alloc (Obj.cells (sdV sm0).toArray 53)) = v := ⟨_, rfl⟩
  have RA : Hid (BL v S (sdV ⟨sc, K, O, G, U⟩) 53) := Lib.hid (by
    subst hv hS
    exact bl_keep (heap_alloc_last w _) (Below.heap_alloc _ _ _ (by simp)))
  have RB : Hid (BL v (S + 1) (sdV sm0) 53) := Lib.hid (by
    subst hv hS
    have := heap_alloc_last (w.alloc (Obj.cells (sdV ⟨sc, K, O, G, U⟩).toArray 53)) (Obj.cells (sdV sm0).toArray 53)
    rw [World.size_alloc] at this
    exact this)
  have BV : Hid (Below S w v) := Lib.hid (by subst hv hS; exact ((Below.refl _ w).alloc (Nat.le_refl _) _).alloc (by simp) _)
  have VS : Hid (v.heap.size = S + 2) := Lib.hid (by subst hv hS; show _ = _; rw [World.size_alloc, World.size_alloc])
  have SB : Hid (S + 1 < v.heap.size) := Lib.hid (by have := VS.out; omega)
  have c3 := sd_at RA.out (i := 3) rfl
  have hz := z53
  have NE : S ≠ S + 1 := by omega
  go_enter Try.func38, Try.ntmps38
  go_upto_region 1 with (fail)
  rw [hv] at *
  clear hv
  go_wp2_with fail
  refine (cloneH (fun q => S ≤ q) K v (HA.out _ BV.out).K).mono ?_
  rintro e w1 ⟨K', rfl, hn1, hy1, hr1, hb1⟩
  have F1 : Hid (K'.n = K.n ∧ K'.ys = K.ys) := Lib.hid ⟨hn1, hy1⟩
  have Q1 : Hid (Below v.heap.size v w1) := Lib.hid hb1
  have SA1 : Hid (S + 1 < w1.heap.size) := Lib.hid (Nat.lt_of_lt_of_le SB.out hb1.size)
  have Ra1 : Hid (BL w1 S (sdV ⟨sc, K, O, G, U⟩) 53) := Lib.hid (bl_keep RA.out (hb1.block S (by have := SB.out; omega)))
  have Rb1 : Hid (BL w1 (S + 1) (sdV sm0) 53) := Lib.hid (bl_keep RB.out (hb1.block (S + 1) SB.out))
  have Bw1 : Hid (Below S w w1) := Lib.hid (BV.out.trans (hb1.mono (by have := SB.out; omega)))
  have TK : Hid (RfAt w1 (fun q => q < S + 2) 8 K') := Lib.hid (hr1.low (fun q hq => by have := SB.out; omega) (Nat.le_refl _) fun _ _ _ => rfl)
  have fr1 : w1.frozen? ⟨S, 3, none⟩ = false := bl_free Ra1.out 3
  have d1 := sd_at Ra1.out (i := 39) rfl
  have ex1 := sd_at Ra1.out (i := 3) rfl
  have R1A : Hid (BL (w1.setCell ⟨S, 3, none⟩ (.slice K'.A K'.n K'.c)) S (sdV ⟨sc, K', O, G, U⟩) 53) := Lib.hid (bl_set Ra1.out 3 (.slice K'.A K'.n K'.c))
  have R1B : Hid (BL (w1.setCell ⟨S, 3, none⟩ (.slice K'.A K'.n K'.c)) (S + 1) (sdV sm0) 53) := Lib.hid (bl_keep Rb1.out (heap_set1 _ _ _ (by omega)))
  have B1 : Hid (Below S w (w1.setCell ⟨S, 3, none⟩ (.slice K'.A K'.n K'.c))) := Lib.hid (Bw1.out.setCell (Nat.le_refl _) _)
  have SZ1 : Hid (S + 1 < (w1.setCell ⟨S, 3, none⟩ (.slice K'.A K'.n K'.c)).heap.size) := Lib.hid (by have := SA1.out; simpa using this)
  have HK : Hid (RfAt (w1.setCell ⟨S, 3, none⟩ (.slice K'.A K'.n K'.c)) (fun q => q < S + 2) 8 K') := Lib.hid (TK.out.low (fun _ h => h) (by simp) fun q _ hq => heap_set1 _ _ _ (by omega))
  clear TK
  clear hn1 hy1 hr1 hb1 c3  Ra1 Rb1 Bw1 SA1 Q1
  go_wp2_with fail
  clear fr1 ex1 d1
  generalize w1.setCell ⟨S, 3, none⟩ (.slice K'.A K'.n K'.c) = v1 at *
  have c1 := sd_at R1A.out (i := 39) rfl
  refine (cloneO (fun q => S ≤ q) O v1 (HA.out _ B1.out).O).mono ?_
  rintro e w2 ⟨O', rfl, hn2, hy2, hr2, hb2⟩
  have F2 : Hid (O'.n = O.n ∧ O'.ys = O.ys) := Lib.hid ⟨hn2, hy2⟩
  have Q2 : Hid (Below v1.heap.size v1 w2) := Lib.hid hb2
  have SA2 : Hid (S + 1 < w2.heap.size) := Lib.hid (Nat.lt_of_lt_of_le SZ1.out hb2.size)
  have Ra2 : Hid (BL w2 S (sdV ⟨sc, K', O, G, U⟩) 53) := Lib.hid (bl_keep R1A.out (hb2.block S (by have := SZ1.out; omega)))
  have Rb2 : Hid (BL w2 (S + 1) (sdV sm0) 53) := Lib.hid (bl_keep R1B.out (hb2.block (S + 1) SZ1.out))
  have Bw2 : Hid (Below S w w2) := Lib.hid (B1.out.trans (hb2.mono (by have := SZ1.out; omega)))
  have TK : Hid (RfAt w2 (fun q => q < S + 2) 8 K') := Lib.hid (HK.out.low (fun _ h => h) hb2.size fun q hq _ => hb2.block q hq)
  clear HK
  have TO : Hid (RfAt w2 (fun q => q < S + 2) 9 O') := Lib.hid (hr2.low (fun q hq => by have := SZ1.out; omega) (Nat.le_refl _) fun _ _ _ => rfl)
  have fr2 : w2.frozen? ⟨S, 39, none⟩ = false := bl_free Ra2.out 39
  have d2 := sd_at Ra2.out (i := 40) rfl
  have ex2 := sd_at Ra2.out (i := 39) rfl
  have R2A : Hid (BL (w2.setCell ⟨S, 39, none⟩ (.slice O'.A O'.n O'.c)) S (sdV ⟨sc, K', O', G, U⟩) 53) := Lib.hid (bl_set Ra2.out 39 (.slice O'.A O'.n O'.c))
  have R2B : Hid (BL (w2.setCell ⟨S, 39, none⟩ (.slice O'.A O'.n O'.c)) (S + 1) (sdV sm0) 53) := Lib.hid (bl_keep Rb2.out (heap_set1 _ _ _ (by omega)))
  have B2 : Hid (Below S w (w2.setCell ⟨S, 39, none⟩ (.slice O'.A O'.n O'.c))) := Lib.hid (Bw2.out.setCell (Nat.le_refl _) _)
  have SZ2 : Hid (S + 1 < (w2.setCell ⟨S, 39, none⟩ (.slice O'.A O'.n O'.c)).heap.size) := Lib.hid (by have := SA2.out; simpa using this)
  have HK : Hid (RfAt (w2.setCell ⟨S, 39, none⟩ (.slice O'.A O'.n O'.c)) (fun q => q < S + 2) 8 K') := Lib.hid (TK.out.low (fun _ h => h) (by simp) fun q _ hq => heap_set1 _ _ _ (by omega))
  clear TK
  have HO : Hid (RfAt (w2.setCell ⟨S, 39, none⟩ (.slice O'.A O'.n O'.c)) (fun q => q < S + 2) 9 O') := Lib.hid (TO.out.low (fun _ h => h) (by simp) fun q _ hq => heap_set1 _ _ _ (by omega))
  clear TO
  clear hn2 hy2 hr2 hb2 c1  Ra2 Rb2 Bw2 SA2 Q2
  go_wp2_with fail
  clear fr2 ex2 d2
  generalize w2.setCell ⟨S, 39, none⟩ (.slice O'.A O'.n O'.c) = v2 at *
  have c2 := sd_at R2A.out (i := 40) rfl
  refine (cloneG (fun q => S ≤ q) G v2 (HA.out _ B2.out).G).mono ?_
  rintro e w3 ⟨G', rfl, hn3, hy3, hr3, hb3⟩
  have F3 : Hid (G'.n = G.n ∧ G'.ys = G.ys) := Lib.hid ⟨hn3, hy3⟩
  have Q3 : Hid (Below v2.heap.size v2 w3) := Lib.hid hb3
  have SA3 : Hid (S + 1 < w3.heap.size) := Lib.hid (Nat.lt_of_lt_of_le SZ2.out hb3.size)
  have Ra3 : Hid (BL w3 S (sdV ⟨sc, K', O', G, U⟩) 53) := Lib.hid (bl_keep R2A.out (hb3.block S (by have := SZ2.out; omega)))
  have Rb3 : Hid (BL w3 (S + 1) (sdV sm0) 53) := Lib.hid (bl_keep R2B.out (hb3.block (S + 1) SZ2.out))
  have Bw3 : Hid (Below S w w3) := Lib.hid (B2.out.trans (hb3.mono (by have := SZ2.out; omega)))
  have TK : Hid (RfAt w3 (fun q => q < S + 2) 8 K') := Lib.hid (HK.out.low (fun _ h => h) hb3.size fun q hq _ => hb3.block q hq)
  clear HK
  have TO : Hid (RfAt w3 (fun q => q < S + 2) 9 O') := Lib.hid (HO.out.low (fun _ h => h) hb3.size fun q hq _ => hb3.block q hq)
  clear HO
  have TG : Hid (RfAt w3 (fun q => q < S + 2) 282 G') := Lib.hid (hr3.low (fun q hq => by have := SZ2.out; omega) (Nat.le_refl _) fun _ _ _ => rfl)
  have fr3 : w3.frozen? ⟨S, 40, none⟩ = false := bl_free Ra3.out 40
  have d3 := sd_at Ra3.out (i := 41) rfl
  have ex3 := sd_at Ra3.out (i := 40) rfl
  have R3A : Hid (BL (w3.setCell ⟨S, 40, none⟩ (.slice G'.A G'.n G'.c)) S (sdV ⟨sc, K', O', G', U⟩) 53) := Lib.hid (bl_set Ra3.out 40 (.slice G'.A G'.n G'.c))
  have R3B : Hid (BL (w3.setCell ⟨S, 40, none⟩ (.slice G'.A G'.n G'.c)) (S + 1) (sdV sm0) 53) := Lib.hid (bl_keep Rb3.out (heap_set1 _ _ _ (by omega)))
  have B3 : Hid (Below S w (w3.setCell ⟨S, 40, none⟩ (.slice G'.A G'.n G'.c))) := Lib.hid (Bw3.out.setCell (Nat.le_refl _) _)
  have SZ3 : Hid (S + 1 < (w3.setCell ⟨S, 40, none⟩ (.slice G'.A G'.n G'.c)).heap.size) := Lib.hid (by have := SA3.out; simpa using this)
  have HK : Hid (RfAt (w3.setCell ⟨S, 40, none⟩ (.slice G'.A G'.n G'.c)) (fun q => q < S + 2) 8 K') := Lib.hid (TK.out.low (fun _ h => h) (by simp) fun q _ hq => heap_set1 _ _ _ (by omega))
  clear TK
  have HO : Hid (RfAt (w3.setCell ⟨S, 40, none⟩ (.slice G'.A G'.n G'.c)) (fun q => q < S + 2) 9 O') := Lib.hid (TO.out.low (fun _ h => h) (by simp) fun q _ hq => heap_set1 _ _ _ (by omega))
  clear TO
  have HG : Hid (RfAt (w3.setCell ⟨S, 40, none⟩ (.slice G'.A G'.n G'.c)) (fun q => q < S + 2) 282 G') := Lib.hid (TG.out.low (fun _ h => h) (by simp) fun q _ hq => heap_set1 _ _ _ (by omega))
  clear TG
  clear hn3 hy3 hr3 hb3 c2  Ra3 Rb3 Bw3 SA3 Q3
  go_wp2_with fail
  clear fr3 ex3 d3
  generalize w3.setCell ⟨S, 40, none⟩ (.slice G'.A G'.n G'.c) = v3 at *
  have c3 := sd_at R3A.out (i := 41) rfl
  refine (cloneI (fun q => S ≤ q) U v3 (HA.out _ B3.out).U).mono ?_
  rintro e w4 ⟨U', rfl, hn4, hy4, hr4, hb4⟩
  have F4 : Hid (U'.n = U.n ∧ U'.ys = U.ys) := Lib.hid ⟨hn4, hy4⟩
  have Q4 : Hid (Below v3.heap.size v3 w4) := Lib.hid hb4
  have SA4 : Hid (S + 1 < w4.heap.size) := Lib.hid (Nat.lt_of_lt_of_le SZ3.out hb4.size)
  have Ra4 : Hid (BL w4 S (sdV ⟨sc, K', O', G', U⟩) 53) := Lib.hid (bl_keep R3A.out (hb4.block S (by have := SZ3.out; omega)))
  have Rb4 : Hid (BL w4 (S + 1) (sdV sm0) 53) := Lib.hid (bl_keep R3B.out (hb4.block (S + 1) SZ3.out))
  have Bw4 : Hid (Below S w w4) := Lib.hid (B3.out.trans (hb4.mono (by have := SZ3.out; omega)))
  have TK : Hid (RfAt w4 (fun q => q < S + 2) 8 K') := Lib.hid (HK.out.low (fun _ h => h) hb4.size fun q hq _ => hb4.block q hq)
  clear HK
  have TO : Hid (RfAt w4 (fun q => q < S + 2) 9 O') := Lib.hid (HO.out.low (fun _ h => h) hb4.size fun q hq _ => hb4.block q hq)
  clear HO
  have TG : Hid (RfAt w4 (fun q => q < S + 2) 282 G') := Lib.hid (HG.out.low (fun _ h => h) hb4.size fun q hq _ => hb4.block q hq)
  clear HG
  have TU : Hid (RfAt w4 (fun q => q < S + 2) 1 U') := Lib.hid (hr4.low (fun q hq => by have := SZ3.out; omega) (Nat.le_refl _) fun _ _ _ => rfl)
  have fr4 : w4.frozen? ⟨S, 41, none⟩ = false := bl_free Ra4.out 41
  have ex4 := sd_at Ra4.out (i := 41) rfl
  have R4A : Hid (BL (w4.setCell ⟨S, 41, none⟩ (.slice U'.A U'.n U'.c)) S (sdV ⟨sc, K', O', G', U'⟩) 53) := Lib.hid (bl_set Ra4.out 41 (.slice U'.A U'.n U'.c))
  have R4B : Hid (BL (w4.setCell ⟨S, 41, none⟩ (.slice U'.A U'.n U'.c)) (S + 1) (sdV sm0) 53) := Lib.hid (bl_keep Rb4.out (heap_set1 _ _ _ (by omega)))
  have B4 : Hid (Below S w (w4.setCell ⟨S, 41, none⟩ (.slice U'.A U'.n U'.c))) := Lib.hid (Bw4.out.setCell (Nat.le_refl _) _)
  have SZ4 : Hid (S + 1 < (w4.setCell ⟨S, 41, none⟩ (.slice U'.A U'.n U'.c)).heap.size) := Lib.hid (by have := SA4.out; simpa using this)
  have HK : Hid (RfAt (w4.setCell ⟨S, 41, none⟩ (.slice U'.A U'.n U'.c)) (fun q => q < S + 2) 8 K') := Lib.hid (TK.out.low (fun _ h => h) (by simp) fun q _ hq => heap_set1 _ _ _ (by omega))
  clear TK
  have HO : Hid (RfAt (w4.setCell ⟨S, 41, none⟩ (.slice U'.A U'.n U'.c)) (fun q => q < S + 2) 9 O') := Lib.hid (TO.out.low (fun _ h => h) (by simp) fun q _ hq => heap_set1 _ _ _ (by omega))
  clear TO
  have HG : Hid (RfAt (w4.setCell ⟨S, 41, none⟩ (.slice U'.A U'.n U'.c)) (fun q => q < S + 2) 282 G') := Lib.hid (TG.out.low (fun _ h => h) (by simp) fun q _ hq => heap_set1 _ _ _ (by omega))
  clear TG
  have HU : Hid (RfAt (w4.setCell ⟨S, 41, none⟩ (.slice U'.A U'.n U'.c)) (fun q => q < S + 2) 1 U') := Lib.hid (TU.out.low (fun _ h => h) (by simp) fun q _ hq => heap_set1 _ _ _ (by omega))
  clear TU
  clear hn4 hy4 hr4 hb4 c3  Ra4 Rb4 Bw4 SA4 Q4
  generalize hv4 : w4.setCell ⟨S, 41, none⟩ (.slice U'.A U'.n U'.c) = v4 at *
  go_wp2_with (first
    | (refine wpList_load_midG (by rfl) 53 (.tmp 1) rfl S 0 rfl (sdV ⟨sc, K', O', G', U'⟩) _ (range_of R4A.out) Try.underlying53 rfl (szL sz53 rfl) ?_)
    | (refine wpList_store_rowTo rfl 53 (.tmp 2) (.tmp 25) rfl rfl (S + 1) (sdV ⟨sc, K', O', G', U'⟩).toArray rfl rfl 53 _ R4B.out (szA sz53 rfl) (show (sdV sm0).toArray.size = _ from rfl) (all_oneCell_toArray (sd_one _)) ?_)
    | fail)
  refine bodyPost_ret (v := .agg (sdV ⟨sc, K', O', G', U'⟩).toArray) (results_cell_row rfl _ _ (S + 1) 53 (sdV ⟨sc, K', O', G', U'⟩).toArray (0, 0) _ rfl (setRow_heap _ _ _ _ _ _ R4B.out) Try.underlying53 rfl (szA sz53 rfl)) rfl ?_
  rw [HS.out]
  have hp : ∀ q, q < S → q < S + 2 := fun q h => by omega
  have low : ∀ {sz : Nat} {r : Rf}, RfAt v4 (fun q => q < S + 2) sz r → RfAt (v4.setRow (S + 1) (sdV ⟨sc, K', O', G', U'⟩).toArray) (fun q => q < S) sz r := fun h => h.keep (by simp) (fun q _ hq => setRow_other _ _ _ _ (by omega)) fun q _ h => hp q h
  refine ⟨⟨sc, K', O', G', U'⟩, rfl, ?_, ⟨low HK.out, low HO.out, low HG.out, low HU.out⟩, below_setRow B4.out (by omega) _⟩
  unfold Sm.con
  simp only [F1.out.1, F1.out.2, F2.out.1, F2.out.2, F3.out.1, F3.out.2, F4.out.1, F4.out.2]
end Go.Proofs.Ytmcmdpbdipgahaa
