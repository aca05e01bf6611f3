/-
  A step built, a slice of it, its append.
-/
import Derived.Test.YtdggnmlhgglccaaU8
import Derived.Test.YtdggnmlhgglccaaU8c
import Derived.Great.BuildSlice
namespace Go.Proofs.Ytdggnmlhgglccaa
open Go.RowKit
set_option maxRecDepth 100000
theorem info_parts {t : TypeId} {z : Value} {s b : Nat} (h : (Try.prog.info? t).map (fun i => (i.zero, i.size, i.bytes)) = some (some z, s, b)) : ∃ i, Try.prog.info? t = some i ∧ i.zero = some z ∧ i.size = s ∧ i.bytes = b := by
  cases hi : Try.prog.info? t with
  | none => rw [hi] at h; cases h
  | some i => rw [hi] at h; simp only [Option.map_some, Option.some.injEq, Prod.mk.injEq] at h; exact ⟨i, rfl, h.1, h.2.1, h.2.2⟩
def st0 : Stp := ⟨zeros 9, cn0, false⟩
theorem infoS : (Try.prog.info? 75).map (fun i => (i.zero, i.size, i.bytes)) = some (some (.agg (stV st0).toArray), 21, 56) := by kernel_rfl
theorem foldSet {α : Type} : ∀ (ys : List α) (o k : Nat) (L M R : List α), L.length = o + k → M.length = ys.length → ((ys.zipIdx k).foldl (fun (cs : Array α) (p : α × Nat) => cs.setIfInBounds (o + p.2) p.1) (L ++ M ++ R).toArray).toList = L ++ ys ++ R
  | [], _, _, L, M, R, _, h => by
    have : M = [] := List.eq_nil_of_length_eq_zero h
    subst this
    rfl
  | y :: ys, o, k, L, m :: M, R, hL, h => by
    have ih := foldSet ys o (k + 1) (L ++ [y]) M R (by simp; omega) (by simpa using h)
    have e : ((L ++ m :: M ++ R).toArray.setIfInBounds (o + k) y) = (L ++ [y] ++ M ++ R).toArray := by
      rw [← hL]
      simp
    rw [List.zipIdx_cons, List.foldl_cons, e, ih]
    simp
theorem foldArr {α : Type} (ys : Array α) (L M R : List α) (o : Nat) (A : Array α) (hA : A.toList = L ++ M ++ R) (hL : L.length = o) (hM : M.length = ys.size) : (ys.zipIdx).foldl (fun (cs : Array α) (p : α × Nat) => cs.setIfInBounds (o + p.2) p.1) A = (L ++ ys.toList ++ R).toArray := by
  have := foldSet ys.toList o 0 L M R (by omega) (by simpa using hM)
  rw [← hA] at this
  rw [← Array.foldl_toList, Array.toList_zipIdx]
  exact Array.ext' (by simpa using this)
theorem fill_part {f : Nat → Option (Nat × Nat)} {A : Array Value} {L M R ys : List Value} {v : Value} {i o n : Nat} {rest : List (Nat × Value)} (hf : f i = some (o, n)) (hA : A.toList = L ++ M ++ R) (hL : L.length = o) (hM : M.length = n) (hv : v.cells.toList = ys) (hy : ys.length = n) :
    Instr.fill f A ((i, v) :: rest) = Instr.fill f (L ++ ys ++ R).toArray rest := by
  have hs : v.cells.size = n := by rw [← hy, ← hv, Array.length_toList]
  have hz : A.size = o + n + R.length := by rw [← Array.length_toList, hA]; simp; omega
  have g : ¬ (v.cells.size ≠ n || decide (o + v.cells.size > A.size)) = true := by rw [hs, hz]; simp
  have e := foldArr v.cells L M R o A hA hL (by rw [hM, hs])
  rw [hv] at e
  conv => lhs; unfold Instr.fill
  simp only [hf]
  rw [if_neg g, e]
theorem fill_nil {f : Nat → Option (Nat × Nat)} {A : Array Value} : Instr.fill f A [] = some A := by unfold Instr.fill; rfl
theorem run_bs1 {t e n b : Nat} {z : Value} {cs : List Value} (hu : Try.prog.underlying t = some (.slice e)) (hi : (Try.prog.info? e).map (fun i => (i.zero, i.size, i.bytes)) = some (some z, n, b)) (hl : cs.length = n) (h0 : 0 < n) (hm : n ≤ 1000) (w : World) :
    (Instr.buildSlice t 1 #[(0, .agg cs.toArray)]).run Try.prog w = .ok (.slice (some ⟨w.heap.size, 0, none⟩) 1 1) (w.alloc (.cells cs.toArray e)) := by
  obtain ⟨i0, h1, h2, h3, _⟩ := info_parts hi
  refine run_buildSlice w t e 1 _ cs.toArray i0 z hu h1 h2 (by rw [h3]; omega) (by rw [h3]; omega) ?_
  rw [h3]
  have := fill_part (f := fun i => some (i * n, n)) (A := (Array.range (1 * n)).map fun x => z.cells[x % z.cells.size]!) (L := []) (M := ((Array.range (1 * n)).map fun x => z.cells[x % z.cells.size]!).toList) (R := []) (ys := cs) (v := .agg cs.toArray) (i := 0) (o := 0) (n := n) (rest := []) (by simp) (by simp) rfl (by simp) (by simp [Value.cells]) hl
  refine this.trans ?_
  rw [fill_nil]
  simp
theorem wpList_bs1 {ops : Array Oper} {rest : List Oper} {o : Oper} {a : Act} {w : World} {Q : Exit → Act → World → Prop} (hw : Region.wanted o (yielded ops a.tmps) = true) {t e n b : Nat} {z : Value} (x : Operand) (cs : List Value) (ho : o.op = .buildSlice t 1 #[(0, x)]) (hx : a.eval x = .agg cs.toArray)
    (hu : Try.prog.underlying t = some (.slice e)) (hi : (Try.prog.info? e).map (fun i => (i.zero, i.size, i.bytes)) = some (some z, n, b)) (hl : cs.length = n) (h0 : 0 < n) (hm : n ≤ 1000)
    (hK : wpList Try.prog ops Q rest (a.put o.dst (.slice (some ⟨w.heap.size, 0, none⟩) 1 1)) (w.alloc (.cells cs.toArray e))) : wpList Try.prog ops Q (o :: rest) a w := by
  unfold wpList
  rw [if_pos hw]
  refine .inl ?_
  unfold Oper.wp execOp
  simp only [ho, List.map_toArray, List.map_cons, List.map_nil, hx, Sem.run_bind, run_bs1 hu hi hl h0 hm, Result.andThen_ok, Sem.run_pure]
  exact hK
theorem step_bs1 {ops : Array Oper} {o : Oper} {a : Act} {w : World} {K : Act → World → Prop} {Q : Exit → Act → World → Prop} {E : Prop} (hw : Region.wanted o (yielded ops a.tmps) = true) {t e n b : Nat} {z : Value} (x : Operand) (cs : List Value) (ho : o.op = .buildSlice t 1 #[(0, x)]) (hx : a.eval x = .agg cs.toArray)
    (hu : Try.prog.underlying t = some (.slice e)) (hi : (Try.prog.info? e).map (fun i => (i.zero, i.size, i.bytes)) = some (some z, n, b)) (hl : cs.length = n) (h0 : 0 < n) (hm : n ≤ 1000)
    (hK : K (a.put o.dst (.slice (some ⟨w.heap.size, 0, none⟩) 1 1)) (w.alloc (.cells cs.toArray e))) : if Region.wanted o (yielded ops a.tmps) = true then Oper.wp Try.prog o a w K Q else E := by
  rw [if_pos hw]
  unfold Oper.wp execOp
  simp only [ho, List.map_toArray, List.map_cons, List.map_nil, hx, Sem.run_bind, run_bs1 hu hi hl h0 hm, Result.andThen_ok, Sem.run_pure]
  exact hK
theorem places75 : ∃ fs, Try.prog.underlying 75 = some (.struct fs) ∧ fs.toList.mapM (fun f => (Try.prog.info? f.type).map fun i => (f.offset, i.size)) = some [(0, 9), (9, 11), (20, 1)] := ⟨_, Try.underlying75, by kernel_rfl⟩
theorem zp_ok : okP (zeros 9) := by unfold okP ptS hS zeros; simp [okT, okA]
theorem b75 {p : List Int} {c : Cn} (hp : okP p) (hc : c.ok) (w : World) : (Instr.build 75 #[(0, .agg (ptV p).toArray), (1, .agg (cnV c).toArray)]).run Try.prog w = .ok (.agg (stV ⟨p, c, false⟩).toArray) w := by
  refine run_build w 75 _ _ ?_
  obtain ⟨it, hi, hz, _, _⟩ := info_parts infoS
  obtain ⟨fs, hu, hq⟩ := places75
  unfold Program.built
  rw [hi, hu]
  simp only [hz, hq]
  refine (fill_part (L := []) (M := ptV (zeros 9)) (R := cnV cn0 ++ [.bool false]) (ys := ptV p) (o := 0) (n := 9) rfl (by simp [Value.cells, stV, st0]) rfl (ptV_len zp_ok) (by simp [Value.cells]) (ptV_len hp)).trans ?_
  refine (fill_part (L := ptV p) (M := cnV cn0) (R := [.bool false]) (ys := cnV c) (o := 9) (n := 11) rfl (by simp) (ptV_len hp) (cnV_len cn0_len) (by simp [Value.cells]) (cnV_len hc.len)).trans ?_
  rw [fill_nil]
  simp [stV]
theorem b75t {p : List Int} {c : Cn} (hp : okP p) (hc : c.ok) (w : World) : (Instr.build 75 #[(0, .agg (ptV p).toArray), (1, .agg (cnV c).toArray), (2, .bool true)]).run Try.prog w = .ok (.agg (stV ⟨p, c, true⟩).toArray) w := by
  refine run_build w 75 _ _ ?_
  obtain ⟨it, hi, hz, _, _⟩ := info_parts infoS
  obtain ⟨fs, hu, hq⟩ := places75
  unfold Program.built
  rw [hi, hu]
  simp only [hz, hq]
  refine (fill_part (L := []) (M := ptV (zeros 9)) (R := cnV cn0 ++ [.bool false]) (ys := ptV p) (o := 0) (n := 9) rfl (by simp [Value.cells, stV, st0]) rfl (ptV_len zp_ok) (by simp [Value.cells]) (ptV_len hp)).trans ?_
  refine (fill_part (L := ptV p) (M := cnV cn0) (R := [.bool false]) (ys := cnV c) (o := 9) (n := 11) rfl (by simp) (ptV_len hp) (cnV_len cn0_len) (by simp [Value.cells]) (cnV_len hc.len)).trans ?_
  refine (fill_part (L := ptV p ++ cnV c) (M := [.bool false]) (R := []) (ys := [.bool true]) (o := 20) (n := 1) rfl (by simp) (by rw [List.length_append, ptV_len hp, cnV_len hc.len]) rfl (by simp [Value.cells]) rfl).trans ?_
  rw [fill_nil]
  simp [stV]
theorem rowV_cons (x : Stp) (R : List Stp) : rowV (x :: R) = rowV R ++ stV x := by simp [rowV]
theorem st_one (x : Stp) : ∀ v ∈ stV x, v.oneCell' = true := fun v hv => by
  rcases List.mem_append.1 hv with g | g
  · exact pt_one _ v g
  · rcases List.mem_append.1 g with g | g
    · exact cn_one _ v g
    · rw [List.mem_singleton.1 g]; rfl
theorem run_apS (ty : TypeId) (w : World) (A : Option Addr) (c : Nat) (R : List Stp) (x : Stp) (hown : w.ownsRow 0 75 21 (.slice A R.length c) R.length (rowV R)) (q : Nat) (hp : okP x.p) (hc : x.c.ok) (hn : w.rangeAt q 0 (stV x)) (h63 : R.length ≤ 100000) :
    ∃ A' c' w', (Builtin.append_ #[68, 68] ty #[.slice A R.length c, .slice (some ⟨q, 0, none⟩) 1 1]).run Try.prog w = .ok (.slice A' (R.length + 1) c') w' ∧ w'.ownsRow 0 75 21 (.slice A' (x :: R).length c') (x :: R).length (rowV (x :: R)) ∧ w.grownBy w' (Value.slice A R.length c).ownBlock ∧
      ((Value.slice A' (R.length + 1) c').ownBlock = (Value.slice A R.length c).ownBlock ∨ (Value.slice A' (R.length + 1) c').ownBlock = some w.heap.size) := by
  obtain ⟨i0, hi, hz0, hz1, hz2⟩ := info_parts infoS
  have hl := stV_len hp hc
  obtain ⟨v', w', hr, h2, h3, _, h5⟩ := run_append_own_at (P := Try.prog) w 0 68 ty 75 i0 _ 21 56 Try.underlying68 hi hz0 hz1 hz2 (by rw [Value.cells, List.size_toArray, stV_len zp_ok cn0_ok]) (by decide) (.slice A R.length c) R.length (rowV R) hown ⟨q, 0, none⟩ 1 1 (stV x) (by rw [hl]) (fun j u hj => by rw [Addr.add_mid]; exact hn j u hj) (st_one x) (by unfold maxLen; omega) (by omega) (Nat.zero_le _)
  have hv' : ∃ A' c', v' = .slice A' (R.length + 1) c' := by
    rcases h2.2 with ⟨rfl, e⟩ | ⟨g, cap, cur, rfl, _⟩
    · exact ⟨none, 0, by rw [e]⟩
    · exact ⟨_, _, rfl⟩
  obtain ⟨A', c', rfl⟩ := hv'
  exact ⟨A', c', w', hr, by rw [rowV_cons]; exact h2, h3, h5⟩
end Go.Proofs.Ytdggnmlhgglccaa
