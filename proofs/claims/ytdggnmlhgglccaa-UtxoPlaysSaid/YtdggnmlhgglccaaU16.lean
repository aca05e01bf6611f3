/-
  slices.Backward at steps: the iterator over a row of steps, the last one first.
-/
import Derived.RangeFuncNested
import Derived.RangeFuncBound
import Derived.RangeFuncCalls
import Derived.RangeFuncLeaves
import Derived.Shelf.Abstract
import Derived.Shelf.RegionOpen
import Derived.OwnWalkIn
import Derived.TacticsInMore
import Derived.LoopNIn
import Derived.LoopIn
import Derived.Test.YtdggnmlhgglccaaU15
namespace Go.Proofs.Ytdggnmlhgglccaa
open Go.RowKit
set_option maxRecDepth 100000
attribute [local go_sem] Oper.semAt_some
theorem wpListIn_load_midG {F : Fence} {n : Nat} {P : Program} {ops : Array Oper} {rest : List Oper} {o : Oper} {a : Act} {w : World} {Q : Exit → Act → World → Prop} (hgd : o.guard = none) (ty : TypeId) (x : Operand) (ho : o.op = .load ty x)
    (b i : Nat) (hx : a.eval x = .pointer (some ⟨b, i, none⟩)) (cs : List Value) (d : TypeDesc) (hc : w.rangeAt b i cs)
    (hu : P.underlying ty = some d) (hd : d.isRow = true) (hi : (P.info? ty).map (·.size) = some cs.length)
    (h : wpListIn F n P ops Q rest (a.put o.dst (.agg cs.toArray)) w) : wpListIn F n P ops Q (o :: rest) a w := by
  refine wpListIn_plain hgd fun K hK' => ?_
  have hrun := run_loadVar_mid (P := P) w b i ty cs d hc hu hd hi
  unfold Oper.wpIn
  refine ⟨?_, ?_⟩
  · simp [Oper.about, ho]
  · rw [Oper.semAt_plain F _ _ (by rw [ho]; intro c hc'; cases hc')]
    unfold execOp
    simp only [ho, hx, Instr.loadAt, Instr.sureAddr, Sem.run_bind, Sem.run_pure, Result.andThen_ok, hrun]
    exact hK' _ _ h
/-- a step for whatever place -/
def stD : Stp := ⟨zeros 9, cn0, false⟩
def atS (M : List Stp) (j : Nat) : Stp := M.getD j stD
theorem stD_okP : okP stD.p := by unfold okP stD ptS hS zeros; simp [okT, okA]
theorem stV_len0 : (stV stD).length = 21 := stV_len stD_okP cn0_ok
def allOk (M : List Stp) : Prop := ∀ x ∈ M, okP x.p ∧ x.c.ok
theorem atS_ok {M : List Stp} (h : allOk M) (j : Nat) : okP (atS M j).p ∧ (atS M j).c.ok := by
  unfold atS
  rw [List.getD_eq_getElem?_getD]
  cases e : M[j]? with
  | none => exact ⟨stD_okP, cn0_ok⟩
  | some x => exact h x (List.mem_of_getElem? e)
theorem rowV_len {M : List Stp} (h : allOk M) : (rowV M).length = M.length * 21 := by
  induction M with
  | nil => rfl
  | cons x M ih =>
    rw [rowV_cons, List.length_append, ih fun y hy => h y (List.mem_cons_of_mem _ hy), stV_len (h x (by simp)).1 (h x (by simp)).2, List.length_cons]
    omega
/-- the step j from the end lies 21 * (len - 1 - j) cells behind the row's begin -/
theorem row_at {w : World} {g o : Nat} {M : List Stp} (hM : allOk M) (h : w.rangeAt g o (rowV M)) {j : Nat} (hj : j < M.length) : w.rangeAt g (o + (M.length - 1 - j) * 21) (stV (atS M j)) := by
  have e1 : rowV M = rowV (M.drop (j + 1)) ++ (stV (atS M j) ++ rowV (M.take j)) := by
    rw [rowV_drop M (j + 1)]
    congr 1
    have : M.take (j + 1) = M.take j ++ [atS M j] := by
      rw [List.take_add_one]
      congr 1
      unfold atS
      rw [List.getD_eq_getElem?_getD, List.getElem?_eq_getElem hj]
      rfl
    rw [this]
    unfold rowV
    simp
  rw [e1] at h
  obtain ⟨_, h2⟩ := range_app h
  obtain ⟨h3, _⟩ := range_app h2
  have hl : (rowV (M.drop (j + 1))).length = (M.length - 1 - j) * 21 := by
    rw [rowV_len fun x hx => hM x (List.mem_of_mem_drop hx), List.length_drop]
    congr 1
    omega
  rwa [hl] at h3
attribute [local irreducible] stV
/-- what a round hands over -/
def encB (M : List Stp) (j : Nat) : Array Value := #[.int .i64 ((M.length : Int) - 1 - j), .agg (stV (atS M j)).toArray]
/-- what a round must keep: the row, the box of the slice -/
def KpB (g o : Nat) (M : List Stp) (b : Nat) (A B : World) : Prop := (A.rangeAt g o (rowV M) → B.rangeAt g o (rowV M)) ∧ B.heap[b]? = A.heap[b]?
theorem kpB_t {g o : Nat} {M : List Stp} {b : Nat} {A B C : World} (h : KpB g o M b A B) (k : KpB g o M b B C) : KpB g o M b A C := ⟨fun e => k.1 (h.1 e), k.2.trans h.2⟩
theorem kpB_b {w : World} {g o : Nat} {M : List Stp} {b : Nat} (hg : g < w.heap.size) (hb : b < w.heap.size) (W : World) (l : Nat) (x x' : Obj) (hl : w.heap.size ≤ l) (_ : W.heap[l]? = some x) (_ : x.isCells = false) (_ : x.isWalk = false) : KpB g o M b W (W.putObj l x') :=
  ⟨fun h => range_keep1 h (World.putObj_heap_other (by omega)), World.putObj_heap_other (by omega)⟩
set_option maxHeartbeats 4000000 in
theorem bw1_in (F : Fence) (n : Nat) (h7 : F.fn 39) (hro : F.round = none) (hn : 1 ≤ n) (l Bs g o cap : Nat) (M : List Stp) (hM : allOk M) (hL : M.length < 100000) (J Jx : List Nat → World → Prop)
    (hY : ∀ pre x W, J pre W → pre.length < M.length → YieldAt F (n - 1) Try.prog l (encB M x) W fun e W' =>
      (e = .returned (.bool true) ∧ J (pre ++ [x]) W' ∧ KpB g o M Bs W W') ∨ (e = .returned (.bool false) ∧ Jx (pre ++ [x]) W'))
    (W : World) (hBs : W.cell? ⟨Bs, 0, none⟩ = some (.slice (some ⟨g, o, none⟩) M.length cap)) (hc : W.rangeAt g o (rowV M)) (h0 : J [] W) :
    CallsIn F n Try.prog 39 #[.func (.yield l) #[] #[], .pointer (some ⟨Bs, 0, none⟩)] W fun e W' => (∃ v, e = .returned v) ∧
      ((∃ ys, ys = List.range M.length ∧ J ys W') ∨ (∃ pre, (∃ k, k ≤ M.length ∧ pre = List.range k) ∧ Jx pre W')) := by
  refine callsIn_of_wp Try.func39 rfl h7 ?_ hro
  simp only [Try.ntmps39, List.size_toArray, List.length_cons, List.length_nil, Nat.reduceAdd, Nat.reduceSub, Array.replicate_succ, Array.replicate_zero, List.push_toArray, List.append_toArray, List.nil_append, List.cons_append]
  have w1 : wrap64 ((M.length : Int) - 1) = (M.length : Int) - 1 := by unfold wrap64; omega
  gi_wp2
  gi_loopw [3] (fun i wr => ∃ k : Nat, k ≤ M.length ∧ i = .int .i64 ((M.length : Int) - 1 - k) ∧ J (List.range k) wr ∧ KpB g o M Bs W wr)
    (fun i _ => (intOf i + 1).toNat)
  case atStart => exact ⟨0, Nat.zero_le _, by simp, h0, fun h => h, rfl⟩
  case round =>
    obtain ⟨k, hk, rfl, hJs, hK1, hK2⟩ := hrel
    have hb := (World.cell?_of_block (w := W) (a := ⟨Bs, 0, none⟩) hK2).trans hBs
    by_cases hlt : k < M.length
    · obtain ⟨fn, tmps, assign, body, hy, hR⟩ := hY _ k wr hJs (by rw [List.length_range]; exact hlt)
      have hrow := row_at hM (hK1 hc) hlt
      have e2 : ((M.length : Int) - 1 - k) = ((M.length - 1 - k : Nat) : Int) := by omega
      have e3 : M.length - 1 - k < M.length := by omega
      have e4 : (M.length - 1 - k) + k = M.length - 1 := by omega
      unfold encB at hy
      rw [e2] at hy ⊢
      obtain ⟨i, hi⟩ : ∃ i, M.length - 1 - k = i := ⟨_, rfl⟩
      rw [hi] at hy hrow e3 e4 ⊢
      have hS := Lib.hid (stV_len (atS_ok hM k).1 (atS_ok hM k).2)
      have RW := Lib.hid hrow
      clear hc hrow hi e2
      have w2 : wrap64 ((i : Int) - 1) = (i : Int) - 1 := by unfold wrap64; omega
      gi_wp2_with (first
        | (refine wpListIn_load_midG rfl 75 (.tmp 15) rfl g (o + i * 21) rfl (stV (atS M k)) _ RW.out Try.underlying75 rfl (szL i75 hS.out) ?_)
        | fail)
      refine hR.mono ?_
      rintro e W3 (⟨rfl, hJ3, hk3⟩ | ⟨rfl, hJx3⟩)
      · gi_wp2
        go_roundw
        case rel => exact ⟨k + 1, by omega, by simp <;> omega, by rw [List.range_succ]; exact hJ3, kpB_t ⟨hK1, hK2⟩ hk3⟩
        case measure => simp [intOf]
      · gi_wp2
        refine bodyPost_ret (results_none rfl _ _ _) rfl ?_
        exact ⟨⟨_, rfl⟩, .inr ⟨_, ⟨k + 1, by omega, (List.range_succ).symm⟩, hJx3⟩⟩
    · obtain rfl : k = M.length := by omega
      have e5 : ((M.length : Int) - 1 - M.length) = -1 := by omega
      rw [e5]
      gi_wp2
      go_end0
      exact ⟨⟨_, rfl⟩, .inl ⟨_, rfl, hJs⟩⟩
set_option maxHeartbeats 4000000 in
theorem bw1_nil_in (F : Fence) (n : Nat) (h7 : F.fn 39) (hro : F.round = none) (l Bs : Nat) (J : List Nat → World → Prop)
    (W : World) (hBs : W.cell? ⟨Bs, 0, none⟩ = some (.slice none 0 0)) (h0 : J [] W) :
    CallsIn F n Try.prog 39 #[.func (.yield l) #[] #[], .pointer (some ⟨Bs, 0, none⟩)] W fun e W' => (∃ v, e = .returned v) ∧ J [] W' := by
  refine callsIn_of_wp Try.func39 rfl h7 ?_ hro
  simp only [Try.ntmps39, List.size_toArray, List.length_cons, List.length_nil, Nat.reduceAdd, Nat.reduceSub, Array.replicate_succ, Array.replicate_zero, List.push_toArray, List.append_toArray, List.nil_append, List.cons_append]
  gi_wp2
  gi_loopw [3] (fun i wr => i = .int .i64 (-1) ∧ J [] wr) (fun _ _ => 0)
  case atStart => exact ⟨rfl, h0⟩
  case round =>
    obtain ⟨rfl, hJs⟩ := hrel
    gi_wp2
    go_end0
    exact ⟨⟨_, rfl⟩, hJs⟩
/-- the slice v holds the steps of M in block g; or it is nil, and there are none -/
def RowS (W : World) (g o : Nat) (v : Value) (M : List Stp) : Prop := (v = .slice none 0 0 ∧ M = []) ∨ ∃ cap, v = .slice (some ⟨g, o, none⟩) M.length cap ∧ g < W.heap.size ∧ W.rangeAt g o (rowV M)
theorem bw_stops (F : Fence) (n : Nat) (h7 : F.fn 39) (hro : F.round = none) (hn : 1 ≤ n) (Bs g o : Nat) (v : Value) (M : List Stp) (hM : allOk M) (hL : M.length < 100000) (w : World) (hBs : Bs < w.heap.size)
    (hc : w.cell? ⟨Bs, 0, none⟩ = some v) (hR : RowS w g o v M) :
    SeqStopsK F n Try.prog 39 #[.pointer (some ⟨Bs, 0, none⟩)] (encB M) (KpB g o M Bs) (fun ys => ys = List.range M.length) (fun pre => ∃ k, k ≤ M.length ∧ pre = List.range k) M.length w := fun l J Jx W hW _ _ hY h0 => by
  have hc' := (hW.cell (p := ⟨Bs, 0, none⟩) hBs).trans hc
  rcases hR with ⟨rfl, rfl⟩ | ⟨cap, rfl, hg, hr⟩
  · exact (bw1_nil_in F n h7 hro l Bs J W hc' h0).mono fun e W' ⟨he, hj⟩ => ⟨he, .inl ⟨_, rfl, hj⟩⟩
  · exact bw1_in F n h7 hro hn l Bs g o cap M hM hL J Jx hY W hc' (range_keep1 hr (hW.block g hg)) h0
end Go.Proofs.Ytdggnmlhgglccaa
