/-
  Words for what is opened and what is shut.
-/
import Derived.Test.YtmcmdpbdipgahaaLB
namespace Go.Proofs.Ytmcmdpbdipgahaa
open Go.RowKit
theorem at8_16 (l : List Int) (s b : Nat) (hb : b < 2) (h : 16 * s + 16 ≤ l.length) : at8 (at16 l s) b = at8 l (2 * s + b) := by
  have h0 : (at8 l (2 * s)).length = 8 := by unfold at8; rw [List.length_take, List.length_drop]; omega
  rw [at16_two]
  rcases (by omega : b = 0 ∨ b = 1) with rfl | rfl
  · unfold at8 at h0 ⊢
    rw [Nat.mul_zero, List.drop_zero, List.take_append_of_le_length (by omega), List.take_of_length_le (by omega), Nat.add_zero]
  · have h1 : (at8 l (2 * s + 1)).length = 8 := by unfold at8; rw [List.length_take, List.length_drop]; omega
    have := at8_app (at8 l (2 * s)) (at8 l (2 * s + 1)) 1 (by omega)
    rw [this, List.take_of_length_le (by omega)]
theorem cells8_at {w : World} {b t o k : Nat} {l : List Int} (a0 a1 a2 a3 a4 a5 a6 a7 : Int) (h : BA w b t l) (ha : at8 l k = [a0, a1, a2, a3, a4, a5, a6, a7]) (ho : o = k * 8) (hl : 8 * k + 8 ≤ l.length) : (w.cell? ⟨b, o, none⟩ = some (.int .u8 a0) ∧ w.cell? ⟨b, o + 1, none⟩ = some (.int .u8 a1) ∧ w.cell? ⟨b, o + 2, none⟩ = some (.int .u8 a2) ∧ w.cell? ⟨b, o + 3, none⟩ = some (.int .u8 a3) ∧ w.cell? ⟨b, o + 4, none⟩ = some (.int .u8 a4) ∧ w.cell? ⟨b, o + 5, none⟩ = some (.int .u8 a5) ∧ w.cell? ⟨b, o + 6, none⟩ = some (.int .u8 a6) ∧ w.cell? ⟨b, o + 7, none⟩ = some (.int .u8 a7)) := by
  have g : ∀ j, j < 8 → w.cell? ⟨b, o + j, none⟩ = some (.int .u8 ([a0, a1, a2, a3, a4, a5, a6, a7].getD j 0)) := fun j hj => by
    rw [ba_cell h (o + j) (by omega), ← ha]
    unfold at8
    simp [List.getD, hj, ho, Nat.mul_comm]
  exact ⟨g 0 (by omega), g 1 (by omega), g 2 (by omega), g 3 (by omega), g 4 (by omega), g 5 (by omega), g 6 (by omega), g 7 (by omega)⟩
theorem zero8 {w : World} {b t n o : Nat} {X : List Int} (h : BA w b t (X ++ zeros n)) (hX : X.length = o) (hn : 8 ≤ n) : (w.cell? ⟨b, o, none⟩ = some (.int .u8 0) ∧ w.cell? ⟨b, o + 1, none⟩ = some (.int .u8 0) ∧ w.cell? ⟨b, o + 2, none⟩ = some (.int .u8 0) ∧ w.cell? ⟨b, o + 3, none⟩ = some (.int .u8 0) ∧ w.cell? ⟨b, o + 4, none⟩ = some (.int .u8 0) ∧ w.cell? ⟨b, o + 5, none⟩ = some (.int .u8 0) ∧ w.cell? ⟨b, o + 6, none⟩ = some (.int .u8 0) ∧ w.cell? ⟨b, o + 7, none⟩ = some (.int .u8 0)) := ⟨zero_at h hX 0 (by omega), zero_at h hX 1 (by omega), zero_at h hX 2 (by omega), zero_at h hX 3 (by omega), zero_at h hX 4 (by omega), zero_at h hX 5 (by omega), zero_at h hX 6 (by omega), zero_at h hX 7 (by omega)⟩
theorem ba_bvals (xs : List Int) : ba xs = (bvals xs).toArray := rfl
theorem set_app {w : World} {b t n o : Nat} {X y : List Int} (h : BA w b t (X ++ zeros n)) (hX : X.length = o) (hn : y.length ≤ n) : BA (w.setCells b o (bvals y)) b t (X ++ y ++ zeros (n - y.length)) := by
  have h1 := ba_setCells y o h
  rw [← hX, splR_app y X (zeros n) (by rw [zeros_len]; exact hn), zeros_drop, ← List.append_assoc, hX] at h1
  exact h1
theorem results_cell_cell {P : Program} {fn : Func} {p q : Tmp} {ty : TypeId} (h : fn.results = #[.cell p ty, .cell q ty]) (tmps : Array Value) (w : World) (g k : Nat) (t t' : TypeId) (cs ds : Array Value) (fr fs : Nat × Nat) (d : TypeDesc)
    (hp : tmps.getD p undef = .pointer (some ⟨g, 0, none⟩)) (hq : tmps.getD q undef = .pointer (some ⟨k, 0, none⟩)) (hg : w.heap[g]? = some (.cells cs t fr)) (hk : w.heap[k]? = some (.cells ds t' fs))
    (hu : P.underlying ty = some d) (hd : (match d with | .struct _ | .array _ _ => true | _ => false) = true) (hi : (P.info? ty).map (·.size) = some cs.size) (hj : (P.info? ty).map (·.size) = some ds.size) :
    (results fn tmps).run P w = .ok (.tuple #[.agg cs, .agg ds]) w := by
  have hp' : tmps[p]?.getD undef = .pointer (some ⟨g, 0, none⟩) := by simpa using hp
  have hq' : tmps[q]?.getD undef = .pointer (some ⟨k, 0, none⟩) := by simpa using hq
  simp [results, h, hp', hq', asAddr, run_loadVar_row w g t ty cs fr d hg hu hd hi, run_loadVar_row w k t' ty ds fs d hk hu hd hj]
/-- what is opened, what is shut -/
def openF (K m : List Int) (i : Nat) : List Int := at8 K (2 * i + bt m i)
def shutF (K m : List Int) (i : Nat) : List Int := mk (at8 K (2 * i + (1 - bt m i)))
theorem openF_len (K m : List Int) (hK : K.length = 256) (i : Nat) (hi : i < 16) : (openF K m i).length = 8 := at8_len (n := 32) hK (by have := bt_two m i; omega)
theorem shutF_len (K m : List Int) (i : Nat) : (shutF K m i).length = 8 := mk_len _
theorem cat_lenN (F : Nat → List Int) : ∀ n, (∀ j, j < n → (F j).length = 8) → (cat F n).length = 8 * n
  | 0, _ => rfl
  | n + 1, hF => by rw [cat_succ, List.length_append, cat_lenN F n fun j hj => hF j (by omega), hF n (by omega)]; omega
theorem ba_new {w : World} {S : Nat} (h : w.heap.size = S) (xs : List Int) (t : TypeId) : BA (w.alloc (Obj.cells (ba xs) t)) S t xs := by subst h; exact heap_alloc_last w _
theorem ba_old {w : World} {b t : Nat} {xs : List Int} (h : BA w b t xs) (o : Obj) : BA (w.alloc o) b t xs := (Below.heap_alloc _ _ _ (lt_of_block h)).trans h
theorem size_al {w : World} {S : Nat} (h : w.heap.size = S) (o : Obj) : (w.alloc o).heap.size = S + 1 := by rw [World.size_alloc, h]
theorem al_below {S n : Nat} {w v : World} (h : Below S w v) (hs : v.heap.size = n) (hn : S ≤ n) (o : Obj) : Below S w (v.alloc o) := h.alloc (by omega) o
theorem row_set {w : World} {b t : Nat} {old l : List Int} (h : BA w b t old) (hl : old.length = l.length) : BA (w.setCells b 0 (bvals l)) b t l := by
  have h1 := ba_setCells l 0 h
  have h2 := splR_app l [] old (by omega)
  rw [List.nil_append, List.nil_append, List.length_nil, List.drop_of_length_le (by omega), List.append_nil] at h2
  rw [h2] at h1
  exact h1
theorem step_row {w : World} {ops : Array Oper} {o : Oper} {a : Act} {K : Act → World → Prop} {Q : Exit → Act → World → Prop} {E : Prop} (hgd : o.guard = none) (ty : TypeId) (x y : Operand) (ho : o.op = .store ty x y)
    (b t : Nat) (old l : List Int) (hx : a.eval x = .pointer (some ⟨b, 0, none⟩)) (hy : a.eval y = .agg (bvals l).toArray)
    (hb : BA w b t old) (hl : old.length = l.length) (hi : (Try.prog.info? ty).map (·.size) = some l.length)
    (h : K (a.put o.dst undef) (w.setCells b 0 (bvals l))) : if Region.wanted o (yielded ops a.tmps) = true then Oper.wp Try.prog o a w K Q else E := by
  have hw : Region.wanted o (yielded ops a.tmps) = true := by simp [Region.wanted, hgd]
  have hs : (bvals l).toArray.size = l.length := by simp [bvals]
  rw [if_pos hw]
  exact wp_store_mid ty x y ho b 0 (bvals l).toArray hx hy (ba_there hb 0 _ (by rw [hs]; omega)) (by rw [hs]; exact hi) (ba_one l) h
theorem step_at {w : World} {ops : Array Oper} {o : Oper} {a : Act} {K : Act → World → Prop} {Q : Exit → Act → World → Prop} {E : Prop} (hgd : o.guard = none) (ty : TypeId) (x y : Operand) (ho : o.op = .store ty x y)
    (b off : Nat) (l : List Int) (hx : a.eval x = .pointer (some ⟨b, off, none⟩)) (hy : a.eval y = .agg (ba l))
    (hb : w.there b off (ba l).size) (hi : (Try.prog.info? ty).map (·.size) = some (ba l).size)
    (h : K (a.put o.dst undef) (w.setCells b off (bvals l))) : if Region.wanted o (yielded ops a.tmps) = true then Oper.wp Try.prog o a w K Q else E := by
  have hw : Region.wanted o (yielded ops a.tmps) = true := by simp [Region.wanted, hgd]
  rw [if_pos hw]
  exact wp_store_mid ty x y ho b off (ba l) hx hy hb hi (ba_one l) h
theorem step_alloc {w : World} {ops : Array Oper} {o : Oper} {a : Act} {K : Act → World → Prop} {Q : Exit → Act → World → Prop} {E : Prop} (hgd : o.guard = none) (ho : o.op = .alloc 31)
    (h : K (a.put o.dst (.pointer (some ⟨w.heap.size, 0, none⟩))) (w.alloc (Obj.cells (ba (zeros 8)) 31))) : if Region.wanted o (yielded ops a.tmps) = true then Oper.wp Try.prog o a w K Q else E := by
  have hw : Region.wanted o (yielded ops a.tmps) = true := by simp [Region.wanted, hgd]
  have hz := z27
  rw [if_pos hw]
  unfold Oper.wp execOp
  simp [ho, go_sem, hz]
  exact h
end Go.Proofs.Ytmcmdpbdipgahaa

/-
  Sign.
-/
namespace Go.Proofs.Ytmcmdpbdipgahaa
open Go.RowKit
attribute [local irreducible] ua da ba kk sw S8.run rt hs comp splice outB sha msg bvals cat at8 at16 secM zeros sec keyF marksF mk pubk bt openF shutF

end Go.Proofs.Ytmcmdpbdipgahaa
