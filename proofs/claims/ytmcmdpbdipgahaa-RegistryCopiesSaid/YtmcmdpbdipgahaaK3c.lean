/-
  Append of one hash as a step; a copy of hashes.
-/
import Derived.Test.YtmcmdpbdipgahaaK2
namespace Go.Proofs.Ytmcmdpbdipgahaa
open Go.RowKit
/-- the same of a hash, as a step of a region that draws its order -/
theorem step_app8 {w : World} {ops : Array Oper} {o : Oper} {a : Act} {K : Act → World → Prop} {Q : Exit → Act → World → Prop} {E : Prop} (hgd : o.guard = none) (s x : Operand)
    (ho : o.op = .call { callee := .builtin .append, args := #[s, x], argTypes := #[36, 36] })
    (base n : Nat) (v : Value) (l : List Int) (hv : a.eval s = v) (hown : w.ownsRow base 31 8 v n (bvals l)) (g c : Nat) (h : List Int) (hx : a.eval x = .slice (some ⟨g, 0, none⟩) 1 c) (hb : BA w g 31 h) (hl : h.length = 8)
    (hn : n ≤ 65536) (hbase : base ≤ w.heap.size)
    (hK : ∀ A' c' w', w'.ownsRow base 31 8 (.slice A' (n + 1) c') (n + 1) (bvals (l ++ h)) → w.grownBy w' v.ownBlock → K (a.put o.dst (.slice A' (n + 1) c')) w') : if Region.wanted o (yielded ops a.tmps) = true then Oper.wp Try.prog o a w K Q else E := by
  have hw : Region.wanted o (yielded ops a.tmps) = true := by simp [Region.wanted, hgd]
  rw [if_pos hw]
  obtain ⟨i, hi, hz, h1, h2⟩ := info_parts info27
  obtain ⟨v', w', hr, hown', hg, _⟩ := run_append_own_at (P := Try.prog) w base 36 o.type 31 i _ 8 8 Try.underlying36 hi hz h1 h2 rfl (by decide) v n (bvals l) hown ⟨g, 0, none⟩ 1 c (bvals h) (by simp [bvals, hl]) (fun j u hj => by rw [Addr.add_mid]; exact ba_range hb j u hj) (bvals_one h) (by unfold maxLen; omega) (by omega) hbase
  unfold Oper.wp execOp
  simp only [ho, resolve, invoke, builtin, Sem.run_bind, Sem.run_pure, Result.andThen_ok, List.map_toArray, List.map_cons, List.map_nil, hv, hx, hr]
  obtain ⟨A', c', rfl⟩ := own8_slice hown'
  have e : bvals l ++ bvals h = bvals (l ++ h) := by simp [bvals]
  rw [e] at hown'
  exact hK A' c' w' hown' hg
/-- 'copy' of three hashes into three -/
theorem run_copy3 (w : World) (ty : TypeId) (g o g2 o2 c2 : Nat) (P : List Int) (hP : Src w (some ⟨g2, o2, none⟩) (8 * 3) P) (ht : w.there g o 24) :
    (Builtin.copy_ #[36, 36] ty #[.slice (some ⟨g, o, none⟩) 3 3, .slice (some ⟨g2, o2, none⟩) 3 c2]).run Try.prog w = .ok (goInt 3) (w.setCells g o (bvals P)) := by
  have hl : (bvals P).length = 24 := by rw [bvals_len]; exact hP.1
  have hsrc : ∀ j v, (bvals P)[j]? = some v → w.cell? ((⟨g2, o2, none⟩ : Addr).add j) = some v := fun j v hj => by
    have hj2 := (List.getElem?_eq_some_iff.1 hj).1
    rcases hP.2 with h0 | ⟨g', o', e, hc⟩
    · cases h0
    · cases e
      rw [Addr.add_mid, hc j (by omega), ← hj]
      have := hP.1
      simp [bvals, List.getD, show j < P.length by omega]
  have hld := run_loadCells_list (P := Try.prog) w ⟨g2, o2, none⟩ (bvals P) hsrc
  rw [hl] at hld
  have hst := run_storeCells_cells (P := Try.prog) g o (bvals P) 0 w (fun j hj => by simpa using (ht j (by omega)).1) (fun j hj => by simpa using (ht j (by omega)).2) (bvals_one P)
  rw [Nat.add_zero] at hst
  obtain ⟨i, hi, _, h1, _⟩ := info_parts info27
  simp [Builtin.copy_, run_underlying Try.underlying36, Builtin.lenOf, Builtin.firstCells, sizeOf, typeInfo, hi, h1, hld, hst]
theorem wpList_copy3 {w : World} {ops : Array Oper} {rest : List Oper} {o : Oper} {a : Act} {Q : Exit → Act → World → Prop} (hgd : o.guard = none) (d s : Operand)
    (ho : o.op = .call { callee := .builtin .copy, args := #[d, s], argTypes := #[36, 36] }) (g p : Nat) (A : Option Addr) (c : Nat) (P : List Int) (hd : a.eval d = .slice (some ⟨g, p, none⟩) 3 3) (hs : a.eval s = .slice A 3 c)
    (hP : Src w A (8 * 3) P) (ht : w.there g p 24) (h : wpList Try.prog ops Q rest (a.put o.dst (goInt 3)) (w.setCells g p (bvals P))) : wpList Try.prog ops Q (o :: rest) a w := by
  refine wpList_plain hgd fun K hK => ?_
  obtain ⟨g2, o2, rfl⟩ := src_at hP (by omega)
  have hr := run_copy3 w o.type g p g2 o2 c P hP ht
  unfold Oper.wp execOp
  simp only [ho, resolve, invoke, builtin, Sem.run_bind, Sem.run_pure, Result.andThen_ok, List.map_toArray, List.map_cons, List.map_nil, hd, hs, hr]
  exact hK _ _ h
end Go.Proofs.Ytmcmdpbdipgahaa
