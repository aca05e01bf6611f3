/-
  append of a row of numbers onto a row of the call's own, at a step of a region that draws; the walk of MoneySums.
-/
import Derived.Test.YtbolcpglkjjheaaW5
import Derived.Maps.AppendAt
import Derived.Deep.AppendLies
import Derived.Deep.RegionLaw
import Derived.Deep.RegionHeld3
import Derived.OwnWalk
namespace Go.Proofs.Ytbolcpglkjjheaa
open Go.RowKit

def ivals (xs : List Int) : List Value := xs.map (Value.int .i64)
theorem ivals_one (xs : List Int) : ∀ u ∈ ivals xs, u.oneCell' = true := by
  intro u hu
  simp only [ivals, List.mem_map] at hu
  obtain ⟨x, _, rfl⟩ := hu
  rfl
/-- a source of an append: nil, or these numbers from an address on -/
def Src (w : World) (A : Option Addr) (m : Nat) (xs : List Int) : Prop :=
  xs.length = m ∧ (m = 0 ∨ ∃ b off, A = some ⟨b, off, none⟩ ∧ ∀ i, i < m → w.cell? ⟨b, off + i, none⟩ = some (.int .i64 (xs.getD i 0)))

theorem own_row {w : World} {base : Nat} {v : Value} {n : Nat} {xs : List Int} (h : w.ownsRow base 3 1 v n (ivals xs)) : ∃ A cap, v = .slice A n cap ∧ Row w A xs ∧ xs.length = n := by
  obtain ⟨hl, hc⟩ := h
  have hl : xs.length = n := by simpa [ivals] using hl
  rcases hc with ⟨rfl, rfl⟩ | ⟨g, cap, cur, rfl, _, hg, hn, _, hs, ht⟩
  · exact ⟨none, 0, rfl, .inl (List.eq_nil_of_length_eq_zero hl), hl⟩
  · refine ⟨_, cap, rfl, .inr ⟨g, 0, rfl, fun i hi => ?_⟩, hl⟩
    rw [cell_of_row w g (0 + i) cur 3 (0, 0) hg, Nat.zero_add]
    have h1 : (cur.toList.take (n * 1))[i]? = (ivals xs)[i]? := by rw [ht]
    rw [List.getElem?_take, if_pos (by omega)] at h1
    rw [Array.getElem?_toList] at h1
    rw [h1]
    simp [ivals, List.getD, hi]

theorem run_app {P : Program} (w : World) (t ty : TypeId) (i : TypeInfo) (ht : P.underlying t = some (.slice 3)) (hi : P.info? 3 = some i) (hz : i.zero = some (.int .i64 0)) (hsize : i.size = 1) (hby : i.bytes = 8)
    (base n : Nat) (v : Value) (xs : List Int) (hown : w.ownsRow base 3 1 v n (ivals xs)) (A : Option Addr) (m c : Nat) (ys : List Int) (hs : Src w A m ys) (hc : A = none → c = 0)
    (h63 : n + m ≤ maxLen) (hbytes : (n + m) * 8 ≤ 140737488355328) (hbase : base ≤ w.heap.size) :
    ∃ v' w', (Builtin.append_ #[t, t] ty #[v, .slice A m c]).run P w = .ok v' w' ∧ w'.ownsRow base 3 1 v' (n + m) (ivals (xs ++ ys)) ∧ w.grownBy w' v.ownBlock ∧ (v'.ownBlock = v.ownBlock ∨ v'.ownBlock = some w.heap.size) := by
  obtain ⟨hl, hs⟩ := hs
  have hm : ivals (xs ++ ys) = ivals xs ++ ivals ys := by simp [ivals]
  rcases hs with rfl | ⟨b, off, rfl, hcell⟩
  · obtain rfl := List.eq_nil_of_length_eq_zero hl
    cases A with
    | none =>
      obtain rfl := hc rfl
      refine ⟨v, w, ?_, by simpa using hown, World.grownBy.refl w _, .inl rfl⟩
      rcases hown.2 with ⟨rfl, rfl⟩ | ⟨g, cap, cur, rfl, _, _, hnc, _⟩
      · simp [Builtin.append_, run_underlying ht, sizeOf, typeInfo, hi, Builtin.lenOf, Builtin.firstCells]
      · simp [Builtin.append_, run_underlying ht, sizeOf, typeInfo, hi, Builtin.lenOf, Builtin.firstCells, hnc, storeCells]
    | some ad =>
      obtain ⟨v', w', hr, h2, h3, _, h5⟩ := run_append_own_at (P := P) w base t ty 3 i (.int .i64 0) 1 8 ht hi hz hsize hby rfl (by decide) v n (ivals xs) hown ad 0 c (ivals []) rfl (fun j u hu => by simp [ivals] at hu) (ivals_one []) h63 hbytes hbase
      exact ⟨v', w', hr, by rw [hm]; exact h2, h3, h5⟩
  · obtain ⟨v', w', hr, h2, h3, _, h5⟩ := run_append_own_at (P := P) w base t ty 3 i (.int .i64 0) 1 8 ht hi hz hsize hby rfl (by decide) v n (ivals xs) hown ⟨b, off, none⟩ m c (ivals ys) (by simpa [ivals] using hl)
      (fun j u hu => by
        have hj : j < ys.length := by
          rcases Nat.lt_or_ge j ys.length with g | g
          · exact g
          · rw [List.getElem?_eq_none (by simpa [ivals] using g)] at hu; cases hu
        have e : (⟨b, off, none⟩ : Addr).add j = ⟨b, off + j, none⟩ := by unfold Addr.add; split <;> simp_all
        rw [e, hcell j (by omega), ← hu]
        simp [ivals, List.getD, hj]) (ivals_one ys) h63 hbytes hbase
    exact ⟨v', w', hr, by rw [hm]; exact h2, h3, h5⟩

theorem step_app {P : Program} {w : World} {ops : Array Oper} {o : Oper} {a : Act} {K : Act → World → Prop} {Q : Exit → Act → World → Prop} {E : Prop} (hgd : o.guard = none) (s x : Operand) (t : TypeId)
    (ho : o.op = .call { callee := .builtin .append, args := #[s, x], argTypes := #[t, t] })
    (i : TypeInfo) (ht : P.underlying t = some (.slice 3)) (hi : P.info? 3 = some i) (hz : i.zero = some (.int .i64 0)) (hsize : i.size = 1) (hby : i.bytes = 8)
    (base n : Nat) (v : Value) (xs : List Int) (hv : a.eval s = v) (hown : w.ownsRow base 3 1 v n (ivals xs)) (A : Option Addr) (m c : Nat) (ys : List Int) (hx : a.eval x = .slice A m c) (hs : Src w A m ys) (hc : A = none → c = 0)
    (h63 : n + m ≤ maxLen) (hbytes : (n + m) * 8 ≤ 140737488355328) (hbase : base ≤ w.heap.size)
    (h : ∀ A' c' w', w'.ownsRow base 3 1 (.slice A' (n + m) c') (n + m) (ivals (xs ++ ys)) → Row w' A' (xs ++ ys) → w.grownBy w' v.ownBlock → K (a.put o.dst (.slice A' (n + m) c')) w') :
    if Region.wanted o (yielded ops a.tmps) = true then Oper.wp P o a w K Q else E := by
  have hw : Region.wanted o (yielded ops a.tmps) = true := by simp [Region.wanted, hgd]
  rw [if_pos hw]
  obtain ⟨v', w', hr, h2, h3, h4⟩ := run_app (P := P) w t o.type i ht hi hz hsize hby base n v xs hown A m c ys hs hc h63 hbytes hbase
  unfold Oper.wp execOp
  simp only [ho, resolve, invoke, builtin, Sem.run_bind, Sem.run_pure, Result.andThen_ok, List.map_toArray, List.map_cons, List.map_nil, hv, hx, hr]
  obtain ⟨A', c', rfl, hr, _⟩ := own_row h2
  exact h A' c' w' h2 hr h3

theorem info3 : (Try.prog.info? 3).map (fun i => (i.zero, i.size, i.bytes)) = some (some (.int .i64 0), 1, 8) := by kernel_rfl

theorem own_base {w : World} {base n : Nat} {v : Value} {xs : List Value} (h : w.ownsRow base 3 1 v n xs) : ∀ q, v.ownBlock = some q → base ≤ q := by
  intro q hq
  rcases h.2 with ⟨rfl, _⟩ | ⟨g, cap, cur, rfl, hb, _⟩
  · cases hq
  · simp [Value.ownBlock] at hq; omega
theorem own_none (w : World) : ((w.alloc (Obj.cells #[] 3)).drew).ownsRow w.heap.size 3 1 (.slice (some ⟨w.heap.size, 0, none⟩) 0 0) 0 (ivals []) :=
  ⟨rfl, .inr ⟨w.heap.size, 0, #[], rfl, Nat.le_refl _, heap_alloc_new w _, Nat.le_refl _, Nat.zero_le _, rfl, rfl⟩⟩
/-- a row of these numbers, of a slice whose address may be any where it is empty -/
theorem src_row {w : World} {A : Option Addr} {xs : List Int} {m : Nat} (hl : xs.length = m) (h : Row w A xs) : Src w A m xs := by
  refine ⟨hl, ?_⟩
  rcases h with rfl | ⟨b, off, rfl, hc⟩
  · exact .inl (by simpa using hl.symm)
  · exact .inr ⟨b, off, rfl, fun i hi => hc i (by omega)⟩
theorem row_take {w : World} {b off : Nat} {xs : List Int} (k : Nat) (h : Row w (some ⟨b, off, none⟩) xs) : Row w (some ⟨b, off, none⟩) (xs.take k) := by
  rcases h with rfl | ⟨b', off', he, hc⟩
  · exact .inl (by simp)
  · cases he
    refine .inr ⟨b, off, rfl, fun i hi => ?_⟩
    rw [List.length_take] at hi
    rw [hc i (by omega)]
    simp [List.getD, List.getElem?_take]
    rw [if_pos (by omega)]
theorem row_drop {w : World} {b off : Nat} {xs : List Int} (k : Nat) (h : Row w (some ⟨b, off, none⟩) xs) : Row w (some ⟨b, off + k, none⟩) (xs.drop k) := by
  rcases h with rfl | ⟨b', off', he, hc⟩
  · exact .inl (by simp)
  · cases he
    refine .inr ⟨b, off + k, rfl, fun i hi => ?_⟩
    rw [List.length_drop] at hi
    rw [Nat.add_assoc, hc (k + i) (by omega)]
    simp [List.getD]
/-- what the sums of a row's parts are -/
theorem parts (xs : List Int) (k : Nat) (h : okB xs = true) : okB (xs.take k) = true ∧ okB (xs.drop k) = true ∧ addB (sumZ (xs.take k)) (sumZ (xs.drop k)) = true ∧ addZ (sumZ (xs.take k)) (sumZ (xs.drop k)) = sumZ xs ∧ okB (xs.drop k ++ xs.take k) = true ∧ sumZ (xs.drop k ++ xs.take k) = sumZ xs := by
  have h' := h
  have hsw := ok_swap (xs.take k) (xs.drop k)
  rw [List.take_append_drop] at hsw
  have hs : xs.sum = (xs.take k).sum + (xs.drop k).sum := by rw [← List.sum_append, List.take_append_drop]
  rw [← List.take_append_drop k xs] at h
  obtain ⟨h1, h2, h3, h4, h5⟩ := ok_parts h
  have ha : addB (xs.take k).sum (xs.drop k).sum = true := add_iff.mpr (by omega)
  refine ⟨h1, h2, ?_, ?_, by rw [hsw.1]; exact h', ?_⟩
  · rw [sum_yes h1, sum_yes h2]; exact ha
  · rw [sum_yes h1, sum_yes h2, sum_yes h', hs]; exact if_pos ha
  · rw [sum_yes (by rw [hsw.1]; exact h'), sum_yes h', hsw.2]

end Go.Proofs.Ytbolcpglkjjheaa
