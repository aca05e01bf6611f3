/-
  append of a row of floats onto a row of the call's own, at a step of a region that draws; the walk of EdgeSums.
-/
import Derived.Test.YtibijjaeekameaaW8
import Derived.Maps.AppendAt
import Derived.Deep.AppendLies
import Derived.Deep.RegionLaw
import Derived.Deep.RegionHeld3
import Derived.OwnWalk
namespace Go.Proofs.Ytibijjaeekameaa
open Go.RowKit
open Fl

def fvals (xs : List Nat) : List Value := xs.map (Value.float .f64)
theorem fvals_one (xs : List Nat) : ∀ u ∈ fvals xs, u.oneCell' = true := by
  intro u hu
  simp only [fvals, List.mem_map] at hu
  obtain ⟨x, _, rfl⟩ := hu
  rfl
/-- a source of an append: nil, or these floats from an address on -/
def Src (w : World) (A : Option Addr) (m : Nat) (xs : List Nat) : Prop :=
  xs.length = m ∧ (m = 0 ∨ ∃ b off, A = some ⟨b, off, none⟩ ∧ ∀ i, i < m → w.cell? ⟨b, off + i, none⟩ = some (.float .f64 (xs.getD i 0)))

theorem own_row {w : World} {base : Nat} {v : Value} {n : Nat} {xs : List Nat} (h : w.ownsRow base 23 1 v n (fvals xs)) : ∃ A cap, v = .slice A n cap ∧ Row w A xs ∧ xs.length = n := by
  obtain ⟨hl, hc⟩ := h
  have hl : xs.length = n := by simpa [fvals] using hl
  rcases hc with ⟨rfl, rfl⟩ | ⟨g, cap, cur, rfl, _, hg, hn, _, hs, ht⟩
  · exact ⟨none, 0, rfl, .inl (List.eq_nil_of_length_eq_zero hl), hl⟩
  · refine ⟨_, cap, rfl, .inr ⟨g, 0, rfl, fun i hi => ?_⟩, hl⟩
    rw [cell_of_row w g (0 + i) cur 23 (0, 0) hg, Nat.zero_add]
    have h1 : (cur.toList.take (n * 1))[i]? = (fvals xs)[i]? := by rw [ht]
    rw [List.getElem?_take, if_pos (by omega)] at h1
    rw [Array.getElem?_toList] at h1
    rw [h1]
    simp [fvals, List.getD, hi]

theorem run_app {P : Program} (w : World) (t ty : TypeId) (i : TypeInfo) (ht : P.underlying t = some (.slice 23)) (hi : P.info? 23 = some i) (hz : i.zero = some (.float .f64 0)) (hsize : i.size = 1) (hby : i.bytes = 8)
    (base n : Nat) (v : Value) (xs : List Nat) (hown : w.ownsRow base 23 1 v n (fvals xs)) (A : Option Addr) (m c : Nat) (ys : List Nat) (hs : Src w A m ys) (hc : A = none → c = 0)
    (h63 : n + m ≤ maxLen) (hbytes : (n + m) * 8 ≤ 140737488355328) (hbase : base ≤ w.heap.size) :
    ∃ v' w', (Builtin.append_ #[t, t] ty #[v, .slice A m c]).run P w = .ok v' w' ∧ w'.ownsRow base 23 1 v' (n + m) (fvals (xs ++ ys)) ∧ w.grownBy w' v.ownBlock ∧ (v'.ownBlock = v.ownBlock ∨ v'.ownBlock = some w.heap.size) := by
  obtain ⟨hl, hs⟩ := hs
  have hm : fvals (xs ++ ys) = fvals xs ++ fvals ys := by simp [fvals]
  rcases hs with rfl | ⟨b, off, rfl, hcell⟩
  · obtain rfl := List.eq_nil_of_length_eq_zero hl
    cases A with
    | none =>
      obtain rfl := hc rfl
      refine ⟨v, w, ?_, by simpa using hown, World.grownBy.refl w _, .inl rfl⟩
      rcases hown.2 with ⟨rfl, rfl⟩ | ⟨g, cap, cur, rfl, _, _, hnc, _⟩
      · simp [Builtin.append_, run_underlying ht, sizeOf, typeInfo, hi, Builtin.lenOf, Builtin.firstCells]
      · simp [Builtin.append_, run_underlying ht, sizeOf, typeInfo, hi, Builtin.lenOf, Builtin.firstCells, hnc, storeCells]
    | some ad =>
      obtain ⟨v', w', hr, h2, h3, _, h5⟩ := run_append_own_at (P := P) w base t ty 23 i (.float .f64 0) 1 8 ht hi hz hsize hby rfl (by decide) v n (fvals xs) hown ad 0 c (fvals []) rfl (fun j u hu => by simp [fvals] at hu) (fvals_one []) h63 hbytes hbase
      exact ⟨v', w', hr, by rw [hm]; exact h2, h3, h5⟩
  · obtain ⟨v', w', hr, h2, h3, _, h5⟩ := run_append_own_at (P := P) w base t ty 23 i (.float .f64 0) 1 8 ht hi hz hsize hby rfl (by decide) v n (fvals xs) hown ⟨b, off, none⟩ m c (fvals ys) (by simpa [fvals] using hl)
      (fun j u hu => by
        have hj : j < ys.length := by
          rcases Nat.lt_or_ge j ys.length with g | g
          · exact g
          · rw [List.getElem?_eq_none (by simpa [fvals] using g)] at hu; cases hu
        have e : (⟨b, off, none⟩ : Addr).add j = ⟨b, off + j, none⟩ := by unfold Addr.add; split <;> simp_all
        rw [e, hcell j (by omega), ← hu]
        simp [fvals, List.getD, hj]) (fvals_one ys) h63 hbytes hbase
    exact ⟨v', w', hr, by rw [hm]; exact h2, h3, h5⟩

theorem step_app {P : Program} {w : World} {ops : Array Oper} {o : Oper} {a : Act} {K : Act → World → Prop} {Q : Exit → Act → World → Prop} {E : Prop} (hgd : o.guard = none) (s x : Operand) (t : TypeId)
    (ho : o.op = .call { callee := .builtin .append, args := #[s, x], argTypes := #[t, t] })
    (i : TypeInfo) (ht : P.underlying t = some (.slice 23)) (hi : P.info? 23 = some i) (hz : i.zero = some (.float .f64 0)) (hsize : i.size = 1) (hby : i.bytes = 8)
    (base n : Nat) (v : Value) (xs : List Nat) (hv : a.eval s = v) (hown : w.ownsRow base 23 1 v n (fvals xs)) (A : Option Addr) (m c : Nat) (ys : List Nat) (hx : a.eval x = .slice A m c) (hs : Src w A m ys) (hc : A = none → c = 0)
    (h63 : n + m ≤ maxLen) (hbytes : (n + m) * 8 ≤ 140737488355328) (hbase : base ≤ w.heap.size)
    (h : ∀ A' c' w', w'.ownsRow base 23 1 (.slice A' (n + m) c') (n + m) (fvals (xs ++ ys)) → Row w' A' (xs ++ ys) → w.grownBy w' v.ownBlock → K (a.put o.dst (.slice A' (n + m) c')) w') :
    if Region.wanted o (yielded ops a.tmps) = true then Oper.wp P o a w K Q else E := by
  have hw : Region.wanted o (yielded ops a.tmps) = true := by simp [Region.wanted, hgd]
  rw [if_pos hw]
  obtain ⟨v', w', hr, h2, h3, h4⟩ := run_app (P := P) w t o.type i ht hi hz hsize hby base n v xs hown A m c ys hs hc h63 hbytes hbase
  unfold Oper.wp execOp
  simp only [ho, resolve, invoke, builtin, Sem.run_bind, Sem.run_pure, Result.andThen_ok, List.map_toArray, List.map_cons, List.map_nil, hv, hx, hr]
  obtain ⟨A', c', rfl, hr, _⟩ := own_row h2
  exact h A' c' w' h2 hr h3

theorem info23 : (Try.prog.info? 23).map (fun i => (i.zero, i.size, i.bytes)) = some (some (.float .f64 0), 1, 8) := by kernel_rfl


theorem own_base {w : World} {base n : Nat} {v : Value} {xs : List Value} (h : w.ownsRow base 23 1 v n xs) : ∀ q, v.ownBlock = some q → base ≤ q := by
  intro q hq
  rcases h.2 with ⟨rfl, _⟩ | ⟨g, cap, cur, rfl, hb, _⟩
  · cases hq
  · simp [Value.ownBlock] at hq; omega
theorem own_none (w : World) : ((w.alloc (Obj.cells #[] 23)).drew).ownsRow w.heap.size 23 1 (.slice (some ⟨w.heap.size, 0, none⟩) 0 0) 0 (fvals []) :=
  ⟨rfl, .inr ⟨w.heap.size, 0, #[], rfl, Nat.le_refl _, heap_alloc_new w _, Nat.le_refl _, Nat.zero_le _, rfl, rfl⟩⟩
theorem src_drop {w W : World} {b off len k : Nat} {xs : List Nat} (hl : xs.length = len) (hc : ∀ i, i < len → w.cell? ⟨b, off + i, none⟩ = some (.float .f64 (xs.getD i 0))) (hb : b < w.heap.size) (hW : Below w.heap.size w W) (_hk : k ≤ len) :
    Src W (some ⟨b, off + k, none⟩) (len - k) (xs.drop k) := by
  refine ⟨by rw [List.length_drop, hl], .inr ⟨b, off + k, rfl, fun i hi => ?_⟩⟩
  rw [hW.cell (p := ⟨b, off + k + i, none⟩) hb, Nat.add_assoc, hc (k + i) (by omega)]
  simp [List.getD]
theorem src_take {w W : World} {b off len k : Nat} {xs : List Nat} (hl : xs.length = len) (hc : ∀ i, i < len → w.cell? ⟨b, off + i, none⟩ = some (.float .f64 (xs.getD i 0))) (hb : b < w.heap.size) (hW : Below w.heap.size w W) (hk : k ≤ len) :
    Src W (some ⟨b, off, none⟩) k (xs.take k) := by
  refine ⟨by rw [List.length_take, hl]; omega, .inr ⟨b, off, rfl, fun i hi => ?_⟩⟩
  rw [hW.cell (p := ⟨b, off + i, none⟩) hb, hc i (by omega)]
  simp [List.getD, hi]
set_option maxRecDepth 100000 in
set_option maxHeartbeats 2000000 in
theorem walkSumsD (b off len cap k : Nat) (turn : Int) (xs : List Nat) (w : World) (hlen : xs.length = len) (h0 : 0 < len) (h5 : len ≤ 500) (hcap : len ≤ cap) (hcm : cap ≤ 9223372036854775807) (hw : ∀ x ∈ xs, x < 2 ^ 64)
    (hcell : ∀ i, i < len → w.cell? ⟨b, off + i, none⟩ = some (.float .f64 (xs.getD i 0))) (ht0 : 0 ≤ turn) (ht : turn < 65536) (hk : turn % len = k) :
    Calls Try.prog 5 #[.slice (some ⟨b, off, none⟩) len cap, .int .u16 turn] w fun e w' => e = .returned (.bool true) ∧ Below w.heap.size w w' := by
  obtain ⟨i0, hi, hz0, hz1, hz2⟩ := info_parts info23
  have hkl : k < len := by have := Int.emod_lt_of_pos turn (show (0 : Int) < len by omega); omega
  have HW := Lib.hid hw
  have HC := Lib.hid hcell
  have HL := Lib.hid hlen
  have HK := Lib.hid hk
  have hne : ¬ cap = k := by omega
  clear hw hcell hlen hk
  have hr : Row w (some ⟨b, off, none⟩) xs := .inr ⟨b, off, rfl, by rw [HL.out]; exact HC.out⟩
  have HR := Lib.hid hr
  clear hr
  have hlp : (0 : Int) < (len : Int) := by omega
  go_enter Try.func5, Try.ntmps5
  go_wp2_with (first | (go_at_call 9; refine (c9 _).mono ?_; rintro e w' ⟨rfl, rfl⟩) | (go_at_call 19; refine (c19 _ len cap xs _ HL.out (by omega) HW.out (by exact HR.out)).mono ?_; rintro e w' ⟨rfl, rfl⟩) | (go_at_call 20; refine (c20 _ len cap xs _ HL.out (by omega) HW.out (by exact HR.out)).mono ?_; rintro e w' ⟨rfl, rfl⟩))
  have hkk : k ≤ len := by omega
  have hb : b < w.heap.size := World.block_lt_of_cell? w ⟨b, off + 0, none⟩ (HC.out 0 h0)
  have B0 : Hid (Below w.heap.size w (w.alloc (Obj.cells #[] 23)).drew) := ((Below.refl _ _).alloc (Nat.le_refl _) _).drew
  have O0 := Lib.hid (own_none w)
  have S0 := Lib.hid (src_drop (k := k) HL.out HC.out hb B0.out hkk)
  have ST := Lib.hid (sum_turn xs k)
  have HB := Lib.hid hb
  have HKK := Lib.hid hkk
  have HT : Hid ((xs.drop k ++ xs.take k).length = len) := by
    have := HL.out
    have h2 := HKK.out
    show (xs.drop k ++ xs.take k).length = len
    rw [List.length_append, List.length_drop, List.length_take]; omega
  have HTW : Hid (∀ x ∈ xs.drop k ++ xs.take k, x < 2 ^ 64) := fun x hx => by
    rw [List.mem_append] at hx
    rcases hx with hx | hx
    · exact HW.out x (List.mem_of_mem_drop hx)
    · exact HW.out x (List.mem_of_mem_take hx)
  rw [HK.out]
  have hk0 : (0 : Int) ≤ (k : Int) := by omega
  have hk1 : (k : Int) < (len : Int) := by omega
  have hk2 : (k : Int) ≤ (len : Int) := by omega
  have hk3 : k ≤ cap := by omega
  have hk4 : (k : Int) ≤ (cap : Int) := by omega
  clear hb hkk
  go_region_law (first
    | (refine step_app rfl (.tmp 36) (.tmp 39) 33 rfl i0 Try.underlying33 hi hz0 hz1 hz2 w.heap.size 0 (.slice (some ⟨w.heap.size, 0, none⟩) 0 0) [] (by simp [Act.eval]) O0.out (some ⟨b, off + k, none⟩) (len - k) (cap - k) (xs.drop k) (by simp [Act.eval]) S0.out (fun h => by cases h) (by unfold maxLen; omega) (by omega) (by simp) ?_; intro A1 c1 w1 hown1 hrow1 hg1; have B1 := Lib.hid (B0.out.grown hg1 (by simp) (fun q hq => by simp [Value.ownBlock] at hq; omega)); have S1 := Lib.hid (src_take (k := k) HL.out HC.out HB.out B1.out HKK.out))
    | (refine step_app rfl (.tmp 40) (.tmp 43) 33 rfl i0 Try.underlying33 hi hz0 hz1 hz2 w.heap.size (0 + (len - k)) (.slice A1 (0 + (len - k)) c1) ([] ++ xs.drop k) (by simp [Act.eval]) hown1 (some ⟨b, off, none⟩) k cap (xs.take k) (by simp [Act.eval]) S1.out (fun h => by cases h) (by unfold maxLen; omega) (by omega) B1.out.size ?_; intro A2 c2 w2 hown2 hrow2 hg2)
    | (go_simp; go_at_call 19; refine (c19 A2 _ c2 (xs.drop k ++ xs.take k) _ (by rw [HT.out]; omega) (by omega) HTW.out hrow2).mono ?_; rintro e w' ⟨rfl, rfl⟩))
  all_goals
    have B2 := Lib.hid (B1.out.grown hg2 B1.out.size (own_base hown1))
    have s1 := ST.out.1
    have s2 := ST.out.2
    clear hown1 hrow1 hown2 hrow2
    go_wp2
    go_ret
    exact ⟨rfl, B2.out⟩
end Go.Proofs.Ytibijjaeekameaa
