/-
  The map of records as a function of its numbers; a row's copy.
-/
import Derived.Test.YtmcmdpbdipgahaaR0
namespace Go.Proofs.Ytmcmdpbdipgahaa
open Go.RowKit Go.Maps Go.WideMaps Go.MapKept
set_option maxRecDepth 100000
theorem ki3 : Keyed Try.prog 3 := int_keyed Try.underlying3
def wfI (k : Int) : Prop := -9223372036854775808 ≤ k ∧ k < 9223372036854775808
theorem wfI_lit {k : Int} (h : wfI k) : (Lit.int .i64 k).wf = true := by
  obtain ⟨h1, h2⟩ := h
  show (decide (IntKind.i64.min ≤ k) && decide (k ≤ IntKind.i64.max)) = true
  rw [show IntKind.i64.min = -9223372036854775808 by decide, show IntKind.i64.max = 9223372036854775807 by decide]
  simp; omega
theorem lit_wfI {k : Int} (h : (Lit.int .i64 k).wf = true) : wfI k := by
  have h : (decide (IntKind.i64.min ≤ k) && decide (k ≤ IntKind.i64.max)) = true := h
  rw [show IntKind.i64.min = -9223372036854775808 by decide, show IntKind.i64.max = 9223372036854775807 by decide] at h
  simp at h
  unfold wfI; omega
theorem key3 {k : Int} (h : wfI k) : keyOf Try.prog 3 (.int .i64 k) = some (.int .i64 k) := keyOf_int_mk Try.underlying3 (wfI_lit h)
theorem key3_inv {v : Value} {l : Lit} (h : keyOf Try.prog 3 v = some l) : ∃ k, v = .int .i64 k ∧ l = .int .i64 k ∧ wfI k := by
  obtain ⟨x, rfl, h2, h3⟩ := keyOf_int_inv Try.underlying3 h
  exact ⟨x, rfl, h2, lit_wfI (by rw [← h2] at *; simpa using h3)⟩
def z0 : List Value := sdV sm0
/-- block b is the map of just the n records that F tells -/
def MapV (w : World) (b n : Nat) (F : Int → Option (List Value)) : Prop :=
  ∃ D : DataW Unit, w.ownsMap Try.prog 3 (plR 42) b n D ∧ size D = n ∧ (∀ k, wfI k → has D (.int .i64 k) = (F k).isSome ∧ D.atKey (.int .i64 k) (pD z0) = pD ((F k).getD z0)) ∧ ∀ k x, F k = some x → plain 42 x
theorem MapV.keep {w w' : World} {b n : Nat} {F : Int → Option (List Value)} (h : MapV w b n F) (hb : w'.heap[b]? = w.heap[b]?) : MapV w' b n F := by
  obtain ⟨D, ⟨es, clock, h1, r⟩, h2⟩ := h
  exact ⟨D, ⟨es, clock, hb.trans h1, r⟩, h2⟩
theorem MapV.lt {w : World} {b n : Nat} {F : Int → Option (List Value)} (h : MapV w b n F) : b < w.heap.size := by
  obtain ⟨D, h1, _⟩ := h
  exact h1.lt
theorem MapV.get {w : World} {b n : Nat} {F : Int → Option (List Value)} (h : MapV w b n F) {k : Int} (hk : wfI k) :
    (Instr.lookup 74 (.map (some b)) (.int .i64 k) true).run Try.prog w = .ok (.tuple #[.agg ((F k).getD z0).toArray, .bool (F k).isSome]) w := by
  obtain ⟨D, h1, _, h2, h5⟩ := h
  obtain ⟨v, ps, hrun, hv⟩ := h1.look_ok ki3 Try.underlying74 (z53 w) (plR_mk sm0_plain) (key3 hk)
  obtain ⟨x, rfl, hx, hz⟩ := plR_inv hv
  obtain ⟨h3, h4⟩ := h2 k hk
  have hz : D.atKey (.int .i64 k) (pD z0) = pD x := (Prod.mk.inj hz).1
  rw [h4] at hz
  have hF : plain 42 ((F k).getD z0) := by
    cases e : F k with
    | none => exact sm0_plain
    | some y => exact h5 k y e
  rw [← pD_inj hF hx hz, h3] at hrun
  exact hrun
theorem get_nilV (w : World) {k : Int} (hk : wfI k) : (Instr.lookup 74 (.map none) (.int .i64 k) true).run Try.prog w = .ok (.tuple #[.agg z0.toArray, .bool false]) w := Maps.look_nil true ki3 Try.underlying74 (z53 w) (key3 hk)
theorem ownsMap_tightV {w : World} {b n m : Nat} {D : DataW Unit} (h : w.ownsMap Try.prog 3 (plR 42) b n D) (hs : size D = m) : w.ownsMap Try.prog 3 (plR 42) b m D := by
  obtain ⟨es, clock, h1, h2, h3, rfl⟩ := h
  refine ⟨es, clock, h1, h2, ?_, rfl⟩
  have : size (DataW.map ((es.toList.map (WideElems.rg Try.prog 3 (plR 42))).foldr DataW.insert [])) = es.size := by simp [Maps.size, length_sorted]
  omega
/-- a function with k's value turned -/
def updV (F : Int → Option (List Value)) (k : Int) (x : List Value) : Int → Option (List Value) := fun j => if j = k then some x else F j
theorem MapV.put {w : World} {b n : Nat} {F : Int → Option (List Value)} (h : MapV w b n F) (hn : n < maxLen) {k : Int} (hk : wfI k) {x : List Value} (hx : plain 42 x) :
    ∃ w', (Instr.mapUpdate 74 (.map (some b)) (.int .i64 k) (.agg x.toArray)).run Try.prog w = .ok () w' ∧ MapV w' b (if (F k).isSome then n else n + 1) (updV F k x) ∧ w.mapTurned w' b := by
  obtain ⟨D, h1, hs, h2, h5⟩ := h
  obtain ⟨w', hrun, ho, ht⟩ := h1.store ki3 Try.underlying74 hn (key3 hk) (plR_mk hx)
  have hl := ki3.key (key3 hk)
  have hsz : size (D.put (.int .i64 k) (pD x)) = if (F k).isSome then n else n + 1 := by
    rw [size_put (h1.tidy ki3), (h2 k hk).1, hs]
  refine ⟨w', hrun, ⟨_, ownsMap_tightV ho hsz, hsz, fun j hj => ?_, fun j y hy => ?_⟩, ht⟩
  · by_cases e : j = k
    · subst e
      rw [has_put_same h1.isMap hl, atKey_put_same h1.isMap hl]
      unfold updV
      rw [if_pos rfl]
      exact ⟨rfl, rfl⟩
    · have hne : (Lit.int .i64 j) ≠ .int .i64 k := fun h => e (by simpa using h)
      rw [has_put_other hne, atKey_put_other hne]
      unfold updV
      rw [if_neg e]
      exact h2 j hj
  · unfold updV at hy
    by_cases e : j = k
    · rw [if_pos e] at hy
      cases hy
      exact hx
    · rw [if_neg e] at hy
      exact h5 j y hy
theorem MapV_made (w : World) : MapV (w.alloc (.map #[] 0)) w.heap.size 0 (fun _ => none) := ⟨_, World.ownsMap_made w _ _ _, rfl, fun _ _ => ⟨by simp [has], rfl⟩, fun _ _ h => by cases h⟩
theorem MapV.len {w : World} {b n : Nat} {F : Int → Option (List Value)} (h : MapV w b n F) (ty : TypeId) : (Builtin.len_ #[74] ty #[.map (some b)]).run Try.prog w = .ok (.int .i64 n) w := by
  obtain ⟨D, h1, hs, _⟩ := h
  rw [h1.len Try.underlying74 ty, hs]
theorem len_nilV (w : World) (ty : TypeId) : (Builtin.len_ #[74] ty #[.map none]).run Try.prog w = .ok (.int .i64 0) w := Maps.len_nil Try.underlying74 ty
theorem step_mputV {w : World} {ops : Array Oper} {o : Oper} {a : Act} {K : Act → World → Prop} {Q : Exit → Act → World → Prop} {E : Prop} (hgd : o.guard = none) (m x v : Operand) (hop : o.op = Op.mapUpdate 74 m x v)
    (b n : Nat) (F : Int → Option (List Value)) (k : Int) (y : List Value) (hm : a.eval m = .map (some b)) (hx : a.eval x = .int .i64 k) (hv : a.eval v = .agg y.toArray) (h : MapV w b n F) (hn : n < maxLen) (hk : wfI k) (hy : plain 42 y)
    (hK : ∀ w', MapV w' b (if (F k).isSome then n else n + 1) (updV F k y) → w.mapTurned w' b → K (a.put o.dst undef) w') : if Region.wanted o (yielded ops a.tmps) = true then Oper.wp Try.prog o a w K Q else E := by
  have hw : Region.wanted o (yielded ops a.tmps) = true := by simp [Region.wanted, hgd]
  rw [if_pos hw]
  obtain ⟨w', hrun, r1, r2⟩ := h.put hn hk hy
  unfold Oper.wp
  simp [execOp, hop, hm, hx, hv, hrun, Result.andThen]
  exact hK w' r1 r2
/-- append of many, in a walk -/
theorem wpList_appG {sl t : TypeId} {z : Value} {sz by' : Nat} (hu : Try.prog.underlying sl = some (.slice t)) (hi : (Try.prog.info? t).map (fun i => (i.zero, i.size, i.bytes)) = some (some z, sz, by')) (hz : z.cells.size = sz) (h0 : 0 < sz) (hb : by' ≤ 1000)
    {w : World} {ops : Array Oper} {rest : List Oper} {o : Oper} {a : Act} {Q : Exit → Act → World → Prop} (hgd : o.guard = none) (s y : Operand)
    (ho : o.op = .call { callee := .builtin .append, args := #[s, y], argTypes := #[sl, sl] }) (base n m c : Nat) (v : Value) (xs ys : List Value) (B : Option Addr) (hv : a.eval s = v) (hx : a.eval y = .slice B m c) (hown : w.ownsRow base t sz v n xs) (hs : SrcG w sz B m ys) (hn : n ≤ 100000) (hm : m ≤ 100000) (hbase : base ≤ w.heap.size)
    (h : ∀ A c' w', w'.ownsRow base t sz (.slice A (n + m) c') (n + m) (xs ++ ys) → Below base w w' → wpList Try.prog ops Q rest (a.put o.dst (.slice A (n + m) c')) w') : wpList Try.prog ops Q (o :: rest) a w := by
  refine wpList_plain hgd fun K hK => ?_
  obtain ⟨A, c', w', hr, h1, h2⟩ := run_appG (c := c) hu hi hz h0 hb hown hs hn hm hbase o.type
  unfold Oper.wp execOp
  simp only [ho, resolve, invoke, builtin, Sem.run_bind, Sem.run_pure, Result.andThen_ok, List.map_toArray, List.map_cons, List.map_nil, hv, hx, hr]
  exact hK _ _ (h A c' w' h1 h2)
theorem own_noneG (w : World) (t : TypeId) (sz : Nat) : (w.alloc (Obj.cells #[] t)).ownsRow w.heap.size t sz (.slice (some ⟨w.heap.size, 0, none⟩) 0 0) 0 [] :=
  ⟨by simp, .inr ⟨w.heap.size, 0, #[], rfl, Nat.le_refl _, heap_alloc_new w _, Nat.le_refl _, Nat.zero_le _, by simp, by simp⟩⟩
/-- what a row of the call's own is -/
theorem rf_own {w : World} {base n c sz : Nat} {t : TypeId} {A : Option Addr} {ys : List Value} (h : w.ownsRow base t sz (.slice A n c) n ys) (h1 : ∀ u ∈ ys, u.oneCell' = true) (hn : n ≤ 100) (P : Nat → Prop) (hP : ∀ q, P q → q < base) : RfAt w P sz ⟨A, n, c, ys⟩ := by
  rcases own_addr h with ⟨rfl, e1, e2⟩ | ⟨g, rfl⟩
  · refine ⟨⟨h.1, h1, .inl e1⟩, (by show n ≤ c; omega), hn, fun a ha => (by cases ha), fun _ => ⟨e1, e2⟩⟩
  · have r := ownG_rng h
    have hb := ownG_base h g rfl
    exact ⟨⟨h.1, h1, .inr ⟨g, 0, rfl, r.1, r.2.2⟩⟩, r.2.1, hn, fun a ha => by cases ha; exact ⟨rfl, r.1, fun hp => by have : g < base := hP _ hp; omega⟩, fun ha => (by cases ha)⟩
end Go.Proofs.Ytmcmdpbdipgahaa
