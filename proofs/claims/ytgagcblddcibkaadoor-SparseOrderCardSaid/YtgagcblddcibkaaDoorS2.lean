/-
  A map of hashes as a function of its keys.
-/
import Derived.Test.YtgagcblddcibkaaDoorS1
import Derived.Maps.OwnSet
import Derived.StillTailTactics
import Derived.Deep.AppendLies
import Derived.Deep.DrawnRows
namespace Go.Proofs.YtgagcblddcibkaaDoor
open Go.RowKit
open Go.Maps
/-- how a hash reads -/
def hd (x : List Int) : DataW Unit := .agg (x.map fun a => .lit (.int .u8 a))
open Classical in
noncomputable def hashR (v : Value) : Option (DataW Unit × List MemPlace) := if h : ∃ x : List Int, v = .agg (ba x) ∧ x.length = 8 then some (hd h.choose, []) else none
theorem ba_inj {x y : List Int} (h : ba x = ba y) : x = y := by
  have h2 : bvals x = bvals y := by
    have := congrArg Array.toList h
    simpa [ba] using this
  unfold bvals at h2
  have : ∀ (x y : List Int), x.map (Value.int .u8) = y.map (Value.int .u8) → x = y := by
    intro x
    induction x with
    | nil => intro y e; cases y with
      | nil => rfl
      | cons b y => simp at e
    | cons a x ih => intro y e; cases y with
      | nil => simp at e
      | cons b y =>
        simp only [List.map_cons, List.cons.injEq, Value.int.injEq, true_and] at e
        rw [e.1, ih y e.2]
  exact this x y h2
theorem hd_inj {x y : List Int} (h : hd x = hd y) : x = y := by
  have : ∀ (x y : List Int), (x.map fun a => (DataW.lit (.int .u8 a) : DataW Unit)) = (y.map fun a => (DataW.lit (.int .u8 a) : DataW Unit)) → x = y := by
    intro x
    induction x with
    | nil => intro y e; cases y with
      | nil => rfl
      | cons b y => simp at e
    | cons a x ih => intro y e; cases y with
      | nil => simp at e
      | cons b y =>
        simp only [List.map_cons, List.cons.injEq, DataW.lit.injEq, Lit.int.injEq, true_and] at e
        rw [e.1, ih y e.2]
  unfold hd at h
  exact this x y (DataW.agg.inj h)
theorem hashR_mk (x : List Int) (h : x.length = 8) : hashR (.agg (ba x)) = some (hd x, []) := by
  have he : ∃ y : List Int, (Value.agg (ba x)) = .agg (ba y) ∧ y.length = 8 := ⟨x, rfl, h⟩
  unfold hashR
  rw [dif_pos he]
  have hc := he.choose_spec.1
  rw [ba_inj (Value.agg.inj hc).symm]
theorem hashR_inv {v : Value} {z : DataW Unit × List MemPlace} (h : hashR v = some z) : ∃ x : List Int, v = .agg (ba x) ∧ x.length = 8 ∧ z = (hd x, []) := by
  unfold hashR at h
  split at h
  · rename_i he
    exact ⟨he.choose, he.choose_spec.1, he.choose_spec.2, (Option.some.inj h).symm⟩
  · cases h
theorem kl3 : Keyed Tryd.prog 3 := int_keyed Tryd.underlying3
theorem key3 {k : Int} (hw : (Lit.int .i64 k).wf = true) : keyOf Tryd.prog 3 (.int .i64 k) = some (.int .i64 k) := keyOf_int_mk Tryd.underlying3 hw
/-- f with k's value turned -/
def upd (f : Int → List Int) (k : Int) (x : List Int) : Int → List Int := fun j => if j = k then x else f j
theorem upd_same (f : Int → List Int) (k : Int) (x : List Int) : upd f k x k = x := by unfold upd; rw [if_pos rfl]
theorem upd_other (f : Int → List Int) {k j : Int} (x : List Int) (h : j ≠ k) : upd f k x j = f j := by unfold upd; rw [if_neg h]
/-- block b is a map of at most n hashes, f at its keys, zero elsewhere -/
def MapIs (w : World) (b n : Nat) (f : Int → List Int) : Prop := ∃ D : DataW Unit, w.ownsMap Tryd.prog 3 hashR b n D ∧ (∀ k : Int, D.atKey (.int .i64 k) (hd (zeros 8)) = hd (f k)) ∧ ∀ k : Int, has D (.int .i64 k) = decide (f k ≠ zeros 8)
theorem MapIs.mono {w : World} {b n m : Nat} {f : Int → List Int} (h : MapIs w b n f) (hn : n ≤ m) : MapIs w b m f := by
  obtain ⟨D, h1, h2, h3⟩ := h
  exact ⟨D, h1.mono hn, h2, h3⟩
theorem MapIs.keep {w w' : World} {b n : Nat} {f : Int → List Int} (h : MapIs w b n f) (hb : w'.heap[b]? = w.heap[b]?) : MapIs w' b n f := by
  obtain ⟨D, ⟨es, clock, h1, r⟩, h2⟩ := h
  exact ⟨D, ⟨es, clock, hb.trans h1, r⟩, h2⟩
theorem MapIs.lt {w : World} {b n : Nat} {f : Int → List Int} (h : MapIs w b n f) : b < w.heap.size := by
  obtain ⟨D, h1, _⟩ := h
  exact h1.lt
theorem MapIs.get {w : World} {b n : Nat} {f : Int → List Int} (h : MapIs w b n f) {k : Int} (hw : (Lit.int .i64 k).wf = true) : (Instr.lookup 55 (.map (some b)) (.int .i64 k) false).run Tryd.prog w = .ok (.agg (ba (f k))) w ∧ (f k).length = 8 := by
  obtain ⟨D, h1, h2, _⟩ := h
  obtain ⟨v, ps, hrun, hv⟩ := h1.lookup kl3 Tryd.underlying55 (z27 w) (hashR_mk (zeros 8) rfl) (key3 hw)
  obtain ⟨x, rfl, hx, hz⟩ := hashR_inv hv
  rw [h2 k] at hz
  have := hd_inj (Prod.mk.inj hz).1
  rw [this]
  exact ⟨hrun, hx⟩
theorem get_nil (w : World) {k : Int} (hw : (Lit.int .i64 k).wf = true) : (Instr.lookup 55 (.map none) (.int .i64 k) false).run Tryd.prog w = .ok (.agg (ba (zeros 8))) w := Maps.look_nil false kl3 Tryd.underlying55 (z27 w) (key3 hw)
theorem MapIs.put {w : World} {b n : Nat} {f : Int → List Int} (h : MapIs w b n f) (hn : n < maxLen) {k : Int} (hw : (Lit.int .i64 k).wf = true) {x : List Int} (hx : x.length = 8) (h0 : ¬ x = zeros 8) :
    ∃ w', (Instr.mapUpdate 55 (.map (some b)) (.int .i64 k) (.agg (ba x))).run Tryd.prog w = .ok () w' ∧ MapIs w' b (n + 1) (upd f k x) ∧ w.mapTurned w' b := by
  obtain ⟨D, h1, h2, h3⟩ := h
  obtain ⟨w', hrun, ho, ht⟩ := h1.store kl3 Tryd.underlying55 hn (key3 hw) (hashR_mk x hx)
  refine ⟨w', hrun, ⟨_, ho, fun j => ?_, fun j => ?_⟩, ht⟩
  · by_cases e : j = k
    · subst e
      rw [atKey_put_same h1.isMap (by trivial), upd_same]
    · rw [atKey_put_other (by simpa using e), h2 j, upd_other f x e]
  · by_cases e : j = k
    · subst e
      rw [has_put_same h1.isMap (by trivial), upd_same]
      simp [h0]
    · rw [has_put_other (by simpa using e), h3 j, upd_other f x e]
theorem MapIs.drop {w : World} {b n : Nat} {f : Int → List Int} (h : MapIs w b n f) {k : Int} (hw : (Lit.int .i64 k).wf = true) (ty : TypeId) :
    ∃ w', (Builtin.delete_ #[55, 3] ty #[.map (some b), .int .i64 k]).run Tryd.prog w = .ok (.tuple #[]) w' ∧ MapIs w' b n (upd f k (zeros 8)) ∧ w.mapTurned w' b := by
  obtain ⟨D, h1, h2, h3⟩ := h
  obtain ⟨w', hrun, ho, ht⟩ := h1.drop kl3 Tryd.underlying55 (key3 hw) ty
  refine ⟨w', hrun, ⟨_, ho, fun j => ?_, fun j => ?_⟩, ht⟩
  · by_cases e : j = k
    · subst e
      rw [atKey_del_same, upd_same]
    · rw [atKey_del_other (by simpa using e), h2 j, upd_other f _ e]
  · by_cases e : j = k
    · subst e
      rw [has_del_same, upd_same]
      simp
    · rw [has_del_other (by simpa using e), h3 j, upd_other f _ e]
theorem drop_nil (w : World) {k : Int} (hw : (Lit.int .i64 k).wf = true) (ty : TypeId) : (Builtin.delete_ #[55, 3] ty #[.map none, .int .i64 k]).run Tryd.prog w = .ok (.tuple #[]) w := Maps.drop_nil kl3 Tryd.underlying55 (key3 hw) ty
theorem MapIs_made (w : World) : MapIs (w.alloc (.map #[] 0)) w.heap.size 0 (fun _ => zeros 8) := ⟨_, World.ownsMap_made w _ _ _, fun _ => rfl, fun _ => by simp [has]⟩
/-- how many there are -/
theorem MapIs.len {w : World} {b n : Nat} {f : Int → List Int} (h : MapIs w b n f) (ks : List Int) (hnd : ks.Nodup) (hks : ∀ k, f k ≠ zeros 8 ↔ k ∈ ks) (ty : TypeId) : (Builtin.len_ #[55] ty #[.map (some b)]).run Tryd.prog w = .ok (.int .i64 ks.length) w := by
  obtain ⟨D, h1, h2, h3⟩ := h
  have hl := h1.len Tryd.underlying55 ty
  obtain ⟨es, clock, hb, F, hs, hD⟩ := h1
  have hkk := Maps.keys_perm (WideShapes.sorted_perm (es.toList.map (WideElems.rg Tryd.prog 3 hashR))).symm (Maps.fit_keys F)
  have hap := ((WideShapes.sorted_perm (es.toList.map (WideElems.rg Tryd.prog 3 hashR))).pairwise_iff (fun {_ _} hne => Ne.symm hne)).2 (Maps.fit_apart kl3 F)
  rw [hl]
  have hsz : size D = ks.length := by
    subst hD
    generalize (es.toList.map (WideElems.rg Tryd.prog 3 hashR)).foldr DataW.insert [] = L at *
    rw [size_eq]
    have hint : ∀ p ∈ L, ∃ a, p.1 = .int .i64 a := fun p hp => by
      obtain ⟨v, hv⟩ := hkk p hp
      have hu := Tryd.underlying3
      cases v <;> simp [keyOf, hu, mapKey] at hv
      exact ⟨_, hv.2.symm⟩
    have hn1 : (L.map Prod.fst).Nodup := by
      rw [List.nodup_iff_pairwise_ne, List.pairwise_map]
      exact hap
    have hn2 : (ks.map (Lit.int .i64)).Nodup := by
      rw [List.nodup_iff_pairwise_ne, List.pairwise_map]
      exact (List.nodup_iff_pairwise_ne.1 hnd).imp fun h e => h (Lit.int.inj e).2
    have hm : ∀ l, l ∈ L.map Prod.fst ↔ l ∈ ks.map (Lit.int .i64) := fun l => by
      constructor
      · intro hl
        obtain ⟨p, hp, rfl⟩ := List.mem_map.1 hl
        obtain ⟨a, ha⟩ := hint p hp
        rw [ha]
        refine List.mem_map.2 ⟨a, (hks a).1 ?_, rfl⟩
        have := h3 a
        rw [has_eq, List.any_eq_true.2 ⟨p, hp, by rw [ha]; exact WideAt.sameKey_self trivial⟩] at this
        simpa using this.symm
      · intro hl
        obtain ⟨a, ha, rfl⟩ := List.mem_map.1 hl
        have h4 := (hks a).2 ha
        have := h3 a
        rw [has_eq, decide_eq_true h4] at this
        obtain ⟨p, hp, hk⟩ := List.any_eq_true.1 this
        rw [← WideAt.sameKey_eq hk]
        exact List.mem_map.2 ⟨p, hp, rfl⟩
    have := ((List.perm_ext_iff_of_nodup hn1 hn2).2 hm).length_eq
    simpa using this
  rw [hsz]
/-! ### at the operation -/
theorem wpList_mput {w : World} {ops : Array Oper} {rest : List Oper} {o : Oper} {a : Act} {Q : Exit → Act → World → Prop} (hg : o.guard = none) (m x v : Operand) (hop : o.op = Op.mapUpdate 55 m x v)
    (b n : Nat) (f : Int → List Int) (k : Int) (y : List Int) (hm : a.eval m = .map (some b)) (hx : a.eval x = .int .i64 k) (hv : a.eval v = .agg (ba y)) (h : MapIs w b n f) (hn : n < maxLen) (hw : (Lit.int .i64 k).wf = true) (hy : y.length = 8) (h0 : ¬ y = zeros 8)
    (hK : ∀ w', MapIs w' b (n + 1) (upd f k y) → w.mapTurned w' b → wpList Tryd.prog ops Q rest (a.put o.dst undef) w') : wpList Tryd.prog ops Q (o :: rest) a w := by
  refine wpList_plain hg fun K' hK' => ?_
  obtain ⟨w', hrun, r1, r2⟩ := h.put hn hw hy h0
  unfold Oper.wp
  simp [execOp, hop, hm, hx, hv, hrun, Result.andThen]
  exact hK' _ _ (hK w' r1 r2)
theorem wpList_mdel {w : World} {ops : Array Oper} {rest : List Oper} {o : Oper} {a : Act} {Q : Exit → Act → World → Prop} (hg : o.guard = none) (m x : Operand) (hop : o.op = Op.call { callee := Callee.builtin Builtin.delete, args := #[m, x], argTypes := #[55, 3] })
    (b n : Nat) (f : Int → List Int) (k : Int) (hm : a.eval m = .map (some b)) (hx : a.eval x = .int .i64 k) (h : MapIs w b n f) (hw : (Lit.int .i64 k).wf = true)
    (hK : ∀ w', MapIs w' b n (upd f k (zeros 8)) → w.mapTurned w' b → wpList Tryd.prog ops Q rest (a.put o.dst (.tuple #[])) w') : wpList Tryd.prog ops Q (o :: rest) a w := by
  refine wpList_plain hg fun K' hK' => ?_
  obtain ⟨w', hrun, r1, r2⟩ := h.drop hw o.type
  unfold Oper.wp
  simp [execOp, hop, resolve, invoke, builtin, hm, hx, hrun, Result.andThen]
  exact hK' _ _ (hK w' r1 r2)
theorem wpList_mdelN {w : World} {ops : Array Oper} {rest : List Oper} {o : Oper} {a : Act} {Q : Exit → Act → World → Prop} (hg : o.guard = none) (m x : Operand) (hop : o.op = Op.call { callee := Callee.builtin Builtin.delete, args := #[m, x], argTypes := #[55, 3] })
    (k : Int) (hm : a.eval m = .map none) (hx : a.eval x = .int .i64 k) (hw : (Lit.int .i64 k).wf = true)
    (hK : wpList Tryd.prog ops Q rest (a.put o.dst (.tuple #[])) w) : wpList Tryd.prog ops Q (o :: rest) a w := by
  refine wpList_plain hg fun K' hK' => ?_
  have hrun := drop_nil w hw o.type
  unfold Oper.wp
  simp [execOp, hop, resolve, invoke, builtin, hm, hx, hrun, Result.andThen]
  exact hK' _ _ hK
end Go.Proofs.YtgagcblddcibkaaDoor
