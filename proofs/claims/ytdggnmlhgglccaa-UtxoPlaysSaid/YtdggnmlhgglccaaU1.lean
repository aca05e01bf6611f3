/-
  The map of coins as a function of its points.
-/
import Derived.Test.YtdggnmlhgglccaaU0b
namespace Go.Proofs.Ytdggnmlhgglccaa
open Go.RowKit Go.Maps Go.WideMaps Go.MapKept
set_option maxRecDepth 100000
def okP (p : List Int) : Prop := okT okA ptS p
def ptA (p : List Int) : Value := .agg (ptV p).toArray
def cnA (c : Cn) : Value := .agg (cnV c).toArray
theorem pt_key {p : List Int} (h : okP p) : ∃ l, keyOf Try.prog 38 (ptA p) = some l := key_pt h
theorem pt_ne {p q : List Int} {l m : Lit} (hp : okP p) (hq : okP q) (h1 : keyOf Try.prog 38 (ptA p) = some l) (h2 : keyOf Try.prog 38 (ptA q) = some m) (h : p ≠ q) : m ≠ l := by
  rintro rfl
  have e := keyed61.inj h1 h2
  have e2 := congrArg Array.toList (Value.agg.inj e)
  rw [List.toList_toArray, List.toList_toArray] at e2
  exact h (vals_inj (okT_len hp) (okT_len hq) e2)
theorem z47 (w : World) : (zeroValue 47).run Try.prog w = .ok (cnA cn0) w := by kernel_rfl
/-- a function with p's value turned -/
def updC (F : List Int → Option Cn) (p : List Int) (x : Option Cn) : List Int → Option Cn := fun q => if q = p then x else F q
theorem updC_same (F : List Int → Option Cn) (p : List Int) (x : Option Cn) : updC F p x p = x := if_pos rfl
theorem updC_other (F : List Int → Option Cn) {p q : List Int} (x : Option Cn) (h : q ≠ p) : updC F p x q = F q := if_neg h
theorem updC_back (F : List Int → Option Cn) (p : List Int) (x : Option Cn) : updC (updC F p x) p (F p) = F := by
  funext q
  by_cases h : q = p
  · subst h; rw [updC_same]
  · rw [updC_other _ _ h, updC_other _ _ h]
/-- block b is the map of just the n coins that F tells -/
def MapC (w : World) (b n : Nat) (F : List Int → Option Cn) : Prop :=
  ∃ D : DataW Unit, w.ownsMap Try.prog 38 cnR b n D ∧ size D = n ∧ ∀ p l, okP p → keyOf Try.prog 38 (ptA p) = some l → has D l = (F p).isSome ∧ D.atKey l (cnD cn0) = cnD ((F p).getD cn0)
theorem MapC.keep {w w' : World} {b n : Nat} {F : List Int → Option Cn} (h : MapC w b n F) (hb : w'.heap[b]? = w.heap[b]?) : MapC w' b n F := by
  obtain ⟨D, ⟨es, clock, h1, r⟩, h2⟩ := h
  exact ⟨D, ⟨es, clock, hb.trans h1, r⟩, h2⟩
theorem MapC.lt {w : World} {b n : Nat} {F : List Int → Option Cn} (h : MapC w b n F) : b < w.heap.size := by
  obtain ⟨D, h1, _⟩ := h
  exact h1.lt
theorem MapC.get {w : World} {b n : Nat} {F : List Int → Option Cn} (h : MapC w b n F) {p : List Int} (hp : okP p) :
    (Instr.lookup 67 (.map (some b)) (ptA p) true).run Try.prog w = .ok (.tuple #[cnA ((F p).getD cn0), .bool (F p).isSome]) w ∧ ((F p).getD cn0).r.length = 10 := by
  obtain ⟨D, h1, _, h2⟩ := h
  obtain ⟨l, hl⟩ := pt_key hp
  obtain ⟨v, ps, hrun, hv⟩ := h1.look_ok keyed61 Try.underlying67 (z47 w) (cnR_mk (c := cn0) rfl) hl
  obtain ⟨c, rfl, hc, hz⟩ := cnR_inv hv
  obtain ⟨h3, h4⟩ := h2 p l hp hl
  rw [h4] at hz
  have := cnD_inj (Prod.mk.inj hz).1
  rw [this, ← h3]
  exact ⟨hrun, hc⟩
theorem get_nilC (w : World) {p : List Int} (hp : okP p) : (Instr.lookup 67 (.map none) (ptA p) true).run Try.prog w = .ok (.tuple #[cnA cn0, .bool false]) w := by
  obtain ⟨l, hl⟩ := pt_key hp
  exact Maps.look_nil true keyed61 Try.underlying67 (z47 w) hl
theorem ownsMap_tight {w : World} {b n m : Nat} {D : DataW Unit} (h : w.ownsMap Try.prog 38 cnR b n D) (hs : size D = m) : w.ownsMap Try.prog 38 cnR b m D := by
  obtain ⟨es, clock, h1, h2, h3, rfl⟩ := h
  refine ⟨es, clock, h1, h2, ?_, rfl⟩
  have : size (DataW.map ((es.toList.map (WideElems.rg Try.prog 38 cnR)).foldr DataW.insert [])) = es.size := by simp [Maps.size, length_sorted]
  omega
theorem MapC.put {w : World} {b n : Nat} {F : List Int → Option Cn} (h : MapC w b n F) (hn : n < maxLen) {p : List Int} (hp : okP p) (hF : F p = none) {c : Cn} (hc : c.r.length = 10) :
    ∃ w', (Instr.mapUpdate 67 (.map (some b)) (ptA p) (cnA c)).run Try.prog w = .ok () w' ∧ MapC w' b (n + 1) (updC F p (some c)) ∧ w.mapTurned w' b := by
  obtain ⟨D, h1, hs, h2⟩ := h
  obtain ⟨l, hl⟩ := pt_key hp
  obtain ⟨w', hrun, ho, ht⟩ := h1.store keyed61 Try.underlying67 hn hl (cnR_mk hc)
  have hk := keyed61.key hl
  refine ⟨w', hrun, ⟨_, ho, ?_, fun q m hq hm => ?_⟩, ht⟩
  · rw [size_put (h1.tidy keyed61), (h2 p l hp hl).1, hF, hs]
    rfl
  · by_cases e : q = p
    · subst e
      rw [hl] at hm
      cases hm
      rw [has_put_same h1.isMap hk, atKey_put_same h1.isMap hk, updC_same]
      exact ⟨rfl, rfl⟩
    · have := pt_ne hp hq hl hm (Ne.symm e)
      rw [has_put_other this, atKey_put_other this, updC_other _ _ e]
      exact h2 q m hq hm
theorem MapC.drop {w : World} {b n : Nat} {F : List Int → Option Cn} (h : MapC w b (n + 1) F) {p : List Int} (hp : okP p) {c : Cn} (hF : F p = some c) (ty : TypeId) :
    ∃ w', (Builtin.delete_ #[67, 38] ty #[.map (some b), ptA p]).run Try.prog w = .ok (.tuple #[]) w' ∧ MapC w' b n (updC F p none) ∧ w.mapTurned w' b := by
  obtain ⟨D, h1, hs, h2⟩ := h
  obtain ⟨l, hl⟩ := pt_key hp
  obtain ⟨w', hrun, ho, ht⟩ := h1.drop keyed61 Try.underlying67 hl ty
  have h3 : size (D.del l) = n := by
    have := size_del (h1.tidy keyed61) (k := l)
    rw [(h2 p l hp hl).1, hF, hs] at this
    simpa using this
  refine ⟨w', hrun, ⟨_, ownsMap_tight ho h3, h3, fun q m hq hm => ?_⟩, ht⟩
  by_cases e : q = p
  · subst e
    rw [hl] at hm
    cases hm
    rw [has_del_same, atKey_del_same, updC_same]
    exact ⟨rfl, rfl⟩
  · have := pt_ne hp hq hl hm (Ne.symm e)
    rw [has_del_other this, atKey_del_other this, updC_other _ _ e]
    exact h2 q m hq hm
theorem MapC_made (w : World) : MapC (w.alloc (.map #[] 0)) w.heap.size 0 (fun _ => none) := ⟨_, World.ownsMap_made w _ _ _, rfl, fun _ _ _ _ => ⟨by simp [has], rfl⟩⟩
theorem MapC.len {w : World} {b n : Nat} {F : List Int → Option Cn} (h : MapC w b n F) (ty : TypeId) : (Builtin.len_ #[67] ty #[.map (some b)]).run Try.prog w = .ok (.int .i64 n) w := by
  obtain ⟨D, h1, hs, _⟩ := h
  rw [h1.len Try.underlying67 ty, hs]
theorem len_nilC (w : World) (ty : TypeId) : (Builtin.len_ #[67] ty #[.map none]).run Try.prog w = .ok (.int .i64 0) w := Maps.len_nil Try.underlying67 ty
end Go.Proofs.Ytdggnmlhgglccaa
