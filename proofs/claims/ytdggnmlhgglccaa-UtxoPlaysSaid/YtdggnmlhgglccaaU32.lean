/-
  maps.Keys at points: each point that is there comes once.
-/
import Derived.Test.YtdggnmlhgglccaaU31
import Derived.Test.YtdggnmlhgglccaaU18
import Derived.Sort.MapsRangeIn
namespace Go.Proofs.Ytdggnmlhgglccaa
open Go.RowKit Go.Maps
set_option maxRecDepth 100000
attribute [local go_sem] Oper.semAt_some
theorem all_in {α : Type} [DecidableEq α] : ∀ {A B : List α}, A.Nodup → (∀ x ∈ A, x ∈ B) → A.length = B.length → ∀ x ∈ B, x ∈ A
  | [], B, _, _, hl, x, hx => by
    have : B = [] := List.length_eq_zero_iff.1 hl.symm
    rw [this] at hx; cases hx
  | a :: A, B, nd, hs, hl, x, hx => by
    obtain ⟨h1, h2⟩ := List.nodup_cons.1 nd
    have ha := hs a (by simp)
    by_cases e : x = a
    · subst e; simp
    · refine List.mem_cons_of_mem _ (all_in (B := B.erase a) h2 (fun y hy => ?_) ?_ x ((List.mem_erase_of_ne e).2 hx))
      · exact (List.mem_erase_of_ne (show y ≠ a from fun e => h1 (e ▸ hy))).2 (hs y (List.mem_cons_of_mem _ hy))
      · rw [List.length_erase_of_mem ha]
        simp only [List.length_cons] at hl
        omega
theorem ptA_inj {p q : List Int} (hp : okP p) (hq : okP q) (h : ptA p = ptA q) : p = q := by
  have e2 := congrArg Array.toList (Value.agg.inj h)
  rw [List.toList_toArray, List.toList_toArray] at e2
  exact vals_inj (okT_len hp) (okT_len hq) e2
/-- the points that are there, once each -/
structure Keys (F : List Int → Option Cn) (K : List (List Int)) : Prop where
  nd : K.Nodup
  mem : ∀ p, p ∈ K ↔ F p ≠ none
  ok : ∀ p ∈ K, okP p
theorem keys_set {L : List Stp} (h : okS L) : Keys (setF L) (setK L) :=
  have I := inv_of h
  ⟨I.nd, I.mem, fun p hp => by
    have := (I.mem p).1 hp
    cases e : setF L p with
    | none => exact absurd e this
    | some c => exact (I.ok p c e).1⟩
/-- each key of the map is one of the points -/
theorem key_is {w : World} {b n : Nat} {F : List Int → Option Cn} {K : List (List Int)} {D : DataW Unit} (hK : Keys F K) (hl : K.length = n) (h1 : w.ownsMap Try.prog 38 cnR b n D) (hs : size D = n)
    (h2 : ∀ p l, okP p → keyOf Try.prog 38 (ptA p) = some l → has D l = (F p).isSome ∧ D.atKey l (cnD cn0) = cnD ((F p).getD cn0)) {v : Value} {l : Lit} (hv : keyOf Try.prog 38 v = some l) (hh : has D l = true) : ∃ p ∈ K, v = ptA p := by
  classical
  obtain ⟨es, rfl, hp, _⟩ := h1.entries keyed61
  have hf : ∀ p : List Int, ∃ l : Lit, okP p → keyOf Try.prog 38 (ptA p) = some l := fun p => by
    by_cases hp : okP p
    · obtain ⟨l, hl⟩ := pt_key hp
      exact ⟨l, fun _ => hl⟩
    · exact ⟨l, fun h => absurd h hp⟩
  have hfs := fun p => Classical.choose_spec (hf p)
  have hin : ∀ {l : Lit}, has (.map es) l = true → l ∈ es.map (·.1) := fun {l} h => by
    rw [has_eq, List.any_eq_true] at h
    obtain ⟨p, h3, h4⟩ := h
    exact List.mem_map.2 ⟨p, h3, WideAt.sameKey_eq h4⟩
  have hA : (K.map fun p => Classical.choose (hf p)).Nodup := by
    refine List.pairwise_map.2 (hK.nd.imp_of_mem fun {p q} hp' hq' hne e => hne ?_)
    have e1 := hfs p (hK.ok p hp')
    have e2 := hfs q (hK.ok q hq')
    rw [e] at e1
    exact ptA_inj (hK.ok p hp') (hK.ok q hq') (keyed61.inj e1 e2)
  have hsub : ∀ x ∈ K.map fun p => Classical.choose (hf p), x ∈ es.map (·.1) := fun x hx => by
    obtain ⟨p, hp', rfl⟩ := List.mem_map.1 hx
    refine hin ?_
    rw [(h2 p _ (hK.ok p hp') (hfs p (hK.ok p hp'))).1]
    have := (hK.mem p).1 hp'
    cases e : F p with
    | none => exact absurd e this
    | some c => rfl
  have hlen : (K.map fun p => Classical.choose (hf p)).length = (es.map (·.1)).length := by
    rw [List.length_map, List.length_map, hl, ← hs, size_eq]
  have := all_in hA hsub hlen l (hin hh)
  obtain ⟨p, hp', e⟩ := List.mem_map.1 this
  refine ⟨p, hp', keyed61.inj hv ?_⟩
  rw [← e]
  exact hfs p (hK.ok p hp')
/-- a point that may be -/
abbrev Pt := { p : List Int // okP p }
def encP (x : Pt) : Array Value := #[ptA x.1]
/-- what has come: each once, those that are no longer left -/
def Come (D : DataW Unit) (left : Lit → Bool) (ss : List Pt) : Prop := (ss.map (·.1)).Nodup ∧ ∀ p l, okP p → keyOf Try.prog 38 (ptA p) = some l → (p ∈ ss.map (·.1) ↔ (has D l = true ∧ left l = false))
theorem come_start (D : DataW Unit) : Come D (has D) [] := ⟨List.nodup_nil, fun p l _ _ => by cases has D l <;> simp⟩
theorem come_step {D : DataW Unit} {left : Lit → Bool} {ss : List Pt} (h : Come D left ss) {x : Pt} {l : Lit} (hl : keyOf Try.prog 38 (ptA x.1) = some l) (hlk : left l = true) (hh : has D l = true) : Come D (fun z => left z && !z.sameKey l) (ss ++ [x]) := by
  have hnew : x.1 ∉ ss.map (·.1) := fun hx => by have := ((h.2 x.1 l x.2 hl).1 hx).2; rw [hlk] at this; cases this
  refine ⟨?_, fun p m hp hm => ?_⟩
  · rw [List.map_append]
    refine List.nodup_append.2 ⟨h.1, by simp, fun a ha b hb => ?_⟩
    simp at hb
    subst hb
    exact fun e => hnew (e ▸ ha)
  · rw [List.map_append, List.mem_append, h.2 p m hp hm]
    simp only [List.map_cons, List.map_nil, List.mem_singleton]
    by_cases e : p = x.1
    · subst e
      rw [hl] at hm
      cases hm
      simp [hh, WideAt.sameKey_self (keyed61.key hl)]
    · have hne : m ≠ l := fun e2 => e (ptA_inj hp x.2 (keyed61.inj hm (e2 ▸ hl)))
      have : m.sameKey l = false := sameKey_ne hne
      simp [this, e]
theorem z38 (w : World) : (zeroValue 38).run Try.prog w = .ok (.agg (ptV (zeros 9)).toArray) w := by kernel_rfl
theorem ptV9 : (ptV (zeros 9)).length = 9 := rfl
end Go.Proofs.Ytdggnmlhgglccaa
