/-
  Put and drop, whatever was there.
-/
import Derived.Test.YtdggnmlhgglccaaU1
namespace Go.Proofs.Ytdggnmlhgglccaa
open Go.RowKit Go.Maps Go.WideMaps Go.MapKept
set_option maxRecDepth 100000
theorem MapC.putG {w : World} {b n : Nat} {F : List Int → Option Cn} (h : MapC w b n F) (hn : n < maxLen) {p : List Int} (hp : okP p) {c : Cn} (hc : c.r.length = 10) :
    ∃ w', (Instr.mapUpdate 67 (.map (some b)) (ptA p) (cnA c)).run Try.prog w = .ok () w' ∧ MapC w' b (if (F p).isSome then n else n + 1) (updC F p (some c)) ∧ w.mapTurned w' b := by
  obtain ⟨D, h1, hs, h2⟩ := h
  obtain ⟨l, hl⟩ := pt_key hp
  obtain ⟨w', hrun, ho, ht⟩ := h1.store keyed61 Try.underlying67 hn hl (cnR_mk hc)
  have hk := keyed61.key hl
  have hsz : size (D.put l (cnD c)) = if (F p).isSome then n else n + 1 := by
    rw [size_put (h1.tidy keyed61), (h2 p l hp hl).1, hs]
  refine ⟨w', hrun, ⟨_, ownsMap_tight ho hsz, hsz, fun q m hq hm => ?_⟩, ht⟩
  by_cases e : q = p
  · subst e
    rw [hl] at hm
    cases hm
    rw [has_put_same h1.isMap hk, atKey_put_same h1.isMap hk, updC_same]
    exact ⟨rfl, rfl⟩
  · have := pt_ne hp hq hl hm (Ne.symm e)
    rw [has_put_other this, atKey_put_other this, updC_other _ _ e]
    exact h2 q m hq hm
theorem MapC.dropG {w : World} {b n : Nat} {F : List Int → Option Cn} (h : MapC w b n F) {p : List Int} (hp : okP p) (ty : TypeId) :
    ∃ w', (Builtin.delete_ #[67, 38] ty #[.map (some b), ptA p]).run Try.prog w = .ok (.tuple #[]) w' ∧ MapC w' b (if (F p).isSome then n - 1 else n) (updC F p none) ∧ w.mapTurned w' b := by
  obtain ⟨D, h1, hs, h2⟩ := h
  obtain ⟨l, hl⟩ := pt_key hp
  obtain ⟨w', hrun, ho, ht⟩ := h1.drop keyed61 Try.underlying67 hl ty
  have h3 : size (D.del l) = if (F p).isSome then n - 1 else n := by
    have := size_del (h1.tidy keyed61) (k := l)
    rw [(h2 p l hp hl).1, hs] at this
    cases h5 : (F p).isSome
    · rw [h5] at this; simpa using this
    · rw [h5] at this; simp at this ⊢; omega
  refine ⟨w', hrun, ⟨_, ownsMap_tight ho h3, h3, fun q m hq hm => ?_⟩, ht⟩
  by_cases e : q = p
  · subst e
    rw [hl] at hm
    cases hm
    rw [has_del_same, atKey_del_same, updC_same]
    exact ⟨rfl, rfl⟩
  · have := pt_ne hp hq hl hm (Ne.symm e)
    rw [has_del_other this, atKey_del_other this, updC_other _ _ e]
    exact h2 q m hq hm
end Go.Proofs.Ytdggnmlhgglccaa
