/-
  The document's leaves: a list of places and hashes; two rows in memory.
-/
import Derived.Test.YtgagcblddcibkaaDoorS11
namespace Go.Proofs.YtgagcblddcibkaaDoor
open Go.RowKit
open Go.Maps
/-! ### without Go -/
def zip8 (L : List (Int × List Int)) : List Int := L.flatMap (·.2)
/-- what stands at a place -/
def lk : List (Int × List Int) → Int → List Int
  | [], _ => zeros 8
  | p :: r, k => if p.1 = k then p.2 else lk r k
def delL (i : Int) (L : List (Int × List Int)) : List (Int × List Int) := L.filter fun p => decide (p.1 ≠ i)
def insL (i : Int) (h : List Int) : List (Int × List Int) → List (Int × List Int)
  | [] => [(i, h)]
  | p :: r => if i ≤ p.1 then (i, h) :: delL i (p :: r) else p :: insL i h r
def putL (L : List (Int × List Int)) (i : Int) (h : List Int) : List (Int × List Int) := if h = zeros 8 then delL i L else insL i h L
theorem delL_hit {i : Int} {p : Int × List Int} (r : List (Int × List Int)) (h : p.1 = i) : delL i (p :: r) = delL i r := by unfold delL; rw [List.filter_cons_of_neg (by simp [h])]
theorem delL_miss {i : Int} {p : Int × List Int} (r : List (Int × List Int)) (h : ¬ p.1 = i) : delL i (p :: r) = p :: delL i r := by unfold delL; rw [List.filter_cons_of_pos (by simp [h])]
theorem insL_ge {i : Int} {h : List Int} {p : Int × List Int} (r : List (Int × List Int)) (hp : i ≤ p.1) : insL i h (p :: r) = (i, h) :: delL i (p :: r) := by rw [insL, if_pos hp]
theorem insL_lt {i : Int} {h : List Int} {p : Int × List Int} (r : List (Int × List Int)) (hp : ¬ i ≤ p.1) : insL i h (p :: r) = p :: insL i h r := by rw [insL, if_neg hp]
theorem lk_del (i : Int) : ∀ (L : List (Int × List Int)) (k : Int), lk (delL i L) k = if k = i then zeros 8 else lk L k
  | [], k => by
    show lk [] k = _
    split <;> rfl
  | p :: r, k => by
    by_cases h : p.1 = i
    · rw [delL_hit r h, lk_del i r k]
      by_cases e : k = i
      · rw [if_pos e, if_pos e]
      · rw [if_neg e, if_neg e, lk, if_neg (fun e2 => e (by rw [← e2, h]))]
    · rw [delL_miss r h, lk, lk, lk_del i r k]
      by_cases e : p.1 = k
      · rw [if_pos e, if_pos e, if_neg (fun e2 => h (by rw [e, e2]))]
      · rw [if_neg e, if_neg e]
theorem lk_ins (i : Int) (h : List Int) : ∀ (L : List (Int × List Int)) (k : Int), lk (insL i h L) k = if k = i then h else lk L k
  | [], k => by
    show (if i = k then h else lk [] k) = (if k = i then h else lk [] k)
    by_cases e : k = i
    · rw [if_pos e.symm, if_pos e]
    · rw [if_neg (fun e2 => e e2.symm), if_neg e]
  | p :: r, k => by
    by_cases hp : i ≤ p.1
    · rw [insL_ge r hp, lk, lk_del]
      by_cases e : k = i
      · rw [if_pos e.symm, if_pos e]
      · rw [if_neg (fun e2 => e e2.symm), if_neg e, if_neg e]
    · rw [insL_lt r hp, lk, lk, lk_ins i h r k]
      by_cases e : p.1 = k
      · rw [if_pos e, if_pos e, if_neg (by omega)]
      · rw [if_neg e, if_neg e]
theorem lk_put (L : List (Int × List Int)) (i : Int) (h : List Int) : lk (putL L i h) = upd (lk L) i h := by
  funext k
  unfold putL upd
  split
  · rename_i e
    rw [lk_del, e]
  · rw [lk_ins]
/-- what a list of leaves is like -/
structure Good (L : List (Int × List Int)) : Prop where
  nodup : (L.map Prod.fst).Nodup
  all : ∀ p ∈ L, p.2.length = 8 ∧ p.2 ≠ zeros 8 ∧ 0 ≤ p.1 ∧ p.1 < 65536
theorem Good.nil : Good [] := ⟨List.nodup_nil, fun p hp => by cases hp⟩
theorem delL_mem {i : Int} {L : List (Int × List Int)} {p : Int × List Int} (h : p ∈ delL i L) : p ∈ L ∧ p.1 ≠ i := by
  unfold delL at h
  rw [List.mem_filter] at h
  exact ⟨h.1, by simpa using h.2⟩
theorem insL_mem {i : Int} {h : List Int} : ∀ {L : List (Int × List Int)} {p : Int × List Int}, p ∈ insL i h L → p = (i, h) ∨ p ∈ L
  | [], p, hp => by
    rw [insL, List.mem_singleton] at hp
    exact .inl hp
  | q :: r, p, hp => by
    by_cases hq : i ≤ q.1
    · rw [insL_ge r hq] at hp
      rcases List.mem_cons.1 hp with e | e
      · exact .inl e
      · exact .inr (delL_mem e).1
    · rw [insL_lt r hq] at hp
      rcases List.mem_cons.1 hp with e | e
      · exact .inr (by rw [e]; exact List.mem_cons_self)
      · rcases insL_mem e with e | e
        · exact .inl e
        · exact .inr (List.mem_cons_of_mem _ e)
theorem delL_nodup (i : Int) {L : List (Int × List Int)} (h : (L.map Prod.fst).Nodup) : ((delL i L).map Prod.fst).Nodup := (List.Sublist.map _ List.filter_sublist).nodup h
theorem insL_nodup (i : Int) (h : List Int) : ∀ {L : List (Int × List Int)}, (L.map Prod.fst).Nodup → ((insL i h L).map Prod.fst).Nodup
  | [], _ => by simp [insL]
  | q :: r, hn => by
    by_cases hq : i ≤ q.1
    · rw [insL_ge r hq, List.map_cons, List.nodup_cons]
      refine ⟨fun hm => ?_, delL_nodup i hn⟩
      obtain ⟨p, hp, e⟩ := List.mem_map.1 hm
      exact (delL_mem hp).2 e
    · rw [insL_lt r hq, List.map_cons, List.nodup_cons]
      rw [List.map_cons, List.nodup_cons] at hn
      refine ⟨fun hm => ?_, insL_nodup i h hn.2⟩
      obtain ⟨p, hp, e⟩ := List.mem_map.1 hm
      rcases insL_mem hp with e2 | e2
      · rw [e2] at e
        have e : i = q.1 := e
        omega
      · exact hn.1 (List.mem_map.2 ⟨p, e2, e⟩)
theorem Good.put {L : List (Int × List Int)} (g : Good L) {i : Int} {h : List Int} (hi : 0 ≤ i ∧ i < 65536) (hh : h.length = 8) : Good (putL L i h) := by
  unfold putL
  split
  · exact ⟨delL_nodup i g.nodup, fun p hp => g.all p (delL_mem hp).1⟩
  · rename_i hz
    refine ⟨insL_nodup i h g.nodup, fun p hp => ?_⟩
    rcases insL_mem hp with e | e
    · rw [e]; exact ⟨hh, hz, hi.1, hi.2⟩
    · exact g.all p e
theorem delL_length (i : Int) (L : List (Int × List Int)) : (delL i L).length ≤ L.length := List.length_filter_le _ _
theorem insL_length (i : Int) (h : List Int) : ∀ (L : List (Int × List Int)), (insL i h L).length ≤ L.length + 1
  | [] => Nat.le_refl _
  | q :: r => by
    by_cases hq : i ≤ q.1
    · rw [insL_ge r hq, List.length_cons]
      have := delL_length i (q :: r)
      omega
    · rw [insL_lt r hq, List.length_cons, List.length_cons]
      have := insL_length i h r
      omega
theorem putL_length (L : List (Int × List Int)) (i : Int) (h : List Int) : (putL L i h).length ≤ L.length + 1 := by
  unfold putL
  split
  · have := delL_length i L; omega
  · exact insL_length i h L
theorem lk_none : ∀ {L : List (Int × List Int)} {k : Int}, ¬ k ∈ L.map Prod.fst → lk L k = zeros 8
  | [], _, _ => rfl
  | p :: r, k, h => by
    rw [lk, if_neg (fun e => h (by rw [List.map_cons, e]; exact List.mem_cons_self)), lk_none (fun e => h (by rw [List.map_cons]; exact List.mem_cons_of_mem _ e))]
theorem lk_some : ∀ {L : List (Int × List Int)}, (L.map Prod.fst).Nodup → ∀ {p : Int × List Int}, p ∈ L → lk L p.1 = p.2
  | [], _, p, hp => by cases hp
  | q :: r, hn, p, hp => by
    rw [List.map_cons, List.nodup_cons] at hn
    rcases List.mem_cons.1 hp with e | e
    · rw [lk, e, if_pos rfl]
    · rw [lk, if_neg (fun e2 => hn.1 (List.mem_map.2 ⟨p, e, e2.symm⟩)), lk_some hn.2 e]
theorem Good.ks {L : List (Int × List Int)} (g : Good L) (k : Int) : lk L k ≠ zeros 8 ↔ k ∈ L.map Prod.fst := by
  constructor
  · intro h
    exact Classical.byContradiction fun e => h (lk_none e)
  · intro h
    obtain ⟨p, hp, rfl⟩ := List.mem_map.1 h
    rw [lk_some g.nodup hp]
    exact (g.all p hp).2.1
theorem zip8_len {L : List (Int × List Int)} (h : ∀ p ∈ L, p.2.length = 8) : (zip8 L).length = 8 * L.length := by
  induction L with
  | nil => rfl
  | cons p r ih =>
    show (p.2 ++ zip8 r).length = _
    rw [List.length_append, h p List.mem_cons_self, ih fun q hq => h q (List.mem_cons_of_mem _ hq), List.length_cons]
    omega
theorem zip8_snoc (L : List (Int × List Int)) (p : Int × List Int) : zip8 (L ++ [p]) = zip8 L ++ p.2 := by unfold zip8; simp
theorem zip8_at {L : List (Int × List Int)} (h : ∀ p ∈ L, p.2.length = 8) : ∀ {k : Nat} {p : Int × List Int}, L[k]? = some p → at8 (zip8 L) k = p.2 := by
  induction L with
  | nil => intro k p hk; cases hk
  | cons q r ih =>
    intro k p hk
    have e : zip8 (q :: r) = q.2 ++ zip8 r := rfl
    have hq := h q List.mem_cons_self
    cases k with
    | zero =>
      simp only [List.getElem?_cons_zero, Option.some.injEq] at hk
      subst hk
      unfold at8
      rw [e, Nat.mul_zero, List.drop_zero, List.take_append_of_le_length (by omega), List.take_of_length_le (by omega)]
    | succ k =>
      rw [List.getElem?_cons_succ] at hk
      have := ih (fun p hp => h p (List.mem_cons_of_mem _ hp)) hk
      unfold at8 at this ⊢
      rw [e, List.drop_append, List.drop_eq_nil_of_le (by omega), List.nil_append, hq, show 8 * (k + 1) - 8 = 8 * k by omega]
      exact this
/-! ### rows in memory -/
theorem ownG_base {w : World} {base n e k : Nat} {v : Value} {xs : List Value} (h : w.ownsRow base e k v n xs) : ∀ q, v.ownBlock = some q → base ≤ q := by
  intro q hq
  rcases h.2 with ⟨rfl, _⟩ | ⟨g, cap, cur, rfl, hb, _⟩
  · cases hq
  · simp [Value.ownBlock] at hq; omega
theorem ownG_lt {w : World} {base n e k : Nat} {v : Value} {xs : List Value} (h : w.ownsRow base e k v n xs) : ∀ q, v.ownBlock = some q → q < w.heap.size := by
  intro q hq
  rcases h.2 with ⟨rfl, _⟩ | ⟨g, cap, cur, rfl, hb, hg, _⟩
  · cases hq
  · simp [Value.ownBlock] at hq
    subst hq
    exact lt_of_block hg
theorem ownG_keep {w W : World} {base n e k : Nat} {v : Value} {xs : List Value} (h : w.ownsRow base e k v n xs) (hb : ∀ q, v.ownBlock = some q → W.heap[q]? = w.heap[q]?) : W.ownsRow base e k v n xs := by
  refine ⟨h.1, ?_⟩
  rcases h.2 with h2 | ⟨g, cap, cur, e, hbg, hg, rest⟩
  · exact .inl h2
  · exact .inr ⟨g, cap, cur, e, hbg, (hb g (by rw [e]; rfl)).trans hg, rest⟩
theorem ownG_type {w : World} {base n e k : Nat} {v : Value} {xs : List Value} (h : w.ownsRow base e k v n xs) : ∀ q, v.ownBlock = some q → ∃ cs, w.heap[q]? = some (.cells cs e (0, 0)) := by
  intro q hq
  rcases h.2 with ⟨rfl, _⟩ | ⟨g, cap, cur, rfl, hb, hg, _⟩
  · cases hq
  · simp [Value.ownBlock] at hq
    subst hq
    exact ⟨cur, hg⟩
theorem ownG_slice {w : World} {base n e k : Nat} {v : Value} {xs : List Value} (h : w.ownsRow base e k v n xs) : ∃ A c, v = .slice A n c := by
  rcases h.2 with ⟨rfl, rfl⟩ | ⟨g, cap, cur, rfl, _⟩
  · exact ⟨none, 0, rfl⟩
  · exact ⟨_, _, rfl⟩
end Go.Proofs.YtgagcblddcibkaaDoor
