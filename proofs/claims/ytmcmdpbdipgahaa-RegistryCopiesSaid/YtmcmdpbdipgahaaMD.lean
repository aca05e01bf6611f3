/-
  A row of hashes turned round.
-/
import Derived.Test.YtmcmdpbdipgahaaHC
import Derived.Shelf.SlicesQ.Reverse
import Derived.Test.YtmcmdpbdipgahaaMC
namespace Go.Proofs.Ytmcmdpbdipgahaa
open Go.RowKit Go.Shelf Go.Sort
/-- a hash as cells -/
def en (x : List Int) : List Value := (List.range 8).map fun j => .int .u8 (x.getD j 0)
theorem en_len (x : List Int) : (en x).length = 8 := by simp [en]
theorem en_one (x : List Int) : ∀ v ∈ en x, v.oneCell' = true := fun v hv => by
  simp only [en, List.mem_map] at hv
  obtain ⟨j, _, rfl⟩ := hv
  rfl
theorem en_get (x : List Int) (j : Nat) (h : j < 8) : (en x)[j]! = .int .u8 (x.getD j 0) := by
  rw [getElem!_pos _ _ (by rw [en_len]; exact h)]
  simp [en]
theorem flat_len : ∀ (L : List (List Int)), (∀ x ∈ L, x.length = 8) → L.flatten.length = 8 * L.length
  | [], _ => rfl
  | x :: L, h => by
    rw [List.flatten_cons, List.length_append, flat_len L fun y hy => h y (List.mem_cons_of_mem _ hy), h x (List.mem_cons_self ..), List.length_cons]
    omega
theorem flat_getD : ∀ (L : List (List Int)), (∀ x ∈ L, x.length = 8) → ∀ j, L.flatten.getD j 0 = (L.getD (j / 8) []).getD (j % 8) 0
  | [], _, j => by simp
  | x :: L, h, j => by
    have hx := h x (List.mem_cons_self ..)
    by_cases hj : j < 8
    · rw [Nat.div_eq_of_lt hj, Nat.mod_eq_of_lt hj, List.flatten_cons]
      simp only [List.getD_eq_getElem?_getD, List.getElem?_cons_zero, Option.getD_some]
      rw [List.getElem?_append_left (by omega)]
    · have := flat_getD L (fun y hy => h y (List.mem_cons_of_mem _ hy)) (j - 8)
      have e1 : j / 8 = (j - 8) / 8 + 1 := by omega
      have e2 : j % 8 = (j - 8) % 8 := by omega
      rw [e1, e2, List.flatten_cons]
      simp only [List.getD_eq_getElem?_getD, List.getElem?_cons_succ] at this ⊢
      rw [List.getElem?_append_right (by omega), hx, this]
theorem toArr_get (L : List (List Int)) (i : Nat) (h : i < L.length) : L.toArray[i]! = L.getD i [] := by
  rw [getElem!_pos _ _ (by simpa using h)]
  simp [List.getD_eq_getElem?_getD, h]
/-- the cells of a row of hashes -/
theorem flatK_get (L : List (List Int)) (h8 : ∀ x ∈ L, x.length = 8) (j : Nat) (h : j < 8 * L.length) : (flatK en 8 L.toArray)[j]! = .int .u8 (L.flatten.getD j 0) := by
  rw [get_flatK en 8 L.toArray j (by simp; omega), toArr_get L _ (by omega), en_get _ _ (by omega), flat_getD L h8]
theorem own8_src {w : World} {base n cap : Nat} {A : Option Addr} {l : List Int} (h : w.ownsRow base 31 8 (.slice A n cap) n (bvals l)) : Src w A (8 * n) l ∧ n ≤ cap ∧ cap ≤ maxLen := by
  obtain ⟨h1, h2⟩ := h
  have hl : l.length = 8 * n := by simpa [bvals, Nat.mul_comm] using h1
  rcases h2 with ⟨e, hn⟩ | ⟨g, c, cur, e, _, hg, hc1, hc2, hs, ht⟩
  · cases e
    exact ⟨⟨hl, .inl (by omega)⟩, by omega, by unfold maxLen; omega⟩
  · cases e
    refine ⟨⟨hl, .inr ⟨g, 0, rfl, fun i hi => ?_⟩⟩, hc1, hc2⟩
    rw [cell_of_row w g (0 + i) _ 31 (0, 0) hg, Nat.zero_add, ← Array.getElem?_toList]
    have e2 : (cur.toList.take (n * 8))[i]? = (bvals l)[i]? := by rw [ht]
    rw [List.getElem?_take, if_pos (by omega)] at e2
    rw [e2]
    simp [bvals, List.getD_eq_getElem?_getD, show i < l.length by omega]
theorem own8_holds {w : World} {base g cap : Nat} {L : List (List Int)} (h8 : ∀ x ∈ L, x.length = 8) (h : w.ownsRow base 31 8 (.slice (some ⟨g, 0, none⟩) L.length cap) L.length (bvals L.flatten)) : HoldsK en 8 w g 0 L.toArray := by
  have hs := (own8_src h).1
  intro j hj
  have hj' : j < 8 * L.length := by simp at hj; omega
  refine ⟨?_, ?_⟩
  · rcases hs.2 with h0 | ⟨g', o', e, hc⟩
    · omega
    · cases e
      rw [hc j hj', flatK_get L h8 j hj']
      rfl
  · rcases h.2 with ⟨e, hn⟩ | ⟨g', c, cur, e, _, hg, hc1, hc2, hs, ht⟩
    · cases e
    · cases e
      simp [World.frozen?, hg]
theorem holds_src {w : World} {g : Nat} {L : List (List Int)} (h8 : ∀ x ∈ L, x.length = 8) (h : HoldsK en 8 w g 0 L.toArray) : Src w (some ⟨g, 0, none⟩) (8 * L.length) L.flatten := by
  refine ⟨flat_len L h8, .inr ⟨g, 0, rfl, fun i hi => ?_⟩⟩
  have := (h i (by simp; omega)).1
  rw [this, flatK_get L h8 i hi]
  rfl
end Go.Proofs.Ytmcmdpbdipgahaa

/-
  A proof in words; one hash more at a row's end.
-/
namespace Go.Proofs.Ytmcmdpbdipgahaa
open Go.RowKit
/-- the parts of a proof, the lowest first -/
def provL : Nat → List Int → Nat → Nat → List (List Int)
  | 0, _, _, _ => []
  | f + 1, l, i, n => if n ≤ 1 then [] else if i < cutN n then provL f (l.take (8 * cutN n)) i (cutN n) ++ [rootF (n - cutN n) (l.drop (8 * cutN n))] else provL f (l.drop (8 * cutN n)) (i - cutN n) (n - cutN n) ++ [rootF (cutN n) (l.take (8 * cutN n))]
theorem provL_one (f i : Nat) (l : List Int) : provL f l i 1 = [] := by
  cases f with
  | zero => rfl
  | succ f => rw [provL, if_pos (by omega)]
theorem provL_l (f i n : Nat) (l : List Int) (hn : 2 ≤ n) (h : i < cutN n) : provL (f + 1) l i n = provL f (l.take (8 * cutN n)) i (cutN n) ++ [rootF (n - cutN n) (l.drop (8 * cutN n))] := by rw [provL, if_neg (by omega), if_pos h]
theorem provL_r (f i n : Nat) (l : List Int) (hn : 2 ≤ n) (h : ¬ i < cutN n) : provL (f + 1) l i n = provL f (l.drop (8 * cutN n)) (i - cutN n) (n - cutN n) ++ [rootF (cutN n) (l.take (8 * cutN n))] := by rw [provL, if_neg (by omega), if_neg h]
theorem provL_fuel : ∀ (f g i n : Nat) (l : List Int), n ≤ f → n ≤ g → n ≤ 65536 → provL f l i n = provL g l i n
  | 0, 0, _, _, _, _, _, _ => rfl
  | 0, g + 1, i, n, l, h1, _, _ => by rw [provL, provL, if_pos (by omega)]
  | f + 1, 0, i, n, l, _, h2, _ => by rw [provL, provL, if_pos (by omega)]
  | f + 1, g + 1, i, n, l, h1, h2, h3 => by
    by_cases hn : n ≤ 1
    · rw [provL, provL, if_pos hn, if_pos hn]
    · obtain ⟨c1, c2, _⟩ := cutN_lo n (by omega) h3
      by_cases h : i < cutN n
      · rw [provL_l f i n l (by omega) h, provL_l g i n l (by omega) h, provL_fuel f g i (cutN n) _ (by omega) (by omega) (by omega)]
      · rw [provL_r f i n l (by omega) h, provL_r g i n l (by omega) h, provL_fuel f g _ (n - cutN n) _ (by omega) (by omega) (by omega)]
theorem provL_8 : ∀ (f : Nat) (l : List Int) (i n : Nat), ∀ x ∈ provL f l i n, x.length = 8
  | 0, _, _, _, x, hx => by rw [provL] at hx; cases hx
  | f + 1, l, i, n, x, hx => by
    rw [provL] at hx
    split at hx
    · cases hx
    · split at hx
      · rcases List.mem_append.1 hx with hx | hx
        · exact provL_8 f _ _ _ x hx
        · rw [List.mem_singleton.1 hx]; exact rootF_len _ _
      · rcases List.mem_append.1 hx with hx | hx
        · exact provL_8 f _ _ _ x hx
        · rw [List.mem_singleton.1 hx]; exact rootF_len _ _
theorem provL_len : ∀ (f : Nat) (l : List Int) (i n : Nat), (provL f l i n).length = stepsF f i n
  | 0, _, _, _ => by rw [provL, stepsF]; rfl
  | f + 1, l, i, n => by
    rw [provL, stepsF]
    split
    · rfl
    · split
      · rw [List.length_append, provL_len f]; rfl
      · rw [List.length_append, provL_len f]; rfl
theorem info27 : (Try.prog.info? 31).map (fun i => (i.zero, i.size, i.bytes)) = some (some (.agg #[.int .u8 0, .int .u8 0, .int .u8 0, .int .u8 0, .int .u8 0, .int .u8 0, .int .u8 0, .int .u8 0]), 8, 8) := by kernel_rfl
theorem own8_nil (w : World) (base : Nat) : w.ownsRow base 31 8 (.slice none 0 0) 0 (bvals []) := ⟨rfl, .inl ⟨rfl, rfl⟩⟩
theorem own8_base {w : World} {base n : Nat} {v : Value} {xs : List Value} (h : w.ownsRow base 31 8 v n xs) : ∀ q, v.ownBlock = some q → base ≤ q := by
  intro q hq
  rcases h.2 with ⟨rfl, _⟩ | ⟨g, cap, cur, rfl, hb, _⟩
  · cases hq
  · simp [Value.ownBlock] at hq; omega
theorem own8_lt {w : World} {base n : Nat} {v : Value} {xs : List Value} (h : w.ownsRow base 31 8 v n xs) : ∀ q, v.ownBlock = some q → q < w.heap.size := by
  intro q hq
  rcases h.2 with ⟨rfl, _⟩ | ⟨g, cap, cur, rfl, hb, hg, _⟩
  · cases hq
  · simp [Value.ownBlock] at hq
    subst hq
    exact lt_of_block hg
theorem own8_keepB {w W : World} {base n : Nat} {v : Value} {xs : List Value} (h : w.ownsRow base 31 8 v n xs) (hb : Below w.heap.size w W) : W.ownsRow base 31 8 v n xs := by
  refine ⟨h.1, ?_⟩
  rcases h.2 with h2 | ⟨g, cap, cur, e, hbg, hg, rest⟩
  · exact .inl h2
  · exact .inr ⟨g, cap, cur, e, hbg, (hb.block g (lt_of_block hg)).trans hg, rest⟩
theorem own8_slice {w : World} {base n : Nat} {v : Value} {xs : List Value} (h : w.ownsRow base 31 8 v n xs) : ∃ A c, v = .slice A n c := by
  rcases h.2 with ⟨rfl, rfl⟩ | ⟨g, cap, cur, rfl, _⟩
  · exact ⟨none, 0, rfl⟩
  · exact ⟨_, _, rfl⟩
/-- 'append(row, hash)' onto a row of the call's own -/
theorem wpList_app8 {w : World} {ops : Array Oper} {rest : List Oper} {o : Oper} {a : Act} {Q : Exit → Act → World → Prop} (hgd : o.guard = none) (s x : Operand)
    (ho : o.op = .call { callee := .builtin .append, args := #[s, x], argTypes := #[36, 36] })
    (base n : Nat) (v : Value) (l : List Int) (hv : a.eval s = v) (hown : w.ownsRow base 31 8 v n (bvals l)) (g c : Nat) (h : List Int) (hx : a.eval x = .slice (some ⟨g, 0, none⟩) 1 c) (hb : BA w g 31 h) (hl : h.length = 8)
    (hn : n ≤ 65536) (hbase : base ≤ w.heap.size)
    (hK : ∀ A' c' w', w'.ownsRow base 31 8 (.slice A' (n + 1) c') (n + 1) (bvals (l ++ h)) → w.grownBy w' v.ownBlock → wpList Try.prog ops Q rest (a.put o.dst (.slice A' (n + 1) c')) w') : wpList Try.prog ops Q (o :: rest) a w := by
  obtain ⟨i, hi, hz, h1, h2⟩ := info_parts info27
  refine wpList_append_own_at w hgd s x 36 ho base 31 i _ 8 8 Try.underlying36 hi hz h1 h2 rfl (by decide) v n (bvals l) hv hown ⟨g, 0, none⟩ 1 c (bvals h) hx (by simp [bvals, hl]) ?_ (bvals_one h) (by unfold maxLen; omega) (by omega) hbase ?_
  · intro j u hj
    rw [Addr.add_mid]
    exact ba_range hb j u hj
  · intro v' w' hown' hg _ _
    obtain ⟨A', c', rfl⟩ := own8_slice hown'
    have e : bvals l ++ bvals h = bvals (l ++ h) := by simp [bvals]
    rw [e] at hown'
    exact hK A' c' w' hown' hg
end Go.Proofs.Ytmcmdpbdipgahaa
