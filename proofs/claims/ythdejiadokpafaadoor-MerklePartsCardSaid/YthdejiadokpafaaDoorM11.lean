/-
  A proof in words; one hash more at a row's end.
-/
import Derived.Test.YthdejiadokpafaaDoorM8
import Derived.Test.YthdejiadokpafaaDoorM10
namespace Go.Proofs.YthdejiadokpafaaDoor
open Go.RowKit
/-- the parts of a proof, the lowest first -/
def provL : Nat → List Int → Nat → Nat → List (List Int)
  | 0, _, _, _ => []
  | f + 1, l, i, n => if n ≤ 1 then [] else if i < cutN n then provL f (l.take (8 * cutN n)) i (cutN n) ++ [rootF (n - cutN n) (l.drop (8 * cutN n))] else provL f (l.drop (8 * cutN n)) (i - cutN n) (n - cutN n) ++ [rootF (cutN n) (l.take (8 * cutN n))]
theorem provL_one (f i : Nat) (l : List Int) : provL f l i 1 = [] := by
  cases f with
  | zero => rfl
  | succ f => rw [provL, if_pos (by omega)]
theorem provL_l (f i n : Nat) (l : List Int) (hn : 2 ≤ n) (h : i < cutN n) : provL (f + 1) l i n = provL f (l.take (8 * cutN n)) i (cutN n) ++ [rootF (n - cutN n) (l.drop (8 * cutN n))] := by rw [provL, if_neg (by omega), if_pos h]
theorem provL_r (f i n : Nat) (l : List Int) (hn : 2 ≤ n) (h : ¬ i < cutN n) : provL (f + 1) l i n = provL f (l.drop (8 * cutN n)) (i - cutN n) (n - cutN n) ++ [rootF (cutN n) (l.take (8 * cutN n))] := by rw [provL, if_neg (by omega), if_neg h]
theorem provL_fuel : ∀ (f g i n : Nat) (l : List Int), n ≤ f → n ≤ g → n ≤ 65536 → provL f l i n = provL g l i n
  | 0, 0, _, _, _, _, _, _ => rfl
  | 0, g + 1, i, n, l, h1, _, _ => by rw [provL, provL, if_pos (by omega)]
  | f + 1, 0, i, n, l, _, h2, _ => by rw [provL, provL, if_pos (by omega)]
  | f + 1, g + 1, i, n, l, h1, h2, h3 => by
    by_cases hn : n ≤ 1
    · rw [provL, provL, if_pos hn, if_pos hn]
    · obtain ⟨c1, c2, _⟩ := cutN_lo n (by omega) h3
      by_cases h : i < cutN n
      · rw [provL_l f i n l (by omega) h, provL_l g i n l (by omega) h, provL_fuel f g i (cutN n) _ (by omega) (by omega) (by omega)]
      · rw [provL_r f i n l (by omega) h, provL_r g i n l (by omega) h, provL_fuel f g _ (n - cutN n) _ (by omega) (by omega) (by omega)]
theorem provL_8 : ∀ (f : Nat) (l : List Int) (i n : Nat), ∀ x ∈ provL f l i n, x.length = 8
  | 0, _, _, _, x, hx => by rw [provL] at hx; cases hx
  | f + 1, l, i, n, x, hx => by
    rw [provL] at hx
    split at hx
    · cases hx
    · split at hx
      · rcases List.mem_append.1 hx with hx | hx
        · exact provL_8 f _ _ _ x hx
        · rw [List.mem_singleton.1 hx]; exact rootF_len _ _
      · rcases List.mem_append.1 hx with hx | hx
        · exact provL_8 f _ _ _ x hx
        · rw [List.mem_singleton.1 hx]; exact rootF_len _ _
theorem provL_len : ∀ (f : Nat) (l : List Int) (i n : Nat), (provL f l i n).length = stepsF f i n
  | 0, _, _, _ => by rw [provL, stepsF]; rfl
  | f + 1, l, i, n => by
    rw [provL, stepsF]
    split
    · rfl
    · split
      · rw [List.length_append, provL_len f]; rfl
      · rw [List.length_append, provL_len f]; rfl
theorem info27 : (Tryd.prog.info? 27).map (fun i => (i.zero, i.size, i.bytes)) = some (some (.agg #[.int .u8 0, .int .u8 0, .int .u8 0, .int .u8 0, .int .u8 0, .int .u8 0, .int .u8 0, .int .u8 0]), 8, 8) := by kernel_rfl
theorem own8_nil (w : World) (base : Nat) : w.ownsRow base 27 8 (.slice none 0 0) 0 (bvals []) := ⟨rfl, .inl ⟨rfl, rfl⟩⟩
theorem own8_base {w : World} {base n : Nat} {v : Value} {xs : List Value} (h : w.ownsRow base 27 8 v n xs) : ∀ q, v.ownBlock = some q → base ≤ q := by
  intro q hq
  rcases h.2 with ⟨rfl, _⟩ | ⟨g, cap, cur, rfl, hb, _⟩
  · cases hq
  · simp [Value.ownBlock] at hq; omega
theorem own8_lt {w : World} {base n : Nat} {v : Value} {xs : List Value} (h : w.ownsRow base 27 8 v n xs) : ∀ q, v.ownBlock = some q → q < w.heap.size := by
  intro q hq
  rcases h.2 with ⟨rfl, _⟩ | ⟨g, cap, cur, rfl, hb, hg, _⟩
  · cases hq
  · simp [Value.ownBlock] at hq
    subst hq
    exact lt_of_block hg
theorem own8_keepB {w W : World} {base n : Nat} {v : Value} {xs : List Value} (h : w.ownsRow base 27 8 v n xs) (hb : Below w.heap.size w W) : W.ownsRow base 27 8 v n xs := by
  refine ⟨h.1, ?_⟩
  rcases h.2 with h2 | ⟨g, cap, cur, e, hbg, hg, rest⟩
  · exact .inl h2
  · exact .inr ⟨g, cap, cur, e, hbg, (hb.block g (lt_of_block hg)).trans hg, rest⟩
theorem own8_slice {w : World} {base n : Nat} {v : Value} {xs : List Value} (h : w.ownsRow base 27 8 v n xs) : ∃ A c, v = .slice A n c := by
  rcases h.2 with ⟨rfl, rfl⟩ | ⟨g, cap, cur, rfl, _⟩
  · exact ⟨none, 0, rfl⟩
  · exact ⟨_, _, rfl⟩
/-- 'append(row, hash)' onto a row of the call's own -/
theorem wpList_app8 {w : World} {ops : Array Oper} {rest : List Oper} {o : Oper} {a : Act} {Q : Exit → Act → World → Prop} (hgd : o.guard = none) (s x : Operand)
    (ho : o.op = .call { callee := .builtin .append, args := #[s, x], argTypes := #[22, 22] })
    (base n : Nat) (v : Value) (l : List Int) (hv : a.eval s = v) (hown : w.ownsRow base 27 8 v n (bvals l)) (g c : Nat) (h : List Int) (hx : a.eval x = .slice (some ⟨g, 0, none⟩) 1 c) (hb : BA w g 27 h) (hl : h.length = 8)
    (hn : n ≤ 65536) (hbase : base ≤ w.heap.size)
    (hK : ∀ A' c' w', w'.ownsRow base 27 8 (.slice A' (n + 1) c') (n + 1) (bvals (l ++ h)) → w.grownBy w' v.ownBlock → wpList Tryd.prog ops Q rest (a.put o.dst (.slice A' (n + 1) c')) w') : wpList Tryd.prog ops Q (o :: rest) a w := by
  obtain ⟨i, hi, hz, h1, h2⟩ := info_parts info27
  refine wpList_append_own_at w hgd s x 22 ho base 27 i _ 8 8 Tryd.underlying22 hi hz h1 h2 rfl (by decide) v n (bvals l) hv hown ⟨g, 0, none⟩ 1 c (bvals h) hx (by simp [bvals, hl]) ?_ (bvals_one h) (by unfold maxLen; omega) (by omega) hbase ?_
  · intro j u hj
    rw [Addr.add_mid]
    exact ba_range hb j u hj
  · intro v' w' hown' hg _ _
    obtain ⟨A', c', rfl⟩ := own8_slice hown'
    have e : bvals l ++ bvals h = bvals (l ++ h) := by simp [bvals]
    rw [e] at hown'
    exact hK A' c' w' hown' hg
end Go.Proofs.YthdejiadokpafaaDoor
