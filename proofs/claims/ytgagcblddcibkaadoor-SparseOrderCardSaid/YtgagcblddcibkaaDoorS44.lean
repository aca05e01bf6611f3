/-
  Deeds as cells; a row of deeds that the law makes.
-/
import Derived.Test.YtgagcblddcibkaaDoorS42
import Derived.Maps.AppendAt
namespace Go.Proofs.YtgagcblddcibkaaDoor
open Go.RowKit
open Go.Maps
/-- the cells of deeds, one by one -/
def cvP (P : Nat → Int × List Int) (j : Nat) : Value := if j % 9 = 0 then .int .i64 (P (j / 9)).1 else .int .u8 ((P (j / 9)).2.getD (j % 9 - 1) 0)
theorem cvP_head (P : Nat → Int × List Int) (i : Nat) : cvP P (i * 9) = .int .i64 (P i).1 := by
  unfold cvP
  rw [if_pos (by omega), show i * 9 / 9 = i by omega]
theorem cvP_tail (P : Nat → Int × List Int) (i c : Nat) (hc : c < 8) : cvP P (i * 9 + 1 + c) = .int .u8 ((P i).2.getD c 0) := by
  unfold cvP
  rw [if_neg (by omega), show (i * 9 + 1 + c) / 9 = i by omega, show (i * 9 + 1 + c) % 9 - 1 = c by omega]
theorem Dds.cv {w : World} {b off n : Nat} {P : Nat → Int × List Int} (h : Dds w (some ⟨b, off, none⟩) n P) (j : Nat) (hj : j < n * 9) : w.cell? ⟨b, off + j, none⟩ = some (cvP P j) := by
  rcases h.cell with h0 | ⟨b2, off2, e, hc⟩
  · omega
  · cases e
    have hi : j / 9 < n := by omega
    by_cases h0 : j % 9 = 0
    · have := (hc (j / 9) hi).1
      rw [show off + j / 9 * 9 = off + j by omega] at this
      rw [this]
      unfold cvP
      rw [if_pos h0]
    · have := (hc (j / 9) hi).2 (j % 9 - 1) (by omega)
      rw [show off + j / 9 * 9 + 1 + (j % 9 - 1) = off + j by omega] at this
      rw [this]
      unfold cvP
      rw [if_neg h0]
/-- the cells of m deeds from the a-th on -/
def dls (P : Nat → Int × List Int) (a m : Nat) : List Value := (List.range (m * 9)).map fun j => cvP P (a * 9 + j)
theorem dls_len (P : Nat → Int × List Int) (a m : Nat) : (dls P a m).length = m * 9 := by simp [dls]
theorem dls_get (P : Nat → Int × List Int) (a m j : Nat) (h : j < m * 9) : (dls P a m)[j]? = some (cvP P (a * 9 + j)) := by simp [dls, h]
theorem dls_one (P : Nat → Int × List Int) (a m : Nat) : ∀ u ∈ dls P a m, u.oneCell' = true := fun u hu => by
  obtain ⟨j, _, rfl⟩ := List.mem_map.1 hu
  unfold cvP
  split <;> rfl
theorem trn_cells {P : Nat → Int × List Int} {n k : Nat} (hk : k ≤ n) (j : Nat) (hj : j < n * 9) : (dls P k (n - k) ++ dls P 0 k)[j]? = some (cvP (trn P n k) j) := by
  have hd : (j / 9) * 9 + j % 9 = j := by omega
  have key : ∀ i : Nat, (j / 9 < n - k → (trn P n k (j / 9)) = P (k + j / 9)) ∧ (¬ j / 9 < n - k → (trn P n k (j / 9)) = P (j / 9 - (n - k))) := fun _ => ⟨fun h => by unfold trn; rw [if_pos h], fun h => by unfold trn; rw [if_neg h]⟩
  by_cases h : j < (n - k) * 9
  · rw [List.getElem?_append_left (by rw [dls_len]; exact h), dls_get P k (n - k) j h]
    unfold cvP
    rw [(key 0).1 (by omega), show (k * 9 + j) % 9 = j % 9 by omega, show (k * 9 + j) / 9 = k + j / 9 by omega]
  · rw [List.getElem?_append_right (by rw [dls_len]; omega), dls_len, dls_get P 0 k _ (by omega)]
    unfold cvP
    rw [(key 0).2 (by omega), show (0 * 9 + (j - (n - k) * 9)) % 9 = j % 9 by omega, show (0 * 9 + (j - (n - k) * 9)) / 9 = j / 9 - (n - k) by omega]
theorem trn_len {P : Nat → Int × List Int} {n k : Nat} (hk : k ≤ n) (h : ∀ i, i < n → (P i).2.length = 8) (i : Nat) (hi : i < n) : (trn P n k i).2.length = 8 := by
  unfold trn
  split
  · exact h _ (by omega)
  · exact h _ (by omega)
/-- a row that the law made, as deeds -/
theorem row_dds {w : World} {base n cap : Nat} {A : Option Addr} {xs : List Value} {Q : Nat → Int × List Int} (h : w.ownsRow base 45 9 (.slice A n cap) n xs) (hx : ∀ j, j < n * 9 → xs[j]? = some (cvP Q j)) (h8 : ∀ i, i < n → (Q i).2.length = 8) : Dds w A n Q ∧ n ≤ cap := by
  obtain ⟨hl, hc⟩ := h
  rcases hc with ⟨h1, h2⟩ | ⟨g, cap', cur, h1, _, hg, hn, _, _, ht⟩
  · cases h1
    exact ⟨⟨.inl rfl, h8⟩, Nat.le_refl _⟩
  · cases h1
    refine ⟨⟨.inr ⟨g, 0, rfl, fun i hi => ?_⟩, h8⟩, hn⟩
    have gg : ∀ j, j < n * 9 → w.cell? ⟨g, 0 + j, none⟩ = some (cvP Q j) := fun j hj => by
      rw [Nat.zero_add, cell_of_row w g j cur 45 (0, 0) hg]
      have h3 : (cur.toList.take (n * 9))[j]? = xs[j]? := by rw [ht]
      rw [List.getElem?_take, if_pos hj, Array.getElem?_toList] at h3
      rw [h3]
      exact hx j hj
    refine ⟨?_, fun c h8 => ?_⟩
    · rw [gg (i * 9) (by omega), cvP_head]
    · rw [Nat.add_assoc, Nat.add_assoc, gg (i * 9 + (1 + c)) (by omega), ← Nat.add_assoc, cvP_tail Q i c h8]
theorem info45 : (Tryd.prog.info? 45).map (fun i => (i.zero, i.size, i.bytes)) = some (some (.agg #[.int .i64 0, .int .u8 0, .int .u8 0, .int .u8 0, .int .u8 0, .int .u8 0, .int .u8 0, .int .u8 0, .int .u8 0]), 9, 16) := by kernel_rfl
theorem run_appD {W : World} {base n m c a : Nat} {v : Value} {xs : List Value} {b o : Nat} {P : Nat → Int × List Int} (h : W.ownsRow base 45 9 v n xs) (hc : ∀ j, j < m * 9 → W.cell? ⟨b, o + j, none⟩ = some (cvP P (a * 9 + j))) (hn : n ≤ 1000) (hm : m ≤ 1000) (hbase : base ≤ W.heap.size) (ty : TypeId) :
    ∃ v' w', (Builtin.append_ #[22, 22] ty #[v, .slice (some ⟨b, o, none⟩) m c]).run Tryd.prog W = .ok v' w' ∧ w'.ownsRow base 45 9 v' (n + m) (xs ++ dls P a m) ∧ W.grownBy w' v.ownBlock ∧ (v' = .slice none 0 0 ↔ v = .slice none 0 0 ∧ m = 0) ∧ (v'.ownBlock = v.ownBlock ∨ v'.ownBlock = some W.heap.size) := by
  obtain ⟨i, hi, hz, h1, h2⟩ := info_parts info45
  have ea : ∀ j, (⟨b, o, none⟩ : Addr).add j = ⟨b, o + j, none⟩ := fun j => by unfold Addr.add; split <;> simp_all
  refine run_append_own_at W base 22 ty 45 i _ 9 16 Tryd.underlying22 hi hz h1 h2 rfl (by decide) v n xs h ⟨b, o, none⟩ m c (dls P a m) (dls_len P a m) (fun j u hj => ?_) (dls_one P a m) (by unfold maxLen; omega) (by omega) hbase
  have hlt := (List.getElem?_eq_some_iff.1 hj).1
  rw [dls_len] at hlt
  rw [dls_get P a m j hlt] at hj
  rw [ea, hc j hlt, hj]
end Go.Proofs.YtgagcblddcibkaaDoor
