/-
  The leaves' rows read; what appends leave.
-/
import Derived.Test.YtgagcblddcibkaaDoorS21
namespace Go.Proofs.YtgagcblddcibkaaDoor
open Go.RowKit
open Go.Maps
theorem ownG_mono {w : World} {base base' n e k : Nat} {v : Value} {xs : List Value} (h : w.ownsRow base e k v n xs) (hb : base' ≤ base) : w.ownsRow base' e k v n xs := by
  refine ⟨h.1, ?_⟩
  rcases h.2 with h2 | ⟨g, cap, cur, e, hbg, rest⟩
  · exact .inl h2
  · exact .inr ⟨g, cap, cur, e, Nat.le_trans hb hbg, rest⟩
theorem Two.mono {w : World} {S B n m : Nat} {a b : Value} {xs ys : List Int} (h : Two w S n m a b xs ys) (hb : B ≤ S) : Two w B n m a b xs ys := ⟨ownG_mono h.oa hb, ownG_mono h.ob hb, h.apart⟩
/-- a row of numbers in memory -/
def SrcI (w : World) (A : Option Addr) (n : Nat) (xs : List Int) : Prop := xs.length = n ∧ (n = 0 ∨ ∃ g, A = some ⟨g, 0, none⟩ ∧ ∀ i, i < n → w.cell? ⟨g, i, none⟩ = some (.int .i64 (xs.getD i 0)))
theorem SrcI.keep {w W : World} {A : Option Addr} {n : Nat} {xs : List Int} (h : SrcI w A n xs) (hb : ∀ k, k < w.heap.size → W.heap[k]? = w.heap[k]?) : SrcI W A n xs := by
  refine ⟨h.1, ?_⟩
  rcases h.2 with h2 | ⟨g, h3, hc⟩
  · exact .inl h2
  · refine .inr ⟨g, h3, fun i hi => ?_⟩
    rw [World.cell?_of_block (w := w) (w' := W) (a := ⟨g, i, none⟩) (hb g (World.block_lt_of_cell? w ⟨g, i, none⟩ (hc i hi)))]
    exact hc i hi
theorem own_srcI {w : World} {base n cap : Nat} {A : Option Addr} {xs : List Int} (h : w.ownsRow base 3 1 (.slice A n cap) n (ivals xs)) : SrcI w A n xs ∧ n ≤ cap ∧ cap ≤ maxLen := by
  obtain ⟨hl, hc⟩ := h
  have hl : xs.length = n := by simpa [ivals] using hl
  rcases hc with ⟨h1, h2⟩ | ⟨g, cap', cur, h1, _, hg, hn, hmx, hs, ht⟩
  · cases h1
    exact ⟨⟨hl, .inl rfl⟩, Nat.le_refl _, Nat.zero_le _⟩
  · cases h1
    refine ⟨⟨hl, .inr ⟨g, rfl, fun i hi => ?_⟩⟩, hn, hmx⟩
    rw [cell_of_row w g i cur 3 (0, 0) hg]
    have h1 : (cur.toList.take (n * 1))[i]? = (ivals xs)[i]? := by rw [ht]
    rw [List.getElem?_take, if_pos (by omega)] at h1
    rw [Array.getElem?_toList] at h1
    rw [h1]
    simp [ivals, List.getD, show i < xs.length by omega]
theorem own8_src {w : World} {base n cap : Nat} {A : Option Addr} {l : List Int} (h : w.ownsRow base 29 8 (.slice A n cap) n (bvals l)) : (l.length = 8 * n ∧ (n = 0 ∨ ∃ g, A = some ⟨g, 0, none⟩ ∧ ∀ i, i < 8 * n → w.cell? ⟨g, i, none⟩ = some (.int .u8 (l.getD i 0)))) ∧ n ≤ cap ∧ cap ≤ maxLen := by
  obtain ⟨hl, hc⟩ := h
  have hl : l.length = 8 * n := by
    have : (bvals l).length = n * 8 := hl
    simp [bvals] at this
    omega
  rcases hc with ⟨h1, h2⟩ | ⟨g, cap', cur, h1, _, hg, hn, hmx, hs, ht⟩
  · cases h1
    exact ⟨⟨hl, .inl rfl⟩, Nat.le_refl _, Nat.zero_le _⟩
  · cases h1
    refine ⟨⟨hl, .inr ⟨g, rfl, fun i hi => ?_⟩⟩, hn, hmx⟩
    rw [cell_of_row w g i cur 29 (0, 0) hg]
    have h1 : (cur.toList.take (n * 8))[i]? = (bvals l)[i]? := by rw [ht]
    rw [List.getElem?_take, if_pos (by omega)] at h1
    rw [Array.getElem?_toList] at h1
    rw [h1]
    simp [bvals, List.getD, show i < l.length by omega]
/-- the leaves in memory, as one reads them -/
structure LR (w : World) (M : Nat) (A1 A2 : Option Addr) (n c1 c2 : Nat) (L : List (Int × List Int)) : Prop where
  row : w.heap[M]? = some (.cells #[.slice A1 n c1, .slice A2 n c2] 39 (0, 0))
  len : n = L.length
  at1 : SrcI w A1 n (L.map Prod.fst)
  at2 : n = 0 ∨ ∃ g, A2 = some ⟨g, 0, none⟩ ∧ ∀ i, i < 8 * n → w.cell? ⟨g, i, none⟩ = some (.int .u8 ((zip8 L).getD i 0))
  cap1 : n ≤ c1 ∧ c1 ≤ maxLen
  cap2 : n ≤ c2 ∧ c2 ≤ maxLen
theorem Lv.read {w : World} {B M : Nat} {a b : Value} {L : List (Int × List Int)} (h : Lv w B M a b L) : ∃ A1 A2 c1 c2, a = .slice A1 L.length c1 ∧ b = .slice A2 L.length c2 ∧ LR w M A1 A2 L.length c1 c2 L := by
  obtain ⟨A1, c1, rfl⟩ := ownG_slice h.two.oa
  obtain ⟨A2, c2, rfl⟩ := ownG_slice h.two.ob
  have h1 := own_srcI h.two.oa
  have h2 := own8_src h.two.ob
  exact ⟨A1, A2, c1, c2, rfl, rfl, ⟨h.row, rfl, h1.1, h2.1.2, h1.2, h2.2⟩⟩
theorem LR.keep {w W : World} {M : Nat} {A1 A2 : Option Addr} {n c1 c2 : Nat} {L : List (Int × List Int)} (h : LR w M A1 A2 n c1 c2 L) (hb : ∀ k, k < w.heap.size → W.heap[k]? = w.heap[k]?) : LR W M A1 A2 n c1 c2 L := by
  refine ⟨(hb M (lt_of_block h.row)).trans h.row, h.len, h.at1.keep hb, ?_, h.cap1, h.cap2⟩
  rcases h.at2 with h2 | ⟨g, h3, hc⟩
  · exact .inl h2
  · refine .inr ⟨g, h3, fun i hi => ?_⟩
    rw [World.cell?_of_block (w := w) (w' := W) (a := ⟨g, i, none⟩) (hb g (World.block_lt_of_cell? w ⟨g, i, none⟩ (hc i hi)))]
    exact hc i hi
theorem LR.grow {w W : World} {M : Nat} {A1 A2 : Option Addr} {n c1 c2 : Nat} {L : List (Int × List Int)} (h : LR w M A1 A2 n c1 c2 L) (hb : Below w.heap.size w W) : LR W M A1 A2 n c1 c2 L := h.keep hb.block
theorem LR.cells {w : World} {M : Nat} {A1 A2 : Option Addr} {n c1 c2 : Nat} {L : List (Int × List Int)} (h : LR w M A1 A2 n c1 c2 L) : w.cell? ⟨M, 0, none⟩ = some (.slice A1 n c1) ∧ w.cell? ⟨M, 1, none⟩ = some (.slice A2 n c2) := by
  constructor
  · rw [cell_of_row w M 0 _ 39 (0, 0) h.row]; rfl
  · rw [cell_of_row w M 1 _ 39 (0, 0) h.row]; rfl
/-- the leaf at a place of the list: where it lies -/
theorem LR.places {w : World} {M : Nat} {A1 A2 : Option Addr} {n c1 c2 : Nat} {L : List (Int × List Int)} (h : LR w M A1 A2 n c1 c2 L) (h0 : 0 < n) : ∃ g1 g2, A1 = some ⟨g1, 0, none⟩ ∧ A2 = some ⟨g2, 0, none⟩ := by
  rcases h.at1.2 with e | ⟨g1, e1, _⟩
  · omega
  · rcases h.at2 with e | ⟨g2, e2, _⟩
    · omega
    · exact ⟨g1, g2, e1, e2⟩
theorem LR.num {w : World} {M g1 : Nat} {A2 : Option Addr} {n c1 c2 : Nat} {L : List (Int × List Int)} (h : LR w M (some ⟨g1, 0, none⟩) A2 n c1 c2 L) {k : Nat} {p : Int × List Int} (hk : L[k]? = some p) : w.cell? ⟨g1, k, none⟩ = some (.int .i64 p.1) := by
  have hkn : k < n := by rw [h.len]; exact (List.getElem?_eq_some_iff.1 hk).1
  rcases h.at1.2 with e | ⟨g, e1, hc⟩
  · omega
  · cases e1
    rw [hc k hkn]
    simp [List.getD, hk]
theorem LR.hash {w : World} {M g2 : Nat} {A1 : Option Addr} {n c1 c2 : Nat} {L : List (Int × List Int)} (h : LR w M A1 (some ⟨g2, 0, none⟩) n c1 c2 L) (h8 : ∀ p ∈ L, p.2.length = 8) {k : Nat} {p : Int × List Int} (hk : L[k]? = some p) {x0 x1 x2 x3 x4 x5 x6 x7 : Int} (hx : p.2 = [x0, x1, x2, x3, x4, x5, x6, x7]) : (w.cell? ⟨g2, k * 8, none⟩ = some (.int .u8 x0) ∧ w.cell? ⟨g2, k * 8 + 1, none⟩ = some (.int .u8 x1) ∧ w.cell? ⟨g2, k * 8 + 2, none⟩ = some (.int .u8 x2) ∧ w.cell? ⟨g2, k * 8 + 3, none⟩ = some (.int .u8 x3) ∧ w.cell? ⟨g2, k * 8 + 4, none⟩ = some (.int .u8 x4) ∧ w.cell? ⟨g2, k * 8 + 5, none⟩ = some (.int .u8 x5) ∧ w.cell? ⟨g2, k * 8 + 6, none⟩ = some (.int .u8 x6) ∧ w.cell? ⟨g2, k * 8 + 7, none⟩ = some (.int .u8 x7)) := by
  have hkn : k < n := by rw [h.len]; exact (List.getElem?_eq_some_iff.1 hk).1
  have ha := zip8_at h8 hk
  rcases h.at2 with e | ⟨g, e1, hc⟩
  · omega
  · cases e1
    have gg : ∀ c, c < 8 → w.cell? ⟨g2, k * 8 + c, none⟩ = some (.int .u8 ([x0, x1, x2, x3, x4, x5, x6, x7].getD c 0)) := fun c h8 => by
      rw [hc (k * 8 + c) (by omega), ← hx, ← ha]
      unfold at8
      simp [List.getD, h8, Nat.mul_comm]
    exact ⟨gg 0 (by decide), gg 1 (by decide), gg 2 (by decide), gg 3 (by decide), gg 4 (by decide), gg 5 (by decide), gg 6 (by decide), gg 7 (by decide)⟩
theorem alloc_last2 (w : World) (o o' : Obj) : ((w.alloc o).alloc o').heap[w.heap.size + 1]? = some o' := by
  have := heap_alloc_last (w.alloc o) o'
  rw [World.size_alloc] at this
  exact this
theorem alloc_mid (w : World) (o o' : Obj) : ((w.alloc o).alloc o').heap[w.heap.size]? = some o := (Below.heap_alloc _ _ _ (by simp)).trans (heap_alloc_last w o)
end Go.Proofs.YtgagcblddcibkaaDoor
