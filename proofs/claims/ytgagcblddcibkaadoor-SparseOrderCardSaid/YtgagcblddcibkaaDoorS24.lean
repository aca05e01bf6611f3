/-
  Put at any place, the tree's and the document's; what deeds leave.
-/
import Derived.Test.YtgagcblddcibkaaDoorS23
namespace Go.Proofs.YtgagcblddcibkaaDoor
open Go.RowKit
open Go.Maps
def inr (i : Int) : Bool := decide (0 ≤ i ∧ i < 65536)
def putA (L : List (Int × List Int)) (d : Int × List Int) : List (Int × List Int) := if inr d.1 = true then putL L d.1 d.2 else L
def fillL (P : Nat → Int × List Int) : Nat → List (Int × List Int)
  | 0 => []
  | k + 1 => putA (fillL P k) (P k)
theorem putA_yes {L : List (Int × List Int)} {d : Int × List Int} (h : 0 ≤ d.1 ∧ d.1 < 65536) : putA L d = putL L d.1 d.2 := by unfold putA inr; rw [decide_eq_true h, if_pos rfl]
theorem putA_no {L : List (Int × List Int)} {d : Int × List Int} (h : ¬ (0 ≤ d.1 ∧ d.1 < 65536)) : putA L d = L := by unfold putA inr; rw [decide_eq_false h, if_neg (by decide)]
theorem Good.putA {L : List (Int × List Int)} (g : Good L) {d : Int × List Int} (hd : d.2.length = 8) : Good (putA L d) := by
  by_cases h : 0 ≤ d.1 ∧ d.1 < 65536
  · rw [putA_yes h]; exact g.put h hd
  · rw [putA_no h]; exact g
theorem putA_length (L : List (Int × List Int)) (d : Int × List Int) : (putA L d).length ≤ L.length + 1 := by
  unfold putA
  split
  · exact putL_length _ _ _
  · omega
theorem fillL_good {P : Nat → Int × List Int} {n : Nat} (hP : ∀ k, k < n → (P k).2.length = 8) : ∀ k, k ≤ n → Good (fillL P k)
  | 0, _ => Good.nil
  | k + 1, h => (fillL_good hP k (by omega)).putA (hP k (by omega))
theorem fillL_length (P : Nat → Int × List Int) : ∀ k, (fillL P k).length ≤ k
  | 0 => Nat.le_refl 0
  | k + 1 => by
    have h1 := fillL_length P k
    have h2 := putA_length (fillL P k) (P k)
    show (putA (fillL P k) (P k)).length ≤ _
    omega
/-- the tree's Put, any place -/
theorem p20any (B T N : Nat) (i : Int) (h : List Int) (ms : Nat → Option Nat) (L : List (Int × List Int)) (w : World) (hk : Keys w) (hB : 0 < B) (hT : Tr w B T ms (nd (lk L)) N) (hN : N < 90000) (hh : h.length = 8) :
    Calls Tryd.prog 20 #[.pointer (some ⟨T, 0, none⟩), .int .i64 i, .agg (ba h)] w fun e w' => e = .returned (.bool (inr i)) ∧ ∃ ms', Tr w' B T ms' (nd (lk (putA L (i, h)))) (N + 17) ∧ Chg w w' T ms ms' := by
  by_cases hi : 0 ≤ i ∧ i < 65536
  · obtain ⟨q, rfl⟩ := Int.eq_ofNat_of_zero_le hi.1
    have e : inr (q : Int) = true := decide_eq_true hi
    have e2 : lk (putA L ((q : Int), h)) = upd (lk L) q h := by rw [putA_yes (d := ((q : Int), h)) hi, lk_put]
    rw [e, e2]
    exact p20 B T N q h ms (lk L) w hk hB hT hN hh (by omega)
  · have e : inr i = false := decide_eq_false hi
    have e2 : putA L (i, h) = L := putA_no (d := (i, h)) hi
    rw [e, e2]
    exact (p20no T i h w hi hh).mono fun _ w' hr => ⟨hr.1, ms, (hT.grow hr.2).mono (by omega), Chg.of_below hr.2⟩
set_option maxRecDepth 100000 in
set_option maxHeartbeats 1600000 in
theorem r24no (M : Nat) (i : Int) (h : List Int) (w : World) (hno : ¬ (0 ≤ i ∧ i < 65536)) (hh : h.length = 8) :
    Calls Tryd.prog 24 #[.pointer (some ⟨M, 0, none⟩), .int .i64 i, .agg (ba h)] w fun e w' => e = .returned (.bool false) ∧ Below w.heap.size w w' := by
  obtain ⟨h0, h1, h2, h3, h4, h5, h6, h7, hh8⟩ := c8cells h hh
  rw [hh8, ba_lit]
  clear hh hh8
  have B0 : Hid (Below w.heap.size w (w.alloc (Obj.cells #[.int .u8 h0, .int .u8 h1, .int .u8 h2, .int .u8 h3, .int .u8 h4, .int .u8 h5, .int .u8 h6, .int .u8 h7] 29))) := (Below.refl _ w).alloc (Nat.le_refl _) _
  by_cases h1 : i < 0
  · clear hno
    go_enter Tryd.func24, Tryd.ntmps24
    go_wp2
    go_ret
    exact ⟨rfl, B0.out⟩
  · have h2 : 65536 ≤ i := by omega
    clear hno
    go_enter Tryd.func24, Tryd.ntmps24
    go_wp2
    go_ret
    exact ⟨rfl, B0.out⟩
/-- the document's Put, any place -/
theorem r24any (B M : Nat) (a b : Value) (L : List (Int × List Int)) (i : Int) (h : List Int) (w : World) (hk : Keys w) (hL : Lv w B M a b L) (hG : Good L) (hn : L.length ≤ 1000) (hh : h.length = 8) (hB : B ≤ w.heap.size) :
    Calls Tryd.prog 24 #[.pointer (some ⟨M, 0, none⟩), .int .i64 i, .agg (ba h)] w fun e w' => e = .returned (.bool (inr i)) ∧ (∃ a' b', Lv w' B M a' b' (putA L (i, h))) ∧ w'.os = w.os ∧ w'.tape = w.tape ∧ w'.output = w.output ∧ w.heap.size ≤ w'.heap.size ∧ ∀ q, q < w.heap.size → q ≠ M → w'.heap[q]? = w.heap[q]? := by
  by_cases hi : 0 ≤ i ∧ i < 65536
  · have e : inr i = true := decide_eq_true hi
    have e2 : putA L (i, h) = putL L i h := putA_yes (d := (i, h)) hi
    obtain ⟨A1, A2, c1, c2, rfl, rfl, hR⟩ := hL.read
    have := r24 B M A1 A2 L.length c1 c2 L i h w hk hR hG hn hh hi hB
    rw [Nat.min_eq_left hL.lo] at this
    rw [e, e2]
    exact this
  · have e : inr i = false := decide_eq_false hi
    have e2 : putA L (i, h) = L := putA_no (d := (i, h)) hi
    rw [e, e2]
    exact (r24no M i h w hi hh).mono fun _ w' hr => ⟨hr.1, ⟨a, b, hL.grow hr.2⟩, hr.2.os, hr.2.tape, hr.2.output, hr.2.size, fun q hq _ => hr.2.block q hq⟩
/-- deeds in memory -/
structure Dds (w : World) (A : Option Addr) (n : Nat) (P : Nat → Int × List Int) : Prop where
  cell : n = 0 ∨ ∃ b off, A = some ⟨b, off, none⟩ ∧ ∀ i, i < n → w.cell? ⟨b, off + i * 9, none⟩ = some (.int .i64 (P i).1) ∧ ∀ c, c < 8 → w.cell? ⟨b, off + i * 9 + 1 + c, none⟩ = some (.int .u8 ((P i).2.getD c 0))
  len : ∀ i, i < n → (P i).2.length = 8
theorem Dds.keep {w W : World} {A : Option Addr} {n : Nat} {P : Nat → Int × List Int} (h : Dds w A n P) (hb : ∀ k, k < w.heap.size → W.heap[k]? = w.heap[k]?) : Dds W A n P := by
  refine ⟨?_, h.len⟩
  rcases h.cell with h0 | ⟨b, off, rfl, hc⟩
  · exact .inl h0
  · refine .inr ⟨b, off, rfl, fun i hi => ?_⟩
    have hlt := World.block_lt_of_cell? w ⟨b, off + i * 9, none⟩ (hc i hi).1
    refine ⟨?_, fun c h8 => ?_⟩
    · rw [World.cell?_of_block (w := w) (w' := W) (a := ⟨b, off + i * 9, none⟩) (hb b hlt)]
      exact (hc i hi).1
    · rw [World.cell?_of_block (w := w) (w' := W) (a := ⟨b, off + i * 9 + 1 + c, none⟩) (hb b hlt)]
      exact (hc i hi).2 c h8
end Go.Proofs.YtgagcblddcibkaaDoor
