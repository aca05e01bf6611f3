/-
  MoneyGuards: the function that goes down, and adds at the bottom till Must panics.
-/
import Derived.Test.YtbolcpglkjjheaaW12
import Derived.OneCell
import Derived.StillTailTactics
namespace Go.Proofs.Ytbolcpglkjjheaa
open Go.RowKit

/-- how far a row is fine -/
def Stop (xs : List Int) (g : Nat) : Prop := g ≤ xs.length ∧ okB (xs.take g) = true ∧ (g < xs.length → okB (xs.take (g + 1)) = false)
theorem stop_some (xs : List Int) : ∃ g, Stop xs g := by
  have key : ∀ d k, k + d = xs.length → okB (xs.take k) = true → ∃ g, Stop xs g := by
    intro d
    induction d with
    | zero => intro k h1 h2; exact ⟨k, by omega, h2, fun h => by omega⟩
    | succ d ih =>
      intro k h1 h2
      cases h : okB (xs.take (k + 1)) with
      | true => exact ih (k + 1) (by omega) h
      | false => exact ⟨k, by omega, h2, fun _ => h⟩
  exact key xs.length 0 (by omega) rfl
theorem stop_yes {xs : List Int} {g : Nat} (h : Stop xs g) (hk : okB xs = true) : g = xs.length := by
  rcases Nat.lt_or_ge g xs.length with hg | hg
  · have := h.2.2 hg; rw [ok_take _ hk] at this; cases this
  · have := h.1; omega
theorem stop_no {xs : List Int} {g : Nat} (h : Stop xs g) (hk : okB xs = false) : g < xs.length := by
  rcases Nat.lt_or_ge g xs.length with hg | hg
  · exact hg
  · have h2 := h.2.1
    rw [List.take_of_length_le hg, hk] at h2; cases h2
theorem stop_go {xs : List Int} {g k : Nat} (h : Stop xs g) (hk : k < g) : okB (xs.take (k + 1)) = true := by
  have := ok_take (k + 1) h.2.1
  rwa [List.take_take, Nat.min_eq_left (by omega)] at this

/-- the blocks of what the function has captured -/
structure Mem (w0 : World) (Bl Bn Bs : Nat) (sl : Value) (z s : Int) (w : World) : Prop where
  below : Below w0.heap.size w0 w
  l : w.heap[Bl]? = some (.cells #[sl] 27 (0, 0))
  n : w.heap[Bn]? = some (.cells #[.int .i64 z] 3 (0, 0))
  s : w.heap[Bs]? = some (.cells #[.int .i64 s] 3 (0, 0))
structure Apart (w0 : World) (Bl Bn Bs : Nat) : Prop where
  l : w0.heap.size ≤ Bl
  n : w0.heap.size ≤ Bn
  s : w0.heap.size ≤ Bs
  ln : Bl ≠ Bn
  ls : Bl ≠ Bs
  ns : Bn ≠ Bs

theorem Mem.next {w0 : World} {Bl Bn Bs : Nat} {sl : Value} {z s : Int} {w : World} (h : Mem w0 Bl Bn Bs sl z s w) (hA : Apart w0 Bl Bn Bs) (z' s' : Int) :
    Mem w0 Bl Bn Bs sl z' s' ((w.setCell ⟨Bn, 0, none⟩ (.int .i64 z')).setCell ⟨Bs, 0, none⟩ (.int .i64 s')).drew := by
  refine ⟨((h.below.setCell hA.n _).setCell hA.s _).drew, ?_, ?_, ?_⟩
  · show ((w.setCell ⟨Bn, 0, none⟩ (.int .i64 z')).setCell ⟨Bs, 0, none⟩ (.int .i64 s')).heap[Bl]? = _
    rw [Below.heap_setCell _ _ _ _ hA.ls, Below.heap_setCell _ _ _ _ hA.ln]; exact h.l
  · show ((w.setCell ⟨Bn, 0, none⟩ (.int .i64 z')).setCell ⟨Bs, 0, none⟩ (.int .i64 s')).heap[Bn]? = _
    rw [Below.heap_setCell _ _ _ _ hA.ns]; exact one_setCell h.n
  · show ((w.setCell ⟨Bn, 0, none⟩ (.int .i64 z')).setCell ⟨Bs, 0, none⟩ (.int .i64 s')).heap[Bs]? = _
    exact one_setCell (by rw [Below.heap_setCell _ _ _ _ hA.ns.symm]; exact h.s)
theorem Mem.drew {w0 : World} {Bl Bn Bs : Nat} {sl : Value} {z s : Int} {w : World} (h : Mem w0 Bl Bn Bs sl z s w) : Mem w0 Bl Bn Bs sl z s w.drew :=
  ⟨h.below.drew, h.l, h.n, h.s⟩

set_option maxHeartbeats 1000000 in
theorem c17zy (w0 : World) (Bf Bl Bn Bs b off len cap : Nat) (xs : List Int) (w : World) (hlen : xs.length = len) (hm : len ≤ 100) (hok : okB xs = true)
    (hc : ∀ i, i < len → w0.cell? ⟨b, off + i, none⟩ = some (.int .i64 (xs.getD i 0))) (hA : Apart w0 Bl Bn Bs) (hM : Mem w0 Bl Bn Bs (.slice (some ⟨b, off, none⟩) len cap) 0 0 w) :
    Calls Try.prog 17 #[.int .i64 0, .pointer (some ⟨Bf, 0, none⟩), .pointer (some ⟨Bl, 0, none⟩), .pointer (some ⟨Bn, 0, none⟩), .pointer (some ⟨Bs, 0, none⟩)] w fun e w' =>
      e = .returned (.tuple #[]) ∧ Mem w0 Bl Bn Bs (.slice (some ⟨b, off, none⟩) len cap) xs.sum len w' := by
  have HL := Lib.hid hlen
  have HC := Lib.hid hc
  have HA := Lib.hid hA
  have HM := Lib.hid hM
  have HO := Lib.hid hok
  clear hlen hc hA hM hok
  go_enter Try.func17, Try.ntmps17
  go_wp2
  go_loopw [6] (fun i wr => ∃ k : Nat, k ≤ len ∧ i = .int .i64 k ∧ Mem w0 Bl Bn Bs (.slice (some ⟨b, off, none⟩) len cap) (xs.take k).sum k wr) (fun i _ => len - (intOf i).toNat)
  case atStart => exact ⟨0, Nat.zero_le _, rfl, HM.out⟩
  case round =>
    obtain ⟨k, hk, rfl, hM⟩ := hrel
    have cl := cell_of_one hM.l
    have cn := cell_of_one hM.n
    have cs := cell_of_one hM.s
    have fn := free_of_one hM.n
    have fs := free_of_one hM.s
    have MK := Lib.hid hM
    clear hM
    by_cases hlt : k < len
    · have hk' : k < xs.length := by rw [HL.out]; omega
      have hx := HC.out k (by omega)
      have hb := World.block_lt_of_cell? w0 ⟨b, off + k, none⟩ hx
      have hx2 : wr.cell? ⟨b, off + k, none⟩ = some (.int .i64 (xs.getD k 0)) := by rw [MK.out.below.cell (p := ⟨b, off + k, none⟩) hb]; exact hx
      have SX := Lib.hid (sum_next hk')
      have ha := ok_next hk' (ok_take k HO.out)
      rw [ok_take (k + 1) HO.out] at ha
      have C := Lib.hid (fun w => c18y (xs.take k).sum (xs.getD k 0) w ha.symm)
      have hns := HA.out.ns
      clear hk' hx hb ha
      go_wp2
      go_still_tail 5, (by kernel_rfl)
      go_wp2_with (go_at_call 18; refine (C.out _).mono ?_; rintro e w' ⟨rfl, rfl⟩)
      go_roundw
      case rel => exact ⟨k + 1, by omega, by go_num, by rw [SX.out]; exact MK.out.next HA.out _ _⟩
      case measure => simp [intOf]; omega
    · obtain rfl : k = len := by omega
      go_wp2
      go_end0
      exact ⟨rfl, by have := MK.out; rwa [List.take_of_length_le (by rw [HL.out]; exact Nat.le_refl _)] at this⟩

set_option maxHeartbeats 1000000 in
theorem c17zn (w0 : World) (Bf Bl Bn Bs b off len cap g : Nat) (xs : List Int) (w : World) (hlen : xs.length = len) (hm : len ≤ 100) (hg : g < len) (hok : Stop xs g)
    (hc : ∀ i, i < len → w0.cell? ⟨b, off + i, none⟩ = some (.int .i64 (xs.getD i 0))) (hA : Apart w0 Bl Bn Bs) (hM : Mem w0 Bl Bn Bs (.slice (some ⟨b, off, none⟩) len cap) 0 0 w) :
    Calls Try.prog 17 #[.int .i64 0, .pointer (some ⟨Bf, 0, none⟩), .pointer (some ⟨Bl, 0, none⟩), .pointer (some ⟨Bn, 0, none⟩), .pointer (some ⟨Bs, 0, none⟩)] w fun e w' =>
      (∃ u v, e = .panicked [{ v := .iface u v, recovered := false }]) ∧ Mem w0 Bl Bn Bs (.slice (some ⟨b, off, none⟩) len cap) (xs.take g).sum g w' := by
  have HL := Lib.hid hlen
  have HC := Lib.hid hc
  have HA := Lib.hid hA
  have HM := Lib.hid hM
  have HO := Lib.hid hok
  clear hlen hc hA hM hok
  go_enter Try.func17, Try.ntmps17
  go_wp2
  go_loopw [6] (fun i wr => ∃ k : Nat, k ≤ g ∧ i = .int .i64 k ∧ Mem w0 Bl Bn Bs (.slice (some ⟨b, off, none⟩) len cap) (xs.take k).sum k wr) (fun i _ => len - (intOf i).toNat)
  case atStart => exact ⟨0, Nat.zero_le _, rfl, HM.out⟩
  case round =>
    obtain ⟨k, hk, rfl, hM⟩ := hrel
    have cl := cell_of_one hM.l
    have cn := cell_of_one hM.n
    have cs := cell_of_one hM.s
    have fn := free_of_one hM.n
    have fs := free_of_one hM.s
    have MK := Lib.hid hM
    clear hM
    by_cases hlt : k < g
    · have hll : k < len := by omega
      have hk' : k < xs.length := by rw [HL.out]; omega
      have hx := HC.out k (by omega)
      have hb := World.block_lt_of_cell? w0 ⟨b, off + k, none⟩ hx
      have hx2 : wr.cell? ⟨b, off + k, none⟩ = some (.int .i64 (xs.getD k 0)) := by rw [MK.out.below.cell (p := ⟨b, off + k, none⟩) hb]; exact hx
      have SX := Lib.hid (sum_next hk')
      have ok0 : okB (xs.take k) = true := by have := ok_take k HO.out.2.1; rwa [List.take_take, Nat.min_eq_left (by omega)] at this
      have ha := ok_next hk' ok0
      rw [stop_go HO.out hlt] at ha
      have C := Lib.hid (fun w => c18y (xs.take k).sum (xs.getD k 0) w ha.symm)
      have hns := HA.out.ns
      clear hk' hx hb ha ok0
      go_wp2
      go_still_tail 5, (by kernel_rfl)
      go_wp2_with (go_at_call 18; refine (C.out _).mono ?_; rintro e w' ⟨rfl, rfl⟩)
      go_roundw
      case rel => exact ⟨k + 1, by omega, by go_num, by rw [SX.out]; exact MK.out.next HA.out _ _⟩
      case measure => simp [intOf]; omega
    · obtain rfl : k = g := by omega
      have hk' : k < xs.length := by rw [HL.out]; omega
      have hx := HC.out k (by omega)
      have hb := World.block_lt_of_cell? w0 ⟨b, off + k, none⟩ hx
      have hx2 : wr.cell? ⟨b, off + k, none⟩ = some (.int .i64 (xs.getD k 0)) := by rw [MK.out.below.cell (p := ⟨b, off + k, none⟩) hb]; exact hx
      have ha := ok_next hk' HO.out.2.1
      rw [HO.out.2.2 hk'] at ha
      have C := Lib.hid (fun w => c18n (xs.take k).sum (xs.getD k 0) w ha.symm)
      clear hk' hx hb ha
      go_wp2
      go_still_tail 5, (by kernel_rfl)
      go_wp2_with (go_at_call 18; refine (C.out _).mono ?_; rintro e w' ⟨rfl, rfl⟩)
      exact ⟨rfl, ⟨_, _, rfl⟩, MK.out.drew⟩

end Go.Proofs.Ytbolcpglkjjheaa
