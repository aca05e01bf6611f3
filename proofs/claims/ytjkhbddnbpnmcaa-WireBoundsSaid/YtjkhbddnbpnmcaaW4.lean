/-
  The Writer in memory; fail, written.
-/
import Derived.Test.YtjkhbddnbpnmcaaW3
import Derived.BigQuiet
import Derived.Deep.QuietTactic
import Derived.Deep.DrawnRows
namespace Go.Proofs.Ytjkhbddnbpnmcaa
open Go.RowKit

/-- three cells of a block -/
def Three (w : World) (b : Nat) (x y z : Value) : Prop := w.heap[b]? = some (.cells #[x, y, z] 50 (0, 0))
theorem three_cell {w : World} {b : Nat} {x y z : Value} (h : Three w b x y z) : w.cell? ⟨b, 0, none⟩ = some x ∧ w.cell? ⟨b, 1, none⟩ = some y ∧ w.cell? ⟨b, 2, none⟩ = some z := by
  unfold Three at h
  simp [World.cell?, h]
theorem three_free {w : World} {b : Nat} {x y z : Value} (h : Three w b x y z) (i : Nat) : w.frozen? ⟨b, i, none⟩ = false := by
  unfold Three at h
  simp [World.frozen?, h]
theorem three_set0 {w : World} {b : Nat} {x y z : Value} (u : Value) (h : Three w b x y z) : Three (w.setCell ⟨b, 0, none⟩ u) b u y z := by
  unfold Three at *
  rw [heap_setCell_same w b 0 _ 50 u h]; rfl
theorem three_set1 {w : World} {b : Nat} {x y z : Value} (u : Value) (h : Three w b x y z) : Three (w.setCell ⟨b, 1, none⟩ u) b x u z := by
  unfold Three at *
  rw [heap_setCell_same w b 1 _ 50 u h]; rfl
theorem three_set2 {w : World} {b : Nat} {x y z : Value} (u : Value) (h : Three w b x y z) : Three (w.setCell ⟨b, 2, none⟩ u) b x y u := by
  unfold Three at *
  rw [heap_setCell_same w b 2 _ 50 u h]; rfl
theorem three_else {w : World} {b g : Nat} {x y z : Value} (i : Nat) (u : Value) (hne : b ≠ g) (h : Three w b x y z) : Three (w.setCell ⟨g, i, none⟩ u) b x y z := by
  unfold Three at *
  rw [heap_setCell_other w ⟨g, i, none⟩ b u hne]; exact h

theorem c36 (Wb : Nat) (x y z : Value) (err : Int) (w : World) (h : Three w Wb x y z) :
    Calls Try.prog 36 #[.pointer (some ⟨Wb, 0, none⟩), .int .i64 err] w fun e w' => e = .returned (.tuple #[]) ∧ Three w' Wb (.pointer none) (.int .i64 0) (.int .i64 err) ∧ (∀ B, B ≤ Wb → Below B w w') := by
  obtain ⟨h0, h1, h2⟩ := three_cell h
  have f0 := three_free h 0
  have f1 := three_free h 1
  have f2 := three_free h 2
  have H := Lib.hid h
  clear h
  have hbuild : ∀ w : World, (Instr.build 50 #[(2, .int .i64 err)]).run Try.prog w = .ok (.agg #[.pointer none, .int .i64 0, .int .i64 err]) w := fun w => run_build w 50 _ _ (by kernel_rfl)
  go_enter Try.func36, Try.ntmps36
  go_wp2
  go_end0
  refine ⟨rfl, three_set2 _ (three_set1 _ (three_set0 _ H.out)), fun B hB => ((((Below.refl _ _).setCell hB _).setCell hB _).setCell hB _)⟩

/-- a Writer that has written: its paper, its row -/
structure On (base Wb Pb : Nat) (A : Option Addr) (c : Nat) (w : World) (bs : List Int) : Prop where
  bw : base ≤ Wb
  bp : base ≤ Pb
  ne : Pb ≠ Wb
  three : Three w Wb (.pointer (some ⟨Pb, 0, none⟩)) (.int .i64 bs.length) (.int .i64 0)
  one : w.heap[Pb]? = some (.cells #[.slice A bs.length c] 66 (0, 0))
  own : w.ownsRow base 5 1 (.slice A bs.length c) bs.length (bvals bs)
  aw : (Value.slice A bs.length c).ownBlock ≠ some Wb
  ap : (Value.slice A bs.length c).ownBlock ≠ some Pb
/-- a Writer that has written bs -/
def Wr (base Wb : Nat) (w : World) (bs : List Int) : Prop := (bs = [] ∧ base ≤ Wb ∧ Three w Wb (.pointer none) (.int .i64 0) (.int .i64 0)) ∨ ∃ Pb A c, On base Wb Pb A c w bs
/-- a Writer that has failed -/
def Wx (base Wb : Nat) (w : World) (err : Int) : Prop := base ≤ Wb ∧ Three w Wb (.pointer none) (.int .i64 0) (.int .i64 err)

theorem c37n (Wb : Nat) (y z : Value) (w : World) (h : Three w Wb (.pointer none) y z) :
    Calls Try.prog 37 #[.pointer (some ⟨Wb, 0, none⟩)] w fun e w' => e = .returned (.slice none 0 0) ∧ w = w' := by
  obtain ⟨h0, _, _⟩ := three_cell h
  clear h
  go_enter Try.func37, Try.ntmps37
  go_wp2
  go_ret
  exact ⟨rfl, rfl⟩
theorem c37 (base Wb Pb : Nat) (A : Option Addr) (c : Nat) (bs : List Int) (w : World) (h : On base Wb Pb A c w bs) :
    Calls Try.prog 37 #[.pointer (some ⟨Wb, 0, none⟩)] w fun e w' => e = .returned (.slice A bs.length c) ∧ ∃ n, w' = w.drewN n := by
  obtain ⟨h0, h1, h2⟩ := three_cell h.three
  have h3 := cell_of_one h.one
  obtain ⟨_, _, e, _, _, hcap⟩ := own_row h.own
  obtain ⟨l, hl⟩ : ∃ l, bs.length = l := ⟨_, rfl⟩
  have hm : c ≤ 9223372036854775807 := by
    rcases h.own.2 with ⟨h4, _⟩ | ⟨g, cap, cur, h4, _, _, _, h5, _⟩
    · simp only [Value.slice.injEq] at h4; omega
    · simp only [Value.slice.injEq] at h4; unfold maxLen at h5; omega
  simp only [Value.slice.injEq] at e
  obtain ⟨rfl, _, rfl⟩ := e
  rw [hl] at hcap h1 h3 ⊢
  have hb1 : (0 : Int) ≤ (l : Int) := by omega
  have hb2 : (l : Int) ≤ (c : Int) := by omega
  clear h hl
  go_enter Try.func37, Try.ntmps37
  go_wp2
  go_quiet (fail)
  go_wp2
  go_ret
  exact ⟨rfl, _, rfl⟩
end Go.Proofs.Ytjkhbddnbpnmcaa
