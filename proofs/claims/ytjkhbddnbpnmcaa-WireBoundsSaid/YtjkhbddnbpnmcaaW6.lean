/-
  The Writer's write, onto a Writer that has written nothing yet.
-/
import Derived.Test.YtjkhbddnbpnmcaaW5
namespace Go.Proofs.Ytjkhbddnbpnmcaa
open Go.RowKit
attribute [local go_sem ↓] Go.wp_at_zero Go.wp_at_succ

theorem on_first' {base Wb : Nat} {w : World} (hb : base ≤ Wb) (h : Three w Wb (.pointer none) (.int .i64 0) (.int .i64 0)) :
    On base Wb w.heap.size none 0 ((w.setCell ⟨Wb, 0, none⟩ (.pointer (some ⟨w.heap.size, 0, none⟩))).alloc (Obj.cells #[.slice none 0 0] 66)) [] := by
  have hW : Wb < w.heap.size := lt_of_block h
  have hs : (w.setCell ⟨Wb, 0, none⟩ (.pointer (some ⟨w.heap.size, 0, none⟩))).heap.size = w.heap.size := by simp [World.setCell]
  have ht := three_set0 (.pointer (some ⟨w.heap.size, 0, none⟩)) h
  refine ⟨hb, by omega, by omega, ?_, ?_, own_nil _ _, by simp [Value.ownBlock], by simp [Value.ownBlock]⟩
  · unfold Three at *
    rw [Below.heap_alloc _ _ Wb (by rw [hs]; exact hW)]
    exact ht
  · have := heap_alloc_new (w.setCell ⟨Wb, 0, none⟩ (.pointer (some ⟨w.heap.size, 0, none⟩))) (Obj.cells #[.slice none 0 0] 66)
    rwa [hs] at this
theorem three_no8 {w : World} {b i : Nat} {p : Option Addr} {x y z : Int} (h : Three w b (.pointer p) (.int .i64 x) (.int .i64 y)) (hc : w.cell? ⟨b, i, none⟩ = some (.int .u8 z)) : False := by
  unfold Three at h
  rw [cell_of_row w b i _ 50 (0, 0) h] at hc
  match i with
  | 0 => simp at hc
  | 1 => simp at hc
  | 2 => simp at hc
  | n + 3 => simp at hc
theorem src_three {w w1 : World} {b i : Nat} {p : Option Addr} {x y : Int} {A : Option Addr} {m : Nat} {ys : List Int} (u : Value) (hk : ∀ k, k < w.heap.size → w1.heap[k]? = w.heap[k]?) (h : Three w b (.pointer p) (.int .i64 x) (.int .i64 y)) (hs : Src w A m ys) :
    Src (w1.setCell ⟨b, i, none⟩ u) A m ys := by
  refine ⟨hs.1, ?_⟩
  rcases hs.2 with h2 | ⟨g, off, e, hc⟩
  · exact .inl h2
  · refine .inr ⟨g, off, e, fun j hj => ?_⟩
    have h0 := World.block_lt_of_cell? w ⟨g, off + j, none⟩ (hc j hj)
    have hne : g ≠ b := fun e => by subst e; exact three_no8 h (hc j hj)
    rw [World.cell?_of_block (w := w) (a := ⟨g, off + j, none⟩) ((Below.heap_setCell _ _ _ _ hne).trans (hk g h0))]
    exact hc j hj

set_option maxHeartbeats 1000000 in
theorem c34n (base Wb : Nat) (A : Option Addr) (m c : Nat) (ys : List Int) (w : World) (hb : base ≤ Wb) (h : Three w Wb (.pointer none) (.int .i64 0) (.int .i64 0)) (hs : Src w A m ys) (hc : A = none → c = 0) (hl : m ≤ 131072) :
    Calls Try.prog 34 #[.pointer (some ⟨Wb, 0, none⟩), .slice A m c] w fun e w' => e = .returned (.tuple #[]) ∧ (∃ Pb A1 c1, On base Wb Pb A1 c1 w' ys) ∧ Below base w w' := by
  obtain ⟨i0, hi, hz0, hz1, hz2⟩ := info_parts info5
  obtain ⟨h0, h1, h2⟩ := three_cell h
  have f0 := three_free h 0
  have H := Lib.hid h
  have HS := Lib.hid hs
  have HCN := Lib.hid hc
  have HBW := Lib.hid hb
  have hlt : ¬ (131072 : Int) < (m : Int) := by omega
  have HI := Lib.hid hi
  have HI0 := Lib.hid hz0
  have HI1 := Lib.hid hz1
  have HI2 := Lib.hid hz2
  have HB : Hid (base ≤ w.heap.size) := Nat.le_trans hb (Nat.le_of_lt (lt_of_block h))
  clear hi hz0 hz1 hz2 h hs hc hb
  go_enter Try.func34, Try.ntmps34
  go_wp2_with fail
  go_quiet (fail)
  generalize hq : w.drewN _ = wq
  have H2 : Hid (Three wq Wb (.pointer none) (.int .i64 0) (.int .i64 0)) := by rw [← hq]; exact H.out
  have S2 : Hid (Src wq A m ys) := by rw [← hq]; exact HS.out.keep (fun _ _ => rfl)
  have B2 : Hid (base ≤ wq.heap.size) := by rw [← hq]; exact HB.out
  have Q2 : Hid (∀ W', Below base wq W' → Below base w W') := fun W' h => by rw [← hq] at h; exact (Below.refl base w).trans ⟨h.os, h.tape, h.output, h.size, h.block⟩
  clear hq h0 h1 h2 f0 H HS HB
  obtain ⟨h0, h1, h2⟩ := three_cell H2.out
  have f0 := three_free H2.out 0
  have C := Lib.hid (c37n Wb _ _ wq H2.out)
  have hw1 : Wb < wq.heap.size := lt_of_block H2.out
  have hne : ¬ wq.heap.size = Wb := by omega
  have hbuild : ∀ w : World, (Instr.build 66 #[(0, .slice none 0 0)]).run Try.prog w = .ok (.agg #[.slice none 0 0]) w := fun w => run_build w 66 _ _ (by kernel_rfl)
  go_wp2_with (first | (go_at_call 37; refine C.out.mono ?_; rintro e w' ⟨rfl, rfl⟩) | (go_at_call 33; refine (c33n _).mono ?_; rintro e w' ⟨rfl, rfl⟩))
  have O5 := Lib.hid (on_first' HBW.out H2.out)
  have S5 : Hid (Src ((wq.setCell ⟨Wb, 0, none⟩ (.pointer (some ⟨wq.heap.size, 0, none⟩))).alloc (Obj.cells #[.slice none 0 0] 66)) A m ys) :=
    (src_three (w1 := wq) _ (fun _ _ => rfl) H2.out S2.out).keep (fun k hk => Below.heap_alloc _ _ k hk)
  have Q5 : Hid (∀ W', Below base ((wq.setCell ⟨Wb, 0, none⟩ (.pointer (some ⟨wq.heap.size, 0, none⟩))).alloc (Obj.cells #[.slice none 0 0] 66)) W' → Below base w W') := fun W' h => Q2.out W' ((((Below.refl base wq).setCell HBW.out _).alloc (by simpa [World.setCell] using B2.out) _).trans h)
  have Z5 : Hid (wq.heap.size ≠ Wb) := hne
  have B5 : Hid (base ≤ ((wq.setCell ⟨Wb, 0, none⟩ (.pointer (some ⟨wq.heap.size, 0, none⟩))).alloc (Obj.cells #[.slice none 0 0] 66)).heap.size) := by
    show base ≤ _
    have h : base ≤ wq.heap.size := B2.out
    simp [World.setCell]
    omega
  clear C Q2 H2 S2 B2 h0 h1 h2 f0 hne hw1
  generalize ((wq.setCell ⟨Wb, 0, none⟩ (.pointer (some ⟨wq.heap.size, 0, none⟩))).alloc (Obj.cells #[.slice none 0 0] 66)) = wr at *
  generalize wq.heap.size = Pb at *
  obtain ⟨h0, h1, h2⟩ := three_cell O5.out.three
  have h3 := cell_of_one O5.out.one
  have hne := Ne.symm Z5.out
  have S3 : Hid (Src wr.drew A m ys) := S5.out.keep (fun _ _ => rfl)
  have H3 : Hid (On base Wb Pb none 0 wr.drew []) := O5.out.drew
  have HO : Hid (wr.drew.ownsRow base 5 1 (.slice none 0 0) 0 (bvals [])) := H3.out.own
  rw [List.length_nil] at h1 h3
  go_region_law
    ((refine step_app rfl (.tmp 61) (.tmp 62) 25 rfl i0 Try.underlying25 HI.out HI0.out HI1.out HI2.out base 0 (.slice none 0 0) [] (by simp [Act.eval]) HO.out A m c ys (by simp [Act.eval]) S3.out HCN.out (by unfold maxLen; omega) (by omega) B5.out ?_; intro A1 c1 w1 hown hg hat; have OW := Lib.hid hown; have GR := Lib.hid hg; have AT := Lib.hid hat; have q0 := three_cell (three_grown hg (Ne.symm H3.out.aw) H3.out.three); have q3 := three_free (three_grown hg (Ne.symm H3.out.aw) H3.out.three) 1; have q1 := (hg.block Pb (lt_of_block H3.out.one) (Ne.symm H3.out.ap)).trans H3.out.one; rw [List.length_nil] at q0; rw [List.length_nil] at q1; have q2 := cell_of_one q1; have q4 := free_of_one q1; clear hown hg hat q1))
  all_goals
    go_wp2
    go_end0
    have M := H3.out.more S3.out.1 OW.out GR.out AT.out
    simp only [List.length_nil, Nat.zero_add, List.nil_append, Int.natCast_zero, Int.zero_add] at M
    exact ⟨rfl, ⟨_, _, _, M.1⟩, Q5.out _ ((Below.refl base wr).drew.trans M.2)⟩
end Go.Proofs.Ytjkhbddnbpnmcaa
