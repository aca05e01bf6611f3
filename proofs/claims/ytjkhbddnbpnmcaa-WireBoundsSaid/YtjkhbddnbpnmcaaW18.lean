/-
  awake: a number and bytes are written and read.
-/
import Derived.Test.YtjkhbddnbpnmcaaW17
namespace Go.Proofs.Ytjkhbddnbpnmcaa
open Go.RowKit

theorem c22 (Rb Nb : Nat) (w : World) (h : Rdr w Rb [2, 1, 1, 0, 0, 0, 7]) (hne : Nb ≠ Rb) (hn : w.heap[Nb]? = some (.cells #[.int .i64 0] 3 (0, 0))) :
    Calls Try.prog 22 #[.pointer (some ⟨Rb, 0, none⟩), .pointer (some ⟨Nb, 0, none⟩)] w fun e w' => e = .returned (.tuple #[]) ∧ Rdr w' Rb [] ∧ St Rb Nb w w' ∧ w'.heap[Nb]? = some (.cells #[.int .i64 259] 3 (0, 0)) := by
  have HN := Lib.hid hn
  have HE := Lib.hid hne
  have C := Lib.hid (c17y Rb 2 _ w h (by decide) (by decide) (by decide))
  clear h hn
  go_enter Try.func22, Try.ntmps22
  go_wp2_with fail
  refine C.out.mono ?_
  rintro e w1 ⟨rfl, h1, h2⟩
  have hv : numL (List.take 2 [2, 1, 1, 0, 0, 0, 7]) = 258 := by decide
  have hd : List.drop 2 [(2 : Int), 1, 1, 0, 0, 0, 7] = [1, 0, 0, 0, 7] := rfl
  rw [hv]
  rw [hd] at h1
  have G1 := Lib.hid h2
  have D := Lib.hid (c16y Rb 1 _ w1 h1 (by decide) (by decide))
  clear h1 h2 hv hd
  go_wp2_with fail
  refine D.out.mono ?_
  rintro e w2 ⟨⟨A, c, rfl, _, _, _⟩, h1, h2⟩
  have hd : List.drop (4 + 1) [(1 : Int), 0, 0, 0, 7] = [] := rfl
  rw [hd] at h1
  have G2 := Lib.hid (G1.out.trans h2)
  have R2 := Lib.hid h1
  have N2 : Hid (w2.heap[Nb]? = some (.cells #[.int .i64 0] 3 (0, 0))) := (G2.out.block Nb (lt_of_block HN.out) (by simp; exact hne)).trans HN.out
  have n0 := cell_of_one N2.out
  have n1 := free_of_one N2.out
  clear h1 h2 hd
  go_wp2
  go_end0
  refine ⟨rfl, ?_, (St.of_grown G2.out).trans (St.of_var (grown_set _)), one_setCell N2.out⟩
  obtain ⟨A3, c3, h3⟩ := R2.out
  exact ⟨A3, c3, ⟨(heap_setCell_other w2 ⟨Nb, 0, none⟩ Rb _ (Ne.symm HE.out)).trans h3.one, h3.le, h3.cm, .inl rfl, h3.byt, h3.at'⟩⟩

theorem byt7 : Byt [7] := fun x hx => by
  have : x = 7 := by simpa using hx
  omega
theorem byt0 : Byt [0, 0, 0, 0, 0, 0, 0, 0] := by unfold Byt; decide
def pcells (p : Prt) : List Value := Value.int .i64 p.k :: Value.int .i64 p.n :: (bvals p.h ++ [Value.slice p.A p.len p.cap])
theorem pat_of {w : World} {B o : Nat} {cs : Array Value} {p : Prt} (hB : w.heap[B]? = some (.cells cs 31 (0, 0))) (hj : ∀ j, j < 11 → cs[o + j]? = (pcells p)[j]?) (h8 : p.h.length = 8) (hs : Src w p.A p.len p.b) (hb : Byt p.b) (hle : p.len ≤ p.cap) (hcm : p.cap ≤ 9223372036854775807) (hcn : p.A = none → p.cap = 0) (hhb : Byt p.h) : PAt w B o p := by
  refine ⟨?_, ?_, fun j hj8 => ?_, ?_, h8, hs, hb, hle, hcm, hcn, hhb⟩
  · rw [cell_of_row w B o cs 31 (0, 0) hB]; exact hj 0 (by decide)
  · rw [cell_of_row w B (o + 1) cs 31 (0, 0) hB]; exact hj 1 (by decide)
  · rw [cell_of_row w B (o + (2 + j)) cs 31 (0, 0) hB, hj (2 + j) (by omega)]
    rw [show 2 + j = j + 1 + 1 by omega]
    simp [pcells, bvals, List.getElem?_append, h8, hj8, List.getD]
  · rw [cell_of_row w B (o + 10) cs 31 (0, 0) hB, hj 10 (by decide)]
    simp [pcells, bvals, h8]
def P0 : Prt := ⟨2, 258, [0, 0, 0, 0, 0, 0, 0, 0], none, 0, 0, []⟩
def P1 (B : Nat) : Prt := ⟨9, 0, [0, 0, 0, 0, 0, 0, 0, 0], some ⟨B, 0, none⟩, 1, 1, [7]⟩
theorem bytA : Byt [2, 1, 1, 0, 0, 0, 7] := by unfold Byt; decide
set_option maxHeartbeats 1000000 in
theorem c8 (w : World) : Calls Try.prog 8 #[] w fun e w' => e = .returned (.bool true) ∧ Below w.heap.size w w' := by
  have hb1 : ∀ w : World, (Instr.build 31 #[(0, .int .i64 2), (1, .int .i64 258)]).run Try.prog w = .ok (.agg #[.int .i64 2, .int .i64 258, .int .u8 0, .int .u8 0, .int .u8 0, .int .u8 0, .int .u8 0, .int .u8 0, .int .u8 0, .int .u8 0, .slice none 0 0]) w := fun w => run_build w 31 _ _ (by kernel_rfl)
  have hb2 : ∀ (B : Nat) (w : World), (Instr.build 31 #[(0, .int .i64 9), (3, .slice (some ⟨B, 0, none⟩) 1 1)]).run Try.prog w = .ok (.agg #[.int .i64 9, .int .i64 0, .int .u8 0, .int .u8 0, .int .u8 0, .int .u8 0, .int .u8 0, .int .u8 0, .int .u8 0, .int .u8 0, .slice (some ⟨B, 0, none⟩) 1 1]) w := fun B w => run_build w 31 _ _ (by kernel_rfl)
  go_enter Try.func8, Try.ntmps8
  go_wp2_with fail
  have hP : Parts ((w.alloc (Obj.cells #[.int .u8 7] 5)).alloc (Obj.cells #[.int .i64 2, .int .i64 258, .int .u8 0, .int .u8 0, .int .u8 0, .int .u8 0, .int .u8 0, .int .u8 0, .int .u8 0, .int .u8 0, .slice none 0 0, .int .i64 9, .int .i64 0, .int .u8 0, .int .u8 0, .int .u8 0, .int .u8 0, .int .u8 0, .int .u8 0, .int .u8 0, .int .u8 0, .slice (some ⟨w.heap.size, 0, none⟩) 1 1] 31)) (some ⟨w.heap.size + 1, 0, none⟩) 2 (fun i => if i = 0 then P0 else P1 w.heap.size) := by
    have hB := heap_alloc_new (w.alloc (Obj.cells #[.int .u8 7] 5)) (Obj.cells #[.int .i64 2, .int .i64 258, .int .u8 0, .int .u8 0, .int .u8 0, .int .u8 0, .int .u8 0, .int .u8 0, .int .u8 0, .int .u8 0, .slice none 0 0, .int .i64 9, .int .i64 0, .int .u8 0, .int .u8 0, .int .u8 0, .int .u8 0, .int .u8 0, .int .u8 0, .int .u8 0, .int .u8 0, .slice (some ⟨w.heap.size, 0, none⟩) 1 1] 31)
    rw [show (w.alloc (Obj.cells #[.int .u8 7] 5)).heap.size = w.heap.size + 1 by simp] at hB
    refine .inr ⟨w.heap.size + 1, 0, rfl, fun i hi => ?_⟩
    match i, hi with
    | 0, _ =>
      refine pat_of (cs := _) hB (fun j hj => ?_) rfl (by exact ⟨rfl, .inl rfl⟩) (fun x hx => by cases hx) (Nat.le_refl _) (by show (0 : Nat) ≤ _; decide) (fun _ => rfl) byt0
      match j, hj with
      | 0, _ => rfl
      | 1, _ => rfl
      | 2, _ => rfl
      | 3, _ => rfl
      | 4, _ => rfl
      | 5, _ => rfl
      | 6, _ => rfl
      | 7, _ => rfl
      | 8, _ => rfl
      | 9, _ => rfl
      | 10, _ => rfl
    | 1, _ =>
      refine pat_of (cs := _) hB (fun j hj => ?_) rfl ?_ byt7 (Nat.le_refl _) (by show (1 : Nat) ≤ _; decide) (fun h => by cases h) byt0
      · match j, hj with
        | 0, _ => rfl
        | 1, _ => rfl
        | 2, _ => rfl
        | 3, _ => rfl
        | 4, _ => rfl
        | 5, _ => rfl
        | 6, _ => rfl
        | 7, _ => rfl
        | 8, _ => rfl
        | 9, _ => rfl
        | 10, _ => rfl
      · exact (src_one w 7).keep (fun k hk => Below.heap_alloc _ _ k hk)
  have hT : Tr 2 (fun i => if i = 0 then P0 else P1 w.heap.size) (fun i => if i = 0 then .ok [] else if i = 1 then .ok [2, 1] else .ok [2, 1, 1, 0, 0, 0, 7]) := by
    refine ⟨rfl, fun i hi => ?_⟩
    match i, hi with
    | 0, _ =>
      show Step (.ok []) P0 (.ok [2, 1])
      rw [show [(2 : Int), 1] = [] ++ enc P0 by decide]
      exact Step.more [] P0 (by decide) (by decide)
    | 1, _ =>
      show Step (.ok [2, 1]) (P1 w.heap.size) (.ok [2, 1, 1, 0, 0, 0, 7])
      have he : enc (P1 w.heap.size) = [1, 0, 0, 0, 7] := by
        show listB [7] = _
        decide
      rw [show [(2 : Int), 1, 1, 0, 0, 0, 7] = [2, 1] ++ enc (P1 w.heap.size) by rw [he]; rfl]
      exact Step.more [2, 1] (P1 w.heap.size) rfl (by rw [he]; decide)
  have C := c11 (some ⟨w.heap.size + 1, 0, none⟩) 2 2 _ _ _ (by decide) hP hT
  have B0 : Hid (Below w.heap.size w ((w.alloc (Obj.cells #[.int .u8 7] 5)).alloc (Obj.cells #[.int .i64 2, .int .i64 258, .int .u8 0, .int .u8 0, .int .u8 0, .int .u8 0, .int .u8 0, .int .u8 0, .int .u8 0, .int .u8 0, .slice none 0 0, .int .i64 9, .int .i64 0, .int .u8 0, .int .u8 0, .int .u8 0, .int .u8 0, .int .u8 0, .int .u8 0, .int .u8 0, .int .u8 0, .slice (some ⟨w.heap.size, 0, none⟩) 1 1] 31))) := ((Below.refl _ _).alloc (Nat.le_refl _) _).alloc (by simp) _
  clear hP hT
  refine C.mono ?_
  rintro e w1 ⟨⟨A, c, rfl, hr, hle, _⟩, hb⟩
  have B1 := Lib.hid (B0.out.trans (hb.mono (by simp; omega)))
  clear hb C
  obtain ⟨b, off, rfl, hcell⟩ : ∃ b off, A = some ⟨b, off, none⟩ ∧ ∀ i, i < 7 → w1.cell? ⟨b, off + i, none⟩ = some (.int .u8 ([2, 1, 1, 0, 0, 0, 7].getD i 0)) := by
    rcases hr with h | h
    · cases h
    · exact h
  have HC := Lib.hid hcell
  have HR := Lib.hid hr
  clear hcell hr
  rw [show [(2 : Int), 1, 1, 0, 0, 0, 7].length = 7 from rfl] at hle ⊢
  have hb : b < w1.heap.size := World.block_lt_of_cell? w1 ⟨b, off + 0, none⟩ (HC.out 0 (by decide))
  have N0 : Hid ((w1.alloc (Obj.cells #[.int .i64 0] 3)).heap[w1.heap.size]? = some (.cells #[.int .i64 0] 3 (0, 0))) := heap_alloc_new w1 _
  have Z0 : Hid ((w1.alloc (Obj.cells #[.int .i64 0] 3)).heap.size = w1.heap.size + 1) := Lib.hid (by simp)
  have S0 : Hid (Src (w1.alloc (Obj.cells #[.int .i64 0] 3)) (some ⟨b, off, none⟩) 7 [2, 1, 1, 0, 0, 0, 7]) := (src_row rfl HR.out).keep (fun k hk => Below.heap_alloc _ _ k hk)
  have D := Lib.hid (c12y 22 #[.pointer (some ⟨w1.heap.size, 0, none⟩)] (some ⟨b, off, none⟩) 7 c [2, 1, 1, 0, 0, 0, 7] [] w1.heap.size (some (.cells #[.int .i64 259] 3 (0, 0))) (w1.alloc (Obj.cells #[.int .i64 0] 3)) S0.out (fun h => by cases h) bytA (by decide) (by rw [Z0.out]; omega) (fun Rb w => by kernel_rfl)
    (fun Rb wr hr hge hbel => c22 Rb w1.heap.size wr hr (by rw [Z0.out] at hge; omega) ((hbel.block _ (by rw [Z0.out]; omega)).trans N0.out)))
  have hmf : ∀ (fn : Fn) (first cap : Array Value) (w : World), (Instr.makeFunc fn first cap).run Try.prog w = .ok (.func fn first cap) w := fun _ _ _ _ => rfl
  go_wp2_with fail
  refine D.out.mono ?_
  rintro e w2 ⟨rfl, hL⟩
  have hv := cell_of_one hL.var
  have hcv : (convert 25 9 (.slice (some ⟨b, off, none⟩) 7 c)).run Try.prog w2 = .ok (.string { data := #[2, 1, 1, 0, 0, 0, 7] }) w2 :=
    run_convert_bytes_arg w2 25 5 Try.underlying25 Try.underlying5 b off 7 c [2, 1, 1, 0, 0, 0, 7] rfl (fun i hi => by
      rw [hL.grown.cell_far ⟨b, off + i, none⟩ (by rw [Z0.out]; show b < _; omega) (by simp; omega), World.cell?_of_block (w := w1) (a := ⟨b, off + i, none⟩) (Below.heap_alloc _ _ b hb)]
      exact HC.out i hi) 9 Try.underlying9
  have B2 := Lib.hid (B1.out.trans ((Below.refl w.heap.size w1).alloc B1.out.size (Obj.cells #[.int .i64 0] 3)))
  have B3 : Hid (Below w.heap.size w w2) := B2.out.grown hL.grown B2.out.size (fun k e => by cases e; exact B1.out.size)
  clear hL
  go_wp2
  go_ret
  exact ⟨rfl, B3.out⟩
end Go.Proofs.Ytjkhbddnbpnmcaa
