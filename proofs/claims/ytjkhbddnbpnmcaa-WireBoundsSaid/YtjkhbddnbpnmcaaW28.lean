/-
  The walk of WireBounds.
-/
import Derived.Test.YtjkhbddnbpnmcaaW27
namespace Go.Proofs.Ytjkhbddnbpnmcaa
open Go.RowKit

/-- as many noughts as go in, as a piece; one byte more -/
def PF (F n : Nat) : Prt := ⟨9, 0, [0, 0, 0, 0, 0, 0, 0, 0], some ⟨F, 0, none⟩, n, n, List.replicate n 0⟩
def PO : Prt := ⟨1, 0, [0, 0, 0, 0, 0, 0, 0, 0], none, 0, 0, []⟩
theorem pf_len (F n : Nat) : (enc (PF F n)).length = 4 + n := by
  rw [enc_list rfl, list_len]
  show 4 + (List.replicate n (0 : Int)).length = _
  rw [List.length_replicate]
theorem byt_rep (n : Nat) : Byt (List.replicate n 0) := fun x hx => by
  have := List.eq_of_mem_replicate hx
  omega
def ones (v : Value) : List Value := [.int .i64 9, .int .i64 0, .int .u8 0, .int .u8 0, .int .u8 0, .int .u8 0, .int .u8 0, .int .u8 0, .int .u8 0, .int .u8 0, v]
theorem pf_cells (F n j : Nat) (hj : j < 11) : (ones (.slice (some ⟨F, 0, none⟩) n n))[j]? = (pcells (PF F n))[j]? := by
  match j, hj with
  | 0, _ => rfl
  | 1, _ => rfl
  | 2, _ => rfl
  | 3, _ => rfl
  | 4, _ => rfl
  | 5, _ => rfl
  | 6, _ => rfl
  | 7, _ => rfl
  | 8, _ => rfl
  | 9, _ => rfl
  | 10, _ => rfl
theorem pf_at {w : World} {B o F n : Nat} {cs : Array Value} (hB : w.heap[B]? = some (.cells cs 31 (0, 0))) (hj : ∀ j, j < 11 → cs[o + j]? = (ones (.slice (some ⟨F, 0, none⟩) n n))[j]?) (hs : Src w (some ⟨F, 0, none⟩) n (List.replicate n 0)) (hn : n ≤ 9223372036854775807) : PAt w B o (PF F n) :=
  pat_of hB (fun j h => (hj j h).trans (pf_cells F n j h)) rfl hs (byt_rep n) (Nat.le_refl _) hn (fun h => by cases h) byt0
theorem po_at {w : World} {B o : Nat} {cs : Array Value} (hB : w.heap[B]? = some (.cells cs 31 (0, 0))) (hj : ∀ j, j < 11 → cs[o + j]? = (pcells PO)[j]?) : PAt w B o PO :=
  pat_of hB hj rfl ⟨rfl, .inl rfl⟩ (fun x hx => by cases hx) (Nat.le_refl _) (by decide) (fun _ => rfl) byt0
theorem tr_one (F n : Nat) (hn : n = 131068) : Tr 1 (fun _ => PF F n) (fun i => if i = 0 then .ok [] else .ok (enc (PF F n))) := by
  refine ⟨rfl, fun i hi => ?_⟩
  obtain rfl : i = 0 := by omega
  show Step (.ok []) (PF F n) (.ok (enc (PF F n)))
  have := Step.more [] (PF F n) rfl (by rw [pf_len]; simp; omega)
  simpa using this
theorem tr_two (F n : Nat) (hn : n = 131068) : Tr 2 (fun i => if i = 0 then PF F n else PO) (fun i => if i = 0 then .ok [] else if i = 1 then .ok (enc (PF F n)) else .er 3) := by
  refine ⟨rfl, fun i hi => ?_⟩
  match i, hi with
  | 0, _ =>
    show Step (.ok []) (PF F n) (.ok (enc (PF F n)))
    have := Step.more [] (PF F n) rfl (by rw [pf_len]; simp; omega)
    simpa using this
  | 1, _ =>
    show Step (.ok (enc (PF F n))) PO (.er 3)
    refine Step.long _ PO (by decide) (by decide) (by decide) (by rw [pf_len]; omega) ?_
    rw [pf_len, show (enc PO).length = 1 by decide]
    omega

theorem cFull (w : World) (F n : Nat) (hn : n = 131068) (hs : Src w (some ⟨F, 0, none⟩) n (List.replicate n 0)) :
    Calls Try.prog 11 #[.slice (some ⟨w.heap.size, 0, none⟩) 1 1] (w.alloc (Obj.cells #[.int .i64 9, .int .i64 0, .int .u8 0, .int .u8 0, .int .u8 0, .int .u8 0, .int .u8 0, .int .u8 0, .int .u8 0, .int .u8 0, .slice (some ⟨F, 0, none⟩) n n] 31)) fun e w' => (∃ A c, e = .returned (.tuple #[.slice A (4 + n) c, .int .i64 0])) ∧ Below (w.alloc (Obj.cells #[.int .i64 9, .int .i64 0, .int .u8 0, .int .u8 0, .int .u8 0, .int .u8 0, .int .u8 0, .int .u8 0, .int .u8 0, .int .u8 0, .slice (some ⟨F, 0, none⟩) n n] 31)).heap.size (w.alloc (Obj.cells #[.int .i64 9, .int .i64 0, .int .u8 0, .int .u8 0, .int .u8 0, .int .u8 0, .int .u8 0, .int .u8 0, .int .u8 0, .int .u8 0, .slice (some ⟨F, 0, none⟩) n n] 31)) w' := by
  have h3 : Src (w.alloc (Obj.cells #[.int .i64 9, .int .i64 0, .int .u8 0, .int .u8 0, .int .u8 0, .int .u8 0, .int .u8 0, .int .u8 0, .int .u8 0, .int .u8 0, .slice (some ⟨F, 0, none⟩) n n] 31)) (some ⟨F, 0, none⟩) n (List.replicate n 0) := hs.keep (fun k hk => Below.heap_alloc _ _ k hk)
  have P3 : Parts (w.alloc (Obj.cells #[.int .i64 9, .int .i64 0, .int .u8 0, .int .u8 0, .int .u8 0, .int .u8 0, .int .u8 0, .int .u8 0, .int .u8 0, .int .u8 0, .slice (some ⟨F, 0, none⟩) n n] 31)) (some ⟨w.heap.size, 0, none⟩) 1 (fun _ => PF F n) := by
    refine .inr ⟨w.heap.size, 0, rfl, fun i hi => ?_⟩
    obtain rfl : i = 0 := by omega
    refine pf_at (heap_alloc_new w _) (fun j hj => ?_) h3 (by omega)
    match j, hj with
      | 0, _ => rfl
      | 1, _ => rfl
      | 2, _ => rfl
      | 3, _ => rfl
      | 4, _ => rfl
      | 5, _ => rfl
      | 6, _ => rfl
      | 7, _ => rfl
      | 8, _ => rfl
      | 9, _ => rfl
      | 10, _ => rfl
  refine (c11 (some ⟨w.heap.size, 0, none⟩) 1 1 _ _ _ (by decide) P3 (tr_one F n hn)).mono fun e w' h => ⟨?_, h.2⟩
  have h1 : Res w' e (.ok (enc (PF F n))) := h.1
  obtain ⟨A, c, e1, _⟩ := h1
  rw [pf_len] at e1
  exact ⟨A, c, e1⟩
theorem cMore (w : World) (F n : Nat) (hn : n = 131068) (hs : Src w (some ⟨F, 0, none⟩) n (List.replicate n 0)) :
    Calls Try.prog 11 #[.slice (some ⟨w.heap.size, 0, none⟩) 2 2] (w.alloc (Obj.cells #[.int .i64 9, .int .i64 0, .int .u8 0, .int .u8 0, .int .u8 0, .int .u8 0, .int .u8 0, .int .u8 0, .int .u8 0, .int .u8 0, .slice (some ⟨F, 0, none⟩) n n, .int .i64 1, .int .i64 0, .int .u8 0, .int .u8 0, .int .u8 0, .int .u8 0, .int .u8 0, .int .u8 0, .int .u8 0, .int .u8 0, .slice none 0 0] 31)) fun e w' => e = .returned (.tuple #[.slice none 0 0, .int .i64 3]) ∧ Below (w.alloc (Obj.cells #[.int .i64 9, .int .i64 0, .int .u8 0, .int .u8 0, .int .u8 0, .int .u8 0, .int .u8 0, .int .u8 0, .int .u8 0, .int .u8 0, .slice (some ⟨F, 0, none⟩) n n, .int .i64 1, .int .i64 0, .int .u8 0, .int .u8 0, .int .u8 0, .int .u8 0, .int .u8 0, .int .u8 0, .int .u8 0, .int .u8 0, .slice none 0 0] 31)).heap.size (w.alloc (Obj.cells #[.int .i64 9, .int .i64 0, .int .u8 0, .int .u8 0, .int .u8 0, .int .u8 0, .int .u8 0, .int .u8 0, .int .u8 0, .int .u8 0, .slice (some ⟨F, 0, none⟩) n n, .int .i64 1, .int .i64 0, .int .u8 0, .int .u8 0, .int .u8 0, .int .u8 0, .int .u8 0, .int .u8 0, .int .u8 0, .int .u8 0, .slice none 0 0] 31)) w' := by
  have h3 : Src (w.alloc (Obj.cells #[.int .i64 9, .int .i64 0, .int .u8 0, .int .u8 0, .int .u8 0, .int .u8 0, .int .u8 0, .int .u8 0, .int .u8 0, .int .u8 0, .slice (some ⟨F, 0, none⟩) n n, .int .i64 1, .int .i64 0, .int .u8 0, .int .u8 0, .int .u8 0, .int .u8 0, .int .u8 0, .int .u8 0, .int .u8 0, .int .u8 0, .slice none 0 0] 31)) (some ⟨F, 0, none⟩) n (List.replicate n 0) := hs.keep (fun k hk => Below.heap_alloc _ _ k hk)
  have P3 : Parts (w.alloc (Obj.cells #[.int .i64 9, .int .i64 0, .int .u8 0, .int .u8 0, .int .u8 0, .int .u8 0, .int .u8 0, .int .u8 0, .int .u8 0, .int .u8 0, .slice (some ⟨F, 0, none⟩) n n, .int .i64 1, .int .i64 0, .int .u8 0, .int .u8 0, .int .u8 0, .int .u8 0, .int .u8 0, .int .u8 0, .int .u8 0, .int .u8 0, .slice none 0 0] 31)) (some ⟨w.heap.size, 0, none⟩) 2 (fun i => if i = 0 then PF F n else PO) := by
    refine .inr ⟨w.heap.size, 0, rfl, fun i hi => ?_⟩
    match i, hi with
    | 0, _ =>
      refine pf_at (heap_alloc_new w _) (fun j hj => ?_) h3 (by omega)
      match j, hj with
      | 0, _ => rfl
      | 1, _ => rfl
      | 2, _ => rfl
      | 3, _ => rfl
      | 4, _ => rfl
      | 5, _ => rfl
      | 6, _ => rfl
      | 7, _ => rfl
      | 8, _ => rfl
      | 9, _ => rfl
      | 10, _ => rfl
    | 1, _ =>
      refine po_at (heap_alloc_new w _) (fun j hj => ?_)
      match j, hj with
      | 0, _ => rfl
      | 1, _ => rfl
      | 2, _ => rfl
      | 3, _ => rfl
      | 4, _ => rfl
      | 5, _ => rfl
      | 6, _ => rfl
      | 7, _ => rfl
      | 8, _ => rfl
      | 9, _ => rfl
      | 10, _ => rfl
  refine (c11 (some ⟨w.heap.size, 0, none⟩) 2 2 _ _ _ (by decide) P3 (tr_two F n hn)).mono fun e w' h => ⟨?_, h.2⟩
  have h1 : Res w' e (.er 3) := h.1
  exact h1

set_option maxRecDepth 100000 in
set_option maxHeartbeats 2000000 in
theorem walkBounds (w : World) : Calls Try.prog 6 #[] w fun e w' => e = .returned (.bool true) ∧ Below w.heap.size w w' := by
  obtain ⟨n, hn⟩ : ∃ n : Nat, n = 131068 := ⟨_, rfl⟩
  obtain ⟨i0, hi, hz0, hz1, hz2⟩ := info_parts info5
  have HI := Lib.hid hi
  have HI0 := Lib.hid hz0
  have HI1 := Lib.hid hz1
  have HI2 := Lib.hid hz2
  have HN := Lib.hid hn
  clear hi hz0 hz1 hz2 hn
  have hb1 : ∀ (B : Nat) (w : World), (Instr.build 31 #[(0, .int .i64 9), (3, .slice (some ⟨B, 0, none⟩) n n)]).run Try.prog w = .ok (.agg #[.int .i64 9, .int .i64 0, .int .u8 0, .int .u8 0, .int .u8 0, .int .u8 0, .int .u8 0, .int .u8 0, .int .u8 0, .int .u8 0, .slice (some ⟨B, 0, none⟩) n n]) w := fun B w => run_build w 31 _ _ (by kernel_rfl)
  have hb2 : ∀ w : World, (Instr.build 31 #[(0, .int .i64 1)]).run Try.prog w = .ok (.agg #[.int .i64 1, .int .i64 0, .int .u8 0, .int .u8 0, .int .u8 0, .int .u8 0, .int .u8 0, .int .u8 0, .int .u8 0, .int .u8 0, .slice none 0 0]) w := fun w => run_build w 31 _ _ (by kernel_rfl)
  go_enter Try.func6, Try.ntmps6
  go_wp2_with fail
  refine (c8 w).mono ?_
  rintro e w1 ⟨rfl, hbl⟩
  have B1 := Lib.hid hbl
  clear hbl
  go_wp2_with (first | (refine wpList_make_full _ rfl (.const (.int .i64 131068)) (.const (.int .i64 131068)) 25 rfl w1.heap.size 5 i0 (.int .u8 0) 1 Try.underlying25 HI.out HI0.out HI1.out .i64 .i64 131068 131068 n rfl rfl (by rw [HN.out]; rfl) (by rw [HN.out]; rfl) (by rw [HI2.out, HN.out]; decide) (by rw [HN.out]; unfold maxLen; decide) (Nat.le_refl _) ?_; intro w2 hown hg; have OW := Lib.hid hown; have GR := Lib.hid hg; clear hown hg) | fail)
  have B2 : Hid (Below w.heap.size w w2) := B1.out.grown GR.out B1.out.size (fun k e => by cases e)
  have S2 : Hid (Src w2 (some ⟨w1.heap.size, 0, none⟩) n (List.replicate n 0)) := by
    have h := OW.out
    rw [show (Value.int IntKind.u8 0).cells = #[Value.int .u8 0] from rfl, Nat.mul_one, toList_madeCells_one] at h
    exact (src_own (xs := List.replicate n 0) (by simpa [bvals, List.map_replicate] using h)).1
  have C1 := Lib.hid (cFull w2 w1.heap.size n HN.out S2.out)
  have B3 : Hid (Below w.heap.size w (w2.alloc (Obj.cells #[.int .i64 9, .int .i64 0, .int .u8 0, .int .u8 0, .int .u8 0, .int .u8 0, .int .u8 0, .int .u8 0, .int .u8 0, .int .u8 0, .slice (some ⟨w1.heap.size, 0, none⟩) n n] 31))) := B2.out.alloc B2.out.size _
  refine C1.out.mono ?_
  rintro e w4 ⟨⟨A4, c4, rfl⟩, hb4⟩
  have B4 : Hid (Below w.heap.size w w4) := B3.out.trans (hb4.mono B3.out.size)
  have S4 : Hid (Src w4 (some ⟨w1.heap.size, 0, none⟩) n (List.replicate n 0)) := (S2.out.keep (fun k hk => Below.heap_alloc _ _ k hk)).keep hb4.block
  clear hb4 B3
  have C2 := Lib.hid (cMore w4 w1.heap.size n HN.out S4.out)
  have B5 : Hid (Below w.heap.size w (w4.alloc (Obj.cells #[.int .i64 9, .int .i64 0, .int .u8 0, .int .u8 0, .int .u8 0, .int .u8 0, .int .u8 0, .int .u8 0, .int .u8 0, .int .u8 0, .slice (some ⟨w1.heap.size, 0, none⟩) n n, .int .i64 1, .int .i64 0, .int .u8 0, .int .u8 0, .int .u8 0, .int .u8 0, .int .u8 0, .int .u8 0, .int .u8 0, .int .u8 0, .slice none 0 0] 31))) := B4.out.alloc B4.out.size _
  have hmf : ∀ (fn : Fn) (first cap : Array Value) (w : World), (Instr.makeFunc fn first cap).run Try.prog w = .ok (.func fn first cap) w := fun _ _ _ _ => rfl
  obtain ⟨n2, hn2⟩ : ∃ n : Nat, n = 131073 := ⟨_, rfl⟩
  have HN2 := Lib.hid hn2
  clear hn2
  go_wp2_with (first | (go_at_call 11; refine C2.out.mono ?_; rintro e w6 ⟨rfl, hb6⟩; have B6 : Hid (Below w.heap.size w w6) := B5.out.trans (hb6.mono B5.out.size); clear hb6) | (refine wpList_make_full _ rfl (.const (.int .i64 131073)) (.const (.int .i64 131073)) 25 rfl (w6.heap.size + 1) 5 i0 (.int .u8 0) 1 Try.underlying25 HI.out HI0.out HI1.out .i64 .i64 131073 131073 n2 rfl rfl (by rw [HN2.out]; rfl) (by rw [HN2.out]; rfl) (by rw [HI2.out, HN2.out]; decide) (by rw [HN2.out]; unfold maxLen; decide) (by simp) ?_; intro w8 hown8 hg8; have G8 := Lib.hid hg8; clear hown8 hg8) | fail)
  have B7 : Hid (Below w.heap.size w (w6.alloc (Obj.cells #[.bool false] 4))) := B6.out.alloc B6.out.size _
  have B8 : Hid (Below w.heap.size w w8) := B7.out.grown G8.out B7.out.size (fun k e => by cases e)
  have Z8 : Hid (w6.heap.size < w8.heap.size) := by have := G8.out.size; simp at this; show w6.heap.size < w8.heap.size; omega
  have F8 : Hid (w8.heap[w6.heap.size]? = some (.cells #[.bool false] 4 (0, 0))) := (G8.out.block w6.heap.size (by simp) (by simp)).trans (heap_alloc_new w6 _)
  refine (c12l (some ⟨w6.heap.size + 1, 0, none⟩) n2 n2 _ w8 (by have := HN2.out; omega) (by have := HN2.out; omega)).mono ?_
  rintro e w' ⟨rfl, rfl⟩
  go_wp2_with fail
  refine (c12n none 0 0 [] w8 ⟨rfl, .inl rfl⟩ (fun _ => rfl) (fun x hx => by cases hx) (by decide)).mono ?_
  rintro e w9 ⟨rfl, hb9⟩
  have B9 : Hid (Below w.heap.size w w9) := B8.out.trans (hb9.mono B8.out.size)
  have F9 : Hid (w9.heap[w6.heap.size]? = some (.cells #[.bool false] 4 (0, 0))) := (hb9.block _ Z8.out).trans F8.out
  clear hb9
  rw [if_pos rfl]
  have Z9 : Hid (w6.heap.size < w9.heap.size) := lt_of_block F9.out
  go_wp2_with fail
  refine (c12n (some ⟨w9.heap.size, 0, none⟩) 1 1 [1] _ (src_one w9 1) (fun h => by cases h) (by unfold Byt; decide) (by decide)).mono ?_
  rintro e wa ⟨rfl, hba⟩
  have BA : Hid (Below w.heap.size w wa) := (B9.out.alloc B9.out.size (Obj.cells #[.int .u8 1] 5)).trans (hba.mono (by have := B9.out.size; simp; omega))
  have FA : Hid (wa.heap[w6.heap.size]? = some (.cells #[.bool false] 4 (0, 0))) := (hba.block _ (by have := Z9.out; simp; omega)).trans ((Below.heap_alloc _ _ _ Z9.out).trans F9.out)
  clear hba
  rw [if_neg (by simp)]
  have fa := cell_of_one FA.out
  have hln : (4 : Int) + (n : Int) = 131072 := by have := HN.out; omega
  go_wp2
  go_ret
  exact ⟨rfl, BA.out⟩
end Go.Proofs.Ytjkhbddnbpnmcaa
