/-
  The walk of WireBack.
-/
import Derived.Test.YtjkhbddnbpnmcaaW21
namespace Go.Proofs.Ytjkhbddnbpnmcaa
open Go.RowKit

/-- all pieces may be written, or there is a first one that may not -/
theorem first_bad (P : Nat → Prt) (len : Nat) : (∀ i, i < len → okP (P i) = true) ∨ ∃ j, j < len ∧ (∀ i, i < j → okP (P i) = true) ∧ okP (P j) = false := by
  induction len with
  | zero => exact .inl fun i hi => by omega
  | succ n ih =>
    rcases ih with h | ⟨j, hj, h1, h2⟩
    · cases ho : okP (P n) with
      | true =>
        refine .inl fun i hi => ?_
        rcases Nat.lt_or_ge i n with g | g
        · exact h i g
        · obtain rfl : i = n := by omega
          exact ho
      | false => exact .inr ⟨n, by omega, h, ho⟩
    · exact .inr ⟨j, by omega, h1, h2⟩
theorem enc_byt {w : World} {b o : Nat} {p : Prt} (h : PAt w b o p) : Byt (enc p) := by
  unfold enc
  split
  · exact h.hb
  · split
    · intro x hx
      unfold listB at hx
      rcases List.mem_append.1 hx with hx | hx
      · exact digs_byt _ _ x hx
      · exact h.byt x hx
    · exact digs_byt _ _
theorem encN_byt {w : World} {A : Option Addr} {len : Nat} {P : Nat → Prt} (h : Parts w A len P) (k : Nat) (hk : k ≤ len) : Byt (encN P k) := by
  induction k with
  | zero => intro x hx; cases hx
  | succ k ih =>
    rcases h with h | ⟨b, off, e, h'⟩
    · omega
    · intro x hx
      rw [encN] at hx
      rcases List.mem_append.1 hx with hx | hx
      · exact ih (by omega) x hx
      · exact enc_byt (h' k (by omega)) x hx

set_option maxHeartbeats 2000000 in
theorem walkBack (A : Option Addr) (len cap : Nat) (P : Nat → Prt) (w : World) (hm : len ≤ 140737488355328) (hp : Parts w A len P) (hs : ∀ i, i < len → (P i).len ≤ 140737488355000) :
    Calls Try.prog 4 #[.slice A len cap] w fun e w' => e = .returned (.bool true) ∧ Below w.heap.size w w' := by
  have HP := Lib.hid hp
  have HS := Lib.hid hs
  have B0 : Hid (Below w.heap.size w (w.alloc (Obj.cells #[.slice A len cap] 22))) := (Below.refl _ _).alloc (Nat.le_refl _) _
  have L0 : Hid ((w.alloc (Obj.cells #[.slice A len cap] 22)).heap[w.heap.size]? = some (.cells #[.slice A len cap] 22 (0, 0))) := heap_alloc_new w _
  have Z0 : Hid ((w.alloc (Obj.cells #[.slice A len cap] 22)).heap.size = w.heap.size + 1) := Lib.hid (by simp)
  have hmf : ∀ (fn : Fn) (first cap : Array Value) (w : World), (Instr.makeFunc fn first cap).run Try.prog w = .ok (.func fn first cap) w := fun _ _ _ _ => rfl
  clear hp hs
  go_enter Try.func4, Try.ntmps4
  go_wp2_with fail
  refine (c8 _).mono ?_
  rintro e w1 ⟨rfl, hb1⟩
  have B1 : Hid (Below w.heap.size w w1) := B0.out.trans (hb1.mono (by rw [Z0.out]; omega))
  have L1 : Hid (w1.heap[w.heap.size]? = some (.cells #[.slice A len cap] 22 (0, 0))) := (hb1.block _ (by rw [Z0.out]; omega)).trans L0.out
  have q1 := cell_of_one L1.out
  clear hb1
  have C := c9 A len cap P w1 hm (HP.out.below B1.out) (fun i hi => by have := HS.out i hi; omega)
  cases hf : fewB len P with
  | false =>
    rw [hf] at C
    have C' := Lib.hid C
    clear C hf
    go_wp2_with (go_at_call 9; refine C'.out.mono ?_; rintro e w' ⟨rfl, rfl⟩)
    go_ret
    exact ⟨rfl, B1.out⟩
  | true =>
    have h100 : len ≤ 100 := by unfold fewB at hf; simp at hf; exact hf.1
    have hT : tot P len ≤ 20000 := by unfold fewB at hf; simp at hf; exact hf.2
    rw [hf] at C
    have C' := Lib.hid C
    have HT := Lib.hid hT
    clear C hf hT
    obtain ⟨q8, qb, _⟩ := HP.out.h8
    rcases first_bad P len with hok | ⟨j, hj, hok, hbad⟩
    · have D := c11 A len cap P _ w1 h100 (HP.out.below B1.out) (tr_all P len hok q8 qb HT.out)
      have D' : Hid (Calls Try.prog 11 _ w1 fun e w' => (∃ A c, e = .returned (.tuple #[.slice A (encN P len).length c, .int .i64 0]) ∧ Row w' A (encN P len) ∧ (encN P len).length ≤ c ∧ (A = none → c = 0)) ∧ Below w1.heap.size w1 w') := D
      have hbl := encN_len P len hok q8 qb
      have HBL := Lib.hid hbl
      have HK := Lib.hid hok
      have HY := Lib.hid (encN_byt HP.out len (Nat.le_refl _))
      clear D hok q8 qb hbl
      go_wp2_with (first | (go_at_call 9; refine C'.out.mono ?_; rintro e w' ⟨rfl, rfl⟩) | (go_at_call 11; refine D'.out.mono ?_; rintro e w2 ⟨⟨A2, c2, rfl, hr2, _, hn2⟩, hb2⟩; have R2 := Lib.hid hr2; have N2 := Lib.hid hn2; have B2 : Hid (Below w.heap.size w w2) := B1.out.trans (hb2.mono B1.out.size); have L2 : Hid (w2.heap[w.heap.size]? = some (.cells #[.slice A len cap] 22 (0, 0))) := (hb2.block _ (lt_of_block L1.out)).trans L1.out; clear hr2 hn2 hb2) | fail)
      have NB : Hid ((w2.alloc (Obj.cells #[.bool true] 4)).heap[w2.heap.size]? = some (.cells #[.bool true] 4 (0, 0))) := heap_alloc_new w2 _
      have ZB : Hid ((w2.alloc (Obj.cells #[.bool true] 4)).heap.size = w2.heap.size + 1) := Lib.hid (by simp)
      have SB : Hid (Src (w2.alloc (Obj.cells #[.bool true] 4)) A2 (encN P len).length (encN P len)) := (src_row rfl R2.out).keep (fun k hk => Below.heap_alloc _ _ k hk)
      have BB : Hid (Below w.heap.size w (w2.alloc (Obj.cells #[.bool true] 4))) := B2.out.alloc B2.out.size _
      have LT : Hid (w.heap.size < w2.heap.size) := lt_of_block L2.out
      have D3 := Lib.hid (c12y 13 #[.pointer (some ⟨w.heap.size, 0, none⟩), .pointer (some ⟨w2.heap.size, 0, none⟩)] A2 (encN P len).length c2 (encN P len) [] w2.heap.size (some (.cells #[.bool true] 4 (0, 0))) (w2.alloc (Obj.cells #[.bool true] 4)) SB.out N2.out HY.out (by have := HBL.out; have := HT.out; omega) (by rw [ZB.out]; omega) (fun Rb w => by kernel_rfl)
        (fun Rb wr hr hge hbel => by
          rw [ZB.out] at hge hbel
          have hF : Far w Rb w.heap.size w2.heap.size := ⟨Nat.le_refl _, Nat.le_of_lt LT.out, by have := LT.out; omega, by omega, by have := LT.out; omega⟩
          have hbox : Box w Rb w.heap.size w2.heap.size (.slice A len cap) 22 (.bool true) 4 (encF P 0 len) wr := by
            refine ⟨BB.out.trans (hbel.mono (by have := LT.out; omega)), ?_, ?_, by rw [encF_all]; exact hr⟩
            · exact (hbel.block _ (by have := LT.out; omega)).trans ((Below.heap_alloc _ _ _ LT.out).trans L2.out)
            · exact (hbel.block _ (by omega)).trans NB.out
          refine (c13 w wr Rb w.heap.size w2.heap.size A len cap P h100 hF HP.out HK.out (by have := HBL.out; have := HT.out; omega) hbox).mono fun e w' h => ⟨h.1, h.2.1.rd, h.2.2, h.2.1.v⟩))
      go_wp2_with fail
      refine D3.out.mono ?_
      rintro e w3 ⟨rfl, hL⟩
      have v3 := cell_of_one hL.var
      have B3 : Hid (Below w.heap.size w w3) := BB.out.grown hL.grown BB.out.size (fun k e => by cases e; exact Nat.le_of_lt LT.out)
      clear hL
      go_wp2
      go_ret
      exact ⟨rfl, B3.out⟩
    · have D := c11 A len cap P _ w1 h100 (HP.out.below B1.out) (tr_bad P len j hj hok hbad q8 qb HT.out)
      rw [if_neg (by omega)] at D
      have D' : Hid (Calls Try.prog 11 _ w1 fun e w' => e = .returned (.tuple #[.slice none 0 0, .int .i64 1]) ∧ Below w1.heap.size w1 w') := D
      clear D hok hbad q8 qb
      go_wp2_with (first | (go_at_call 9; refine C'.out.mono ?_; rintro e w' ⟨rfl, rfl⟩) | (go_at_call 11; refine D'.out.mono ?_; rintro e w2 ⟨rfl, hb2⟩; have B2 : Hid (Below w.heap.size w w2) := B1.out.trans (hb2.mono B1.out.size); clear hb2))
      go_ret
      exact ⟨rfl, B2.out⟩
end Go.Proofs.Ytjkhbddnbpnmcaa
