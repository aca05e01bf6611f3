/-
  The walk of WireCuts.
-/
import Derived.Test.YtjkhbddnbpnmcaaW23
namespace Go.Proofs.Ytjkhbddnbpnmcaa
open Go.RowKit

theorem byt_cat {xs ys : List Int} (h : Byt xs) (k : Byt ys) : Byt (xs ++ ys) := fun x hx => by
  rcases List.mem_append.1 hx with hx | hx
  · exact h x hx
  · exact k x hx
theorem left_below {vb : Nat} {o : Option Obj} {w w' : World} (h : Left vb o w w') (ho : w.heap[vb]? = o) : Below w.heap.size w w' := by
  refine ⟨h.grown.os, h.grown.tape, h.grown.output, h.grown.size, fun k hk => ?_⟩
  by_cases hv : k = vb
  · rw [hv, h.var, ho]
  · exact h.grown.block k hk (by simp; exact hv)
set_option maxRecDepth 100000 in
set_option maxHeartbeats 4000000 in
theorem walkCuts (A : Option Addr) (len cap n : Nat) (P : Nat → Prt) (w : World) (hm : len ≤ 140737488355328) (hn : n < 65536) (hp : Parts w A len P) (hs : ∀ i, i < len → (P i).len ≤ 140737488355000) :
    Calls Try.prog 7 #[.slice A len cap, .int .u16 n] w fun e w' => e = .returned (.bool true) ∧ Below w.heap.size w w' := by
  have HP := Lib.hid hp
  have HS := Lib.hid hs
  have B0 : Hid (Below w.heap.size w (w.alloc (Obj.cells #[.slice A len cap] 22))) := (Below.refl _ _).alloc (Nat.le_refl _) _
  have L0 : Hid ((w.alloc (Obj.cells #[.slice A len cap] 22)).heap[w.heap.size]? = some (.cells #[.slice A len cap] 22 (0, 0))) := heap_alloc_new w _
  have Z0 : Hid ((w.alloc (Obj.cells #[.slice A len cap] 22)).heap.size = w.heap.size + 1) := Lib.hid (by simp)
  have hmf : ∀ (fn : Fn) (first cap : Array Value) (w : World), (Instr.makeFunc fn first cap).run Try.prog w = .ok (.func fn first cap) w := fun _ _ _ _ => rfl
  clear hp hs
  go_enter Try.func7, Try.ntmps7
  go_wp2_with fail
  refine (c8 _).mono ?_
  rintro e w1 ⟨rfl, hb1⟩
  have B1 : Hid (Below w.heap.size w w1) := B0.out.trans (hb1.mono (by rw [Z0.out]; omega))
  have L1 : Hid (w1.heap[w.heap.size]? = some (.cells #[.slice A len cap] 22 (0, 0))) := (hb1.block _ (by rw [Z0.out]; omega)).trans L0.out
  have q1 := cell_of_one L1.out
  clear hb1
  have C := c9 A len cap P w1 hm (HP.out.below B1.out) (fun i hi => by have := HS.out i hi; omega)
  cases hf : fewB len P with
  | false =>
    rw [hf] at C
    have C' := Lib.hid C
    clear C hf
    go_wp2_with (go_at_call 9; refine C'.out.mono ?_; rintro e w' ⟨rfl, rfl⟩)
    go_ret
    exact ⟨rfl, B1.out⟩
  | true =>
    have h100 : len ≤ 100 := by unfold fewB at hf; simp at hf; exact hf.1
    have hT : tot P len ≤ 20000 := by unfold fewB at hf; simp at hf; exact hf.2
    rw [hf] at C
    have C' := Lib.hid C
    have HT := Lib.hid hT
    have HS2 : Hid (∀ i, i < len → (P i).len < 4294967296) := fun i hi => by
      have h1 := HT.out
      have h2 := tot_mono P (show i + 1 ≤ len by omega)
      rw [tot] at h2
      omega
    clear C hf hT
    obtain ⟨q8, qb, _⟩ := HP.out.h8
    rcases first_bad P len with hok | ⟨j, hj, hok, hbad⟩
    · have D := c11 A len cap P _ w1 h100 (HP.out.below B1.out) (tr_all P len hok q8 qb HT.out)
      have D' : Hid (Calls Try.prog 11 _ w1 fun e w' => (∃ A c, e = .returned (.tuple #[.slice A (encN P len).length c, .int .i64 0]) ∧ Row w' A (encN P len) ∧ (encN P len).length ≤ c ∧ (A = none → c = 0)) ∧ Below w1.heap.size w1 w') := D
      have hbl := encN_len P len hok q8 qb
      have HBL := Lib.hid hbl
      have HK := Lib.hid hok
      have HY := Lib.hid (encN_byt HP.out len (Nat.le_refl _))
      clear D hok q8 qb
      obtain ⟨bs, hbs⟩ : ∃ bs, encN P len = bs := ⟨_, rfl⟩
      have HE := Lib.hid hbs
      rw [hbs] at D' HBL HY hbl
      clear hbs
      have hbl2 : bs.length ≤ 20000 := Nat.le_trans hbl HT.out
      clear hbl
      obtain ⟨L, hL⟩ : ∃ L, bs.length = L := ⟨_, rfl⟩
      have HL := Lib.hid hL
      rw [hL] at D' hbl2
      clear hL
      by_cases hz : L = 0
      · subst hz
        go_wp2_with (first | (go_at_call 9; refine C'.out.mono ?_; rintro e w' ⟨rfl, rfl⟩) | (go_at_call 11; refine D'.out.mono ?_; rintro e w2 ⟨⟨A2, c2, rfl, _, _, _⟩, hb2⟩; have B2 : Hid (Below w.heap.size w w2) := B1.out.trans (hb2.mono B1.out.size); clear hb2))
        go_ret
        exact ⟨rfl, B2.out⟩
      · obtain ⟨m, hmm⟩ : ∃ m : Nat, n % L = m := ⟨_, rfl⟩
        have hmL : m < L := by rw [← hmm]; exact Nat.mod_lt _ (by omega)
        have hk : (n : Int) % (L : Int) = (m : Int) := by rw [← hmm]; simp
        have hL0 : ¬ (L : Int) = 0 := by omega
        have HM := Lib.hid hmm
        clear hmm
        go_wp2_with (first | (go_at_call 9; refine C'.out.mono ?_; rintro e w' ⟨rfl, rfl⟩) | fail)
        refine D'.out.mono ?_
        rintro e w2 ⟨⟨A2, c2, rfl, hr2, hc2, _⟩, hb2⟩
        have B2 : Hid (Below w.heap.size w w2) := B1.out.trans (hb2.mono B1.out.size)
        have L2 : Hid (w2.heap[w.heap.size]? = some (.cells #[.slice A len cap] 22 (0, 0))) := (hb2.block _ (lt_of_block L1.out)).trans L1.out
        have LT : Hid (w.heap.size < w2.heap.size) := lt_of_block L2.out
        obtain ⟨b2, off2, rfl, hcell⟩ : ∃ b off, A2 = some ⟨b, off, none⟩ ∧ ∀ i, i < bs.length → w2.cell? ⟨b, off + i, none⟩ = some (.int .u8 (bs.getD i 0)) := by
          rcases hr2 with h | h
          · rw [h] at HL; have := HL.out; simp at this; omega
          · exact h
        have R2 := Lib.hid hr2
        have SM : Hid (Src w2 (some ⟨b2, off2, none⟩) m (bs.take m)) := src_row (by rw [List.length_take]; have := HL.out; omega) (row_take m hr2)
        clear hb2 hr2 hcell
        have hb1 : (0 : Int) ≤ (m : Int) := by omega
        have hb2 : (m : Int) ≤ (c2 : Int) := by omega
        have D3 := Lib.hid (c12s 21 #[.pointer (some ⟨w.heap.size, 0, none⟩)] (some ⟨b2, off2, none⟩) m c2 (bs.take m) w.heap.size (some (.cells #[.slice A len cap] 22 (0, 0))) w2 SM.out (fun h => by cases h) (byt_take HY.out m) (by omega) LT.out (fun Rb w => by kernel_rfl)
          (fun Rb wr hr hge hbel => by
            have hf2 : w.heap.size < Rb := Nat.lt_of_lt_of_le LT.out hge
            have hbx : Bx w Rb w.heap.size (.slice A len cap) 22 ((encF P 0 len).take m) wr := ⟨B2.out.trans (hbel.mono (Nat.le_of_lt LT.out)), (hbel.block _ LT.out).trans L2.out, by rw [encF_all, HE.out]; exact hr⟩
            exact (c21s w wr Rb w.heap.size A len cap P m h100 (Nat.le_refl _) hf2 HP.out HK.out HS2.out hbx (by rw [encF_all, HE.out, HL.out]; exact hmL)).mono fun e w' h => ⟨h.1, St.of_grown h.2.2, h.2.1⟩))
        go_wp2_with fail
        refine D3.out.mono ?_
        rintro e w3 ⟨rfl, hL3⟩
        have BW : Hid (Below w2.heap.size w2 w3) := left_below hL3 L2.out
        clear hL3
        have B3 : Hid (Below w.heap.size w w3) := B2.out.trans (BW.out.mono B2.out.size)
        have L3 : Hid (w3.heap[w.heap.size]? = some (.cells #[.slice A len cap] 22 (0, 0))) := (BW.out.block _ LT.out).trans L2.out
        have LT3 : Hid (w.heap.size < w3.heap.size) := lt_of_block L3.out
        have S3 : Hid (Src (w3.alloc (Obj.cells #[] 5)) (some ⟨b2, off2, none⟩) L bs) := (src_row HL.out (row_belowS R2.out BW.out)).keep (fun k hk => Below.heap_alloc _ _ k hk)
        obtain ⟨i0, hi, hz0, hz1, hz2⟩ := info_parts info5
        have HI := Lib.hid hi
        have HI0 := Lib.hid hz0
        have HI1 := Lib.hid hz1
        have HI2 := Lib.hid hz2
        clear hi hz0 hz1 hz2 hk hL0 hb1 hb2 hc2 hmL
        go_wp2_with (first
          | (at_builtin; refine wpList_app rfl (.tmp 37) (.tmp 38) 25 rfl i0 Try.underlying25 HI.out HI0.out HI1.out HI2.out w3.heap.size 0 (.slice (some ⟨w3.heap.size, 0, none⟩) 0 0) [] rfl (own_none w3) (some ⟨b2, off2, none⟩) L c2 bs rfl S3.out (fun h => by cases h) (by unfold maxLen; omega) (by omega) (by simp) ?_; intro A4 c4 w4 hown4 hg4 _; rw [Nat.zero_add, List.nil_append] at hown4; have O4 := Lib.hid hown4; have B4 : Hid (Below w3.heap.size w3 w4) := ((Below.refl w3.heap.size w3).alloc (Nat.le_refl _) (Obj.cells #[] 5)).grown hg4 (by simp) (fun q hq => by simp [Value.ownBlock] at hq; omega); clear hown4 hg4)
          | (at_builtin; refine wpList_app rfl (.tmp 39) (.tmp 40) 25 rfl i0 Try.underlying25 HI.out HI0.out HI1.out HI2.out w3.heap.size L (.slice A4 L c4) bs rfl (O4.out.alloc _) (some ⟨w4.heap.size, 0, none⟩) 1 1 [0] rfl (src_one w4 0) (fun h => by cases h) (by unfold maxLen; omega) (by omega) (by have := B4.out.size; simp; omega) ?_; intro A5 c5 w5 hown5 hg5 _; have O5 := Lib.hid hown5; have B5 : Hid (Below w3.heap.size w3 w5) := (B4.out.alloc B4.out.size (Obj.cells #[.int .u8 0] 5)).grown hg5 (by have := B4.out.size; simp; omega) (own_base O4.out); clear hown5 hg5)
          | fail)
        have S5 := Lib.hid (src_own O5.out)
        have BA : Hid (Below w.heap.size w w5) := B3.out.trans (B5.out.mono (Nat.le_of_lt LT3.out))
        have L5 : Hid (w5.heap[w.heap.size]? = some (.cells #[.slice A len cap] 22 (0, 0))) := (B5.out.block _ LT3.out).trans L3.out
        have LT5 : Hid (w.heap.size < w5.heap.size) := lt_of_block L5.out
        have D5 := c12y 21 #[.pointer (some ⟨w.heap.size, 0, none⟩)] A5 (L + 1) c5 (bs ++ [0]) [0] w.heap.size (some (.cells #[.slice A len cap] 22 (0, 0))) w5 S5.out.1 S5.out.2 (byt_cat HY.out (by unfold Byt; decide)) (by omega) LT5.out (fun Rb w => by kernel_rfl)
          (fun Rb wr hr hge hbel => by
            have hf2 : w.heap.size < Rb := Nat.lt_of_lt_of_le LT5.out hge
            have hbx : Bx w Rb w.heap.size (.slice A len cap) 22 (encF P 0 len ++ [0]) wr := ⟨BA.out.trans (hbel.mono (Nat.le_of_lt LT5.out)), (hbel.block _ LT5.out).trans L5.out, by rw [encF_all, HE.out]; exact hr⟩
            exact (c21y w wr Rb w.heap.size A len cap P [0] h100 (Nat.le_refl _) hf2 HP.out HK.out HS2.out hbx).mono fun e w' h => ⟨h.1, h.2.1.rd, St.of_grown h.2.2, h.2.1.l⟩)
        rw [if_neg (by simp)] at D5
        have D5' := Lib.hid D5
        clear D5
        refine D5'.out.mono ?_
        rintro e w6 ⟨rfl, hL6⟩
        have B6 : Hid (Below w.heap.size w w6) := BA.out.trans ((left_below hL6 L5.out).mono BA.out.size)
        clear hL6
        go_wp2
        go_ret
        exact ⟨rfl, B6.out⟩
    · have D := c11 A len cap P _ w1 h100 (HP.out.below B1.out) (tr_bad P len j hj hok hbad q8 qb HT.out)
      rw [if_neg (by omega)] at D
      have D' : Hid (Calls Try.prog 11 _ w1 fun e w' => e = .returned (.tuple #[.slice none 0 0, .int .i64 1]) ∧ Below w1.heap.size w1 w') := D
      clear D hok hbad q8 qb
      go_wp2_with (first | (go_at_call 9; refine C'.out.mono ?_; rintro e w' ⟨rfl, rfl⟩) | (go_at_call 11; refine D'.out.mono ?_; rintro e w2 ⟨rfl, hb2⟩; have B2 : Hid (Below w.heap.size w w2) := B1.out.trans (hb2.mono B1.out.size); clear hb2))
      go_ret
      exact ⟨rfl, B2.out⟩
theorem walkCutsI (A : Option Addr) (len cap : Nat) (n : Int) (P : Nat → Prt) (w : World) (hm : len ≤ 140737488355328) (hwf : (Lit.int .u16 n).wf = true) (hp : Parts w A len P) (hs : ∀ i, i < len → (P i).len ≤ 140737488355000) :
    Calls Try.prog 7 #[.slice A len cap, .int .u16 n] w fun e w' => e = .returned (.bool true) ∧ Below w.heap.size w w' := by
  have h : IntKind.u16.min ≤ n ∧ n ≤ IntKind.u16.max := by simpa [Lit.wf] using hwf
  have h0 : 0 ≤ n := h.1
  have h1 : n ≤ 65535 := h.2
  obtain ⟨N, rfl⟩ := Int.eq_ofNat_of_zero_le h0
  exact walkCuts A len cap N P w hm (by omega) hp hs
end Go.Proofs.Ytjkhbddnbpnmcaa
