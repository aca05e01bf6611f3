/-
  The document's Get.
-/
import Derived.Test.YtgagcblddcibkaaDoorS26
import Derived.Deep.MidRow
namespace Go.Proofs.YtgagcblddcibkaaDoor
open Go.RowKit
open Go.Maps
theorem lk_cons_hit {L : List (Int × List Int)} {i : Int} {k : Nat} {p : Int × List Int} (hp : L[k]? = some p) (h : p.1 = i) : lk (L.drop k) i = p.2 := by
  obtain ⟨hk, e⟩ := List.getElem?_eq_some_iff.1 hp
  rw [List.drop_eq_getElem_cons hk, e, lk, if_pos h]
theorem lk_cons_miss {L : List (Int × List Int)} {i : Int} {k : Nat} {p : Int × List Int} (hp : L[k]? = some p) (h : ¬ p.1 = i) : lk (L.drop k) i = lk (L.drop (k + 1)) i := by
  obtain ⟨hk, e⟩ := List.getElem?_eq_some_iff.1 hp
  rw [List.drop_eq_getElem_cons hk, e, lk, if_neg h]
theorem lk_len {L : List (Int × List Int)} (h : ∀ p ∈ L, p.2.length = 8) (i : Int) : (lk L i).length = 8 := by
  induction L with
  | nil => rfl
  | cons p r ih =>
    rw [lk]
    split
    · exact h p List.mem_cons_self
    · exact ih fun q hq => h q (List.mem_cons_of_mem _ hq)
theorem LR.range {w : World} {M g2 : Nat} {A1 : Option Addr} {n c1 c2 : Nat} {L : List (Int × List Int)} (h : LR w M A1 (some ⟨g2, 0, none⟩) n c1 c2 L) (h8 : ∀ p ∈ L, p.2.length = 8) {k : Nat} {p : Int × List Int} (hk : L[k]? = some p) : w.rangeAt g2 (k * 8) (bvals p.2) := by
  have hp8 : p.2.length = 8 := h8 p (List.mem_of_getElem? hk)
  have hkn : k < n := by rw [h.len]; exact (List.getElem?_eq_some_iff.1 hk).1
  have ha := zip8_at h8 hk
  rcases h.at2 with e | ⟨g, e1, hc⟩
  · omega
  · cases e1
    intro j v hj
    have hj8 : j < 8 := by
      have := (List.getElem?_eq_some_iff.1 hj).1
      simp [bvals] at this
      omega
    rw [hc (k * 8 + j) (by omega), ← hj, ← ha]
    unfold at8 bvals
    have hz : (zip8 L).length = 8 * L.length := zip8_len h8
    have hlt : 8 * k + j < (zip8 L).length := by rw [hz, ← h.len]; omega
    simp [List.getD, hj8, Nat.mul_comm k 8, List.getElem?_eq_getElem hlt]
theorem load8 {ops : Array Oper} {rest : List Oper} {op : Oper} {a : Act} {w : World} {Q : Exit → Act → World → Prop} (hgd : op.guard = none) (x : Operand) (ho : op.op = .load 29 x)
    (b o : Nat) (hx : a.eval x = .pointer (some ⟨b, o, none⟩)) (l : List Int) (hl : l.length = 8) (hc : w.rangeAt b o (bvals l))
    (h : wpList Tryd.prog ops Q rest (a.put op.dst (.agg (ba l))) w) : wpList Tryd.prog ops Q (op :: rest) a w :=
  wpList_load_mid hgd 29 x ho b o hx (bvals l) _ hc Tryd.underlying29 rfl (by rw [show (bvals l).length = 8 by simp [bvals, hl]]; exact s27) h
attribute [local irreducible] ua da ba kk sw S8.run rt hs comp splice outB sha msg twoM twoN ab MapIs mrow nd upF at8 prfL zip8 bvals ivals putA fillL inr sib
set_option maxRecDepth 100000 in
set_option maxHeartbeats 1600000 in
theorem r15 (M : Nat) (A1 A2 : Option Addr) (n c1 c2 : Nat) (L : List (Int × List Int)) (i : Int) (w : World) (hL : LR w M A1 A2 n c1 c2 L) (h8 : ∀ p ∈ L, p.2.length = 8) (hn : n ≤ 1000) :
    Calls Tryd.prog 15 #[.pointer (some ⟨M, 0, none⟩), .int .i64 i] w fun e w' => e = .returned (.agg (ba (lk L i))) ∧ Below w.heap.size w w' := by
  have h4 := z27
  have h5 := b29
  have HN : Hid (n ≤ 1000) := hn
  have H8 := Lib.hid h8
  obtain ⟨S, hS⟩ : ∃ S, w.heap.size = S := ⟨_, rfl⟩
  have HS := Lib.hid hS
  have R0 : Hid (BA (w.alloc (Obj.cells (ba (zeros 8)) 29)) S 29 (zeros 8)) := by subst hS; exact heap_alloc_last w _
  have B0 : Hid (Below S w (w.alloc (Obj.cells (ba (zeros 8)) 29))) := by subst hS; exact (Below.refl _ w).alloc (Nat.le_refl _) _
  have LR0 : Hid (LR (w.alloc (Obj.cells (ba (zeros 8)) 29)) M A1 A2 n c1 c2 L) := hL.grow (by rw [hS]; exact B0.out)
  obtain ⟨x, hx⟩ : ∃ x, lk L i = x := ⟨_, rfl⟩
  have HX := Lib.hid hx
  have HXL : Hid (x.length = 8) := by rw [← hx]; exact lk_len h8 i
  rw [hx]
  clear hL h8 hn hx
  go_enter Tryd.func15, Tryd.ntmps15
  go_wp2_with fail
  clear hS
  generalize w.alloc (Obj.cells (ba (zeros 8)) 29) = w0 at *
  go_loopw [5] (fun kv wr => ∃ k : Nat, k ≤ n ∧ kv = .int .i64 k ∧ wr = w0 ∧ lk (L.drop k) i = x) (fun kv _ => n - (intOf kv).toNat)
  case atStart => exact ⟨0, Nat.zero_le _, rfl, rfl, by rw [List.drop_zero]; exact HX.out⟩
  case round =>
    clear HX
    obtain ⟨k, hk, rfl, rfl, hx⟩ := hrel
    rename World => wr
    have HX := Lib.hid hx
    clear hx
    obtain ⟨m0, m1⟩ := LR0.out.cells
    by_cases hlt : k < n
    · obtain ⟨p, hp⟩ : ∃ p, L[k]? = some p := ⟨L[k]'(by rw [← LR0.out.len]; exact hlt), List.getElem?_eq_getElem _⟩
      obtain ⟨g1, g2, e1, e2⟩ := LR0.out.places (by omega)
      subst e1
      subst e2
      have x1 := LR0.out.num hp
      have k0 : (0 : Int) ≤ (k : Int) := by omega
      have k1 : (k : Int) < (n : Int) := by omega
      have k2 : (k : Int) < 1000 := by have := HN.out; omega
      have kc1 : (k : Int) < (c1 : Int) := by have := LR0.out.cap1.1; omega
      have kc2 : (k : Int) < (c2 : Int) := by have := LR0.out.cap2.1; omega
      have HKN : Hid (k < n) := hlt
      by_cases hit : p.1 = i
      · have e := lk_cons_hit hp hit
        rw [HX.out] at e
        have HX2 : Hid (wr.rangeAt g2 (k * 8) (bvals x)) := by
          have := LR0.out.range H8.out hp
          rw [← e] at this
          exact this
        rw [hit] at x1
        clear hk hp hlt hit e
        go_wp2_with (first
          | (refine load8 rfl (.tmp 29) rfl g2 (k * 8) rfl x HXL.out HX2.out ?_)
          | (refine wpList_store_rowTo rfl 29 (.tmp 4) (.tmp 30) rfl rfl S (ba x) rfl rfl 29 (ba (zeros 8)) R0.out (sz s27 (by rw [ba_size, HXL.out])) (by rw [ba_size, ba_size, HXL.out, zeros_len]) (ba_one _) ?_)
          | fail)
        refine bodyPost_ret (v := .agg (ba x)) (results_cell_row rfl _ _ S 29 _ (0, 0) _ rfl (setRow_heap _ _ _ _ _ _ R0.out) Tryd.underlying29 rfl (sz s27 (by rw [ba_size, HXL.out]))) rfl ⟨rfl, ?_⟩
        rw [HS.out]
        exact below_setRow B0.out (Nat.le_refl _) _
      · have e := lk_cons_miss hp hit
        rw [HX.out] at e
        have HE : Hid (lk (L.drop (k + 1)) i = x) := e.symm
        obtain ⟨j, hj⟩ : ∃ j, p.1 = j := ⟨_, rfl⟩
        rw [hj] at x1 hit
        clear hk hp hlt e hj
        go_wp2_with fail
        go_roundw
        case rel => exact ⟨k + 1, HKN.out, by go_num, trivial, HE.out⟩
        case measure => have := HKN.out; simp [intOf]; omega
    · obtain rfl : k = n := by omega
      have e := HX.out
      rw [List.drop_eq_nil_of_le (by rw [LR0.out.len]; exact Nat.le_refl _)] at e
      have hz : x = zeros 8 := e.symm
      have HZ : Hid (x = zeros 8) := hz
      clear hk hlt e hz
      go_wp2_with (refine wpList_store_rowTo rfl 29 (.tmp 4) (.tmp 31) rfl rfl S (ba (zeros 8)) rfl rfl 29 (ba (zeros 8)) R0.out (sz s27 (by rw [ba_size]; rfl)) rfl (ba_one _) ?_)
      refine bodyPost_ret (v := .agg (ba (zeros 8))) (results_cell_row rfl _ _ S 29 _ (0, 0) _ rfl (setRow_heap _ _ _ _ _ _ R0.out) Tryd.underlying29 rfl (sz s27 (by rw [ba_size]; rfl))) rfl ⟨by rw [HZ.out], ?_⟩
      rw [HS.out]
      exact below_setRow B0.out (Nat.le_refl _) _
end Go.Proofs.YtgagcblddcibkaaDoor
