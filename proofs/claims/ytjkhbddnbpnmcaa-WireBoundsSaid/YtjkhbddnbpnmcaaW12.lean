/-
  The law's own 'plain': a list, a number, what may not be written.
-/
import Derived.Test.YtjkhbddnbpnmcaaW11
namespace Go.Proofs.Ytjkhbddnbpnmcaa
open Go.RowKit
attribute [local go_sem ↓] Go.wp_at_zero Go.wp_at_succ

theorem row_own {w : World} {base n c : Nat} {A : Option Addr} {xs : List Int} (h : w.ownsRow base 5 1 (.slice A n c) n (bvals xs)) : Row w A xs ∧ xs.length = n ∧ n ≤ c := by
  obtain ⟨A', c', e, h1, h2, h3⟩ := own_row h
  simp only [Value.slice.injEq] at e
  obtain ⟨rfl, _, rfl⟩ := e
  exact ⟨h1, h2, h3⟩
set_option maxHeartbeats 1000000 in
theorem c10l (p : Prt) (w : World) (hk : p.k = 9) (h8 : p.h.length = 8) (hs : Src w p.A p.len p.b) (hc : p.A = none → p.cap = 0) (hm : p.len ≤ 140737488355000) :
    Calls Try.prog 10 #[pval p] w fun e w' => PlainEnd p e w' ∧ Below w.heap.size w w' := by
  have he : enc p = listB p.b := by unfold enc; rw [if_neg (by omega), if_pos hk]
  have ho : okP p = true := by unfold okP; simp [hk]
  have hlb : (listB p.b).length = 4 + p.len := by unfold listB; rw [List.length_append, digs_len, hs.1]
  have hE : ∀ e w', (∃ A c, e = .returned (.tuple #[.slice A (4 + p.len) c, .bool true]) ∧ Row w' A (listB p.b) ∧ (A = none → c = 0)) → PlainEnd p e w' := fun e w' h => by unfold PlainEnd; rw [if_pos ho, he, hlb]; exact h
  have HE := Lib.hid hE
  clear hE ho he hlb
  obtain ⟨i0, hi, hz0, hz1, hz2⟩ := info_parts info5
  obtain ⟨k, n, h, A, len, cap, b⟩ := p
  simp only at hk h8 HE hs hc hm
  subst hk
  obtain ⟨x0, x1, x2, x3, x4, x5, x6, x7, rfl⟩ := len8 h8
  have hv : pval ⟨9, n, [x0, x1, x2, x3, x4, x5, x6, x7], A, len, cap, b⟩ = .agg #[.int .i64 9, .int .i64 n, .int .u8 x0, .int .u8 x1, .int .u8 x2, .int .u8 x3, .int .u8 x4, .int .u8 x5, .int .u8 x6, .int .u8 x7, .slice A len cap] := rfl
  rw [hv]
  have HI := Lib.hid hi
  have HI0 := Lib.hid hz0
  have HI1 := Lib.hid hz1
  have HI2 := Lib.hid hz2
  have HS := Lib.hid hs
  have HC := Lib.hid hc
  clear hi hz0 hz1 hz2 h8 hv hs hc
  go_enter Try.func10, Try.ntmps10
  go_wp2
  have B0 : Hid (Below w.heap.size w (w.alloc (Obj.cells #[.int .i64 9, .int .i64 n, .int .u8 x0, .int .u8 x1, .int .u8 x2, .int .u8 x3, .int .u8 x4, .int .u8 x5, .int .u8 x6, .int .u8 x7, .slice A len cap] 31))) := (Below.refl _ _).alloc (Nat.le_refl _) _
  have G0 : Hid ((w.alloc (Obj.cells #[.int .i64 9, .int .i64 n, .int .u8 x0, .int .u8 x1, .int .u8 x2, .int .u8 x3, .int .u8 x4, .int .u8 x5, .int .u8 x6, .int .u8 x7, .slice A len cap] 31)).cell? ⟨w.heap.size, 10, none⟩ = some (.slice A len cap)) := by
    show World.cell? _ _ = _
    rw [cell_of_row _ w.heap.size 10 _ 31 (0, 0) (heap_alloc_new w _)]; rfl
  have Z0 : Hid ((w.alloc (Obj.cells #[.int .i64 9, .int .i64 n, .int .u8 x0, .int .u8 x1, .int .u8 x2, .int .u8 x3, .int .u8 x4, .int .u8 x5, .int .u8 x6, .int .u8 x7, .slice A len cap] 31)).heap.size = w.heap.size + 1) := Lib.hid (by simp)
  generalize (w.alloc (Obj.cells #[.int .i64 9, .int .i64 n, .int .u8 x0, .int .u8 x1, .int .u8 x2, .int .u8 x3, .int .u8 x4, .int .u8 x5, .int .u8 x6, .int .u8 x7, .slice A len cap] 31)) = wa at *
  have g0 := G0.out
  have D0 : Hid (Below w.heap.size w wa.drew) := B0.out.drew
  go_region_held3 (fun w' => w'.cell? ⟨w.heap.size, 10, none⟩ = some (.slice A len cap)) (go_keep)
    (first
      | (go_at_call 23; refine (c23 len 4 _ (by decide)).mono ?_; rintro e w1 ⟨A1, c1, rfl, hown, hbel⟩; have OW := Lib.hid hown; have k2 : w1.cell? ⟨w.heap.size, 10, none⟩ = some (.slice A len cap) := (hbel.cell (p := ⟨w.heap.size, 10, none⟩) (by show w.heap.size < wa.heap.size; rw [Z0.out]; omega)).trans G0.out; have BL : Hid (Below w.heap.size w w1) := D0.out.trans (hbel.mono (by show w.heap.size ≤ wa.heap.size; rw [Z0.out]; omega)); have SS : Hid (Src w1 A len b) := HS.out.keep BL.out.block; have BS := Lib.hid hbel.size; clear hown hbel)
      | (refine step_app rfl (.tmp 18) (.tmp 20) 25 rfl i0 Try.underlying25 HI.out HI0.out HI1.out HI2.out wa.drew.heap.size 4 (.slice A1 4 c1) (digs len 4) (by simp [Act.eval]) OW.out A len cap b (by simp [Act.eval]) SS.out HC.out (by unfold maxLen; omega) (by omega) BS.out ?_; intro A2 c2 w2 hown hg hat; have OX := Lib.hid hown; have BX : Hid (Below w.heap.size w w2) := BL.out.grown hg (Nat.le_trans (by show w.heap.size ≤ wa.heap.size; rw [Z0.out]; omega) BS.out) (fun q hq => Nat.le_trans (by show w.heap.size ≤ wa.heap.size; rw [Z0.out]; omega) (own_base OW.out q hq)); have k3 : w2.cell? ⟨w.heap.size, 10, none⟩ = some (.slice A len cap) := (hg.cell_far _ (World.block_lt_of_cell? w1 _ k2) (fun e => by have h := own_base OW.out w.heap.size e.symm; have h2 : wa.heap.size ≤ w.heap.size := h; rw [Z0.out] at h2; omega)).trans k2; clear hown hg hat))
  all_goals
    go_wp2
    go_ret2
    exact ⟨HE.out _ _ ⟨A2, c2, rfl, by have := (row_own OX.out).1; unfold listB; rw [HS.out.1]; exact this, (src_own OX.out).2⟩, BX.out⟩

theorem c10b (p : Prt) (w : World) (hb : okP p = false) (h8 : p.h.length = 8) :
    Calls Try.prog 10 #[pval p] w fun e w' => PlainEnd p e w' ∧ Below w.heap.size w w' := by
  have hE : ∀ w', PlainEnd p (.returned (.tuple #[.slice none 0 0, .bool false])) w' := fun w' => by unfold PlainEnd; rw [if_neg (by rw [hb]; decide)]
  have HE := Lib.hid hE
  clear hE
  obtain ⟨k, n, h, A, len, cap, b⟩ := p
  simp only at h8
  obtain ⟨x0, x1, x2, x3, x4, x5, x6, x7, rfl⟩ := len8 h8
  have hv : pval ⟨k, n, [x0, x1, x2, x3, x4, x5, x6, x7], A, len, cap, b⟩ = .agg #[.int .i64 k, .int .i64 n, .int .u8 x0, .int .u8 x1, .int .u8 x2, .int .u8 x3, .int .u8 x4, .int .u8 x5, .int .u8 x6, .int .u8 x7, .slice A len cap] := rfl
  rw [hv]
  have B0 : Hid (Below w.heap.size w (w.alloc (Obj.cells #[.int .i64 k, .int .i64 n, .int .u8 x0, .int .u8 x1, .int .u8 x2, .int .u8 x3, .int .u8 x4, .int .u8 x5, .int .u8 x6, .int .u8 x7, .slice A len cap] 31))) := (Below.refl _ _).alloc (Nat.le_refl _) _
  unfold okP at hb
  simp only [Bool.or_eq_false_iff, decide_eq_false_iff_not] at hb
  obtain ⟨⟨k8, k9⟩, hf⟩ := hb
  clear hv h8
  by_cases k1 : k < 1
  · clear hf
    go_enter Try.func10, Try.ntmps10
    go_wp2
    go_ret2
    exact ⟨HE.out _, B0.out⟩
  · by_cases k7 : 7 < k
    · clear hf
      go_enter Try.func10, Try.ntmps10
      go_wp2
      go_ret2
      exact ⟨HE.out _, B0.out⟩
    · by_cases n0 : n < 0
      · clear hf
        go_enter Try.func10, Try.ntmps10
        go_wp2
        go_ret2
        exact ⟨HE.out _, B0.out⟩
      · obtain ⟨K, rfl⟩ := Int.eq_ofNat_of_zero_le (show 0 ≤ k by omega)
        have hz : 2 ^ (8 * K) ≤ n := by
          rcases Int.lt_or_le n (2 ^ (8 * K)) with h | h
          · exfalso
            have : fitB n K = true := by
              unfold fitB
              simp only [Bool.and_eq_true, decide_eq_true_eq, Int.toNat_natCast]
              omega
            rw [this] at hf; cases hf
          · exact h
        have h8 : (8 * (K : Int)).toNat = 8 * K := by omega
        have hmin : min (8 * K) 64 = 8 * K := by omega
        have hp : (2 : Int) ^ (8 * K) ≤ 72057594037927936 := by have := pow8_le (show K ≤ 7 by omega); simpa using this
        have hp0 := pow_pos8 K
        clear hf
        go_enter Try.func10, Try.ntmps10
        go_wp2
        go_ret2
        exact ⟨HE.out _, B0.out⟩

theorem c10n (p : Prt) (w : World) (h8' : p.k ≠ 8) (h9' : p.k ≠ 9) (hb : okP p = true) (h8 : p.h.length = 8) :
    Calls Try.prog 10 #[pval p] w fun e w' => PlainEnd p e w' ∧ Below w.heap.size w w' := by
  have ho : fitB p.n p.k = true := by unfold okP at hb; simpa [h8', h9'] using hb
  have he : enc p = digs p.n p.k.toNat := by unfold enc; rw [if_neg h8', if_neg h9']
  obtain ⟨K, hK, k1, k7, n0, n1⟩ := fit_parts ho
  have hE : ∀ e w', (∃ A c, e = .returned (.tuple #[.slice A K c, .bool true]) ∧ Row w' A (digs p.n K) ∧ (A = none → c = 0)) → PlainEnd p e w' := fun e w' h => by unfold PlainEnd; rw [if_pos hb, he, hK, Int.toNat_natCast, digs_len]; exact h
  have HE := Lib.hid hE
  clear hE ho he hb
  obtain ⟨k, n, h, A, len, cap, b⟩ := p
  simp only at h8 HE h8' h9' hK n0 n1
  subst hK
  obtain ⟨x0, x1, x2, x3, x4, x5, x6, x7, rfl⟩ := len8 h8
  have hv : pval ⟨K, n, [x0, x1, x2, x3, x4, x5, x6, x7], A, len, cap, b⟩ = .agg #[.int .i64 K, .int .i64 n, .int .u8 x0, .int .u8 x1, .int .u8 x2, .int .u8 x3, .int .u8 x4, .int .u8 x5, .int .u8 x6, .int .u8 x7, .slice A len cap] := rfl
  rw [hv]
  have B0 : Hid (Below w.heap.size w (w.alloc (Obj.cells #[.int .i64 K, .int .i64 n, .int .u8 x0, .int .u8 x1, .int .u8 x2, .int .u8 x3, .int .u8 x4, .int .u8 x5, .int .u8 x6, .int .u8 x7, .slice A len cap] 31))) := (Below.refl _ _).alloc (Nat.le_refl _) _
  have h8k : (8 * (K : Int)).toNat = 8 * K := by omega
  have hmin : min (8 * K) 64 = 8 * K := by omega
  have hp : (2 : Int) ^ (8 * K) ≤ 72057594037927936 := by have := pow8_le (show K ≤ 7 by omega); simpa using this
  have hp0 := pow_pos8 K
  clear hv h8
  go_enter Try.func10, Try.ntmps10
  go_wp2_with (go_at_call 23; refine (c23 n K _ k7).mono ?_; rintro e w1 ⟨A1, c1, rfl, hown, hbel⟩; have OW := Lib.hid hown; have BL : Hid (Below w.heap.size w w1) := B0.out.trans (hbel.mono (by simp)); clear hown hbel)
  go_ret2
  exact ⟨HE.out _ _ ⟨A1, c1, rfl, (row_own OW.out).1, (src_own OW.out).2⟩, BL.out⟩
theorem c10 (p : Prt) (w : World) (h8 : p.h.length = 8) (hs : Src w p.A p.len p.b) (hc : p.A = none → p.cap = 0) (hm : p.len ≤ 140737488355000) :
    Calls Try.prog 10 #[pval p] w fun e w' => PlainEnd p e w' ∧ Below w.heap.size w w' := by
  by_cases k8 : p.k = 8
  · exact c10h p w k8 h8
  · by_cases k9 : p.k = 9
    · exact c10l p w k9 h8 hs hc hm
    · cases ho : okP p with
      | true => exact c10n p w k8 k9 ho h8
      | false => exact c10b p w ho h8
end Go.Proofs.Ytjkhbddnbpnmcaa
