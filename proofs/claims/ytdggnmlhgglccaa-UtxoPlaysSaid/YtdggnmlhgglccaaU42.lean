/-
  The document's Coins: Total.
-/
import Derived.Test.YtdggnmlhgglccaaU41
namespace Go.Proofs.Ytdggnmlhgglccaa
open Go.RowKit
set_option maxRecDepth 100000
def totC (cs : List Cn) : Int := (cs.map amt).sum
theorem totC_snoc {cs : List Cn} {i : Nat} (h : i < cs.length) : totC (cs.take (i + 1)) = totC (cs.take i) + amt (cs.getD i cn0) := by
  rw [List.take_succ_eq_append_getElem h, List.getD_eq_getElem?_getD, List.getElem?_eq_getElem h]
  unfold totC
  rw [List.map_append, List.sum_append]
  simp
/-- amounts as they may be: none below nothing, their sum no more than there may be -/
def Fine (cs : List Cn) : Prop := (∀ c ∈ cs, 0 ≤ amt c) ∧ totC cs ≤ maxM
theorem totC_nn : ∀ {cs : List Cn}, (∀ c ∈ cs, 0 ≤ amt c) → 0 ≤ totC cs
  | [], _ => Int.le_refl 0
  | c :: cs, h => by
    have h1 := h c (by simp)
    have h2 := totC_nn (cs := cs) fun x hx => h x (List.mem_cons_of_mem _ hx)
    show 0 ≤ amt c + totC cs
    omega
theorem totC_app (a b : List Cn) : totC (a ++ b) = totC a + totC b := by simp [totC]
theorem Fine.take {cs : List Cn} (h : Fine cs) (i : Nat) : 0 ≤ totC (cs.take i) ∧ totC (cs.take i) ≤ maxM := by
  have e := totC_app (cs.take i) (cs.drop i)
  rw [List.take_append_drop] at e
  have h1 := totC_nn (cs := cs.take i) fun x hx => h.1 x (List.mem_of_mem_take hx)
  have h2 := totC_nn (cs := cs.drop i) fun x hx => h.1 x (List.mem_of_mem_drop hx)
  have := h.2
  exact ⟨h1, by omega⟩
attribute [local irreducible] ptV cnV
set_option maxHeartbeats 2000000 in
theorem cTotal (B : Nat) (ps : List (List Int)) (cs : List Cn) (Q : Nat → Prop) (w : World) (h : CoIs w B ps cs Q) (hf : Fine cs) (hl : cs.length ≤ 1000) :
    Calls Try.prog 26 #[.pointer (some ⟨B, 0, none⟩)] w fun e w' => e = .returned (.int .i64 (totC cs)) ∧ w = w' := by
  obtain ⟨A, A2, c, c2, h⟩ := h
  have c1 := h.c1
  have H := Lib.hid h
  have HF := Lib.hid hf
  have HL := Lib.hid hl
  obtain ⟨t, ht⟩ : ∃ t, totC cs = t := ⟨_, rfl⟩
  have HT := Lib.hid ht
  rw [ht]
  clear h hf hl ht
  go_enter Try.func26, Try.ntmps26
  go_wp2_with fail
  go_loopw [3, 4] (fun sv iv wr => ∃ i : Nat, i ≤ cs.length ∧ iv = .int .i64 i ∧ sv = .int .i64 (totC (cs.take i)) ∧ wr = w) (fun _ iv _ => cs.length - (intOf iv).toNat)
  case atStart => exact ⟨0, by omega, rfl, rfl, rfl⟩
  case round =>
    obtain ⟨i, hi, rfl, rfl, rfl⟩ := hrel
    by_cases hlt : i < cs.length
    · obtain ⟨o1, g, rfl, hg, r1⟩ := H.out.cn hlt
      obtain ⟨x, hx⟩ : ∃ x, cs.getD i cn0 = x := ⟨_, rfl⟩
      rw [hx] at o1 r1
      have i0 : (0 : Int) ≤ (i : Int) := by omega
      have i1 : (i : Int) < (cs.length : Int) := by omega
      have i2 : i < cs.length := hlt
      have HLT := Lib.hid hlt
      have W1 : Hid (wrap64 ((i : Int) + 1) = ((i + 1 : Nat) : Int)) := Lib.hid (by have := HL.out; unfold wrap64; omega)
      have a8 := r1 8 _ (cn_amt o1.len)
      have W2 : Hid (wrap64 (totC (cs.take i) + amt x) = totC (cs.take (i + 1))) := Lib.hid (by
        rw [totC_snoc hlt, hx]
        have h1 := HF.out.take i
        have h2 := HF.out.take (i + 1)
        rw [totC_snoc hlt, hx] at h2
        unfold maxM at h1 h2
        unfold wrap64; omega)
      clear hlt hi o1 hg r1 hx
      go_wp2
      go_roundw
      case rel => exact ⟨i + 1, HLT.out, congrArg _ W1.out, congrArg _ W2.out, trivial⟩
      case measure => exact meas_upN W1.out HLT.out
    · obtain rfl : i = cs.length := by omega
      have HX : Hid (totC (cs.take cs.length) = t) := Lib.hid (by rw [List.take_length]; exact HT.out)
      clear hi hlt
      go_wp2
      go_ret
      refine ⟨?_, rfl⟩
      rw [← HX.out]
      rfl
end Go.Proofs.Ytdggnmlhgglccaa
