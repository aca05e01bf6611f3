/-
  The kinds of floats: the program's and the document's own.
-/
import Derived.Test.YtibijjaeekameaaW0
namespace Go.Proofs.Ytibijjaeekameaa
open Go.RowKit
open Fl
theorem c13 (b : Nat) (w : World) (h : b < 2 ^ 64) : Calls Try.prog 13 #[.float .f64 b] w fun e w' => e = .returned (.int .i64 (kindZ b)) ∧ w = w' := by
  by_cases hn : infR < rung b
  · skip
    rw [kind_nan hn]
    have H := Lib.hid h
    have HN := Lib.hid hn
    clear h hn
    go_enter Try.func13, Try.ntmps13
    go_wp2_with (go_at_call 30; refine (c30n b _ (by exact HN.out)).mono ?_; rintro e w' ⟨rfl, rfl⟩)
    go_ret
    exact ⟨rfl, rfl⟩
  have hn : rung b ≤ infR := by omega
  skip
  by_cases hi : rung b = infR
  · rw [kind_inf hi]
    have hd : decide (rung b = infR) = true := decide_eq_true hi
    have H := Lib.hid h
    have HN := Lib.hid hn
    clear h hn hi
    go_enter Try.func13, Try.ntmps13
    go_wp2_with (first | (go_at_call 30; refine (c30 b _ (by exact HN.out)).mono ?_; rintro e w' ⟨rfl, rfl⟩) | (go_at_call 31; refine (c31 b _ (by exact H.out) (by exact HN.out)).mono ?_; rintro e w' ⟨rfl, rfl⟩; rw [hd]))
    go_ret
    exact ⟨rfl, rfl⟩
  have hf : rung b < infR := by omega
  have hd : decide (rung b = infR) = false := decide_eq_false hi
  cases hs : sgn b with
  | true =>
    rw [kind_neg hf hs]
    have H := Lib.hid h
    have HN := Lib.hid hn
    have HS := Lib.hid hs
    clear h hn hi hf hs
    go_enter Try.func13, Try.ntmps13
    go_wp2_with (first | (go_at_call 30; refine (c30 b _ (by exact HN.out)).mono ?_; rintro e w' ⟨rfl, rfl⟩) | (go_at_call 31; refine (c31 b _ (by exact H.out) (by exact HN.out)).mono ?_; rintro e w' ⟨rfl, rfl⟩; rw [hd]) | (go_at_call 32; refine (c32 b _ (by exact H.out)).mono ?_; rintro e w' ⟨rfl, rfl⟩; rw [HS.out]))
    go_ret
    exact ⟨rfl, rfl⟩
  | false =>
    have hb63 := of_sgn h hs
    have k1 := key_small hb63
    have r1 := rung_small hb63
    have t1 := tr_lt hf hs
    have t2 : rung (tr b) ≤ infR := by rw [rung_small t1]; exact tr_le hf hs
    have k2 := key_small t1
    have kb : key big = (big : Int) := key_small (by decide)
    have rb : rung big ≤ infR := by decide
    have z0 : (FloatKind.f64.format.order b 0 == some Ordering.eq) = decide (b = 0) := by
      rw [ord_eq hn (by decide), k1, show key 0 = 0 by decide]
      rw [Bool.eq_iff_iff, decide_eq_true_iff, decide_eq_true_iff]; omega
    have z1 : (FloatKind.f64.format.order b (tr b) != some Ordering.eq) = decide (b ≠ tr b) := by
      rw [ord_ne hn t2, k1, k2]
      rw [Bool.eq_iff_iff]
      simp only [Bool.not_eq_true', decide_eq_false_iff_not, decide_eq_true_iff]
      omega
    have z2 : (FloatKind.f64.format.order b 4697254411347427328 == some Ordering.gt) = decide (big < b) := by
      show (FloatKind.f64.format.order b big == some Ordering.gt) = _
      rw [ord_gt hn rb, k1, kb]
      rw [Bool.eq_iff_iff, decide_eq_true_iff, decide_eq_true_iff]; omega
    skip
    have H := Lib.hid h
    have HN := Lib.hid hn
    have HS := Lib.hid hs
    have HF := Lib.hid hf
    have R1 := Lib.hid r1
    clear h hn hi hf r1 k1 k2 t1 t2 hb63 kb rb
    by_cases q0 : b = 0
    · rw [decide_eq_true q0] at z0
      rw [kind_broken HF.out hs (.inl (by rw [R1.out]; exact q0))]
      clear q0 z1 z2 hs
      go_enter Try.func13, Try.ntmps13
      go_wp2_with (first | (go_at_call 30; refine (c30 b _ (by exact HN.out)).mono ?_; rintro e w' ⟨rfl, rfl⟩) | (go_at_call 31; refine (c31 b _ (by exact H.out) (by exact HN.out)).mono ?_; rintro e w' ⟨rfl, rfl⟩; rw [hd]) | (go_at_call 32; refine (c32 b _ (by exact H.out)).mono ?_; rintro e w' ⟨rfl, rfl⟩; rw [HS.out]) | (go_at_call 33; refine (c33 b _ (by exact HN.out)).mono ?_; rintro e w' ⟨rfl, rfl⟩))
      go_ret
      exact ⟨rfl, rfl⟩
    rw [decide_eq_false q0] at z0
    have q0' : ¬ rung b = 0 := by rw [R1.out]; exact q0
    by_cases q1 : b ≠ tr b
    · rw [decide_eq_true q1] at z1
      rw [kind_broken HF.out hs (.inr q1)]
      clear q0 q0' q1 z2 hs
      go_enter Try.func13, Try.ntmps13
      go_wp2_with (first | (go_at_call 30; refine (c30 b _ (by exact HN.out)).mono ?_; rintro e w' ⟨rfl, rfl⟩) | (go_at_call 31; refine (c31 b _ (by exact H.out) (by exact HN.out)).mono ?_; rintro e w' ⟨rfl, rfl⟩; rw [hd]) | (go_at_call 32; refine (c32 b _ (by exact H.out)).mono ?_; rintro e w' ⟨rfl, rfl⟩; rw [HS.out]) | (go_at_call 33; refine (c33 b _ (by exact HN.out)).mono ?_; rintro e w' ⟨rfl, rfl⟩))
      go_ret
      exact ⟨rfl, rfl⟩
    rw [decide_eq_false q1] at z1
    have qq : ¬ (rung b = 0 ∨ b ≠ tr b) := fun g => g.elim q0' q1
    by_cases q2 : big < b
    · rw [decide_eq_true q2] at z2
      rw [kind_great HF.out hs qq q2]
      clear q0 q0' q1 q2 qq hs
      go_enter Try.func13, Try.ntmps13
      go_wp2_with (first | (go_at_call 30; refine (c30 b _ (by exact HN.out)).mono ?_; rintro e w' ⟨rfl, rfl⟩) | (go_at_call 31; refine (c31 b _ (by exact H.out) (by exact HN.out)).mono ?_; rintro e w' ⟨rfl, rfl⟩; rw [hd]) | (go_at_call 32; refine (c32 b _ (by exact H.out)).mono ?_; rintro e w' ⟨rfl, rfl⟩; rw [HS.out]) | (go_at_call 33; refine (c33 b _ (by exact HN.out)).mono ?_; rintro e w' ⟨rfl, rfl⟩))
      go_ret
      exact ⟨rfl, rfl⟩
    · rw [decide_eq_false q2] at z2
      rw [kind_fine HF.out hs qq q2]
      clear q0 q0' q1 q2 qq hs
      go_enter Try.func13, Try.ntmps13
      go_wp2_with (first | (go_at_call 30; refine (c30 b _ (by exact HN.out)).mono ?_; rintro e w' ⟨rfl, rfl⟩) | (go_at_call 31; refine (c31 b _ (by exact H.out) (by exact HN.out)).mono ?_; rintro e w' ⟨rfl, rfl⟩; rw [hd]) | (go_at_call 32; refine (c32 b _ (by exact H.out)).mono ?_; rintro e w' ⟨rfl, rfl⟩; rw [HS.out]) | (go_at_call 33; refine (c33 b _ (by exact HN.out)).mono ?_; rintro e w' ⟨rfl, rfl⟩))
      go_ret
      exact ⟨rfl, rfl⟩
theorem c18 (b : Nat) (w : World) (h : b < 2 ^ 64) : Calls Try.prog 18 #[.float .f64 b] w fun e w' => e = .returned (.int .i64 (kindZ b)) ∧ w = w' := by
  by_cases hn : infR < rung b
  · have z := nan_ne hn
    rw [kind_nan hn]
    have H := Lib.hid h
    have HN := Lib.hid hn
    clear h hn
    go_enter Try.func18, Try.ntmps18
    go_wp2_with fail
    go_ret
    exact ⟨rfl, rfl⟩
  have hn : rung b ≤ infR := by omega
  have z := num_ne hn
  by_cases hi : rung b = infR
  · rw [kind_inf hi]
    have hd : decide (rung b = infR) = true := decide_eq_true hi
    have H := Lib.hid h
    have HN := Lib.hid hn
    clear h hn hi
    go_enter Try.func18, Try.ntmps18
    go_wp2_with (first | (go_at_call 31; refine (c31 b _ (by exact H.out) (by exact HN.out)).mono ?_; rintro e w' ⟨rfl, rfl⟩; rw [hd]))
    go_ret
    exact ⟨rfl, rfl⟩
  have hf : rung b < infR := by omega
  have hd : decide (rung b = infR) = false := decide_eq_false hi
  cases hs : sgn b with
  | true =>
    rw [kind_neg hf hs]
    have H := Lib.hid h
    have HN := Lib.hid hn
    have HS := Lib.hid hs
    clear h hn hi hf hs
    go_enter Try.func18, Try.ntmps18
    go_wp2_with (first | (go_at_call 31; refine (c31 b _ (by exact H.out) (by exact HN.out)).mono ?_; rintro e w' ⟨rfl, rfl⟩; rw [hd]) | (go_at_call 32; refine (c32 b _ (by exact H.out)).mono ?_; rintro e w' ⟨rfl, rfl⟩; rw [HS.out]))
    go_ret
    exact ⟨rfl, rfl⟩
  | false =>
    have hb63 := of_sgn h hs
    have k1 := key_small hb63
    have r1 := rung_small hb63
    have t1 := tr_lt hf hs
    have t2 : rung (tr b) ≤ infR := by rw [rung_small t1]; exact tr_le hf hs
    have k2 := key_small t1
    have kb : key big = (big : Int) := key_small (by decide)
    have rb : rung big ≤ infR := by decide
    have z0 : (FloatKind.f64.format.order b 0 == some Ordering.eq) = decide (b = 0) := by
      rw [ord_eq hn (by decide), k1, show key 0 = 0 by decide]
      rw [Bool.eq_iff_iff, decide_eq_true_iff, decide_eq_true_iff]; omega
    have z1 : (FloatKind.f64.format.order b (tr b) != some Ordering.eq) = decide (b ≠ tr b) := by
      rw [ord_ne hn t2, k1, k2]
      rw [Bool.eq_iff_iff]
      simp only [Bool.not_eq_true', decide_eq_false_iff_not, decide_eq_true_iff]
      omega
    have z2 : (FloatKind.f64.format.order b 4697254411347427328 == some Ordering.gt) = decide (big < b) := by
      show (FloatKind.f64.format.order b big == some Ordering.gt) = _
      rw [ord_gt hn rb, k1, kb]
      rw [Bool.eq_iff_iff, decide_eq_true_iff, decide_eq_true_iff]; omega
    have E := Lib.hid (fl_tr hf hs)
    have H := Lib.hid h
    have HN := Lib.hid hn
    have HS := Lib.hid hs
    have HF := Lib.hid hf
    have R1 := Lib.hid r1
    clear h hn hi hf r1 k1 k2 t1 t2 hb63 kb rb
    by_cases q0 : b = 0
    · rw [decide_eq_true q0] at z0
      rw [kind_broken HF.out hs (.inl (by rw [R1.out]; exact q0))]
      clear q0 z1 z2 hs
      go_enter Try.func18, Try.ntmps18
      go_wp2_with (first | (go_at_call 31; refine (c31 b _ (by exact H.out) (by exact HN.out)).mono ?_; rintro e w' ⟨rfl, rfl⟩; rw [hd]) | (go_at_call 32; refine (c32 b _ (by exact H.out)).mono ?_; rintro e w' ⟨rfl, rfl⟩; rw [HS.out]) | (go_at_call 35; refine (c35 b _ (by exact HN.out)).mono ?_; rintro e w' ⟨rfl, rfl⟩; rw [E.out]))
      go_ret
      exact ⟨rfl, rfl⟩
    rw [decide_eq_false q0] at z0
    have q0' : ¬ rung b = 0 := by rw [R1.out]; exact q0
    by_cases q1 : b ≠ tr b
    · rw [decide_eq_true q1] at z1
      rw [kind_broken HF.out hs (.inr q1)]
      clear q0 q0' q1 z2 hs
      go_enter Try.func18, Try.ntmps18
      go_wp2_with (first | (go_at_call 31; refine (c31 b _ (by exact H.out) (by exact HN.out)).mono ?_; rintro e w' ⟨rfl, rfl⟩; rw [hd]) | (go_at_call 32; refine (c32 b _ (by exact H.out)).mono ?_; rintro e w' ⟨rfl, rfl⟩; rw [HS.out]) | (go_at_call 35; refine (c35 b _ (by exact HN.out)).mono ?_; rintro e w' ⟨rfl, rfl⟩; rw [E.out]))
      go_ret
      exact ⟨rfl, rfl⟩
    rw [decide_eq_false q1] at z1
    have qq : ¬ (rung b = 0 ∨ b ≠ tr b) := fun g => g.elim q0' q1
    by_cases q2 : big < b
    · rw [decide_eq_true q2] at z2
      rw [kind_great HF.out hs qq q2]
      clear q0 q0' q1 q2 qq hs
      go_enter Try.func18, Try.ntmps18
      go_wp2_with (first | (go_at_call 31; refine (c31 b _ (by exact H.out) (by exact HN.out)).mono ?_; rintro e w' ⟨rfl, rfl⟩; rw [hd]) | (go_at_call 32; refine (c32 b _ (by exact H.out)).mono ?_; rintro e w' ⟨rfl, rfl⟩; rw [HS.out]) | (go_at_call 35; refine (c35 b _ (by exact HN.out)).mono ?_; rintro e w' ⟨rfl, rfl⟩; rw [E.out]))
      go_ret
      exact ⟨rfl, rfl⟩
    · rw [decide_eq_false q2] at z2
      rw [kind_fine HF.out hs qq q2]
      clear q0 q0' q1 q2 qq hs
      go_enter Try.func18, Try.ntmps18
      go_wp2_with (first | (go_at_call 31; refine (c31 b _ (by exact H.out) (by exact HN.out)).mono ?_; rintro e w' ⟨rfl, rfl⟩; rw [hd]) | (go_at_call 32; refine (c32 b _ (by exact H.out)).mono ?_; rintro e w' ⟨rfl, rfl⟩; rw [HS.out]) | (go_at_call 35; refine (c35 b _ (by exact HN.out)).mono ?_; rintro e w' ⟨rfl, rfl⟩; rw [E.out]))
      go_ret
      exact ⟨rfl, rfl⟩

theorem work_conv (b : Nat) (h : kindZ b = 5) (w : World) : (convert 23 3 (.float .f64 b)).run Try.prog w = .ok (.int .i64 (wk b : Int)) w :=
  run_convert_float_int w 23 3 .f64 .i64 b (wk b : Int) (by rw [Try.underlying23]; rfl) Try.underlying3 (fine_conv h)

theorem kind_eq5 {b : Nat} (h : kindZ b = 5) : (kindZ b != 5) = false := by rw [h]; rfl
theorem kind_ne5 {b : Nat} (h : kindZ b ≠ 5) : (kindZ b != 5) = true := by simpa using h

theorem c12 (b : Nat) (w : World) (h : b < 2 ^ 64) : Calls Try.prog 12 #[.float .f64 b] w fun e w' => e = .returned (.tuple #[.int .i64 (workZ b), .bool (fineB b)]) ∧ w = w' := by
  have H := Lib.hid h
  clear h
  by_cases hk : kindZ b = 5
  · have kt := kind_eq5 hk
    have hc := fun w => work_conv b hk w
    rw [(work_fine hk).1, (work_fine hk).2]
    clear hk
    go_enter Try.func12, Try.ntmps12
    go_wp2_with (go_at_call 13; refine (c13 b _ (by exact H.out)).mono ?_; rintro e w' ⟨rfl, rfl⟩)
    go_ret2
    exact ⟨rfl, rfl⟩
  · have kt := kind_ne5 hk
    rw [(work_no hk).1, (work_no hk).2]
    clear hk
    go_enter Try.func12, Try.ntmps12
    go_wp2_with (go_at_call 13; refine (c13 b _ (by exact H.out)).mono ?_; rintro e w' ⟨rfl, rfl⟩)
    go_ret2
    exact ⟨rfl, rfl⟩
theorem c15 (b : Nat) (w : World) (h : b < 2 ^ 64) : Calls Try.prog 15 #[.float .f64 b] w fun e w' => e = .returned (.tuple #[.int .i64 (workZ b), .bool (fineB b)]) ∧ w = w' := by
  have H := Lib.hid h
  clear h
  by_cases hk : kindZ b = 5
  · have kt := kind_eq5 hk
    have hc := fun w => work_conv b hk w
    rw [(work_fine hk).1, (work_fine hk).2]
    clear hk
    go_enter Try.func15, Try.ntmps15
    go_wp2_with (go_at_call 18; refine (c18 b _ (by exact H.out)).mono ?_; rintro e w' ⟨rfl, rfl⟩)
    go_ret2
    exact ⟨rfl, rfl⟩
  · have kt := kind_ne5 hk
    rw [(work_no hk).1, (work_no hk).2]
    clear hk
    go_enter Try.func15, Try.ntmps15
    go_wp2_with (go_at_call 18; refine (c18 b _ (by exact H.out)).mono ?_; rintro e w' ⟨rfl, rfl⟩)
    go_ret2
    exact ⟨rfl, rfl⟩
end Go.Proofs.Ytibijjaeekameaa
