/-
  The program's Check.
-/
import Derived.Test.YtfneopmgckejdaaDoorQ9
namespace Go.Proofs.YtfneopmgckejdaaDoor
open Go.RowKit
attribute [local irreducible] ua da ba kk sw S8.run rt hs comp splice outB sha msg bvals at8 secM zeros sec keyF marksF mk pubk bt rootF leafH twoH stepsF cutN leadF provL rootV pubF pubs keyL opn sht way gives ckB chkB rootL sg eS fineP mayK win mayP okS has cnt cntN riseP allP enough keyAt
set_option maxRecDepth 100000 in
set_option maxHeartbeats 16000000 in
/-- the program's Check -/
theorem kQuorum (A : Option Addr) (n cap : Nat) (flat : List Int) (a b c : Int) (m : List Int) (A2 : Option Addr) (len cap2 : Nat) (xs : List Sgd) (w : World) (hk : Keys w) (hs : Src w A (8 * n) flat) (hc : n ≤ cap) (hc2 : cap ≤ maxLen) (hm : m.length = 8) (hbt : Byt m) (hr : SRow w A2 xs) (hl : xs.length = len) (hd : len ≤ cap2) (hd2 : cap2 ≤ maxLen) (h64 : n ≤ 65536) (hl64 : len ≤ 65536) :
    Calls Tryd.prog 12 #[.agg #[.int .i64 a, .int .i64 b, .int .i64 c, .slice A n cap], .agg (ba m), .slice A2 len cap2] w fun e w' => e = .returned (.bool (enough (at8 flat) n a b c m xs)) ∧ Below w.heap.size w w' := by
  obtain ⟨m0, m1, m2, m3, m4, m5, m6, m7, hmm⟩ := eight m hm
  have HK := Lib.hid hk
  have HP : Hid (0 < w.heap.size) := keys_pos hk
  have HSR := Lib.hid hs
  have HM := Lib.hid hm
  have HB := Lib.hid hbt
  have HR := Lib.hid hr
  have HLE := Lib.hid hl
  obtain ⟨S, hS⟩ : ∃ S, w.heap.size = S := ⟨_, rfl⟩
  have HS := Lib.hid hS
  have KW : Hid (∀ w', Below S w w' → Keys w') := fun w' hb => keys_below HK.out hb (by rw [← HS.out]; exact HP.out)
  have SW : Hid (∀ w', Below S w w' → Src w' A (8 * n) flat) := fun w' hb => HSR.out.keep fun q' hq' => hb.block q' (by rw [← HS.out]; exact hq')
  have RW : Hid (∀ w', Below S w w' → SRow w' A2 xs) := fun w' hb => HR.out.keep fun q' hq' => hb.block q' (by rw [← HS.out]; exact hq')
  have P0 := Lib.hid (pb_old (pb_new hS a b c (.slice A n cap)) (Obj.cells (ba m) 32))
  have M0 := Lib.hid (ba_new (size_al hS (Obj.cells #[.int .i64 a, .int .i64 b, .int .i64 c, .slice A n cap] 24)) m 32)
  have B0 : Hid (Below S w ((w.alloc (Obj.cells #[.int .i64 a, .int .i64 b, .int .i64 c, .slice A n cap] 24)).alloc (Obj.cells (ba m) 32))) := by subst hS; exact ((Below.refl _ w).alloc (Nat.le_refl _) _).alloc (by simp) _
  have N0 : Hid (((w.alloc (Obj.cells #[.int .i64 a, .int .i64 b, .int .i64 c, .slice A n cap] 24)).alloc (Obj.cells (ba m) 32)).heap.size = S + 2) := size_al (size_al hS _) _
  have him := inf23 m hm
  have C8 : (∀ w', Below S w w' → Calls Tryd.prog 8 #[.agg #[.int .i64 a, .int .i64 b, .int .i64 c, .slice A n cap]] w' fun e w'' => e = .returned (.bool (mayP (at8 flat) n a b c)) ∧ Below w'.heap.size w' w'') := fun w' hb => kMay A n cap flat a b c w' (SW.out w' hb) hc hc2
  have C22 : (∀ w', Below S w w' → Calls Tryd.prog 22 #[.slice A2 len cap2] w' fun e w'' => e = .returned (.bool (decide (riseP xs))) ∧ Below w'.heap.size w' w'') := fun w' hb => kRise A2 len cap2 xs w' (RW.out w' hb) hl hd hd2
  have C14 : (∀ w', Below S w w' → Calls Tryd.prog 14 #[.agg #[.int .i64 a, .int .i64 b, .int .i64 c, .slice A n cap], .agg (ba m), .slice A2 len cap2] w' fun e w'' => e = .returned (.int .i64 (cnt (at8 flat) n m xs)) ∧ Below w'.heap.size w' w'') := fun w' hb => kCount A n cap flat a b c m A2 len cap2 xs w' (KW.out w' hb) (SW.out w' hb) hm hbt (RW.out w' hb) hl hd hd2 h64 hl64
  have HE := Lib.hid (enough_p (at8 flat) n a b c m xs).symm
  obtain ⟨F, hF⟩ : ∃ F, at8 flat = F := ⟨_, rfl⟩
  rw [hF] at HE C8 C14 ⊢
  rw [HLE.out] at HE
  obtain ⟨g, hg⟩ : ∃ g, mayP F n a b c = g := ⟨_, rfl⟩
  obtain ⟨r, hrr⟩ : ∃ r, decide (riseP xs) = r := ⟨_, rfl⟩
  obtain ⟨t, ht⟩ : ∃ t, cnt F n m xs = t := ⟨_, rfl⟩
  rw [hg] at C8 HE
  rw [hrr] at C22 HE
  rw [ht] at C14 HE
  obtain ⟨z, hz⟩ : ∃ z, decide ((t : Int) = (len : Int)) = z := ⟨_, rfl⟩
  have hz2 : ((t : Int) == (len : Int)) = z := hz
  have hz3 : (t == len) = z := by rw [← hz]; exact decide_eq_decide.2 (by omega)
  rw [hz] at HE
  have S2 : Hid (S < ((w.alloc (Obj.cells #[.int .i64 a, .int .i64 b, .int .i64 c, .slice A n cap] 24)).alloc (Obj.cells (ba m) 32)).heap.size) := lt_of_block P0.out
  have S3 : Hid (S + 1 < ((w.alloc (Obj.cells #[.int .i64 a, .int .i64 b, .int .i64 c, .slice A n cap] 24)).alloc (Obj.cells (ba m) 32)).heap.size) := lt_of_block M0.out
  have C14L : Hid (∀ w', Below S w w' → Calls Tryd.prog 14 #[.agg #[.int .i64 a, .int .i64 b, .int .i64 c, .slice A n cap], .agg #[.int .u8 m0, .int .u8 m1, .int .u8 m2, .int .u8 m3, .int .u8 m4, .int .u8 m5, .int .u8 m6, .int .u8 m7], .slice A2 len cap2] w' fun e w'' => e = .returned (.int .i64 t) ∧ Below w'.heap.size w' w'') := fun w' hb => by
    have := C14 w' hb
    rw [hmm, ba_lit] at this
    exact this
  have HMM := Lib.hid hmm
  obtain ⟨c0, c1, c2, c3⟩ := pb_cells P0.out
  clear C14
  have C8 := Lib.hid C8
  have C22 := Lib.hid C22
  clear hmm hF hg hrr ht hz hk hs hm hbt hr hl hc hc2 hd hd2 h64 hl64
  cases g
  · rw [HE.out]
    go_enter Tryd.func12, Tryd.ntmps12
    go_wp2_with (first
      | (go_at_call 8
         refine (C8.out _ B0.out).mono ?_
         rintro e w1 ⟨rfl, hb⟩
         have B1 : Hid (Below S w w1) := B0.out.trans (hb.mono (Nat.le_of_lt S2.out))
         have P1 : Hid (PB w1 S a b c (.slice A n cap)) := (hb.block _ S2.out).trans P0.out
         have M1 : Hid (BA w1 (S + 1) 32 m) := (hb.block _ S3.out).trans M0.out
         have S4 : Hid (S ≤ w1.heap.size) := Nat.le_of_lt (lt_of_block P1.out)
         clear hb c0 c1 c2 c3
         obtain ⟨c0, c1, c2, c3⟩ := pb_cells P1.out)
      | fail)
    go_ret
    exact ⟨by simp, by (try rw [HS.out]); exact B1.out⟩
  · by_cases hcl : c ≤ (len : Int)
    · have dd : decide (c ≤ (len : Int)) = true := decide_eq_true hcl
      cases r
      · rw [HE.out, dd]
        go_enter Tryd.func12, Tryd.ntmps12
        go_wp2_with (first
          | (go_at_call 8
             refine (C8.out _ B0.out).mono ?_
             rintro e w1 ⟨rfl, hb⟩
             have B1 : Hid (Below S w w1) := B0.out.trans (hb.mono (Nat.le_of_lt S2.out))
             have P1 : Hid (PB w1 S a b c (.slice A n cap)) := (hb.block _ S2.out).trans P0.out
             have M1 : Hid (BA w1 (S + 1) 32 m) := (hb.block _ S3.out).trans M0.out
             have S4 : Hid (S ≤ w1.heap.size) := Nat.le_of_lt (lt_of_block P1.out)
             clear hb c0 c1 c2 c3
             obtain ⟨c0, c1, c2, c3⟩ := pb_cells P1.out)
          | (go_at_call 22
             refine (C22.out _ B1.out).mono ?_
             rintro e w2 ⟨rfl, hb⟩
             have B2 : Hid (Below S w w2) := B1.out.trans (hb.mono S4.out)
             have P2 : Hid (PB w2 S a b c (.slice A n cap)) := (hb.block _ (lt_of_block P1.out)).trans P1.out
             have M2 : Hid (BA w2 (S + 1) 32 m) := (hb.block _ (lt_of_block M1.out)).trans M1.out
             have q0 : w2.cell? ⟨S + 1, 0, none⟩ = some (.int .u8 m0) := by have h := ba_cell M2.out 0 (by rw [HM.out]; decide); rw [HMM.out] at h; exact h
             have q1 : w2.cell? ⟨S + 1, 1, none⟩ = some (.int .u8 m1) := by have h := ba_cell M2.out 1 (by rw [HM.out]; decide); rw [HMM.out] at h; exact h
             have q2 : w2.cell? ⟨S + 1, 2, none⟩ = some (.int .u8 m2) := by have h := ba_cell M2.out 2 (by rw [HM.out]; decide); rw [HMM.out] at h; exact h
             have q3 : w2.cell? ⟨S + 1, 3, none⟩ = some (.int .u8 m3) := by have h := ba_cell M2.out 3 (by rw [HM.out]; decide); rw [HMM.out] at h; exact h
             have q4 : w2.cell? ⟨S + 1, 4, none⟩ = some (.int .u8 m4) := by have h := ba_cell M2.out 4 (by rw [HM.out]; decide); rw [HMM.out] at h; exact h
             have q5 : w2.cell? ⟨S + 1, 5, none⟩ = some (.int .u8 m5) := by have h := ba_cell M2.out 5 (by rw [HM.out]; decide); rw [HMM.out] at h; exact h
             have q6 : w2.cell? ⟨S + 1, 6, none⟩ = some (.int .u8 m6) := by have h := ba_cell M2.out 6 (by rw [HM.out]; decide); rw [HMM.out] at h; exact h
             have q7 : w2.cell? ⟨S + 1, 7, none⟩ = some (.int .u8 m7) := by have h := ba_cell M2.out 7 (by rw [HM.out]; decide); rw [HMM.out] at h; exact h
             have S5 : Hid (S ≤ w2.heap.size) := Nat.le_of_lt (lt_of_block P2.out)
             clear hb c0 c1 c2 c3
             obtain ⟨c0, c1, c2, c3⟩ := pb_cells P2.out)
          | fail)
        go_ret
        exact ⟨by simp, by (try rw [HS.out]); exact B2.out⟩
      · rw [HE.out, dd]
        go_enter Tryd.func12, Tryd.ntmps12
        go_wp2_with (first
          | (go_at_call 8
             refine (C8.out _ B0.out).mono ?_
             rintro e w1 ⟨rfl, hb⟩
             have B1 : Hid (Below S w w1) := B0.out.trans (hb.mono (Nat.le_of_lt S2.out))
             have P1 : Hid (PB w1 S a b c (.slice A n cap)) := (hb.block _ S2.out).trans P0.out
             have M1 : Hid (BA w1 (S + 1) 32 m) := (hb.block _ S3.out).trans M0.out
             have S4 : Hid (S ≤ w1.heap.size) := Nat.le_of_lt (lt_of_block P1.out)
             clear hb c0 c1 c2 c3
             obtain ⟨c0, c1, c2, c3⟩ := pb_cells P1.out)
          | (go_at_call 22
             refine (C22.out _ B1.out).mono ?_
             rintro e w2 ⟨rfl, hb⟩
             have B2 : Hid (Below S w w2) := B1.out.trans (hb.mono S4.out)
             have P2 : Hid (PB w2 S a b c (.slice A n cap)) := (hb.block _ (lt_of_block P1.out)).trans P1.out
             have M2 : Hid (BA w2 (S + 1) 32 m) := (hb.block _ (lt_of_block M1.out)).trans M1.out
             have q0 : w2.cell? ⟨S + 1, 0, none⟩ = some (.int .u8 m0) := by have h := ba_cell M2.out 0 (by rw [HM.out]; decide); rw [HMM.out] at h; exact h
             have q1 : w2.cell? ⟨S + 1, 1, none⟩ = some (.int .u8 m1) := by have h := ba_cell M2.out 1 (by rw [HM.out]; decide); rw [HMM.out] at h; exact h
             have q2 : w2.cell? ⟨S + 1, 2, none⟩ = some (.int .u8 m2) := by have h := ba_cell M2.out 2 (by rw [HM.out]; decide); rw [HMM.out] at h; exact h
             have q3 : w2.cell? ⟨S + 1, 3, none⟩ = some (.int .u8 m3) := by have h := ba_cell M2.out 3 (by rw [HM.out]; decide); rw [HMM.out] at h; exact h
             have q4 : w2.cell? ⟨S + 1, 4, none⟩ = some (.int .u8 m4) := by have h := ba_cell M2.out 4 (by rw [HM.out]; decide); rw [HMM.out] at h; exact h
             have q5 : w2.cell? ⟨S + 1, 5, none⟩ = some (.int .u8 m5) := by have h := ba_cell M2.out 5 (by rw [HM.out]; decide); rw [HMM.out] at h; exact h
             have q6 : w2.cell? ⟨S + 1, 6, none⟩ = some (.int .u8 m6) := by have h := ba_cell M2.out 6 (by rw [HM.out]; decide); rw [HMM.out] at h; exact h
             have q7 : w2.cell? ⟨S + 1, 7, none⟩ = some (.int .u8 m7) := by have h := ba_cell M2.out 7 (by rw [HM.out]; decide); rw [HMM.out] at h; exact h
             have S5 : Hid (S ≤ w2.heap.size) := Nat.le_of_lt (lt_of_block P2.out)
             clear hb c0 c1 c2 c3
             obtain ⟨c0, c1, c2, c3⟩ := pb_cells P2.out)
          | (go_at_call 14
             refine (C14L.out _ B2.out).mono ?_
             rintro e w3 ⟨rfl, hb⟩
             have B3 : Hid (Below S w w3) := B2.out.trans (hb.mono S5.out)
             clear hb c0 c1 c2 c3)
          | fail)
        go_ret
        exact ⟨by simp, by (try rw [HS.out]); exact B3.out⟩
    · have dd : decide (c ≤ (len : Int)) = false := decide_eq_false hcl
      rw [HE.out, dd]
      go_enter Tryd.func12, Tryd.ntmps12
      go_wp2_with (first
        | (go_at_call 8
           refine (C8.out _ B0.out).mono ?_
           rintro e w1 ⟨rfl, hb⟩
           have B1 : Hid (Below S w w1) := B0.out.trans (hb.mono (Nat.le_of_lt S2.out))
           have P1 : Hid (PB w1 S a b c (.slice A n cap)) := (hb.block _ S2.out).trans P0.out
           have M1 : Hid (BA w1 (S + 1) 32 m) := (hb.block _ S3.out).trans M0.out
           have S4 : Hid (S ≤ w1.heap.size) := Nat.le_of_lt (lt_of_block P1.out)
           clear hb c0 c1 c2 c3
           obtain ⟨c0, c1, c2, c3⟩ := pb_cells P1.out)
        | fail)
      go_ret
      exact ⟨by simp, by (try rw [HS.out]); exact B1.out⟩
end Go.Proofs.YtfneopmgckejdaaDoor
