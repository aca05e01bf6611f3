/-
  Check.
-/
import Derived.Test.YthdejiadokpafaaDoorM7
namespace Go.Proofs.YthdejiadokpafaaDoor
open Go.RowKit
/-- is it so? -/
def chkB (root leaf : List Int) (i n : Int) (m : Nat) (pr : List Int) : Bool := (decide (0 ≤ i) && (decide (i < n) && decide (n ≤ 65536))) && (decide (m = stepsF n.toNat i.toNat n.toNat) && decide (leadF n.toNat leaf i.toNat n.toNat m pr = root))
theorem eqh (x y : List Int) (w : World) (hx : x.length = 8) (hy : y.length = 8) : (Op.equalIn 10000 27 (.agg (ba x)) (.agg (ba y))).run Tryd.prog w = .ok (decide (x = y)) w := eq_ba 27 8 9998 Tryd.underlying27 x y w hx hy
attribute [local irreducible] ua da ba kk sw S8.run rt hs comp splice outB sha msg rootF leafH twoH stepsF cutN leadF
set_option maxRecDepth 100000 in
set_option maxHeartbeats 4000000 in
/-- where the numbers may not be -/
theorem p12a (root leaf : List Int) (i n : Int) (A : Option Addr) (m cap : Nat) (w : World) (hno : (decide (0 ≤ i) && (decide (i < n) && decide (n ≤ 65536))) = false) :
    Calls Tryd.prog 12 #[.agg (ba root), .agg (ba leaf), .int .i64 i, .int .i64 n, .slice A m cap] w fun e w' => e = .returned (.bool false) ∧ Below w.heap.size w w' := by
  have C : ∀ w, Calls Tryd.prog 16 #[.int .i64 i, .int .i64 n] w fun e w' => e = .returned (.bool false) ∧ w' = w := fun w => by
    have := p16 i n w
    rw [hno] at this
    exact this
  have HC := Lib.hid C
  obtain ⟨S, hS⟩ : ∃ S, w.heap.size = S := ⟨_, rfl⟩
  have B0 : Hid (Below w.heap.size w ((w.alloc (Obj.cells (ba root) 27)).alloc (Obj.cells (ba leaf) 27))) := ((Below.refl _ w).alloc (Nat.le_refl _) _).alloc (by simp) _
  clear C hno
  go_enter Tryd.func12, Tryd.ntmps12
  go_wp2_with fail
  clear hS
  generalize (w.alloc (Obj.cells (ba root) 27)).alloc (Obj.cells (ba leaf) 27) = w0 at *
  go_quiet ((go_at_call 16; exact Calls.quiet_of_same (HC.out _)))
  go_wp2
  go_ret
  exact ⟨rfl, below_drewN B0.out _⟩
set_option maxRecDepth 100000 in
set_option maxHeartbeats 4000000 in
/-- another length -/
theorem p12b (root leaf : List Int) (i n : Nat) (A : Option Addr) (m cap : Nat) (w : World) (hi : i < n) (h64 : n ≤ 65536) (hm : ¬ m = stepsF n i n) :
    Calls Tryd.prog 12 #[.agg (ba root), .agg (ba leaf), .int .i64 i, .int .i64 n, .slice A m cap] w fun e w' => e = .returned (.bool false) ∧ Below w.heap.size w w' := by
  have HC : Hid (∀ w, Calls Tryd.prog 16 #[.int .i64 i, .int .i64 n] w fun e w' => e = .returned (.bool true) ∧ w' = w) := fun w => by
    have := p16 (i : Int) (n : Int) w
    rw [decide_eq_true (by omega), decide_eq_true (by omega), decide_eq_true (by omega)] at this
    exact this
  have HD : Hid (∀ w, Calls Tryd.prog 21 #[.int .i64 i, .int .i64 n] w fun e w' => e = .returned (.int .i64 (stepsF n i n)) ∧ w' = w) := fun w => p21 i n w hi h64
  generalize stepsF n i n = s at *
  have q1 : ¬ (m : Int) = (s : Int) := by omega
  have B0 : Hid (Below w.heap.size w ((w.alloc (Obj.cells (ba root) 27)).alloc (Obj.cells (ba leaf) 27))) := ((Below.refl _ w).alloc (Nat.le_refl _) _).alloc (by simp) _
  obtain ⟨S, hS⟩ : ∃ S, w.heap.size = S := ⟨_, rfl⟩
  clear hi h64 hm
  go_enter Tryd.func12, Tryd.ntmps12
  go_wp2_with fail
  clear hS
  generalize (w.alloc (Obj.cells (ba root) 27)).alloc (Obj.cells (ba leaf) 27) = w0 at *
  go_quiet (first | (go_at_call 16; exact Calls.quiet_of_same (HC.out _)) | (go_at_call 21; exact Calls.quiet_of_same (HD.out _)))
  go_wp2
  go_ret
  exact ⟨rfl, below_drewN B0.out _⟩
set_option maxRecDepth 100000 in
set_option maxHeartbeats 4000000 in
/-- the right length -/
theorem p12c (root leaf : List Int) (i n : Nat) (A : Option Addr) (m cap : Nat) (pr : List Int) (w : World) (hk : Keys w) (hr : root.length = 8) (hl : leaf.length = 8) (hs : Src w A (8 * m) pr) (hi : i < n) (h64 : n ≤ 65536) (hm : m = stepsF n i n) (hcap : m ≤ cap) :
    Calls Tryd.prog 12 #[.agg (ba root), .agg (ba leaf), .int .i64 i, .int .i64 n, .slice A m cap] w fun e w' => e = .returned (.bool (decide (leadF n leaf i n m pr = root))) ∧ Below w.heap.size w w' := by
  have HC : Hid (∀ w, Calls Tryd.prog 16 #[.int .i64 i, .int .i64 n] w fun e w' => e = .returned (.bool true) ∧ w = w') := fun w => by
    have := p16 (i : Int) (n : Int) w
    rw [decide_eq_true (by omega), decide_eq_true (by omega), decide_eq_true (by omega)] at this
    exact this.mono fun _ _ h => ⟨h.1, h.2.symm⟩
  have HD : Hid (∀ w, Calls Tryd.prog 21 #[.int .i64 i, .int .i64 n] w fun e w' => e = .returned (.int .i64 m) ∧ w = w') := fun w => by
    rw [hm]
    exact (p21 i n w hi h64).mono fun _ _ h => ⟨h.1, h.2.symm⟩
  have B0 : Hid (Below w.heap.size w ((w.alloc (Obj.cells (ba root) 27)).alloc (Obj.cells (ba leaf) 27))) := ((Below.refl _ w).alloc (Nat.le_refl _) _).alloc (by simp) _
  have HK := Lib.hid hk
  have HX := Lib.hid hs
  have HP : Hid (0 < w.heap.size) := keys_pos hk
  obtain ⟨S, hS⟩ : ∃ S, w.heap.size = S := ⟨_, rfl⟩
  have HS := Lib.hid hS
  have T0 : Hid (BA (w.alloc (Obj.cells (ba root) 27)) S 27 root) := by subst hS; exact heap_alloc_last w _
  have T1 : Hid (BA ((w.alloc (Obj.cells (ba root) 27)).alloc (Obj.cells (ba leaf) 27)) (S + 1) 27 leaf) := by
    subst hS
    have := heap_alloc_last (w.alloc (Obj.cells (ba root) 27)) (Obj.cells (ba leaf) 27)
    simp only [World.size_alloc] at this
    exact this
  have T2 : Hid (BA ((w.alloc (Obj.cells (ba root) 27)).alloc (Obj.cells (ba leaf) 27)) S 27 root) := (Below.heap_alloc _ _ _ (lt_of_block T0.out)).trans T0.out
  obtain ⟨r0, r1, r2, r3, r4, r5, r6, r7, hr8⟩ := c8cells _ hr
  obtain ⟨a0, a1, a2, a3, a4, a5, a6, a7, ha8⟩ := c8cells _ hl
  have HR8 := Lib.hid hr8
  have HA8 := Lib.hid ha8
  obtain ⟨y0, y1, y2, y3, y4, y5, y6, y7, hy8⟩ := c8cells _ (leadF_len n leaf i n m pr)
  have HY8 := Lib.hid hy8
  have KW : Hid (∀ w', Below S w w' → Keys w') := fun w' hb => keys_below HK.out hb (by rw [← HS.out]; exact HP.out)
  have SW : Hid (∀ w', Below S w w' → Src w' A (8 * m) pr) := fun w' hb => HX.out.keep fun q hq => hb.block q (by rw [← HS.out]; exact hq)
  have E1 : Hid (∀ w', Below S w w' → Calls Tryd.prog 22 #[.agg #[.int .u8 a0, .int .u8 a1, .int .u8 a2, .int .u8 a3, .int .u8 a4, .int .u8 a5, .int .u8 a6, .int .u8 a7], .int .i64 i, .int .i64 n, .slice A m cap] w' fun e w'' => e = .returned (.agg #[.int .u8 y0, .int .u8 y1, .int .u8 y2, .int .u8 y3, .int .u8 y4, .int .u8 y5, .int .u8 y6, .int .u8 y7]) ∧ Below w'.heap.size w' w'') := fun w' hb => by
    have := p22 n leaf i n m cap A pr w' (KW.out w' hb) hl (SW.out w' hb) hi (Nat.le_refl _) h64 hm hcap
    rw [hy8, ha8, ba_lit, ba_lit] at this
    exact this
  obtain ⟨b, hb⟩ : ∃ b, decide (leadF n leaf i n m pr = root) = b := ⟨_, rfl⟩
  have FQ : Hid (∀ w, (Op.equalIn 10000 27 (.agg #[.int .u8 y0, .int .u8 y1, .int .u8 y2, .int .u8 y3, .int .u8 y4, .int .u8 y5, .int .u8 y6, .int .u8 y7]) (.agg #[.int .u8 r0, .int .u8 r1, .int .u8 r2, .int .u8 r3, .int .u8 r4, .int .u8 r5, .int .u8 r6, .int .u8 r7])).run Tryd.prog w = .ok b w) := fun w => by
    have := eqh [y0, y1, y2, y3, y4, y5, y6, y7] [r0, r1, r2, r3, r4, r5, r6, r7] w rfl rfl
    rw [← hy8, ← hr8, hb, hy8, hr8, ba_lit, ba_lit] at this
    exact this
  rw [hb]
  clear hb hy8 ha8 hr8 hm hcap hi h64 hs hk hr hl T0
  go_enter Tryd.func12, Tryd.ntmps12
  go_wp2_with fail
  clear hS
  generalize (w.alloc (Obj.cells (ba root) 27)).alloc (Obj.cells (ba leaf) 27) = w0 at *
  have SL : Hid (S + 1 < w0.heap.size) := lt_of_block T1.out
  have BS : Hid (Below S w w0) := by rw [← HS.out]; exact B0.out
  have KF : Hid (∀ w', Below w0.heap.size w0 w' → (w'.cell? ⟨S, 0, none⟩ = some (.int .u8 r0) ∧ w'.cell? ⟨S, 1, none⟩ = some (.int .u8 r1) ∧ w'.cell? ⟨S, 2, none⟩ = some (.int .u8 r2) ∧ w'.cell? ⟨S, 3, none⟩ = some (.int .u8 r3) ∧ w'.cell? ⟨S, 4, none⟩ = some (.int .u8 r4) ∧ w'.cell? ⟨S, 5, none⟩ = some (.int .u8 r5) ∧ w'.cell? ⟨S, 6, none⟩ = some (.int .u8 r6) ∧ w'.cell? ⟨S, 7, none⟩ = some (.int .u8 r7)) ∧ (w'.cell? ⟨S + 1, 0, none⟩ = some (.int .u8 a0) ∧ w'.cell? ⟨S + 1, 1, none⟩ = some (.int .u8 a1) ∧ w'.cell? ⟨S + 1, 2, none⟩ = some (.int .u8 a2) ∧ w'.cell? ⟨S + 1, 3, none⟩ = some (.int .u8 a3) ∧ w'.cell? ⟨S + 1, 4, none⟩ = some (.int .u8 a4) ∧ w'.cell? ⟨S + 1, 5, none⟩ = some (.int .u8 a5) ∧ w'.cell? ⟨S + 1, 6, none⟩ = some (.int .u8 a6) ∧ w'.cell? ⟨S + 1, 7, none⟩ = some (.int .u8 a7))) := fun w' hb => ⟨cells8 (t := 27) r0 r1 r2 r3 r4 r5 r6 r7 (by have := (hb.block S (by have := SL.out; omega)).trans T2.out; rw [HR8.out] at this; exact this), cells8 (t := 27) a0 a1 a2 a3 a4 a5 a6 a7 (by have := (hb.block (S + 1) SL.out).trans T1.out; rw [HA8.out] at this; exact this)⟩
  have X0 : Hid (Below w0.heap.size w0 w0) := Below.refl _ _
  obtain ⟨⟨u0, u1, u2, u3, u4, u5, u6, u7⟩, ⟨t0, t1, t2, t3, t4, t5, t6, t7⟩⟩ := KF.out w0 X0.out
  have fq := FQ.out
  go_region_held3 (fun w' => (w'.cell? ⟨S, 0, none⟩ = some (.int .u8 r0) ∧ w'.cell? ⟨S, 1, none⟩ = some (.int .u8 r1) ∧ w'.cell? ⟨S, 2, none⟩ = some (.int .u8 r2) ∧ w'.cell? ⟨S, 3, none⟩ = some (.int .u8 r3) ∧ w'.cell? ⟨S, 4, none⟩ = some (.int .u8 r4) ∧ w'.cell? ⟨S, 5, none⟩ = some (.int .u8 r5) ∧ w'.cell? ⟨S, 6, none⟩ = some (.int .u8 r6) ∧ w'.cell? ⟨S, 7, none⟩ = some (.int .u8 r7)) ∧ (w'.cell? ⟨S + 1, 0, none⟩ = some (.int .u8 a0) ∧ w'.cell? ⟨S + 1, 1, none⟩ = some (.int .u8 a1) ∧ w'.cell? ⟨S + 1, 2, none⟩ = some (.int .u8 a2) ∧ w'.cell? ⟨S + 1, 3, none⟩ = some (.int .u8 a3) ∧ w'.cell? ⟨S + 1, 4, none⟩ = some (.int .u8 a4) ∧ w'.cell? ⟨S + 1, 5, none⟩ = some (.int .u8 a5) ∧ w'.cell? ⟨S + 1, 6, none⟩ = some (.int .u8 a6) ∧ w'.cell? ⟨S + 1, 7, none⟩ = some (.int .u8 a7))) (first | (with_reducible exact KKa.out) | go_keep)
    (first
      | (go_at_call 16; refine (HC.out _).mono ?_; rintro e w1 ⟨rfl, rfl⟩)
      | (go_at_call 21; refine (HD.out _).mono ?_; rintro e w1 ⟨rfl, rfl⟩)
      | (go_at_call 22; refine (E1.out _ (by first | exact BS.out | exact BS.out.drew)).mono ?_; rintro e wa ⟨rfl, hba⟩; have Xa : Hid (Below w0.heap.size w0 wa) := (by first | exact X0.out.trans (hba.mono X0.out.size) | exact X0.out.drew.trans (hba.mono X0.out.drew.size)); have KKa := Lib.hid (KF.out wa Xa.out); clear hba))
  rename_i hHeld
  clear hHeld
  go_wp2
  go_ret
  exact ⟨rfl, by rw [HS.out]; exact BS.out.trans (Xa.out.mono (by have := SL.out; omega))⟩
end Go.Proofs.YthdejiadokpafaaDoor
