/-
  Check.
-/
import Derived.Test.YtfneopmgckejdaaDoorM7
namespace Go.Proofs.YtfneopmgckejdaaDoor
open Go.RowKit
/-- is it so? -/
def chkB (root leaf : List Int) (i n : Int) (m : Nat) (pr : List Int) : Bool := (decide (0 ≤ i) && (decide (i < n) && decide (n ≤ 65536))) && (decide (m = stepsF n.toNat i.toNat n.toNat) && decide (leadF n.toNat leaf i.toNat n.toNat m pr = root))
theorem eqh (x y : List Int) (w : World) (hx : x.length = 8) (hy : y.length = 8) : (Op.equalIn 10000 32 (.agg (ba x)) (.agg (ba y))).run Tryd.prog w = .ok (decide (x = y)) w := eq_ba 32 8 9998 Tryd.underlying32 x y w hx hy
attribute [local irreducible] ua da ba kk sw S8.run rt hs comp splice outB sha msg rootF leafH twoH stepsF cutN leadF
set_option maxRecDepth 100000 in
set_option maxHeartbeats 4000000 in
/-- where the numbers may not be -/
theorem p12a (root leaf : List Int) (i n : Int) (A : Option Addr) (m cap : Nat) (w : World) (hno : (decide (0 ≤ i) && (decide (i < n) && decide (n ≤ 65536))) = false) :
    Calls Tryd.prog 31 #[.agg (ba root), .agg (ba leaf), .int .i64 i, .int .i64 n, .slice A m cap] w fun e w' => e = .returned (.bool false) ∧ Below w.heap.size w w' := by
  have C : ∀ w, Calls Tryd.prog 42 #[.int .i64 i, .int .i64 n] w fun e w' => e = .returned (.bool false) ∧ w' = w := fun w => by
    have := p16 i n w
    rw [hno] at this
    exact this
  have HC := Lib.hid C
  obtain ⟨S, hS⟩ : ∃ S, w.heap.size = S := ⟨_, rfl⟩
  have B0 : Hid (Below w.heap.size w ((w.alloc (Obj.cells (ba root) 32)).alloc (Obj.cells (ba leaf) 32))) := ((Below.refl _ w).alloc (Nat.le_refl _) _).alloc (by simp) _
  clear C hno
  go_enter Tryd.func31, Tryd.ntmps31
  go_wp2_with fail
  clear hS
  generalize (w.alloc (Obj.cells (ba root) 32)).alloc (Obj.cells (ba leaf) 32) = w0 at *
  go_quiet ((go_at_call 42; exact Calls.quiet_of_same (HC.out _)))
  go_wp2
  go_ret
  exact ⟨rfl, below_drewN B0.out _⟩
set_option maxRecDepth 100000 in
set_option maxHeartbeats 4000000 in
/-- another length -/
theorem p12b (root leaf : List Int) (i n : Nat) (A : Option Addr) (m cap : Nat) (w : World) (hi : i < n) (h64 : n ≤ 65536) (hm : ¬ m = stepsF n i n) :
    Calls Tryd.prog 31 #[.agg (ba root), .agg (ba leaf), .int .i64 i, .int .i64 n, .slice A m cap] w fun e w' => e = .returned (.bool false) ∧ Below w.heap.size w w' := by
  have HC : Hid (∀ w, Calls Tryd.prog 42 #[.int .i64 i, .int .i64 n] w fun e w' => e = .returned (.bool true) ∧ w' = w) := fun w => by
    have := p16 (i : Int) (n : Int) w
    rw [decide_eq_true (by omega), decide_eq_true (by omega), decide_eq_true (by omega)] at this
    exact this
  have HD : Hid (∀ w, Calls Tryd.prog 43 #[.int .i64 i, .int .i64 n] w fun e w' => e = .returned (.int .i64 (stepsF n i n)) ∧ w' = w) := fun w => p21 i n w hi h64
  generalize stepsF n i n = s at *
  have q1 : ¬ (m : Int) = (s : Int) := by omega
  have B0 : Hid (Below w.heap.size w ((w.alloc (Obj.cells (ba root) 32)).alloc (Obj.cells (ba leaf) 32))) := ((Below.refl _ w).alloc (Nat.le_refl _) _).alloc (by simp) _
  obtain ⟨S, hS⟩ : ∃ S, w.heap.size = S := ⟨_, rfl⟩
  clear hi h64 hm
  go_enter Tryd.func31, Tryd.ntmps31
  go_wp2_with fail
  clear hS
  generalize (w.alloc (Obj.cells (ba root) 32)).alloc (Obj.cells (ba leaf) 32) = w0 at *
  go_quiet (first | (go_at_call 42; exact Calls.quiet_of_same (HC.out _)) | (go_at_call 43; exact Calls.quiet_of_same (HD.out _)))
  go_wp2
  go_ret
  exact ⟨rfl, below_drewN B0.out _⟩
set_option maxRecDepth 100000 in
set_option maxHeartbeats 4000000 in
/-- the right length -/
theorem p12c (root leaf : List Int) (i n : Nat) (A : Option Addr) (m cap : Nat) (pr : List Int) (w : World) (hk : Keys w) (hr : root.length = 8) (hl : leaf.length = 8) (hs : Src w A (8 * m) pr) (hi : i < n) (h64 : n ≤ 65536) (hm : m = stepsF n i n) (hcap : m ≤ cap) :
    Calls Tryd.prog 31 #[.agg (ba root), .agg (ba leaf), .int .i64 i, .int .i64 n, .slice A m cap] w fun e w' => e = .returned (.bool (decide (leadF n leaf i n m pr = root))) ∧ Below w.heap.size w w' := by
  have HC : Hid (∀ w, Calls Tryd.prog 42 #[.int .i64 i, .int .i64 n] w fun e w' => e = .returned (.bool true) ∧ w = w') := fun w => by
    have := p16 (i : Int) (n : Int) w
    rw [decide_eq_true (by omega), decide_eq_true (by omega), decide_eq_true (by omega)] at this
    exact this.mono fun _ _ h => ⟨h.1, h.2.symm⟩
  have HD : Hid (∀ w, Calls Tryd.prog 43 #[.int .i64 i, .int .i64 n] w fun e w' => e = .returned (.int .i64 m) ∧ w = w') := fun w => by
    rw [hm]
    exact (p21 i n w hi h64).mono fun _ _ h => ⟨h.1, h.2.symm⟩
  have B0 : Hid (Below w.heap.size w ((w.alloc (Obj.cells (ba root) 32)).alloc (Obj.cells (ba leaf) 32))) := ((Below.refl _ w).alloc (Nat.le_refl _) _).alloc (by simp) _
  have HK := Lib.hid hk
  have HX := Lib.hid hs
  have HP : Hid (0 < w.heap.size) := keys_pos hk
  obtain ⟨S, hS⟩ : ∃ S, w.heap.size = S := ⟨_, rfl⟩
  have HS := Lib.hid hS
  have T0 : Hid (BA (w.alloc (Obj.cells (ba root) 32)) S 32 root) := by subst hS; exact heap_alloc_last w _
  have T1 : Hid (BA ((w.alloc (Obj.cells (ba root) 32)).alloc (Obj.cells (ba leaf) 32)) (S + 1) 32 leaf) := by
    subst hS
    have := heap_alloc_last (w.alloc (Obj.cells (ba root) 32)) (Obj.cells (ba leaf) 32)
    simp only [World.size_alloc] at this
    exact this
  have T2 : Hid (BA ((w.alloc (Obj.cells (ba root) 32)).alloc (Obj.cells (ba leaf) 32)) S 32 root) := (Below.heap_alloc _ _ _ (lt_of_block T0.out)).trans T0.out
  obtain ⟨r0, r1, r2, r3, r4, r5, r6, r7, hr8⟩ := c8cells _ hr
  obtain ⟨a0, a1, a2, a3, a4, a5, a6, a7, ha8⟩ := c8cells _ hl
  have HR8 := Lib.hid hr8
  have HA8 := Lib.hid ha8
  obtain ⟨y0, y1, y2, y3, y4, y5, y6, y7, hy8⟩ := c8cells _ (leadF_len n leaf i n m pr)
  have HY8 := Lib.hid hy8
  have KW : Hid (∀ w', Below S w w' → Keys w') := fun w' hb => keys_below HK.out hb (by rw [← HS.out]; exact HP.out)
  have SW : Hid (∀ w', Below S w w' → Src w' A (8 * m) pr) := fun w' hb => HX.out.keep fun q hq => hb.block q (by rw [← HS.out]; exact hq)
  have E1 : Hid (∀ w', Below S w w' → Calls Tryd.prog 44 #[.agg #[.int .u8 a0, .int .u8 a1, .int .u8 a2, .int .u8 a3, .int .u8 a4, .int .u8 a5, .int .u8 a6, .int .u8 a7], .int .i64 i, .int .i64 n, .slice A m cap] w' fun e w'' => e = .returned (.agg #[.int .u8 y0, .int .u8 y1, .int .u8 y2, .int .u8 y3, .int .u8 y4, .int .u8 y5, .int .u8 y6, .int .u8 y7]) ∧ Below w'.heap.size w' w'') := fun w' hb => by
    have := p22 n leaf i n m cap A pr w' (KW.out w' hb) hl (SW.out w' hb) hi (Nat.le_refl _) h64 hm hcap
    rw [hy8, ha8, ba_lit, ba_lit] at this
    exact this
  obtain ⟨b, hb⟩ : ∃ b, decide (leadF n leaf i n m pr = root) = b := ⟨_, rfl⟩
  have FQ : Hid (∀ w, (Op.equalIn 10000 32 (.agg #[.int .u8 y0, .int .u8 y1, .int .u8 y2, .int .u8 y3, .int .u8 y4, .int .u8 y5, .int .u8 y6, .int .u8 y7]) (.agg #[.int .u8 r0, .int .u8 r1, .int .u8 r2, .int .u8 r3, .int .u8 r4, .int .u8 r5, .int .u8 r6, .int .u8 r7])).run Tryd.prog w = .ok b w) := fun w => by
    have := eqh [y0, y1, y2, y3, y4, y5, y6, y7] [r0, r1, r2, r3, r4, r5, r6, r7] w rfl rfl
    rw [← hy8, ← hr8, hb, hy8, hr8, ba_lit, ba_lit] at this
    exact this
  rw [hb]
  clear hb hy8 ha8 hr8 hm hcap hi h64 hs hk hr hl T0
  go_enter Tryd.func31, Tryd.ntmps31
  go_wp2_with fail
  clear hS
  generalize (w.alloc (Obj.cells (ba root) 32)).alloc (Obj.cells (ba leaf) 32) = w0 at *
  have SL : Hid (S + 1 < w0.heap.size) := lt_of_block T1.out
  have BS : Hid (Below S w w0) := by rw [← HS.out]; exact B0.out
  have KF : Hid (∀ w', Below w0.heap.size w0 w' → (w'.cell? ⟨S, 0, none⟩ = some (.int .u8 r0) ∧ w'.cell? ⟨S, 1, none⟩ = some (.int .u8 r1) ∧ w'.cell? ⟨S, 2, none⟩ = some (.int .u8 r2) ∧ w'.cell? ⟨S, 3, none⟩ = some (.int .u8 r3) ∧ w'.cell? ⟨S, 4, none⟩ = some (.int .u8 r4) ∧ w'.cell? ⟨S, 5, none⟩ = some (.int .u8 r5) ∧ w'.cell? ⟨S, 6, none⟩ = some (.int .u8 r6) ∧ w'.cell? ⟨S, 7, none⟩ = some (.int .u8 r7)) ∧ (w'.cell? ⟨S + 1, 0, none⟩ = some (.int .u8 a0) ∧ w'.cell? ⟨S + 1, 1, none⟩ = some (.int .u8 a1) ∧ w'.cell? ⟨S + 1, 2, none⟩ = some (.int .u8 a2) ∧ w'.cell? ⟨S + 1, 3, none⟩ = some (.int .u8 a3) ∧ w'.cell? ⟨S + 1, 4, none⟩ = some (.int .u8 a4) ∧ w'.cell? ⟨S + 1, 5, none⟩ = some (.int .u8 a5) ∧ w'.cell? ⟨S + 1, 6, none⟩ = some (.int .u8 a6) ∧ w'.cell? ⟨S + 1, 7, none⟩ = some (.int .u8 a7))) := fun w' hb => ⟨cells8 (t := 32) r0 r1 r2 r3 r4 r5 r6 r7 (by have := (hb.block S (by have := SL.out; omega)).trans T2.out; rw [HR8.out] at this; exact this), cells8 (t := 32) a0 a1 a2 a3 a4 a5 a6 a7 (by have := (hb.block (S + 1) SL.out).trans T1.out; rw [HA8.out] at this; exact this)⟩
  have X0 : Hid (Below w0.heap.size w0 w0) := Below.refl _ _
  obtain ⟨⟨u0, u1, u2, u3, u4, u5, u6, u7⟩, ⟨t0, t1, t2, t3, t4, t5, t6, t7⟩⟩ := KF.out w0 X0.out
  have fq := FQ.out
  go_region_held3 (fun w' => (w'.cell? ⟨S, 0, none⟩ = some (.int .u8 r0) ∧ w'.cell? ⟨S, 1, none⟩ = some (.int .u8 r1) ∧ w'.cell? ⟨S, 2, none⟩ = some (.int .u8 r2) ∧ w'.cell? ⟨S, 3, none⟩ = some (.int .u8 r3) ∧ w'.cell? ⟨S, 4, none⟩ = some (.int .u8 r4) ∧ w'.cell? ⟨S, 5, none⟩ = some (.int .u8 r5) ∧ w'.cell? ⟨S, 6, none⟩ = some (.int .u8 r6) ∧ w'.cell? ⟨S, 7, none⟩ = some (.int .u8 r7)) ∧ (w'.cell? ⟨S + 1, 0, none⟩ = some (.int .u8 a0) ∧ w'.cell? ⟨S + 1, 1, none⟩ = some (.int .u8 a1) ∧ w'.cell? ⟨S + 1, 2, none⟩ = some (.int .u8 a2) ∧ w'.cell? ⟨S + 1, 3, none⟩ = some (.int .u8 a3) ∧ w'.cell? ⟨S + 1, 4, none⟩ = some (.int .u8 a4) ∧ w'.cell? ⟨S + 1, 5, none⟩ = some (.int .u8 a5) ∧ w'.cell? ⟨S + 1, 6, none⟩ = some (.int .u8 a6) ∧ w'.cell? ⟨S + 1, 7, none⟩ = some (.int .u8 a7))) (first | (with_reducible exact KKa.out) | go_keep)
    (first
      | (go_at_call 42; refine (HC.out _).mono ?_; rintro e w1 ⟨rfl, rfl⟩)
      | (go_at_call 43; refine (HD.out _).mono ?_; rintro e w1 ⟨rfl, rfl⟩)
      | (go_at_call 44; refine (E1.out _ (by first | exact BS.out | exact BS.out.drew)).mono ?_; rintro e wa ⟨rfl, hba⟩; have Xa : Hid (Below w0.heap.size w0 wa) := (by first | exact X0.out.trans (hba.mono X0.out.size) | exact X0.out.drew.trans (hba.mono X0.out.drew.size)); have KKa := Lib.hid (KF.out wa Xa.out); clear hba))
  rename_i hHeld
  clear hHeld
  go_wp2
  go_ret
  exact ⟨rfl, by rw [HS.out]; exact BS.out.trans (Xa.out.mono (by have := SL.out; omega))⟩
end Go.Proofs.YtfneopmgckejdaaDoor

/-
  The document's Check.
-/
namespace Go.Proofs.YtfneopmgckejdaaDoor
open Go.RowKit
attribute [local irreducible] ua da ba kk sw S8.run rt hs comp splice outB sha msg rootF leafH twoH stepsF cutN leadF
set_option maxRecDepth 100000 in
set_option maxHeartbeats 4000000 in
/-- where the numbers may not be -/
theorem r13a (root leaf : List Int) (i n : Int) (A : Option Addr) (m cap : Nat) (w : World) (hno : (decide (0 ≤ i) && (decide (i < n) && decide (n ≤ 65536))) = false) :
    Calls Tryd.prog 41 #[.agg (ba root), .agg (ba leaf), .int .i64 i, .int .i64 n, .slice A m cap] w fun e w' => e = .returned (.bool false) ∧ Below w.heap.size w w' := by
  have B0 : Hid (Below w.heap.size w ((w.alloc (Obj.cells (ba root) 32)).alloc (Obj.cells (ba leaf) 32))) := ((Below.refl _ w).alloc (Nat.le_refl _) _).alloc (by simp) _
  by_cases h1 : n < 1
  · clear hno
    go_enter Tryd.func41, Tryd.ntmps41
    go_wp2
    go_ret
    exact ⟨rfl, B0.out⟩
  · by_cases h2 : 65536 < n
    · clear hno
      go_enter Tryd.func41, Tryd.ntmps41
      go_wp2
      go_ret
      exact ⟨rfl, B0.out⟩
    · by_cases h3 : i < 0
      · clear hno
        go_enter Tryd.func41, Tryd.ntmps41
        go_wp2
        go_ret
        exact ⟨rfl, B0.out⟩
      · have h4 : n ≤ i := by
          rw [decide_eq_true (by omega : (0:Int) ≤ i), decide_eq_true (by omega : n ≤ 65536)] at hno
          simp at hno
          exact hno
        clear hno
        go_enter Tryd.func41, Tryd.ntmps41
        go_wp2
        go_ret
        exact ⟨rfl, B0.out⟩
set_option maxRecDepth 100000 in
set_option maxHeartbeats 4000000 in
/-- where they may be -/
theorem r13b (root leaf : List Int) (i n : Nat) (A : Option Addr) (m cap : Nat) (pr : List Int) (w : World) (hk : Keys w) (hr : root.length = 8) (hl : leaf.length = 8) (hs : Src w A (8 * m) pr) (hi : i < n) (h64 : n ≤ 65536) (hm : m ≤ 1000000) (hcap : m ≤ cap) :
    Calls Tryd.prog 41 #[.agg (ba root), .agg (ba leaf), .int .i64 i, .int .i64 n, .slice A m cap] w fun e w' => e = .returned (.bool (decide (m = stepsF n i n) && decide (leadF n leaf i n m pr = root))) ∧ Below w.heap.size w w' := by
  have h4 := z27
  have HP : Hid (0 < w.heap.size) := keys_pos hk
  have HLF := Lib.hid hl
  have HRT := Lib.hid hr
  obtain ⟨S, hS⟩ : ∃ S, w.heap.size = S := ⟨_, rfl⟩
  have T0 : Hid (BA (w.alloc (Obj.cells (ba root) 32)) S 32 root) := by subst hS; exact heap_alloc_last w _
  have T1 : Hid (BA ((w.alloc (Obj.cells (ba root) 32)).alloc (Obj.cells (ba leaf) 32)) (S + 1) 32 leaf) := by
    show _ = _
    subst hS
    have := heap_alloc_last (w.alloc (Obj.cells (ba root) 32)) (Obj.cells (ba leaf) 32)
    simp only [World.size_alloc] at this
    exact this
  have T2 : Hid (BA ((w.alloc (Obj.cells (ba root) 32)).alloc (Obj.cells (ba leaf) 32)) S 32 root) := (Below.heap_alloc _ _ _ (lt_of_block T0.out)).trans T0.out
  have B0 : Hid (Below S w ((w.alloc (Obj.cells (ba root) 32)).alloc (Obj.cells (ba leaf) 32))) := by subst hS; exact ((Below.refl _ w).alloc (Nat.le_refl _) _).alloc (by simp) _
  have HS := Lib.hid hS
  have KS := keys_below hk B0.out (by rw [← hS]; exact HP.out)
  have C := Lib.hid (r23 n leaf i n m cap A pr _ KS hl (hs.keep fun q hq => B0.out.block q (by rw [← hS]; exact hq)) hi (Nat.le_refl _) h64 hm hcap)
  have q1 : ¬ (n : Int) < 1 := by omega
  have q2 : ¬ (65536 : Int) < (n : Int) := by omega
  have q3 : ¬ (i : Int) < 0 := by omega
  have q4 : ¬ (n : Int) ≤ (i : Int) := by omega
  obtain ⟨b, hb⟩ : ∃ b, decide (m = stepsF n i n) = b := ⟨_, rfl⟩
  rw [hb] at C ⊢
  obtain ⟨hh, hhh⟩ : ∃ hh, leadF n leaf i n m pr = hh := ⟨_, rfl⟩
  rw [hhh] at C ⊢
  clear hb hhh KS hk hs hi h64 hm hcap hr hl T0
  go_enter Tryd.func41, Tryd.ntmps41
  go_wp2_with (first
    | (refine wpList_load_row rfl 32 (.tmp 6) rfl (S + 1) rfl 32 (ba leaf) (0, 0) _ T1.out Tryd.underlying32 rfl (sz s27 (by rw [ba_size, HLF.out])) ?_)
    | fail)
  clear hS
  generalize (w.alloc (Obj.cells (ba root) 32)).alloc (Obj.cells (ba leaf) 32) = w0 at *
  go_at_call 50
  refine C.out.mono ?_
  rintro e w1 ⟨h, hl, heq, rfl, hba⟩
  have HEQ := Lib.hid heq
  have HL := Lib.hid hl
  have T3 : Hid (BA w1 S 32 root) := (hba.block S (lt_of_block T2.out)).trans T2.out
  have B1 : Hid (Below S w w1) := B0.out.trans (hba.mono (by have := lt_of_block T1.out; omega))
  obtain ⟨V, hV⟩ : ∃ V, w1.heap.size = V := ⟨_, rfl⟩
  have T4 : Hid (BA (w1.alloc (Obj.cells (ba (zeros 8)) 32)) V 32 (zeros 8)) := by subst hV; exact heap_alloc_last w1 _
  have T5 : Hid (BA (w1.alloc (Obj.cells (ba (zeros 8)) 32)) S 32 root) := (Below.heap_alloc _ _ _ (lt_of_block T3.out)).trans T3.out
  have LV : Hid (S < V) := by have := lt_of_block T3.out; rw [hV] at this; exact this
  have B2 : Hid (Below S w (w1.alloc (Obj.cells (ba (zeros 8)) 32))) := B1.out.alloc (by rw [hV]; exact Nat.le_of_lt LV.out) _
  have fq := fun w => eqh h root w HL.out HRT.out
  clear hl heq hba
  cases b
  · go_wp2_with (first
      | (refine wpList_store_rowTo rfl 32 (.tmp 11) (.tmp 34) rfl rfl V (ba h) rfl rfl 32 (ba (zeros 8)) T4.out (sz s27 (by rw [ba_size, HL.out])) (by rw [ba_size, ba_size, HL.out]; rfl) (ba_one _) ?_)
      | fail)
    go_ret
    exact ⟨rfl, by rw [HS.out]; exact below_setRow B2.out (Nat.le_of_lt LV.out) _⟩
  · obtain rfl := HEQ.out rfl
    obtain ⟨wz, hz⟩ : ∃ wz, (w1.alloc (Obj.cells (ba (zeros 8)) 32)).setRow V (ba h) = wz := ⟨_, rfl⟩
    have T6 : Hid (BA wz V 32 h) := by rw [← hz]; exact setRow_heap _ _ _ _ _ _ T4.out
    have T7 : Hid (BA wz S 32 root) := by rw [← hz]; exact (Below.block (below_setRow (Below.refl V _) (Nat.le_refl _) _) S LV.out).trans T5.out
    have B3 : Hid (Below S w wz) := by rw [← hz]; exact below_setRow B2.out (Nat.le_of_lt LV.out) _
    have HZ := Lib.hid hz
    obtain ⟨b, hb⟩ : ∃ b, decide (h = root) = b := ⟨_, rfl⟩
    rw [hb] at fq
    obtain ⟨y0, y1, y2, y3, y4, y5, y6, y7, hy8⟩ := c8cells _ HL.out
    obtain ⟨r0, r1, r2, r3, r4, r5, r6, r7, hr8⟩ := c8cells _ HRT.out
    have HB := Lib.hid hb
    have FQ : Hid (∀ w, (Op.equalIn 10000 32 (.agg #[.int .u8 y0, .int .u8 y1, .int .u8 y2, .int .u8 y3, .int .u8 y4, .int .u8 y5, .int .u8 y6, .int .u8 y7]) (.agg #[.int .u8 r0, .int .u8 r1, .int .u8 r2, .int .u8 r3, .int .u8 r4, .int .u8 r5, .int .u8 r6, .int .u8 r7])).run Tryd.prog w = .ok b w) := fun w => by
      have := fq w
      rw [hy8, hr8, ba_lit, ba_lit] at this
      exact this
    obtain ⟨u0, u1, u2, u3, u4, u5, u6, u7⟩ := cells8 (t := 32) y0 y1 y2 y3 y4 y5 y6 y7 (by rw [← hy8]; exact T6.out)
    obtain ⟨t0, t1, t2, t3, t4, t5, t6, t7⟩ := cells8 (t := 32) r0 r1 r2 r3 r4 r5 r6 r7 (by rw [← hr8]; exact T7.out)
    have fqq := FQ.out
    clear hz hb fq hy8 hr8
    go_wp2_with (first
      | (refine wpList_store_rowTo rfl 32 (.tmp 11) (.tmp 34) rfl rfl V (ba h) rfl rfl 32 (ba (zeros 8)) T4.out (sz s27 (by rw [ba_size, HL.out])) (by rw [ba_size, ba_size, HL.out]; rfl) (ba_one _) ?_; rw [HZ.out])
      | fail)
    go_ret
    exact ⟨by rw [HB.out]; rfl, by rw [HS.out]; exact B3.out⟩
end Go.Proofs.YtfneopmgckejdaaDoor
