/-
  The document's Check.
-/
import Derived.Test.YthdejiadokpafaaDoorM8
namespace Go.Proofs.YthdejiadokpafaaDoor
open Go.RowKit
attribute [local irreducible] ua da ba kk sw S8.run rt hs comp splice outB sha msg rootF leafH twoH stepsF cutN leadF
set_option maxRecDepth 100000 in
set_option maxHeartbeats 4000000 in
/-- where the numbers may not be -/
theorem r13a (root leaf : List Int) (i n : Int) (A : Option Addr) (m cap : Nat) (w : World) (hno : (decide (0 ≤ i) && (decide (i < n) && decide (n ≤ 65536))) = false) :
    Calls Tryd.prog 13 #[.agg (ba root), .agg (ba leaf), .int .i64 i, .int .i64 n, .slice A m cap] w fun e w' => e = .returned (.bool false) ∧ Below w.heap.size w w' := by
  have B0 : Hid (Below w.heap.size w ((w.alloc (Obj.cells (ba root) 27)).alloc (Obj.cells (ba leaf) 27))) := ((Below.refl _ w).alloc (Nat.le_refl _) _).alloc (by simp) _
  by_cases h1 : n < 1
  · clear hno
    go_enter Tryd.func13, Tryd.ntmps13
    go_wp2
    go_ret
    exact ⟨rfl, B0.out⟩
  · by_cases h2 : 65536 < n
    · clear hno
      go_enter Tryd.func13, Tryd.ntmps13
      go_wp2
      go_ret
      exact ⟨rfl, B0.out⟩
    · by_cases h3 : i < 0
      · clear hno
        go_enter Tryd.func13, Tryd.ntmps13
        go_wp2
        go_ret
        exact ⟨rfl, B0.out⟩
      · have h4 : n ≤ i := by
          rw [decide_eq_true (by omega : (0:Int) ≤ i), decide_eq_true (by omega : n ≤ 65536)] at hno
          simp at hno
          exact hno
        clear hno
        go_enter Tryd.func13, Tryd.ntmps13
        go_wp2
        go_ret
        exact ⟨rfl, B0.out⟩
set_option maxRecDepth 100000 in
set_option maxHeartbeats 4000000 in
/-- where they may be -/
theorem r13b (root leaf : List Int) (i n : Nat) (A : Option Addr) (m cap : Nat) (pr : List Int) (w : World) (hk : Keys w) (hr : root.length = 8) (hl : leaf.length = 8) (hs : Src w A (8 * m) pr) (hi : i < n) (h64 : n ≤ 65536) (hm : m ≤ 1000000) (hcap : m ≤ cap) :
    Calls Tryd.prog 13 #[.agg (ba root), .agg (ba leaf), .int .i64 i, .int .i64 n, .slice A m cap] w fun e w' => e = .returned (.bool (decide (m = stepsF n i n) && decide (leadF n leaf i n m pr = root))) ∧ Below w.heap.size w w' := by
  have h4 := z27
  have HP : Hid (0 < w.heap.size) := keys_pos hk
  have HLF := Lib.hid hl
  have HRT := Lib.hid hr
  obtain ⟨S, hS⟩ : ∃ S, w.heap.size = S := ⟨_, rfl⟩
  have T0 : Hid (BA (w.alloc (Obj.cells (ba root) 27)) S 27 root) := by subst hS; exact heap_alloc_last w _
  have T1 : Hid (BA ((w.alloc (Obj.cells (ba root) 27)).alloc (Obj.cells (ba leaf) 27)) (S + 1) 27 leaf) := by
    show _ = _
    subst hS
    have := heap_alloc_last (w.alloc (Obj.cells (ba root) 27)) (Obj.cells (ba leaf) 27)
    simp only [World.size_alloc] at this
    exact this
  have T2 : Hid (BA ((w.alloc (Obj.cells (ba root) 27)).alloc (Obj.cells (ba leaf) 27)) S 27 root) := (Below.heap_alloc _ _ _ (lt_of_block T0.out)).trans T0.out
  have B0 : Hid (Below S w ((w.alloc (Obj.cells (ba root) 27)).alloc (Obj.cells (ba leaf) 27))) := by subst hS; exact ((Below.refl _ w).alloc (Nat.le_refl _) _).alloc (by simp) _
  have HS := Lib.hid hS
  have KS := keys_below hk B0.out (by rw [← hS]; exact HP.out)
  have C := Lib.hid (r23 n leaf i n m cap A pr _ KS hl (hs.keep fun q hq => B0.out.block q (by rw [← hS]; exact hq)) hi (Nat.le_refl _) h64 hm hcap)
  have q1 : ¬ (n : Int) < 1 := by omega
  have q2 : ¬ (65536 : Int) < (n : Int) := by omega
  have q3 : ¬ (i : Int) < 0 := by omega
  have q4 : ¬ (n : Int) ≤ (i : Int) := by omega
  obtain ⟨b, hb⟩ : ∃ b, decide (m = stepsF n i n) = b := ⟨_, rfl⟩
  rw [hb] at C ⊢
  obtain ⟨hh, hhh⟩ : ∃ hh, leadF n leaf i n m pr = hh := ⟨_, rfl⟩
  rw [hhh] at C ⊢
  clear hb hhh KS hk hs hi h64 hm hcap hr hl T0
  go_enter Tryd.func13, Tryd.ntmps13
  go_wp2_with (first
    | (refine wpList_load_row rfl 27 (.tmp 6) rfl (S + 1) rfl 27 (ba leaf) (0, 0) _ T1.out Tryd.underlying27 rfl (sz s27 (by rw [ba_size, HLF.out])) ?_)
    | fail)
  clear hS
  generalize (w.alloc (Obj.cells (ba root) 27)).alloc (Obj.cells (ba leaf) 27) = w0 at *
  go_at_call 23
  refine C.out.mono ?_
  rintro e w1 ⟨h, hl, heq, rfl, hba⟩
  have HEQ := Lib.hid heq
  have HL := Lib.hid hl
  have T3 : Hid (BA w1 S 27 root) := (hba.block S (lt_of_block T2.out)).trans T2.out
  have B1 : Hid (Below S w w1) := B0.out.trans (hba.mono (by have := lt_of_block T1.out; omega))
  obtain ⟨V, hV⟩ : ∃ V, w1.heap.size = V := ⟨_, rfl⟩
  have T4 : Hid (BA (w1.alloc (Obj.cells (ba (zeros 8)) 27)) V 27 (zeros 8)) := by subst hV; exact heap_alloc_last w1 _
  have T5 : Hid (BA (w1.alloc (Obj.cells (ba (zeros 8)) 27)) S 27 root) := (Below.heap_alloc _ _ _ (lt_of_block T3.out)).trans T3.out
  have LV : Hid (S < V) := by have := lt_of_block T3.out; rw [hV] at this; exact this
  have B2 : Hid (Below S w (w1.alloc (Obj.cells (ba (zeros 8)) 27))) := B1.out.alloc (by rw [hV]; exact Nat.le_of_lt LV.out) _
  have fq := fun w => eqh h root w HL.out HRT.out
  clear hl heq hba
  cases b
  · go_wp2_with (first
      | (refine wpList_store_rowTo rfl 27 (.tmp 11) (.tmp 34) rfl rfl V (ba h) rfl rfl 27 (ba (zeros 8)) T4.out (sz s27 (by rw [ba_size, HL.out])) (by rw [ba_size, ba_size, HL.out]; rfl) (ba_one _) ?_)
      | fail)
    go_ret
    exact ⟨rfl, by rw [HS.out]; exact below_setRow B2.out (Nat.le_of_lt LV.out) _⟩
  · obtain rfl := HEQ.out rfl
    obtain ⟨wz, hz⟩ : ∃ wz, (w1.alloc (Obj.cells (ba (zeros 8)) 27)).setRow V (ba h) = wz := ⟨_, rfl⟩
    have T6 : Hid (BA wz V 27 h) := by rw [← hz]; exact setRow_heap _ _ _ _ _ _ T4.out
    have T7 : Hid (BA wz S 27 root) := by rw [← hz]; exact (Below.block (below_setRow (Below.refl V _) (Nat.le_refl _) _) S LV.out).trans T5.out
    have B3 : Hid (Below S w wz) := by rw [← hz]; exact below_setRow B2.out (Nat.le_of_lt LV.out) _
    have HZ := Lib.hid hz
    obtain ⟨b, hb⟩ : ∃ b, decide (h = root) = b := ⟨_, rfl⟩
    rw [hb] at fq
    obtain ⟨y0, y1, y2, y3, y4, y5, y6, y7, hy8⟩ := c8cells _ HL.out
    obtain ⟨r0, r1, r2, r3, r4, r5, r6, r7, hr8⟩ := c8cells _ HRT.out
    have HB := Lib.hid hb
    have FQ : Hid (∀ w, (Op.equalIn 10000 27 (.agg #[.int .u8 y0, .int .u8 y1, .int .u8 y2, .int .u8 y3, .int .u8 y4, .int .u8 y5, .int .u8 y6, .int .u8 y7]) (.agg #[.int .u8 r0, .int .u8 r1, .int .u8 r2, .int .u8 r3, .int .u8 r4, .int .u8 r5, .int .u8 r6, .int .u8 r7])).run Tryd.prog w = .ok b w) := fun w => by
      have := fq w
      rw [hy8, hr8, ba_lit, ba_lit] at this
      exact this
    obtain ⟨u0, u1, u2, u3, u4, u5, u6, u7⟩ := cells8 (t := 27) y0 y1 y2 y3 y4 y5 y6 y7 (by rw [← hy8]; exact T6.out)
    obtain ⟨t0, t1, t2, t3, t4, t5, t6, t7⟩ := cells8 (t := 27) r0 r1 r2 r3 r4 r5 r6 r7 (by rw [← hr8]; exact T7.out)
    have fqq := FQ.out
    clear hz hb fq hy8 hr8
    go_wp2_with (first
      | (refine wpList_store_rowTo rfl 27 (.tmp 11) (.tmp 34) rfl rfl V (ba h) rfl rfl 27 (ba (zeros 8)) T4.out (sz s27 (by rw [ba_size, HL.out])) (by rw [ba_size, ba_size, HL.out]; rfl) (ba_one _) ?_; rw [HZ.out])
      | fail)
    go_ret
    exact ⟨by rw [HB.out]; rfl, by rw [HS.out]; exact B3.out⟩
end Go.Proofs.YthdejiadokpafaaDoor
