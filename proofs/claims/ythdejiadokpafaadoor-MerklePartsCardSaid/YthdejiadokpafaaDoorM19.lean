/-
  The walk of MerkleParts.
-/
import Derived.Test.YthdejiadokpafaaDoorM17
import Derived.Deep.DeepCutAuto
namespace Go.Proofs.YthdejiadokpafaaDoor
open Go.RowKit
theorem bl_alloc {w x : World} (o : Obj) (h : Below w.heap.size w x) : Below w.heap.size w (x.alloc o) := h.alloc h.size _
theorem bl_drew {w x : World} (h : Below w.heap.size w x) : Below w.heap.size w x.drew := h.drew
theorem bl_set {w x : World} {G j : Nat} {v : Value} (h : Below w.heap.size w x) (hG : w.heap.size ≤ G) : Below w.heap.size w (x.setCell ⟨G, j, none⟩ v) := h.setCell hG _
theorem bl_call {w x y : World} (hb : Below x.heap.size x y) (h : Below w.heap.size w x) : Below w.heap.size w y := h.trans (hb.mono h.size)
theorem bcell {W w1 : World} (hb : Below W.heap.size W w1) : (∀ b o, b < W.heap.size → w1.cell? ⟨b, o, none⟩ = W.cell? ⟨b, o, none⟩) ∧ (∀ b o, b < W.heap.size → w1.frozen? ⟨b, o, none⟩ = W.frozen? ⟨b, o, none⟩) :=
  ⟨fun b o h => hb.cell (p := ⟨b, o, none⟩) h, fun b o h => hb.frozen (p := ⟨b, o, none⟩) h⟩
theorem undrew {x y : World} (h : Below x.drew.heap.size x.drew y) : Below x.heap.size x y := ⟨h.os, h.tape, h.output, h.size, h.block⟩
theorem BAcall1 {x y : World} {o : Obj} (h : Below (x.alloc o).heap.size (x.alloc o) y) : y.heap[x.heap.size]? = some o := (h.block _ (by simp)).trans (heap_alloc_last x o)
theorem BAcall2a {x y : World} {o o' : Obj} (h : Below ((x.alloc o).alloc o').heap.size ((x.alloc o).alloc o') y) : y.heap[x.heap.size]? = some o := (h.block _ (by simp; omega)).trans ((Below.heap_alloc _ _ _ (by simp)).trans (heap_alloc_last x o))
theorem BAcall2b {x y : World} {o o' : Obj} (h : Below ((x.alloc o).alloc o').heap.size ((x.alloc o).alloc o') y) : y.heap[x.heap.size + 1]? = some o' := by
  have := heap_alloc_last (x.alloc o) o'
  simp only [World.size_alloc] at this
  exact (h.block _ (by simp)).trans this
theorem put8_baZ {w : World} {b : Nat} (x0 x1 x2 x3 x4 x5 x6 x7 : Int) (h : BA w b 27 [0, 0, 0, 0, 0, 0, 0, 0]) : BA (put8 w b x0 x1 x2 x3 x4 x5 x6 x7) b 27 [x0, x1, x2, x3, x4, x5, x6, x7] := put8_ba x0 x1 x2 x3 x4 x5 x6 x7 h
theorem put8_else {w : World} {p q : Nat} (x0 x1 x2 x3 x4 x5 x6 x7 : Int) {t : TypeId} {l : List Int} (h : BA w p t l) (hne : p ≠ q) : BA (put8 w q x0 x1 x2 x3 x4 x5 x6 x7) p t l := by
  unfold put8
  exact heap_else _ _ hne (heap_else _ _ hne (heap_else _ _ hne (heap_else _ _ hne (heap_else _ _ hne (heap_else _ _ hne (heap_else _ _ hne (heap_else _ _ hne h)))))))
theorem ba_al {w : World} {p : Nat} {t : TypeId} {l : List Int} (o : Obj) (h : BA w p t l) : BA (w.alloc o) p t l := (Below.heap_alloc w o p (lt_of_block h)).trans h
theorem ba_new {w : World} {G : Nat} (x0 x1 x2 x3 x4 x5 x6 x7 : Int) (h : w.heap.size = G) : BA (w.alloc (Obj.cells #[.int .u8 x0, .int .u8 x1, .int .u8 x2, .int .u8 x3, .int .u8 x4, .int .u8 x5, .int .u8 x6, .int .u8 x7] 27)) G 27 [x0, x1, x2, x3, x4, x5, x6, x7] := by
  subst h
  rw [BA, ba_lit]
  exact heap_alloc_last w _
theorem put8_size (w : World) (b : Nat) (x0 x1 x2 x3 x4 x5 x6 x7 : Int) : (put8 w b x0 x1 x2 x3 x4 x5 x6 x7).heap.size = w.heap.size := by simp [put8]
theorem flat_last (P : List (List Int)) (h : List Int) (h8 : ∀ x ∈ P, x.length = 8) : ((P ++ [h]).flatten).drop (8 * P.length) = h := by
  have e : (P ++ [h]).flatten = P.flatten ++ h := by simp
  rw [e, ← flat_len P h8]
  simp
attribute [local irreducible] ua da ba kk sw S8.run rt hs comp splice outB sha msg rootF leafH twoH stepsF cutN leadF provL bvals rootV l24 chkB mayB pvT
set_option maxRecDepth 100000 in
set_option maxHeartbeats 16000000 in
theorem q6 (A : Option Addr) (n cap : Nat) (l : List Int) (w : World) (hk : Keys w) (hs : Src w A (8 * n) l) (hcap : n ≤ cap) (hmax : cap ≤ 9223372036854775807) :
    Calls Tryd.prog 6 #[.slice A n cap] w fun e w' => e = .returned (.bool true) ∧ Below w.heap.size w w' := by
  have HK := Lib.hid hk
  have HP : Hid (0 < w.heap.size) := keys_pos hk
  have HX := Lib.hid hs
  have KW : Hid (∀ w', Below w.heap.size w w' → Keys w') := fun w' hb => keys_below HK.out hb HP.out
  have SW : Hid (∀ w', Below w.heap.size w w' → Src w' A (8 * n) l) := fun w' hb => HX.out.keep fun q hq => hb.block q hq
  have C7 := Lib.hid (p7 w hk)
  have HLC : Hid (n ≤ cap ∧ cap ≤ 9223372036854775807) := ⟨hcap, hmax⟩
  have HLL : Hid (l.length = 8 * n) := hs.1
  by_cases hsm : n < 2
  · have q1 : (n : Int) < 2 := by omega
    clear hk hs hcap hmax
    go_enter Tryd.func6, Tryd.ntmps6
    go_wp2_with (go_at_call 7; refine C7.out.mono ?_; rintro e w1 ⟨rfl, hb1⟩; have B1 := Lib.hid hb1; clear hb1)
    go_ret
    exact ⟨rfl, B1.out⟩
  by_cases hbig : 200 < n
  · have q1 : ¬ (n : Int) < 2 := by omega
    have q2 : (200 : Int) < (n : Int) := by omega
    clear hk hs hcap hmax hbig hsm
    go_enter Tryd.func6, Tryd.ntmps6
    go_wp2_with (go_at_call 7; refine C7.out.mono ?_; rintro e w1 ⟨rfl, hb1⟩; have B1 := Lib.hid hb1; clear hb1)
    go_ret
    exact ⟨rfl, B1.out⟩
  have q1 : ¬ (n : Int) < 2 := by omega
  have q2 : ¬ (200 : Int) < (n : Int) := by omega
  have HN : Hid (2 ≤ n ∧ n ≤ 200) := ⟨by omega, by omega⟩
  obtain ⟨g, o, hA1⟩ := src_at HX.out (by omega)
  subst hA1
  obtain ⟨c1, c2, c3⟩ := cutN_lo n HN.out.1 (by have := HN.out; omega)
  clear hk hs hcap hmax hbig hsm
  go_enter Tryd.func6, Tryd.ntmps6
  go_wp2_with (first
    | (go_at_call 7; refine C7.out.mono ?_; rintro e w1 ⟨rfl, hb1⟩; have B1 := Lib.hid hb1; clear hb1)
    | fail)
  go_loop [3] (fun v => ∃ k : Nat, v = .int .i64 k ∧ k < n ∧ 1 ≤ k ∧ ∃ j, k = 2 ^ j) (fun v => n - (intOf v).toNat)
  case atStart => exact ⟨1, rfl, by omega, by omega, 0, rfl⟩
  case round =>
    obtain ⟨k, rfl, hk, h1, hj⟩ := hrel
    have HJ := Lib.hid hj
    have HK1 : Hid (1 ≤ k) := h1
    clear hj
    have e1 : 2 * (k : Int) = ((2 * k : Nat) : Int) := by omega
    by_cases hlt : 2 * k < n
    · obtain ⟨m, hm⟩ : ∃ m, 2 * k = m := ⟨_, rfl⟩
      rw [hm] at e1 hlt
      have HM := Lib.hid hm
      have m0 : m ≤ 65536 := by omega
      have q3 : (m : Int) < (n : Int) := by omega
      clear hm hk h1
      go_wp2
      go_round
      case rel =>
        obtain ⟨j, hj⟩ := HJ.out
        exact ⟨m, rfl, hlt, by have := HM.out; have := HK1.out; omega, j + 1, by rw [← HM.out, hj, Nat.pow_succ, Nat.mul_comm]⟩
      case measure => have := HM.out; have := HK1.out; simp [intOf]; omega
    · have HC : Hid (cutN n = k) := by
        obtain ⟨j, hj⟩ := HJ.out
        show _ = _
        rw [hj]
        exact cutN_pow j n (by omega) (by omega) (by have := HN.out; omega)
      obtain ⟨m, hm⟩ : ∃ m, 2 * k = m := ⟨_, rfl⟩
      rw [hm] at e1 hlt
      have m0 : m ≤ 131072 := by have := HN.out; omega
      have q3 : ¬ (m : Int) < (n : Int) := by omega
      have HCK : Hid (1 ≤ k ∧ k < n ∧ n ≤ 2 * k) := by have h := HC.out; rw [h] at c1 c2 c3; exact ⟨c1, c2, c3⟩
      obtain ⟨m1, hm1⟩ : ∃ m1, n - k = m1 := ⟨_, rfl⟩
      obtain ⟨d, hd⟩ : ∃ d, cap - k = d := ⟨_, rfl⟩
      have s1 := fun w => sl_front g o n cap k w (by have := HLC.out; omega) (by have := HLC.out; omega)
      have s2 := fun w => sl_back g o n cap k w (by omega) (by have := HLC.out; omega)
      rw [hm1, hd] at s2
      obtain ⟨x, hx⟩ : ∃ x, rootF k (l.take (8 * k)) = x := ⟨_, rfl⟩
      obtain ⟨y, hy⟩ : ∃ y, rootF m1 (l.drop (8 * k)) = y := ⟨_, rfl⟩
      obtain ⟨x0, x1, x2, x3, x4, x5, x6, x7, hx8⟩ := c8cells x (by rw [← hx]; exact rootF_len _ _)
      obtain ⟨y0, y1, y2, y3, y4, y5, y6, y7, hy8⟩ := c8cells y (by rw [← hy]; exact rootF_len _ _)
      have HX8 := Lib.hid hx8
      have HY8 := Lib.hid hy8
      have HXR := Lib.hid hx
      have HYR := Lib.hid hy
      have E1 : Hid (∀ w', Below w.heap.size w w' → Calls Tryd.prog 10 #[.slice (some ⟨g, o, none⟩) k cap] w' fun e w'' => e = .returned (.agg #[.int .u8 x0, .int .u8 x1, .int .u8 x2, .int .u8 x3, .int .u8 x4, .int .u8 x5, .int .u8 x6, .int .u8 x7]) ∧ Below w'.heap.size w' w'') := fun w' hb => by
        have := p10 _ k cap _ w' (KW.out w' hb) (src_take (SW.out w' hb) k (by omega)) (by have := HLC.out; omega) HLC.out.2
        rw [rootV_ok _ (by have := HCK.out; have := HN.out; omega), HXR.out, HX8.out, ba_lit] at this
        exact this
      have E2 : Hid (∀ w', Below w.heap.size w w' → Calls Tryd.prog 10 #[.slice (some ⟨g, o + k * 8, none⟩) m1 d] w' fun e w'' => e = .returned (.agg #[.int .u8 y0, .int .u8 y1, .int .u8 y2, .int .u8 y3, .int .u8 y4, .int .u8 y5, .int .u8 y6, .int .u8 y7]) ∧ Below w'.heap.size w' w'') := fun w' hb => by
        have hx := src_drop (SW.out w' hb) k hk
        rw [hm1] at hx
        have := p10 _ m1 d _ w' (KW.out w' hb) hx (by have := HLC.out; omega) (by have := HLC.out; omega)
        rw [rootV_ok _ (by have := HCK.out; have := HN.out; omega), HYR.out, HY8.out, ba_lit] at this
        exact this
      have HM1 := Lib.hid hm1
      have SB : Hid (∀ w', Below w1.heap.size w1 w' → Below w.heap.size w w') := fun w' hb => bl_call hb B1.out
      have X0 : Below w1.heap.size w1 w1 := Below.refl _ _
      have kk0 : (k : Int) < 65536 := by have := HN.out; omega
      clear hm hk h1 hx hy hx8 hy8 hm1 hd c1 c2 c3 hlt q1 q2
      go_upto_region 8 with (fail)
      go_cut [4, 5] (fun a b wx => ∃ G4 G5 : Nat, a = .pointer (some ⟨G4, 0, none⟩) ∧ b = .pointer (some ⟨G5, 0, none⟩) ∧ BA wx G4 27 [x0, x1, x2, x3, x4, x5, x6, x7] ∧ BA wx G5 27 [y0, y1, y2, y3, y4, y5, y6, y7] ∧ Below w1.heap.size w1 wx)
      case first =>
        go_region_held3 (fun w' => Below w1.heap.size w1 w') (first | (with_reducible exact bl_call (by with_reducible assumption) (by with_reducible assumption)) | (repeat (first | (with_reducible assumption) | (with_reducible refine bl_alloc _ ?_) | (with_reducible refine bl_drew ?_) | (with_reducible refine bl_set ?_ (by omega)))))
          (first
            | (go_at_call 10; (with_reducible refine (E1.out _ (SB.out _ (by with_reducible assumption))).mono ?_); rintro e wa ⟨rfl, hba⟩; (try (have hba2 := undrew hba; clear hba; have hba := hba2; clear hba2)); have hXa : Below w1.heap.size w1 wa := (by first | exact bl_call hba (by with_reducible assumption) | exact bl_call hba (bl_alloc _ (Below.refl _ _)) | exact bl_call hba (bl_alloc _ (bl_alloc _ (Below.refl _ _)))); have hza := Below.size hXa; (try have tA0 : BA wa w1.heap.size 27 [0, 0, 0, 0, 0, 0, 0, 0] := (by rw [BA, ba_lit]; first | exact BAcall1 hba | exact BAcall2a hba)); (try have tA1 : BA wa (w1.heap.size + 1) 27 [0, 0, 0, 0, 0, 0, 0, 0] := (by rw [BA, ba_lit]; exact BAcall2b hba)); (try have lA0 := lt_of_block tA0; have nA0 : w1.heap.size ≠ wa.heap.size := Nat.ne_of_lt lA0; have mA0 : wa.heap.size ≠ w1.heap.size := Nat.ne_of_gt lA0); (try have lA1 := lt_of_block tA1; have nA1 : w1.heap.size + 1 ≠ wa.heap.size := Nat.ne_of_lt lA1; have mA1 : wa.heap.size ≠ w1.heap.size + 1 := Nat.ne_of_gt lA1); clear hba)
            | (go_at_call 10; (with_reducible refine (E2.out _ (SB.out _ (by with_reducible assumption))).mono ?_); rintro e wb ⟨rfl, hbb⟩; (try (have hbb2 := undrew hbb; clear hbb; have hbb := hbb2; clear hbb2)); have hXb : Below w1.heap.size w1 wb := (by first | exact bl_call hbb (by with_reducible assumption) | exact bl_call hbb (bl_alloc _ hXa) | exact bl_call hbb (bl_alloc _ (bl_alloc _ hXa))); have hzb := Below.size hXb; have hY : Below wa.heap.size wa wb := (by first | exact hbb | exact bl_call hbb (bl_alloc _ (Below.refl _ _)) | exact bl_call hbb (bl_alloc _ (bl_alloc _ (Below.refl _ _)))); have hzY := Below.size hY; (try have tB0 : BA wb w1.heap.size 27 [0, 0, 0, 0, 0, 0, 0, 0] := (hY.block _ (lt_of_block tA0)).trans tA0); (try have tB1 : BA wb (w1.heap.size + 1) 27 [0, 0, 0, 0, 0, 0, 0, 0] := (hY.block _ (lt_of_block tA1)).trans tA1); (try have tB2 : BA wb wa.heap.size 27 [0, 0, 0, 0, 0, 0, 0, 0] := (by rw [BA, ba_lit]; first | exact BAcall1 hbb | exact BAcall2a hbb)); (try have tB3 : BA wb (wa.heap.size + 1) 27 [0, 0, 0, 0, 0, 0, 0, 0] := (by rw [BA, ba_lit]; exact BAcall2b hbb)); (try obtain ⟨c00, c01, c02, c03, c04, c05, c06, c07⟩ := cells8 (t := 27) 0 0 0 0 0 0 0 0 tB0; have f0 := free_of tB0; have lB0 := lt_of_block tB0; have nB0 : w1.heap.size ≠ wb.heap.size := Nat.ne_of_lt lB0; have mB0 : wb.heap.size ≠ w1.heap.size := Nat.ne_of_gt lB0); (try obtain ⟨c10, c11, c12, c13, c14, c15, c16, c17⟩ := cells8 (t := 27) 0 0 0 0 0 0 0 0 tB1; have f1 := free_of tB1; have lB1 := lt_of_block tB1; have nB1 : w1.heap.size + 1 ≠ wb.heap.size := Nat.ne_of_lt lB1; have mB1 : wb.heap.size ≠ w1.heap.size + 1 := Nat.ne_of_gt lB1); (try obtain ⟨c20, c21, c22, c23, c24, c25, c26, c27⟩ := cells8 (t := 27) 0 0 0 0 0 0 0 0 tB2; have f2 := free_of tB2; have lB2 := lt_of_block tB2; have nB2 : wa.heap.size ≠ wb.heap.size := Nat.ne_of_lt lB2; have mB2 : wb.heap.size ≠ wa.heap.size := Nat.ne_of_gt lB2); (try obtain ⟨c30, c31, c32, c33, c34, c35, c36, c37⟩ := cells8 (t := 27) 0 0 0 0 0 0 0 0 tB3; have f3 := free_of tB3; have lB3 := lt_of_block tB3; have nB3 : wa.heap.size + 1 ≠ wb.heap.size := Nat.ne_of_lt lB3; have mB3 : wb.heap.size ≠ wa.heap.size + 1 := Nat.ne_of_gt lB3); clear hbb))
        all_goals (go_wp2_with fail; go_meet)
        · (exact ⟨wb.heap.size, wb.heap.size + 1, rfl, rfl, ba_al _ (ba_new (w := wb) x0 x1 x2 x3 x4 x5 x6 x7 rfl), ba_new y0 y1 y2 y3 y4 y5 y6 y7 (by simp), bl_alloc _ (bl_alloc _ hXb)⟩)
        · (exact ⟨wb.heap.size + 1, wb.heap.size, rfl, rfl, ba_new x0 x1 x2 x3 x4 x5 x6 x7 (by simp), ba_al _ (ba_new (w := wb) y0 y1 y2 y3 y4 y5 y6 y7 rfl), bl_alloc _ (bl_alloc _ hXb)⟩)
        · (have hp := put8_baZ (w := wb) (b := wa.heap.size) x0 x1 x2 x3 x4 x5 x6 x7 tB2; have hq := put8_size wb wa.heap.size x0 x1 x2 x3 x4 x5 x6 x7; have hr := put8_below (b := wa.heap.size) x0 x1 x2 x3 x4 x5 x6 x7 hXb (by omega); change ∃ G4 G5 : Nat, _ ∧ _ ∧ BA ((put8 wb wa.heap.size x0 x1 x2 x3 x4 x5 x6 x7).alloc _) _ _ _ ∧ BA ((put8 wb wa.heap.size x0 x1 x2 x3 x4 x5 x6 x7).alloc _) _ _ _ ∧ Below _ _ ((put8 wb wa.heap.size x0 x1 x2 x3 x4 x5 x6 x7).alloc _); exact ⟨wa.heap.size, wb.heap.size, rfl, rfl, ba_al _ hp, ba_new y0 y1 y2 y3 y4 y5 y6 y7 hq, bl_alloc _ hr⟩)
        · (have ne1 : wa.heap.size ≠ (wa.heap.size + 1) := (by omega); have hp := put8_else (q := (wa.heap.size + 1)) y0 y1 y2 y3 y4 y5 y6 y7 (put8_baZ (w := wb) (b := wa.heap.size) x0 x1 x2 x3 x4 x5 x6 x7 tB2) ne1; have hq := put8_baZ (b := (wa.heap.size + 1)) y0 y1 y2 y3 y4 y5 y6 y7 (put8_else (w := wb) (q := wa.heap.size) x0 x1 x2 x3 x4 x5 x6 x7 tB3 ne1.symm); have hr := put8_below (b := (wa.heap.size + 1)) y0 y1 y2 y3 y4 y5 y6 y7 (put8_below (b := wa.heap.size) x0 x1 x2 x3 x4 x5 x6 x7 hXb (by omega)) (by omega); change ∃ G4 G5 : Nat, _ ∧ _ ∧ BA (put8 (put8 wb wa.heap.size x0 x1 x2 x3 x4 x5 x6 x7) (wa.heap.size + 1) y0 y1 y2 y3 y4 y5 y6 y7) _ _ _ ∧ BA (put8 (put8 wb wa.heap.size x0 x1 x2 x3 x4 x5 x6 x7) (wa.heap.size + 1) y0 y1 y2 y3 y4 y5 y6 y7) _ _ _ ∧ Below _ _ (put8 (put8 wb wa.heap.size x0 x1 x2 x3 x4 x5 x6 x7) (wa.heap.size + 1) y0 y1 y2 y3 y4 y5 y6 y7); exact ⟨wa.heap.size, (wa.heap.size + 1), rfl, rfl, hp, hq, hr⟩)
        · (have hp := put8_baZ (w := wb) (b := wa.heap.size) y0 y1 y2 y3 y4 y5 y6 y7 tB2; have hq := put8_size wb wa.heap.size y0 y1 y2 y3 y4 y5 y6 y7; have hr := put8_below (b := wa.heap.size) y0 y1 y2 y3 y4 y5 y6 y7 hXb (by omega); change ∃ G4 G5 : Nat, _ ∧ _ ∧ BA ((put8 wb wa.heap.size y0 y1 y2 y3 y4 y5 y6 y7).alloc _) _ _ _ ∧ BA ((put8 wb wa.heap.size y0 y1 y2 y3 y4 y5 y6 y7).alloc _) _ _ _ ∧ Below _ _ ((put8 wb wa.heap.size y0 y1 y2 y3 y4 y5 y6 y7).alloc _); exact ⟨wb.heap.size, wa.heap.size, rfl, rfl, ba_new x0 x1 x2 x3 x4 x5 x6 x7 hq, ba_al _ hp, bl_alloc _ hr⟩)
        · (have ne1 : (wa.heap.size + 1) ≠ wa.heap.size := (by omega); have hp := put8_else (q := wa.heap.size) y0 y1 y2 y3 y4 y5 y6 y7 (put8_baZ (w := wb) (b := (wa.heap.size + 1)) x0 x1 x2 x3 x4 x5 x6 x7 tB3) ne1; have hq := put8_baZ (b := wa.heap.size) y0 y1 y2 y3 y4 y5 y6 y7 (put8_else (w := wb) (q := (wa.heap.size + 1)) x0 x1 x2 x3 x4 x5 x6 x7 tB2 ne1.symm); have hr := put8_below (b := wa.heap.size) y0 y1 y2 y3 y4 y5 y6 y7 (put8_below (b := (wa.heap.size + 1)) x0 x1 x2 x3 x4 x5 x6 x7 hXb (by omega)) (by omega); change ∃ G4 G5 : Nat, _ ∧ _ ∧ BA (put8 (put8 wb (wa.heap.size + 1) x0 x1 x2 x3 x4 x5 x6 x7) wa.heap.size y0 y1 y2 y3 y4 y5 y6 y7) _ _ _ ∧ BA (put8 (put8 wb (wa.heap.size + 1) x0 x1 x2 x3 x4 x5 x6 x7) wa.heap.size y0 y1 y2 y3 y4 y5 y6 y7) _ _ _ ∧ Below _ _ (put8 (put8 wb (wa.heap.size + 1) x0 x1 x2 x3 x4 x5 x6 x7) wa.heap.size y0 y1 y2 y3 y4 y5 y6 y7); exact ⟨(wa.heap.size + 1), wa.heap.size, rfl, rfl, hp, hq, hr⟩)
        · (have hp := put8_baZ (w := wb) (b := w1.heap.size) x0 x1 x2 x3 x4 x5 x6 x7 tB0; have hq := put8_size wb w1.heap.size x0 x1 x2 x3 x4 x5 x6 x7; have hr := put8_below (b := w1.heap.size) x0 x1 x2 x3 x4 x5 x6 x7 hXb (by omega); change ∃ G4 G5 : Nat, _ ∧ _ ∧ BA ((put8 wb w1.heap.size x0 x1 x2 x3 x4 x5 x6 x7).alloc _) _ _ _ ∧ BA ((put8 wb w1.heap.size x0 x1 x2 x3 x4 x5 x6 x7).alloc _) _ _ _ ∧ Below _ _ ((put8 wb w1.heap.size x0 x1 x2 x3 x4 x5 x6 x7).alloc _); exact ⟨w1.heap.size, wb.heap.size, rfl, rfl, ba_al _ hp, ba_new y0 y1 y2 y3 y4 y5 y6 y7 hq, bl_alloc _ hr⟩)
        · (have ne1 : w1.heap.size ≠ wa.heap.size := (by omega); have hp := put8_else (q := wa.heap.size) y0 y1 y2 y3 y4 y5 y6 y7 (put8_baZ (w := wb) (b := w1.heap.size) x0 x1 x2 x3 x4 x5 x6 x7 tB0) ne1; have hq := put8_baZ (b := wa.heap.size) y0 y1 y2 y3 y4 y5 y6 y7 (put8_else (w := wb) (q := w1.heap.size) x0 x1 x2 x3 x4 x5 x6 x7 tB2 ne1.symm); have hr := put8_below (b := wa.heap.size) y0 y1 y2 y3 y4 y5 y6 y7 (put8_below (b := w1.heap.size) x0 x1 x2 x3 x4 x5 x6 x7 hXb (by omega)) (by omega); change ∃ G4 G5 : Nat, _ ∧ _ ∧ BA (put8 (put8 wb w1.heap.size x0 x1 x2 x3 x4 x5 x6 x7) wa.heap.size y0 y1 y2 y3 y4 y5 y6 y7) _ _ _ ∧ BA (put8 (put8 wb w1.heap.size x0 x1 x2 x3 x4 x5 x6 x7) wa.heap.size y0 y1 y2 y3 y4 y5 y6 y7) _ _ _ ∧ Below _ _ (put8 (put8 wb w1.heap.size x0 x1 x2 x3 x4 x5 x6 x7) wa.heap.size y0 y1 y2 y3 y4 y5 y6 y7); exact ⟨w1.heap.size, wa.heap.size, rfl, rfl, hp, hq, hr⟩)
        · (have ne1 : w1.heap.size ≠ (w1.heap.size + 1) := (by omega); have hp := put8_else (q := (w1.heap.size + 1)) y0 y1 y2 y3 y4 y5 y6 y7 (put8_baZ (w := wb) (b := w1.heap.size) x0 x1 x2 x3 x4 x5 x6 x7 tB0) ne1; have hq := put8_baZ (b := (w1.heap.size + 1)) y0 y1 y2 y3 y4 y5 y6 y7 (put8_else (w := wb) (q := w1.heap.size) x0 x1 x2 x3 x4 x5 x6 x7 tB1 ne1.symm); have hr := put8_below (b := (w1.heap.size + 1)) y0 y1 y2 y3 y4 y5 y6 y7 (put8_below (b := w1.heap.size) x0 x1 x2 x3 x4 x5 x6 x7 hXb (by omega)) (by omega); change ∃ G4 G5 : Nat, _ ∧ _ ∧ BA (put8 (put8 wb w1.heap.size x0 x1 x2 x3 x4 x5 x6 x7) (w1.heap.size + 1) y0 y1 y2 y3 y4 y5 y6 y7) _ _ _ ∧ BA (put8 (put8 wb w1.heap.size x0 x1 x2 x3 x4 x5 x6 x7) (w1.heap.size + 1) y0 y1 y2 y3 y4 y5 y6 y7) _ _ _ ∧ Below _ _ (put8 (put8 wb w1.heap.size x0 x1 x2 x3 x4 x5 x6 x7) (w1.heap.size + 1) y0 y1 y2 y3 y4 y5 y6 y7); exact ⟨w1.heap.size, (w1.heap.size + 1), rfl, rfl, hp, hq, hr⟩)
        · (have hp := put8_baZ (w := wb) (b := w1.heap.size) y0 y1 y2 y3 y4 y5 y6 y7 tB0; have hq := put8_size wb w1.heap.size y0 y1 y2 y3 y4 y5 y6 y7; have hr := put8_below (b := w1.heap.size) y0 y1 y2 y3 y4 y5 y6 y7 hXb (by omega); change ∃ G4 G5 : Nat, _ ∧ _ ∧ BA ((put8 wb w1.heap.size y0 y1 y2 y3 y4 y5 y6 y7).alloc _) _ _ _ ∧ BA ((put8 wb w1.heap.size y0 y1 y2 y3 y4 y5 y6 y7).alloc _) _ _ _ ∧ Below _ _ ((put8 wb w1.heap.size y0 y1 y2 y3 y4 y5 y6 y7).alloc _); exact ⟨wb.heap.size, w1.heap.size, rfl, rfl, ba_new x0 x1 x2 x3 x4 x5 x6 x7 hq, ba_al _ hp, bl_alloc _ hr⟩)
        · (have ne1 : wa.heap.size ≠ w1.heap.size := (by omega); have hp := put8_else (q := w1.heap.size) y0 y1 y2 y3 y4 y5 y6 y7 (put8_baZ (w := wb) (b := wa.heap.size) x0 x1 x2 x3 x4 x5 x6 x7 tB2) ne1; have hq := put8_baZ (b := w1.heap.size) y0 y1 y2 y3 y4 y5 y6 y7 (put8_else (w := wb) (q := wa.heap.size) x0 x1 x2 x3 x4 x5 x6 x7 tB0 ne1.symm); have hr := put8_below (b := w1.heap.size) y0 y1 y2 y3 y4 y5 y6 y7 (put8_below (b := wa.heap.size) x0 x1 x2 x3 x4 x5 x6 x7 hXb (by omega)) (by omega); change ∃ G4 G5 : Nat, _ ∧ _ ∧ BA (put8 (put8 wb wa.heap.size x0 x1 x2 x3 x4 x5 x6 x7) w1.heap.size y0 y1 y2 y3 y4 y5 y6 y7) _ _ _ ∧ BA (put8 (put8 wb wa.heap.size x0 x1 x2 x3 x4 x5 x6 x7) w1.heap.size y0 y1 y2 y3 y4 y5 y6 y7) _ _ _ ∧ Below _ _ (put8 (put8 wb wa.heap.size x0 x1 x2 x3 x4 x5 x6 x7) w1.heap.size y0 y1 y2 y3 y4 y5 y6 y7); exact ⟨wa.heap.size, w1.heap.size, rfl, rfl, hp, hq, hr⟩)
        · (have ne1 : (w1.heap.size + 1) ≠ w1.heap.size := (by omega); have hp := put8_else (q := w1.heap.size) y0 y1 y2 y3 y4 y5 y6 y7 (put8_baZ (w := wb) (b := (w1.heap.size + 1)) x0 x1 x2 x3 x4 x5 x6 x7 tB1) ne1; have hq := put8_baZ (b := w1.heap.size) y0 y1 y2 y3 y4 y5 y6 y7 (put8_else (w := wb) (q := (w1.heap.size + 1)) x0 x1 x2 x3 x4 x5 x6 x7 tB0 ne1.symm); have hr := put8_below (b := w1.heap.size) y0 y1 y2 y3 y4 y5 y6 y7 (put8_below (b := (w1.heap.size + 1)) x0 x1 x2 x3 x4 x5 x6 x7 hXb (by omega)) (by omega); change ∃ G4 G5 : Nat, _ ∧ _ ∧ BA (put8 (put8 wb (w1.heap.size + 1) x0 x1 x2 x3 x4 x5 x6 x7) w1.heap.size y0 y1 y2 y3 y4 y5 y6 y7) _ _ _ ∧ BA (put8 (put8 wb (w1.heap.size + 1) x0 x1 x2 x3 x4 x5 x6 x7) w1.heap.size y0 y1 y2 y3 y4 y5 y6 y7) _ _ _ ∧ Below _ _ (put8 (put8 wb (w1.heap.size + 1) x0 x1 x2 x3 x4 x5 x6 x7) w1.heap.size y0 y1 y2 y3 y4 y5 y6 y7); exact ⟨(w1.heap.size + 1), w1.heap.size, rfl, rfl, hp, hq, hr⟩)
      case rest =>
        rename World => wx
        obtain ⟨G4, G5, rfl, rfl, t4, t5, hbx⟩ := hcut
        have T4 := Lib.hid t4
        have T5 := Lib.hid t5
        have BX : Hid (Below w.heap.size w wx) := bl_call hbx B1.out
        have HKK : Hid (k < n) := HCK.out.2.1
        obtain ⟨nn, hnn⟩ : ∃ nn, n - 1 = nn := ⟨_, rfl⟩
        have HNN := Lib.hid hnn
        have e5 : (n : Int) - 1 = (nn : Int) := by have := HN.out; omega
        have hR0 : ∃ P0, provL n l 0 n = P0 ++ [[y0, y1, y2, y3, y4, y5, y6, y7]] ∧ (∀ z ∈ P0, z.length = 8) := by
          obtain ⟨n1, hn1⟩ : ∃ q, n = q + 1 := ⟨n - 1, by have := HN.out; omega⟩
          have h1 := provL_l n1 0 (n1 + 1) l (by have := HN.out; omega) (by rw [← hn1, HC.out]; exact HCK.out.1)
          rw [← hn1, HC.out, HM1.out, HYR.out, HY8.out] at h1
          exact ⟨_, h1, provL_8 _ _ _ _⟩
        have hR1 : ∃ P1, provL n l nn n = P1 ++ [[x0, x1, x2, x3, x4, x5, x6, x7]] ∧ (∀ z ∈ P1, z.length = 8) := by
          obtain ⟨n1, hn1⟩ : ∃ q, n = q + 1 := ⟨n - 1, by have := HN.out; omega⟩
          have h1 := provL_r n1 nn (n1 + 1) l (by have := HN.out; omega) (by rw [← hn1, HC.out]; have := HCK.out; have := HNN.out; omega)
          rw [← hn1, HC.out, HXR.out, HX8.out] at h1
          exact ⟨_, h1, provL_8 _ _ _ _⟩
        obtain ⟨P0, hP0, h80⟩ := hR0
        obtain ⟨P1, hP1, h81⟩ := hR1
        have F0 := Lib.hid (flat_last P0 [y0, y1, y2, y3, y4, y5, y6, y7] h80)
        have F1 := Lib.hid (flat_last P1 [x0, x1, x2, x3, x4, x5, x6, x7] h81)
        have C8a : Hid (Calls Tryd.prog 8 #[.slice (some ⟨g, o, none⟩) n cap, .int .i64 0] wx (PvR (P0 ++ [[y0, y1, y2, y3, y4, y5, y6, y7]]) wx)) := by
          have := p8 (some ⟨g, o, none⟩) n cap 0 l wx (KW.out _ BX.out) (SW.out _ BX.out) (by have := HN.out; omega) (by have := HN.out; omega) HLC.out.1 HLC.out.2
          rw [hP0] at this
          exact this
        have C8b : Hid (∀ w', Below w.heap.size w w' → Calls Tryd.prog 8 #[.slice (some ⟨g, o, none⟩) n cap, .int .i64 nn] w' (PvR (P1 ++ [[x0, x1, x2, x3, x4, x5, x6, x7]]) w')) := fun w' hb => by
          have := p8 (some ⟨g, o, none⟩) n cap nn l w' (KW.out _ hb) (SW.out _ hb) (by have := HN.out; have := HNN.out; omega) (by have := HN.out; omega) HLC.out.1 HLC.out.2
          rw [hP1] at this
          exact this
        obtain ⟨T1, hT1⟩ : ∃ T1, (P0 ++ [[y0, y1, y2, y3, y4, y5, y6, y7]]).length = T1 := ⟨_, rfl⟩
        obtain ⟨T2, hT2⟩ : ∃ T2, (P1 ++ [[x0, x1, x2, x3, x4, x5, x6, x7]]).length = T2 := ⟨_, rfl⟩
        obtain ⟨t1, ht1⟩ : ∃ t1, P0.length = t1 := ⟨_, rfl⟩
        obtain ⟨t2, ht2⟩ : ∃ t2, P1.length = t2 := ⟨_, rfl⟩
        have HT1 : Hid (T1 = t1 + 1) := by show _ = _; rw [← hT1, ← ht1]; simp
        have HT2 : Hid (T2 = t2 + 1) := by show _ = _; rw [← hT2, ← ht2]; simp
        have HTA : Hid (T1 ≤ 65536 ∧ T2 ≤ 65536) := by
          have a1 := provL_len n l 0 n
          have a2 := provL_len n l nn n
          have b1 := stepsF_le n 0 n (by have := HN.out; omega) (by have := HN.out; omega)
          have b2 := stepsF_le n nn n (by have := HN.out; omega) (by have := HN.out; omega)
          rw [hP0, hT1] at a1
          rw [hP1, hT2] at a2
          have := HN.out
          exact ⟨by omega, by omega⟩
        rw [ht1] at F0
        rw [ht2] at F1
        have HT1e := Lib.hid hT1
        have HT2e := Lib.hid hT2
        clear t4 t5 hbx hP0 hP1 h80 h81 hT1 hT2 ht1 ht2 hnn q3 e1
        have s3 : ∀ w, (Instr.slice 22 (.slice (some ⟨g, o, none⟩) n cap) none (some (.int .i64 1)) none).run Tryd.prog w = .ok (.slice (some ⟨g, o, none⟩) 1 cap) w := fun w => sl_front g o n cap 1 w (by have := HLC.out; have := HN.out; omega) (by have := HLC.out; have := HN.out; omega)
        obtain ⟨z, hz⟩ : ∃ z, leafH (l.take 8) = z := ⟨_, rfl⟩
        obtain ⟨z0, z1, z2, z3, z4, z5, z6, z7, hz8⟩ := c8cells z (by rw [← hz]; exact leafH_len _)
        have HZ8 := Lib.hid hz8
        have HZL := Lib.hid hz
        have HZN : Hid (z.length = 8) := by show _ = _; rw [← hz]; exact leafH_len _
        have C10z : Hid (∀ w', Below w.heap.size w w' → Calls Tryd.prog 10 #[.slice (some ⟨g, o, none⟩) 1 cap] w' fun e w'' => e = .returned (.agg (ba z)) ∧ Below w'.heap.size w' w'') := fun w' hb => by
          have := p10 _ 1 cap _ w' (KW.out w' hb) (src_take (SW.out w' hb) 1 (by have := HN.out; omega)) (by have := HLC.out; have := HN.out; omega) HLC.out.2
          rw [rootV_ok _ (by omega), rootF_one 0 _ (by rw [List.length_take, HLL.out]; have := HN.out; omega)] at this
          rw [← HZL.out]
          exact this
        have h4 := z27
        clear hz hz8
        go_wp2_with fail
        refine C8a.out.mono ?_
        rintro e w2 ⟨A1, c1, rfl, hs1, hc1, hc1m, hb2⟩
        have B2 : Hid (Below w.heap.size w w2) := bl_call hb2 BX.out
        have X2 : Hid (Below wx.heap.size wx w2) := hb2
        rw [HT1e.out] at hs1 hc1
        rw [HT1e.out]
        have S1 := Lib.hid hs1
        clear hs1 hb2 hc1m
        go_wp2_with fail
        refine (C8b.out _ B2.out).mono ?_
        rintro e w3 ⟨A2, c2, rfl, hs2, hc2, hc2m, hb3⟩
        have B3 : Hid (Below w.heap.size w w3) := bl_call hb3 B2.out
        have X3 : Hid (Below wx.heap.size wx w3) := bl_call hb3 X2.out
        rw [HT2e.out] at hs2 hc2
        rw [HT2e.out]
        have S2 := Lib.hid hs2
        have S13 : Hid (Src w3 A1 (8 * T1) (P0 ++ [[y0, y1, y2, y3, y4, y5, y6, y7]]).flatten) := S1.out.keep fun q hq => hb3.block q hq
        clear hs2 hb3 hc2m
        go_wp2_with fail
        refine (C10z.out _ B3.out).mono ?_
        rintro e w4 ⟨rfl, hb4⟩
        have B4 : Hid (Below w.heap.size w w4) := bl_call hb4 B3.out
        have X4 : Hid (Below wx.heap.size wx w4) := bl_call hb4 X3.out
        have S14 : Hid (Src w4 A1 (8 * T1) (P0 ++ [[y0, y1, y2, y3, y4, y5, y6, y7]]).flatten) := S13.out.keep fun q hq => hb4.block q hq
        have S24 : Hid (Src w4 A2 (8 * T2) (P1 ++ [[x0, x1, x2, x3, x4, x5, x6, x7]]).flatten) := S2.out.keep fun q hq => hb4.block q hq
        obtain ⟨Z, hZ⟩ : ∃ Z, w4.heap.size = Z := ⟨_, rfl⟩
        have T6 : Hid (BA (w4.alloc (Obj.cells (ba (zeros 8)) 27)) Z 27 (zeros 8)) := by subst hZ; exact heap_alloc_last w4 _
        have HZS : Hid (wx.heap.size ≤ Z) := by show _ ≤ _; rw [← hZ]; exact X4.out.size
        obtain ⟨wz, hwz⟩ : ∃ wz, (w4.alloc (Obj.cells (ba (zeros 8)) 27)).setRow Z (ba z) = wz := ⟨_, rfl⟩
        have HWZ := Lib.hid hwz
        have TZ : Hid (BA wz Z 27 z) := by rw [← hwz]; exact setRow_heap _ _ _ _ _ _ T6.out
        have BZ4 : Hid (Below Z w4 wz) := by rw [← hwz]; exact below_setRow ((Below.refl _ _).alloc (by omega) _) (Nat.le_refl _) _
        have BZ : Hid (Below w.heap.size w wz) := B4.out.trans (BZ4.out.mono (by rw [← hZ]; exact B4.out.size))
        have XZ : Hid (Below wx.heap.size wx wz) := X4.out.trans (BZ4.out.mono HZS.out)
        have S1Z : Hid (Src wz A1 (8 * T1) (P0 ++ [[y0, y1, y2, y3, y4, y5, y6, y7]]).flatten) := S14.out.keep fun q hq => BZ4.out.block q (by omega)
        have S2Z : Hid (Src wz A2 (8 * T2) (P1 ++ [[x0, x1, x2, x3, x4, x5, x6, x7]]).flatten) := S24.out.keep fun q hq => BZ4.out.block q (by omega)
        have T4Z : Hid (BA wz G4 27 [x0, x1, x2, x3, x4, x5, x6, x7]) := (XZ.out.block G4 (lt_of_block T4.out)).trans T4.out
        have T5Z : Hid (BA wz G5 27 [y0, y1, y2, y3, y4, y5, y6, y7]) := (XZ.out.block G5 (lt_of_block T5.out)).trans T5.out
        clear hb4 hwz
        go_wp2_with (first
          | (refine wpList_store_rowTo rfl 27 (.tmp 10) (.tmp 51) rfl rfl Z (ba z) rfl rfl 27 (ba (zeros 8)) T6.out (sz s27 (by rw [ba_size, HZN.out])) (by rw [ba_size, ba_size, HZN.out]; rfl) (ba_one _) ?_; rw [HWZ.out])
          | fail)
        clear h4 hZ s1 s2 s3
        obtain ⟨g1, o1, hA1⟩ := src_at S1Z.out (by have := HT1.out; omega)
        subst hA1
        obtain ⟨g2, o2, hA2⟩ := src_at S2Z.out (by have := HT2.out; omega)
        subst hA2
        have KF : Hid (∀ w', Below wz.heap.size wz w' → (w'.cell? ⟨G4, 0, none⟩ = some (.int .u8 x0) ∧ w'.cell? ⟨G4, 1, none⟩ = some (.int .u8 x1) ∧ w'.cell? ⟨G4, 2, none⟩ = some (.int .u8 x2) ∧ w'.cell? ⟨G4, 3, none⟩ = some (.int .u8 x3) ∧ w'.cell? ⟨G4, 4, none⟩ = some (.int .u8 x4) ∧ w'.cell? ⟨G4, 5, none⟩ = some (.int .u8 x5) ∧ w'.cell? ⟨G4, 6, none⟩ = some (.int .u8 x6) ∧ w'.cell? ⟨G4, 7, none⟩ = some (.int .u8 x7)) ∧ (w'.cell? ⟨G5, 0, none⟩ = some (.int .u8 y0) ∧ w'.cell? ⟨G5, 1, none⟩ = some (.int .u8 y1) ∧ w'.cell? ⟨G5, 2, none⟩ = some (.int .u8 y2) ∧ w'.cell? ⟨G5, 3, none⟩ = some (.int .u8 y3) ∧ w'.cell? ⟨G5, 4, none⟩ = some (.int .u8 y4) ∧ w'.cell? ⟨G5, 5, none⟩ = some (.int .u8 y5) ∧ w'.cell? ⟨G5, 6, none⟩ = some (.int .u8 y6) ∧ w'.cell? ⟨G5, 7, none⟩ = some (.int .u8 y7)) ∧ (w'.cell? ⟨g1, o1 + t1 * 8, none⟩ = some (.int .u8 y0) ∧ w'.cell? ⟨g1, o1 + t1 * 8 + 1, none⟩ = some (.int .u8 y1) ∧ w'.cell? ⟨g1, o1 + t1 * 8 + 2, none⟩ = some (.int .u8 y2) ∧ w'.cell? ⟨g1, o1 + t1 * 8 + 3, none⟩ = some (.int .u8 y3) ∧ w'.cell? ⟨g1, o1 + t1 * 8 + 4, none⟩ = some (.int .u8 y4) ∧ w'.cell? ⟨g1, o1 + t1 * 8 + 5, none⟩ = some (.int .u8 y5) ∧ w'.cell? ⟨g1, o1 + t1 * 8 + 6, none⟩ = some (.int .u8 y6) ∧ w'.cell? ⟨g1, o1 + t1 * 8 + 7, none⟩ = some (.int .u8 y7)) ∧ (w'.cell? ⟨g2, o2 + t2 * 8, none⟩ = some (.int .u8 x0) ∧ w'.cell? ⟨g2, o2 + t2 * 8 + 1, none⟩ = some (.int .u8 x1) ∧ w'.cell? ⟨g2, o2 + t2 * 8 + 2, none⟩ = some (.int .u8 x2) ∧ w'.cell? ⟨g2, o2 + t2 * 8 + 3, none⟩ = some (.int .u8 x3) ∧ w'.cell? ⟨g2, o2 + t2 * 8 + 4, none⟩ = some (.int .u8 x4) ∧ w'.cell? ⟨g2, o2 + t2 * 8 + 5, none⟩ = some (.int .u8 x5) ∧ w'.cell? ⟨g2, o2 + t2 * 8 + 6, none⟩ = some (.int .u8 x6) ∧ w'.cell? ⟨g2, o2 + t2 * 8 + 7, none⟩ = some (.int .u8 x7)) ∧ (w'.cell? ⟨Z, 0, none⟩ = some (.int .u8 z0) ∧ w'.cell? ⟨Z, 1, none⟩ = some (.int .u8 z1) ∧ w'.cell? ⟨Z, 2, none⟩ = some (.int .u8 z2) ∧ w'.cell? ⟨Z, 3, none⟩ = some (.int .u8 z3) ∧ w'.cell? ⟨Z, 4, none⟩ = some (.int .u8 z4) ∧ w'.cell? ⟨Z, 5, none⟩ = some (.int .u8 z5) ∧ w'.cell? ⟨Z, 6, none⟩ = some (.int .u8 z6) ∧ w'.cell? ⟨Z, 7, none⟩ = some (.int .u8 z7))) := fun w' hb => ⟨cells8 (t := 27) x0 x1 x2 x3 x4 x5 x6 x7 ((hb.block G4 (lt_of_block T4Z.out)).trans T4Z.out), cells8 (t := 27) y0 y1 y2 y3 y4 y5 y6 y7 ((hb.block G5 (lt_of_block T5Z.out)).trans T5Z.out),
          src_eight (q := t1) (by rw [← HT1.out]; exact S1Z.out.keep fun q hq => hb.block q hq) y0 y1 y2 y3 y4 y5 y6 y7 F0.out,
          src_eight (q := t2) (by rw [← HT2.out]; exact S2Z.out.keep fun q hq => hb.block q hq) x0 x1 x2 x3 x4 x5 x6 x7 F1.out,
          cells8 (t := 27) z0 z1 z2 z3 z4 z5 z6 z7 (by rw [← HZ8.out]; exact (hb.block Z (lt_of_block TZ.out)).trans TZ.out)⟩
        have KV : Hid (∀ w', Below wz.heap.size wz w' → Below w.heap.size w w') := fun w' hb => bl_call hb BZ.out
        obtain ⟨r, hr⟩ : ∃ r, twoH [x0, x1, x2, x3, x4, x5, x6, x7] [y0, y1, y2, y3, y4, y5, y6, y7] = r := ⟨_, rfl⟩
        obtain ⟨r0, r1, r2, r3, r4, r5, r6, r7, hr8⟩ := c8cells r (by rw [← hr]; exact twoH_len _ _)
        have HRR := Lib.hid hr
        have HR8 := Lib.hid hr8
        have E10 : Hid (∀ w', Below wz.heap.size wz w' → Calls Tryd.prog 10 #[.slice (some ⟨g, o, none⟩) n cap] w' fun e w'' => e = .returned (.agg #[.int .u8 r0, .int .u8 r1, .int .u8 r2, .int .u8 r3, .int .u8 r4, .int .u8 r5, .int .u8 r6, .int .u8 r7]) ∧ Below w'.heap.size w' w'') := fun w' hb => by
          have := p10 _ n cap _ w' (KW.out w' (KV.out w' hb)) (SW.out w' (KV.out w' hb)) HLC.out.1 HLC.out.2
          obtain ⟨n1, hn1⟩ : ∃ q, n = q + 1 := ⟨n - 1, by have := HN.out; omega⟩
          have hk := HCK.out
          have hn2 := HN.out
          rw [rootV_ok _ (by omega)] at this
          have e2 := rootF_two n1 l n HLL.out hn2.1
          rw [HC.out, rootF_fuel n1 k (l.take (8 * k)) k (by rw [List.length_take, HLL.out]; omega) (by omega) (by omega) (Nat.le_refl _) (by omega), rootF_fuel n1 m1 (l.drop (8 * k)) m1 (by rw [List.length_drop, HLL.out]; have := HM1.out; omega) (by have := HM1.out; omega) (by have := HM1.out; omega) (Nat.le_refl _) (by have := HM1.out; omega), HXR.out, HYR.out, HX8.out, HY8.out, HRR.out, HR8.out] at e2
          rw [hn1, e2, ← hn1, ba_lit] at this
          exact this
        have E14 : Hid (∀ w', Below wz.heap.size wz w' → Calls Tryd.prog 14 #[.int .u8 109, .agg #[.int .u8 x0, .int .u8 x1, .int .u8 x2, .int .u8 x3, .int .u8 x4, .int .u8 x5, .int .u8 x6, .int .u8 x7], .agg #[.int .u8 y0, .int .u8 y1, .int .u8 y2, .int .u8 y3, .int .u8 y4, .int .u8 y5, .int .u8 y6, .int .u8 y7]] w' fun e w'' => e = .returned (.agg #[.int .u8 r0, .int .u8 r1, .int .u8 r2, .int .u8 r3, .int .u8 r4, .int .u8 r5, .int .u8 r6, .int .u8 r7]) ∧ Below w'.heap.size w' w'') := fun w' hb => by
          have := two14 [x0, x1, x2, x3, x4, x5, x6, x7] [y0, y1, y2, y3, y4, y5, y6, y7] w' (KW.out w' (KV.out w' hb)) rfl rfl
          rw [HRR.out, HR8.out, ba_lit, ba_lit, ba_lit] at this
          exact this
        have E15 : Hid (∀ w', Below wz.heap.size wz w' → Calls Tryd.prog 15 #[.int .u8 108, .slice (some ⟨w'.heap.size, 0, none⟩) 1 1] (w'.alloc (Obj.cells #[.slice (some ⟨g, o, none⟩) 8 8] 38)) fun e w'' => e = .returned (.agg #[.int .u8 z0, .int .u8 z1, .int .u8 z2, .int .u8 z3, .int .u8 z4, .int .u8 z5, .int .u8 z6, .int .u8 z7]) ∧ Below (w'.alloc (Obj.cells #[.slice (some ⟨g, o, none⟩) 8 8] 38)).heap.size (w'.alloc (Obj.cells #[.slice (some ⟨g, o, none⟩) 8 8] 38)) w'') := fun w' hb => by
          have hs := src_take (SW.out _ (bl_alloc (Obj.cells #[.slice (some ⟨g, o, none⟩) 8 8] 38) (KV.out w' hb))) 1 (by have := HN.out; omega)
          rw [show 8 * 1 = 8 from rfl] at hs
          have C := c12 sum13 108 (some ⟨w'.heap.size, 0, none⟩) 1 1 _ _ _ _ _ (prts8 (heap_alloc_last w' _) hs) (fun _ _ h => by cases h) (by rw [msg_one]; exact oneM_len 108 _ hs.1)
          rw [msg_one, leafH_eq, HZL.out, HZ8.out, ba_lit] at C
          exact C
        have fr : ∀ w, (Op.equalIn 10000 27 (.agg #[.int .u8 r0, .int .u8 r1, .int .u8 r2, .int .u8 r3, .int .u8 r4, .int .u8 r5, .int .u8 r6, .int .u8 r7]) (.agg #[.int .u8 r0, .int .u8 r1, .int .u8 r2, .int .u8 r3, .int .u8 r4, .int .u8 r5, .int .u8 r6, .int .u8 r7])).run Tryd.prog w = .ok true w := fun w => by
          have := eqh [r0, r1, r2, r3, r4, r5, r6, r7] [r0, r1, r2, r3, r4, r5, r6, r7] w rfl rfl
          rwa [ba_lit, decide_eq_true rfl] at this
        have fx : ∀ w, (Op.equalIn 10000 27 (.agg #[.int .u8 x0, .int .u8 x1, .int .u8 x2, .int .u8 x3, .int .u8 x4, .int .u8 x5, .int .u8 x6, .int .u8 x7]) (.agg #[.int .u8 x0, .int .u8 x1, .int .u8 x2, .int .u8 x3, .int .u8 x4, .int .u8 x5, .int .u8 x6, .int .u8 x7])).run Tryd.prog w = .ok true w := fun w => by
          have := eqh [x0, x1, x2, x3, x4, x5, x6, x7] [x0, x1, x2, x3, x4, x5, x6, x7] w rfl rfl
          rwa [ba_lit, decide_eq_true rfl] at this
        have fy : ∀ w, (Op.equalIn 10000 27 (.agg #[.int .u8 y0, .int .u8 y1, .int .u8 y2, .int .u8 y3, .int .u8 y4, .int .u8 y5, .int .u8 y6, .int .u8 y7]) (.agg #[.int .u8 y0, .int .u8 y1, .int .u8 y2, .int .u8 y3, .int .u8 y4, .int .u8 y5, .int .u8 y6, .int .u8 y7])).run Tryd.prog w = .ok true w := fun w => by
          have := eqh [y0, y1, y2, y3, y4, y5, y6, y7] [y0, y1, y2, y3, y4, y5, y6, y7] w rfl rfl
          rwa [ba_lit, decide_eq_true rfl] at this
        have fz : ∀ w, (Op.equalIn 10000 27 (.agg #[.int .u8 z0, .int .u8 z1, .int .u8 z2, .int .u8 z3, .int .u8 z4, .int .u8 z5, .int .u8 z6, .int .u8 z7]) (.agg #[.int .u8 z0, .int .u8 z1, .int .u8 z2, .int .u8 z3, .int .u8 z4, .int .u8 z5, .int .u8 z6, .int .u8 z7])).run Tryd.prog w = .ok true w := fun w => by
          have := eqh [z0, z1, z2, z3, z4, z5, z6, z7] [z0, z1, z2, z3, z4, z5, z6, z7] w rfl rfl
          rwa [ba_lit, decide_eq_true rfl] at this
        have X0 : Hid (Below wz.heap.size wz wz) := Below.refl _ _
        have a1 : (T1 : Int) - 1 = (t1 : Int) := by have := HT1.out; omega
        have a2 : (T2 : Int) - 1 = (t2 : Int) := by have := HT2.out; omega
        have a3 : IntKind.i64.wrap (t1 : Int) = (t1 : Int) := by have := HT1.out; have := HTA.out; rw [IntKind.wrap_i64]; omega
        have a4 : IntKind.i64.wrap (t2 : Int) = (t2 : Int) := by have := HT2.out; have := HTA.out; rw [IntKind.wrap_i64]; omega
        have a5 : 0 < T1 := by have := HT1.out; omega
        have a6 : 0 < T2 := by have := HT2.out; omega
        have a7 : (t1 : Int) < (T1 : Int) := by have := HT1.out; omega
        have a8 : (t2 : Int) < (T2 : Int) := by have := HT2.out; omega
        have a9 : (0 : Int) < (n : Int) := by have := HN.out; omega
        have aa : 0 < n := by have := HN.out; omega
        clear hr hr8 e5 hc1 hc2 kk0
        have W0 := KF.out wz X0.out
        go_split_ands
        go_wp2_with fail
        go_region_held3 (fun w' => (w'.cell? ⟨G4, 0, none⟩ = some (.int .u8 x0) ∧ w'.cell? ⟨G4, 1, none⟩ = some (.int .u8 x1) ∧ w'.cell? ⟨G4, 2, none⟩ = some (.int .u8 x2) ∧ w'.cell? ⟨G4, 3, none⟩ = some (.int .u8 x3) ∧ w'.cell? ⟨G4, 4, none⟩ = some (.int .u8 x4) ∧ w'.cell? ⟨G4, 5, none⟩ = some (.int .u8 x5) ∧ w'.cell? ⟨G4, 6, none⟩ = some (.int .u8 x6) ∧ w'.cell? ⟨G4, 7, none⟩ = some (.int .u8 x7)) ∧ (w'.cell? ⟨G5, 0, none⟩ = some (.int .u8 y0) ∧ w'.cell? ⟨G5, 1, none⟩ = some (.int .u8 y1) ∧ w'.cell? ⟨G5, 2, none⟩ = some (.int .u8 y2) ∧ w'.cell? ⟨G5, 3, none⟩ = some (.int .u8 y3) ∧ w'.cell? ⟨G5, 4, none⟩ = some (.int .u8 y4) ∧ w'.cell? ⟨G5, 5, none⟩ = some (.int .u8 y5) ∧ w'.cell? ⟨G5, 6, none⟩ = some (.int .u8 y6) ∧ w'.cell? ⟨G5, 7, none⟩ = some (.int .u8 y7)) ∧ (w'.cell? ⟨g1, o1 + t1 * 8, none⟩ = some (.int .u8 y0) ∧ w'.cell? ⟨g1, o1 + t1 * 8 + 1, none⟩ = some (.int .u8 y1) ∧ w'.cell? ⟨g1, o1 + t1 * 8 + 2, none⟩ = some (.int .u8 y2) ∧ w'.cell? ⟨g1, o1 + t1 * 8 + 3, none⟩ = some (.int .u8 y3) ∧ w'.cell? ⟨g1, o1 + t1 * 8 + 4, none⟩ = some (.int .u8 y4) ∧ w'.cell? ⟨g1, o1 + t1 * 8 + 5, none⟩ = some (.int .u8 y5) ∧ w'.cell? ⟨g1, o1 + t1 * 8 + 6, none⟩ = some (.int .u8 y6) ∧ w'.cell? ⟨g1, o1 + t1 * 8 + 7, none⟩ = some (.int .u8 y7)) ∧ (w'.cell? ⟨g2, o2 + t2 * 8, none⟩ = some (.int .u8 x0) ∧ w'.cell? ⟨g2, o2 + t2 * 8 + 1, none⟩ = some (.int .u8 x1) ∧ w'.cell? ⟨g2, o2 + t2 * 8 + 2, none⟩ = some (.int .u8 x2) ∧ w'.cell? ⟨g2, o2 + t2 * 8 + 3, none⟩ = some (.int .u8 x3) ∧ w'.cell? ⟨g2, o2 + t2 * 8 + 4, none⟩ = some (.int .u8 x4) ∧ w'.cell? ⟨g2, o2 + t2 * 8 + 5, none⟩ = some (.int .u8 x5) ∧ w'.cell? ⟨g2, o2 + t2 * 8 + 6, none⟩ = some (.int .u8 x6) ∧ w'.cell? ⟨g2, o2 + t2 * 8 + 7, none⟩ = some (.int .u8 x7)) ∧ (w'.cell? ⟨Z, 0, none⟩ = some (.int .u8 z0) ∧ w'.cell? ⟨Z, 1, none⟩ = some (.int .u8 z1) ∧ w'.cell? ⟨Z, 2, none⟩ = some (.int .u8 z2) ∧ w'.cell? ⟨Z, 3, none⟩ = some (.int .u8 z3) ∧ w'.cell? ⟨Z, 4, none⟩ = some (.int .u8 z4) ∧ w'.cell? ⟨Z, 5, none⟩ = some (.int .u8 z5) ∧ w'.cell? ⟨Z, 6, none⟩ = some (.int .u8 z6) ∧ w'.cell? ⟨Z, 7, none⟩ = some (.int .u8 z7))) (first | (with_reducible exact KKa.out) | (with_reducible exact KKb.out) | (with_reducible exact KLb.out) | (with_reducible exact KKc.out) | go_keep)
          (first
            | (go_at_call 10; refine (E10.out _ (by first | exact X0.out | exact X0.out.drew)).mono ?_; rintro e wa ⟨rfl, hba⟩; have Xa : Hid (Below wz.heap.size wz wa) := (by first | exact X0.out.trans (hba.mono X0.out.size) | exact X0.out.drew.trans (hba.mono X0.out.drew.size)); have KKa := Lib.hid (KF.out wa Xa.out); have KLa := Lib.hid (KF.out _ (bl_alloc (Obj.cells #[.slice (some ⟨g, o, none⟩) 8 8] 38) Xa.out)); clear hba)
            | (go_at_call 14; refine (E14.out _ (by first | exact Xa.out | exact Xa.out.drew)).mono ?_; rintro e wb ⟨rfl, hbb⟩; have Xb : Hid (Below wz.heap.size wz wb) := (by first | exact Xa.out.trans (hbb.mono Xa.out.size) | exact Xa.out.drew.trans (hbb.mono Xa.out.drew.size)); have KKb := Lib.hid (KF.out wb Xb.out); have KLb := Lib.hid (KF.out _ (bl_alloc (Obj.cells #[.slice (some ⟨g, o, none⟩) 8 8] 38) Xb.out)); clear hbb)
            | (go_at_call 15; refine (E15.out _ Xb.out).mono ?_; rintro e wc ⟨rfl, hbc⟩; have Xc : Hid (Below wz.heap.size wz wc) := bl_call hbc (bl_alloc _ Xb.out); have KKc := Lib.hid (KF.out wc Xc.out); clear hbc))
        rename_i hHeld
        clear hHeld
        go_wp2
        go_ret
        exact ⟨rfl, KV.out _ Xc.out⟩
end Go.Proofs.YthdejiadokpafaaDoor
