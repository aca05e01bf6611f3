/-
  The walk of HashTexts.
-/
import Derived.Test.YtimhjofnaoljjaaDoorW28
namespace Go.Proofs.YtimhjofnaoljjaaDoor
open Go.RowKit
theorem eq_same (x : List Int) (w : World) (h : x.length = 8) : (Op.equalIn 10000 27 (.agg (ba x)) (.agg (ba x))).run Tryd.prog w = .ok true w := by
  have := eq_ba 27 8 9998 Tryd.underlying27 x x w h h
  rw [decide_eq_true rfl] at this
  exact this
/- operations that are not run where no hash was read: by names of their own -/
def op72 : Op := .load 27 (.tmp 9)
theorem op72_eq : op72 = .load 27 (.tmp 9) := rfl
attribute [local go_sem] op72_eq
def op74 : Op := .move (.tmp 2)
theorem op74_eq : op74 = .move (.tmp 2) := rfl
attribute [local go_sem] op74_eq
def op75 : Op := .binOp .eql 9 (.tmp 73) (.tmp 74) 9
theorem op75_eq : op75 = .binOp .eql 9 (.tmp 73) (.tmp 74) 9 := rfl
attribute [local go_sem] op75_eq
attribute [local irreducible] ba ua hexL sOf rdV okT lessB
set_option maxRecDepth 100000 in
set_option maxHeartbeats 40000000 in
theorem walkTexts (x y : List Int) (s : ByteArray) (w : World) (hx : x.length = 8) (hy : y.length = 8) (bx : Byt x) (hby : Byt y) (hk : Keys w) :
    Calls Tryd.prog 5 #[.agg (ba x), .agg (ba y), .string s] w fun e w' => e = .returned (.bool true) ∧ Below w.heap.size w w' := by
  obtain ⟨l, rfl⟩ : ∃ l, s = sOf l := ⟨s.data.toList, (sOf_data s).symm⟩
  have HX := Lib.hid hx
  have HY := Lib.hid hy
  have HBX := Lib.hid bx
  have HBY := Lib.hid hby
  have HK := Lib.hid hk
  have HP : Hid (0 < w.heap.size) := keys_pos hk
  clear hx hy bx hby hk
  have h27 := z27
  obtain ⟨S, hS⟩ : ∃ S, w.heap.size = S := ⟨_, rfl⟩
  have T0 : Hid (BA (w.alloc (Obj.cells (ba x) 27)) S 27 x) := by subst hS; exact heap_alloc_last w _
  have T1 : Hid (BA ((w.alloc (Obj.cells (ba x) 27)).alloc (Obj.cells (ba y) 27)) (S + 1) 27 y) := by
    subst hS
    have := heap_alloc_last (w.alloc (Obj.cells (ba x) 27)) (Obj.cells (ba y) 27)
    simp only [World.size_alloc] at this
    exact this
  have T2 : Hid (BA ((w.alloc (Obj.cells (ba x) 27)).alloc (Obj.cells (ba y) 27)) S 27 x) := (Below.heap_alloc _ _ _ (lt_of_block T0.out)).trans T0.out
  have B0 : Hid (Below S w ((w.alloc (Obj.cells (ba x) 27)).alloc (Obj.cells (ba y) 27))) := by subst hS; exact ((Below.refl _ w).alloc (Nat.le_refl _) _).alloc (by simp) _
  have HS := Lib.hid hS
  have CK := Lib.hid (c8 _ (keys_below HK.out B0.out (by rw [← hS]; exact HP.out)))
  have ER : Hid (∀ w, Calls Tryd.prog 11 #[.string (sOf (hexL x))] w fun e w' => e = .returned (.tuple #[.agg (ba x), .bool true]) ∧ Below w.heap.size w w') := fun w => by
    have := read11 (hexL x) w
    rw [rdV_hex x HX.out HBX.out, okT_hex x HX.out HBX.out] at this
    exact this
  obtain ⟨zb, hzb⟩ : ∃ zb, okT l = zb := ⟨_, rfl⟩
  obtain ⟨z, hz⟩ : ∃ z, rdV l = z := ⟨_, rfl⟩
  have HZL : Hid (z.length = 8) := by show _ = _; rw [← hz]; exact rdV_len l
  have ES : Hid (∀ w, Calls Tryd.prog 11 #[.string (sOf l)] w fun e w' => e = .returned (.tuple #[.agg (ba z), .bool zb]) ∧ Below w.heap.size w w') := fun w => by
    have := read11 l w
    rw [hzb, hz] at this
    exact this
  have ET : Hid (∀ w, Calls Tryd.prog 18 #[.string (sOf l)] w fun e w' => e = .returned (.tuple #[.agg (ba z), .bool zb]) ∧ Below w.heap.size w w') := fun w => by
    have := read18 l w
    rw [hzb, hz] at this
    exact this
  have EX : Hid (∀ w, Calls Tryd.prog 17 #[.agg (ba x)] w fun e w' => e = .returned (.string (sOf (hexL x))) ∧ Below w.heap.size w w') := fun w => text17 x w HX.out HBX.out
  have EY : Hid (∀ w, Calls Tryd.prog 17 #[.agg (ba y)] w fun e w' => e = .returned (.string (sOf (hexL y))) ∧ Below w.heap.size w w') := fun w => text17 y w HY.out HBY.out
  have EZ : Hid (zb = true → ∀ w, Calls Tryd.prog 17 #[.agg (ba z)] w fun e w' => e = .returned (.string (sOf l)) ∧ Below w.heap.size w w') := fun h w => by
    have := text17 z w HZL.out (by rw [← hz]; exact rdV_byt l)
    rw [← hz, hex_rdV l (hzb.trans h)] at this
    rw [← hz]
    exact this
  have EF : Hid (∀ w, Calls Tryd.prog 19 #[.agg (ba x)] w fun e w' => e = .returned (.string (sOf (hexL x))) ∧ Below w.heap.size w w') := fun w => c19 x w HX.out HBX.out
  obtain ⟨lb, hlb⟩ : ∃ lb, lessB x y = lb := ⟨_, rfl⟩
  have EL : Hid (∀ w, Calls Tryd.prog 20 #[.agg (ba x), .agg (ba y)] w fun e w' => e = .returned (.bool lb) ∧ Below w.heap.size w w') := fun w => by
    have := c20 x y w HX.out HY.out
    rw [hlb] at this
    exact this
  have HLB : Hid (Op.bytesLess (sOf (hexL x)).toList (sOf (hexL y)).toList = lb) := by
    show _ = _
    rw [sOf_list, sOf_list, ← less_hex x y HBX.out HBY.out (by rw [HX.out, HY.out]), hlb]
  clear hzb hz hlb
  obtain ⟨sz0, hsz0⟩ : ∃ n, (sOf l).size = n := ⟨_, rfl⟩
  generalize sOf (hexL x) = tx at *
  generalize sOf (hexL y) = ty at *
  generalize sOf l = s at *
  by_cases hlen : sz0 ≤ 1000
  · have hl1 : ¬ (1000 : Int) < (sz0 : Int) := by omega
    go_enter Tryd.func5, Tryd.ntmps5
    rw [← hsz0] at hl1
    clear hsz0
    go_wp2_with (first
      | (go_at_call 8
         refine CK.out.mono ?_
         rintro e w1 ⟨rfl, hb⟩
         have T3 : Hid (BA w1 S 27 x) := (hb.block S (lt_of_block T2.out)).trans T2.out
         have T4 : Hid (BA w1 (S + 1) 27 y) := (hb.block _ (lt_of_block T1.out)).trans T1.out
         have B1 : Hid (Below S w w1) := B0.out.trans (hb.mono (Nat.le_of_lt (lt_of_block T2.out)))
         clear hb CK T0 T1 T2 B0 hS)
      | (refine wpList_load_row rfl 27 (.tmp 3) rfl S rfl 27 (ba x) (0, 0) _ T3.out Tryd.underlying27 rfl (sz s27 (by rw [ba_size, HX.out])) ?_)
      | (go_at_call 17
         refine (EX.out _).mono ?_
         rintro e w2 ⟨rfl, hb⟩
         have X2 : Hid (Below w1.heap.size w1 w2) := hb
         clear hb)
      | (go_at_call 11
         refine (ER.out _).mono ?_
         rintro e w3 ⟨rfl, hb⟩
         have X3 : Hid (Below w1.heap.size w1 w3) := X2.out.trans (hb.mono X2.out.size)
         obtain ⟨G, hG⟩ : ∃ G, w3.heap.size = G := ⟨_, rfl⟩
         have LG : Hid (w1.heap.size ≤ G) := (by show _ ≤ _; rw [← hG]; exact X3.out.size)
         have T7 : Hid (BA (w3.alloc (Obj.cells (ba (zeros 8)) 27)) G 27 (zeros 8)) := (by subst hG; exact heap_alloc_last w3 _)
         clear hb ER X2)
      | (refine wpList_store_rowTo rfl 27 (.tmp 7) (.tmp 22) rfl rfl G (ba x) rfl rfl 27 (ba (zeros 8)) T7.out (sz s27 (by rw [ba_size, HX.out])) (by rw [ba_size, ba_size, HX.out]; rfl) (ba_one _) ?_
         generalize hq : (w3.alloc (Obj.cells (ba (zeros 8)) 27)).setRow G (ba x) = w4
         have T8 : Hid (BA w4 G 27 x) := (by rw [← hq]; exact setRow_heap _ _ _ _ _ _ T7.out)
         have X4 : Hid (Below w1.heap.size w1 w4) := (by rw [← hq]; exact below_setRow (X3.out.alloc X3.out.size _) LG.out _)
         have L4 : Hid (G < w4.heap.size) := lt_of_block T8.out
         clear hq T7 X3 hG)
      | (go_at_call 11
         refine (ES.out _).mono ?_
         rintro e w5 ⟨rfl, hb⟩
         have X5 : Hid (Below w4.heap.size w4 w5) := hb
         obtain ⟨H, hH⟩ : ∃ H, w5.heap.size = H := ⟨_, rfl⟩
         have LH : Hid (w4.heap.size ≤ H) := (by show _ ≤ _; rw [← hH]; exact X5.out.size)
         have T9 : Hid (BA (w5.alloc (Obj.cells (ba (zeros 8)) 27)) H 27 (zeros 8)) := (by subst hH; exact heap_alloc_last w5 _)
         clear hb ES)
      | (refine wpList_store_rowTo rfl 27 (.tmp 9) (.tmp 27) rfl rfl H (ba z) rfl rfl 27 (ba (zeros 8)) T9.out (sz s27 (by rw [ba_size, HZL.out])) (by rw [ba_size, ba_size, HZL.out]; rfl) (ba_one _) ?_
         generalize hq : (w5.alloc (Obj.cells (ba (zeros 8)) 27)).setRow H (ba z) = w6
         have TA : Hid (BA w6 H 27 z) := (by rw [← hq]; exact setRow_heap _ _ _ _ _ _ T9.out)
         have X6 : Hid (Below w4.heap.size w4 w6) := (by rw [← hq]; exact below_setRow (X5.out.alloc X5.out.size _) LH.out _)
         have L6 : Hid (H < w6.heap.size) := lt_of_block TA.out
         clear hq T9 X5 hH)
      | (go_at_call 18
         refine (ET.out _).mono ?_
         rintro e w7 ⟨rfl, hb⟩
         have X7 : Hid (Below w6.heap.size w6 w7) := hb
         obtain ⟨J, hJ⟩ : ∃ J, w7.heap.size = J := ⟨_, rfl⟩
         have LJ : Hid (w6.heap.size ≤ J) := (by show _ ≤ _; rw [← hJ]; exact X7.out.size)
         have TB : Hid (BA (w7.alloc (Obj.cells (ba (zeros 8)) 27)) J 27 (zeros 8)) := (by subst hJ; exact heap_alloc_last w7 _)
         clear hb ET)
      | (refine wpList_store_rowTo rfl 27 (.tmp 11) (.tmp 32) rfl rfl J (ba z) rfl rfl 27 (ba (zeros 8)) TB.out (sz s27 (by rw [ba_size, HZL.out])) (by rw [ba_size, ba_size, HZL.out]; rfl) (ba_one _) ?_
         generalize hq : (w7.alloc (Obj.cells (ba (zeros 8)) 27)).setRow J (ba z) = w8
         have TC : Hid (BA w8 J 27 z) := (by rw [← hq]; exact setRow_heap _ _ _ _ _ _ TB.out)
         have X8 : Hid (Below w6.heap.size w6 w8) := (by rw [← hq]; exact below_setRow (X7.out.alloc X7.out.size _) LJ.out _)
         clear hq TB X7 hJ)
      | fail)
    have BF : Hid (Below S w w8) := B1.out.trans (((X4.out.trans (X6.out.mono X4.out.size)).trans (X8.out.mono (Nat.le_trans X4.out.size X6.out.size))).mono (by have := lt_of_block T3.out; omega))
    have VF : Hid (S ≤ w8.heap.size) := (by show _ ≤ _; rw [← HS.out]; exact BF.out.size)
    obtain ⟨x0, x1, x2, x3, x4, x5, x6, x7, hx8⟩ := c8cells x HX.out
    obtain ⟨y0, y1, y2, y3, y4, y5, y6, y7, hy8⟩ := c8cells y HY.out
    obtain ⟨z0, z1, z2, z3, z4, z5, z6, z7, hz8⟩ := c8cells z HZL.out
    subst hx8 hy8 hz8
    have KF : Hid (∀ w', Below w8.heap.size w8 w' → (w'.cell? ⟨S, 0, none⟩ = some (.int .u8 x0) ∧ w'.cell? ⟨S, 1, none⟩ = some (.int .u8 x1) ∧ w'.cell? ⟨S, 2, none⟩ = some (.int .u8 x2) ∧ w'.cell? ⟨S, 3, none⟩ = some (.int .u8 x3) ∧ w'.cell? ⟨S, 4, none⟩ = some (.int .u8 x4) ∧ w'.cell? ⟨S, 5, none⟩ = some (.int .u8 x5) ∧ w'.cell? ⟨S, 6, none⟩ = some (.int .u8 x6) ∧ w'.cell? ⟨S, 7, none⟩ = some (.int .u8 x7)) ∧ (w'.cell? ⟨S + 1, 0, none⟩ = some (.int .u8 y0) ∧ w'.cell? ⟨S + 1, 1, none⟩ = some (.int .u8 y1) ∧ w'.cell? ⟨S + 1, 2, none⟩ = some (.int .u8 y2) ∧ w'.cell? ⟨S + 1, 3, none⟩ = some (.int .u8 y3) ∧ w'.cell? ⟨S + 1, 4, none⟩ = some (.int .u8 y4) ∧ w'.cell? ⟨S + 1, 5, none⟩ = some (.int .u8 y5) ∧ w'.cell? ⟨S + 1, 6, none⟩ = some (.int .u8 y6) ∧ w'.cell? ⟨S + 1, 7, none⟩ = some (.int .u8 y7)) ∧ (w'.cell? ⟨G, 0, none⟩ = some (.int .u8 x0) ∧ w'.cell? ⟨G, 1, none⟩ = some (.int .u8 x1) ∧ w'.cell? ⟨G, 2, none⟩ = some (.int .u8 x2) ∧ w'.cell? ⟨G, 3, none⟩ = some (.int .u8 x3) ∧ w'.cell? ⟨G, 4, none⟩ = some (.int .u8 x4) ∧ w'.cell? ⟨G, 5, none⟩ = some (.int .u8 x5) ∧ w'.cell? ⟨G, 6, none⟩ = some (.int .u8 x6) ∧ w'.cell? ⟨G, 7, none⟩ = some (.int .u8 x7)) ∧ (w'.cell? ⟨H, 0, none⟩ = some (.int .u8 z0) ∧ w'.cell? ⟨H, 1, none⟩ = some (.int .u8 z1) ∧ w'.cell? ⟨H, 2, none⟩ = some (.int .u8 z2) ∧ w'.cell? ⟨H, 3, none⟩ = some (.int .u8 z3) ∧ w'.cell? ⟨H, 4, none⟩ = some (.int .u8 z4) ∧ w'.cell? ⟨H, 5, none⟩ = some (.int .u8 z5) ∧ w'.cell? ⟨H, 6, none⟩ = some (.int .u8 z6) ∧ w'.cell? ⟨H, 7, none⟩ = some (.int .u8 z7)) ∧ (w'.cell? ⟨J, 0, none⟩ = some (.int .u8 z0) ∧ w'.cell? ⟨J, 1, none⟩ = some (.int .u8 z1) ∧ w'.cell? ⟨J, 2, none⟩ = some (.int .u8 z2) ∧ w'.cell? ⟨J, 3, none⟩ = some (.int .u8 z3) ∧ w'.cell? ⟨J, 4, none⟩ = some (.int .u8 z4) ∧ w'.cell? ⟨J, 5, none⟩ = some (.int .u8 z5) ∧ w'.cell? ⟨J, 6, none⟩ = some (.int .u8 z6) ∧ w'.cell? ⟨J, 7, none⟩ = some (.int .u8 z7))) := fun w' hb => by
      have l1 := lt_of_block T4.out
      have l2 : w1.heap.size ≤ w4.heap.size := X4.out.size
      have l3 : w4.heap.size ≤ w6.heap.size := X6.out.size
      have l4 : w6.heap.size ≤ w8.heap.size := X8.out.size
      have l5 := L4.out
      have l6 := L6.out
      have P0 : BA w' S 27 [x0, x1, x2, x3, x4, x5, x6, x7] := (hb.block S (by omega)).trans ((X8.out.block S (by omega)).trans ((X6.out.block S (by omega)).trans ((X4.out.block S (by omega)).trans T3.out)))
      have P1 : BA w' (S + 1) 27 [y0, y1, y2, y3, y4, y5, y6, y7] := (hb.block _ (by omega)).trans ((X8.out.block _ (by omega)).trans ((X6.out.block _ (by omega)).trans ((X4.out.block _ (by omega)).trans T4.out)))
      have P2 : BA w' G 27 [x0, x1, x2, x3, x4, x5, x6, x7] := (hb.block G (by omega)).trans ((X8.out.block G (by omega)).trans ((X6.out.block G (by omega)).trans T8.out))
      have P3 : BA w' H 27 [z0, z1, z2, z3, z4, z5, z6, z7] := (hb.block H (by omega)).trans ((X8.out.block H (by omega)).trans TA.out)
      have P4 : BA w' J 27 [z0, z1, z2, z3, z4, z5, z6, z7] := (hb.block J (lt_of_block TC.out)).trans TC.out
      exact ⟨cells8 (t := 27) x0 x1 x2 x3 x4 x5 x6 x7 P0, cells8 (t := 27) y0 y1 y2 y3 y4 y5 y6 y7 P1, cells8 (t := 27) x0 x1 x2 x3 x4 x5 x6 x7 P2, cells8 (t := 27) z0 z1 z2 z3 z4 z5 z6 z7 P3, cells8 (t := 27) z0 z1 z2 z3 z4 z5 z6 z7 P4⟩
    have E1 : Hid (∀ w, Calls Tryd.prog 17 #[.agg #[.int .u8 x0, .int .u8 x1, .int .u8 x2, .int .u8 x3, .int .u8 x4, .int .u8 x5, .int .u8 x6, .int .u8 x7]] w fun e w' => e = .returned (.string tx) ∧ Below w.heap.size w w') := fun w => by
      have := EX.out w
      rw [ba_lit] at this
      exact this
    have E2 := E1
    have E3 : Hid (∀ w, Calls Tryd.prog 17 #[.agg #[.int .u8 y0, .int .u8 y1, .int .u8 y2, .int .u8 y3, .int .u8 y4, .int .u8 y5, .int .u8 y6, .int .u8 y7]] w fun e w' => e = .returned (.string ty) ∧ Below w.heap.size w w') := fun w => by
      have := EY.out w
      rw [ba_lit] at this
      exact this
    have E4 : Hid (zb = true → ∀ w, Calls Tryd.prog 17 #[.agg #[.int .u8 z0, .int .u8 z1, .int .u8 z2, .int .u8 z3, .int .u8 z4, .int .u8 z5, .int .u8 z6, .int .u8 z7]] w fun e w' => e = .returned (.string s) ∧ Below w.heap.size w w') := fun h w => by
      have := EZ.out h w
      rw [ba_lit] at this
      exact this
    have E5 : Hid (∀ w, Calls Tryd.prog 19 #[.agg #[.int .u8 x0, .int .u8 x1, .int .u8 x2, .int .u8 x3, .int .u8 x4, .int .u8 x5, .int .u8 x6, .int .u8 x7]] w fun e w' => e = .returned (.string tx) ∧ Below w.heap.size w w') := fun w => by
      have := EF.out w
      rw [ba_lit] at this
      exact this
    have E6 : Hid (∀ w, Calls Tryd.prog 20 #[.agg #[.int .u8 x0, .int .u8 x1, .int .u8 x2, .int .u8 x3, .int .u8 x4, .int .u8 x5, .int .u8 x6, .int .u8 x7], .agg #[.int .u8 y0, .int .u8 y1, .int .u8 y2, .int .u8 y3, .int .u8 y4, .int .u8 y5, .int .u8 y6, .int .u8 y7]] w fun e w' => e = .returned (.bool lb) ∧ Below w.heap.size w w') := fun w => by
      have := EL.out w
      rw [ba_lit, ba_lit] at this
      exact this
    clear EX EY EZ EF EL T3 T4 T8 TA TC X4 X6 X8 L4 L6 LG LH LJ B1 HBX HBY
    have f1 := eqT x0 x1 x2 x3 x4 x5 x6 x7
    have f2 := eqT z0 z1 z2 z3 z4 z5 z6 z7
    have f3 := HLB.out
    have f4 : (lb == lb) = true := by simp
    have f5 : (zb == zb) = true := by simp
    have X0 : Hid (Below w8.heap.size w8 w8) := Below.refl _ _
    obtain ⟨⟨ua0, ua1, ua2, ua3, ua4, ua5, ua6, ua7⟩, ⟨ub0, ub1, ub2, ub3, ub4, ub5, ub6, ub7⟩, ⟨uc0, uc1, uc2, uc3, uc4, uc5, uc6, uc7⟩, ⟨ud0, ud1, ud2, ud3, ud4, ud5, ud6, ud7⟩, ⟨ue0, ue1, ue2, ue3, ue4, ue5, ue6, ue7⟩⟩ := KF.out w8 X0.out
    cases zb with
    | true =>
      go_wp2_with fail
      go_region_held3 (fun w' => (w'.cell? ⟨S, 0, none⟩ = some (.int .u8 x0) ∧ w'.cell? ⟨S, 1, none⟩ = some (.int .u8 x1) ∧ w'.cell? ⟨S, 2, none⟩ = some (.int .u8 x2) ∧ w'.cell? ⟨S, 3, none⟩ = some (.int .u8 x3) ∧ w'.cell? ⟨S, 4, none⟩ = some (.int .u8 x4) ∧ w'.cell? ⟨S, 5, none⟩ = some (.int .u8 x5) ∧ w'.cell? ⟨S, 6, none⟩ = some (.int .u8 x6) ∧ w'.cell? ⟨S, 7, none⟩ = some (.int .u8 x7)) ∧ (w'.cell? ⟨S + 1, 0, none⟩ = some (.int .u8 y0) ∧ w'.cell? ⟨S + 1, 1, none⟩ = some (.int .u8 y1) ∧ w'.cell? ⟨S + 1, 2, none⟩ = some (.int .u8 y2) ∧ w'.cell? ⟨S + 1, 3, none⟩ = some (.int .u8 y3) ∧ w'.cell? ⟨S + 1, 4, none⟩ = some (.int .u8 y4) ∧ w'.cell? ⟨S + 1, 5, none⟩ = some (.int .u8 y5) ∧ w'.cell? ⟨S + 1, 6, none⟩ = some (.int .u8 y6) ∧ w'.cell? ⟨S + 1, 7, none⟩ = some (.int .u8 y7)) ∧ (w'.cell? ⟨G, 0, none⟩ = some (.int .u8 x0) ∧ w'.cell? ⟨G, 1, none⟩ = some (.int .u8 x1) ∧ w'.cell? ⟨G, 2, none⟩ = some (.int .u8 x2) ∧ w'.cell? ⟨G, 3, none⟩ = some (.int .u8 x3) ∧ w'.cell? ⟨G, 4, none⟩ = some (.int .u8 x4) ∧ w'.cell? ⟨G, 5, none⟩ = some (.int .u8 x5) ∧ w'.cell? ⟨G, 6, none⟩ = some (.int .u8 x6) ∧ w'.cell? ⟨G, 7, none⟩ = some (.int .u8 x7)) ∧ (w'.cell? ⟨H, 0, none⟩ = some (.int .u8 z0) ∧ w'.cell? ⟨H, 1, none⟩ = some (.int .u8 z1) ∧ w'.cell? ⟨H, 2, none⟩ = some (.int .u8 z2) ∧ w'.cell? ⟨H, 3, none⟩ = some (.int .u8 z3) ∧ w'.cell? ⟨H, 4, none⟩ = some (.int .u8 z4) ∧ w'.cell? ⟨H, 5, none⟩ = some (.int .u8 z5) ∧ w'.cell? ⟨H, 6, none⟩ = some (.int .u8 z6) ∧ w'.cell? ⟨H, 7, none⟩ = some (.int .u8 z7)) ∧ (w'.cell? ⟨J, 0, none⟩ = some (.int .u8 z0) ∧ w'.cell? ⟨J, 1, none⟩ = some (.int .u8 z1) ∧ w'.cell? ⟨J, 2, none⟩ = some (.int .u8 z2) ∧ w'.cell? ⟨J, 3, none⟩ = some (.int .u8 z3) ∧ w'.cell? ⟨J, 4, none⟩ = some (.int .u8 z4) ∧ w'.cell? ⟨J, 5, none⟩ = some (.int .u8 z5) ∧ w'.cell? ⟨J, 6, none⟩ = some (.int .u8 z6) ∧ w'.cell? ⟨J, 7, none⟩ = some (.int .u8 z7))) (first | exact KKf.out | exact KKe.out | exact KKd.out | exact KKc.out | exact KKb.out | exact KKa.out | go_keep)
        (first
          | (go_at_call 17; (with_reducible refine (E1.out _).mono ?_); rintro e wa ⟨rfl, hba⟩; have Xa : Hid (Below w8.heap.size w8 wa) := (by first | exact X0.out.trans (hba.mono X0.out.size) | exact X0.out.drew.trans (hba.mono X0.out.drew.size)); have KKa := Lib.hid (KF.out wa Xa.out); clear hba E1)
          | (go_at_call 19; (with_reducible refine (E5.out _).mono ?_); rintro e wb ⟨rfl, hbb⟩; have Xb : Hid (Below w8.heap.size w8 wb) := (by first | exact Xa.out.trans (hbb.mono Xa.out.size) | exact Xa.out.drew.trans (hbb.mono Xa.out.drew.size)); have KKb := Lib.hid (KF.out wb Xb.out); clear hbb E5)
          | (go_at_call 20; (with_reducible refine (E6.out _).mono ?_); rintro e wc ⟨rfl, hbc⟩; have Xc : Hid (Below w8.heap.size w8 wc) := (by first | exact Xb.out.trans (hbc.mono Xb.out.size) | exact Xb.out.drew.trans (hbc.mono Xb.out.drew.size)); have KKc := Lib.hid (KF.out wc Xc.out); clear hbc E6)
          | (go_at_call 17; (with_reducible refine (E2.out _).mono ?_); rintro e wd ⟨rfl, hbd⟩; have Xd : Hid (Below w8.heap.size w8 wd) := (by first | exact Xc.out.trans (hbd.mono Xc.out.size) | exact Xc.out.drew.trans (hbd.mono Xc.out.drew.size)); have KKd := Lib.hid (KF.out wd Xd.out); clear hbd E2)
          | (go_at_call 17; (with_reducible refine (E3.out _).mono ?_); rintro e we ⟨rfl, hbe⟩; have Xe : Hid (Below w8.heap.size w8 we) := (by first | exact Xd.out.trans (hbe.mono Xd.out.size) | exact Xd.out.drew.trans (hbe.mono Xd.out.drew.size)); have KKe := Lib.hid (KF.out we Xe.out); clear hbe E3)
          | (go_at_call 17; (with_reducible refine (E4.out (by first | rfl | trivial) _).mono ?_); rintro e wf ⟨rfl, hbf⟩; have Xf : Hid (Below w8.heap.size w8 wf) := (by first | exact Xe.out.trans (hbf.mono Xe.out.size) | exact Xe.out.drew.trans (hbf.mono Xe.out.drew.size)); have KKf := Lib.hid (KF.out wf Xf.out); clear hbf E4)
          )
      rename_i hHeld
      clear hHeld ua0 ua1 ua2 ua3 ua4 ua5 ua6 ua7 ub0 ub1 ub2 ub3 ub4 ub5 ub6 ub7 uc0 uc1 uc2 uc3 uc4 uc5 uc6 uc7 ud0 ud1 ud2 ud3 ud4 ud5 ud6 ud7 ue0 ue1 ue2 ue3 ue4 ue5 ue6 ue7
      go_wp2
      go_ret
      exact ⟨rfl, by rw [HS.out]; first | exact BF.out.trans (Xf.out.mono VF.out) | exact BF.out.trans (Xf.out.drew.mono VF.out)⟩
    | false =>
      go_wp2_with fail
      rw (occs := .pos [2]) [← op72_eq]
      rw [← op74_eq, ← op75_eq]
      go_region_held3 (fun w' => (w'.cell? ⟨S, 0, none⟩ = some (.int .u8 x0) ∧ w'.cell? ⟨S, 1, none⟩ = some (.int .u8 x1) ∧ w'.cell? ⟨S, 2, none⟩ = some (.int .u8 x2) ∧ w'.cell? ⟨S, 3, none⟩ = some (.int .u8 x3) ∧ w'.cell? ⟨S, 4, none⟩ = some (.int .u8 x4) ∧ w'.cell? ⟨S, 5, none⟩ = some (.int .u8 x5) ∧ w'.cell? ⟨S, 6, none⟩ = some (.int .u8 x6) ∧ w'.cell? ⟨S, 7, none⟩ = some (.int .u8 x7)) ∧ (w'.cell? ⟨S + 1, 0, none⟩ = some (.int .u8 y0) ∧ w'.cell? ⟨S + 1, 1, none⟩ = some (.int .u8 y1) ∧ w'.cell? ⟨S + 1, 2, none⟩ = some (.int .u8 y2) ∧ w'.cell? ⟨S + 1, 3, none⟩ = some (.int .u8 y3) ∧ w'.cell? ⟨S + 1, 4, none⟩ = some (.int .u8 y4) ∧ w'.cell? ⟨S + 1, 5, none⟩ = some (.int .u8 y5) ∧ w'.cell? ⟨S + 1, 6, none⟩ = some (.int .u8 y6) ∧ w'.cell? ⟨S + 1, 7, none⟩ = some (.int .u8 y7)) ∧ (w'.cell? ⟨G, 0, none⟩ = some (.int .u8 x0) ∧ w'.cell? ⟨G, 1, none⟩ = some (.int .u8 x1) ∧ w'.cell? ⟨G, 2, none⟩ = some (.int .u8 x2) ∧ w'.cell? ⟨G, 3, none⟩ = some (.int .u8 x3) ∧ w'.cell? ⟨G, 4, none⟩ = some (.int .u8 x4) ∧ w'.cell? ⟨G, 5, none⟩ = some (.int .u8 x5) ∧ w'.cell? ⟨G, 6, none⟩ = some (.int .u8 x6) ∧ w'.cell? ⟨G, 7, none⟩ = some (.int .u8 x7)) ∧ (w'.cell? ⟨H, 0, none⟩ = some (.int .u8 z0) ∧ w'.cell? ⟨H, 1, none⟩ = some (.int .u8 z1) ∧ w'.cell? ⟨H, 2, none⟩ = some (.int .u8 z2) ∧ w'.cell? ⟨H, 3, none⟩ = some (.int .u8 z3) ∧ w'.cell? ⟨H, 4, none⟩ = some (.int .u8 z4) ∧ w'.cell? ⟨H, 5, none⟩ = some (.int .u8 z5) ∧ w'.cell? ⟨H, 6, none⟩ = some (.int .u8 z6) ∧ w'.cell? ⟨H, 7, none⟩ = some (.int .u8 z7)) ∧ (w'.cell? ⟨J, 0, none⟩ = some (.int .u8 z0) ∧ w'.cell? ⟨J, 1, none⟩ = some (.int .u8 z1) ∧ w'.cell? ⟨J, 2, none⟩ = some (.int .u8 z2) ∧ w'.cell? ⟨J, 3, none⟩ = some (.int .u8 z3) ∧ w'.cell? ⟨J, 4, none⟩ = some (.int .u8 z4) ∧ w'.cell? ⟨J, 5, none⟩ = some (.int .u8 z5) ∧ w'.cell? ⟨J, 6, none⟩ = some (.int .u8 z6) ∧ w'.cell? ⟨J, 7, none⟩ = some (.int .u8 z7))) (first | exact KKe.out | exact KKd.out | exact KKc.out | exact KKb.out | exact KKa.out | go_keep)
        (first
          | (go_at_call 17; (with_reducible refine (E1.out _).mono ?_); rintro e wa ⟨rfl, hba⟩; have Xa : Hid (Below w8.heap.size w8 wa) := (by first | exact X0.out.trans (hba.mono X0.out.size) | exact X0.out.drew.trans (hba.mono X0.out.drew.size)); have KKa := Lib.hid (KF.out wa Xa.out); clear hba E1)
          | (go_at_call 19; (with_reducible refine (E5.out _).mono ?_); rintro e wb ⟨rfl, hbb⟩; have Xb : Hid (Below w8.heap.size w8 wb) := (by first | exact Xa.out.trans (hbb.mono Xa.out.size) | exact Xa.out.drew.trans (hbb.mono Xa.out.drew.size)); have KKb := Lib.hid (KF.out wb Xb.out); clear hbb E5)
          | (go_at_call 20; (with_reducible refine (E6.out _).mono ?_); rintro e wc ⟨rfl, hbc⟩; have Xc : Hid (Below w8.heap.size w8 wc) := (by first | exact Xb.out.trans (hbc.mono Xb.out.size) | exact Xb.out.drew.trans (hbc.mono Xb.out.drew.size)); have KKc := Lib.hid (KF.out wc Xc.out); clear hbc E6)
          | (go_at_call 17; (with_reducible refine (E2.out _).mono ?_); rintro e wd ⟨rfl, hbd⟩; have Xd : Hid (Below w8.heap.size w8 wd) := (by first | exact Xc.out.trans (hbd.mono Xc.out.size) | exact Xc.out.drew.trans (hbd.mono Xc.out.drew.size)); have KKd := Lib.hid (KF.out wd Xd.out); clear hbd E2)
          | (go_at_call 17; (with_reducible refine (E3.out _).mono ?_); rintro e we ⟨rfl, hbe⟩; have Xe : Hid (Below w8.heap.size w8 we) := (by first | exact Xd.out.trans (hbe.mono Xd.out.size) | exact Xd.out.drew.trans (hbe.mono Xd.out.drew.size)); have KKe := Lib.hid (KF.out we Xe.out); clear hbe E3)
          )
      all_goals
        rename_i hHeld
        clear hHeld ua0 ua1 ua2 ua3 ua4 ua5 ua6 ua7 ub0 ub1 ub2 ub3 ub4 ub5 ub6 ub7 uc0 uc1 uc2 uc3 uc4 uc5 uc6 uc7 ud0 ud1 ud2 ud3 ud4 ud5 ud6 ud7 ue0 ue1 ue2 ue3 ue4 ue5 ue6 ue7
        go_wp2
        go_ret
        exact ⟨rfl, by rw [HS.out]; first | exact BF.out.trans (Xe.out.mono VF.out) | exact BF.out.trans (Xe.out.drew.mono VF.out)⟩
  · have hl1 : (1000 : Int) < (sz0 : Int) := by omega
    go_enter Tryd.func5, Tryd.ntmps5
    rw [← hsz0] at hl1
    clear hsz0
    go_wp2_with (first
      | (go_at_call 8
         refine CK.out.mono ?_
         rintro e w1 ⟨rfl, hb⟩
         have B1 : Hid (Below S w w1) := B0.out.trans (hb.mono (Nat.le_of_lt (lt_of_block T2.out)))
         clear hb CK T0 T1 T2 B0 hS)
      | fail)
    go_ret
    exact ⟨rfl, by rw [HS.out]; exact B1.out⟩
end Go.Proofs.YtimhjofnaoljjaaDoor
