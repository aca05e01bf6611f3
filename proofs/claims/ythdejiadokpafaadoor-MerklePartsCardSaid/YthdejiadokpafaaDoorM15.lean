/-
  The law's first sentence: a proof of one of three.
-/
import Derived.Test.YthdejiadokpafaaDoorM14
namespace Go.Proofs.YthdejiadokpafaaDoor
open Go.RowKit
def l24 : List Int := [1, 0, 0, 0, 0, 0, 0, 0, 2, 0, 0, 0, 0, 0, 0, 0, 3, 0, 0, 0, 0, 0, 0, 0]
theorem l24_len : l24.length = 8 * 3 := rfl
theorem ba24 : ba l24 = #[.int .u8 1, .int .u8 0, .int .u8 0, .int .u8 0, .int .u8 0, .int .u8 0, .int .u8 0, .int .u8 0, .int .u8 2, .int .u8 0, .int .u8 0, .int .u8 0, .int .u8 0, .int .u8 0, .int .u8 0, .int .u8 0, .int .u8 3, .int .u8 0, .int .u8 0, .int .u8 0, .int .u8 0, .int .u8 0, .int .u8 0, .int .u8 0] := rfl
theorem l24_cells {w : World} {V : Nat} (h : BA w V 27 l24) : w.cell? ⟨V, 16, none⟩ = some (.int .u8 3) ∧ w.cell? ⟨V, 17, none⟩ = some (.int .u8 0) ∧ w.cell? ⟨V, 18, none⟩ = some (.int .u8 0) ∧ w.cell? ⟨V, 19, none⟩ = some (.int .u8 0) ∧ w.cell? ⟨V, 20, none⟩ = some (.int .u8 0) ∧ w.cell? ⟨V, 21, none⟩ = some (.int .u8 0) ∧ w.cell? ⟨V, 22, none⟩ = some (.int .u8 0) ∧ w.cell? ⟨V, 23, none⟩ = some (.int .u8 0) :=
  ⟨ba_cell h 16 (by decide), ba_cell h 17 (by decide), ba_cell h 18 (by decide), ba_cell h 19 (by decide), ba_cell h 20 (by decide), ba_cell h 21 (by decide), ba_cell h 22 (by decide), ba_cell h 23 (by decide)⟩
theorem cut3 : cutN 3 = 2 := cutN_pow 1 3 (by decide) (by decide) (by decide)
theorem prov3 : provL 3 l24 2 3 = [rootF 2 (l24.take 16)] := by
  rw [provL_r 2 2 3 l24 (by decide) (by rw [cut3]; decide), cut3, provL_one]
  rfl
theorem src_eight0 {w : World} {g o : Nat} {pr : List Int} (h : Src w (some ⟨g, o, none⟩) (8 * 1) pr) (x0 x1 x2 x3 x4 x5 x6 x7 : Int) (hx : pr = [x0, x1, x2, x3, x4, x5, x6, x7]) :
    w.cell? ⟨g, o, none⟩ = some (.int .u8 x0) ∧ w.cell? ⟨g, o + 1, none⟩ = some (.int .u8 x1) ∧ w.cell? ⟨g, o + 2, none⟩ = some (.int .u8 x2) ∧ w.cell? ⟨g, o + 3, none⟩ = some (.int .u8 x3) ∧ w.cell? ⟨g, o + 4, none⟩ = some (.int .u8 x4) ∧ w.cell? ⟨g, o + 5, none⟩ = some (.int .u8 x5) ∧ w.cell? ⟨g, o + 6, none⟩ = some (.int .u8 x6) ∧ w.cell? ⟨g, o + 7, none⟩ = some (.int .u8 x7) := by
  have := src_eight (q := 0) h x0 x1 x2 x3 x4 x5 x6 x7 (by rw [Nat.mul_zero, List.drop_zero]; exact hx)
  simpa using this
theorem chk3 (x : List Int) (hx : rootF 2 (l24.take 16) = x) : chkB (rootF 3 l24) [3, 0, 0, 0, 0, 0, 0, 0] 2 3 1 x = true := by
  have h := lead_prov 3 l24 2 3 l24_len (by decide) (Nat.le_refl _) (by decide)
  have hs : stepsF 3 2 3 = 1 := by rw [← provL_len 3 l24 2 3, prov3]; rfl
  rw [prov3, hs, hx] at h
  have e : (l24.drop (8 * 2)).take 8 = [3, 0, 0, 0, 0, 0, 0, 0] := rfl
  have e2 : [x].flatten = x := by simp
  rw [e, e2] at h
  have := chkB_yes (root := rootF 3 l24) (leaf := [3, 0, 0, 0, 0, 0, 0, 0]) (pr := x) (i := 2) (n := 3) (m := 1) (by decide) (by decide)
  rw [hs, h] at this
  simpa using this
attribute [local irreducible] ua da ba kk sw S8.run rt hs comp splice outB sha msg rootF leafH twoH stepsF cutN leadF provL bvals rootV l24
set_option maxRecDepth 100000 in
set_option maxHeartbeats 8000000 in
theorem p7 (w : World) (hk : Keys w) : Calls Tryd.prog 7 #[] w fun e w' => e = .returned (.bool true) ∧ Below w.heap.size w w' := by
  have HK := Lib.hid hk
  have HP : Hid (0 < w.heap.size) := keys_pos hk
  obtain ⟨V, hV⟩ : ∃ V, w.heap.size = V := ⟨_, rfl⟩
  have HV := Lib.hid hV
  have T0 : Hid (BA (w.alloc (Obj.cells #[.int .u8 1, .int .u8 0, .int .u8 0, .int .u8 0, .int .u8 0, .int .u8 0, .int .u8 0, .int .u8 0, .int .u8 2, .int .u8 0, .int .u8 0, .int .u8 0, .int .u8 0, .int .u8 0, .int .u8 0, .int .u8 0, .int .u8 3, .int .u8 0, .int .u8 0, .int .u8 0, .int .u8 0, .int .u8 0, .int .u8 0, .int .u8 0] 27)) V 27 l24) := by
    show _ = _
    rw [ba24, ← hV]
    exact heap_alloc_last w _
  have B0 : Hid (Below V w (w.alloc (Obj.cells #[.int .u8 1, .int .u8 0, .int .u8 0, .int .u8 0, .int .u8 0, .int .u8 0, .int .u8 0, .int .u8 0, .int .u8 2, .int .u8 0, .int .u8 0, .int .u8 0, .int .u8 0, .int .u8 0, .int .u8 0, .int .u8 0, .int .u8 3, .int .u8 0, .int .u8 0, .int .u8 0, .int .u8 0, .int .u8 0, .int .u8 0, .int .u8 0] 27))) := by rw [← hV]; exact (Below.refl _ _).alloc (Nat.le_refl _) _
  have KW : Hid (∀ w', Below V w w' → Keys w') := fun w' hb => keys_below HK.out hb (by rw [← HV.out]; exact HP.out)
  have S24 : Hid (∀ w', BA w' V 27 l24 → Src w' (some ⟨V, 0, none⟩) (8 * 3) l24) := fun w' h => by
    have := src_ba h 24 (by rw [l24_len]; decide)
    rwa [List.take_of_length_le (by rw [l24_len]; decide)] at this
  have C := Lib.hid (p8 (some ⟨V, 0, none⟩) 3 3 2 l24 _ (KW.out _ B0.out) (S24.out _ T0.out) (by decide) (by decide) (by decide) (by decide))
  obtain ⟨x, hx⟩ : ∃ x, rootF 2 (l24.take 16) = x := ⟨_, rfl⟩
  have HX8 : Hid (x.length = 8) := by rw [← hx]; exact rootF_len _ _
  have CH := Lib.hid (chk3 x hx)
  obtain ⟨x0, x1, x2, x3, x4, x5, x6, x7, hx8⟩ := c8cells x HX8.out
  have HX := Lib.hid hx8
  have HR2 : Hid (rootF 2 (l24.take 16) = x) := hx
  obtain ⟨r0, r1, r2, r3, r4, r5, r6, r7, hr8⟩ := c8cells (rootF 3 l24) (rootF_len _ _)
  have HR := Lib.hid hr8
  clear hk hx hx8 hr8
  go_enter Tryd.func7, Tryd.ntmps7
  go_wp2_with fail
  clear hV
  generalize w.alloc (Obj.cells #[.int .u8 1, .int .u8 0, .int .u8 0, .int .u8 0, .int .u8 0, .int .u8 0, .int .u8 0, .int .u8 0, .int .u8 2, .int .u8 0, .int .u8 0, .int .u8 0, .int .u8 0, .int .u8 0, .int .u8 0, .int .u8 0, .int .u8 3, .int .u8 0, .int .u8 0, .int .u8 0, .int .u8 0, .int .u8 0, .int .u8 0, .int .u8 0] 27) = w0 at *
  refine C.out.mono ?_
  rintro e w1 ⟨A, c, rfl, hsr, hc1, hc2, hb1⟩
  have HE : Hid (provL 3 l24 2 3 = [x]) := by show _ = _; rw [prov3, HR2.out]
  rw [HE.out] at hsr hc1
  rw [HE.out]
  have hsr1 : Src w1 A (8 * 1) x := by simpa using hsr
  have hc0 : 1 ≤ c := hc1
  obtain ⟨g, o, hA⟩ := src_at hsr1 (Nat.le_refl _)
  subst hA
  have HSR := Lib.hid hsr1
  have HC0 := Lib.hid hc0
  have LV : Hid (V < w0.heap.size) := lt_of_block T0.out
  have T1 : Hid (BA w1 V 27 l24) := (hb1.block V LV.out).trans T0.out
  have B1 : Hid (Below V w w1) := B0.out.trans (hb1.mono (Nat.le_of_lt LV.out))
  have L1 : Hid (V < w1.heap.size) := lt_of_block T1.out
  have KF : Hid (∀ w', Below w1.heap.size w1 w' → (w'.cell? ⟨g, o, none⟩ = some (.int .u8 x0) ∧ w'.cell? ⟨g, o + 1, none⟩ = some (.int .u8 x1) ∧ w'.cell? ⟨g, o + 2, none⟩ = some (.int .u8 x2) ∧ w'.cell? ⟨g, o + 3, none⟩ = some (.int .u8 x3) ∧ w'.cell? ⟨g, o + 4, none⟩ = some (.int .u8 x4) ∧ w'.cell? ⟨g, o + 5, none⟩ = some (.int .u8 x5) ∧ w'.cell? ⟨g, o + 6, none⟩ = some (.int .u8 x6) ∧ w'.cell? ⟨g, o + 7, none⟩ = some (.int .u8 x7)) ∧ (w'.cell? ⟨V, 16, none⟩ = some (.int .u8 3) ∧ w'.cell? ⟨V, 17, none⟩ = some (.int .u8 0) ∧ w'.cell? ⟨V, 18, none⟩ = some (.int .u8 0) ∧ w'.cell? ⟨V, 19, none⟩ = some (.int .u8 0) ∧ w'.cell? ⟨V, 20, none⟩ = some (.int .u8 0) ∧ w'.cell? ⟨V, 21, none⟩ = some (.int .u8 0) ∧ w'.cell? ⟨V, 22, none⟩ = some (.int .u8 0) ∧ w'.cell? ⟨V, 23, none⟩ = some (.int .u8 0))) := fun w' hb => ⟨src_eight0 (HSR.out.keep fun q hq => hb.block q hq) x0 x1 x2 x3 x4 x5 x6 x7 HX.out, l24_cells ((hb.block V L1.out).trans T1.out)⟩
  have BB : Hid (∀ w', Below w1.heap.size w1 w' → Below V w w') := fun w' hb => B1.out.trans (hb.mono (Nat.le_of_lt L1.out))
  have TT : Hid (∀ w', Below w1.heap.size w1 w' → BA w' V 27 l24) := fun w' hb => (hb.block V L1.out).trans T1.out
  have E1 : Hid (∀ w', Below w1.heap.size w1 w' → Calls Tryd.prog 10 #[.slice (some ⟨V, 0, none⟩) 2 3] w' fun e w'' => e = .returned (.agg #[.int .u8 x0, .int .u8 x1, .int .u8 x2, .int .u8 x3, .int .u8 x4, .int .u8 x5, .int .u8 x6, .int .u8 x7]) ∧ Below w'.heap.size w' w'') := fun w' hb => by
    have h := S24.out w' (TT.out w' hb)
    have := p10 _ 2 3 _ w' (KW.out w' (BB.out w' hb)) (src_take h 2 (by decide)) (by decide) (by decide)
    rw [rootV_ok _ (by decide), show 8 * 2 = 16 from rfl, HR2.out, HX.out, ba_lit] at this
    exact this
  have E2 : Hid (∀ w', Below w1.heap.size w1 w' → Calls Tryd.prog 10 #[.slice (some ⟨V, 0, none⟩) 3 3] w' fun e w'' => e = .returned (.agg #[.int .u8 r0, .int .u8 r1, .int .u8 r2, .int .u8 r3, .int .u8 r4, .int .u8 r5, .int .u8 r6, .int .u8 r7]) ∧ Below w'.heap.size w' w'') := fun w' hb => by
    have h := S24.out w' (TT.out w' hb)
    have := p10 _ 3 3 _ w' (KW.out w' (BB.out w' hb)) h (by decide) (by decide)
    rw [rootV_ok _ (by decide), HR.out, ba_lit] at this
    exact this
  have E3 : Hid (∀ w', Below w1.heap.size w1 w' → Calls Tryd.prog 12 #[.agg #[.int .u8 r0, .int .u8 r1, .int .u8 r2, .int .u8 r3, .int .u8 r4, .int .u8 r5, .int .u8 r6, .int .u8 r7], .agg #[.int .u8 3, .int .u8 0, .int .u8 0, .int .u8 0, .int .u8 0, .int .u8 0, .int .u8 0, .int .u8 0], .int .i64 2, .int .i64 3, .slice (some ⟨g, o, none⟩) 1 c] w' fun e w'' => e = .returned (.bool true) ∧ Below w'.heap.size w' w'') := fun w' hb => by
    have := p12 (rootF 3 l24) [3, 0, 0, 0, 0, 0, 0, 0] 2 3 (some ⟨g, o, none⟩) 1 c x w' (KW.out w' (BB.out w' hb)) (rootF_len _ _) rfl (HSR.out.keep fun q hq => hb.block q hq) HC0.out
    rw [CH.out, HR.out, ba_lit, ba_lit] at this
    exact this
  have fq : ∀ w, (Op.equalIn 10000 27 (.agg #[.int .u8 x0, .int .u8 x1, .int .u8 x2, .int .u8 x3, .int .u8 x4, .int .u8 x5, .int .u8 x6, .int .u8 x7]) (.agg #[.int .u8 x0, .int .u8 x1, .int .u8 x2, .int .u8 x3, .int .u8 x4, .int .u8 x5, .int .u8 x6, .int .u8 x7])).run Tryd.prog w = .ok true w := fun w => by
    have := eqh [x0, x1, x2, x3, x4, x5, x6, x7] [x0, x1, x2, x3, x4, x5, x6, x7] w rfl rfl
    rw [ba_lit, decide_eq_true rfl] at this
    exact this
  have X0 : Hid (Below w1.heap.size w1 w1) := Below.refl _ _
  obtain ⟨⟨u0, u1, u2, u3, u4, u5, u6, u7⟩, ⟨t0, t1, t2, t3, t4, t5, t6, t7⟩⟩ := KF.out w1 X0.out
  have q1 : (1 : Int) ≤ (c : Int) := by omega
  clear hsr hsr1 hc0 hc1 hc2 hb1
  go_wp2_with fail
  go_region_held3 (fun w' => (w'.cell? ⟨g, o, none⟩ = some (.int .u8 x0) ∧ w'.cell? ⟨g, o + 1, none⟩ = some (.int .u8 x1) ∧ w'.cell? ⟨g, o + 2, none⟩ = some (.int .u8 x2) ∧ w'.cell? ⟨g, o + 3, none⟩ = some (.int .u8 x3) ∧ w'.cell? ⟨g, o + 4, none⟩ = some (.int .u8 x4) ∧ w'.cell? ⟨g, o + 5, none⟩ = some (.int .u8 x5) ∧ w'.cell? ⟨g, o + 6, none⟩ = some (.int .u8 x6) ∧ w'.cell? ⟨g, o + 7, none⟩ = some (.int .u8 x7)) ∧ (w'.cell? ⟨V, 16, none⟩ = some (.int .u8 3) ∧ w'.cell? ⟨V, 17, none⟩ = some (.int .u8 0) ∧ w'.cell? ⟨V, 18, none⟩ = some (.int .u8 0) ∧ w'.cell? ⟨V, 19, none⟩ = some (.int .u8 0) ∧ w'.cell? ⟨V, 20, none⟩ = some (.int .u8 0) ∧ w'.cell? ⟨V, 21, none⟩ = some (.int .u8 0) ∧ w'.cell? ⟨V, 22, none⟩ = some (.int .u8 0) ∧ w'.cell? ⟨V, 23, none⟩ = some (.int .u8 0))) (first | (with_reducible exact KKa.out) | (with_reducible exact KKb.out) | (with_reducible exact KKc.out) | go_keep)
    (first
      | (go_at_call 10; (with_reducible refine (E1.out _ (by first | exact X0.out | exact X0.out.drew)).mono ?_); rintro e wa ⟨rfl, hba⟩; have Xa : Hid (Below w1.heap.size w1 wa) := (by first | exact X0.out.trans (hba.mono X0.out.size) | exact X0.out.drew.trans (hba.mono X0.out.drew.size)); have KKa := Lib.hid (KF.out wa Xa.out); clear hba)
      | (go_at_call 10; (with_reducible refine (E2.out _ (by first | exact Xa.out | exact Xa.out.drew)).mono ?_); rintro e wb ⟨rfl, hbb⟩; have Xb : Hid (Below w1.heap.size w1 wb) := (by first | exact Xa.out.trans (hbb.mono Xa.out.size) | exact Xa.out.drew.trans (hbb.mono Xa.out.drew.size)); have KKb := Lib.hid (KF.out wb Xb.out); clear hbb)
      | (go_at_call 12; (with_reducible refine (E3.out _ (by first | exact Xb.out | exact Xb.out.drew)).mono ?_); rintro e wc ⟨rfl, hbc⟩; have Xc : Hid (Below w1.heap.size w1 wc) := (by first | exact Xb.out.trans (hbc.mono Xb.out.size) | exact Xb.out.drew.trans (hbc.mono Xb.out.drew.size)); have KKc := Lib.hid (KF.out wc Xc.out); clear hbc))
  rename_i hHeld
  clear hHeld
  go_wp2
  go_ret
  exact ⟨rfl, by rw [HV.out]; exact BB.out _ Xc.out⟩
end Go.Proofs.YthdejiadokpafaaDoor
