/-
  awake.
-/
import Derived.Test.YtgagcblddcibkaaDoorS10
namespace Go.Proofs.YtgagcblddcibkaaDoor
open Go.RowKit
open Go.Maps
def one8 : List Int := [1, 0, 0, 0, 0, 0, 0, 0]
theorem one8_ba : ba one8 = #[.int .u8 1, .int .u8 0, .int .u8 0, .int .u8 0, .int .u8 0, .int .u8 0, .int .u8 0, .int .u8 0] := rfl
theorem one8_len : one8.length = 8 := rfl
def fone : Int → List Int := upd (fun _ => zeros 8) 5 one8
theorem fone_eq : upd (fun _ => zeros 8) 5 one8 = fone := rfl
theorem fone_at : fone 5 = one8 := upd_same _ _ _
theorem fone_ks (k : Int) : fone k ≠ zeros 8 ↔ k ∈ [(5 : Int)] := by
  by_cases e : k = 5
  · subst e
    rw [fone_at]
    simp [one8, zeros]
  · unfold fone
    rw [upd_other _ _ e]
    simp [e]
theorem ba_bvals (l : List Int) : ba l = (bvals l).toArray := rfl
attribute [local irreducible] ua da ba kk sw S8.run rt hs comp splice outB sha msg twoM twoN ab MapIs mrow nd upF at8 prfL one8 fone bvals
set_option maxRecDepth 100000 in
set_option maxHeartbeats 8000000 in
theorem p8 (w : World) (hk : Keys w) : Calls Tryd.prog 8 #[] w fun e w' => e = .returned (.bool true) ∧ Below w.heap.size w w' := by
  have h4 := z30
  have HK := Lib.hid hk
  have HP : Hid (0 < w.heap.size) := keys_pos hk
  obtain ⟨S, hS⟩ : ∃ S, w.heap.size = S := ⟨_, rfl⟩
  have HS := Lib.hid hS
  have KW : Hid (∀ w', Below S w w' → Keys w') := fun w' hb => keys_below HK.out hb (by rw [← HS.out]; exact HP.out)
  have C23 := Lib.hid (p23 w)
  rw [hS] at C23
  clear hk
  go_enter Tryd.func8, Tryd.ntmps8
  go_wp2_with fail
  clear hS
  refine C23.out.mono ?_
  rintro e w1 ⟨rfl, ht1, hb1⟩
  have T1 := Lib.hid ht1
  have B1 := Lib.hid hb1
  have C20 : Hid (Calls Tryd.prog 20 #[.pointer (some ⟨S, 0, none⟩), .int .i64 5, .agg #[.int .u8 1, .int .u8 0, .int .u8 0, .int .u8 0, .int .u8 0, .int .u8 0, .int .u8 0, .int .u8 0]] w1 fun e w' => e = .returned (.bool true) ∧ ∃ ms', Tr w' S S ms' (nd fone) 17 ∧ Chg w1 w' S (fun _ => none) ms') := by
    have := p20 S S 0 5 one8 (fun _ => none) (fun _ => zeros 8) w1 (KW.out w1 B1.out) (by rw [← HS.out]; exact HP.out) T1.out (by omega) one8_len (by omega)
    rw [one8_ba, show ((5 : Nat) : Int) = 5 from rfl, fone_eq] at this
    exact this
  clear ht1 hb1
  go_wp2_with fail
  refine C20.out.mono ?_
  rintro e w2 ⟨rfl, ms, ht2, hc2⟩
  have T2 := Lib.hid ht2
  have B2 : Hid (Below S w w2) := B1.out.trans (T1.out.below hc2)
  clear ht2 hc2 T1 B1 C20 C23
  have C10 : Hid (Calls Tryd.prog 10 #[.pointer (some ⟨S, 0, none⟩), .int .i64 5] w2 fun e w' => e = .returned (.tuple #[.agg (ba (prfL fone 5 16)), .bool true]) ∧ (prfL fone 5 16).length = 128 ∧ Below w2.heap.size w2 w') := by
    have := p10 S S 17 5 ms fone w2 T2.out (by omega)
    rw [show ((5 : Nat) : Int) = 5 from rfl] at this
    exact this
  have HC : Hid (chk6 (nd fone 16 0) 5 one8 (prfL fone 5 16) = true) := by
    have := chk_prf fone 5 (by omega) (T2.out.lens 5 (by omega))
    show _ = _
    rw [← fone_at]
    exact this
  have LR : Hid ((nd fone 16 0).length = 8) := (T2.out.get 16 (by omega) (k := 0) (wf_small (by omega) (by omega))).2
  generalize prfL fone 5 16 = pr at *
  generalize hrt : nd fone 16 0 = rt at *
  have HRT := Lib.hid hrt
  clear hrt
  go_wp2_with fail
  refine C10.out.mono ?_
  rintro e w3 ⟨rfl, hlp, hb3⟩
  have LP := Lib.hid hlp
  have B3 : Hid (Below S w w3) := B2.out.trans (hb3.mono (Nat.le_of_lt T2.out.lt))
  have T3 : Hid (Tr w3 S S ms (nd fone) 17) := T2.out.grow hb3
  obtain ⟨V, hV⟩ : ∃ V, w3.heap.size = V := ⟨_, rfl⟩
  have P1 : Hid (BA (w3.alloc (Obj.cells (ba (zeros 128)) 30)) V 30 (zeros 128)) := by show _ = _; rw [← hV]; exact heap_alloc_last w3 _
  have SV : Hid (S < V) := by show _ < _; rw [← hV]; exact T3.out.lt
  clear hlp hb3 C10 T2 B2
  go_wp2_with (refine wpList_store_rowTo rfl 30 (.tmp 3) (.tmp 14) rfl rfl V (ba pr) rfl rfl 30 (ba (zeros 128)) P1.out (sz s30 (by rw [ba_size, LP.out])) (by rw [ba_size, ba_size, LP.out, zeros_len]) (ba_one _) ?_)
  have P4 : Hid (BA ((w3.alloc (Obj.cells (ba (zeros 128)) 30)).setRow V (ba pr)) V 30 pr) := setRow_heap _ _ _ _ _ _ P1.out
  have B34 : Hid (Below w3.heap.size w3 ((w3.alloc (Obj.cells (ba (zeros 128)) 30)).setRow V (ba pr))) := below_setRow ((Below.refl w3.heap.size w3).alloc (Nat.le_refl _) _) (by omega) _
  have T4 : Hid (Tr ((w3.alloc (Obj.cells (ba (zeros 128)) 30)).setRow V (ba pr)) S S ms (nd fone) 17) := T3.out.grow B34.out
  have B4 : Hid (Below S w ((w3.alloc (Obj.cells (ba (zeros 128)) 30)).setRow V (ba pr))) := B3.out.trans (B34.out.mono (by have := SV.out; omega))
  clear P1 B34 hV T3 B3
  generalize (w3.alloc (Obj.cells (ba (zeros 128)) 30)).setRow V (ba pr) = w4 at *
  have SW4 : Hid (S ≤ w4.heap.size) := Nat.le_of_lt T4.out.lt
  have KF : Hid (∀ w', Below w4.heap.size w4 w' → w'.rangeAt V 0 (bvals pr)) := fun w' hb => ba_range (t := 30) ((hb.block V (lt_of_block P4.out)).trans P4.out)
  have TW : Hid (∀ w', Below w4.heap.size w4 w' → Tr w' S S ms (nd fone) 17) := fun w' hb => T4.out.grow hb
  have KW4 : Hid (∀ w', Below w4.heap.size w4 w' → Keys w') := fun w' hb => KW.out w' (B4.out.trans (hb.mono SW4.out))
  have X0 : Hid (Below w4.heap.size w4 w4) := Below.refl _ _
  have E12 : Hid (∀ w', Below w4.heap.size w4 w' → Calls Tryd.prog 12 #[.pointer (some ⟨S, 0, none⟩)] w' fun e w'' => e = .returned (.agg (ba rt)) ∧ Below w'.heap.size w' w'') := fun w' hb => by
    have := p12 S S 17 ms fone w' (TW.out w' hb)
    rw [HRT.out] at this
    exact this
  have E17 : Hid (∀ w', Below w4.heap.size w4 w' → Calls Tryd.prog 17 #[.agg (ba rt), .int .i64 5, .agg #[.int .u8 1, .int .u8 0, .int .u8 0, .int .u8 0, .int .u8 0, .int .u8 0, .int .u8 0, .int .u8 0], .agg (bvals pr).toArray] w' fun e w'' => e = .returned (.bool true) ∧ Below w'.heap.size w' w'') := fun w' hb => by
    have := p17any rt one8 pr 5 w' (KW4.out w' hb) LR.out one8_len LP.out
    rw [HC.out, one8_ba, ba_bvals pr] at this
    exact this
  have E16 : Hid (∀ w', Below w4.heap.size w4 w' → Calls Tryd.prog 16 #[.pointer (some ⟨S, 0, none⟩)] w' fun e w'' => e = .returned (.int .i64 1) ∧ Below w'.heap.size w' w'') := fun w' hb =>
    (p16 S S 17 ms fone [5] w' (TW.out w' hb) (by simp) fone_ks).mono fun e w'' h => ⟨h.1, by rw [h.2]; exact Below.refl _ _⟩
  have E14 : Hid (∀ w', Below w4.heap.size w4 w' → Calls Tryd.prog 14 #[.pointer (some ⟨S, 0, none⟩), .int .i64 5] w' fun e w'' => e = .returned (.agg #[.int .u8 1, .int .u8 0, .int .u8 0, .int .u8 0, .int .u8 0, .int .u8 0, .int .u8 0, .int .u8 0]) ∧ Below w'.heap.size w' w'') := fun w' hb => by
    have := p14 S S 17 5 ms fone w' (TW.out w' hb) (wf_small (by omega) (by omega))
    rw [fone_at, one8_ba] at this
    exact this
  have eT := eqT 1 0 0 0 0 0 0 0
  have hu30 := Tryd.underlying30
  have hi30 : (Tryd.prog.info? 30).map (·.size) = some (bvals pr).length := by rw [s30]; simp [bvals, LP.out]
  have pP := KF.out w4 X0.out
  have HSB : Hid (w.heap.size = S) := HS.out
  clear h4 P4 T4 HC HRT
  go_region_held3 (fun w' => w'.rangeAt V 0 (bvals pr)) (first | (with_reducible exact KKd.out) | (with_reducible exact KKc.out) | (with_reducible exact KKb.out) | (with_reducible exact KKa.out) | go_keep)
    (first
      | (go_at_call 12; refine (E12.out _ (by first | exact X0.out | exact X0.out.drew)).mono ?_; rintro e wa ⟨rfl, hba⟩; have Xa : Hid (Below w4.heap.size w4 wa) := (by first | exact X0.out.trans (hba.mono X0.out.size) | exact X0.out.drew.trans (hba.mono X0.out.drew.size)); have KKa := Lib.hid (KF.out wa Xa.out); clear hba)
      | (go_at_call 17; refine (E17.out _ (by first | exact Xa.out | exact Xa.out.drew)).mono ?_; rintro e wb ⟨rfl, hbb⟩; have Xb : Hid (Below w4.heap.size w4 wb) := (by first | exact Xa.out.trans (hbb.mono Xa.out.size) | exact Xa.out.drew.trans (hbb.mono Xa.out.drew.size)); have KKb := Lib.hid (KF.out wb Xb.out); clear hbb)
      | (go_at_call 16; refine (E16.out _ (by first | exact Xb.out | exact Xb.out.drew)).mono ?_; rintro e wc ⟨rfl, hbc⟩; have Xc : Hid (Below w4.heap.size w4 wc) := (by first | exact Xb.out.trans (hbc.mono Xb.out.size) | exact Xb.out.drew.trans (hbc.mono Xb.out.drew.size)); have KKc := Lib.hid (KF.out wc Xc.out); clear hbc)
      | (go_at_call 14; refine (E14.out _ (by first | exact Xc.out | exact Xc.out.drew)).mono ?_; rintro e wd ⟨rfl, hbd⟩; have Xd : Hid (Below w4.heap.size w4 wd) := (by first | exact Xc.out.trans (hbd.mono Xc.out.size) | exact Xc.out.drew.trans (hbd.mono Xc.out.drew.size)); have KKd := Lib.hid (KF.out wd Xd.out); clear hbd))
  rename_i hHeld
  clear hHeld
  go_wp2
  go_ret
  exact ⟨rfl, by rw [HSB.out]; exact B4.out.trans (Xd.out.mono SW4.out)⟩
end Go.Proofs.YtgagcblddcibkaaDoor
