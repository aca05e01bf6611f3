/-
  The walk of SparseOrder.
-/
import Derived.Test.YtgagcblddcibkaaDoorS45
import Derived.Deep.RegionWith
import Derived.Deep.RegionHeld3
import Derived.Deep.DeepCutAuto
namespace Go.Proofs.YtgagcblddcibkaaDoor
open Go.RowKit
open Go.Maps
theorem Tr.rng {w W : World} {BC C N : Nat} {ms : Nat → Option Nat} {F : Nat → Int → List Int} (h : Tr w BC C ms F N) (hb : ∀ q, BC ≤ q → q < w.heap.size → W.heap[q]? = w.heap[q]?) : Tr W BC C ms F N :=
  ⟨(hb C h.lo h.lt).trans h.row, h.lo, h.nil, fun s b hs hm => ⟨(h.map s b hs hm).1, (h.map s b hs hm).2.1, (h.map s b hs hm).2.2.keep (hb b (h.map s b hs hm).1 (h.map s b hs hm).2.2.lt)⟩, h.inj⟩
def Far (ms : Nat → Option Nat) (lo top : Nat) : Prop := ∀ j b, j < 17 → ms j = some b → b < lo ∨ top ≤ b
theorem Far.next {w w' : World} {T lo top : Nat} {ms ms' : Nat → Option Nat} (h : Far ms lo top) (c : Chg w w' T ms ms') (ht : top ≤ w.heap.size) : Far ms' lo top := fun j b hj hb => by
  rcases c.maps j b hj hb with h1 | h1
  · exact h j b hj h1
  · exact .inr (by omega)
theorem Far.keep {w w' : World} {T lo top : Nat} {ms ms' : Nat → Option Nat} (h : Far ms lo top) (c : Chg w w' T ms ms') (ht : top ≤ w.heap.size) (hT : T < lo) (q : Nat) (h1 : lo ≤ q) (h2 : q < top) : w'.heap[q]? = w.heap[q]? :=
  c.block q (by omega) (by omega) fun j hj e => by
    rcases h j q hj e with h3 | h3 <;> omega
def h99 : List Int := [9, 9, 0, 0, 0, 0, 0, 0]
theorem h99_ba : ba h99 = #[.int .u8 9, .int .u8 9, .int .u8 0, .int .u8 0, .int .u8 0, .int .u8 0, .int .u8 0, .int .u8 0] := rfl
theorem h99_len : h99.length = 8 := rfl
theorem b99 (w : World) : (Instr.build 29 #[(0, .int .u8 9), (1, .int .u8 9)]).run Tryd.prog w = .ok (.agg #[.int .u8 9, .int .u8 9, .int .u8 0, .int .u8 0, .int .u8 0, .int .u8 0, .int .u8 0, .int .u8 0]) w := by kernel_rfl
theorem lk_back (L : List (Int × List Int)) (g : Int) (h : List Int) : lk (putA (putA L (g, h)) (g, lk L g)) = lk L := by
  rw [lk_putA, lk_putA]
  split
  · funext k
    by_cases e : k = g
    · rw [e, upd_same]
    · rw [upd_other _ _ e, upd_other _ _ e]
  · rfl
attribute [local irreducible] ua da ba kk sw S8.run rt hs comp splice outB sha msg twoM twoN ab MapIs mrow nd upF at8 prfL zip8 bvals ivals putA fillL inr sib h99
set_option maxRecDepth 100000 in
set_option maxHeartbeats 1600000 in
theorem q5 (A : Option Addr) (n cap : Nat) (P : Nat → Int × List Int) (tu go : Int) (w : World) (hk : Keys w) (hP : Dds w A n P) (hcap : n ≤ cap) (hcm : cap ≤ 9223372036854775807) (htu : (Lit.int .u8 tu).wf = true) (hgo : (Lit.int .u16 go).wf = true) :
    Calls Tryd.prog 5 #[.slice A n cap, .int .u8 tu, .int .u16 go] w fun e w' => e = .returned (.bool true) ∧ Below w.heap.size w w' := by
  have zz4 := z30
  have zz5 := z27
  have HK := Lib.hid hk
  have HPOS : Hid (0 < w.heap.size) := keys_pos hk
  have HD := Lib.hid hP
  have C8 := Lib.hid (p8 w hk)
  by_cases hbig : 40 < n
  · have q1 : (40 : Int) < (n : Int) := by omega
    clear hbig hk hP hcap hcm htu hgo
    go_enter Tryd.func5, Tryd.ntmps5
    go_wp2_with (go_at_call 8; refine C8.out.mono ?_; rintro e w1 ⟨rfl, hb1⟩; have B1 := Lib.hid hb1; clear hb1)
    go_ret
    exact ⟨rfl, B1.out⟩
  · have q1 : ¬ (40 : Int) < (n : Int) := by omega
    have HN : Hid (n ≤ 40) := by show _ ≤ _; omega
    have HCAP := Lib.hid hcap
    have HCM := Lib.hid hcm
    have HTU := Lib.hid htu
    have HGO := Lib.hid hgo
    clear hbig hk hP hcap hcm htu hgo
    go_enter Tryd.func5, Tryd.ntmps5
    go_wp2_with (go_at_call 8; refine C8.out.mono ?_; rintro e w1 ⟨rfl, hb1⟩; have B1 := Lib.hid hb1; clear hb1)
    have CF : Hid (∀ g off, A = some ⟨g, off, none⟩ → ∀ w', Below w1.heap.size w1 w' → ∀ i, i < n → w'.cell? ⟨g, off + i * 9, none⟩ = some (.int .i64 (P i).1)) := fun g off hA w' hb i hi => by
      have hD := (HD.out.keep B1.out.block).keep hb.block
      rcases hD.cell with h0 | ⟨g2, off2, hA2, hc⟩
      · omega
      · rw [hA] at hA2
        cases hA2
        exact (hc i hi).1
    have AN : Hid (n = 0 ∨ ∃ g off, A = some ⟨g, off, none⟩) := by
      rcases HD.out.cell with h0 | ⟨g2, off2, hA2, hc⟩
      · exact .inl h0
      · exact .inr ⟨g2, off2, hA2⟩
    go_loopw [7, 8] (fun iv _ wr => ∃ i : Nat, i ≤ n ∧ iv = .int .i64 i ∧ (∀ a, a < i → ∀ b, b < a → (P b).1 ≠ (P a).1) ∧ Below w1.heap.size w1 wr) (fun iv _ _ => n - (intOf iv).toNat)
    case atStart => exact ⟨0, Nat.zero_le _, rfl, fun a h => by omega, Below.refl _ _⟩
    case round =>
      obtain ⟨i, hi, rfl, hap, hbel⟩ := hrel
      have AP := Lib.hid hap
      have XR := Lib.hid hbel
      clear hap hbel
      by_cases hlt : i < n
      · rcases AN.out with h0 | ⟨g, off, rfl⟩
        · omega
        have i0 : (0 : Int) ≤ (i : Int) := by omega
        have i1 : (i : Int) < (n : Int) := by omega
        have i2 : (i : Int) < 40 := by have := HN.out; omega
        have i3 : (i : Int) < (cap : Int) := by have := HCAP.out; omega
        have HIN : Hid (i < n) := hlt
        clear hi hlt
        go_wp2_with fail
        go_loopw [8] (fun kv wx => ∃ k : Nat, k ≤ i ∧ kv = .int .i64 k ∧ (∀ b, b < k → (P b).1 ≠ (P i).1) ∧ Below w1.heap.size w1 wx) (fun kv _ => i - (intOf kv).toNat)
        case atStart => exact ⟨0, Nat.zero_le _, rfl, fun b h => by omega, XR.out⟩
        case round =>
          clear XR
          obtain ⟨k, hki, rfl, hne, hbel⟩ := hrel
          rename World => wx
          have NE := Lib.hid hne
          have XX := Lib.hid hbel
          clear hne hbel
          by_cases hkl : k < i
          · have k0 : (0 : Int) ≤ (k : Int) := by omega
            have k1 : (k : Int) < (i : Int) := by omega
            have k2 : (k : Int) < (n : Int) := by omega
            have k3 : (k : Int) < (cap : Int) := by omega
            have HKI : Hid (k < i) := hkl
            obtain ⟨x, hx⟩ : ∃ x, (P k).1 = x := ⟨_, rfl⟩
            obtain ⟨y, hy⟩ : ∃ y, (P i).1 = y := ⟨_, rfl⟩
            have HX := Lib.hid hx
            have HY := Lib.hid hy
            have c1 := CF.out g off rfl wx XX.out k (by have := HIN.out; omega)
            have c2 := CF.out g off rfl wx XX.out i HIN.out
            rw [hx] at c1
            rw [hy] at c2
            clear hki hkl hx hy
            have KK : Hid (∀ w', Below w1.heap.size w1 w' → w'.cell? ⟨g, off + k * 9, none⟩ = some (.int .i64 x) ∧ w'.cell? ⟨g, off + i * 9, none⟩ = some (.int .i64 y)) := fun w' hb => ⟨by rw [CF.out g off rfl w' hb k (by have := HKI.out; have := HIN.out; omega), HX.out], by rw [CF.out g off rfl w' hb i HIN.out, HY.out]⟩
            have KD := Lib.hid (KK.out wx.drew XX.out.drew)
            by_cases he : x = y
            · subst he
              go_wp2_with fail
              go_region_held3 (fun w' => w'.cell? ⟨g, off + k * 9, none⟩ = some (.int .i64 x) ∧ w'.cell? ⟨g, off + i * 9, none⟩ = some (.int .i64 x)) (first | (with_reducible exact KD.out) | go_keep) (fail)
              rename_i hHeld
              clear hHeld
              go_wp2_with fail
              go_ret
              exact ⟨rfl, B1.out.trans (XX.out.drew.mono B1.out.size)⟩
            · go_wp2_with fail
              go_region_held3 (fun w' => w'.cell? ⟨g, off + k * 9, none⟩ = some (.int .i64 x) ∧ w'.cell? ⟨g, off + i * 9, none⟩ = some (.int .i64 y)) (first | (with_reducible exact KD.out) | go_keep) (fail)
              rename_i hHeld
              clear hHeld
              have HE : Hid (¬ x = y) := he
              go_wp2_with fail
              go_roundw
              case rel =>
                refine ⟨k + 1, HKI.out, by go_num, fun b hb => ?_, XX.out.drew⟩
                by_cases e : b = k
                · rw [e, HX.out, HY.out]; exact HE.out
                · exact NE.out b (by omega)
              case measure => have := HKI.out; simp [intOf]; omega
          · obtain rfl : k = i := by omega
            clear hki hkl
            go_wp2_with fail
            go_roundw
            case rel =>
              refine ⟨k + 1, HIN.out, by go_num, fun a ha b hb => ?_, XX.out⟩
              by_cases e : a = k
              · subst e; exact NE.out b hb
              · exact AP.out a (by omega) b hb
            case measure => have := HIN.out; simp [intOf]; omega
      · obtain rfl : i = n := by omega
        have HAP : Hid (Apart P i) := fun a ha b hb => AP.out a ha b hb
        have K1 : Hid (Keys wr) := keys_below HK.out (B1.out.trans (XR.out.mono B1.out.size)) HPOS.out
        have P1 : Hid (0 < wr.heap.size) := Nat.lt_of_lt_of_le HPOS.out (Nat.le_trans B1.out.size XR.out.size)
        have C9 := Lib.hid (p9 A i cap P wr K1.out ((HD.out.keep B1.out.block).keep XR.out.block) (by have := HN.out; omega) HCAP.out)
        clear hi hlt AP CF
        go_wp2_with fail
        refine C9.out.mono ?_
        rintro e w2 ⟨T, M, ms, a, b, rfl, hbo⟩
        go_upto_if 56 with (fail)
        go_cut [12] (fun v wx => ∃ kk : Nat, v = .int .i64 kk ∧ kk ≤ i ∧ wx = w2)
        case first =>
          by_cases h0 : 0 < i
          · have z0 : (0 : Int) < (i : Int) := by omega
            have z1 : ¬ (i : Int) = 0 := by omega
            have ht := HTU.out
            have e1 : IntKind.u8.min = 0 := rfl
            have e2 : IntKind.u8.max = 255 := rfl
            simp only [Lit.wf, e1, e2, Bool.and_eq_true, decide_eq_true_eq] at ht
            have t0 : 0 ≤ tu := by omega
            have t1 : tu ≤ 255 := by omega
            obtain ⟨kk, hkk⟩ : ∃ kk : Nat, Int.tmod tu (i : Int) = (kk : Int) := Int.eq_ofNat_of_zero_le (Int.tmod_nonneg _ t0)
            have hlt : Int.tmod tu (i : Int) < (i : Int) := Int.tmod_lt_of_pos tu z0
            have HKK : Hid (kk ≤ i) := by show _ ≤ _; omega
            clear e1 e2 ht hlt
            go_wp2_with fail
            go_meet
            exact ⟨kk, rfl, HKK.out, rfl⟩
          · have z0 : ¬ (0 : Int) < (i : Int) := by omega
            go_wp2_with fail
            go_meet
            exact ⟨0, rfl, Nat.zero_le _, rfl⟩
        case rest =>
          obtain ⟨kk, rfl, hkk, rfl⟩ := hcut
          rename World => w2
          have TF : Hid (∀ w', Below w2.heap.size w2 w' → Tr w' wr.heap.size T ms (nd (lk (fillL P i))) (17 * i)) := fun w' hb => hbo.tr.grow hb
          have B2 : Hid (Below w.heap.size w w2) := B1.out.trans ((XR.out.trans (hbo.bel.mono XR.out.size)).mono B1.out.size)
          have KW : Hid (∀ w', Below w2.heap.size w2 w' → Keys w') := fun w' hb => keys_below HK.out (B2.out.trans (hb.mono B2.out.size)) HPOS.out
          have D2 : Hid (Dds w2 A i P) := HD.out.keep fun q hq => B2.out.block q hq
          have SZ2 : Hid (0 < w2.heap.size) := Nat.lt_of_lt_of_le HPOS.out B2.out.size
          have HKI : Hid (kk ≤ i) := hkk
          have L40 : Hid (i ≤ 40) := HN.out
          have HCP : Hid (i ≤ cap) := HCAP.out
          have HTR : Hid (lk (fillL P i) = lk (fillL (trn P i kk) i)) := fill_trn HAP.out hkk
          have e1 := fun w => sl_back9 A i cap kk w hkk
          have e2 := fun w => sl_front9 A i cap kk w (by have := HCAP.out; omega)
          have S1 : Hid (SrcD w2 (if cap = kk then A else A.map (·.add (kk * 9))) (i - kk) P kk) := D2.out.back hkk HCAP.out
          have S2 : Hid (SrcD w2 (if cap = 0 then A else A.map (·.add (0 * 9))) kk P 0) := D2.out.front hkk HCAP.out
          generalize (if cap = kk then A else A.map (·.add (kk * 9))) = A1 at *
          generalize (if cap = 0 then A else A.map (·.add (0 * 9))) = A2 at *
          have hb22 := b22
          have X0 : Hid (Below w2.heap.size w2 (w2.alloc (Obj.cells #[] 45)).drew) := bl_drew (bl_alloc (Nat.le_refl _) _ (Below.refl _ _))
          have O0 : Hid ((w2.alloc (Obj.cells #[] 45)).drew.ownsRow w2.heap.size 45 9 (.slice (some ⟨w2.heap.size, 0, none⟩) 0 0) 0 []) := own22 (w := w2) (Nat.le_refl _)
          have E9 : Hid (∀ (A9 : Option Addr) (c9 : Nat) (w' : World), w'.ownsRow w2.heap.size 45 9 (.slice A9 i c9) i (dls P kk (i - kk) ++ dls P 0 kk) → Below w2.heap.size w2 w' → Calls Tryd.prog 9 #[.slice A9 i c9] w' fun e w'' => ∃ T M ms a b, e = .returned (.tuple #[.pointer (some ⟨T, 0, none⟩), .pointer (some ⟨M, 0, none⟩), .bool true]) ∧ Both w' w'' w'.heap.size T M ms a b (fillL (trn P i kk) i) (17 * i)) := fun A9 c9 w' ho hb => by
            have hd := row_dds (Q := trn P i kk) ho (fun j hj => trn_cells HKI.out j hj) (trn_len HKI.out D2.out.len)
            exact p9 A9 i c9 (trn P i kk) w' (KW.out w' hb) hd.1 (by have := L40.out; omega) hd.2
          have X2 : Hid (Below w2.heap.size w2 w2) := Below.refl _ _
          have k0 : (0 : Int) ≤ (kk : Int) := by omega
          have k1 : (kk : Int) ≤ (i : Int) := by omega
          clear hbo hkk C9 C8 HTU
          go_upto_region 19 with (fail)
          go_region_held3 (fun w' => Below w2.heap.size w2 w') (first | (with_reducible exact KK.out) | (with_reducible exact X0.out) | (refine bl_drew ?_; with_reducible exact X2.out))
            (first
              | ((refine step_appD (by rfl) (.tmp 63) (.tmp 66) (by rfl) w2.heap.size 0 (i - kk) (cap - kk) kk _ [] A1 P (by rfl) (by rfl) O0.out (S1.out.keep fun q hq => X0.out.block q hq) (by omega) (by have := L40.out; omega) w2 (Nat.le_refl _) X0.out ?_; intro A3 c3 wa hoa hba; have KK := Lib.hid hba; have OA := Lib.hid hoa; clear hoa hba))
              | ((refine step_appD (by rfl) (.tmp 67) (.tmp 70) (by rfl) w2.heap.size (0 + (i - kk)) kk cap 0 _ ([] ++ dls P kk (i - kk)) A2 P (by rfl) (by rfl) OA.out (S2.out.keep fun q hq => KK.out.block q hq) (by have := L40.out; omega) (by have := L40.out; have := HKI.out; omega) w2 (Nat.le_refl _) KK.out ?_; intro A4 c4 wb hob hbb; have en : 0 + (i - kk) + kk = i := (by have := HKI.out; omega); rw [en] at hob ⊢; rw [List.nil_append] at hob; clear en; have OB := Lib.hid hob; have K9 := Lib.hid hbb; clear KK; have KK := K9; clear K9 hob hbb))
              | (go_at_call 9; refine (E9.out A4 c4 _ OB.out KK.out).mono ?_; rintro e wc ⟨T2, M2, ms2, a2, b2, rfl, hb2⟩; have BO2 := Lib.hid hb2; have XC : Hid (Below w2.heap.size w2 wc) := KK.out.trans (hb2.bel.mono KK.out.size); clear KK; have KK := XC; clear hb2))
          rename_i hHeld
          clear hHeld e1 e2 hb22
          obtain ⟨L, hL⟩ : ∃ L, fillL P i = L := ⟨_, rfl⟩
          have HG : Hid (Good L) := by rw [← hL]; exact fillL_good D2.out.len i (Nat.le_refl i)
          have HLN : Hid (L.length ≤ 40) := by rw [← hL]; exact Nat.le_trans (fillL_length P i) L40.out
          have XW : Hid (∀ w', Below wc.heap.size wc w' → Below w2.heap.size w2 w') := fun w' hb => KK.out.trans (hb.mono KK.out.size)
          have TA : Hid (∀ w', Below wc.heap.size wc w' → Tr w' wr.heap.size T ms (nd (lk L)) (17 * i)) := fun w' hb => by rw [← hL]; exact TF.out w' (XW.out w' hb)
          have TB : Hid (∀ w', Below wc.heap.size wc w' → Tr w' wb.heap.size T2 ms2 (nd (lk L)) (17 * i)) := fun w' hb => by rw [← hL, HTR.out]; exact BO2.out.tr.grow hb
          have H8 : Hid (∀ p ∈ L, p.2.length = 8) := fun p hp => (HG.out.all p hp).1
          have E12a : Hid (∀ w', Below wc.heap.size wc w' → Calls Tryd.prog 12 #[.pointer (some ⟨T, 0, none⟩)] w' fun e w'' => e = .returned (.agg (ba (nd (lk L) 16 0))) ∧ Below w'.heap.size w' w'') := fun w' hb => p12 _ T (17 * i) ms (lk L) w' (TA.out w' hb)
          have E12b : Hid (∀ w', Below wc.heap.size wc w' → Calls Tryd.prog 12 #[.pointer (some ⟨T2, 0, none⟩)] w' fun e w'' => e = .returned (.agg (ba (nd (lk L) 16 0))) ∧ Below w'.heap.size w' w'') := fun w' hb => p12 _ T2 (17 * i) ms2 (lk L) w' (TB.out w' hb)
          have LR8 : Hid ((nd (lk L) 16 0).length = 8) := nd_lk_len H8.out _ _
          have eR := fun w => eq29 (nd (lk L) 16 0) w LR8.out
          obtain ⟨rt, hrt⟩ : ∃ rt, nd (lk L) 16 0 = rt := ⟨_, rfl⟩
          have HRT := Lib.hid hrt
          rw [hrt] at E12a E12b LR8 eR
          have W0 : Hid (Below wc.heap.size wc wc) := Below.refl _ _
          clear hL hrt E9 O0 X0 S1 S2 OA OB TF
          go_wp2_with fail
          refine (E12a.out wc W0.out).mono ?_
          rintro e w3 ⟨rfl, hb3⟩
          have X3 := Lib.hid hb3
          clear hb3
          go_wp2_with fail
          refine (E12b.out w3 X3.out).mono ?_
          rintro e w4 ⟨rfl, hb4⟩
          have X4 : Hid (Below wc.heap.size wc w4) := X3.out.trans (hb4.mono X3.out.size)
          clear hb4 X3
          go_wp2_with fail
          refine (E12a.out w4 X4.out).mono ?_
          rintro e w5 ⟨rfl, hb5⟩
          have X5 : Hid (Below wc.heap.size wc w5) := X4.out.trans (hb5.mono X4.out.size)
          clear hb5 X4 eR
          go_wp2_with fail
          refine (p19 wr.heap.size T (17 * i) ms (nd (lk L)) w5 (TA.out w5 X5.out)).mono ?_
          rintro e w6 ⟨rfl, ⟨msC, htC⟩, hb6⟩
          obtain ⟨BC, hBC⟩ : ∃ BC, w5.heap.size = BC := ⟨_, rfl⟩
          rw [hBC] at htC hb6 ⊢
          have T5 := Lib.hid (TA.out w5 X5.out)
          have FA : Hid (∀ j b, j < 17 → ms j = some b → b < BC) := fun j b hj hm => by rw [← hBC]; exact (T5.out.map j b hj hm).2.2.lt
          have TBC : Hid (T < BC) := by show _ < _; rw [← hBC]; exact T5.out.lt
          have BCW : Hid (wc.heap.size ≤ BC) := by show _ ≤ _; rw [← hBC]; exact X5.out.size
          have X6 : Hid (Below wc.heap.size wc w6) := X5.out.trans (hb6.mono BCW.out)
          have TC6 := Lib.hid htC
          obtain ⟨R, hR⟩ : ∃ R, w6.heap.size = R := ⟨_, rfl⟩
          have BCR : Hid (BC < R) := by show _ < _; rw [← hR]; exact TC6.out.lt
          have Q0 : Hid (BA (w6.alloc (Obj.cells (ba (zeros 8)) 29)) R 29 (zeros 8)) := by show _ = _; rw [← hR]; exact heap_alloc_last w6 _
          have BR6 : Hid (Below R w6 (w6.alloc (Obj.cells (ba (zeros 8)) 29))) := by show Below _ _ _; rw [← hR]; exact (Below.refl _ w6).alloc (Nat.le_refl _) _
          clear htC hb6 hBC T5 X5
          go_wp2_with (refine wpList_store_rowTo rfl 29 (.tmp 16) (.tmp 86) rfl rfl R (ba rt) rfl rfl 29 (ba (zeros 8)) Q0.out (sz s27 (by rw [ba_size, LR8.out])) (by rw [ba_size, ba_size, LR8.out, zeros_len]) (ba_one _) ?_)
          have Q1 : Hid (BA ((w6.alloc (Obj.cells (ba (zeros 8)) 29)).setRow R (ba rt)) R 29 rt) := setRow_heap _ _ _ _ _ _ Q0.out
          have B67 : Hid (Below R w6 ((w6.alloc (Obj.cells (ba (zeros 8)) 29)).setRow R (ba rt))) := below_setRow BR6.out (Nat.le_refl _) _
          have X7 : Hid (Below wc.heap.size wc ((w6.alloc (Obj.cells (ba (zeros 8)) 29)).setRow R (ba rt))) := X6.out.trans (B67.out.mono (by have := BCW.out; have := BCR.out; omega))
          have TC7 : Hid (Tr ((w6.alloc (Obj.cells (ba (zeros 8)) 29)).setRow R (ba rt)) BC BC msC (nd (lk L)) (17 * i)) := TC6.out.keep fun q hq => B67.out.block q (by rw [← hR]; exact hq)
          clear hR Q0 BR6 B67 TC6 X6
          generalize (w6.alloc (Obj.cells (ba (zeros 8)) 29)).setRow R (ba rt) = w7 at *
          have hg2 := wf_u16 HGO.out
          have g0 : 0 ≤ go := hg2.1
          have g1 : go < 65536 := hg2.2
          clear hg2
          have hwr : IntKind.i64.wrap go = go := by rw [IntKind.wrap_i64]; omega
          have hw64 : wrap64 go = go := by first | exact hwr | (unfold wrap64; omega)
          have E14 := Lib.hid (p14 wr.heap.size T (17 * i) go ms (lk L) w7 (TA.out w7 X7.out) (wf_small g0 (by omega)))
          have LO8 : Hid ((lk L go).length = 8) := lk_len H8.out _
          have HBK : Hid (lk (putA (putA L (go, h99)) (go, lk L go)) = lk L) := lk_back L go h99
          generalize lk L go = old at *
          go_wp2_with fail
          refine (show Calls Tryd.prog 14 #[.pointer (some ⟨T, 0, none⟩), .int .i64 (wrap64 go)] w7 _ by rw [hw64]; exact E14.out).mono ?_
          rintro e w8 ⟨rfl, hb8⟩
          have X8 : Hid (Below wc.heap.size wc w8) := X7.out.trans (hb8.mono X7.out.size)
          have Q2 : Hid (BA w8 R 29 rt) := (hb8.block R (lt_of_block Q1.out)).trans Q1.out
          have TC8 : Hid (Tr w8 BC BC msC (nd (lk L)) (17 * i)) := TC7.out.grow hb8
          obtain ⟨R2, hR2⟩ : ∃ R2, w8.heap.size = R2 := ⟨_, rfl⟩
          have RR2 : Hid (R < R2) := by show _ < _; rw [← hR2]; exact lt_of_block Q2.out
          have V0 : Hid (BA (w8.alloc (Obj.cells (ba (zeros 8)) 29)) R2 29 (zeros 8)) := by show _ = _; rw [← hR2]; exact heap_alloc_last w8 _
          have BR8 : Hid (Below R2 w8 (w8.alloc (Obj.cells (ba (zeros 8)) 29))) := by show Below _ _ _; rw [← hR2]; exact (Below.refl _ w8).alloc (Nat.le_refl _) _
          clear hb8 X7 Q1 TC7 E14
          go_upto_region 24 with (refine wpList_store_rowTo rfl 29 (.tmp 18) (.tmp 92) rfl rfl R2 (ba old) rfl rfl 29 (ba (zeros 8)) V0.out (sz s27 (by rw [ba_size, LO8.out])) (by rw [ba_size, ba_size, LO8.out, zeros_len]) (ba_one _) ?_)
          have V1 : Hid (BA ((w8.alloc (Obj.cells (ba (zeros 8)) 29)).setRow R2 (ba old)) R2 29 old) := setRow_heap _ _ _ _ _ _ V0.out
          have B89 : Hid (Below R2 w8 ((w8.alloc (Obj.cells (ba (zeros 8)) 29)).setRow R2 (ba old))) := below_setRow BR8.out (Nat.le_refl _) _
          have X9 : Hid (Below wc.heap.size wc ((w8.alloc (Obj.cells (ba (zeros 8)) 29)).setRow R2 (ba old))) := X8.out.trans (B89.out.mono (by have := BCW.out; have := BCR.out; have := RR2.out; omega))
          have TC9 : Hid (Tr ((w8.alloc (Obj.cells (ba (zeros 8)) 29)).setRow R2 (ba old)) BC BC msC (nd (lk L)) (17 * i)) := TC8.out.keep fun q hq => B89.out.block q (by rw [← hR2]; exact hq)
          have Q9 : Hid (BA ((w8.alloc (Obj.cells (ba (zeros 8)) 29)).setRow R2 (ba old)) R 29 rt) := (B89.out.block R RR2.out).trans Q2.out
          clear hR2 V0 BR8 B89 TC8 X8 Q2
          generalize (w8.alloc (Obj.cells (ba (zeros 8)) 29)).setRow R2 (ba old) = w9 at *
          have zz6 : ∀ w : World, (zeroValue 29).run Tryd.prog w = .ok (.agg #[.int .u8 0, .int .u8 0, .int .u8 0, .int .u8 0, .int .u8 0, .int .u8 0, .int .u8 0, .int .u8 0]) w := fun w => by rw [← ba8]; exact zz5 w
          clear zz5
          have K9 : Hid (Keys w9) := KW.out w9 (XW.out w9 X9.out)
          have PWR : Hid (0 < wr.heap.size) := P1.out
          have C20 := Lib.hid (p20any wr.heap.size T (17 * i) go h99 ms L w9 K9.out PWR.out (TA.out w9 X9.out) (by have := L40.out; omega) h99_len)
          have C20' : Hid (Calls Tryd.prog 20 #[.pointer (some ⟨T, 0, none⟩), .int .i64 go, .agg #[.int .u8 9, .int .u8 9, .int .u8 0, .int .u8 0, .int .u8 0, .int .u8 0, .int .u8 0, .int .u8 0]] w9 fun e w' => e = .returned (.bool (inr go)) ∧ ∃ ms', Tr w' wr.heap.size T ms' (nd (lk (putA L (go, h99)))) (17 * i + 17) ∧ Chg w9 w' T ms ms') := by
            have := C20.out
            rw [h99_ba] at this
            exact this
          clear C20
          go_wp2_with fail
          refine C20'.out.mono ?_
          rintro e w10 ⟨rfl, ms1, ht10, hc10⟩
          have T10 := Lib.hid ht10
          have F1 : Hid (Far ms1 BC w9.heap.size) := Far.next (fun j b hj hm => .inl (FA.out j b hj hm)) hc10 (Nat.le_refl _)
          have RG1 : Hid (∀ q, BC ≤ q → q < w9.heap.size → w10.heap[q]? = w9.heap[q]?) := fun q h1 h2 => Far.keep (fun j b hj hm => .inl (FA.out j b hj hm)) hc10 (Nat.le_refl _) TBC.out q h1 h2
          have V10 : Hid (BA w10 R2 29 old) := (RG1.out R2 (by have := BCR.out; have := RR2.out; omega) (lt_of_block V1.out)).trans V1.out
          have S10 : Hid (w9.heap.size ≤ w10.heap.size) := hc10.size
          have WWR : Hid (w.heap.size ≤ wr.heap.size) := Nat.le_trans B1.out.size XR.out.size
          have BW9 : Hid (Below w.heap.size w w9) := B2.out.trans ((XW.out w9 X9.out).mono B2.out.size)
          have BW10 : Hid (Below w.heap.size w w10) := BW9.out.trans (((TA.out w9 X9.out).below hc10).mono WWR.out)
          have K10 : Hid (Keys w10) := keys_below HK.out BW10.out HPOS.out
          have C21 : Hid (Calls Tryd.prog 20 #[.pointer (some ⟨T, 0, none⟩), .int .i64 go, .agg (ba old)] w10 fun e w' => e = .returned (.bool (inr go)) ∧ ∃ ms', Tr w' wr.heap.size T ms' (nd (lk L)) (17 * i + 17 + 17) ∧ Chg w10 w' T ms1 ms') := by
            have := p20any wr.heap.size T (17 * i + 17) go old ms1 (putA L (go, h99)) w10 K10.out PWR.out T10.out (by have := L40.out; omega) LO8.out
            rw [HBK.out] at this
            exact this
          clear ht10 hc10 C20'
          go_wp2_with (refine wpList_load_row rfl 29 (.tmp 18) rfl R2 rfl 29 (ba old) (0, 0) _ V10.out Tryd.underlying29 rfl (sz s27 (by rw [ba_size, LO8.out])) ?_)
          refine C21.out.mono ?_
          rintro e w11 ⟨rfl, ms3, ht11, hc11⟩
          have RG2 : Hid (∀ q, BC ≤ q → q < w9.heap.size → w11.heap[q]? = w9.heap[q]?) := fun q h1 h2 => (Far.keep F1.out hc11 S10.out TBC.out q h1 h2).trans (RG1.out q h1 h2)
          have T11 := Lib.hid ht11
          have Q11 : Hid (BA w11 R 29 rt) := (RG2.out R (Nat.le_of_lt BCR.out) (lt_of_block Q9.out)).trans Q9.out
          have TC11 : Hid (Tr w11 BC BC msC (nd (lk L)) (17 * i)) := TC9.out.rng RG2.out
          have BW11 : Hid (Below w.heap.size w w11) := BW10.out.trans ((T10.out.below hc11).mono WWR.out)
          obtain ⟨r0, r1, r2, r3, r4, r5, r6, r7, hr8⟩ := c8cells rt LR8.out
          have HR8 := Lib.hid hr8
          have E12t : Hid (∀ w', Below w11.heap.size w11 w' → Calls Tryd.prog 12 #[.pointer (some ⟨T, 0, none⟩)] w' fun e w'' => e = .returned (.agg #[.int .u8 r0, .int .u8 r1, .int .u8 r2, .int .u8 r3, .int .u8 r4, .int .u8 r5, .int .u8 r6, .int .u8 r7]) ∧ Below w'.heap.size w' w'') := fun w' hb => by
            have := p12 wr.heap.size T (17 * i + 17 + 17) ms3 (lk L) w' (T11.out.grow hb)
            rw [HRT.out, HR8.out, ba_lit] at this
            exact this
          have E12c : Hid (∀ w', Below w11.heap.size w11 w' → Calls Tryd.prog 12 #[.pointer (some ⟨BC, 0, none⟩)] w' fun e w'' => e = .returned (.agg #[.int .u8 r0, .int .u8 r1, .int .u8 r2, .int .u8 r3, .int .u8 r4, .int .u8 r5, .int .u8 r6, .int .u8 r7]) ∧ Below w'.heap.size w' w'') := fun w' hb => by
            have := p12 BC BC (17 * i) msC (lk L) w' (TC11.out.grow hb)
            rw [HRT.out, HR8.out, ba_lit] at this
            exact this
          have E16t : Hid (∀ w', Below w11.heap.size w11 w' → Calls Tryd.prog 16 #[.pointer (some ⟨T, 0, none⟩)] w' fun e w'' => e = .returned (.int .i64 (L.map Prod.fst).length) ∧ Below w'.heap.size w' w'') := fun w' hb => (p16 wr.heap.size T (17 * i + 17 + 17) ms3 (lk L) (L.map Prod.fst) w' (T11.out.grow hb) HG.out.nodup HG.out.ks).mono fun e w'' h => ⟨h.1, by rw [h.2]; exact Below.refl _ _⟩
          have E16c : Hid (∀ w', Below w11.heap.size w11 w' → Calls Tryd.prog 16 #[.pointer (some ⟨BC, 0, none⟩)] w' fun e w'' => e = .returned (.int .i64 (L.map Prod.fst).length) ∧ Below w'.heap.size w' w'') := fun w' hb => (p16 BC BC (17 * i) msC (lk L) (L.map Prod.fst) w' (TC11.out.grow hb) HG.out.nodup HG.out.ks).mono fun e w'' h => ⟨h.1, by rw [h.2]; exact Below.refl _ _⟩
          generalize (L.map Prod.fst).length = nn at *
          have KF : Hid (∀ w', Below w11.heap.size w11 w' → (w'.cell? ⟨R, 0, none⟩ = some (.int .u8 r0) ∧ w'.cell? ⟨R, 1, none⟩ = some (.int .u8 r1) ∧ w'.cell? ⟨R, 2, none⟩ = some (.int .u8 r2) ∧ w'.cell? ⟨R, 3, none⟩ = some (.int .u8 r3) ∧ w'.cell? ⟨R, 4, none⟩ = some (.int .u8 r4) ∧ w'.cell? ⟨R, 5, none⟩ = some (.int .u8 r5) ∧ w'.cell? ⟨R, 6, none⟩ = some (.int .u8 r6) ∧ w'.cell? ⟨R, 7, none⟩ = some (.int .u8 r7))) := fun w' hb => cells8 (t := 29) r0 r1 r2 r3 r4 r5 r6 r7 (by rw [← HR8.out]; exact (hb.block R (lt_of_block Q11.out)).trans Q11.out)
          have eT := eqT r0 r1 r2 r3 r4 r5 r6 r7
          have XX : Hid (Below w11.heap.size w11 w11) := Below.refl _ _
          obtain ⟨u0, u1, u2, u3, u4, u5, u6, u7⟩ := KF.out w11 XX.out
          clear ht11 hc11 hr8 C21
          go_wp2_with fail
          go_region_held3 (fun w' => (w'.cell? ⟨R, 0, none⟩ = some (.int .u8 r0) ∧ w'.cell? ⟨R, 1, none⟩ = some (.int .u8 r1) ∧ w'.cell? ⟨R, 2, none⟩ = some (.int .u8 r2) ∧ w'.cell? ⟨R, 3, none⟩ = some (.int .u8 r3) ∧ w'.cell? ⟨R, 4, none⟩ = some (.int .u8 r4) ∧ w'.cell? ⟨R, 5, none⟩ = some (.int .u8 r5) ∧ w'.cell? ⟨R, 6, none⟩ = some (.int .u8 r6) ∧ w'.cell? ⟨R, 7, none⟩ = some (.int .u8 r7))) (first | (with_reducible exact KK.out) | go_keep)
            (first
              | (go_at_call_of 12 (Value.pointer (some ⟨T, 0, none⟩)); refine (E12t.out _ (by first | exact XX.out | exact XX.out.drew)).mono ?_; rintro e wa ⟨rfl, hba⟩; have XN : Hid (Below w11.heap.size w11 wa) := (by first | exact XX.out.trans (hba.mono XX.out.size) | exact XX.out.drew.trans (hba.mono XX.out.drew.size)); have KK := Lib.hid (KF.out wa XN.out); clear XX; have XX := XN; clear XN; clear hba)
              | (go_at_call_of 12 (Value.pointer (some ⟨BC, 0, none⟩)); refine (E12c.out _ (by first | exact XX.out | exact XX.out.drew)).mono ?_; rintro e wa ⟨rfl, hba⟩; have XN : Hid (Below w11.heap.size w11 wa) := (by first | exact XX.out.trans (hba.mono XX.out.size) | exact XX.out.drew.trans (hba.mono XX.out.drew.size)); have KK := Lib.hid (KF.out wa XN.out); clear XX; have XX := XN; clear XN; clear hba)
              | (go_at_call_of 16 (Value.pointer (some ⟨BC, 0, none⟩)); refine (E16c.out _ (by first | exact XX.out | exact XX.out.drew)).mono ?_; rintro e wa ⟨rfl, hba⟩; have XN : Hid (Below w11.heap.size w11 wa) := (by first | exact XX.out.trans (hba.mono XX.out.size) | exact XX.out.drew.trans (hba.mono XX.out.drew.size)); have KK := Lib.hid (KF.out wa XN.out); clear XX; have XX := XN; clear XN; clear hba)
              | (go_at_call_of 16 (Value.pointer (some ⟨T, 0, none⟩)); refine (E16t.out _ (by first | exact XX.out | exact XX.out.drew)).mono ?_; rintro e wa ⟨rfl, hba⟩; have XN : Hid (Below w11.heap.size w11 wa) := (by first | exact XX.out.trans (hba.mono XX.out.size) | exact XX.out.drew.trans (hba.mono XX.out.drew.size)); have KK := Lib.hid (KF.out wa XN.out); clear XX; have XX := XN; clear XN; clear hba))
          rename_i hHeld
          clear hHeld
          go_wp2
          go_ret
          exact ⟨rfl, BW11.out.trans (XX.out.mono BW11.out.size)⟩
end Go.Proofs.YtgagcblddcibkaaDoor
