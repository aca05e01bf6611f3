/-
  write: bytes are fed to a digest.
-/
import Derived.Test.YtimfinachecadaaDoorH5
namespace Go.Proofs.YtimfinachecadaaDoor
open Go.RowKit
theorem info5s : (Tryd.prog.info? 5).map (·.size) = some 1 := by kernel_rfl
attribute [local irreducible] ua da ba kk sw S8.run rt hs comp splice
set_option maxRecDepth 100000 in
set_option maxHeartbeats 1000000 in
theorem c23 (b : Nat) (A : Option Addr) (len cap : Nat) (m xs : List Int) (w : World) (h : Fed w b m) (hk : Keys w) (hb0 : 0 < b) (hx : Src w A len xs) (hA : 0 < len → ∀ g o, A = some ⟨g, o, none⟩ → g ≠ b) (hm : m.length + len ≤ 1000000) (hc : len ≤ cap) (hc2 : cap ≤ 9223372036854775807) :
    Calls Tryd.prog 26 #[.pointer (some ⟨b, 0, none⟩), .slice A len cap] w fun e w' => e = .returned (.tuple #[]) ∧ Fed w' b (m ++ xs) ∧ Keys w' ∧ Oth b w w' := by
  have HF := Lib.hid h
  have HK := Lib.hid hk
  have HKW := Lib.hid hk
  have L0 : Hid (0 < b) := hb0
  have HX := Lib.hid hx
  have HA := Lib.hid hA
  have HL : Hid (xs.length = len) := hx.1
  clear h hk hb0 hx hA
  go_enter Tryd.func26, Tryd.ntmps26
  go_wp2
  go_loopw [1, 4] (fun v _ wr => ∃ (k : Nat) (A' : Option Addr) (l c : Nat), k + l = len ∧ l ≤ c ∧ c ≤ 9223372036854775807 ∧ v = .slice A' l c ∧ (l = 0 ∨ ∃ g o, A = some ⟨g, o, none⟩ ∧ A' = some ⟨g, o + k, none⟩) ∧ Fed wr b (m ++ xs.take k) ∧ Keys wr ∧ Oth b w wr) (fun v _ _ => (match v with | .slice _ l _ => l | _ => 0))
  case atStart =>
    refine ⟨0, A, len, cap, by omega, hc, hc2, rfl, ?_, by simpa using HF.out, HK.out, Oth.refl _ _⟩
    rcases HX.out.2 with h | ⟨g, o, h1, _⟩
    · exact .inl h
    · exact .inr ⟨g, o, h1, by rw [h1]; rfl⟩
  case round =>
    clear HF HK
    obtain ⟨k, A', l, c, hkl, hlc, hc3, rfl, hadr, hF, hK, hO⟩ := hrel
    by_cases hz : l = 0
    · have hn : ¬ (0 : Int) < (l : Int) := by omega
      have e : m ++ xs.take k = m ++ xs := by rw [List.take_of_length_le (by rw [HL.out]; omega)]
      rw [e] at hF
      have GF := Lib.hid hF
      have GK := Lib.hid hK
      have GO := Lib.hid hO
      clear hF hK hO hadr
      go_wp2_with fail
      go_end0
      exact ⟨rfl, GF.out, GK.out, GO.out⟩
    · obtain ⟨g, o, hAg, rfl⟩ : ∃ g o, A = some ⟨g, o, none⟩ ∧ A' = some ⟨g, o + k, none⟩ := hadr.resolve_left hz
      have hpos : (0 : Int) < (l : Int) := by omega
      obtain ⟨bg, hD, hbg, htk⟩ := hF.ex
      obtain ⟨N, hN⟩ : ∃ N, (m ++ xs.take k).length = N := ⟨_, rfl⟩
      have hNk : N = m.length + k := by rw [← hN, List.length_append, List.length_take, HL.out]; omega
      rw [hN] at hD htk
      obtain ⟨r, hr⟩ : ∃ r, N % 64 = r := ⟨_, rfl⟩
      have hr64 : r < 64 := by omega
      obtain ⟨n, hn⟩ : ∃ n, Nat.min l (64 - r) = n := ⟨_, rfl⟩
      have hn1 : 0 < n ∧ n ≤ l ∧ r + n ≤ 64 ∧ (n = l ∨ n = 64 - r) := by
        have : Nat.min l (64 - r) = if l ≤ 64 - r then l else 64 - r := by rfl
        rw [this] at hn
        split at hn <;> omega
      obtain ⟨ys, hys⟩ : ∃ ys, (xs.drop k).take n = ys := ⟨_, rfl⟩
      have hyl : ys.length = n := by rw [← hys, List.length_take, List.length_drop, HL.out]; omega
      have hyx : xs.take k ++ ys = xs.take (k + n) := by rw [← hys, List.take_add]
      have hxr := Src.oth HX.out (HA.out (by omega)) hO
      have hsrc : ∀ j u, (bvals ys)[j]? = some u → wr.cell? ((⟨g, o + k, none⟩ : Addr).add j) = some u := by
        intro j u hu
        rw [Addr.add_mid]
        rcases hxr.2 with h | ⟨g2, o2, h1, h2⟩
        · omega
        · rw [hAg] at h1
          cases h1
          have hj : j < n := by
            have := (List.getElem?_eq_some_iff.1 hu).1
            simpa [bvals, hyl] using this
          rw [Nat.add_assoc, h2 (k + j) (by omega), ← hu, ← hys]
          simp [bvals, List.getD, hj]
          rw [List.getElem?_eq_getElem (by rw [HL.out]; omega)]
          simp
      have x72 := da_n hD (by rfl) hbg
      obtain ⟨mx, hmx⟩ : ∃ s : S8, hs (m ++ xs.take k) (N / 64) = s := ⟨_, rfl⟩
      rw [hmx] at hD
      have GF := Lib.hid hF
      have GK := Lib.hid hK
      have GO := Lib.hid hO
      have GD := Lib.hid hD
      have GS := Lib.hid hsrc
      have GT := Lib.hid htk
      have GB := Lib.hid hbg
      have GN := Lib.hid hN
      have GX := Lib.hid hyx
      have GY := Lib.hid hyl
      have GM := Lib.hid hmx
      have GR := Lib.hid hr
      have GMN := Lib.hid hn
      clear hF hK hO hD hsrc htk hbg hN hyx hyl hmx hxr hys hadr hr hn
      have q1 : (N : Int).tmod 64 = (r : Int) := by rw [Int.tmod_eq_emod_of_nonneg (by omega)]; have := GR.out; omega
      have GNK := Lib.hid hNk
      have hN2 : N ≤ 1000000 := by omega
      clear hNk
      have q2 : (r : Int) ≤ 64 := by omega
      have q3 : 0 ≤ (r : Int) := by omega
      have q4 : ¬ 64 = r := by omega
      obtain ⟨L, hL⟩ : ∃ L, 64 - r = L := ⟨_, rfl⟩
      go_wp2_with fail
      go_still_tail 10, (by kernel_rfl)
      change wpList _ _ _ _ _ wr.drew
      refine (wpList_copy_own rfl (.tmp 16) (.tmp 17) 38 38 rfl 5 Tryd.underlying38 info5s b (8 + r) L L ⟨g, o + k, none⟩ l c rfl rfl (da mx.l bg N) 61 GD.out (bvals ys) (by rw [show (bvals ys).length = ys.length by simp [bvals], GY.out, ← GMN.out, hL]) GS.out (by rw [da_size _ _ _ rfl GB.out, show (bvals ys).length = ys.length by simp [bvals], GY.out]; omega) (bvals_one ys) ?_)
      rw [show (da mx.l bg N).toList.take (8 + r) ++ (bvals ys ++ (da mx.l bg N).toList.drop (8 + r + (bvals ys).length)) = (da mx.l (splice bg r ys) N).toList from splice_da mx.l bg ys N r rfl (by rw [GY.out, GB.out]; omega)]
      rw [show (bvals ys).length = n by rw [← GY.out]; simp [bvals]]
      have S1 : Hid (DA (wr.drew.setRow b (da mx.l (splice bg r ys) N)) b mx.l (splice bg r ys) N) := setRow_heap wr.drew b _ _ _ _ GD.out
      have O1 : Hid (Oth b w (wr.drew.setRow b (da mx.l (splice bg r ys) N))) := GO.out.drew.setRow _
      rw [Array.toArray_toList]
      generalize wr.drew.setRow b (da mx.l (splice bg r ys) N) = w2 at *
      have hsl : (splice bg r ys).length = 64 := by rw [length_splice _ _ _ (by rw [GY.out, GB.out]; omega), GB.out]
      have y72 := da_n S1.out rfl hsl
      have z72 := free_of S1.out 72
      have S2 : Hid (DA (w2.setCell ⟨b, 72, none⟩ (.int .u64 ((N : Int) + n))) b mx.l (splice bg r ys) ((N : Int) + n)) := da_set_n S1.out rfl hsl _
      have O2 : Hid (Oth b w (w2.setCell ⟨b, 72, none⟩ (.int .u64 ((N : Int) + n)))) := O1.out.set 72 _
      have HSL := Lib.hid hsl
      clear hsl
      obtain ⟨n0, nl, nr, hor⟩ := hn1
      have HN0 := Lib.hid n0
      have HNL := Lib.hid nl
      have HNR := Lib.hid nr
      have HOR := Lib.hid hor
      have HKL := Lib.hid hkl
      have HLC := Lib.hid hlc
      clear hor hkl hm nr x72
      have FIN : ∀ W, Fed W b (m ++ xs.take k ++ ys) → Fed W b (m ++ xs.take (k + n)) := fun W h => by rw [← GX.out, ← List.append_assoc]; exact h
      have HFIN := Lib.hid FIN
      have HAG := Lib.hid hAg
      clear FIN hAg
      by_cases hcn : c = n
      · have HCN := Lib.hid hcn
        by_cases hfull : r + n = 64
        · have q5 : ((N : Int) + (n : Int)).tmod 64 = 0 := by rw [Int.tmod_eq_emod_of_nonneg (by omega)]; have := GR.out; omega
          have C := Lib.hid (c33 b mx (splice bg r ys) ((N : Int) + n) (w2.setCell ⟨b, 72, none⟩ (.int .u64 ((N : Int) + n))) HSL.out S2.out (keys_below HKW.out O2.out.below L0.out) L0.out)
          have HFU := Lib.hid hfull
          clear hfull
          go_wp2_with fail
          refine C.out.mono ?_
          rintro e w3 ⟨rfl, hd3, hk3, hb3, ho3⟩
          have O3 : Hid (Oth b w w3) := O2.out.trans ⟨hb3, ho3⟩
          have F3 : Hid (Fed w3 b (m ++ xs.take k ++ ys)) := by
            refine fed_full GB.out (by rw [GN.out]; exact GT.out) (by rw [GN.out, GR.out, GY.out]; exact HFU.out) ?_
            rw [GN.out, GR.out, GM.out, GY.out]
            exact hd3
          have K3 := Lib.hid hk3
          clear hd3 hk3 hb3 ho3
          go_wp2
          go_roundw
          case rel =>
            refine ⟨k + n, _, _, _, ?_, ?_, ?_, rfl, ?_, HFIN.out _ F3.out, K3.out, O3.out⟩
            · have := HKL.out; omega
            · have := HLC.out; omega
            · omega
            · exact .inl (by have := HLC.out; have := HCN.out; omega)
          case measure => simp; omega
        · obtain ⟨t, ht⟩ : ∃ t : Nat, r + n = t := ⟨_, rfl⟩
          have q5 : ((N : Int) + (n : Int)).tmod 64 = (t : Int) := by rw [Int.tmod_eq_emod_of_nonneg (by omega)]; have := GR.out; have := HNR.out; omega
          have q6 : ¬ (t : Int) = 0 := by omega
          have q7 : ¬ t = 0 := by omega
          have HTT := Lib.hid ht
          clear ht
          have F3 : Hid (Fed (w2.setCell ⟨b, 72, none⟩ (.int .u64 ((N : Int) + n))) b (m ++ xs.take k ++ ys)) := by
            refine fed_part GB.out (by rw [GN.out]; exact GT.out) (by rw [GN.out, GR.out, GY.out]; have := HNR.out; omega) ?_
            rw [GN.out, GR.out, GM.out, GY.out]
            exact S2.out
          have K3 : Hid (Keys (w2.setCell ⟨b, 72, none⟩ (.int .u64 ((N : Int) + n)))) := keys_below HKW.out O2.out.below L0.out
          clear hfull
          go_wp2_with fail
          go_roundw
          case rel =>
            refine ⟨k + n, _, _, _, ?_, ?_, ?_, rfl, ?_, HFIN.out _ F3.out, K3.out, O2.out⟩
            · have := HKL.out; omega
            · have := HLC.out; omega
            · omega
            · exact .inl (by have := HLC.out; have := HCN.out; omega)
          case measure => simp; omega
      · skip
        by_cases hfull : r + n = 64
        · have q5 : ((N : Int) + (n : Int)).tmod 64 = 0 := by rw [Int.tmod_eq_emod_of_nonneg (by omega)]; have := GR.out; omega
          have C := Lib.hid (c33 b mx (splice bg r ys) ((N : Int) + n) (w2.setCell ⟨b, 72, none⟩ (.int .u64 ((N : Int) + n))) HSL.out S2.out (keys_below HKW.out O2.out.below L0.out) L0.out)
          have HFU := Lib.hid hfull
          clear hfull
          go_wp2_with fail
          refine C.out.mono ?_
          rintro e w3 ⟨rfl, hd3, hk3, hb3, ho3⟩
          have O3 : Hid (Oth b w w3) := O2.out.trans ⟨hb3, ho3⟩
          have F3 : Hid (Fed w3 b (m ++ xs.take k ++ ys)) := by
            refine fed_full GB.out (by rw [GN.out]; exact GT.out) (by rw [GN.out, GR.out, GY.out]; exact HFU.out) ?_
            rw [GN.out, GR.out, GM.out, GY.out]
            exact hd3
          have K3 := Lib.hid hk3
          clear hd3 hk3 hb3 ho3
          go_wp2
          go_roundw
          case rel =>
            refine ⟨k + n, _, _, _, ?_, ?_, ?_, rfl, ?_, HFIN.out _ F3.out, K3.out, O3.out⟩
            · have := HKL.out; omega
            · have := HLC.out; omega
            · omega
            · exact .inr ⟨g, o, HAG.out, by rw [Nat.add_assoc]⟩
          case measure => simp; omega
        · obtain ⟨t, ht⟩ : ∃ t : Nat, r + n = t := ⟨_, rfl⟩
          have q5 : ((N : Int) + (n : Int)).tmod 64 = (t : Int) := by rw [Int.tmod_eq_emod_of_nonneg (by omega)]; have := GR.out; have := HNR.out; omega
          have q6 : ¬ (t : Int) = 0 := by omega
          have q7 : ¬ t = 0 := by omega
          have HTT := Lib.hid ht
          clear ht
          have F3 : Hid (Fed (w2.setCell ⟨b, 72, none⟩ (.int .u64 ((N : Int) + n))) b (m ++ xs.take k ++ ys)) := by
            refine fed_part GB.out (by rw [GN.out]; exact GT.out) (by rw [GN.out, GR.out, GY.out]; have := HNR.out; omega) ?_
            rw [GN.out, GR.out, GM.out, GY.out]
            exact S2.out
          have K3 : Hid (Keys (w2.setCell ⟨b, 72, none⟩ (.int .u64 ((N : Int) + n)))) := keys_below HKW.out O2.out.below L0.out
          clear hfull
          go_wp2_with fail
          go_roundw
          case rel =>
            refine ⟨k + n, _, _, _, ?_, ?_, ?_, rfl, ?_, HFIN.out _ F3.out, K3.out, O2.out⟩
            · have := HKL.out; omega
            · have := HLC.out; omega
            · omega
            · exact .inr ⟨g, o, HAG.out, by rw [Nat.add_assoc]⟩
          case measure => simp; omega
end Go.Proofs.YtimfinachecadaaDoor
