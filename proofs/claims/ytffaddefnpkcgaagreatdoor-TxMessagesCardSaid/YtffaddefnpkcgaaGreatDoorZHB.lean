/-
  The digest on its way: without Go; the document's sum as a function.
-/
import Derived.Test.YtffaddefnpkcgaaGreatDoorZHA
namespace Go.Proofs.YtffaddefnpkcgaaGreatDoor
open Go.RowKit
def ivS : S8 := ⟨1779033703, 3144134277, 1013904242, 2773480762, 1359893119, 2600822924, 528734635, 1541459225⟩
def hs (m : List Int) : Nat → S8
  | 0 => ivS
  | k + 1 => comp (hs m k) ((m.drop (64 * k)).take 64)
theorem hs_more (m ys : List Int) (k : Nat) (h : 64 * k ≤ m.length) : hs (m ++ ys) k = hs m k := by
  induction k with
  | zero => rfl
  | succ k ih =>
    rw [hs, hs, ih (by omega)]
    congr 1
    rw [List.drop_append_of_le_length (by omega), List.take_append_of_le_length (by rw [List.length_drop]; omega)]
structure Fed (w : World) (b : Nat) (m : List Int) : Prop where
  ex : ∃ bg, DA w b (hs m (m.length / 64)).l bg m.length ∧ bg.length = 64 ∧ bg.take (m.length % 64) = m.drop (64 * (m.length / 64))
theorem splice_bg (bg ys : List Int) (r : Nat) (h : r + ys.length ≤ bg.length) : (splice bg r ys).take (r + ys.length) = bg.take r ++ ys := by
  unfold splice
  rw [← List.append_assoc, List.take_left' (by rw [List.length_append, List.length_take]; omega)]
theorem splice_da (mx bg ys : List Int) (n : Int) (r : Nat) (hm : mx.length = 8) (h : r + ys.length ≤ bg.length) :
    (da mx bg n).toList.take (8 + r) ++ (bvals ys ++ (da mx bg n).toList.drop (8 + r + (bvals ys).length)) = (da mx (splice bg r ys) n).toList := by
  have hu : (uvals mx).length = 8 := by simp [uvals, hm]
  have hb : (bvals bg).length = bg.length := by simp [bvals]
  have hy : (bvals ys).length = ys.length := by simp [bvals]
  simp only [da]
  rw [← hu, List.take_append, List.drop_append, show (uvals mx).length + r - (uvals mx).length = r by omega, List.take_of_length_le (by omega), List.drop_of_length_le (by omega), List.nil_append,
    List.take_append_of_le_length (by omega), hy, show (uvals mx).length + r + ys.length - (uvals mx).length = r + ys.length by omega, List.drop_append_of_le_length (by omega)]
  simp [splice, bvals]
theorem fed_part {w' : World} {b : Nat} {m ys bg : List Int} (h2 : bg.length = 64) (h3 : bg.take (m.length % 64) = m.drop (64 * (m.length / 64)))
    (hy : m.length % 64 + ys.length < 64) (h : DA w' b (hs m (m.length / 64)).l (splice bg (m.length % 64) ys) ((m.length : Int) + ys.length)) : Fed w' b (m ++ ys) := by
  have e1 : (m ++ ys).length / 64 = m.length / 64 := by rw [List.length_append]; omega
  have e2 : (m ++ ys).length % 64 = m.length % 64 + ys.length := by rw [List.length_append]; omega
  refine ⟨splice bg (m.length % 64) ys, ?_, ?_, ?_⟩
  · rw [e1, hs_more m ys _ (by omega), List.length_append]
    push_cast
    exact h
  · rw [length_splice _ _ _ (by omega), h2]
  · rw [e1, e2, splice_bg _ _ _ (by omega), h3, List.drop_append_of_le_length (by omega)]
theorem full_block {m ys bg : List Int} (h2 : bg.length = 64) (h3 : bg.take (m.length % 64) = m.drop (64 * (m.length / 64)))
    (hy : m.length % 64 + ys.length = 64) : splice bg (m.length % 64) ys = ((m ++ ys).drop (64 * (m.length / 64))).take 64 := by
  have := splice_bg bg ys (m.length % 64) (by omega)
  rw [hy, List.take_of_length_le (by rw [length_splice _ _ _ (by omega)]; omega)] at this
  rw [this, h3, List.drop_append_of_le_length (by omega), List.take_of_length_le (by rw [List.length_append, List.length_drop]; omega)]
theorem fed_full {w' : World} {b : Nat} {m ys bg : List Int} (h2 : bg.length = 64) (h3 : bg.take (m.length % 64) = m.drop (64 * (m.length / 64)))
    (hy : m.length % 64 + ys.length = 64) (h : DA w' b (comp (hs m (m.length / 64)) (splice bg (m.length % 64) ys)).l (splice bg (m.length % 64) ys) ((m.length : Int) + ys.length)) : Fed w' b (m ++ ys) := by
  have e1 : (m ++ ys).length / 64 = m.length / 64 + 1 := by rw [List.length_append]; omega
  have e2 : (m ++ ys).length % 64 = 0 := by rw [List.length_append]; omega
  refine ⟨splice bg (m.length % 64) ys, ?_, ?_, ?_⟩
  · rw [e1, hs, hs_more m ys _ (by omega), ← full_block h2 h3 hy, List.length_append]
    push_cast
    exact h
  · rw [length_splice _ _ _ (by omega), h2]
  · rw [e1, e2, List.take_zero, List.drop_of_length_le (by rw [List.length_append]; omega)]
structure Oth (b : Nat) (w w' : World) : Prop where
  below : Below b w w'
  oth : ∀ k, k < w.heap.size → k ≠ b → w'.heap[k]? = w.heap[k]?
theorem Oth.refl (b : Nat) (w : World) : Oth b w w := ⟨Below.refl _ _, fun _ _ _ => rfl⟩
theorem Oth.trans {b : Nat} {w v u : World} (h : Oth b w v) (k : Oth b v u) : Oth b w u :=
  ⟨h.below.trans k.below, fun i hi hne => (k.oth i (Nat.lt_of_lt_of_le hi h.below.size) hne).trans (h.oth i hi hne)⟩
theorem Oth.drewN {b : Nat} {w v : World} (h : Oth b w v) (n : Nat) : Oth b w (v.drewN n) := ⟨below_drewN h.below n, h.oth⟩
theorem Oth.drew {b : Nat} {w v : World} (h : Oth b w v) : Oth b w v.drew := ⟨h.below.drew, h.oth⟩
theorem Oth.set {b : Nat} {w v : World} (h : Oth b w v) (i : Nat) (x : Value) : Oth b w (v.setCell ⟨b, i, none⟩ x) :=
  ⟨h.below.setCell (Nat.le_refl _) _, fun k hk hne => heap_else i x hne (h.oth k hk hne)⟩
theorem Oth.setRow {b : Nat} {w v : World} (h : Oth b w v) (cs : Array Value) : Oth b w (v.setRow b cs) :=
  ⟨below_setRow h.below (Nat.le_refl _) _, fun k hk hne => (setRow_other v b k cs hne).trans (h.oth k hk hne)⟩
theorem Oth.alloc {b : Nat} {w v : World} (h : Oth b w v) (hb : b < w.heap.size) (o : Obj) : Oth b w (v.alloc o) :=
  ⟨h.below.alloc (Nat.le_of_lt (Nat.lt_of_lt_of_le hb h.below.size)) o, fun k hk hne => (Below.heap_alloc v o k (Nat.lt_of_lt_of_le hk h.below.size)).trans (h.oth k hk hne)⟩
theorem Oth.of_below {b : Nat} {w v : World} (hb : b ≤ w.heap.size) (h : Below w.heap.size w v) : Oth b w v := ⟨h.mono hb, fun k hk _ => h.block k hk⟩
theorem Src.oth {w w' : World} {b : Nat} {A : Option Addr} {m : Nat} {xs : List Int} (h : Src w A m xs) (hA : ∀ g o, A = some ⟨g, o, none⟩ → g ≠ b) (k : Oth b w w') : Src w' A m xs := by
  refine ⟨h.1, ?_⟩
  rcases h.2 with h2 | ⟨g, o, rfl, hc⟩
  · exact .inl h2
  · refine .inr ⟨g, o, rfl, fun i hi => ?_⟩
    have h0 := World.block_lt_of_cell? w ⟨g, o + i, none⟩ (hc i hi)
    rw [World.cell?_of_block (w := w) (w' := w') (a := ⟨g, o + i, none⟩) (k.oth g h0 (hA g o rfl))]
    exact hc i hi
end Go.Proofs.YtffaddefnpkcgaaGreatDoor
/-
  write: bytes are fed to a digest.
-/
namespace Go.Proofs.YtffaddefnpkcgaaGreatDoor
open Go.RowKit
theorem info5s : (Tryz.prog.info? 5).map (·.size) = some 1 := by kernel_rfl
attribute [local irreducible] ua da ba kk sw S8.run rt hs comp splice
set_option maxRecDepth 100000 in
set_option maxHeartbeats 1000000 in
theorem c23 (b : Nat) (A : Option Addr) (len cap : Nat) (m xs : List Int) (w : World) (h : Fed w b m) (hk : Keys w) (hb0 : 0 < b) (hx : Src w A len xs) (hA : 0 < len → ∀ g o, A = some ⟨g, o, none⟩ → g ≠ b) (hm : m.length + len ≤ 1000000) (hc : len ≤ cap) (hc2 : cap ≤ 9223372036854775807) :
    Calls Tryz.prog 90 #[.pointer (some ⟨b, 0, none⟩), .slice A len cap] w fun e w' => e = .returned (.tuple #[]) ∧ Fed w' b (m ++ xs) ∧ Keys w' ∧ Oth b w w' := by
  have HF := Lib.hid h
  have HK := Lib.hid hk
  have HKW := Lib.hid hk
  have L0 : Hid (0 < b) := hb0
  have HX := Lib.hid hx
  have HA := Lib.hid hA
  have HL : Hid (xs.length = len) := hx.1
  clear h hk hb0 hx hA
  go_enter Tryz.func90, Tryz.ntmps90
  go_wp2
  go_loopw [1, 4] (fun v _ wr => ∃ (k : Nat) (A' : Option Addr) (l c : Nat), k + l = len ∧ l ≤ c ∧ c ≤ 9223372036854775807 ∧ v = .slice A' l c ∧ (l = 0 ∨ ∃ g o, A = some ⟨g, o, none⟩ ∧ A' = some ⟨g, o + k, none⟩) ∧ Fed wr b (m ++ xs.take k) ∧ Keys wr ∧ Oth b w wr) (fun v _ _ => (match v with | .slice _ l _ => l | _ => 0))
  case atStart =>
    refine ⟨0, A, len, cap, by omega, hc, hc2, rfl, ?_, by simpa using HF.out, HK.out, Oth.refl _ _⟩
    rcases HX.out.2 with h | ⟨g, o, h1, _⟩
    · exact .inl h
    · exact .inr ⟨g, o, h1, by rw [h1]; rfl⟩
  case round =>
    clear HF HK
    obtain ⟨k, A', l, c, hkl, hlc, hc3, rfl, hadr, hF, hK, hO⟩ := hrel
    by_cases hz : l = 0
    · have hn : ¬ (0 : Int) < (l : Int) := by omega
      have e : m ++ xs.take k = m ++ xs := by rw [List.take_of_length_le (by rw [HL.out]; omega)]
      rw [e] at hF
      have GF := Lib.hid hF
      have GK := Lib.hid hK
      have GO := Lib.hid hO
      clear hF hK hO hadr
      go_wp2_with fail
      go_end0
      exact ⟨rfl, GF.out, GK.out, GO.out⟩
    · obtain ⟨g, o, hAg, rfl⟩ : ∃ g o, A = some ⟨g, o, none⟩ ∧ A' = some ⟨g, o + k, none⟩ := hadr.resolve_left hz
      have hpos : (0 : Int) < (l : Int) := by omega
      obtain ⟨bg, hD, hbg, htk⟩ := hF.ex
      obtain ⟨N, hN⟩ : ∃ N, (m ++ xs.take k).length = N := ⟨_, rfl⟩
      have hNk : N = m.length + k := by rw [← hN, List.length_append, List.length_take, HL.out]; omega
      rw [hN] at hD htk
      obtain ⟨r, hr⟩ : ∃ r, N % 64 = r := ⟨_, rfl⟩
      have hr64 : r < 64 := by omega
      obtain ⟨n, hn⟩ : ∃ n, Nat.min l (64 - r) = n := ⟨_, rfl⟩
      have hn1 : 0 < n ∧ n ≤ l ∧ r + n ≤ 64 ∧ (n = l ∨ n = 64 - r) := by
        have : Nat.min l (64 - r) = if l ≤ 64 - r then l else 64 - r := by rfl
        rw [this] at hn
        split at hn <;> omega
      obtain ⟨ys, hys⟩ : ∃ ys, (xs.drop k).take n = ys := ⟨_, rfl⟩
      have hyl : ys.length = n := by rw [← hys, List.length_take, List.length_drop, HL.out]; omega
      have hyx : xs.take k ++ ys = xs.take (k + n) := by rw [← hys, List.take_add]
      have hxr := Src.oth HX.out (HA.out (by omega)) hO
      have hsrc : ∀ j u, (bvals ys)[j]? = some u → wr.cell? ((⟨g, o + k, none⟩ : Addr).add j) = some u := by
        intro j u hu
        rw [Addr.add_mid]
        rcases hxr.2 with h | ⟨g2, o2, h1, h2⟩
        · omega
        · rw [hAg] at h1
          cases h1
          have hj : j < n := by
            have := (List.getElem?_eq_some_iff.1 hu).1
            simpa [bvals, hyl] using this
          rw [Nat.add_assoc, h2 (k + j) (by omega), ← hu, ← hys]
          simp [bvals, List.getD, hj]
          rw [List.getElem?_eq_getElem (by rw [HL.out]; omega)]
          simp
      have x72 := da_n hD (by rfl) hbg
      obtain ⟨mx, hmx⟩ : ∃ s : S8, hs (m ++ xs.take k) (N / 64) = s := ⟨_, rfl⟩
      rw [hmx] at hD
      have GF := Lib.hid hF
      have GK := Lib.hid hK
      have GO := Lib.hid hO
      have GD := Lib.hid hD
      have GS := Lib.hid hsrc
      have GT := Lib.hid htk
      have GB := Lib.hid hbg
      have GN := Lib.hid hN
      have GX := Lib.hid hyx
      have GY := Lib.hid hyl
      have GM := Lib.hid hmx
      have GR := Lib.hid hr
      have GMN := Lib.hid hn
      clear hF hK hO hD hsrc htk hbg hN hyx hyl hmx hxr hys hadr hr hn
      have q1 : (N : Int).tmod 64 = (r : Int) := by rw [Int.tmod_eq_emod_of_nonneg (by omega)]; have := GR.out; omega
      have GNK := Lib.hid hNk
      have hN2 : N ≤ 1000000 := by omega
      clear hNk
      have q2 : (r : Int) ≤ 64 := by omega
      have q3 : 0 ≤ (r : Int) := by omega
      have q4 : ¬ 64 = r := by omega
      obtain ⟨L, hL⟩ : ∃ L, 64 - r = L := ⟨_, rfl⟩
      go_wp2_with fail
      go_still_tail 10, (by kernel_rfl)
      change wpList _ _ _ _ _ wr.drew
      refine (wpList_copy_own rfl (.tmp 16) (.tmp 17) 42 42 rfl 5 Tryz.underlying42 info5s b (8 + r) L L ⟨g, o + k, none⟩ l c rfl rfl (da mx.l bg N) 153 GD.out (bvals ys) (by rw [show (bvals ys).length = ys.length by simp [bvals], GY.out, ← GMN.out, hL]) GS.out (by rw [da_size _ _ _ rfl GB.out, show (bvals ys).length = ys.length by simp [bvals], GY.out]; omega) (bvals_one ys) ?_)
      rw [show (da mx.l bg N).toList.take (8 + r) ++ (bvals ys ++ (da mx.l bg N).toList.drop (8 + r + (bvals ys).length)) = (da mx.l (splice bg r ys) N).toList from splice_da mx.l bg ys N r rfl (by rw [GY.out, GB.out]; omega)]
      rw [show (bvals ys).length = n by rw [← GY.out]; simp [bvals]]
      have S1 : Hid (DA (wr.drew.setRow b (da mx.l (splice bg r ys) N)) b mx.l (splice bg r ys) N) := setRow_heap wr.drew b _ _ _ _ GD.out
      have O1 : Hid (Oth b w (wr.drew.setRow b (da mx.l (splice bg r ys) N))) := GO.out.drew.setRow _
      rw [Array.toArray_toList]
      generalize wr.drew.setRow b (da mx.l (splice bg r ys) N) = w2 at *
      have hsl : (splice bg r ys).length = 64 := by rw [length_splice _ _ _ (by rw [GY.out, GB.out]; omega), GB.out]
      have y72 := da_n S1.out rfl hsl
      have z72 := free_of S1.out 72
      have S2 : Hid (DA (w2.setCell ⟨b, 72, none⟩ (.int .u64 ((N : Int) + n))) b mx.l (splice bg r ys) ((N : Int) + n)) := da_set_n S1.out rfl hsl _
      have O2 : Hid (Oth b w (w2.setCell ⟨b, 72, none⟩ (.int .u64 ((N : Int) + n)))) := O1.out.set 72 _
      have HSL := Lib.hid hsl
      clear hsl
      obtain ⟨n0, nl, nr, hor⟩ := hn1
      have HN0 := Lib.hid n0
      have HNL := Lib.hid nl
      have HNR := Lib.hid nr
      have HOR := Lib.hid hor
      have HKL := Lib.hid hkl
      have HLC := Lib.hid hlc
      clear hor hkl hm nr x72
      have FIN : ∀ W, Fed W b (m ++ xs.take k ++ ys) → Fed W b (m ++ xs.take (k + n)) := fun W h => by rw [← GX.out, ← List.append_assoc]; exact h
      have HFIN := Lib.hid FIN
      have HAG := Lib.hid hAg
      clear FIN hAg
      by_cases hcn : c = n
      · have HCN := Lib.hid hcn
        by_cases hfull : r + n = 64
        · have q5 : ((N : Int) + (n : Int)).tmod 64 = 0 := by rw [Int.tmod_eq_emod_of_nonneg (by omega)]; have := GR.out; omega
          have C := Lib.hid (c33 b mx (splice bg r ys) ((N : Int) + n) (w2.setCell ⟨b, 72, none⟩ (.int .u64 ((N : Int) + n))) HSL.out S2.out (keys_below HKW.out O2.out.below L0.out) L0.out)
          have HFU := Lib.hid hfull
          clear hfull
          go_wp2_with fail
          refine C.out.mono ?_
          rintro e w3 ⟨rfl, hd3, hk3, hb3, ho3⟩
          have O3 : Hid (Oth b w w3) := O2.out.trans ⟨hb3, ho3⟩
          have F3 : Hid (Fed w3 b (m ++ xs.take k ++ ys)) := by
            refine fed_full GB.out (by rw [GN.out]; exact GT.out) (by rw [GN.out, GR.out, GY.out]; exact HFU.out) ?_
            rw [GN.out, GR.out, GM.out, GY.out]
            exact hd3
          have K3 := Lib.hid hk3
          clear hd3 hk3 hb3 ho3
          go_wp2
          go_roundw
          case rel =>
            refine ⟨k + n, _, _, _, ?_, ?_, ?_, rfl, ?_, HFIN.out _ F3.out, K3.out, O3.out⟩
            · have := HKL.out; omega
            · have := HLC.out; omega
            · omega
            · exact .inl (by have := HLC.out; have := HCN.out; omega)
          case measure => simp; omega
        · obtain ⟨t, ht⟩ : ∃ t : Nat, r + n = t := ⟨_, rfl⟩
          have q5 : ((N : Int) + (n : Int)).tmod 64 = (t : Int) := by rw [Int.tmod_eq_emod_of_nonneg (by omega)]; have := GR.out; have := HNR.out; omega
          have q6 : ¬ (t : Int) = 0 := by omega
          have q7 : ¬ t = 0 := by omega
          have HTT := Lib.hid ht
          clear ht
          have F3 : Hid (Fed (w2.setCell ⟨b, 72, none⟩ (.int .u64 ((N : Int) + n))) b (m ++ xs.take k ++ ys)) := by
            refine fed_part GB.out (by rw [GN.out]; exact GT.out) (by rw [GN.out, GR.out, GY.out]; have := HNR.out; omega) ?_
            rw [GN.out, GR.out, GM.out, GY.out]
            exact S2.out
          have K3 : Hid (Keys (w2.setCell ⟨b, 72, none⟩ (.int .u64 ((N : Int) + n)))) := keys_below HKW.out O2.out.below L0.out
          clear hfull
          go_wp2_with fail
          go_roundw
          case rel =>
            refine ⟨k + n, _, _, _, ?_, ?_, ?_, rfl, ?_, HFIN.out _ F3.out, K3.out, O2.out⟩
            · have := HKL.out; omega
            · have := HLC.out; omega
            · omega
            · exact .inl (by have := HLC.out; have := HCN.out; omega)
          case measure => simp; omega
      · skip
        by_cases hfull : r + n = 64
        · have q5 : ((N : Int) + (n : Int)).tmod 64 = 0 := by rw [Int.tmod_eq_emod_of_nonneg (by omega)]; have := GR.out; omega
          have C := Lib.hid (c33 b mx (splice bg r ys) ((N : Int) + n) (w2.setCell ⟨b, 72, none⟩ (.int .u64 ((N : Int) + n))) HSL.out S2.out (keys_below HKW.out O2.out.below L0.out) L0.out)
          have HFU := Lib.hid hfull
          clear hfull
          go_wp2_with fail
          refine C.out.mono ?_
          rintro e w3 ⟨rfl, hd3, hk3, hb3, ho3⟩
          have O3 : Hid (Oth b w w3) := O2.out.trans ⟨hb3, ho3⟩
          have F3 : Hid (Fed w3 b (m ++ xs.take k ++ ys)) := by
            refine fed_full GB.out (by rw [GN.out]; exact GT.out) (by rw [GN.out, GR.out, GY.out]; exact HFU.out) ?_
            rw [GN.out, GR.out, GM.out, GY.out]
            exact hd3
          have K3 := Lib.hid hk3
          clear hd3 hk3 hb3 ho3
          go_wp2
          go_roundw
          case rel =>
            refine ⟨k + n, _, _, _, ?_, ?_, ?_, rfl, ?_, HFIN.out _ F3.out, K3.out, O3.out⟩
            · have := HKL.out; omega
            · have := HLC.out; omega
            · omega
            · exact .inr ⟨g, o, HAG.out, by rw [Nat.add_assoc]⟩
          case measure => simp; omega
        · obtain ⟨t, ht⟩ : ∃ t : Nat, r + n = t := ⟨_, rfl⟩
          have q5 : ((N : Int) + (n : Int)).tmod 64 = (t : Int) := by rw [Int.tmod_eq_emod_of_nonneg (by omega)]; have := GR.out; have := HNR.out; omega
          have q6 : ¬ (t : Int) = 0 := by omega
          have q7 : ¬ t = 0 := by omega
          have HTT := Lib.hid ht
          clear ht
          have F3 : Hid (Fed (w2.setCell ⟨b, 72, none⟩ (.int .u64 ((N : Int) + n))) b (m ++ xs.take k ++ ys)) := by
            refine fed_part GB.out (by rw [GN.out]; exact GT.out) (by rw [GN.out, GR.out, GY.out]; have := HNR.out; omega) ?_
            rw [GN.out, GR.out, GM.out, GY.out]
            exact S2.out
          have K3 : Hid (Keys (w2.setCell ⟨b, 72, none⟩ (.int .u64 ((N : Int) + n)))) := keys_below HKW.out O2.out.below L0.out
          clear hfull
          go_wp2_with fail
          go_roundw
          case rel =>
            refine ⟨k + n, _, _, _, ?_, ?_, ?_, rfl, ?_, HFIN.out _ F3.out, K3.out, O2.out⟩
            · have := HKL.out; omega
            · have := HLC.out; omega
            · omega
            · exact .inr ⟨g, o, HAG.out, by rw [Nat.add_assoc]⟩
          case measure => simp; omega
end Go.Proofs.YtffaddefnpkcgaaGreatDoor
/-
  length, sum, end.
-/
namespace Go.Proofs.YtffaddefnpkcgaaGreatDoor
open Go.RowKit
theorem z26 (w : World) : (zeroValue 28).run Tryz.prog w = .ok (.agg (ba (zeros 8))) w := by kernel_rfl
theorem src_ba {w : World} {b : Nat} {t : TypeId} {xs : List Int} (h : BA w b t xs) (n : Nat) (hn : n ≤ xs.length) : Src w (some ⟨b, 0, none⟩) n (xs.take n) := by
  refine ⟨by rw [List.length_take]; omega, .inr ⟨b, 0, rfl, fun i hi => ?_⟩⟩
  rw [Nat.zero_add, ba_cell h i (by omega)]
  simp [List.getD, hi]
def outB (s : S8) (k : Nat) : List Int := (List.range k).map fun i => s.l.getD (i / 4) 0 / 2 ^ (24 - 8 * (i % 4)) % 256
theorem outB_len (s : S8) (k : Nat) : (outB s k).length = k := by simp [outB]
theorem outB_succ (s : S8) (k : Nat) : outB s (k + 1) = outB s k ++ [s.l.getD (k / 4) 0 / 2 ^ (24 - 8 * (k % 4)) % 256] := by simp [outB, List.range_succ]
def be (n : Int) (k : Nat) : List Int := (List.range k).map fun i => n / 2 ^ (8 * (7 - i)) % 256
theorem be_len (n : Int) (k : Nat) : (be n k).length = k := by simp [be]
theorem be_succ (n : Int) (k : Nat) : be n (k + 1) = be n k ++ [n / 2 ^ (8 * (7 - k)) % 256] := by simp [be, List.range_succ]
attribute [local irreducible] ua da ba kk sw S8.run rt hs comp splice
set_option maxRecDepth 100000 in
set_option maxHeartbeats 1000000 in
theorem c34 (b : Nat) (s : S8) (bg : List Int) (n : Int) (w : World) (h : DA w b s.l bg n) :
    Calls Tryz.prog 117 #[.pointer (some ⟨b, 0, none⟩)] w fun e w' => e = .returned (.agg (ba (outB s 32))) ∧ Below w.heap.size w w' := by
  have h1 := z23
  have HD := Lib.hid h
  clear h
  obtain ⟨S, hS⟩ : ∃ S, w.heap.size = S := ⟨_, rfl⟩
  go_enter Tryz.func117, Tryz.ntmps117
  go_wp2
  go_loopw [5, 4] (fun i c wr => ∃ k : Nat, k ≤ 32 ∧ i = .int .i64 k ∧ BA wr S 107 (zeros 32) ∧ BA wr (S + 1) 107 (outB s k ++ zeros (32 - k)) ∧ Below S w wr) (fun i _ _ => 32 - (intOf i).toNat)
  case atStart =>
    refine ⟨0, by omega, rfl, ?_, ?_, ?_⟩
    · subst hS
      exact (Below.heap_alloc _ _ _ (by simp)).trans (heap_alloc_last w _)
    · subst hS
      show _ = _
      have := heap_alloc_last (w.alloc (Obj.cells (ba (zeros 32)) 107)) (Obj.cells (ba (zeros 32)) 107)
      simp only [World.size_alloc] at this
      exact this
    · subst hS
      exact ((Below.refl _ _).alloc (Nat.le_refl _) _).alloc (by simp) _
  case round =>
    obtain ⟨k, hk, rfl, hT, hU, hbel⟩ := hrel
    by_cases hlt : k < 32
    · have D : DA wr b s.l bg n := (hbel.block b (by have := lt_of_block HD.out; omega)).trans HD.out
      obtain ⟨q, hq⟩ : ∃ q, k / 4 = q := ⟨_, rfl⟩
      obtain ⟨r, hr⟩ : ∃ r, k % 4 = r := ⟨_, rfl⟩
      obtain ⟨t, ht⟩ : ∃ t, 24 - 8 * r = t := ⟨_, rfl⟩
      have x0 := da_mx D rfl q (by omega)
      have c0 := ba_cell hU k (by rw [List.length_append, outB_len, zeros_len]; omega)
      have f0 := free_of hU k
      have N1 : Hid (BA (wr.setCell ⟨S + 1, k, none⟩ (.int .u8 (s.l.getD q 0 / 2 ^ t % 256))) (S + 1) 107 (outB s (k + 1) ++ zeros (32 - (k + 1)))) := by
        have := ba_set hU k (s.l.getD q 0 / 2 ^ t % 256)
        rw [set_pad _ _ _ _ (outB_len s k) (by omega)] at this
        show BA _ _ _ _
        rw [outB_succ, hq, hr, ht]
        exact this
      have N2 : Hid (BA (wr.setCell ⟨S + 1, k, none⟩ (.int .u8 (s.l.getD q 0 / 2 ^ t % 256))) S 107 (zeros 32)) := heap_else k _ (by omega) hT
      have N3 : Hid (Below S w (wr.setCell ⟨S + 1, k, none⟩ (.int .u8 (s.l.getD q 0 / 2 ^ t % 256)))) := hbel.setCell (by show S ≤ S + 1; omega) _
      clear hU hT hbel D
      generalize s.l.getD q 0 = v at *
      have e1 : (k : Int).tdiv 4 = (q : Int) := by rw [Int.tdiv_eq_ediv_of_nonneg (by omega)]; omega
      have e2 : (k : Int).tmod 4 = (r : Int) := by rw [Int.tmod_eq_emod_of_nonneg (by omega)]; omega
      have e3 : 24 - 8 * (r : Int) = (t : Int) := by omega
      have e4 : min t 32 = t := by omega
      have e5 : (q : Int) < 8 := by omega
      have e6 : (k : Int) < 32 := by omega
      have e7 : 8 * (r : Int) ≤ 24 := by omega
      clear hq hr ht
      go_wp2
      go_roundw
      case rel => exact ⟨k + 1, by omega, by go_num, N2.out, N1.out, N3.out⟩
      case measure => simp [intOf]; omega
    · obtain rfl : k = 32 := by omega
      have HT := Lib.hid hT
      have BL := Lib.hid hbel
      have HU : Hid (wr.heap[S + 1]? = some (.cells (ba (outB s 32)) 107 (0, 0))) := by
        have : BA wr (S + 1) 107 (outB s 32 ++ zeros 0) := hU
        rw [show outB s 32 ++ zeros 0 = outB s 32 by simp [zeros]] at this
        exact this
      clear hT hU hbel
      have h32 : Hid ((ba (outB s 32)).size = 32) := by show _ = _; rw [ba_size, outB_len]
      go_wp2_with (first
        | (refine wpList_load_row rfl 107 (.tmp 3) rfl (S + 1) rfl 107 (ba (outB s 32)) (0, 0) _ HU.out Tryz.underlying107 rfl (sz s23 h32.out) ?_)
        | (refine wpList_store_rowTo rfl 107 (.tmp 2) (.tmp 24) rfl rfl S (ba (outB s 32)) rfl rfl 107 (ba (zeros 32)) HT.out (sz s23 h32.out) (by rw [h32.out, ba_size]; rfl) (ba_one _) ?_))
      refine bodyPost_ret (v := .agg (ba (outB s 32))) (results_cell_row rfl _ _ S 107 _ (0, 0) _ rfl (setRow_heap _ _ _ _ _ _ HT.out) Tryz.underlying107 rfl (sz s23 h32.out)) rfl ⟨rfl, ?_⟩
      rw [hS]
      exact below_setRow BL.out (Nat.le_refl _) _
end Go.Proofs.YtffaddefnpkcgaaGreatDoor
/-
  end; Sum.
-/
namespace Go.Proofs.YtffaddefnpkcgaaGreatDoor
open Go.RowKit
def room (n : Nat) : Nat := (119 - n % 64) % 64
def fill (n : Nat) : List Int := 128 :: zeros (room n)
def pad (m : List Int) : List Int := m ++ fill m.length ++ be (8 * (m.length : Int)) 8
def sha (m : List Int) : List Int := outB (hs (pad m) ((pad m).length / 64)) 32
theorem sha_len (m : List Int) : (sha m).length = 32 := outB_len _ _
theorem fill_take (n : Nat) : (128 :: zeros 63).take (1 + room n) = fill n := by
  have : room n < 64 := Nat.mod_lt _ (by decide)
  unfold fill zeros
  rw [Nat.add_comm, List.take_succ_cons, List.take_replicate, Nat.min_eq_left (by omega)]
theorem fed_below {w W : World} {b B : Nat} {m : List Int} (h : Fed w b m) (hb : Below B w W) (hB : b < B) : Fed W b m := by
  obtain ⟨bg, hD, h2, h3⟩ := h.ex
  exact ⟨bg, (hb.block b hB).trans hD, h2, h3⟩
theorem fed_lt {w : World} {b : Nat} {m : List Int} (h : Fed w b m) : b < w.heap.size := by
  obtain ⟨bg, hD, h2, h3⟩ := h.ex
  exact lt_of_block hD
theorem fillA : (ba (zeros 64)).setIfInBounds 0 (.int .u8 128) = ba (128 :: zeros 63) := by rw [set_ba]; rfl
theorem ba_ne : ¬ ba (zeros 64) = #[] := fun e => by have := congrArg Array.size e; rw [ba_size, zeros_len] at this; cases this
theorem Oth.setRowN {b S : Nat} {w v : World} (h : Oth b w v) (hS : w.heap.size ≤ S) (hb : b ≤ S) (cs : Array Value) : Oth b w (v.setRow S cs) :=
  ⟨below_setRow h.below hb _, fun k hk hne => (setRow_other v S k cs (by omega)).trans (h.oth k hk hne)⟩
attribute [local irreducible] ua da ba kk sw S8.run rt hs comp splice outB
set_option maxRecDepth 100000 in
set_option maxHeartbeats 1000000 in
theorem c24 (b : Nat) (m : List Int) (w : World) (h : Fed w b m) (hk : Keys w) (hb0 : 0 < b) (hm : m.length ≤ 500000) :
    Calls Tryz.prog 91 #[.pointer (some ⟨b, 0, none⟩)] w fun e w' => e = .returned (.agg (ba (sha m))) ∧ Oth b w w' := by
  have h1 := z23
  have h2 := z45
  have h3 := z26
  have h4 := ba_ne
  have HF := Lib.hid h
  have HK := Lib.hid hk
  have L0 : Hid (0 < b) := hb0
  have LW : Hid (b < w.heap.size) := fed_lt h
  obtain ⟨N, hN⟩ : ∃ N, m.length = N := ⟨_, rfl⟩
  obtain ⟨bg, hD, h64, htk⟩ := h.ex
  have x72 := da_n hD rfl h64
  rw [hN] at x72 hm
  have x72 : (w.alloc (Obj.cells (ba (zeros 32)) 107)).cell? ⟨b, 72, none⟩ = some (.int .u64 N) := by rw [World.cell?_of_block (w := w) (a := ⟨b, 72, none⟩) (Below.heap_alloc w _ b LW.out)]; exact x72
  have HN := Lib.hid hN
  obtain ⟨r, hr⟩ : ∃ r, N % 64 = r := ⟨_, rfl⟩
  obtain ⟨R, hR⟩ : ∃ R, (119 - r) % 64 = R := ⟨_, rfl⟩
  have hR64 : R < 64 := by omega
  have hRoom : room N = R := by unfold room; rw [hr]; exact hR
  have q1 : (N : Int).tmod 64 = (r : Int) := by rw [Int.tmod_eq_emod_of_nonneg (by omega)]; omega
  have q2 : IntKind.u64.wrap (119 - (r : Int)) = ((119 - r : Nat) : Int) := by rw [IntKind.wrap_u64]; omega
  have q3 : ((119 - r : Nat) : Int).tmod 64 = (R : Int) := by rw [Int.tmod_eq_emod_of_nonneg (by omega)]; omega
  have HRM := Lib.hid hRoom
  clear h hk hb0 hN hD h64 htk hRoom hR hr
  generalize 119 - r = d at *
  obtain ⟨S, hS⟩ : ∃ S, w.heap.size = S := ⟨_, rfl⟩
  obtain ⟨T, hT⟩ : ∃ T, 1 + R = T := ⟨_, rfl⟩
  have q4 : (T : Int) ≤ 64 := by omega
  have q5 : (1 : Int) + (R : Int) = (T : Int) := by omega
  have q6 : (0 : Int) ≤ (T : Int) := by omega
  have HT := Lib.hid hT
  clear hT
  go_enter Tryz.func91, Tryz.ntmps91
  go_wp2_with (first
    | (refine wpList_store_rowTo rfl 150 (.tmp 4) (.tmp 13) rfl rfl (S + 1) ((ba (zeros 64)).setIfInBounds 0 (.int .u8 128)) rfl rfl 150 (ba (zeros 64)) (by subst hS; have := heap_alloc_last (w.alloc (Obj.cells (ba (zeros 32)) 107)) (Obj.cells (ba (zeros 64)) 150); simp only [World.size_alloc] at this; exact this) (sz s45 (by rw [fillA, ba_size]; rfl)) (by rw [fillA, ba_size, ba_size]; rfl) (by rw [fillA]; exact ba_one _) ?_
       rw [fillA]
       have T0 : (w.alloc (Obj.cells (ba (zeros 32)) 107)).heap[S]? = some (.cells (ba (zeros 32)) 107 (0, 0)) := by subst hS; exact heap_alloc_last w _
       have T1 : ((w.alloc (Obj.cells (ba (zeros 32)) 107)).alloc (Obj.cells (ba (zeros 64)) 150)).heap[S + 1]? = some (.cells (ba (zeros 64)) 150 (0, 0)) := by
         subst hS
         have := heap_alloc_last (w.alloc (Obj.cells (ba (zeros 32)) 107)) (Obj.cells (ba (zeros 64)) 150)
         simp only [World.size_alloc] at this
         exact this
       generalize hq : (((w.alloc (Obj.cells (ba (zeros 32)) 107)).alloc (Obj.cells (ba (zeros 64)) 150)).setRow (S + 1) (ba (128 :: zeros 63))) = wq
       have B1 : Hid (Below S w wq) := by
         rw [← hq]
         subst hS
         exact below_setRow (((Below.refl _ w).alloc (Nat.le_refl _) _).alloc (by simp) _) (by omega) _
       have R0 : Hid (BA wq S 107 (zeros 32)) := by
         rw [← hq]
         exact (setRow_other _ _ _ _ (by omega)).trans ((Below.heap_alloc _ _ _ (lt_of_block T0)).trans T0)
       have R1 : Hid (BA wq (S + 1) 150 (128 :: zeros 63)) := by
         rw [← hq]
         exact setRow_heap _ _ _ _ _ _ T1
       clear hq T0 T1
       have F1 : Hid (Fed wq b m) := fed_below HF.out B1.out (by rw [← hS]; exact LW.out)
       have K1 : Hid (Keys wq) := keys_below HK.out B1.out (by have := LW.out; omega)
       obtain ⟨bg, hD, h64, htk⟩ := F1.out.ex
       have y72 := da_n hD rfl h64
       rw [HN.out] at y72
       clear hD h64 htk x72
       have S1 : Hid (Src wq (some ⟨S + 1, 0, none⟩) T (fill N)) := by
         have := src_ba R1.out (1 + R) (by simp [zeros]; omega)
         rw [← HRM.out, fill_take] at this
         rw [← HT.out, ← HRM.out]
         exact this
       have C := Lib.hid (c23 b (some ⟨S + 1, 0, none⟩) T 64 m (fill N) wq F1.out K1.out L0.out S1.out (fun _ g o e => by cases e; have := LW.out; omega) (by rw [HN.out]; omega) (by omega) (by omega))
       clear hR64)
    | fail)
  refine C.out.mono ?_
  rintro e w1 ⟨rfl, hf1, hk1, ho1⟩
  have F2 := Lib.hid hf1
  have K2 := Lib.hid hk1
  have O2 : Hid (Oth b w w1) := (Oth.of_below (Nat.le_of_lt LW.out) (by rw [hS]; exact B1.out)).trans ho1
  have R2 : Hid (BA w1 S 107 (zeros 32)) := (ho1.oth S (lt_of_block R0.out) (by have := LW.out; omega)).trans R0.out
  have Z2 : Hid (S < w1.heap.size) := lt_of_block R2.out
  have HSB : Hid (S ≠ b) := by show _ ≠ _; have := LW.out; omega
  have HSS : Hid (w.heap.size = S) := hS
  clear hf1 hk1 ho1 hS y72 q1 q2 q3 q4 q5 q6
  generalize hN8 : 8 * (N : Int) = N8
  have HN8 := Lib.hid hN8
  clear hN8
  obtain ⟨Z, hZ⟩ : ∃ Z, w1.heap.size = Z := ⟨_, rfl⟩
  go_wp2_with fail
  go_loopw [26, 7] (fun i c wr => ∃ k : Nat, k ≤ 8 ∧ i = .int .i64 k ∧ BA wr Z 28 (be N8 k ++ zeros (8 - k)) ∧ Below Z w1 wr) (fun i _ _ => 8 - (intOf i).toNat)
  case atStart =>
    subst hZ
    exact ⟨0, by omega, rfl, heap_alloc_last w1 _, (Below.refl _ _).alloc (Nat.le_refl _) _⟩
  case round =>
    obtain ⟨k, hk, rfl, hU, hbel⟩ := hrel
    by_cases hlt : k < 8
    · obtain ⟨j, hj⟩ : ∃ j, 7 - k = j := ⟨_, rfl⟩
      have c0 := ba_cell hU k (by rw [List.length_append, be_len, zeros_len]; omega)
      have f0 := free_of hU k
      have N1 : Hid (BA (wr.setCell ⟨Z, k, none⟩ (.int .u8 (N8 / 2 ^ (8 * j) % 256))) Z 28 (be N8 (k + 1) ++ zeros (8 - (k + 1)))) := by
        have := ba_set hU k (N8 / 2 ^ (8 * j) % 256)
        rw [set_pad _ _ _ _ (be_len N8 k) (by omega)] at this
        show BA _ _ _ _
        rw [be_succ, hj]
        exact this
      have N3 : Hid (Below Z w1 (wr.setCell ⟨Z, k, none⟩ (.int .u8 (N8 / 2 ^ (8 * j) % 256)))) := hbel.setCell (Nat.le_refl _) _
      clear hU hbel
      have e7 : 7 - (k : Int) = (j : Int) := by omega
      have h8 : (8 * (j : Int)).toNat = 8 * j := by omega
      have hmin : min (8 * j) 64 = 8 * j := by omega
      have e6 : (k : Int) < 8 := by omega
      clear hj
      go_wp2
      go_roundw
      case rel => exact ⟨k + 1, by omega, by go_num, N1.out, N3.out⟩
      case measure => simp [intOf]; omega
    · obtain rfl : k = 8 := by omega
      have HU : Hid (BA wr Z 28 (be N8 8)) := by
        have : BA wr Z 28 (be N8 8 ++ zeros 0) := hU
        rw [show be N8 8 ++ zeros 0 = be N8 8 by simp [zeros]] at this
        exact this
      have hbz : b < Z := by rw [← hZ]; exact Nat.lt_of_lt_of_le LW.out O2.out.below.size
      have O3 : Hid (Oth b w wr) := O2.out.trans (Oth.of_below (by rw [hZ]; exact Nat.le_of_lt hbz) (by rw [hZ]; exact hbel))
      have F3 : Hid (Fed wr b (m ++ fill N)) := fed_below F2.out hbel hbz
      have K3 : Hid (Keys wr) := keys_below K2.out hbel (by omega)
      have R3 : Hid (BA wr S 107 (zeros 32)) := (hbel.block S (by rw [← hZ]; exact Z2.out)).trans R2.out
      have SR : Hid (Src wr (some ⟨Z, 0, none⟩) 8 (be N8 8)) := by
        have := src_ba HU.out 8 (by rw [be_len]; omega)
        rw [List.take_of_length_le (by rw [be_len]; omega)] at this
        exact this
      have C2 := Lib.hid (c23 b (some ⟨Z, 0, none⟩) 8 8 (m ++ fill N) (be N8 8) wr F3.out K3.out L0.out SR.out (fun _ g o e => by cases e; omega) (by rw [List.length_append, HN.out]; unfold fill; rw [List.length_cons, zeros_len]; have : room N < 64 := Nat.mod_lt _ (by decide); omega) (by omega) (by omega))
      have LBZ := Lib.hid hbz
      have LSZ : Hid (S ≠ b) := HSB
      clear hU hbel hbz
      go_wp2_with fail
      refine C2.out.mono ?_
      rintro e w4 ⟨rfl, hf4, hk4, ho4⟩
      have O4 : Hid (Oth b w w4) := O3.out.trans ho4
      have R4 : Hid (BA w4 S 107 (zeros 32)) := (ho4.oth S (lt_of_block R3.out) LSZ.out).trans R3.out
      have e4 : m ++ fill N ++ be N8 8 = pad m := by unfold pad; rw [HN.out, ← HN8.out]
      rw [e4] at hf4
      obtain ⟨bg4, hD4, _, _⟩ := hf4.ex
      have C3 := Lib.hid (c34 b _ bg4 _ w4 hD4)
      clear hf4 hk4 ho4 e4 hD4
      go_wp2_with (first
        | (go_at_call 117; refine C3.out.mono ?_; rintro e w5 ⟨rfl, hb5⟩; have B5 := Lib.hid hb5; have R5 : Hid (BA w5 S 107 (zeros 32)) := (hb5.block S (lt_of_block R4.out)).trans R4.out; clear hb5)
        | (refine wpList_store_rowTo rfl 107 (.tmp 2) (.tmp 42) rfl rfl S (ba (sha m)) rfl rfl 107 (ba (zeros 32)) R5.out (sz s23 (by rw [ba_size, sha_len])) (by rw [ba_size, ba_size, sha_len]; rfl) (ba_one _) ?_)
        | fail)
      refine bodyPost_ret (v := .agg (ba (sha m))) (results_cell_row rfl _ _ S 107 _ (0, 0) _ rfl (setRow_heap _ _ _ _ _ _ R5.out) Tryz.underlying107 rfl (sz s23 (by rw [ba_size, sha_len]))) rfl ⟨rfl, ?_⟩
      exact (O4.out.trans (Oth.of_below (Nat.le_of_lt (Nat.lt_of_lt_of_le LW.out O4.out.below.size)) B5.out)).setRowN (by rw [HSS.out]; exact Nat.le_refl _) (by rw [← HSS.out]; exact Nat.le_of_lt LW.out) _
end Go.Proofs.YtffaddefnpkcgaaGreatDoor
/-
  Sum, Of, Two, Zero.
-/
namespace Go.Proofs.YtffaddefnpkcgaaGreatDoor
open Go.RowKit
theorem keys_pos {w : World} (h : Keys w) : 0 < w.heap.size := World.block_lt_of_cell? w ⟨0, 0, none⟩ (h 0 (by decide))
theorem fed_none {w : World} {b : Nat} (h : DA w b iv (zeros 64) 0) : Fed w b [] := ⟨zeros 64, h, zeros_len _, rfl⟩
theorem src_lt {w : World} {A : Option Addr} {m : Nat} {xs : List Int} (h : Src w A m xs) (h0 : 0 < m) : ∀ g o, A = some ⟨g, o, none⟩ → g < w.heap.size := by
  intro g o e
  rcases h.2 with h2 | ⟨g2, o2, h3, hc⟩
  · omega
  · rw [e] at h3
    cases h3
    exact World.block_lt_of_cell? w ⟨g, o + 0, none⟩ (hc 0 h0)
theorem Src.keep {w W : World} {A : Option Addr} {m : Nat} {xs : List Int} (h : Src w A m xs) (hb : ∀ k, k < w.heap.size → W.heap[k]? = w.heap[k]?) : Src W A m xs := by
  refine ⟨h.1, ?_⟩
  rcases h.2 with h2 | ⟨g, o, h3, hc⟩
  · exact .inl h2
  · refine .inr ⟨g, o, h3, fun i hi => ?_⟩
    rw [World.cell?_of_block (w := w) (w' := W) (a := ⟨g, o + i, none⟩) (hb g (World.block_lt_of_cell? w ⟨g, o + i, none⟩ (hc i hi)))]
    exact hc i hi
attribute [local irreducible] ua da ba kk sw S8.run rt hs comp splice outB sha
end Go.Proofs.YtffaddefnpkcgaaGreatDoor

