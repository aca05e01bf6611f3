/-
  Lists: outs, forwards.
-/
import Derived.Test.YtffaddefnpkcgaaGreatDoorZL
import Derived.Test.YtffaddefnpkcgaaGreatDoorZW
namespace Go.Proofs.YtffaddefnpkcgaaGreatDoor
open Go.RowKit
set_option maxRecDepth 100000
attribute [local irreducible] ua da ba kk sw S8.run rt hs comp splice outB sha msg zeros win bvals vals cel seg
def outP : List Pc := [.hsh, .num 7]
def fwdP : List Pc := [.num 1, .num 2, .hsh, .num 7]
def hshP : List Pc := [.hsh]
theorem outP_info : (Tryz.prog.info? 115).map (fun i => (i.zero, i.size, i.bytes)) = some (some (.agg (vals (schP outP) (zeros 9)).toArray), 9, 16) := by kernel_rfl
theorem fwdP_info : (Tryz.prog.info? 123).map (fun i => (i.zero, i.size, i.bytes)) = some (some (.agg (vals (schP fwdP) (zeros 11)).toArray), 11, 32) := by kernel_rfl
theorem hshP_info : (Tryz.prog.info? 29).map (fun i => (i.zero, i.size, i.bytes)) = some (some (.agg (vals (schP hshP) (zeros 8)).toArray), 8, 8) := by kernel_rfl
set_option maxHeartbeats 8000000 in
theorem lOut (T : Tape) : T.Lst 59 (.func (.func 60) #[] #[]) outP := by
  intro w bs b o A c rs hI hb hO hL hro hs
  obtain ⟨n, hn⟩ : ∃ n, rs.length = n := ⟨_, rfl⟩
  have k0 : w.cell? ⟨b, o, none⟩ = some (.slice A n c) := by rw [← hn]; exact hL.cell
  have HN := Lib.hid hn
  have HI := Lib.hid hI
  have HB := Lib.hid hb
  have HO := Lib.hid hO
  have HL := Lib.hid hL
  have HR := Lib.hid hro
  have HS := Lib.hid hs
  have hnc : n ≤ c := by rw [← hn]; exact hL.le
  have hcm : c ≤ 9223372036854775807 := by have := hL.mx; unfold maxLen at this; omega
  clear hI hb hO hL hro hs hn
  go_enter Tryz.func59, Tryz.ntmps59
  go_upto_region 1 with (fail)
  rename_i K hKK
  obtain ⟨N, hN⟩ : ∃ N, w.heap.size = N := ⟨_, rfl⟩
  have NN := Lib.hid hN
  rw [hN]
  have SZ : Hid ((w.alloc (Obj.cells #[.int .i64 n] 3)).heap.size = N + 1) := by show _ = _; rw [World.size_alloc, NN.out]
  have BK : Hid (∀ q, q < N → (w.alloc (Obj.cells #[.int .i64 n] 3)).heap[q]? = w.heap[q]?) := fun q hq => Below.heap_alloc w _ q (by rw [NN.out]; exact hq)
  have SM := Lib.hid (T.same w (w.alloc (Obj.cells #[.int .i64 n] 3)) bs HI.out rfl rfl rfl (by simp) (fun q hq => Below.heap_alloc w _ q hq))
  have VN : Hid (T.Own (w.alloc (Obj.cells #[.int .i64 n] 3)) N) := T.fresh w _ bs N HI.out SM.out.1 (fun q hq => Below.heap_alloc w _ q hq) (by rw [NN.out]; exact Nat.le_refl _) (fun i => by rw [← NN.out]; exact frz_new w #[.int .i64 n] 3 i)
  have VC : Hid ((w.alloc (Obj.cells #[.int .i64 n] 3)).cell? ⟨N, 0, none⟩ = some (.int .i64 n)) := by rw [← NN.out]; exact cell_of_one (heap_alloc_last w _)
  have HB2 : Hid (b < N) := by rw [← NN.out]; exact HB.out
  have FL : Hid (T.stN 1 bs n = none → T.stL outP bs rs = none) := fun h => by unfold Tape.stL; rw [HN.out, h]; rfl
  clear hN k0
  generalize (w.alloc (Obj.cells #[.int .i64 n] 3)) = v at *
  refine wp_region_lit ?_
  refine wpList_t (v := T.V) (by rfl) (by go_simp) ?_
  simp only [Act.put, ly4, ly5, ly6]
  refine wpList_enter (by rfl) (run_invN T (by rfl) (by rfl) (by rfl) (by rfl)) ((T.numC v bs N 0 n 1 (by decide) (by decide) SM.out.1 (by rw [SZ.out]; omega) VN.out VC.out (fun h => HS.out (FL.out h))).mono ?_)
  rintro e v1 (⟨p, hp, rfl, hI1, hC1, hc1⟩ | ⟨hn, hse, hJ⟩)
  rotate_left
  · unfold Short at hse
    subst hse
    refine ⟨rfl, ?_⟩
    rw [FL.out hn]
    exact ⟨rfl, hJ⟩
  simp only [Act.put, ly4, ly5, ly6]
  refine wpList_nil ?_
  show K _ _
  refine hKK _ _ ?_
  clear hKK K FL
  obtain ⟨bs1, x1⟩ := p
  dsimp only at hI1 hc1
  have I1 := Lib.hid hI1
  have P1 := Lib.hid hp
  have K0 : Hid (∀ q, q < N → T.Own w q → v1.heap[q]? = w.heap[q]? ∧ T.Own v1 q) := fun q hq ho => by
    have o1 := SM.out.2 q (by rw [NN.out]; exact hq) ho
    exact ⟨(hC1.els q (by rw [SZ.out]; omega) o1 (.inl (by omega))).trans (BK.out q hq), hC1.own q (by rw [SZ.out]; omega) o1⟩
  have S1 : Hid (N < v1.heap.size) := by show _ < _; have := hC1.size; rw [SZ.out] at this; omega
  have L1 : Hid (LstAt T (schP outP) v1 b o rs 0 A c) := HL.out.keep (fun q hq ho => K0.out q (by rw [← NN.out]; exact hq) ho) (by rw [NN.out]; exact Nat.le_of_lt S1.out) HB.out HO.out
  have OB : Hid (T.Own v1 b) := (K0.out b HB2.out HO.out).2
  have NB : Hid (b ≠ N) := Nat.ne_of_lt HB2.out
  clear hI1 hp hC1 SM VN VC SZ BK HL
  have k0 : v1.cell? ⟨b, o, none⟩ = some (.slice A n c) := by rw [← HN.out]; exact L1.out.cell
  have k1 := hc1
  clear hc1
  go_upto_region 3 with (fail)
  go_quiet (fail)
  rename_i K1 hK1 K hKK
  have REST : ∀ (w2 : World) (A2 : Option Addr) (c2 : Nat) (rs2 : List (List Int)) (z8 z9 z10 z11 z12 z13 z14 z15 z16 z17 z18 z19 y0 y1 y2 y3 : Value), T.I w2 bs1 → b < w2.heap.size → T.Own w2 b → LstAt T (schP outP) w2 b o rs2 N A2 c2 → Ch T.Own T.ro w w2 b o 1 → T.stL outP bs rs = T.stR outP bs1 rs2 →
      K1 { tmps := #[T.V, .pointer (some ⟨b, o, none⟩), .func (.func 60) #[] #[], undef, undef, undef, .pointer (some ⟨N, 0, none⟩), undef, z8, z9, z10, z11, z12, z13, z14, z15, z16, z17, z18, z19, y0, y1, y2, y3, undef, undef, undef, undef, undef, undef, undef, undef, undef, undef, undef, undef, undef, undef, undef, undef], defers := [] } w2 := by
    intro w2 A2 c2 rs2 z8 z9 z10 z11 z12 z13 z14 z15 z16 z17 z18 z19 y0 y1 y2 y3 hI2 hb2 hO2 hL2 hC2 hst
    refine hK1 _ _ ?_
    clear hK1 hKK K K1
    obtain ⟨n2, hn2⟩ : ∃ n2, rs2.length = n2 := ⟨_, rfl⟩
    obtain ⟨g, off, hrow⟩ := mids rs2 hL2.row
    have HN2 := Lib.hid hn2
    have I2 := Lib.hid hI2
    have HB3 := Lib.hid hb2
    have HO3 := Lib.hid hO2
    have L2 := Lib.hid hL2
    have C2 := Lib.hid hC2
    have ST := Lib.hid hst
    have RW := Lib.hid hrow
    have hnc2 : n2 ≤ c2 := by rw [← hn2]; exact hL2.le
    have hcm2 : c2 ≤ 9223372036854775807 := by have := hL2.mx; unfold maxLen at this; omega
    have k2 : w2.cell? ⟨b, o, none⟩ = some (.slice A2 n2 c2) := by rw [← hn2]; exact hL2.cell
    have M0 : Hid (MidR T outP w2 g off bs1 rs2 0 w2 bs1 []) := ⟨rfl, rfl, hI2, Nat.le_refl _, fun _ _ h => h, fun _ _ _ _ => rfl, fun j hj => by omega, fun j _ hj => by
      rcases hrow with ⟨h, _⟩ | ⟨_, _, _, _, h⟩
      · rw [h] at hj; simp at hj
      · exact h j hj⟩
    clear hn2 hI2 hb2 hO2 hL2 hC2 hst hrow k0 k1
    have LQ : Hid ((schP outP).length = 9) := rfl
    go_wp2
    clear k2
    go_loopw [28] (fun i wr => ∃ k : Nat, k ≤ n2 ∧ i = .int .i64 k ∧ ∃ bsk rsk, MidR T outP w2 g off bs1 rs2 k wr bsk rsk) (fun i _ => n2 - (intOf i).toNat)
    case atStart => exact ⟨0, Nat.zero_le _, rfl, bs1, [], M0.out⟩
    case round =>
      obtain ⟨k, hk, rfl, bsk, rsk, hM⟩ := hrel
      have HM := Lib.hid hM
      clear hM
      by_cases hlt : k < n2
      · have hlt2 : k < rs2.length := by rw [HN2.out]; exact hlt
        have RW2 : Hid (A2 = some ⟨g, off, none⟩ ∧ T.Own w2 g ∧ g < w2.heap.size ∧ (N ≤ g ∨ T.ro = true)) := by
          rcases RW.out with ⟨h, _⟩ | ⟨h1, h2, h3, h4, _⟩
          · rw [h] at hlt2; simp at hlt2
          · exact ⟨h1, h2, h3, h4⟩
        have s0 : (0 : Int) ≤ (k : Int) := by omega
        have s1 : (k : Int) < (n2 : Int) := by omega
        have k2 : wr.cell? ⟨b, o, none⟩ = some (.slice (some ⟨g, off, none⟩) n2 c2) := by
          have e := L2.out.cell
          rw [HN2.out, RW2.out.1] at e
          rw [← e]
          simp only [World.cell?, HM.out.els b HB3.out HO3.out (by rcases RW2.out.2.2.2 with h | h <;> first | exact .inr h | exact .inl (by have := HB2.out; omega))]
        have FL : Hid (T.st outP bsk (rcd rs2 k) = none → T.stL outP bs rs = none) := fun h => by rw [ST.out]; exact HM.out.fail hlt2 h
        have LK : Hid ((rcd rs2 k).length = (schP outP).length) := by show _ = _; rw [rcd_get' hlt2]; exact L2.out.len _ (List.getElem_mem hlt2)
        have RK : Hid (wr.rangeAt g (off + k * 9) (vals (schP outP) (rcd rs2 k))) := by have h := HM.out.left k (Nat.le_refl _) hlt2; rw [LQ.out] at h; exact h
        have OK : Hid (T.Own wr g) := HM.out.own g RW2.out.2.2.1 RW2.out.2.1
        have GK : Hid (g < wr.heap.size) := Nat.lt_of_lt_of_le RW2.out.2.2.1 HM.out.size
        have HK := Lib.hid hlt2
        clear hlt2
        go_wp2_with fail
        refine ((show T.Itm 60 T.V outP from fOut T) wr bsk g (off + k * 9) (rcd rs2 k) HM.out.I GK.out OK.out LK.out RK.out (fun h => HS.out (FL.out h))).mono ?_
        intro e wn hpost
        cases hq : T.st outP bsk (rcd rs2 k) with
        | none =>
          rw [hq] at hpost
          obtain ⟨hse, hJ⟩ := hpost
          unfold Short at hse
          subst hse
          refine ⟨rfl, ?_⟩
          rw [FL.out hq]
          exact ⟨rfl, hJ⟩
        | some pn =>
          rw [hq] at hpost
          obtain ⟨rfl, hI', hC', hr'⟩ := hpost
          have hM := HM.out
          have hll := L2.out.len
          have hkk := HK.out
          have hC2 : Ch T.Own T.ro wr wn g (off + k * (schP outP).length) (schP outP).length := by rw [LQ.out] at hC' ⊢; exact hC'
          have hr2 : wn.rangeAt g (off + k * (schP outP).length) (vals (schP outP) pn.2) := by rw [LQ.out]; exact hr'
          have hM1 := hM.next hll hkk hq hI' hC2 hr2
          have M1 := Lib.hid hM1
          clear hM hll hkk hM1 hq hI' hC' hr' hC2 hr2 k2 FL LK RK OK GK HK
          go_wp2
          go_roundw
          case rel => exact ⟨k + 1, by omega, by simp, _, _, M1.out⟩
          case measure => simp [intOf]; omega
      · have hkn : k = n2 := by omega
        subst hkn
        have s1 : ¬ (k : Int) < (k : Int) := by omega
        go_wp2
        go_end0
        have hM := HM.out
        have e := hM.st
        rw [List.take_of_length_le (by rw [HN2.out]; exact Nat.le_refl _)] at e
        rw [ST.out, e]
        have hlr : rsk.length = rs2.length := by rw [hM.len, HN2.out]
        have hbk : wr.heap[b]? = w2.heap[b]? := hM.els b HB3.out HO3.out (by
          rcases RW.out with ⟨_, h⟩ | ⟨_, _, _, h, _⟩
          · exact .inl (by have := HB3.out; omega)
          · rcases h with h | h
            · exact .inl (by have := HB2.out; omega)
            · exact .inr h)
        refine ⟨rfl, hM.I, ?_, A2, c2, ?_⟩
        · refine ⟨Nat.le_trans C2.out.size hM.size, fun q hq ho => hM.own q (Nat.lt_of_lt_of_le hq C2.out.size) (C2.out.own q hq ho), fun q hq ho hne => ?_, fun i hi => ?_⟩
          · refine (hM.els q (Nat.lt_of_lt_of_le hq C2.out.size) (C2.out.own q hq ho) ?_).trans (C2.out.els q hq ho hne)
            rcases RW.out with ⟨_, h⟩ | ⟨_, _, _, h, _⟩
            · exact .inl (by have := C2.out.size; omega)
            · rcases h with h | h
              · exact .inl (by rw [NN.out] at hq; omega)
              · exact .inr h
          · rw [← C2.out.cell i hi]
            simp only [World.cell?, hbk]
        · have hl2 := L2.out
          refine ⟨by simp only [World.cell?, hbk]; rw [hlr]; exact hl2.cell, by rw [hlr]; exact hl2.le, hl2.mx, hl2.no, T.stR_all _ _ _ _ hl2.len e, ?_⟩
          rcases RW.out with ⟨h, _⟩ | ⟨h1, h2, h3, h4, _⟩
          · left
            exact List.eq_nil_of_length_eq_zero (by rw [hlr, h]; rfl)
          · right
            refine ⟨g, off, h1, hM.own g h3 h2, Nat.lt_of_lt_of_le h3 hM.size, ?_, fun j hj => hM.done j (by rw [hlr, HN2.out] at hj; exact hj)⟩
            rw [NN.out]
            exact h4
  have DS := Lib.hid (T.same v1 (v1.drewN nq) bs1 I1.out rfl rfl rfl (Nat.le_refl _) (fun _ _ => rfl))
  have CD : Hid (Ch T.Own T.ro w (v1.drewN nq) b o 1) := ⟨by rw [NN.out]; exact Nat.le_of_lt S1.out, fun q hq ho => DS.out.2 q (by rw [NN.out] at hq; have := S1.out; omega) (K0.out q (by rw [← NN.out]; exact hq) ho).2, fun q hq ho _ => (K0.out q (by rw [← NN.out]; exact hq) ho).1, fun i _ => by
    show v1.cell? _ = _
    simp only [World.cell?, (K0.out b HB2.out HO.out).1]⟩
  have SD : Hid (N < (v1.drewN nq).heap.size) := S1.out
  have OD : Hid (T.Own (v1.drewN nq) b) := DS.out.2 b (by have := S1.out; have := HB2.out; omega) OB.out
  have LD : Hid (LstAt T (schP outP) (v1.drewN nq) b o rs 0 A c) := L1.out.keep (fun q hq ho => ⟨rfl, DS.out.2 q hq ho⟩) (Nat.le_refl _) (by have := S1.out; have := HB2.out; omega) OB.out
  have k2 : (v1.drewN nq).cell? ⟨N, 0, none⟩ = some (.int .i64 x1) := k1
  have k3 : (v1.drewN nq).cell? ⟨b, o, none⟩ = some (.slice A n c) := k0
  show K _ _
  refine hKK _ _ ?_
  clear hKK K k0 k1 K0 L1 S1 OB hK1
  generalize (v1.drewN nq) = v2 at *
  by_cases hx : x1 = (n : Int)
  · have hbx : (x1 != (n : Int)) = false := by simp [hx]
    have HX := Lib.hid hx
    clear hx
    go_wp2
    refine REST v2 A c rs _ _ _ _ _ _ _ _ _ _ _ _ _ _ _ _ DS.out.1 (by have := SD.out; have := HB2.out; omega) OD.out ?_ CD.out ?_
    · have h := LD.out
      refine ⟨h.cell, h.le, h.mx, h.no, h.len, ?_⟩
      rcases HR.out with hr | hr
      · rcases h.row with g | ⟨g, off, e, h1, h2, h3, h4⟩
        · exact .inl g
        · exact .inr ⟨g, off, e, h1, h2, .inr hr, h4⟩
      · exact .inl hr
    · unfold Tape.stL
      rw [HN.out, P1.out]
      simp only [Option.bind_some]
      unfold rowsOf
      rw [HN.out, if_pos HX.out]
  · have hbx : (x1 != (n : Int)) = true := by simpa using hx
    obtain ⟨hro, h0, h256⟩ : T.ro = false ∧ 0 ≤ x1 ∧ x1 < 256 := by
      rcases T.byt1 _ _ _ P1.out with h | h
      · exact absurd h hx
      · exact h
    have hrs : rs = [] := by
      rcases HR.out with h | h
      · rw [h] at hro; cases hro
      · exact h
    obtain ⟨m, rfl⟩ := Int.eq_ofNat_of_zero_le h0
    have HRS := Lib.hid hrs
    have HRO := Lib.hid hro
    have HX := Lib.hid hx
    obtain ⟨i0, hi, hz0, hz1, hz2⟩ := info_parts outP_info
    have HI9 := Lib.hid hi
    have HI0 := Lib.hid hz0
    have HI1 := Lib.hid hz1
    have HI2 := Lib.hid hz2
    have hm256 : m < 256 := by omega
    clear hi hz0 hz1 hz2 hx hro h0 hrs
    go_wp2_with (refine wpList_make_full _ rfl (.tmp 21) (.tmp 21) 23 rfl N 115 i0 _ 9 Tryz.underlying23 HI9.out HI0.out HI1.out   .i64 .i64 m m m rfl rfl rfl rfl (by rw [HI2.out]; omega) (by unfold maxLen; omega) (by have := SD.out; omega) ?_; intro w3 hown hg; have hk := (fun q (hq : q < v2.heap.size) => hg.block q hq (by intro h; cases h)); have OW := Lib.hid hown; have GR := Lib.hid hg; have HK := Lib.hid hk; have e3 : w3.cell? ⟨b, o, none⟩ = some (.slice A n c) := (by simp only [World.cell?, hk b (by have := SD.out; have := HB2.out; omega)]; have h := LD.out.cell; rw [HN.out] at h; exact h); have SA := Lib.hid (T.same v2 w3 bs1 DS.out.1 hg.os hg.tape hg.output hg.size hk); have f3 : w3.frozen? ⟨b, o, none⟩ = false := T.free HRO.out w3 b (SA.out.2 b (by have := SD.out; have := HB2.out; omega) OD.out) o; clear hown hg hk)
    have HG : Hid (v2.heap.size < w3.heap.size) := (OW.out.lt v2.heap.size rfl).2
    have hb2 : b < v2.heap.size := by have := SD.out; have := HB2.out; omega
    have OB3 := SA.out.2 b hb2 OD.out
    have ST3 := Lib.hid (T.store HRO.out w3 bs1 b o (.slice (some ⟨v2.heap.size, 0, none⟩) m m) SA.out.1 OB3)
    have OG3 : Hid (T.Own w3 v2.heap.size) := T.fresh v2 w3 bs1 _ DS.out.1 SA.out.1 HK.out (Nat.le_refl _) (fun i => OW.out.frozenAt i)
    have hnb : v2.heap.size ≠ b := by omega
    have LQ : (schP outP).length = 9 := rfl
    refine REST _ (some ⟨v2.heap.size, 0, none⟩) m (List.replicate m (zeros 9)) _ _ _ _ _ _ _ _ _ _ _ _ _ _ _ _ ST3.out.1 (by have := HG.out; simp [World.setCell]; omega) (ST3.out.2 b OB3) ?_ ?_ ?_
    · have hrl : (List.replicate m (zeros 9)).length = m := List.length_replicate
      refine ⟨?_, by rw [hrl]; exact Nat.le_refl _, by unfold maxLen; omega, fun h => by (cases h), fun r hr => by rw [List.eq_of_mem_replicate hr, zeros_len]; exact LQ.symm, .inr ⟨v2.heap.size, 0, rfl, ST3.out.2 _ OG3.out, by have := HG.out; simp [World.setCell]; omega, .inl (Nat.le_of_lt SD.out), fun j hj => ?_⟩⟩
      · rw [hrl, World.cell?_setCell_same _ _ _ e3]
      · rw [hrl] at hj
        have hz : rcd (List.replicate m (zeros 9)) j = zeros 9 := by rw [rcd_get' (by rw [hrl]; exact hj)]; simp
        rw [hz]
        exact range_keep1 (by rw [LQ]; exact made_range (S := schP outP) LQ rfl OW.out hj) (heap_setCell_other _ _ _ _ hnb)
    · refine ⟨?_, fun q hq ho => ST3.out.2 q (SA.out.2 q (Nat.lt_of_lt_of_le hq CD.out.size) (CD.out.own q hq ho)), fun q hq ho hne => ?_, fun i hi => ?_⟩
      · have := CD.out.size; have := GR.out.size; simp [World.setCell]; omega
      · have hqb : q ≠ b := by
          rcases hne with h | h
          · exact h
          · rw [HRO.out] at h; cases h
        rw [heap_setCell_other _ _ _ _ hqb, HK.out q (Nat.lt_of_lt_of_le hq CD.out.size)]
        exact CD.out.els q hq ho hne
      · rw [World.cell?_setCell_other _ _ _ _ (by intro h; simp only [Addr.mk.injEq] at h; omega)]
        simp only [World.cell?, HK.out b hb2]
        exact CD.out.cell i hi
    · unfold Tape.stL
      rw [HN.out, P1.out]
      simp only [Option.bind_some]
      unfold rowsOf
      rw [HN.out, if_neg HX.out, Int.toNat_natCast, LQ]
set_option maxHeartbeats 8000000 in
theorem lFwd (T : Tape) : T.Lst 63 (.func (.func 64) #[] #[]) fwdP := by
  intro w bs b o A c rs hI hb hO hL hro hs
  obtain ⟨n, hn⟩ : ∃ n, rs.length = n := ⟨_, rfl⟩
  have k0 : w.cell? ⟨b, o, none⟩ = some (.slice A n c) := by rw [← hn]; exact hL.cell
  have HN := Lib.hid hn
  have HI := Lib.hid hI
  have HB := Lib.hid hb
  have HO := Lib.hid hO
  have HL := Lib.hid hL
  have HR := Lib.hid hro
  have HS := Lib.hid hs
  have hnc : n ≤ c := by rw [← hn]; exact hL.le
  have hcm : c ≤ 9223372036854775807 := by have := hL.mx; unfold maxLen at this; omega
  clear hI hb hO hL hro hs hn
  go_enter Tryz.func63, Tryz.ntmps63
  go_upto_region 1 with (fail)
  rename_i K hKK
  obtain ⟨N, hN⟩ : ∃ N, w.heap.size = N := ⟨_, rfl⟩
  have NN := Lib.hid hN
  rw [hN]
  have SZ : Hid ((w.alloc (Obj.cells #[.int .i64 n] 3)).heap.size = N + 1) := by show _ = _; rw [World.size_alloc, NN.out]
  have BK : Hid (∀ q, q < N → (w.alloc (Obj.cells #[.int .i64 n] 3)).heap[q]? = w.heap[q]?) := fun q hq => Below.heap_alloc w _ q (by rw [NN.out]; exact hq)
  have SM := Lib.hid (T.same w (w.alloc (Obj.cells #[.int .i64 n] 3)) bs HI.out rfl rfl rfl (by simp) (fun q hq => Below.heap_alloc w _ q hq))
  have VN : Hid (T.Own (w.alloc (Obj.cells #[.int .i64 n] 3)) N) := T.fresh w _ bs N HI.out SM.out.1 (fun q hq => Below.heap_alloc w _ q hq) (by rw [NN.out]; exact Nat.le_refl _) (fun i => by rw [← NN.out]; exact frz_new w #[.int .i64 n] 3 i)
  have VC : Hid ((w.alloc (Obj.cells #[.int .i64 n] 3)).cell? ⟨N, 0, none⟩ = some (.int .i64 n)) := by rw [← NN.out]; exact cell_of_one (heap_alloc_last w _)
  have HB2 : Hid (b < N) := by rw [← NN.out]; exact HB.out
  have FL : Hid (T.stN 1 bs n = none → T.stL fwdP bs rs = none) := fun h => by unfold Tape.stL; rw [HN.out, h]; rfl
  clear hN k0
  generalize (w.alloc (Obj.cells #[.int .i64 n] 3)) = v at *
  refine wp_region_lit ?_
  refine wpList_t (v := T.V) (by rfl) (by go_simp) ?_
  simp only [Act.put, ly4, ly5, ly6]
  refine wpList_enter (by rfl) (run_invN T (by rfl) (by rfl) (by rfl) (by rfl)) ((T.numC v bs N 0 n 1 (by decide) (by decide) SM.out.1 (by rw [SZ.out]; omega) VN.out VC.out (fun h => HS.out (FL.out h))).mono ?_)
  rintro e v1 (⟨p, hp, rfl, hI1, hC1, hc1⟩ | ⟨hn, hse, hJ⟩)
  rotate_left
  · unfold Short at hse
    subst hse
    refine ⟨rfl, ?_⟩
    rw [FL.out hn]
    exact ⟨rfl, hJ⟩
  simp only [Act.put, ly4, ly5, ly6]
  refine wpList_nil ?_
  show K _ _
  refine hKK _ _ ?_
  clear hKK K FL
  obtain ⟨bs1, x1⟩ := p
  dsimp only at hI1 hc1
  have I1 := Lib.hid hI1
  have P1 := Lib.hid hp
  have K0 : Hid (∀ q, q < N → T.Own w q → v1.heap[q]? = w.heap[q]? ∧ T.Own v1 q) := fun q hq ho => by
    have o1 := SM.out.2 q (by rw [NN.out]; exact hq) ho
    exact ⟨(hC1.els q (by rw [SZ.out]; omega) o1 (.inl (by omega))).trans (BK.out q hq), hC1.own q (by rw [SZ.out]; omega) o1⟩
  have S1 : Hid (N < v1.heap.size) := by show _ < _; have := hC1.size; rw [SZ.out] at this; omega
  have L1 : Hid (LstAt T (schP fwdP) v1 b o rs 0 A c) := HL.out.keep (fun q hq ho => K0.out q (by rw [← NN.out]; exact hq) ho) (by rw [NN.out]; exact Nat.le_of_lt S1.out) HB.out HO.out
  have OB : Hid (T.Own v1 b) := (K0.out b HB2.out HO.out).2
  have NB : Hid (b ≠ N) := Nat.ne_of_lt HB2.out
  clear hI1 hp hC1 SM VN VC SZ BK HL
  have k0 : v1.cell? ⟨b, o, none⟩ = some (.slice A n c) := by rw [← HN.out]; exact L1.out.cell
  have k1 := hc1
  clear hc1
  go_upto_region 3 with (fail)
  go_quiet (fail)
  rename_i K1 hK1 K hKK
  have REST : ∀ (w2 : World) (A2 : Option Addr) (c2 : Nat) (rs2 : List (List Int)) (z8 z9 z10 z11 z12 z13 z14 z15 z16 z17 z18 z19 y0 y1 y2 y3 : Value), T.I w2 bs1 → b < w2.heap.size → T.Own w2 b → LstAt T (schP fwdP) w2 b o rs2 N A2 c2 → Ch T.Own T.ro w w2 b o 1 → T.stL fwdP bs rs = T.stR fwdP bs1 rs2 →
      K1 { tmps := #[T.V, .pointer (some ⟨b, o, none⟩), .func (.func 64) #[] #[], undef, undef, undef, .pointer (some ⟨N, 0, none⟩), undef, z8, z9, z10, z11, z12, z13, z14, z15, z16, z17, z18, z19, y0, y1, y2, y3, undef, undef, undef, undef, undef, undef, undef, undef, undef, undef, undef, undef, undef, undef, undef, undef], defers := [] } w2 := by
    intro w2 A2 c2 rs2 z8 z9 z10 z11 z12 z13 z14 z15 z16 z17 z18 z19 y0 y1 y2 y3 hI2 hb2 hO2 hL2 hC2 hst
    refine hK1 _ _ ?_
    clear hK1 hKK K K1
    obtain ⟨n2, hn2⟩ : ∃ n2, rs2.length = n2 := ⟨_, rfl⟩
    obtain ⟨g, off, hrow⟩ := mids rs2 hL2.row
    have HN2 := Lib.hid hn2
    have I2 := Lib.hid hI2
    have HB3 := Lib.hid hb2
    have HO3 := Lib.hid hO2
    have L2 := Lib.hid hL2
    have C2 := Lib.hid hC2
    have ST := Lib.hid hst
    have RW := Lib.hid hrow
    have hnc2 : n2 ≤ c2 := by rw [← hn2]; exact hL2.le
    have hcm2 : c2 ≤ 9223372036854775807 := by have := hL2.mx; unfold maxLen at this; omega
    have k2 : w2.cell? ⟨b, o, none⟩ = some (.slice A2 n2 c2) := by rw [← hn2]; exact hL2.cell
    have M0 : Hid (MidR T fwdP w2 g off bs1 rs2 0 w2 bs1 []) := ⟨rfl, rfl, hI2, Nat.le_refl _, fun _ _ h => h, fun _ _ _ _ => rfl, fun j hj => by omega, fun j _ hj => by
      rcases hrow with ⟨h, _⟩ | ⟨_, _, _, _, h⟩
      · rw [h] at hj; simp at hj
      · exact h j hj⟩
    clear hn2 hI2 hb2 hO2 hL2 hC2 hst hrow k0 k1
    have LQ : Hid ((schP fwdP).length = 11) := rfl
    go_wp2
    clear k2
    go_loopw [28] (fun i wr => ∃ k : Nat, k ≤ n2 ∧ i = .int .i64 k ∧ ∃ bsk rsk, MidR T fwdP w2 g off bs1 rs2 k wr bsk rsk) (fun i _ => n2 - (intOf i).toNat)
    case atStart => exact ⟨0, Nat.zero_le _, rfl, bs1, [], M0.out⟩
    case round =>
      obtain ⟨k, hk, rfl, bsk, rsk, hM⟩ := hrel
      have HM := Lib.hid hM
      clear hM
      by_cases hlt : k < n2
      · have hlt2 : k < rs2.length := by rw [HN2.out]; exact hlt
        have RW2 : Hid (A2 = some ⟨g, off, none⟩ ∧ T.Own w2 g ∧ g < w2.heap.size ∧ (N ≤ g ∨ T.ro = true)) := by
          rcases RW.out with ⟨h, _⟩ | ⟨h1, h2, h3, h4, _⟩
          · rw [h] at hlt2; simp at hlt2
          · exact ⟨h1, h2, h3, h4⟩
        have s0 : (0 : Int) ≤ (k : Int) := by omega
        have s1 : (k : Int) < (n2 : Int) := by omega
        have k2 : wr.cell? ⟨b, o, none⟩ = some (.slice (some ⟨g, off, none⟩) n2 c2) := by
          have e := L2.out.cell
          rw [HN2.out, RW2.out.1] at e
          rw [← e]
          simp only [World.cell?, HM.out.els b HB3.out HO3.out (by rcases RW2.out.2.2.2 with h | h <;> first | exact .inr h | exact .inl (by have := HB2.out; omega))]
        have FL : Hid (T.st fwdP bsk (rcd rs2 k) = none → T.stL fwdP bs rs = none) := fun h => by rw [ST.out]; exact HM.out.fail hlt2 h
        have LK : Hid ((rcd rs2 k).length = (schP fwdP).length) := by show _ = _; rw [rcd_get' hlt2]; exact L2.out.len _ (List.getElem_mem hlt2)
        have RK : Hid (wr.rangeAt g (off + k * 11) (vals (schP fwdP) (rcd rs2 k))) := by have h := HM.out.left k (Nat.le_refl _) hlt2; rw [LQ.out] at h; exact h
        have OK : Hid (T.Own wr g) := HM.out.own g RW2.out.2.2.1 RW2.out.2.1
        have GK : Hid (g < wr.heap.size) := Nat.lt_of_lt_of_le RW2.out.2.2.1 HM.out.size
        have HK := Lib.hid hlt2
        clear hlt2
        go_wp2_with fail
        refine ((show T.Itm 64 T.V fwdP from fFwd T) wr bsk g (off + k * 11) (rcd rs2 k) HM.out.I GK.out OK.out LK.out RK.out (fun h => HS.out (FL.out h))).mono ?_
        intro e wn hpost
        cases hq : T.st fwdP bsk (rcd rs2 k) with
        | none =>
          rw [hq] at hpost
          obtain ⟨hse, hJ⟩ := hpost
          unfold Short at hse
          subst hse
          refine ⟨rfl, ?_⟩
          rw [FL.out hq]
          exact ⟨rfl, hJ⟩
        | some pn =>
          rw [hq] at hpost
          obtain ⟨rfl, hI', hC', hr'⟩ := hpost
          have hM := HM.out
          have hll := L2.out.len
          have hkk := HK.out
          have hC2 : Ch T.Own T.ro wr wn g (off + k * (schP fwdP).length) (schP fwdP).length := by rw [LQ.out] at hC' ⊢; exact hC'
          have hr2 : wn.rangeAt g (off + k * (schP fwdP).length) (vals (schP fwdP) pn.2) := by rw [LQ.out]; exact hr'
          have hM1 := hM.next hll hkk hq hI' hC2 hr2
          have M1 := Lib.hid hM1
          clear hM hll hkk hM1 hq hI' hC' hr' hC2 hr2 k2 FL LK RK OK GK HK
          go_wp2
          go_roundw
          case rel => exact ⟨k + 1, by omega, by simp, _, _, M1.out⟩
          case measure => simp [intOf]; omega
      · have hkn : k = n2 := by omega
        subst hkn
        have s1 : ¬ (k : Int) < (k : Int) := by omega
        go_wp2
        go_end0
        have hM := HM.out
        have e := hM.st
        rw [List.take_of_length_le (by rw [HN2.out]; exact Nat.le_refl _)] at e
        rw [ST.out, e]
        have hlr : rsk.length = rs2.length := by rw [hM.len, HN2.out]
        have hbk : wr.heap[b]? = w2.heap[b]? := hM.els b HB3.out HO3.out (by
          rcases RW.out with ⟨_, h⟩ | ⟨_, _, _, h, _⟩
          · exact .inl (by have := HB3.out; omega)
          · rcases h with h | h
            · exact .inl (by have := HB2.out; omega)
            · exact .inr h)
        refine ⟨rfl, hM.I, ?_, A2, c2, ?_⟩
        · refine ⟨Nat.le_trans C2.out.size hM.size, fun q hq ho => hM.own q (Nat.lt_of_lt_of_le hq C2.out.size) (C2.out.own q hq ho), fun q hq ho hne => ?_, fun i hi => ?_⟩
          · refine (hM.els q (Nat.lt_of_lt_of_le hq C2.out.size) (C2.out.own q hq ho) ?_).trans (C2.out.els q hq ho hne)
            rcases RW.out with ⟨_, h⟩ | ⟨_, _, _, h, _⟩
            · exact .inl (by have := C2.out.size; omega)
            · rcases h with h | h
              · exact .inl (by rw [NN.out] at hq; omega)
              · exact .inr h
          · rw [← C2.out.cell i hi]
            simp only [World.cell?, hbk]
        · have hl2 := L2.out
          refine ⟨by simp only [World.cell?, hbk]; rw [hlr]; exact hl2.cell, by rw [hlr]; exact hl2.le, hl2.mx, hl2.no, T.stR_all _ _ _ _ hl2.len e, ?_⟩
          rcases RW.out with ⟨h, _⟩ | ⟨h1, h2, h3, h4, _⟩
          · left
            exact List.eq_nil_of_length_eq_zero (by rw [hlr, h]; rfl)
          · right
            refine ⟨g, off, h1, hM.own g h3 h2, Nat.lt_of_lt_of_le h3 hM.size, ?_, fun j hj => hM.done j (by rw [hlr, HN2.out] at hj; exact hj)⟩
            rw [NN.out]
            exact h4
  have DS := Lib.hid (T.same v1 (v1.drewN nq) bs1 I1.out rfl rfl rfl (Nat.le_refl _) (fun _ _ => rfl))
  have CD : Hid (Ch T.Own T.ro w (v1.drewN nq) b o 1) := ⟨by rw [NN.out]; exact Nat.le_of_lt S1.out, fun q hq ho => DS.out.2 q (by rw [NN.out] at hq; have := S1.out; omega) (K0.out q (by rw [← NN.out]; exact hq) ho).2, fun q hq ho _ => (K0.out q (by rw [← NN.out]; exact hq) ho).1, fun i _ => by
    show v1.cell? _ = _
    simp only [World.cell?, (K0.out b HB2.out HO.out).1]⟩
  have SD : Hid (N < (v1.drewN nq).heap.size) := S1.out
  have OD : Hid (T.Own (v1.drewN nq) b) := DS.out.2 b (by have := S1.out; have := HB2.out; omega) OB.out
  have LD : Hid (LstAt T (schP fwdP) (v1.drewN nq) b o rs 0 A c) := L1.out.keep (fun q hq ho => ⟨rfl, DS.out.2 q hq ho⟩) (Nat.le_refl _) (by have := S1.out; have := HB2.out; omega) OB.out
  have k2 : (v1.drewN nq).cell? ⟨N, 0, none⟩ = some (.int .i64 x1) := k1
  have k3 : (v1.drewN nq).cell? ⟨b, o, none⟩ = some (.slice A n c) := k0
  show K _ _
  refine hKK _ _ ?_
  clear hKK K k0 k1 K0 L1 S1 OB hK1
  generalize (v1.drewN nq) = v2 at *
  by_cases hx : x1 = (n : Int)
  · have hbx : (x1 != (n : Int)) = false := by simp [hx]
    have HX := Lib.hid hx
    clear hx
    go_wp2
    refine REST v2 A c rs _ _ _ _ _ _ _ _ _ _ _ _ _ _ _ _ DS.out.1 (by have := SD.out; have := HB2.out; omega) OD.out ?_ CD.out ?_
    · have h := LD.out
      refine ⟨h.cell, h.le, h.mx, h.no, h.len, ?_⟩
      rcases HR.out with hr | hr
      · rcases h.row with g | ⟨g, off, e, h1, h2, h3, h4⟩
        · exact .inl g
        · exact .inr ⟨g, off, e, h1, h2, .inr hr, h4⟩
      · exact .inl hr
    · unfold Tape.stL
      rw [HN.out, P1.out]
      simp only [Option.bind_some]
      unfold rowsOf
      rw [HN.out, if_pos HX.out]
  · have hbx : (x1 != (n : Int)) = true := by simpa using hx
    obtain ⟨hro, h0, h256⟩ : T.ro = false ∧ 0 ≤ x1 ∧ x1 < 256 := by
      rcases T.byt1 _ _ _ P1.out with h | h
      · exact absurd h hx
      · exact h
    have hrs : rs = [] := by
      rcases HR.out with h | h
      · rw [h] at hro; cases hro
      · exact h
    obtain ⟨m, rfl⟩ := Int.eq_ofNat_of_zero_le h0
    have HRS := Lib.hid hrs
    have HRO := Lib.hid hro
    have HX := Lib.hid hx
    obtain ⟨i0, hi, hz0, hz1, hz2⟩ := info_parts fwdP_info
    have HI9 := Lib.hid hi
    have HI0 := Lib.hid hz0
    have HI1 := Lib.hid hz1
    have HI2 := Lib.hid hz2
    have hm256 : m < 256 := by omega
    clear hi hz0 hz1 hz2 hx hro h0 hrs
    go_wp2_with (refine wpList_make_full _ rfl (.tmp 21) (.tmp 21) 24 rfl N 123 i0 _ 11 Tryz.underlying24 HI9.out HI0.out HI1.out   .i64 .i64 m m m rfl rfl rfl rfl (by rw [HI2.out]; omega) (by unfold maxLen; omega) (by have := SD.out; omega) ?_; intro w3 hown hg; have hk := (fun q (hq : q < v2.heap.size) => hg.block q hq (by intro h; cases h)); have OW := Lib.hid hown; have GR := Lib.hid hg; have HK := Lib.hid hk; have e3 : w3.cell? ⟨b, o, none⟩ = some (.slice A n c) := (by simp only [World.cell?, hk b (by have := SD.out; have := HB2.out; omega)]; have h := LD.out.cell; rw [HN.out] at h; exact h); have SA := Lib.hid (T.same v2 w3 bs1 DS.out.1 hg.os hg.tape hg.output hg.size hk); have f3 : w3.frozen? ⟨b, o, none⟩ = false := T.free HRO.out w3 b (SA.out.2 b (by have := SD.out; have := HB2.out; omega) OD.out) o; clear hown hg hk)
    have HG : Hid (v2.heap.size < w3.heap.size) := (OW.out.lt v2.heap.size rfl).2
    have hb2 : b < v2.heap.size := by have := SD.out; have := HB2.out; omega
    have OB3 := SA.out.2 b hb2 OD.out
    have ST3 := Lib.hid (T.store HRO.out w3 bs1 b o (.slice (some ⟨v2.heap.size, 0, none⟩) m m) SA.out.1 OB3)
    have OG3 : Hid (T.Own w3 v2.heap.size) := T.fresh v2 w3 bs1 _ DS.out.1 SA.out.1 HK.out (Nat.le_refl _) (fun i => OW.out.frozenAt i)
    have hnb : v2.heap.size ≠ b := by omega
    have LQ : (schP fwdP).length = 11 := rfl
    refine REST _ (some ⟨v2.heap.size, 0, none⟩) m (List.replicate m (zeros 11)) _ _ _ _ _ _ _ _ _ _ _ _ _ _ _ _ ST3.out.1 (by have := HG.out; simp [World.setCell]; omega) (ST3.out.2 b OB3) ?_ ?_ ?_
    · have hrl : (List.replicate m (zeros 11)).length = m := List.length_replicate
      refine ⟨?_, by rw [hrl]; exact Nat.le_refl _, by unfold maxLen; omega, fun h => by (cases h), fun r hr => by rw [List.eq_of_mem_replicate hr, zeros_len]; exact LQ.symm, .inr ⟨v2.heap.size, 0, rfl, ST3.out.2 _ OG3.out, by have := HG.out; simp [World.setCell]; omega, .inl (Nat.le_of_lt SD.out), fun j hj => ?_⟩⟩
      · rw [hrl, World.cell?_setCell_same _ _ _ e3]
      · rw [hrl] at hj
        have hz : rcd (List.replicate m (zeros 11)) j = zeros 11 := by rw [rcd_get' (by rw [hrl]; exact hj)]; simp
        rw [hz]
        exact range_keep1 (by rw [LQ]; exact made_range (S := schP fwdP) LQ rfl OW.out hj) (heap_setCell_other _ _ _ _ hnb)
    · refine ⟨?_, fun q hq ho => ST3.out.2 q (SA.out.2 q (Nat.lt_of_lt_of_le hq CD.out.size) (CD.out.own q hq ho)), fun q hq ho hne => ?_, fun i hi => ?_⟩
      · have := CD.out.size; have := GR.out.size; simp [World.setCell]; omega
      · have hqb : q ≠ b := by
          rcases hne with h | h
          · exact h
          · rw [HRO.out] at h; cases h
        rw [heap_setCell_other _ _ _ _ hqb, HK.out q (Nat.lt_of_lt_of_le hq CD.out.size)]
        exact CD.out.els q hq ho hne
      · rw [World.cell?_setCell_other _ _ _ _ (by intro h; simp only [Addr.mk.injEq] at h; omega)]
        simp only [World.cell?, HK.out b hb2]
        exact CD.out.cell i hi
    · unfold Tape.stL
      rw [HN.out, P1.out]
      simp only [Option.bind_some]
      unfold rowsOf
      rw [HN.out, if_neg HX.out, Int.toNat_natCast, LQ]
end Go.Proofs.YtffaddefnpkcgaaGreatDoor
namespace Go.Proofs.YtffaddefnpkcgaaGreatDoor
open Go.RowKit
set_option maxRecDepth 100000
attribute [local irreducible] ua da ba kk sw S8.run rt hs comp splice outB sha msg zeros win bvals vals cel seg
theorem run_mo (T : Tape) {o : Oper} {ev : Operand → Value} {w : World} {x a b : Operand} {ts : Array TypeId} {vb : Value} (ho : o.op = .call { callee := .value x, args := #[a, b], argTypes := ts }) (hx : ev x = .func (.methodOf 110 "drawbridge/tx.hash") #[] #[]) (ha : ev a = T.V) (hb : ev b = vb) :
    (execOp ev o).run Tryz.prog w = .ok (.enter T.Fh #[T.X, vb]) w := by
  have := T.callH vb w
  unfold execOp
  simp only [ho, resolve, Deferred.ofValue, invoke, hx, ha, hb, List.map_toArray, List.map_cons, List.map_nil, Sem.run_bind, Sem.run_pure, Result.andThen_ok]
  exact this
set_option maxHeartbeats 8000000 in
theorem lKey (T : Tape) : T.Lst 95 (.func (.methodOf 110 "drawbridge/tx.hash") #[] #[]) hshP := by
  intro w bs b o A c rs hI hb hO hL hro hs
  obtain ⟨n, hn⟩ : ∃ n, rs.length = n := ⟨_, rfl⟩
  have k0 : w.cell? ⟨b, o, none⟩ = some (.slice A n c) := by rw [← hn]; exact hL.cell
  have HN := Lib.hid hn
  have HI := Lib.hid hI
  have HB := Lib.hid hb
  have HO := Lib.hid hO
  have HL := Lib.hid hL
  have HR := Lib.hid hro
  have HS := Lib.hid hs
  have hnc : n ≤ c := by rw [← hn]; exact hL.le
  have hcm : c ≤ 9223372036854775807 := by have := hL.mx; unfold maxLen at this; omega
  clear hI hb hO hL hro hs hn
  go_enter Tryz.func95, Tryz.ntmps95
  go_upto_region 1 with (fail)
  rename_i K hKK
  obtain ⟨N, hN⟩ : ∃ N, w.heap.size = N := ⟨_, rfl⟩
  have NN := Lib.hid hN
  rw [hN]
  have SZ : Hid ((w.alloc (Obj.cells #[.int .i64 n] 3)).heap.size = N + 1) := by show _ = _; rw [World.size_alloc, NN.out]
  have BK : Hid (∀ q, q < N → (w.alloc (Obj.cells #[.int .i64 n] 3)).heap[q]? = w.heap[q]?) := fun q hq => Below.heap_alloc w _ q (by rw [NN.out]; exact hq)
  have SM := Lib.hid (T.same w (w.alloc (Obj.cells #[.int .i64 n] 3)) bs HI.out rfl rfl rfl (by simp) (fun q hq => Below.heap_alloc w _ q hq))
  have VN : Hid (T.Own (w.alloc (Obj.cells #[.int .i64 n] 3)) N) := T.fresh w _ bs N HI.out SM.out.1 (fun q hq => Below.heap_alloc w _ q hq) (by rw [NN.out]; exact Nat.le_refl _) (fun i => by rw [← NN.out]; exact frz_new w #[.int .i64 n] 3 i)
  have VC : Hid ((w.alloc (Obj.cells #[.int .i64 n] 3)).cell? ⟨N, 0, none⟩ = some (.int .i64 n)) := by rw [← NN.out]; exact cell_of_one (heap_alloc_last w _)
  have HB2 : Hid (b < N) := by rw [← NN.out]; exact HB.out
  have FL : Hid (T.stN 1 bs n = none → T.stL hshP bs rs = none) := fun h => by unfold Tape.stL; rw [HN.out, h]; rfl
  clear hN k0
  generalize (w.alloc (Obj.cells #[.int .i64 n] 3)) = v at *
  refine wp_region_lit ?_
  refine wpList_t (v := T.V) (by rfl) (by go_simp) ?_
  simp only [Act.put, ly4, ly5, ly6]
  refine wpList_enter (by rfl) (run_invN T (by rfl) (by rfl) (by rfl) (by rfl)) ((T.numC v bs N 0 n 1 (by decide) (by decide) SM.out.1 (by rw [SZ.out]; omega) VN.out VC.out (fun h => HS.out (FL.out h))).mono ?_)
  rintro e v1 (⟨p, hp, rfl, hI1, hC1, hc1⟩ | ⟨hn, hse, hJ⟩)
  rotate_left
  · unfold Short at hse
    subst hse
    refine ⟨rfl, ?_⟩
    rw [FL.out hn]
    exact ⟨rfl, hJ⟩
  simp only [Act.put, ly4, ly5, ly6]
  refine wpList_nil ?_
  show K _ _
  refine hKK _ _ ?_
  clear hKK K FL
  obtain ⟨bs1, x1⟩ := p
  dsimp only at hI1 hc1
  have I1 := Lib.hid hI1
  have P1 := Lib.hid hp
  have K0 : Hid (∀ q, q < N → T.Own w q → v1.heap[q]? = w.heap[q]? ∧ T.Own v1 q) := fun q hq ho => by
    have o1 := SM.out.2 q (by rw [NN.out]; exact hq) ho
    exact ⟨(hC1.els q (by rw [SZ.out]; omega) o1 (.inl (by omega))).trans (BK.out q hq), hC1.own q (by rw [SZ.out]; omega) o1⟩
  have S1 : Hid (N < v1.heap.size) := by show _ < _; have := hC1.size; rw [SZ.out] at this; omega
  have L1 : Hid (LstAt T (schP hshP) v1 b o rs 0 A c) := HL.out.keep (fun q hq ho => K0.out q (by rw [← NN.out]; exact hq) ho) (by rw [NN.out]; exact Nat.le_of_lt S1.out) HB.out HO.out
  have OB : Hid (T.Own v1 b) := (K0.out b HB2.out HO.out).2
  have NB : Hid (b ≠ N) := Nat.ne_of_lt HB2.out
  clear hI1 hp hC1 SM VN VC SZ BK HL
  have k0 : v1.cell? ⟨b, o, none⟩ = some (.slice A n c) := by rw [← HN.out]; exact L1.out.cell
  have k1 := hc1
  clear hc1
  go_upto_region 3 with (fail)
  go_quiet (fail)
  rename_i K1 hK1 K hKK
  have REST : ∀ (w2 : World) (A2 : Option Addr) (c2 : Nat) (rs2 : List (List Int)) (z8 z9 z10 z11 z12 z13 z14 z15 z16 z17 z18 z19 y0 y1 y2 y3 : Value), T.I w2 bs1 → b < w2.heap.size → T.Own w2 b → LstAt T (schP hshP) w2 b o rs2 N A2 c2 → Ch T.Own T.ro w w2 b o 1 → T.stL hshP bs rs = T.stR hshP bs1 rs2 →
      K1 { tmps := #[T.V, .pointer (some ⟨b, o, none⟩), .func (.methodOf 110 "drawbridge/tx.hash") #[] #[], undef, undef, undef, .pointer (some ⟨N, 0, none⟩), undef, z8, z9, z10, z11, z12, z13, z14, z15, z16, z17, z18, z19, y0, y1, y2, y3, undef, undef, undef, undef, undef, undef, undef, undef, undef, undef, undef, undef, undef, undef, undef, undef], defers := [] } w2 := by
    intro w2 A2 c2 rs2 z8 z9 z10 z11 z12 z13 z14 z15 z16 z17 z18 z19 y0 y1 y2 y3 hI2 hb2 hO2 hL2 hC2 hst
    refine hK1 _ _ ?_
    clear hK1 hKK K K1
    obtain ⟨n2, hn2⟩ : ∃ n2, rs2.length = n2 := ⟨_, rfl⟩
    obtain ⟨g, off, hrow⟩ := mids rs2 hL2.row
    have HN2 := Lib.hid hn2
    have I2 := Lib.hid hI2
    have HB3 := Lib.hid hb2
    have HO3 := Lib.hid hO2
    have L2 := Lib.hid hL2
    have C2 := Lib.hid hC2
    have ST := Lib.hid hst
    have RW := Lib.hid hrow
    have hnc2 : n2 ≤ c2 := by rw [← hn2]; exact hL2.le
    have hcm2 : c2 ≤ 9223372036854775807 := by have := hL2.mx; unfold maxLen at this; omega
    have k2 : w2.cell? ⟨b, o, none⟩ = some (.slice A2 n2 c2) := by rw [← hn2]; exact hL2.cell
    have M0 : Hid (MidR T hshP w2 g off bs1 rs2 0 w2 bs1 []) := ⟨rfl, rfl, hI2, Nat.le_refl _, fun _ _ h => h, fun _ _ _ _ => rfl, fun j hj => by omega, fun j _ hj => by
      rcases hrow with ⟨h, _⟩ | ⟨_, _, _, _, h⟩
      · rw [h] at hj; simp at hj
      · exact h j hj⟩
    clear hn2 hI2 hb2 hO2 hL2 hC2 hst hrow k0 k1
    have LQ : Hid ((schP hshP).length = 8) := rfl
    go_wp2
    clear k2
    go_loopw [28] (fun i wr => ∃ k : Nat, k ≤ n2 ∧ i = .int .i64 k ∧ ∃ bsk rsk, MidR T hshP w2 g off bs1 rs2 k wr bsk rsk) (fun i _ => n2 - (intOf i).toNat)
    case atStart => exact ⟨0, Nat.zero_le _, rfl, bs1, [], M0.out⟩
    case round =>
      obtain ⟨k, hk, rfl, bsk, rsk, hM⟩ := hrel
      have HM := Lib.hid hM
      clear hM
      by_cases hlt : k < n2
      · have hlt2 : k < rs2.length := by rw [HN2.out]; exact hlt
        have RW2 : Hid (A2 = some ⟨g, off, none⟩ ∧ T.Own w2 g ∧ g < w2.heap.size ∧ (N ≤ g ∨ T.ro = true)) := by
          rcases RW.out with ⟨h, _⟩ | ⟨h1, h2, h3, h4, _⟩
          · rw [h] at hlt2; simp at hlt2
          · exact ⟨h1, h2, h3, h4⟩
        have s0 : (0 : Int) ≤ (k : Int) := by omega
        have s1 : (k : Int) < (n2 : Int) := by omega
        have k2 : wr.cell? ⟨b, o, none⟩ = some (.slice (some ⟨g, off, none⟩) n2 c2) := by
          have e := L2.out.cell
          rw [HN2.out, RW2.out.1] at e
          rw [← e]
          simp only [World.cell?, HM.out.els b HB3.out HO3.out (by rcases RW2.out.2.2.2 with h | h <;> first | exact .inr h | exact .inl (by have := HB2.out; omega))]
        have FL : Hid (T.st hshP bsk (rcd rs2 k) = none → T.stL hshP bs rs = none) := fun h => by rw [ST.out]; exact HM.out.fail hlt2 h
        have LK : Hid ((rcd rs2 k).length = (schP hshP).length) := by show _ = _; rw [rcd_get' hlt2]; exact L2.out.len _ (List.getElem_mem hlt2)
        have RK : Hid (wr.rangeAt g (off + k * 8) (vals (schP hshP) (rcd rs2 k))) := by have h := HM.out.left k (Nat.le_refl _) hlt2; rw [LQ.out] at h; exact h
        have OK : Hid (T.Own wr g) := HM.out.own g RW2.out.2.2.1 RW2.out.2.1
        have GK : Hid (g < wr.heap.size) := Nat.lt_of_lt_of_le RW2.out.2.2.1 HM.out.size
        have HK := Lib.hid hlt2
        clear hlt2
        go_upto_region 7 with (fail)
        rename_i Ka hKa
        refine wp_region_lit ?_
        refine wpList_t (v := .func (.methodOf 110 "drawbridge/tx.hash") #[] #[]) (by rfl) (by go_simp) ?_
        simp only [Act.put, ly4, ly5, ly6]
        refine wpList_t (v := T.V) (by rfl) (by go_simp) ?_
        simp only [Act.put, ly4, ly5, ly6]
        refine wpList_t (v := .pointer (some ⟨b, o, none⟩)) (by rfl) (by go_simp) ?_
        simp only [Act.put, ly4, ly5, ly6]
        refine wpList_t (v := .pointer (some ⟨b, o, none⟩)) (by rfl) (by go_simp) ?_
        simp only [Act.put, ly4, ly5, ly6]
        refine wpList_t (v := .slice (some ⟨g, off, none⟩) n2 c2) (by rfl) (by go_simp) ?_
        simp only [Act.put, ly4, ly5, ly6]
        refine wpList_t (v := .int .i64 k) (by rfl) (by go_simp) ?_
        simp only [Act.put, ly4, ly5, ly6]
        refine wpList_t (v := .pointer (some ⟨g, off + k * 8, none⟩)) (by rfl) (by go_simp) ?_
        simp only [Act.put, ly4, ly5, ly6]
        refine wpList_enter (by rfl) (run_mo T (by rfl) (by rfl) (by rfl) (by rfl)) (((show T.Itm T.Fh T.X hshP from T.itm_hash) wr bsk g (off + k * 8) (rcd rs2 k) HM.out.I GK.out OK.out LK.out RK.out (fun h => HS.out (FL.out h))).mono ?_)
        intro e wn hpost
        cases hq : T.st hshP bsk (rcd rs2 k) with
        | none =>
          rw [hq] at hpost
          obtain ⟨hse, hJ⟩ := hpost
          unfold Short at hse
          subst hse
          refine ⟨rfl, ?_⟩
          rw [FL.out hq]
          exact ⟨rfl, hJ⟩
        | some pn =>
          rw [hq] at hpost
          obtain ⟨rfl, hI', hC', hr'⟩ := hpost
          have hM := HM.out
          have hll := L2.out.len
          have hkk := HK.out
          have hC2 : Ch T.Own T.ro wr wn g (off + k * (schP hshP).length) (schP hshP).length := by rw [LQ.out] at hC' ⊢; exact hC'
          have hr2 : wn.rangeAt g (off + k * (schP hshP).length) (vals (schP hshP) pn.2) := by rw [LQ.out]; exact hr'
          have hM1 := hM.next hll hkk hq hI' hC2 hr2
          have M1 := Lib.hid hM1
          simp only [Act.put, ly4, ly5, ly6]
          refine wpList_nil ?_
          show Ka _ _
          refine hKa _ _ ?_
          clear hKa Ka
          clear hM hll hkk hM1 hq hI' hC' hr' hC2 hr2 k2 FL LK RK OK GK HK
          go_wp2
          go_roundw
          case rel => exact ⟨k + 1, by omega, by simp, _, _, M1.out⟩
          case measure => simp [intOf]; omega
      · have hkn : k = n2 := by omega
        subst hkn
        have s1 : ¬ (k : Int) < (k : Int) := by omega
        go_wp2
        go_end0
        have hM := HM.out
        have e := hM.st
        rw [List.take_of_length_le (by rw [HN2.out]; exact Nat.le_refl _)] at e
        rw [ST.out, e]
        have hlr : rsk.length = rs2.length := by rw [hM.len, HN2.out]
        have hbk : wr.heap[b]? = w2.heap[b]? := hM.els b HB3.out HO3.out (by
          rcases RW.out with ⟨_, h⟩ | ⟨_, _, _, h, _⟩
          · exact .inl (by have := HB3.out; omega)
          · rcases h with h | h
            · exact .inl (by have := HB2.out; omega)
            · exact .inr h)
        refine ⟨rfl, hM.I, ?_, A2, c2, ?_⟩
        · refine ⟨Nat.le_trans C2.out.size hM.size, fun q hq ho => hM.own q (Nat.lt_of_lt_of_le hq C2.out.size) (C2.out.own q hq ho), fun q hq ho hne => ?_, fun i hi => ?_⟩
          · refine (hM.els q (Nat.lt_of_lt_of_le hq C2.out.size) (C2.out.own q hq ho) ?_).trans (C2.out.els q hq ho hne)
            rcases RW.out with ⟨_, h⟩ | ⟨_, _, _, h, _⟩
            · exact .inl (by have := C2.out.size; omega)
            · rcases h with h | h
              · exact .inl (by rw [NN.out] at hq; omega)
              · exact .inr h
          · rw [← C2.out.cell i hi]
            simp only [World.cell?, hbk]
        · have hl2 := L2.out
          refine ⟨by simp only [World.cell?, hbk]; rw [hlr]; exact hl2.cell, by rw [hlr]; exact hl2.le, hl2.mx, hl2.no, T.stR_all _ _ _ _ hl2.len e, ?_⟩
          rcases RW.out with ⟨h, _⟩ | ⟨h1, h2, h3, h4, _⟩
          · left
            exact List.eq_nil_of_length_eq_zero (by rw [hlr, h]; rfl)
          · right
            refine ⟨g, off, h1, hM.own g h3 h2, Nat.lt_of_lt_of_le h3 hM.size, ?_, fun j hj => hM.done j (by rw [hlr, HN2.out] at hj; exact hj)⟩
            rw [NN.out]
            exact h4
  have DS := Lib.hid (T.same v1 (v1.drewN nq) bs1 I1.out rfl rfl rfl (Nat.le_refl _) (fun _ _ => rfl))
  have CD : Hid (Ch T.Own T.ro w (v1.drewN nq) b o 1) := ⟨by rw [NN.out]; exact Nat.le_of_lt S1.out, fun q hq ho => DS.out.2 q (by rw [NN.out] at hq; have := S1.out; omega) (K0.out q (by rw [← NN.out]; exact hq) ho).2, fun q hq ho _ => (K0.out q (by rw [← NN.out]; exact hq) ho).1, fun i _ => by
    show v1.cell? _ = _
    simp only [World.cell?, (K0.out b HB2.out HO.out).1]⟩
  have SD : Hid (N < (v1.drewN nq).heap.size) := S1.out
  have OD : Hid (T.Own (v1.drewN nq) b) := DS.out.2 b (by have := S1.out; have := HB2.out; omega) OB.out
  have LD : Hid (LstAt T (schP hshP) (v1.drewN nq) b o rs 0 A c) := L1.out.keep (fun q hq ho => ⟨rfl, DS.out.2 q hq ho⟩) (Nat.le_refl _) (by have := S1.out; have := HB2.out; omega) OB.out
  have k2 : (v1.drewN nq).cell? ⟨N, 0, none⟩ = some (.int .i64 x1) := k1
  have k3 : (v1.drewN nq).cell? ⟨b, o, none⟩ = some (.slice A n c) := k0
  show K _ _
  refine hKK _ _ ?_
  clear hKK K k0 k1 K0 L1 S1 OB hK1
  generalize (v1.drewN nq) = v2 at *
  by_cases hx : x1 = (n : Int)
  · have hbx : (x1 != (n : Int)) = false := by simp [hx]
    have HX := Lib.hid hx
    clear hx
    go_wp2
    refine REST v2 A c rs _ _ _ _ _ _ _ _ _ _ _ _ _ _ _ _ DS.out.1 (by have := SD.out; have := HB2.out; omega) OD.out ?_ CD.out ?_
    · have h := LD.out
      refine ⟨h.cell, h.le, h.mx, h.no, h.len, ?_⟩
      rcases HR.out with hr | hr
      · rcases h.row with g | ⟨g, off, e, h1, h2, h3, h4⟩
        · exact .inl g
        · exact .inr ⟨g, off, e, h1, h2, .inr hr, h4⟩
      · exact .inl hr
    · unfold Tape.stL
      rw [HN.out, P1.out]
      simp only [Option.bind_some]
      unfold rowsOf
      rw [HN.out, if_pos HX.out]
  · have hbx : (x1 != (n : Int)) = true := by simpa using hx
    obtain ⟨hro, h0, h256⟩ : T.ro = false ∧ 0 ≤ x1 ∧ x1 < 256 := by
      rcases T.byt1 _ _ _ P1.out with h | h
      · exact absurd h hx
      · exact h
    have hrs : rs = [] := by
      rcases HR.out with h | h
      · rw [h] at hro; cases hro
      · exact h
    obtain ⟨m, rfl⟩ := Int.eq_ofNat_of_zero_le h0
    have HRS := Lib.hid hrs
    have HRO := Lib.hid hro
    have HX := Lib.hid hx
    obtain ⟨i0, hi, hz0, hz1, hz2⟩ := info_parts hshP_info
    have HI9 := Lib.hid hi
    have HI0 := Lib.hid hz0
    have HI1 := Lib.hid hz1
    have HI2 := Lib.hid hz2
    have hm256 : m < 256 := by omega
    clear hi hz0 hz1 hz2 hx hro h0 hrs
    go_wp2_with (refine wpList_make_full _ rfl (.tmp 21) (.tmp 21) 25 rfl N 29 i0 _ 8 Tryz.underlying25 HI9.out HI0.out HI1.out   .i64 .i64 m m m rfl rfl rfl rfl (by rw [HI2.out]; omega) (by unfold maxLen; omega) (by have := SD.out; omega) ?_; intro w3 hown hg; have hk := (fun q (hq : q < v2.heap.size) => hg.block q hq (by intro h; cases h)); have OW := Lib.hid hown; have GR := Lib.hid hg; have HK := Lib.hid hk; have e3 : w3.cell? ⟨b, o, none⟩ = some (.slice A n c) := (by simp only [World.cell?, hk b (by have := SD.out; have := HB2.out; omega)]; have h := LD.out.cell; rw [HN.out] at h; exact h); have SA := Lib.hid (T.same v2 w3 bs1 DS.out.1 hg.os hg.tape hg.output hg.size hk); have f3 : w3.frozen? ⟨b, o, none⟩ = false := T.free HRO.out w3 b (SA.out.2 b (by have := SD.out; have := HB2.out; omega) OD.out) o; clear hown hg hk)
    have HG : Hid (v2.heap.size < w3.heap.size) := (OW.out.lt v2.heap.size rfl).2
    have hb2 : b < v2.heap.size := by have := SD.out; have := HB2.out; omega
    have OB3 := SA.out.2 b hb2 OD.out
    have ST3 := Lib.hid (T.store HRO.out w3 bs1 b o (.slice (some ⟨v2.heap.size, 0, none⟩) m m) SA.out.1 OB3)
    have OG3 : Hid (T.Own w3 v2.heap.size) := T.fresh v2 w3 bs1 _ DS.out.1 SA.out.1 HK.out (Nat.le_refl _) (fun i => OW.out.frozenAt i)
    have hnb : v2.heap.size ≠ b := by omega
    have LQ : (schP hshP).length = 8 := rfl
    refine REST _ (some ⟨v2.heap.size, 0, none⟩) m (List.replicate m (zeros 8)) _ _ _ _ _ _ _ _ _ _ _ _ _ _ _ _ ST3.out.1 (by have := HG.out; simp [World.setCell]; omega) (ST3.out.2 b OB3) ?_ ?_ ?_
    · have hrl : (List.replicate m (zeros 8)).length = m := List.length_replicate
      refine ⟨?_, by rw [hrl]; exact Nat.le_refl _, by unfold maxLen; omega, fun h => by (cases h), fun r hr => by rw [List.eq_of_mem_replicate hr, zeros_len]; exact LQ.symm, .inr ⟨v2.heap.size, 0, rfl, ST3.out.2 _ OG3.out, by have := HG.out; simp [World.setCell]; omega, .inl (Nat.le_of_lt SD.out), fun j hj => ?_⟩⟩
      · rw [hrl, World.cell?_setCell_same _ _ _ e3]
      · rw [hrl] at hj
        have hz : rcd (List.replicate m (zeros 8)) j = zeros 8 := by rw [rcd_get' (by rw [hrl]; exact hj)]; simp
        rw [hz]
        exact range_keep1 (by rw [LQ]; exact made_range (S := schP hshP) LQ rfl OW.out hj) (heap_setCell_other _ _ _ _ hnb)
    · refine ⟨?_, fun q hq ho => ST3.out.2 q (SA.out.2 q (Nat.lt_of_lt_of_le hq CD.out.size) (CD.out.own q hq ho)), fun q hq ho hne => ?_, fun i hi => ?_⟩
      · have := CD.out.size; have := GR.out.size; simp [World.setCell]; omega
      · have hqb : q ≠ b := by
          rcases hne with h | h
          · exact h
          · rw [HRO.out] at h; cases h
        rw [heap_setCell_other _ _ _ _ hqb, HK.out q (Nat.lt_of_lt_of_le hq CD.out.size)]
        exact CD.out.els q hq ho hne
      · rw [World.cell?_setCell_other _ _ _ _ (by intro h; simp only [Addr.mk.injEq] at h; omega)]
        simp only [World.cell?, HK.out b hb2]
        exact CD.out.cell i hi
    · unfold Tape.stL
      rw [HN.out, P1.out]
      simp only [Option.bind_some]
      unfold rowsOf
      rw [HN.out, if_neg HX.out, Int.toNat_natCast, LQ]
end Go.Proofs.YtffaddefnpkcgaaGreatDoor

