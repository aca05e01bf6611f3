/-
  The key that has these marks.
-/
import Derived.Test.YtimfinachecadaaDoorL2
import Derived.Test.YtimfinachecadaaDoorH18
namespace Go.Proofs.YtimfinachecadaaDoor
open Go.RowKit
theorem src_at {w : World} {b t : Nat} {l : List Int} (h : BA w b t l) (o n : Nat) (hn : o + n ≤ l.length) : Src w (some ⟨b, o, none⟩) n ((l.drop o).take n) := by
  refine ⟨by rw [List.length_take, List.length_drop]; omega, .inr ⟨b, o, rfl, fun i hi => ?_⟩⟩
  rw [ba_cell h (o + i) (by omega)]
  simp [List.getD, hi]
theorem src_fst {w : World} {b t : Nat} {x y : List Int} (h : BA w b t (x ++ y)) (hx : x.length = 8) : Src w (some ⟨b, 0, none⟩) 8 x := by
  have := src_at h 0 8 (by rw [List.length_append]; omega)
  rw [List.drop_zero, List.take_append_of_le_length (by omega), List.take_of_length_le (by omega)] at this
  exact this
theorem src_snd {w : World} {b t : Nat} {x y : List Int} (h : BA w b t (x ++ y)) (hx : x.length = 8) (hy : y.length = 8) : Src w (some ⟨b, 8, none⟩) 8 y := by
  have := src_at h 8 8 (by rw [List.length_append]; omega)
  rw [← hx, List.drop_left, List.take_of_length_le (by omega)] at this
  rw [hx] at this
  exact this
attribute [local irreducible] ua da ba kk sw S8.run rt hs comp splice outB sha msg bvals cat at8 at16
set_option maxRecDepth 100000 in
set_option maxHeartbeats 4000000 in
theorem p22 (M : List Int) (w : World) (hk : Keys w) (hM : M.length = 256) :
    Calls Tryd.prog 22 #[.agg (ba M)] w fun e w' => e = .returned (.agg (ba (pubk M))) ∧ Below w.heap.size w w' := by
  obtain ⟨i0, hi, hz0, hz1, hz2⟩ := info_parts info5
  have HI := Lib.hid hi
  have HI0 := Lib.hid hz0
  have HI1 := Lib.hid hz1
  have HI2 := Lib.hid hz2
  clear hi hz0 hz1 hz2
  have h4 := z27
  have h5 := z16
  have HK := Lib.hid hk
  have HM := Lib.hid hM
  have HP : Hid (0 < w.heap.size) := keys_pos hk
  clear hk hM
  obtain ⟨S, hS⟩ : ∃ S, w.heap.size = S := ⟨_, rfl⟩
  have HS := Lib.hid hS
  have T0 : Hid (BA (w.alloc (Obj.cells (ba M) 46)) S 46 M) := by subst hS; exact heap_alloc_last w _
  have T1 : Hid (BA ((w.alloc (Obj.cells (ba M) 46)).alloc (Obj.cells (ba (zeros 8)) 23)) (S + 1) 23 (zeros 8)) := by
    show _ = _
    subst hS
    have := heap_alloc_last (w.alloc (Obj.cells (ba M) 46)) (Obj.cells (ba (zeros 8)) 23)
    simp only [World.size_alloc] at this
    exact this
  have T2 : Hid (BA ((w.alloc (Obj.cells (ba M) 46)).alloc (Obj.cells (ba (zeros 8)) 23)) S 46 M) := (Below.heap_alloc _ _ _ (lt_of_block T0.out)).trans T0.out
  have B0 : Hid (Below S w ((w.alloc (Obj.cells (ba M) 46)).alloc (Obj.cells (ba (zeros 8)) 23))) := by subst hS; exact ((Below.refl _ w).alloc (Nat.le_refl _) _).alloc (by simp) _
  go_enter Tryd.func22, Tryd.ntmps22
  go_wp2_with (first
    | (refine wpList_load_row rfl 46 (.tmp 1) rfl S rfl 46 (ba M) (0, 0) _ T2.out Tryd.underlying46 rfl (sz q46 (by rw [ba_size, HM.out])) ?_)
    | fail)
  have W0 : Hid (((w.alloc (Obj.cells (ba M) 46)).alloc (Obj.cells (ba (zeros 8)) 23)).heap.size = S + 2) := by show _ = _; subst hS; simp
  clear hS T0 T2
  generalize (w.alloc (Obj.cells (ba M) 46)).alloc (Obj.cells (ba (zeros 8)) 23) = w0 at *
  go_loopw [3, 7] (fun v c wr => ∃ (s l : Nat) (A : Option Addr) (cp : Nat), s ≤ 16 ∧ c = .int .i64 s ∧ v = .slice A l cp ∧ l = 16 * s ∧ wr.ownsRow (S + 2) 5 1 (.slice A l cp) l (bvals (cat (at8 M) (2 * s))) ∧ Below (S + 2) w0 wr) (fun _ c _ => 16 - (intOf c).toNat)
  case atStart => exact ⟨0, 0, none, 0, by omega, rfl, rfl, rfl, by rw [Nat.mul_zero, cat_zero]; exact own_nil _ _, Below.refl _ _⟩
  case round =>
    obtain ⟨s, l, A, cp, hs, rfl, rfl, hl, hown, hbel⟩ := hrel
    have OW := Lib.hid hown
    have BB := Lib.hid hbel
    have HL := Lib.hid hl
    clear hown hbel hl
    have ZS : Hid (S + 2 ≤ wr.heap.size) := by show _ ≤ _; have := BB.out.size; have := W0.out; omega
    by_cases hlt : s < 16
    · have hx := idx46 M s hlt
      obtain ⟨a, ha⟩ : ∃ a, at8 M (2 * s) = a := ⟨_, rfl⟩
      obtain ⟨b, hb⟩ : ∃ b, at8 M (2 * s + 1) = b := ⟨_, rfl⟩
      have LA : Hid (a.length = 8) := by rw [← ha]; exact at8_len (n := 32) HM.out (by omega)
      have LB : Hid (b.length = 8) := by rw [← hb]; exact at8_len (n := 32) HM.out (by omega)
      rw [at16_two, ha, hb] at hx
      have HC : Hid (cat (at8 M) (2 * (s + 1)) = cat (at8 M) (2 * s) ++ a ++ b) := by show _ = _; rw [show 2 * (s + 1) = 2 * s + 1 + 1 by omega, cat_succ, cat_succ, ha, hb]
      have s0 : (0 : Int) ≤ (s : Int) := by omega
      have s1 : (s : Int) < 16 := by omega
      have HS16 : Hid (s < 16) := hlt
      obtain ⟨Z, hZ⟩ : ∃ Z, wr.heap.size = Z := ⟨_, rfl⟩
      have O1 : Hid (BA (wr.alloc (Obj.cells (ba (zeros 16)) 44)) Z 44 (zeros 16)) := by show _ = _; rw [← hZ]; exact heap_alloc_last wr _
      have HZ := Lib.hid hZ
      have OL : Hid (∀ q, (Value.slice A l cp).ownBlock = some q → q < Z) := by rw [← hZ]; exact own_lt OW.out
      generalize cat (at8 M) (2 * s) = X at *
      clear ha hb hs hlt
      go_wp2_with (first
        | (refine wpList_store_rowTo rfl 44 (.tmp 5) (.tmp 9) rfl rfl Z (ba (a ++ b)) rfl rfl 44 (ba (zeros 16)) O1.out (sz q44 (by rw [ba_size, List.length_append, LA.out, LB.out])) (by rw [ba_size, ba_size, List.length_append, LA.out, LB.out]; rfl) (ba_one _) ?_
           have B3 : Hid (Below Z wr ((wr.alloc (Obj.cells (ba (zeros 16)) 44)).setRow Z (ba (a ++ b)))) := below_setRow ((Below.refl Z wr).alloc (by omega) _) (Nat.le_refl _) _
           have O3 : Hid (BA ((wr.alloc (Obj.cells (ba (zeros 16)) 44)).setRow Z (ba (a ++ b))) Z 44 (a ++ b)) := setRow_heap _ _ _ _ _ _ O1.out
           clear hZ O1
           generalize (wr.alloc (Obj.cells (ba (zeros 16)) 44)).setRow Z (ba (a ++ b)) = w3 at *
           have OA : Hid (w3.ownsRow (S + 2) 5 1 (.slice A l cp) l (bvals X)) := own_keep OW.out fun q hq => B3.out.block q (OL.out q hq)
           have Z3 : Hid (S + 2 ≤ w3.heap.size) := Nat.le_trans ZS.out (by have := B3.out.size; exact this)
           have LZ : Hid (Z < w3.heap.size) := lt_of_block O3.out
           have SA : Hid (Src w3 (some ⟨Z, 0, none⟩) 8 a) := src_fst O3.out LA.out
           have BS3 : Hid (Below (S + 2) w0 w3) := BB.out.trans (B3.out.mono (by have := ZS.out; have := HZ.out; omega)))
        | (refine wpList_app rfl (.tmp 10) (.tmp 12) 38 rfl i0 Tryd.underlying38 HI.out HI0.out HI1.out HI2.out (S + 2) l (.slice A l cp) X (by simp [Act.eval]) OA.out (some ⟨Z, 0, none⟩) 8 8 a (by simp [Act.eval]) SA.out (by intro h; cases h) (by unfold maxLen; have := HL.out; have := HS16.out; omega) (by have := HL.out; have := HS16.out; omega) Z3.out ?_
           intro A1 c1 w4 hown hg hob
           have OB := Lib.hid hown
           have B4 : Hid (Below (S + 2) w0 w4) := BS3.out.grown hg Z3.out (own_base OA.out)
           have O4 : Hid (BA w4 Z 44 (a ++ b)) := (hg.block Z LZ.out (fun e => by have := OL.out Z e.symm; omega)).trans O3.out
           have SB : Hid (Src w4 (some ⟨Z, 8, none⟩) 8 b) := src_snd O4.out LA.out LB.out
           have Z4 : Hid (S + 2 ≤ w4.heap.size) := Nat.le_trans Z3.out hg.size
           clear hown hg hob)
        | (refine wpList_app rfl (.tmp 14) (.tmp 16) 38 rfl i0 Tryd.underlying38 HI.out HI0.out HI1.out HI2.out (S + 2) (l + 8) (.slice A1 (l + 8) c1) (X ++ a) (by simp [Act.eval]) OB.out (some ⟨Z, 8, none⟩) 8 8 b (by simp [Act.eval]) SB.out (by intro h; cases h) (by unfold maxLen; have := HL.out; have := HS16.out; omega) (by have := HL.out; have := HS16.out; omega) Z4.out ?_
           intro A2 c2 w5 hown hg hob
           have OC := Lib.hid hown
           have B5 : Hid (Below (S + 2) w0 w5) := B4.out.grown hg Z4.out (own_base OB.out)
           clear hown hg hob)
        | fail)
      go_roundw
      case rel => exact ⟨s + 1, l + 8 + 8, A2, c2, by have := HS16.out; omega, by go_num, rfl, by have := HL.out; omega, by rw [HC.out]; exact OC.out, B5.out⟩
      case measure => have := HS16.out; simp [intOf]; omega
    · obtain rfl : s = 16 := by omega
      have HC : Hid (cat (at8 M) (2 * 16) = M) := cat_at8 32 M HM.out
      rw [HC.out] at OW
      have BW : Hid (Below S w wr) := B0.out.trans (BB.out.mono (by omega))
      have T3 : Hid (BA wr (S + 1) 23 (zeros 8)) := (BB.out.block _ (by omega)).trans T1.out
      obtain ⟨Z, hZ⟩ : ∃ Z, wr.heap.size = Z := ⟨_, rfl⟩
      obtain rfl : l = 256 := by have := HL.out; omega
      clear T1 W0 B0 BB
      go_wp2_with (first
        | (go_at_call 17
           have hG := heap_alloc_last wr (Obj.cells #[.slice A 256 cp] 38)
           have BG : Hid (Below S w (wr.alloc (Obj.cells #[.slice A 256 cp] 38))) := BW.out.alloc (by have := ZS.out; omega) _
           have T4 : Hid (BA (wr.alloc (Obj.cells #[.slice A 256 cp] 38)) (S + 1) 23 (zeros 8)) := (Below.heap_alloc wr _ (S + 1) (by have := ZS.out; omega)).trans T3.out
           have KG : Keys (wr.alloc (Obj.cells #[.slice A 256 cp] 38)) := keys_below HK.out BG.out (by rw [← HS.out]; exact HP.out)
           have hso := src_own OW.out
           have sx : Src (wr.alloc (Obj.cells #[.slice A 256 cp] 38)) A 256 M := hso.1.keep fun k hk => Below.heap_alloc wr _ k hk
           have C := c10 107 (some ⟨wr.heap.size, 0, none⟩) 1 1 _ _ _ _ _ KG (prtsN hG sx hso.2.1 hso.2.2.2) (by rw [msg_one]; exact part_len 107 256 M HM.out (by omega))
           rw [msg_one, hZ] at C
           refine C.mono ?_
           rintro e w1 ⟨rfl, hb⟩
           have T6 : Hid (BA w1 (S + 1) 23 (zeros 8)) := (hb.block _ (by simp; have := ZS.out; omega)).trans T4.out
           have B1 : Hid (Below S w w1) := BG.out.trans (hb.mono (by simp; have := ZS.out; omega))
           clear C KG sx hb hG hZ hso)
        | (refine wpList_store_rowTo rfl 23 (.tmp 2) (.tmp 21) rfl rfl (S + 1) (ba ((sha (partM 107 256 M)).take 8)) rfl rfl 23 (ba (zeros 8)) T6.out (sz s27 (by rw [ba_size, take8_len])) (by rw [ba_size, ba_size, take8_len]; rfl) (ba_one _) ?_)
        | fail)
      refine bodyPost_ret (v := .agg (ba ((sha (partM 107 256 M)).take 8))) (results_cell_row rfl _ _ (S + 1) 23 _ (0, 0) _ rfl (setRow_heap _ _ _ _ _ _ T6.out) Tryd.underlying23 rfl (sz s27 (by rw [ba_size, take8_len]))) rfl ⟨rfl, ?_⟩
      rw [HS.out]
      exact below_setRow B1.out (by omega) _
end Go.Proofs.YtimfinachecadaaDoor
