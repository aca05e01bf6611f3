/-
  The document's own key of a signature.
-/
import Derived.Test.YtmcmdpbdipgahaaLD
import Derived.Test.YtmcmdpbdipgahaaL14
import Derived.Deep.DeepCutAuto
namespace Go.Proofs.Ytmcmdpbdipgahaa
open Go.RowKit
theorem readF_at {m o h : List Int} {s b : Nat} (hb : bt m s = b) (hs : b = 0 ∨ b = 1) (F : List Int) : F ++ readF m o h (2 * s) ++ readF m o h (2 * s + 1) = F ++ (if b = 1 then at8 h s else mk (at8 o s)) ++ (if b = 1 then mk (at8 o s) else at8 h s) := by
  rcases hs with rfl | rfl
  · have e0 := readF_own (o := o) (h := h) hb (by omega)
    have e1 := readF_other (o := o) (h := h) (c := 1) hb (by omega) (by omega)
    rw [Nat.add_zero] at e0
    rw [e0, e1, if_neg (by omega), if_neg (by omega)]
  · have e0 := readF_own (o := o) (h := h) hb (by omega)
    have e1 := readF_other (o := o) (h := h) (c := 0) hb (by omega) (by omega)
    rw [Nat.add_zero] at e1
    rw [e0, e1, if_pos rfl, if_pos rfl]
theorem range8 {w : World} {b t o k : Nat} {l : List Int} (h : BA w b t l) (ho : o = k * 8) (hl : 8 * k + 8 ≤ l.length) : w.rangeAt b o (bvals (at8 l k)) := fun j v hv => by
  have hj : j < (at8 l k).length := by have := (List.getElem?_eq_some_iff.1 hv).1; simpa [bvals] using this
  have h8 : (at8 l k).length = 8 := by unfold at8; rw [List.length_take, List.length_drop]; omega
  have hj8 : j < 8 := by rw [h8] at hj; exact hj
  rw [ba_cell h (o + j) (by omega), ← hv]
  unfold at8
  simp [bvals, List.getD, ho, Nat.mul_comm, hj8]
  rw [List.getElem?_eq_getElem (by omega)]
  rfl
theorem pubk_eq (M : List Int) : (sha (partM 107 256 M)).take 8 = pubk M := rfl
theorem src_fst0 {w : World} {b t : Nat} {x : List Int} (h : BA w b t x) (hx : x.length = 8) : Src w (some ⟨b, 0, none⟩) 8 x := by
  have := src_ba h 8 (by omega)
  rw [List.take_of_length_le (by omega)] at this
  exact this
attribute [local irreducible] ua da ba kk sw S8.run rt hs comp splice outB sha msg bvals cat at8 at16 secM zeros sec keyF marksF mk pubk bt oF sF readF

set_option maxRecDepth 100000 in
set_option maxHeartbeats 8000000 in
theorem dRead (msg8 op sh : List Int) (w : World) (hm : msg8.length = 8) (hbt : Byt msg8) (hop : op.length = 128) (hsh : sh.length = 128) :
    Calls Try.prog 61 #[.agg (ba msg8), .agg (ba op), .agg (ba sh)] w fun e w' => e = .returned (.agg (ba (pubk (cat (readF msg8 op sh) 32)))) ∧ Below w.heap.size w w' := by
  obtain ⟨i0, hi, hz0, hz1, hz2⟩ := info_parts info5
  have HI := Lib.hid hi
  have HI0 := Lib.hid hz0
  have HI1 := Lib.hid hz1
  have HI2 := Lib.hid hz2
  clear hi hz0 hz1 hz2
  have h4 := z27
  have HML := Lib.hid hm
  have HMB := Lib.hid hbt
  have HOL := Lib.hid hop
  have HSL := Lib.hid hsh
  have HF : Hid (∀ n, n ≤ 32 → (cat (readF msg8 op sh) n).length = 8 * n) := fun n hn => cat_lenN _ n fun j hj => readF_len msg8 op sh hsh j (by omega)
  obtain ⟨S, hS⟩ : ∃ S, w.heap.size = S := ⟨_, rfl⟩
  have HS := Lib.hid hS
  have M0 := Lib.hid (ba_old (ba_old (ba_old (ba_new hS msg8 31) (Obj.cells (ba op) 95)) (Obj.cells (ba sh) 95)) (Obj.cells (ba (zeros 8)) 31))
  have O0 := Lib.hid (ba_old (ba_old (ba_new (size_al hS (Obj.cells (ba msg8) 31)) op 95) (Obj.cells (ba sh) 95)) (Obj.cells (ba (zeros 8)) 31))
  have H0 := Lib.hid (ba_old (ba_new (size_al (size_al hS (Obj.cells (ba msg8) 31)) (Obj.cells (ba op) 95)) sh 95) (Obj.cells (ba (zeros 8)) 31))
  have R0 := Lib.hid (ba_new (size_al (size_al (size_al hS (Obj.cells (ba msg8) 31)) (Obj.cells (ba op) 95)) (Obj.cells (ba sh) 95)) (zeros 8) 31)
  have W0 : Hid (((((w.alloc (Obj.cells (ba msg8) 31)).alloc (Obj.cells (ba op) 95)).alloc (Obj.cells (ba sh) 95)).alloc (Obj.cells (ba (zeros 8)) 31)).heap.size = S + 4) := by show _ = _; subst hS; simp
  have B0 : Hid (Below S w ((((w.alloc (Obj.cells (ba msg8) 31)).alloc (Obj.cells (ba op) 95)).alloc (Obj.cells (ba sh) 95)).alloc (Obj.cells (ba (zeros 8)) 31))) := by subst hS; exact ((((Below.refl _ w).alloc (Nat.le_refl _) _).alloc (by simp) _).alloc (by simp; omega) _).alloc (by simp; omega) _
  clear hm hbt hop hsh
  go_enter Try.func61, Try.ntmps61
  go_wp2_with fail
  clear hS
  generalize ((((w.alloc (Obj.cells (ba msg8) 31)).alloc (Obj.cells (ba op) 95)).alloc (Obj.cells (ba sh) 95)).alloc (Obj.cells (ba (zeros 8)) 31)) = w0 at *
  go_loopw [7, 8] (fun v c wr => ∃ (s l : Nat) (A : Option Addr) (cp : Nat), s ≤ 16 ∧ c = .int .i64 s ∧ v = .slice A l cp ∧ l = 16 * s ∧ wr.ownsRow (S + 4) 5 1 (.slice A l cp) l (bvals (cat (readF msg8 op sh) (2 * s))) ∧ Below (S + 4) w0 wr) (fun _ c _ => 16 - (intOf c).toNat)
  case atStart => exact ⟨0, 0, none, 0, by omega, rfl, rfl, rfl, by rw [Nat.mul_zero, cat_zero]; exact own_nil _ _, Below.refl _ _⟩
  case round =>
    obtain ⟨s, l, A, cp, hs, rfl, rfl, hl, hown, hbel⟩ := hrel
    have OW := Lib.hid hown
    have BB := Lib.hid hbel
    have HL := Lib.hid hl
    clear hown hbel hl
    have ZS : Hid (S + 4 ≤ wr.heap.size) := by show _ ≤ _; have := BB.out.size; have := W0.out; omega
    by_cases hlt : s < 16
    · have s0 : (0 : Int) ≤ (s : Int) := by omega
      have s1 : (s : Int) < 16 := by omega
      have HS16 : Hid (s < 16) := hlt
      obtain ⟨b, hb⟩ : ∃ b, bt msg8 s = b := ⟨_, rfl⟩
      have hb2 : b = 0 ∨ b = 1 := by rw [← hb]; exact bt_two _ _
      obtain ⟨a, ha⟩ : ∃ a, at8 op s = a := ⟨_, rfl⟩
      obtain ⟨d, hd⟩ : ∃ d, at8 sh s = d := ⟨_, rfl⟩
      obtain ⟨n, hn⟩ : ∃ n, mk a = n := ⟨_, rfl⟩
      have HBB : Hid (b = 0 ∨ b = 1) := hb2
      have LA : Hid (a.length = 8) := by rw [← ha]; exact at8_len (n := 16) HOL.out hlt
      have LD : Hid (d.length = 8) := by rw [← hd]; exact at8_len (n := 16) HSL.out hlt
      have LN : Hid (n.length = 8) := by rw [← hn]; exact mk_len _
      have HC : Hid (cat (readF msg8 op sh) (2 * (s + 1)) = cat (readF msg8 op sh) (2 * s) ++ (if b = 1 then d else n) ++ (if b = 1 then n else d)) := by
        show _ = _
        rw [show 2 * (s + 1) = 2 * s + 1 + 1 by omega, cat_succ, cat_succ, readF_at hb hb2, ha, hd, hn]
      have C21 : Hid (∀ w', Calls Try.prog 66 #[.agg (ba msg8), .int .i64 s] w' fun e w'' => e = .returned (.int .i64 b) ∧ Below w'.heap.size w' w'') := fun w' => by
        have := dBit msg8 s w' HML.out HMB.out HS16.out
        rw [hb] at this
        exact this
      have C15 : Hid (∀ w', Calls Try.prog 67 #[.agg (bvals a).toArray] w' fun e w'' => e = .returned (.agg (bvals n).toArray) ∧ Below w'.heap.size w' w'') := fun w' => by
        have := dMark a w' LA.out
        rw [hn, ba_bvals a, ba_bvals n] at this
        exact this
      obtain ⟨N, hN⟩ : ∃ N, wr.heap.size = N := ⟨_, rfl⟩
      have LQ : Hid (S + 4 ≤ N) := by show _ ≤ _; rw [← hN]; exact ZS.out
      have OR : Hid (BA wr (S + 1) 95 op) := (BB.out.block _ (by omega)).trans O0.out
      have HR : Hid (BA wr (S + 2) 95 sh) := (BB.out.block _ (by omega)).trans H0.out
      have MR : Hid (BA wr S 31 msg8) := (BB.out.block _ (by omega)).trans M0.out
      have RA : Hid (∀ w' : World, w'.heap[S + 1]? = wr.heap[S + 1]? → w'.rangeAt (S + 1) (s * 8) (bvals a)) := fun w' h => by rw [← ha]; exact range8 (h.trans OR.out) rfl (by rw [HOL.out]; have := HS16.out; omega)
      have RD : Hid (∀ w' : World, w'.heap[S + 2]? = wr.heap[S + 2]? → w'.rangeAt (S + 2) (s * 8) (bvals d)) := fun w' h => by rw [← hd]; exact range8 (h.trans HR.out) rfl (by rw [HSL.out]; have := HS16.out; omega)
      have hia : (Try.prog.info? 31).map (·.size) = some (bvals a).length := by rw [s27]; simp [bvals, LA.out]
      have hid : (Try.prog.info? 31).map (·.size) = some (bvals d).length := by rw [s27]; simp [bvals, LD.out]
      have ida : (Try.prog.info? 31).map (·.size) = some d.length := by rw [s27, LD.out]
      have ina : (Try.prog.info? 31).map (·.size) = some n.length := by rw [s27, LN.out]
      have z8n : (zeros 8).length = n.length := by rw [zeros_len, LN.out]
      have z8d : (zeros 8).length = d.length := by rw [zeros_len, LD.out]
      have W0N : Hid (wr.heap.size = N) := hN
      generalize cat (readF msg8 op sh) (2 * s) = X at *
      clear hb hb2 ha hd hn hlt hs
      go_upto_region 5 with (fail)
      go_cut [9, 10] (fun p q wx => ∃ G H : Nat, p = .pointer (some ⟨G, 0, none⟩) ∧ q = .pointer (some ⟨H, 0, none⟩) ∧ G ≠ H ∧ N ≤ G ∧ N ≤ H ∧ BA wx G 31 n ∧ BA wx H 31 d ∧ Below N wr wx)
      case first =>
        refine wp_region_held_drew (S := (fun w' : World => ∀ q, q < N → w'.heap[q]? = wr.heap[q]?)) (by kernel_rfl) (by exact fun _ _ => rfl) (fun hHeld => ?_)
        refine wpAnyH_take (i := 0) (v := ?_) rfl (by kernel_rfl) (by kernel_rfl) (by kernel_rfl) (fun _ _ _ h => h) (Or.inl ⟨by rfl, ?_⟩) (by assumption) ?_
        rotate_left
        · (intro w hSw; (try dsimp only at hSw); go_simp; try with_reducible rfl)
        simp only [Act.put, List.getElem_toArray, List.getElem_cons_zero, List.setIfInBounds_toArray, List.set_cons_zero, List.set_cons_succ]
        refine wpAnyH_take (i := 1) (v := ?_) rfl (by kernel_rfl) (by kernel_rfl) (by kernel_rfl) (fun _ _ _ h => h) (Or.inl ⟨by rfl, ?_⟩) (by assumption) ?_
        rotate_left
        · (intro w hSw; (try dsimp only at hSw); go_simp; try with_reducible rfl)
        simp only [Act.put, List.getElem_toArray, List.getElem_cons_succ, List.getElem_cons_zero, List.setIfInBounds_toArray, List.set_cons_zero, List.set_cons_succ]
        refine wpAnyH_take (i := 2) rfl (by kernel_rfl) (by kernel_rfl) (by kernel_rfl) (fun _ _ _ h => h) (yieldsIf_load_mid (by rfl) 31 (.tmp 16) rfl (S + 1) (s * 8) rfl (bvals a) _ (fun w h => RA.out w (h _ (by have := LQ.out; omega))) Try.underlying31 rfl hia) (by assumption) ?_
        simp only [Act.put, List.getElem_toArray, List.getElem_cons_succ, List.getElem_cons_zero, List.setIfInBounds_toArray, List.set_cons_zero, List.set_cons_succ]
        refine wpAnyH_take (i := 4) (v := ?_) rfl (by kernel_rfl) (by kernel_rfl) (by kernel_rfl) (fun _ _ _ h => h) (Or.inl ⟨by rfl, ?_⟩) (by assumption) ?_
        rotate_left
        · (intro w hSw; (try dsimp only at hSw); go_simp; try with_reducible rfl)
        simp only [Act.put, List.getElem_toArray, List.getElem_cons_succ, List.getElem_cons_zero, List.setIfInBounds_toArray, List.set_cons_zero, List.set_cons_succ]
        refine wpAnyH_take (i := 5) (v := ?_) rfl (by kernel_rfl) (by kernel_rfl) (by kernel_rfl) (fun _ _ _ h => h) (Or.inl ⟨by rfl, ?_⟩) (by assumption) ?_
        rotate_left
        · (intro w hSw; (try dsimp only at hSw); go_simp; try with_reducible rfl)
        simp only [Act.put, List.getElem_toArray, List.getElem_cons_succ, List.getElem_cons_zero, List.setIfInBounds_toArray, List.set_cons_zero, List.set_cons_succ]
        refine wpAnyH_take (i := 6) rfl (by kernel_rfl) (by kernel_rfl) (by kernel_rfl) (fun _ _ _ h => h) (yieldsIf_load_mid (by rfl) 31 (.tmp 20) rfl (S + 2) (s * 8) rfl (bvals d) _ (fun w h => RD.out w (h _ (by have := LQ.out; omega))) Try.underlying31 rfl hid) (by assumption) ?_
        simp only [Act.put, List.getElem_toArray, List.getElem_cons_succ, List.getElem_cons_zero, List.setIfInBounds_toArray, List.set_cons_zero, List.set_cons_succ]
        have X0 : Hid (Below N wr wr.drew) := (Below.refl _ _).drew
        refine wpAnyH_ready (rs := [3, 7, 8]) (by kernel_rfl) (by simp) ?_
        refine AllReadyH.cons rfl (fun K hK => ?_) (AllReadyH.cons rfl (fun K hK => ?_) (AllReadyH.cons rfl (fun K hK => ?_) AllReadyH.nil))
        · go_simp
          go_at_call 67
          refine (C15.out _).mono ?_
          rintro e v1 ⟨rfl, hb⟩
          have X1 : Hid (Below N wr v1) := X0.out.trans (hb.mono (Nat.le_trans (Nat.le_of_eq W0N.out.symm) X0.out.size))
          clear hb
          (try go_wp2_with fail)
          refine hK.out _ _ (by exact fun q hq => X1.out.block q hq) (fun hHeld => ?_)
          clear hK K
          refine wpAnyH_ready (rs := [7, 8]) (by kernel_rfl) (by simp) ?_
          refine AllReadyH.cons rfl (fun K hK => ?_) (AllReadyH.cons rfl (fun K hK => ?_) AllReadyH.nil)
          · refine step_alloc rfl rfl ?_
            obtain ⟨G, hG⟩ : ∃ q, v1.heap.size = q := ⟨_, rfl⟩
            rw [hG]
            have GB2 := Lib.hid (ba_new hG (zeros 8) 31)
            have GN : Hid (N ≤ G) := by show _ ≤ _; rw [← hG]; exact Nat.le_trans (Nat.le_of_eq W0N.out.symm) X1.out.size
            have X2 : Hid (Below N wr (v1.alloc (Obj.cells (ba (zeros 8)) 31))) := X1.out.alloc (by rw [hG]; exact GN.out) _
            clear hG
            generalize v1.alloc (Obj.cells (ba (zeros 8)) 31) = v2 at *
            refine hK.out _ _ (by exact fun q hq => X2.out.block q hq) (fun hHeld => ?_)
            clear hK K
            simp only [Act.put, List.getElem_toArray, List.getElem_cons_succ, List.getElem_cons_zero, List.setIfInBounds_toArray, List.set_cons_zero, List.set_cons_succ]
            refine wpAnyH_ready (rs := [8]) (by kernel_rfl) (by simp) ?_
            refine AllReadyH.cons rfl (fun K hK => ?_) AllReadyH.nil
            · refine step_alloc rfl rfl ?_
              obtain ⟨H, hH⟩ : ∃ q, v2.heap.size = q := ⟨_, rfl⟩
              rw [hH]
              have HB3 := Lib.hid (ba_new hH (zeros 8) 31)
              have HN : Hid (N ≤ H) := by show _ ≤ _; rw [← hH]; exact Nat.le_trans (Nat.le_of_eq W0N.out.symm) X2.out.size
              have X3 : Hid (Below N wr (v2.alloc (Obj.cells (ba (zeros 8)) 31))) := X2.out.alloc (by rw [hH]; exact HN.out) _
              have GB3 := Lib.hid (ba_old GB2.out (Obj.cells (ba (zeros 8)) 31))
              have NE : Hid (G < H) := by show _ < _; rw [← hH]; exact lt_of_block GB2.out
              clear hH
              generalize v2.alloc (Obj.cells (ba (zeros 8)) 31) = v3 at *
              refine hK.out _ _ (by exact fun q hq => X3.out.block q hq) (fun hHeld => ?_)
              clear hK K
              simp only [Act.put, List.getElem_toArray, List.getElem_cons_succ, List.getElem_cons_zero, List.setIfInBounds_toArray, List.set_cons_zero, List.set_cons_succ]
              refine wpAnyH_ready (rs := [9]) (by kernel_rfl) (by simp) ?_
              refine AllReadyH.cons rfl (fun K hK => ?_) AllReadyH.nil
              refine step_row rfl 31 (.tmp 9) (.tmp 18) rfl G 31 (zeros 8) n rfl rfl GB3.out z8n ina ?_
              have GC := Lib.hid (row_set (l := n) GB3.out z8n)
              have HC1 : Hid (BA (v3.setCells G 0 (bvals n)) H 31 (zeros 8)) := (heap_setCells (by have := NE.out; omega) _ _ _).trans HB3.out
              have XC : Hid (Below N wr (v3.setCells G 0 (bvals n))) := below_setCells GN.out _ _ X3.out
              generalize v3.setCells G 0 (bvals n) = u at *
              refine hK.out _ _ (by exact fun q hq => XC.out.block q hq) (fun hHeld => ?_)
              clear hK K
              simp only [Act.put, List.getElem_toArray, List.getElem_cons_succ, List.getElem_cons_zero]
              refine wpAnyH_ready (rs := [10]) (by kernel_rfl) (by simp) ?_
              refine AllReadyH.cons rfl (fun K hK => ?_) AllReadyH.nil
              refine step_row rfl 31 (.tmp 10) (.tmp 21) rfl H 31 (zeros 8) d rfl rfl HC1.out z8d ida ?_
              have HE := Lib.hid (row_set (l := d) HC1.out z8d)
              have GE : Hid (BA (u.setCells H 0 (bvals d)) G 31 n) := (heap_setCells (by have := NE.out; omega) _ _ _).trans GC.out
              have XE : Hid (Below N wr (u.setCells H 0 (bvals d))) := below_setCells HN.out _ _ XC.out
              refine hK.out _ _ (by exact fun q hq => XE.out.block q hq) (fun hHeld => ?_)
              clear hK K
              simp only [Act.put, List.getElem_toArray, List.getElem_cons_succ, List.getElem_cons_zero]
              refine wpAnyH_done (by kernel_rfl) ?_ _
              go_wp2_with fail
              go_meet
              exact ⟨G, H, rfl, rfl, by have := NE.out; omega, GN.out, HN.out, GE.out, HE.out, XE.out⟩
          · refine step_alloc rfl rfl ?_
            obtain ⟨H, hH⟩ : ∃ q, v1.heap.size = q := ⟨_, rfl⟩
            rw [hH]
            have HB2 := Lib.hid (ba_new hH (zeros 8) 31)
            have HN : Hid (N ≤ H) := by show _ ≤ _; rw [← hH]; exact Nat.le_trans (Nat.le_of_eq W0N.out.symm) X1.out.size
            have X2 : Hid (Below N wr (v1.alloc (Obj.cells (ba (zeros 8)) 31))) := X1.out.alloc (by rw [hH]; exact HN.out) _
            clear hH
            generalize v1.alloc (Obj.cells (ba (zeros 8)) 31) = v2 at *
            refine hK.out _ _ (by exact fun q hq => X2.out.block q hq) (fun hHeld => ?_)
            clear hK K
            simp only [Act.put, List.getElem_toArray, List.getElem_cons_succ, List.getElem_cons_zero, List.setIfInBounds_toArray, List.set_cons_zero, List.set_cons_succ]
            refine wpAnyH_ready (rs := [7]) (by kernel_rfl) (by simp) ?_
            refine AllReadyH.cons rfl (fun K hK => ?_) AllReadyH.nil
            · refine step_alloc rfl rfl ?_
              obtain ⟨G, hG⟩ : ∃ q, v2.heap.size = q := ⟨_, rfl⟩
              rw [hG]
              have GB3 := Lib.hid (ba_new hG (zeros 8) 31)
              have GN : Hid (N ≤ G) := by show _ ≤ _; rw [← hG]; exact Nat.le_trans (Nat.le_of_eq W0N.out.symm) X2.out.size
              have X3 : Hid (Below N wr (v2.alloc (Obj.cells (ba (zeros 8)) 31))) := X2.out.alloc (by rw [hG]; exact GN.out) _
              have HB3 := Lib.hid (ba_old HB2.out (Obj.cells (ba (zeros 8)) 31))
              have NE : Hid (H < G) := by show _ < _; rw [← hG]; exact lt_of_block HB2.out
              clear hG
              generalize v2.alloc (Obj.cells (ba (zeros 8)) 31) = v3 at *
              refine hK.out _ _ (by exact fun q hq => X3.out.block q hq) (fun hHeld => ?_)
              clear hK K
              simp only [Act.put, List.getElem_toArray, List.getElem_cons_succ, List.getElem_cons_zero, List.setIfInBounds_toArray, List.set_cons_zero, List.set_cons_succ]
              refine wpAnyH_ready (rs := [9]) (by kernel_rfl) (by simp) ?_
              refine AllReadyH.cons rfl (fun K hK => ?_) AllReadyH.nil
              refine step_row rfl 31 (.tmp 9) (.tmp 18) rfl G 31 (zeros 8) n rfl rfl GB3.out z8n ina ?_
              have GC := Lib.hid (row_set (l := n) GB3.out z8n)
              have HC1 : Hid (BA (v3.setCells G 0 (bvals n)) H 31 (zeros 8)) := (heap_setCells (by have := NE.out; omega) _ _ _).trans HB3.out
              have XC : Hid (Below N wr (v3.setCells G 0 (bvals n))) := below_setCells GN.out _ _ X3.out
              generalize v3.setCells G 0 (bvals n) = u at *
              refine hK.out _ _ (by exact fun q hq => XC.out.block q hq) (fun hHeld => ?_)
              clear hK K
              simp only [Act.put, List.getElem_toArray, List.getElem_cons_succ, List.getElem_cons_zero]
              refine wpAnyH_ready (rs := [10]) (by kernel_rfl) (by simp) ?_
              refine AllReadyH.cons rfl (fun K hK => ?_) AllReadyH.nil
              refine step_row rfl 31 (.tmp 10) (.tmp 21) rfl H 31 (zeros 8) d rfl rfl HC1.out z8d ida ?_
              have HE := Lib.hid (row_set (l := d) HC1.out z8d)
              have GE : Hid (BA (u.setCells H 0 (bvals d)) G 31 n) := (heap_setCells (by have := NE.out; omega) _ _ _).trans GC.out
              have XE : Hid (Below N wr (u.setCells H 0 (bvals d))) := below_setCells HN.out _ _ XC.out
              refine hK.out _ _ (by exact fun q hq => XE.out.block q hq) (fun hHeld => ?_)
              clear hK K
              simp only [Act.put, List.getElem_toArray, List.getElem_cons_succ, List.getElem_cons_zero]
              refine wpAnyH_done (by kernel_rfl) ?_ _
              go_wp2_with fail
              go_meet
              exact ⟨G, H, rfl, rfl, by have := NE.out; omega, GN.out, HN.out, GE.out, HE.out, XE.out⟩
        · refine step_alloc rfl rfl ?_
          obtain ⟨G, hG⟩ : ∃ q, wr.drew.heap.size = q := ⟨_, rfl⟩
          rw [hG]
          have GB1 := Lib.hid (ba_new hG (zeros 8) 31)
          have GN : Hid (N ≤ G) := by show _ ≤ _; rw [← hG]; exact Nat.le_trans (Nat.le_of_eq W0N.out.symm) X0.out.size
          have X1 : Hid (Below N wr (wr.drew.alloc (Obj.cells (ba (zeros 8)) 31))) := X0.out.alloc (by rw [hG]; exact GN.out) _
          clear hG
          generalize wr.drew.alloc (Obj.cells (ba (zeros 8)) 31) = v1 at *
          refine hK.out _ _ (by exact fun q hq => X1.out.block q hq) (fun hHeld => ?_)
          clear hK K
          simp only [Act.put, List.getElem_toArray, List.getElem_cons_succ, List.getElem_cons_zero, List.setIfInBounds_toArray, List.set_cons_zero, List.set_cons_succ]
          refine wpAnyH_ready (rs := [3, 8]) (by kernel_rfl) (by simp) ?_
          refine AllReadyH.cons rfl (fun K hK => ?_) (AllReadyH.cons rfl (fun K hK => ?_) AllReadyH.nil)
          · go_simp
            go_at_call 67
            refine (C15.out _).mono ?_
            rintro e v2 ⟨rfl, hb⟩
            have X2 : Hid (Below N wr v2) := X1.out.trans (hb.mono (Nat.le_trans (Nat.le_of_eq W0N.out.symm) X1.out.size))
            have GB2 : Hid (BA v2 G 31 (zeros 8)) := (hb.block _ (lt_of_block GB1.out)).trans GB1.out
            clear hb
            (try go_wp2_with fail)
            refine hK.out _ _ (by exact fun q hq => X2.out.block q hq) (fun hHeld => ?_)
            clear hK K
            refine wpAnyH_ready (rs := [8]) (by kernel_rfl) (by simp) ?_
            refine AllReadyH.cons rfl (fun K hK => ?_) AllReadyH.nil
            · refine step_alloc rfl rfl ?_
              obtain ⟨H, hH⟩ : ∃ q, v2.heap.size = q := ⟨_, rfl⟩
              rw [hH]
              have HB3 := Lib.hid (ba_new hH (zeros 8) 31)
              have HN : Hid (N ≤ H) := by show _ ≤ _; rw [← hH]; exact Nat.le_trans (Nat.le_of_eq W0N.out.symm) X2.out.size
              have X3 : Hid (Below N wr (v2.alloc (Obj.cells (ba (zeros 8)) 31))) := X2.out.alloc (by rw [hH]; exact HN.out) _
              have GB3 := Lib.hid (ba_old GB2.out (Obj.cells (ba (zeros 8)) 31))
              have NE : Hid (G < H) := by show _ < _; rw [← hH]; exact lt_of_block GB2.out
              clear hH
              generalize v2.alloc (Obj.cells (ba (zeros 8)) 31) = v3 at *
              refine hK.out _ _ (by exact fun q hq => X3.out.block q hq) (fun hHeld => ?_)
              clear hK K
              simp only [Act.put, List.getElem_toArray, List.getElem_cons_succ, List.getElem_cons_zero, List.setIfInBounds_toArray, List.set_cons_zero, List.set_cons_succ]
              refine wpAnyH_ready (rs := [9]) (by kernel_rfl) (by simp) ?_
              refine AllReadyH.cons rfl (fun K hK => ?_) AllReadyH.nil
              refine step_row rfl 31 (.tmp 9) (.tmp 18) rfl G 31 (zeros 8) n rfl rfl GB3.out z8n ina ?_
              have GC := Lib.hid (row_set (l := n) GB3.out z8n)
              have HC1 : Hid (BA (v3.setCells G 0 (bvals n)) H 31 (zeros 8)) := (heap_setCells (by have := NE.out; omega) _ _ _).trans HB3.out
              have XC : Hid (Below N wr (v3.setCells G 0 (bvals n))) := below_setCells GN.out _ _ X3.out
              generalize v3.setCells G 0 (bvals n) = u at *
              refine hK.out _ _ (by exact fun q hq => XC.out.block q hq) (fun hHeld => ?_)
              clear hK K
              simp only [Act.put, List.getElem_toArray, List.getElem_cons_succ, List.getElem_cons_zero]
              refine wpAnyH_ready (rs := [10]) (by kernel_rfl) (by simp) ?_
              refine AllReadyH.cons rfl (fun K hK => ?_) AllReadyH.nil
              refine step_row rfl 31 (.tmp 10) (.tmp 21) rfl H 31 (zeros 8) d rfl rfl HC1.out z8d ida ?_
              have HE := Lib.hid (row_set (l := d) HC1.out z8d)
              have GE : Hid (BA (u.setCells H 0 (bvals d)) G 31 n) := (heap_setCells (by have := NE.out; omega) _ _ _).trans GC.out
              have XE : Hid (Below N wr (u.setCells H 0 (bvals d))) := below_setCells HN.out _ _ XC.out
              refine hK.out _ _ (by exact fun q hq => XE.out.block q hq) (fun hHeld => ?_)
              clear hK K
              simp only [Act.put, List.getElem_toArray, List.getElem_cons_succ, List.getElem_cons_zero]
              refine wpAnyH_done (by kernel_rfl) ?_ _
              go_wp2_with fail
              go_meet
              exact ⟨G, H, rfl, rfl, by have := NE.out; omega, GN.out, HN.out, GE.out, HE.out, XE.out⟩
          · refine step_alloc rfl rfl ?_
            obtain ⟨H, hH⟩ : ∃ q, v1.heap.size = q := ⟨_, rfl⟩
            rw [hH]
            have HB2 := Lib.hid (ba_new hH (zeros 8) 31)
            have HN : Hid (N ≤ H) := by show _ ≤ _; rw [← hH]; exact Nat.le_trans (Nat.le_of_eq W0N.out.symm) X1.out.size
            have X2 : Hid (Below N wr (v1.alloc (Obj.cells (ba (zeros 8)) 31))) := X1.out.alloc (by rw [hH]; exact HN.out) _
            have GB2 := Lib.hid (ba_old GB1.out (Obj.cells (ba (zeros 8)) 31))
            have NE : Hid (G < H) := by show _ < _; rw [← hH]; exact lt_of_block GB1.out
            clear hH
            generalize v1.alloc (Obj.cells (ba (zeros 8)) 31) = v2 at *
            refine hK.out _ _ (by exact fun q hq => X2.out.block q hq) (fun hHeld => ?_)
            clear hK K
            simp only [Act.put, List.getElem_toArray, List.getElem_cons_succ, List.getElem_cons_zero, List.setIfInBounds_toArray, List.set_cons_zero, List.set_cons_succ]
            refine wpAnyH_ready (rs := [3]) (by kernel_rfl) (by simp) ?_
            refine AllReadyH.cons rfl (fun K hK => ?_) AllReadyH.nil
            · go_simp
              go_at_call 67
              refine (C15.out _).mono ?_
              rintro e v3 ⟨rfl, hb⟩
              have X3 : Hid (Below N wr v3) := X2.out.trans (hb.mono (Nat.le_trans (Nat.le_of_eq W0N.out.symm) X2.out.size))
              have GB3 : Hid (BA v3 G 31 (zeros 8)) := (hb.block _ (lt_of_block GB2.out)).trans GB2.out
              have HB3 : Hid (BA v3 H 31 (zeros 8)) := (hb.block _ (lt_of_block HB2.out)).trans HB2.out
              clear hb
              (try go_wp2_with fail)
              refine hK.out _ _ (by exact fun q hq => X3.out.block q hq) (fun hHeld => ?_)
              clear hK K
              refine wpAnyH_ready (rs := [9]) (by kernel_rfl) (by simp) ?_
              refine AllReadyH.cons rfl (fun K hK => ?_) AllReadyH.nil
              refine step_row rfl 31 (.tmp 9) (.tmp 18) rfl G 31 (zeros 8) n rfl rfl GB3.out z8n ina ?_
              have GC := Lib.hid (row_set (l := n) GB3.out z8n)
              have HC1 : Hid (BA (v3.setCells G 0 (bvals n)) H 31 (zeros 8)) := (heap_setCells (by have := NE.out; omega) _ _ _).trans HB3.out
              have XC : Hid (Below N wr (v3.setCells G 0 (bvals n))) := below_setCells GN.out _ _ X3.out
              generalize v3.setCells G 0 (bvals n) = u at *
              refine hK.out _ _ (by exact fun q hq => XC.out.block q hq) (fun hHeld => ?_)
              clear hK K
              simp only [Act.put, List.getElem_toArray, List.getElem_cons_succ, List.getElem_cons_zero]
              refine wpAnyH_ready (rs := [10]) (by kernel_rfl) (by simp) ?_
              refine AllReadyH.cons rfl (fun K hK => ?_) AllReadyH.nil
              refine step_row rfl 31 (.tmp 10) (.tmp 21) rfl H 31 (zeros 8) d rfl rfl HC1.out z8d ida ?_
              have HE := Lib.hid (row_set (l := d) HC1.out z8d)
              have GE : Hid (BA (u.setCells H 0 (bvals d)) G 31 n) := (heap_setCells (by have := NE.out; omega) _ _ _).trans GC.out
              have XE : Hid (Below N wr (u.setCells H 0 (bvals d))) := below_setCells HN.out _ _ XC.out
              refine hK.out _ _ (by exact fun q hq => XE.out.block q hq) (fun hHeld => ?_)
              clear hK K
              simp only [Act.put, List.getElem_toArray, List.getElem_cons_succ, List.getElem_cons_zero]
              refine wpAnyH_done (by kernel_rfl) ?_ _
              go_wp2_with fail
              go_meet
              exact ⟨G, H, rfl, rfl, by have := NE.out; omega, GN.out, HN.out, GE.out, HE.out, XE.out⟩
        · refine step_alloc rfl rfl ?_
          obtain ⟨H, hH⟩ : ∃ q, wr.drew.heap.size = q := ⟨_, rfl⟩
          rw [hH]
          have HB1 := Lib.hid (ba_new hH (zeros 8) 31)
          have HN : Hid (N ≤ H) := by show _ ≤ _; rw [← hH]; exact Nat.le_trans (Nat.le_of_eq W0N.out.symm) X0.out.size
          have X1 : Hid (Below N wr (wr.drew.alloc (Obj.cells (ba (zeros 8)) 31))) := X0.out.alloc (by rw [hH]; exact HN.out) _
          clear hH
          generalize wr.drew.alloc (Obj.cells (ba (zeros 8)) 31) = v1 at *
          refine hK.out _ _ (by exact fun q hq => X1.out.block q hq) (fun hHeld => ?_)
          clear hK K
          simp only [Act.put, List.getElem_toArray, List.getElem_cons_succ, List.getElem_cons_zero, List.setIfInBounds_toArray, List.set_cons_zero, List.set_cons_succ]
          refine wpAnyH_ready (rs := [3, 7]) (by kernel_rfl) (by simp) ?_
          refine AllReadyH.cons rfl (fun K hK => ?_) (AllReadyH.cons rfl (fun K hK => ?_) AllReadyH.nil)
          · go_simp
            go_at_call 67
            refine (C15.out _).mono ?_
            rintro e v2 ⟨rfl, hb⟩
            have X2 : Hid (Below N wr v2) := X1.out.trans (hb.mono (Nat.le_trans (Nat.le_of_eq W0N.out.symm) X1.out.size))
            have HB2 : Hid (BA v2 H 31 (zeros 8)) := (hb.block _ (lt_of_block HB1.out)).trans HB1.out
            clear hb
            (try go_wp2_with fail)
            refine hK.out _ _ (by exact fun q hq => X2.out.block q hq) (fun hHeld => ?_)
            clear hK K
            refine wpAnyH_ready (rs := [7]) (by kernel_rfl) (by simp) ?_
            refine AllReadyH.cons rfl (fun K hK => ?_) AllReadyH.nil
            · refine step_alloc rfl rfl ?_
              obtain ⟨G, hG⟩ : ∃ q, v2.heap.size = q := ⟨_, rfl⟩
              rw [hG]
              have GB3 := Lib.hid (ba_new hG (zeros 8) 31)
              have GN : Hid (N ≤ G) := by show _ ≤ _; rw [← hG]; exact Nat.le_trans (Nat.le_of_eq W0N.out.symm) X2.out.size
              have X3 : Hid (Below N wr (v2.alloc (Obj.cells (ba (zeros 8)) 31))) := X2.out.alloc (by rw [hG]; exact GN.out) _
              have HB3 := Lib.hid (ba_old HB2.out (Obj.cells (ba (zeros 8)) 31))
              have NE : Hid (H < G) := by show _ < _; rw [← hG]; exact lt_of_block HB2.out
              clear hG
              generalize v2.alloc (Obj.cells (ba (zeros 8)) 31) = v3 at *
              refine hK.out _ _ (by exact fun q hq => X3.out.block q hq) (fun hHeld => ?_)
              clear hK K
              simp only [Act.put, List.getElem_toArray, List.getElem_cons_succ, List.getElem_cons_zero, List.setIfInBounds_toArray, List.set_cons_zero, List.set_cons_succ]
              refine wpAnyH_ready (rs := [9]) (by kernel_rfl) (by simp) ?_
              refine AllReadyH.cons rfl (fun K hK => ?_) AllReadyH.nil
              refine step_row rfl 31 (.tmp 9) (.tmp 18) rfl G 31 (zeros 8) n rfl rfl GB3.out z8n ina ?_
              have GC := Lib.hid (row_set (l := n) GB3.out z8n)
              have HC1 : Hid (BA (v3.setCells G 0 (bvals n)) H 31 (zeros 8)) := (heap_setCells (by have := NE.out; omega) _ _ _).trans HB3.out
              have XC : Hid (Below N wr (v3.setCells G 0 (bvals n))) := below_setCells GN.out _ _ X3.out
              generalize v3.setCells G 0 (bvals n) = u at *
              refine hK.out _ _ (by exact fun q hq => XC.out.block q hq) (fun hHeld => ?_)
              clear hK K
              simp only [Act.put, List.getElem_toArray, List.getElem_cons_succ, List.getElem_cons_zero]
              refine wpAnyH_ready (rs := [10]) (by kernel_rfl) (by simp) ?_
              refine AllReadyH.cons rfl (fun K hK => ?_) AllReadyH.nil
              refine step_row rfl 31 (.tmp 10) (.tmp 21) rfl H 31 (zeros 8) d rfl rfl HC1.out z8d ida ?_
              have HE := Lib.hid (row_set (l := d) HC1.out z8d)
              have GE : Hid (BA (u.setCells H 0 (bvals d)) G 31 n) := (heap_setCells (by have := NE.out; omega) _ _ _).trans GC.out
              have XE : Hid (Below N wr (u.setCells H 0 (bvals d))) := below_setCells HN.out _ _ XC.out
              refine hK.out _ _ (by exact fun q hq => XE.out.block q hq) (fun hHeld => ?_)
              clear hK K
              simp only [Act.put, List.getElem_toArray, List.getElem_cons_succ, List.getElem_cons_zero]
              refine wpAnyH_done (by kernel_rfl) ?_ _
              go_wp2_with fail
              go_meet
              exact ⟨G, H, rfl, rfl, by have := NE.out; omega, GN.out, HN.out, GE.out, HE.out, XE.out⟩
          · refine step_alloc rfl rfl ?_
            obtain ⟨G, hG⟩ : ∃ q, v1.heap.size = q := ⟨_, rfl⟩
            rw [hG]
            have GB2 := Lib.hid (ba_new hG (zeros 8) 31)
            have GN : Hid (N ≤ G) := by show _ ≤ _; rw [← hG]; exact Nat.le_trans (Nat.le_of_eq W0N.out.symm) X1.out.size
            have X2 : Hid (Below N wr (v1.alloc (Obj.cells (ba (zeros 8)) 31))) := X1.out.alloc (by rw [hG]; exact GN.out) _
            have HB2 := Lib.hid (ba_old HB1.out (Obj.cells (ba (zeros 8)) 31))
            have NE : Hid (H < G) := by show _ < _; rw [← hG]; exact lt_of_block HB1.out
            clear hG
            generalize v1.alloc (Obj.cells (ba (zeros 8)) 31) = v2 at *
            refine hK.out _ _ (by exact fun q hq => X2.out.block q hq) (fun hHeld => ?_)
            clear hK K
            simp only [Act.put, List.getElem_toArray, List.getElem_cons_succ, List.getElem_cons_zero, List.setIfInBounds_toArray, List.set_cons_zero, List.set_cons_succ]
            refine wpAnyH_ready (rs := [3]) (by kernel_rfl) (by simp) ?_
            refine AllReadyH.cons rfl (fun K hK => ?_) AllReadyH.nil
            · go_simp
              go_at_call 67
              refine (C15.out _).mono ?_
              rintro e v3 ⟨rfl, hb⟩
              have X3 : Hid (Below N wr v3) := X2.out.trans (hb.mono (Nat.le_trans (Nat.le_of_eq W0N.out.symm) X2.out.size))
              have HB3 : Hid (BA v3 H 31 (zeros 8)) := (hb.block _ (lt_of_block HB2.out)).trans HB2.out
              have GB3 : Hid (BA v3 G 31 (zeros 8)) := (hb.block _ (lt_of_block GB2.out)).trans GB2.out
              clear hb
              (try go_wp2_with fail)
              refine hK.out _ _ (by exact fun q hq => X3.out.block q hq) (fun hHeld => ?_)
              clear hK K
              refine wpAnyH_ready (rs := [9]) (by kernel_rfl) (by simp) ?_
              refine AllReadyH.cons rfl (fun K hK => ?_) AllReadyH.nil
              refine step_row rfl 31 (.tmp 9) (.tmp 18) rfl G 31 (zeros 8) n rfl rfl GB3.out z8n ina ?_
              have GC := Lib.hid (row_set (l := n) GB3.out z8n)
              have HC1 : Hid (BA (v3.setCells G 0 (bvals n)) H 31 (zeros 8)) := (heap_setCells (by have := NE.out; omega) _ _ _).trans HB3.out
              have XC : Hid (Below N wr (v3.setCells G 0 (bvals n))) := below_setCells GN.out _ _ X3.out
              generalize v3.setCells G 0 (bvals n) = u at *
              refine hK.out _ _ (by exact fun q hq => XC.out.block q hq) (fun hHeld => ?_)
              clear hK K
              simp only [Act.put, List.getElem_toArray, List.getElem_cons_succ, List.getElem_cons_zero]
              refine wpAnyH_ready (rs := [10]) (by kernel_rfl) (by simp) ?_
              refine AllReadyH.cons rfl (fun K hK => ?_) AllReadyH.nil
              refine step_row rfl 31 (.tmp 10) (.tmp 21) rfl H 31 (zeros 8) d rfl rfl HC1.out z8d ida ?_
              have HE := Lib.hid (row_set (l := d) HC1.out z8d)
              have GE : Hid (BA (u.setCells H 0 (bvals d)) G 31 n) := (heap_setCells (by have := NE.out; omega) _ _ _).trans GC.out
              have XE : Hid (Below N wr (u.setCells H 0 (bvals d))) := below_setCells HN.out _ _ XC.out
              refine hK.out _ _ (by exact fun q hq => XE.out.block q hq) (fun hHeld => ?_)
              clear hK K
              simp only [Act.put, List.getElem_toArray, List.getElem_cons_succ, List.getElem_cons_zero]
              refine wpAnyH_done (by kernel_rfl) ?_ _
              go_wp2_with fail
              go_meet
              exact ⟨G, H, rfl, rfl, by have := NE.out; omega, GN.out, HN.out, GE.out, HE.out, XE.out⟩
      case rest =>
        rename World => wx
        obtain ⟨G, H, rfl, rfl, hne, hG, hH, gb, hh, hx⟩ := hcut
        have NE : Hid (G ≠ H) := hne
        have GN : Hid (N ≤ G) := hG
        have HN : Hid (N ≤ H) := hH
        have GB := Lib.hid gb
        have HB := Lib.hid hh
        have BBX : Hid (Below (S + 4) w0 wx) := BB.out.trans (hx.mono LQ.out)
        have OX : Hid (wx.ownsRow (S + 4) 5 1 (.slice A l cp) l (bvals X)) := own_keep OW.out fun q hq => hx.block q (Nat.lt_of_lt_of_le (own_lt OW.out q hq) (Nat.le_of_eq W0N.out))
        have MX : Hid (BA wx S 31 msg8) := (hx.block _ (by have := LQ.out; omega)).trans MR.out
        have LGX : Hid (G < wx.heap.size) := lt_of_block GB.out
        have LHX : Hid (H < wx.heap.size) := lt_of_block HB.out
        clear hne hG hH gb hh hx RA RD hia hid ida ina z8n z8d C15
        rcases HBB.out with hb0 | hb0
        · subst hb0
          rw [if_neg (by omega), if_neg (by omega)] at HC
          go_wp2_with (first
            | (refine wpList_load_row rfl 31 (.tmp 3) rfl S rfl 31 (ba msg8) (0, 0) _ MX.out Try.underlying31 rfl (sz s27 (by rw [ba_size, HML.out])) ?_)
            | (go_at_call 66; refine (C21.out _).mono ?_; rintro e w5 ⟨rfl, hb5⟩; have B5 := Lib.hid hb5; clear hb5)
            | fail)
          have W5H : Hid (∀ q, q < N → w5.heap[q]? = wx.heap[q]?) := fun q hq => B5.out.block q (by have := GN.out; have := LGX.out; omega)
          have GF : Hid (BA w5 G 31 n) := (B5.out.block _ LGX.out).trans GB.out
          have HF2 : Hid (BA w5 H 31 d) := (B5.out.block _ LHX.out).trans HB.out
          have BF : Hid (Below (S + 4) w0 w5) := BBX.out.trans (B5.out.mono (by have := LQ.out; have := GN.out; have := LGX.out; omega))
          have OG : Hid (w5.ownsRow (S + 4) 5 1 (.slice A l cp) l (bvals X)) := own_keep OX.out fun q hq => W5H.out q (Nat.lt_of_lt_of_le (own_lt OW.out q hq) (Nat.le_of_eq W0N.out))
          have SG := src_fst0 GF.out LN.out
          have SH := src_fst0 HF2.out LD.out
          have ZG : Hid (S + 4 ≤ w5.heap.size) := by show _ ≤ _; have := BF.out.size; have := W0.out; omega
          have LG : Hid (G < w5.heap.size) := lt_of_block GF.out
          have LH : Hid (H < w5.heap.size) := lt_of_block HF2.out
          have SGD := Lib.hid SG
          have SHD := Lib.hid SH
          have OLG : Hid (∀ q, (Value.slice A l cp).ownBlock = some q → q < N) := fun q hq => Nat.lt_of_lt_of_le (own_lt OW.out q hq) (Nat.le_of_eq W0N.out)
          clear SG SH
          have OGD : Hid (w5.drew.ownsRow (S + 4) 5 1 (.slice A l cp) l (bvals X)) := own_keep OG.out fun _ _ => rfl
          have SGW : Hid (Src w5.drew (some ⟨G, 0, none⟩) 8 n) := SGD.out.keep fun _ _ => rfl
          have HFD : Hid (BA w5.drew H 31 d) := HF2.out
          have BFD : Hid (Below (S + 4) w0 w5.drew) := BF.out.drew
          go_region_held3 (fun _ => True) (exact trivial)
            (first
              | (refine step_app rfl (.tmp 28) (.tmp 29) 106 rfl i0 Try.underlying106 HI.out HI0.out HI1.out HI2.out (S + 4) l (.slice A l cp) X (by simp [Act.eval]) OGD.out (some ⟨G, 0, none⟩) 8 8 n (by simp [Act.eval]) SGW.out (by intro h; cases h) (by unfold maxLen; have := HL.out; have := HS16.out; omega) (by have := HL.out; have := HS16.out; omega) (by have := ZG.out; exact this) ?_; intro A1 c1 wb hown hg hob; have OB := Lib.hid hown; have BB1 : Hid (Below (S + 4) w0 wb) := BFD.out.grown hg (by have := ZG.out; exact this) (own_base OGD.out); have SHB : Hid (Src wb (some ⟨H, 0, none⟩) 8 d) := src_fst0 ((hg.block H (by have := LH.out; exact this) (fun e => by have := OLG.out H e.symm; have := HN.out; omega)).trans HFD.out) LD.out; have ZB : Hid (S + 4 ≤ wb.heap.size) := Nat.le_trans ZG.out hg.size; clear hown hg hob)
              | (refine step_app rfl (.tmp 30) (.tmp 31) 106 rfl i0 Try.underlying106 HI.out HI0.out HI1.out HI2.out (S + 4) (l + 8) (.slice A1 (l + 8) c1) (X ++ n) (by simp [Act.eval]) OB.out (some ⟨H, 0, none⟩) 8 8 d (by simp [Act.eval]) SHB.out (by intro h; cases h) (by unfold maxLen; have := HL.out; have := HS16.out; omega) (by have := HL.out; have := HS16.out; omega) ZB.out ?_; intro A2 c2 wc hown hg hob; have OC := Lib.hid hown; have BC1 : Hid (Below (S + 4) w0 wc) := BB1.out.grown hg ZB.out (own_base OB.out); clear hown hg hob))
          rename_i hHeld
          clear hHeld
          go_wp2
          go_roundw
          case rel => exact ⟨s + 1, l + 8 + 8, A2, c2, by have := HS16.out; omega, by go_num, rfl, by have := HL.out; omega, by rw [HC.out]; exact OC.out, BC1.out⟩
          case measure => have := HS16.out; simp [intOf]; omega
        · subst hb0
          rw [if_pos rfl, if_pos rfl] at HC
          go_wp2_with (first
            | (refine wpList_load_row rfl 31 (.tmp 3) rfl S rfl 31 (ba msg8) (0, 0) _ MX.out Try.underlying31 rfl (sz s27 (by rw [ba_size, HML.out])) ?_)
            | (go_at_call 66; refine (C21.out _).mono ?_; rintro e w4 ⟨rfl, hb5⟩; have B5 := Lib.hid hb5; clear hb5
               have GF4 : Hid (BA w4 G 31 n) := (B5.out.block _ LGX.out).trans GB.out
               have HF4 : Hid (BA w4 H 31 d) := (B5.out.block _ LHX.out).trans HB.out)
            | (refine wpList_load_row rfl 31 (.tmp 10) rfl H rfl 31 (ba d) (0, 0) _ HF4.out Try.underlying31 rfl (sz s27 (by rw [ba_size, LD.out])) ?_)
            | (refine wpList_load_row rfl 31 (.tmp 9) rfl G rfl 31 (ba n) (0, 0) _ GF4.out Try.underlying31 rfl (sz s27 (by rw [ba_size, LN.out])) ?_)
            | (refine wpList_store_rowTo rfl 31 (.tmp 9) (.tmp 26) rfl rfl G (ba d) rfl rfl 31 (ba n) GF4.out (sz s27 (by rw [ba_size, LD.out])) (by rw [ba_size, ba_size, LD.out, LN.out]) (ba_one _) ?_
               have GF5 : Hid (BA (w4.setRow G (ba d)) G 31 d) := setRow_heap _ _ _ _ _ _ GF4.out
               have HF5 : Hid (BA (w4.setRow G (ba d)) H 31 d) := (setRow_other _ _ _ _ (by have := NE.out; omega)).trans HF4.out)
            | (refine wpList_store_rowTo rfl 31 (.tmp 10) (.tmp 27) rfl rfl H (ba n) rfl rfl 31 (ba d) HF5.out (sz s27 (by rw [ba_size, LN.out])) (by rw [ba_size, ba_size, LD.out, LN.out]) (ba_one _) ?_)
            | fail)
          have W5H : Hid (∀ q, q < N → ((w4.setRow G (ba d)).setRow H (ba n)).heap[q]? = wx.heap[q]?) := fun q hq => (setRow_other _ _ _ _ (by have := HN.out; omega)).trans ((setRow_other _ _ _ _ (by have := GN.out; omega)).trans (B5.out.block q (by have := GN.out; have := LGX.out; omega)))
          have HF2 : Hid (BA ((w4.setRow G (ba d)).setRow H (ba n)) H 31 n) := setRow_heap _ _ _ _ _ _ HF5.out
          have GF : Hid (BA ((w4.setRow G (ba d)).setRow H (ba n)) G 31 d) := (setRow_other _ _ _ _ (by have := NE.out; omega)).trans GF5.out
          have BF : Hid (Below (S + 4) w0 ((w4.setRow G (ba d)).setRow H (ba n))) := below_setRow (below_setRow (BBX.out.trans (B5.out.mono (by have := LQ.out; have := GN.out; have := LGX.out; omega))) (by have := LQ.out; have := GN.out; omega) _) (by have := LQ.out; have := HN.out; omega) _
          clear GF4 HF4 GF5 HF5
          generalize (w4.setRow G (ba d)).setRow H (ba n) = w5 at *
          have OG : Hid (w5.ownsRow (S + 4) 5 1 (.slice A l cp) l (bvals X)) := own_keep OX.out fun q hq => W5H.out q (Nat.lt_of_lt_of_le (own_lt OW.out q hq) (Nat.le_of_eq W0N.out))
          have SG := src_fst0 GF.out LD.out
          have SH := src_fst0 HF2.out LN.out
          have ZG : Hid (S + 4 ≤ w5.heap.size) := by show _ ≤ _; have := BF.out.size; have := W0.out; omega
          have LG : Hid (G < w5.heap.size) := lt_of_block GF.out
          have LH : Hid (H < w5.heap.size) := lt_of_block HF2.out
          have SGD := Lib.hid SG
          have SHD := Lib.hid SH
          have OLG : Hid (∀ q, (Value.slice A l cp).ownBlock = some q → q < N) := fun q hq => Nat.lt_of_lt_of_le (own_lt OW.out q hq) (Nat.le_of_eq W0N.out)
          clear SG SH
          have OGD : Hid (w5.drew.ownsRow (S + 4) 5 1 (.slice A l cp) l (bvals X)) := own_keep OG.out fun _ _ => rfl
          have SGW : Hid (Src w5.drew (some ⟨G, 0, none⟩) 8 d) := SGD.out.keep fun _ _ => rfl
          have HFD : Hid (BA w5.drew H 31 n) := HF2.out
          have BFD : Hid (Below (S + 4) w0 w5.drew) := BF.out.drew
          go_region_held3 (fun _ => True) (exact trivial)
            (first
              | (refine step_app rfl (.tmp 28) (.tmp 29) 106 rfl i0 Try.underlying106 HI.out HI0.out HI1.out HI2.out (S + 4) l (.slice A l cp) X (by simp [Act.eval]) OGD.out (some ⟨G, 0, none⟩) 8 8 d (by simp [Act.eval]) SGW.out (by intro h; cases h) (by unfold maxLen; have := HL.out; have := HS16.out; omega) (by have := HL.out; have := HS16.out; omega) (by have := ZG.out; exact this) ?_; intro A1 c1 wb hown hg hob; have OB := Lib.hid hown; have BB1 : Hid (Below (S + 4) w0 wb) := BFD.out.grown hg (by have := ZG.out; exact this) (own_base OGD.out); have SHB : Hid (Src wb (some ⟨H, 0, none⟩) 8 n) := src_fst0 ((hg.block H (by have := LH.out; exact this) (fun e => by have := OLG.out H e.symm; have := HN.out; omega)).trans HFD.out) LN.out; have ZB : Hid (S + 4 ≤ wb.heap.size) := Nat.le_trans ZG.out hg.size; clear hown hg hob)
              | (refine step_app rfl (.tmp 30) (.tmp 31) 106 rfl i0 Try.underlying106 HI.out HI0.out HI1.out HI2.out (S + 4) (l + 8) (.slice A1 (l + 8) c1) (X ++ d) (by simp [Act.eval]) OB.out (some ⟨H, 0, none⟩) 8 8 n (by simp [Act.eval]) SHB.out (by intro h; cases h) (by unfold maxLen; have := HL.out; have := HS16.out; omega) (by have := HL.out; have := HS16.out; omega) ZB.out ?_; intro A2 c2 wc hown hg hob; have OC := Lib.hid hown; have BC1 : Hid (Below (S + 4) w0 wc) := BB1.out.grown hg ZB.out (own_base OB.out); clear hown hg hob))
          rename_i hHeld
          clear hHeld
          go_wp2
          go_roundw
          case rel => exact ⟨s + 1, l + 8 + 8, A2, c2, by have := HS16.out; omega, by go_num, rfl, by have := HL.out; omega, by rw [HC.out]; exact OC.out, BC1.out⟩
          case measure => have := HS16.out; simp [intOf]; omega
    · obtain rfl : s = 16 := by omega
      obtain ⟨M, hM⟩ : ∃ M, cat (readF msg8 op sh) 32 = M := ⟨_, rfl⟩
      have HMM := Lib.hid hM
      have LM : Hid (M.length = 256) := by rw [← hM]; exact HF.out 32 (by omega)
      have OM : Hid (wr.ownsRow (S + 4) 5 1 (.slice A l cp) l (bvals M)) := by rw [← hM]; exact OW.out
      have BW : Hid (Below S w wr) := B0.out.trans (BB.out.mono (by omega))
      have T3 : Hid (BA wr (S + 3) 31 (zeros 8)) := (BB.out.block _ (by omega)).trans R0.out
      obtain ⟨Z, hZ⟩ : ∃ Z, wr.heap.size = Z := ⟨_, rfl⟩
      obtain rfl : l = 256 := by have := HL.out; omega
      obtain ⟨z, hz⟩ : ∃ z, pubk M = z := ⟨_, rfl⟩
      have HZZ := Lib.hid hz
      have LP : Hid (z.length = 8) := by rw [← hz]; exact pubk_len _
      clear OW hM hz HF
      go_wp2_with (first
        | (go_at_call 57
           have hG := heap_alloc_last wr (Obj.cells #[.slice A 256 cp] 106)
           have BG : Hid (Below S w (wr.alloc (Obj.cells #[.slice A 256 cp] 106))) := BW.out.alloc (by have := ZS.out; omega) _
           have T4 : Hid (BA (wr.alloc (Obj.cells #[.slice A 256 cp] 106)) (S + 3) 31 (zeros 8)) := (Below.heap_alloc wr _ (S + 3) (by have := ZS.out; omega)).trans T3.out
           have hso := src_own OM.out
           have sx : Src (wr.alloc (Obj.cells #[.slice A 256 cp] 106)) A 256 M := hso.1.keep fun k hk => Below.heap_alloc wr _ k hk
           have C := c12 sum13 107 (some ⟨wr.heap.size, 0, none⟩) 1 1 _ _ _ _ _ (prtsN hG sx hso.2.1 hso.2.2.2) (fun i hi h0 => hso.2.2.1 h0) (by rw [msg_oneL]; exact part_len 107 256 M LM.out (by omega))
           rw [msg_oneL, hZ, pubk_eq, HZZ.out] at C
           refine C.mono ?_
           rintro e w1 ⟨rfl, hb⟩
           have T6 : Hid (BA w1 (S + 3) 31 (zeros 8)) := (hb.block _ (by simp; have := ZS.out; omega)).trans T4.out
           have B1 : Hid (Below S w w1) := BG.out.trans (hb.mono (by simp; have := ZS.out; omega))
           clear C sx hb hG hZ hso)
        | (refine wpList_store_rowTo rfl 31 (.tmp 6) (.tmp 35) rfl rfl (S + 3) (ba z) rfl rfl 31 (ba (zeros 8)) T6.out (sz s27 (by rw [ba_size, LP.out])) (by rw [ba_size, ba_size, LP.out, zeros_len]) (ba_one _) ?_)
        | fail)
      refine bodyPost_ret (v := .agg (ba z)) (results_cell_row rfl _ _ (S + 3) 31 _ (0, 0) _ rfl (setRow_heap _ _ _ _ _ _ T6.out) Try.underlying31 rfl (sz s27 (by rw [ba_size, LP.out]))) rfl ⟨by rw [HMM.out, HZZ.out], ?_⟩
      rw [HS.out]
      exact below_setRow B1.out (by omega) _
end Go.Proofs.Ytmcmdpbdipgahaa

/-
  Two rows of hashes are equal; what the document signs is what the key signs.
-/
namespace Go.Proofs.Ytmcmdpbdipgahaa
open Go.RowKit
theorem part23 (xs : List Int) (i : Nat) (w : World) : (part 31 (ba xs) (i * 8)).run Try.prog w = .ok (.agg (ba ((xs.drop (i * 8)).take 8))) w := by
  have h1 := Try.sizeOf31
  have hu : Try.prog.underlying 31 = some (.array 8 5) := Try.underlying31
  have e := ba_extract xs (i * 8) 8
  simp [part, isAgg, run_underlying hu, h1, Result.andThen, e]
theorem eq27 (xs : List Int) (w : World) (hx : xs.length = 128) : (Op.equalIn 10000 95 (.agg (ba xs)) (.agg (ba xs))).run Try.prog w = .ok true w := by
  have z29 := Try.sizeOf31
  rw [Op.equalIn]
  simp only [Sem.run_bind, run_underlying Try.underlying95, Result.andThen_ok]
  have key : ∀ (L : List Nat) (hL : ∀ i ∈ L, i < 16), Sem.run Try.prog (forIn L ((none, ()) : Option Bool × PUnit) fun i r => do
      let a ← part 31 (ba xs) (i * 8)
      let b ← part 31 (ba xs) (i * 8)
      let e ← Op.equalIn 9999 31 a b
      if (!e) = true then pure (ForInStep.done (some false, ())) else pure (ForInStep.yield (none, ()))) w = .ok (none, ()) w := by
    intro L
    induction L with
    | nil => intro _; simp
    | cons i L ih =>
      intro hL
      have hi := hL i (by simp)
      have hl : ((xs.drop (i * 8)).take 8).length = 8 := by rw [List.length_take, List.length_drop]; omega
      rw [List.forIn_cons]
      have he := eq_ba 31 8 9997 Try.underlying31 ((xs.drop (i * 8)).take 8) ((xs.drop (i * 8)).take 8) w hl hl
      rw [decide_eq_true rfl] at he
      simp only [Sem.run_bind, part23, Result.andThen_ok, he, Bool.not_true, Bool.false_eq_true, if_false, Sem.run_pure]
      exact ih fun j hj => hL j (by simp [hj])
  simp only [z29, Result.andThen_ok, Std.Legacy.Range.forIn_eq_forIn_range', Std.Legacy.Range.size, Nat.sub_zero, Nat.add_sub_cancel, Nat.div_one]
  rw [key (List.range' 0 16) (fun i hi => by simp [List.mem_range'] at hi; omega)]
  simp
theorem open_doc (seed : List Int) (x : Int) (m : List Int) : cat (oF seed x m) 16 = cat (openF (cat (keyF seed x) 32) m) 16 := by
  refine cat_ext fun j hj => ?_
  have hb := bt_two m j
  unfold oF openF
  rw [at8_key seed x j _ hj (by omega)]
theorem shut_doc (seed : List Int) (x : Int) (m : List Int) : cat (sF seed x m) 16 = cat (shutF (cat (keyF seed x) 32) m) 16 := by
  refine cat_ext fun j hj => ?_
  have hb := bt_two m j
  unfold sF shutF
  rw [at8_key seed x j _ hj (by omega)]
end Go.Proofs.Ytmcmdpbdipgahaa
