/-
  The document's Digest.
-/
import Derived.Test.YtmcmdpbdipgahaaHC
import Derived.Test.YtmcmdpbdipgahaaH10
namespace Go.Proofs.Ytmcmdpbdipgahaa
open Go.RowKit
set_option maxRecDepth 100000
def Sum13 : Prop := ∀ (A : Option Addr) (len cap : Nat) (xs : List Int) (w : World), Src w A len xs → (A = none → cap = 0) → len ≤ 400000 → Calls Try.prog 64 #[.slice A len cap] w fun e w' => e = .returned (.agg (ba (sha xs))) ∧ Below w.heap.size w w'
theorem sum13 : Sum13 := fun A len cap xs w h1 h2 h3 => c13 A len cap xs w h1 h2 h3
theorem msg1 (p : Int) (pl : Nat → Nat) (px : Nat → List Int) (k : Nat) : msg p pl px (k + 1) = msg p pl px k ++ digs (pl k) 4 ++ px k := rfl
theorem msg0 (p : Int) (pl : Nat → Nat) (px : Nat → List Int) : msg p pl px 0 = [p] := rfl
attribute [local irreducible] ua da ba kk sw S8.run rt hs comp splice outB sha msg

set_option maxRecDepth 100000 in
set_option maxHeartbeats 4000000 in
theorem c12 (h13 : Sum13) (p : Int) (A : Option Addr) (n cap : Nat) (pa : Nat → Option Addr) (pl pc : Nat → Nat) (px : Nat → List Int) (w : World) (hp : Prts w A n pa pl pc px) (hno : ∀ i, i < n → pa i = none → pc i = 0) (hm : (msg p pl px n).length ≤ 400000) :
    Calls Try.prog 57 #[.int .u8 p, .slice A n cap] w fun e w' => e = .returned (.agg (ba ((sha (msg p pl px n)).take 8))) ∧ Below w.heap.size w w' := by
  obtain ⟨i0, hi, hz0, hz1, hz2⟩ := info_parts info5
  have HI := Lib.hid hi
  have HI0 := Lib.hid hz0
  have HI1 := Lib.hid hz1
  have HI2 := Lib.hid hz2
  clear hi hz0 hz1 hz2
  have h3 := z23
  have h4 := z27
  have HP := Lib.hid hp
  have HM := Lib.hid hm
  have HNO := Lib.hid hno
  have H13 := Lib.hid h13
  have hnb : n ≤ 400000 := by have := msg_ge p pl px n; omega
  clear hp hm hno h13
  obtain ⟨S, hS⟩ : ∃ S, w.heap.size = S := ⟨_, rfl⟩
  have T0 : Hid (BA (w.alloc (Obj.cells (ba (zeros 8)) 31)) S 31 (zeros 8)) := by subst hS; exact heap_alloc_last w _
  have W0 : Hid ((w.alloc (Obj.cells (ba (zeros 8)) 31)).heap.size = S + 1) := by show _ = _; subst hS; exact World.size_alloc _ _
  have B0 : Hid (Below S w (w.alloc (Obj.cells (ba (zeros 8)) 31))) := by subst hS; exact (Below.refl _ w).alloc (Nat.le_refl _) _
  have HS := Lib.hid hS
  have O0 : Hid (((w.alloc (Obj.cells (ba (zeros 8)) 31)).alloc (Obj.cells #[.int .u8 p] 5)).ownsRow (S + 1) 5 1 (.slice (some ⟨S + 1, 0, none⟩) 1 1) 1 (bvals (msg p pl px 0))) := by
    have := own_one (w.alloc (Obj.cells (ba (zeros 8)) 31)) p
    rw [W0.out] at this
    rw [msg0]
    exact this
  have B1 : Hid (Below (S + 1) (w.alloc (Obj.cells (ba (zeros 8)) 31)) ((w.alloc (Obj.cells (ba (zeros 8)) 31)).alloc (Obj.cells #[.int .u8 p] 5))) := (Below.refl _ _).alloc (by rw [W0.out]; exact Nat.le_refl _) _
  go_enter Try.func57, Try.ntmps57
  go_wp2_with fail
  clear hS
  generalize w.alloc (Obj.cells (ba (zeros 8)) 31) = w0 at *
  go_loopw [5, 6] (fun v i wr => ∃ (k l : Nat) (A' : Option Addr) (c : Nat), k ≤ n ∧ i = .int .i64 k ∧ v = .slice A' l c ∧ l = (msg p pl px k).length ∧ wr.ownsRow (S + 1) 5 1 (.slice A' l c) l (bvals (msg p pl px k)) ∧ Below (S + 1) w0 wr) (fun _ i _ => n - (intOf i).toNat)
  case atStart => exact ⟨0, 1, _, 1, Nat.zero_le _, rfl, rfl, by rw [msg0]; rfl, O0.out, B1.out⟩
  case round =>
    clear O0 B1
    obtain ⟨k, l, A', c, hk, rfl, rfl, hl, hown, hbel⟩ := hrel
    have OW := Lib.hid hown
    have BB := Lib.hid hbel
    have HL := Lib.hid hl
    clear hown hbel hl
    have ZS : Hid (S + 1 ≤ wr.heap.size) := by show _ ≤ _; have := BB.out.size; have := W0.out; omega
    have BW : Hid (Below S w wr) := B0.out.trans (BB.out.mono (by omega))
    by_cases hlt : k < n
    · have HLT := Lib.hid hlt
      have PW : Hid (Prts wr A n pa pl pc px) := HP.out.keep (fun q hq => BW.out.block q (by rw [← HS.out]; exact hq))
      obtain ⟨g, off, rfl, hcell⟩ := PW.out.cell.resolve_left (by omega)
      have GC : Hid (∀ w', Below wr.heap.size wr w' → w'.cell? ⟨g, off + k, none⟩ = some (.slice (pa k) (pl k) (pc k))) := fun w' hb => by
        rw [hb.cell (p := ⟨g, off + k, none⟩) (World.block_lt_of_cell? wr ⟨g, off + k, none⟩ (hcell k hlt))]
        exact hcell k hlt
      have hms := msg_mono p pl px (show k + 1 ≤ n by omega)
      have hlen : l + 4 + pl k ≤ 400000 := by
        have := HM.out
        have e : (msg p pl px (k + 1)).length = (msg p pl px k).length + 4 + (px k).length := by rw [msg1, List.length_append, List.length_append, digs_len]
        rw [(PW.out.src k hlt).1, ← HL.out] at e
        omega
      have HLN : Hid ((msg p pl px (k + 1)).length = l + 4 + pl k) := by
        show _ = _
        rw [msg1, List.length_append, List.length_append, digs_len, (PW.out.src k hlt).1, ← HL.out]
      have q1 : (k : Int) < (n : Int) := by omega
      have x0 := GC.out wr (Below.refl _ _)
      clear hcell hms
      have OQ : Hid (wr.drew.ownsRow (S + 1) 5 1 (.slice A' l c) l (bvals (msg p pl px k))) := own_keep OW.out fun _ _ => rfl
      have SRC : Hid (∀ w', Below wr.heap.size wr w' → Src w' (pa k) (pl k) (px k)) := fun w' hb => (PW.out.src k hlt).keep hb.block
      have BD : Hid (Below wr.heap.size wr wr.drew) := (Below.refl _ _).drew
      have GK : Hid (∀ w', Below (S + 1) w0 w' → w'.cell? ⟨g, off + k, none⟩ = some (.slice (pa k) (pl k) (pc k))) := fun w' hb => by
        rcases HP.out.cell with h0 | ⟨g', off', e, hc⟩
        · omega
        · cases e
          have h1 := World.block_lt_of_cell? w ⟨g, off + k, none⟩ (hc k hlt)
          rw [World.cell?_of_block (w := w) (w' := w') (a := ⟨g, off + k, none⟩) (by
            have hs := HS.out
            have hg2 : g < S := by rw [← hs]; exact h1
            exact (hb.block g (by omega)).trans (B0.out.block g hg2))]
          exact hc k hlt
      have SK : Hid (∀ w', Below (S + 1) w0 w' → Src w' (pa k) (pl k) (px k)) := fun w' hb => (HP.out.src k hlt).keep fun q hq => by
        have hs := HS.out
        have hq2 : q < S := by rw [← hs]; exact hq
        exact (hb.block q (by omega)).trans (B0.out.block q hq2)
      have hnk := HNO.out k hlt
      have HNK := Lib.hid hnk
      clear hnk
      have HLK0 : Hid (∀ q, pl k = q → pl k = q) := fun _ h => h
      generalize hlk : pl k = lk at *
      have HLK := Lib.hid hlk
      clear hlk
      generalize pa k = ak at *
      generalize pc k = ck at *
      go_wp2_with fail
      go_region_held3 (fun w' => w'.cell? ⟨g, off + k, none⟩ = some (.slice ak lk ck)) (first | exact KA.out | exact K9.out | exact K8.out | go_keep)
        (first
          | (go_at_call 63; refine (num4 lk _).mono ?_; rintro e wa ⟨Ad, cd, rfl, hod, hbd⟩; have OD := Lib.hid (src_own hod); have OA := Lib.hid (own_keepB OQ.out hbd); have BA1 : Hid (Below wr.heap.size wr wa) := BD.out.trans (hbd.mono (Nat.le_refl _)); have K8 := Lib.hid (GC.out wa BA1.out); clear hod hbd)
          | (refine step_app rfl (.tmp 17) (.tmp 23) 106 rfl i0 Try.underlying106 HI.out HI0.out HI1.out HI2.out (S + 1) l (.slice A' l c) (msg p pl px k) (by simp [Act.eval]) OA.out Ad 4 cd (digs lk 4) (by simp [Act.eval]) OD.out.1 OD.out.2.2.1 (by unfold maxLen; omega) (by omega) (by have := BA1.out.size; have := ZS.out; omega) ?_; intro A1 c1 wb hown hg hob; have OB := Lib.hid hown; have BB1 : Hid (Below (S + 1) w0 wb) := (BB.out.trans (BA1.out.mono ZS.out)).grown hg (by have := BA1.out.size; have := ZS.out; omega) (own_base OA.out); have GB : Hid (Below wr.heap.size wr wb ∨ True) := .inr trivial; have K9 : Hid (wb.cell? ⟨g, off + k, none⟩ = some (.slice ak lk ck)) := GK.out wb BB1.out; have SB : Hid (Src wb ak lk (px k)) := SK.out wb BB1.out; have ZB : Hid (S + 1 ≤ wb.heap.size) := (by show _ ≤ _; have := BB1.out.size; have := W0.out; omega); clear hown hg hob)
          | (refine step_app rfl (.tmp 24) (.tmp 28) 106 rfl i0 Try.underlying106 HI.out HI0.out HI1.out HI2.out (S + 1) (l + 4) (.slice A1 (l + 4) c1) (msg p pl px k ++ digs lk 4) (by simp [Act.eval]) OB.out ak lk ck (px k) (by simp [Act.eval]) SB.out HNK.out (by unfold maxLen; omega) (by omega) ZB.out ?_; intro A2 c2 wc hown hg hob; have OC := Lib.hid hown; have BC1 : Hid (Below (S + 1) w0 wc) := BB1.out.grown hg ZB.out (own_base OB.out); have KA : Hid (wc.cell? ⟨g, off + k, none⟩ = some (.slice ak lk ck)) := GK.out wc BC1.out; clear hown hg hob))
      rename_i hHeld
      clear hHeld K8 K9 KA
      have e : msg p pl px (k + 1) = msg p pl px k ++ digs lk 4 ++ px k := by rw [msg1, HLK.out]
      have OE : Hid (wc.ownsRow (S + 1) 5 1 (.slice A2 (l + 4 + lk) c2) (l + 4 + lk) (bvals (msg p pl px (k + 1)))) := by rw [e]; exact OC.out
      have HLE : Hid (l + 4 + lk = (msg p pl px (k + 1)).length) := HLN.out.symm
      clear e
      go_wp2_with fail
      go_roundw
      case rel => exact ⟨k + 1, _, _, _, HLT.out, by go_num, rfl, HLE.out, OE.out, BC1.out⟩
      case measure => have := HLT.out; simp [intOf]; omega
    · obtain rfl : k = n := by omega
      obtain ⟨m, hmm⟩ : ∃ m, msg p pl px k = m := ⟨_, rfl⟩
      have HMM := Lib.hid hmm
      have hml : m.length ≤ 400000 := by rw [← hmm]; exact HM.out
      have hl0 : l = m.length := by rw [← hmm]; exact HL.out
      have hnl : ¬ (k : Int) < (k : Int) := by omega
      have SQ : Src wr A' l m ∧ l ≤ c ∧ (A' = none → c = 0) ∧ c ≤ maxLen := by
        have := src_own OW.out
        rw [hmm] at this
        exact this
      have C := Lib.hid (H13.out A' l c m wr SQ.1 SQ.2.2.1 (by omega))
      obtain ⟨x0, x1, x2, x3, x4, x5, x6, x7, h8, hc8⟩ := sum8 m
      have H8 := Lib.hid h8
      have HC8 := Lib.hid hc8
      have R1 : Hid (BA wr S 31 (zeros 8)) := (BB.out.block S (by omega)).trans T0.out
      have hsp : ∀ (Y : Nat) (w : World), (Instr.arrayAt 31 (.slice (some ⟨Y, 0, none⟩) 8 32)).run Try.prog w = .ok (.pointer (some ⟨Y, 0, none⟩)) w := fun Y w => by simp [Instr.arrayAt, run_underlying Try.underlying31]
      clear h8 hc8 hmm hml hl0 SQ
      go_wp2_with (first
        | (go_at_call 64
           refine C.out.mono ?_
           rintro e wc ⟨rfl, hoc⟩
           have R6 : Hid (BA wc S 31 (zeros 8)) := (hoc.block S (by have := ZS.out; omega)).trans R1.out
           have BC : Hid (Below S w wc) := BW.out.trans (hoc.mono (by have := ZS.out; omega))
           clear hoc
           obtain ⟨Y, hY⟩ : ∃ Y, wc.heap.size = Y := ⟨_, rfl⟩)
        | (refine wpList_store_rowTo rfl 114 (.tmp 7) (.tmp 31) rfl rfl Y (ba (sha m)) rfl rfl 114 (ba (zeros 32)) (by subst hY; exact heap_alloc_last wc _) (sz s23 (by rw [ba_size, sha_len])) (by rw [ba_size, ba_size, sha_len]; rfl) (ba_one _) ?_
           have Y0 : (wc.alloc (Obj.cells (ba (zeros 32)) 114)).heap[Y]? = some (.cells (ba (zeros 32)) 114 (0, 0)) := by subst hY; exact heap_alloc_last wc _
           generalize hq : (wc.alloc (Obj.cells (ba (zeros 32)) 114)).setRow Y (ba (sha m)) = wd
           have SY : Hid (S < Y) := by show _ < _; rw [← hY]; exact lt_of_block R6.out
           have R7 : Hid (BA wd S 31 (zeros 8)) := by rw [← hq]; exact (setRow_other _ _ _ _ (by have := SY.out; omega)).trans ((Below.heap_alloc _ _ _ (lt_of_block R6.out)).trans R6.out)
           have BD : Hid (Below S w wd) := by rw [← hq]; exact below_setRow (BC.out.alloc (by rw [hY]; have := SY.out; omega) _) (by have := SY.out; omega) _
           have RY : Hid (BA wd Y 114 (sha m)) := by rw [← hq]; exact setRow_heap _ _ _ _ _ _ Y0
           clear hq Y0 hY
           obtain ⟨V, hV⟩ : ∃ V, wd.heap.size = V := ⟨_, rfl⟩)
        | fail)
      have RA : Hid (BA (wd.alloc (Obj.cells (ba (zeros 8)) 31)) V 31 (zeros 8)) := by subst hV; exact heap_alloc_last wd _
      have BV : Hid (Below V wd (wd.alloc (Obj.cells (ba (zeros 8)) 31))) := by subst hV; exact (Below.refl _ wd).alloc (Nat.le_refl _) _
      have YV : Hid (Y < V) := by show _ < _; rw [← hV]; exact lt_of_block RY.out
      generalize wd.alloc (Obj.cells (ba (zeros 8)) 31) = wA at *
      have RS : Hid (BA wA Y 114 (sha m)) := (BV.out.block Y YV.out).trans RY.out
      go_still_tail 2, (by kernel_rfl)
      change wpList _ _ _ _ _ wA.drew
      refine wpList_copy_own rfl (.tmp 32) (.tmp 33) 106 106 rfl 5 Try.underlying106 info5s V 0 8 8 ⟨Y, 0, none⟩ 8 32 rfl rfl (ba (zeros 8)) 31 RA.out (bvals [x0, x1, x2, x3, x4, x5, x6, x7]) (by simp [bvals]) (fun j u hu => by
        rw [Addr.add_mid, Nat.zero_add]
        have hj : j < 8 := by
          have := (List.getElem?_eq_some_iff.1 hu).1
          simpa [bvals] using this
        show wA.cell? _ = _
        rw [ba_cell RS.out j (by rw [sha_len]; omega), ← hu, ← H8.out]
        simp [bvals, List.getD, hj]
        rw [List.getElem?_eq_getElem (by rw [sha_len]; omega)]
        simp) (by simp [bvals, ba_size, zeros]) (bvals_one _) ?_
      rw [copied [x0, x1, x2, x3, x4, x5, x6, x7] rfl]
      have R7b : Hid (BA (wA.drew.setRow V (ba [x0, x1, x2, x3, x4, x5, x6, x7])) S 31 (zeros 8)) := (setRow_other _ _ _ _ (by have := SY.out; have := YV.out; omega)).trans ((BV.out.block S (by have := SY.out; have := YV.out; omega)).trans R7.out)
      have RB : Hid (BA (wA.drew.setRow V (ba [x0, x1, x2, x3, x4, x5, x6, x7])) V 31 [x0, x1, x2, x3, x4, x5, x6, x7]) := setRow_heap wA.drew _ _ _ _ _ RA.out
      have BB2 : Hid (Below S w (wA.drew.setRow V (ba [x0, x1, x2, x3, x4, x5, x6, x7]))) := BD.out.trans ((below_setRow BV.out.drew (Nat.le_refl _) _).mono (by have := SY.out; have := YV.out; omega))
      generalize wA.drew.setRow V (ba [x0, x1, x2, x3, x4, x5, x6, x7]) = wB at *
      clear RA BV RS
      go_wp2_with (first
        | (refine wpList_load_row rfl 31 (.tmp 8) rfl V rfl 31 (ba [x0, x1, x2, x3, x4, x5, x6, x7]) (0, 0) _ RB.out Try.underlying31 rfl (sz s27 (by rw [ba_size]; rfl)) ?_)
        | (refine wpList_store_rowTo rfl 31 (.tmp 4) (.tmp 35) rfl rfl S (ba [x0, x1, x2, x3, x4, x5, x6, x7]) rfl rfl 31 (ba (zeros 8)) R7b.out (sz s27 (by rw [ba_size]; rfl)) (by rw [ba_size, ba_size]; rfl) (ba_one _) ?_)
        | fail)
      refine bodyPost_ret (v := .agg (ba [x0, x1, x2, x3, x4, x5, x6, x7])) (results_cell_row rfl _ _ S 31 _ (0, 0) _ rfl (setRow_heap _ _ _ _ _ _ R7b.out) Try.underlying31 rfl (sz s27 (by rw [ba_size]; rfl))) rfl ⟨by rw [HMM.out, H8.out], ?_⟩
      rw [HS.out]
      exact below_setRow BB2.out (Nat.le_refl _) _
end Go.Proofs.Ytmcmdpbdipgahaa

/-
  The document's own Two.
-/
namespace Go.Proofs.Ytmcmdpbdipgahaa
open Go.RowKit
attribute [local irreducible] ua da ba kk sw S8.run rt hs comp splice outB sha msg

set_option maxRecDepth 100000 in
set_option maxHeartbeats 4000000 in
theorem c15 (h13 : Sum13) (p : Int) (x y : List Int) (w : World) (hx : x.length = 8) (hy : y.length = 8) :
    Calls Try.prog 59 #[.int .u8 p, .agg (ba x), .agg (ba y)] w fun e w' => e = .returned (.agg (ba ((sha (twoM p x y)).take 8))) ∧ Below w.heap.size w w' := by
  have h4 := z27
  have HX := Lib.hid hx
  have HY := Lib.hid hy
  have H13 := Lib.hid h13
  clear hx hy h13
  obtain ⟨S, hS⟩ : ∃ S, w.heap.size = S := ⟨_, rfl⟩
  have T0 : Hid (BA (w.alloc (Obj.cells (ba x) 31)) S 31 x) := by subst hS; exact heap_alloc_last w _
  have T1 : Hid (BA ((w.alloc (Obj.cells (ba x) 31)).alloc (Obj.cells (ba y) 31)) (S + 1) 31 y) := by
    show _ = _
    subst hS
    have := heap_alloc_last (w.alloc (Obj.cells (ba x) 31)) (Obj.cells (ba y) 31)
    simp only [World.size_alloc] at this
    exact this
  have T2 : Hid (BA (((w.alloc (Obj.cells (ba x) 31)).alloc (Obj.cells (ba y) 31)).alloc (Obj.cells (ba (zeros 8)) 31)) (S + 2) 31 (zeros 8)) := by
    show _ = _
    subst hS
    have := heap_alloc_last ((w.alloc (Obj.cells (ba x) 31)).alloc (Obj.cells (ba y) 31)) (Obj.cells (ba (zeros 8)) 31)
    simp only [World.size_alloc] at this
    exact this
  have T3 : Hid (BA (((w.alloc (Obj.cells (ba x) 31)).alloc (Obj.cells (ba y) 31)).alloc (Obj.cells (ba (zeros 8)) 31)) (S + 1) 31 y) := (Below.heap_alloc _ _ _ (lt_of_block T1.out)).trans T1.out
  have T4 : Hid (BA (((w.alloc (Obj.cells (ba x) 31)).alloc (Obj.cells (ba y) 31)).alloc (Obj.cells (ba (zeros 8)) 31)) S 31 x) := (Below.heap_alloc _ _ _ (by have := lt_of_block T1.out; omega)).trans ((Below.heap_alloc _ _ _ (lt_of_block T0.out)).trans T0.out)
  have B0 : Hid (Below S w (((w.alloc (Obj.cells (ba x) 31)).alloc (Obj.cells (ba y) 31)).alloc (Obj.cells (ba (zeros 8)) 31))) := by subst hS; exact (((Below.refl _ w).alloc (Nat.le_refl _) _).alloc (by simp) _).alloc (by simp; omega) _
  have HS := Lib.hid hS
  go_enter Try.func59, Try.ntmps59
  go_wp2_with fail
  generalize ((w.alloc (Obj.cells (ba x) 31)).alloc (Obj.cells (ba y) 31)).alloc (Obj.cells (ba (zeros 8)) 31) = w0 at *
  clear T0 T1 hS
  obtain ⟨x0, x1, x2, x3, x4, x5, x6, x7, h8, _⟩ := sum8 (twoM p x y)
  have H8 := Lib.hid h8
  clear h8
  have LS : Hid (S + 2 < w0.heap.size) := lt_of_block T2.out
  have BO : Hid (∀ w' : World, w'.heap = (w0.alloc (Obj.cells #[.slice (some ⟨S, 0, none⟩) 8 8, .slice (some ⟨S + 1, 0, none⟩) 8 8] 106)).heap → ∀ k, k < w0.heap.size → w'.heap[k]? = w0.heap[k]?) := fun w' hh k hk => by rw [hh]; exact Below.heap_alloc w0 _ k hk
  obtain ⟨G, hG⟩ : ∃ G, w0.heap.size = G := ⟨_, rfl⟩
  have CO : Hid (∀ w' : World, w'.heap = (w0.alloc (Obj.cells #[.slice (some ⟨S, 0, none⟩) 8 8, .slice (some ⟨S + 1, 0, none⟩) 8 8] 106)).heap → Calls Try.prog 57 #[.int .u8 p, .slice (some ⟨G, 0, none⟩) 2 2] w' fun e w'' => e = .returned (.agg #[.int .u8 x0, .int .u8 x1, .int .u8 x2, .int .u8 x3, .int .u8 x4, .int .u8 x5, .int .u8 x6, .int .u8 x7]) ∧ Below w'.heap.size w' w'') := fun w' hh => by
    have hkk := BO.out w' hh
    have hlast : w'.heap[G]? = some (.cells #[.slice (some ⟨S, 0, none⟩) 8 8, .slice (some ⟨S + 1, 0, none⟩) 8 8] 106 (0, 0)) := by rw [hh, ← hG]; exact heap_alloc_last w0 _
    have sx : Src w' (some ⟨S, 0, none⟩) 8 x := by
      have := src_ba (t := 31) ((hkk S (by have := LS.out; omega)).trans T4.out) 8 (by rw [HX.out]; omega)
      rw [List.take_of_length_le (by rw [HX.out]; omega)] at this
      exact this
    have sy : Src w' (some ⟨S + 1, 0, none⟩) 8 y := by
      have := src_ba (t := 31) ((hkk (S + 1) (by have := LS.out; omega)).trans T3.out) 8 (by rw [HY.out]; omega)
      rw [List.take_of_length_le (by rw [HY.out]; omega)] at this
      exact this
    have hP : Prts w' (some ⟨G, 0, none⟩) 2 (fun i => if i = 0 then some ⟨S, 0, none⟩ else some ⟨S + 1, 0, none⟩) (fun _ => 8) (fun _ => 8) (fun i => if i = 0 then x else y) := by
      refine ⟨.inr ⟨G, 0, rfl, fun i hi => ?_⟩, fun i hi => ?_, fun i hi => ⟨by omega, by omega⟩⟩
      · rw [cell_of_row w' G (0 + i) _ 106 (0, 0) hlast]
        match i, hi with
        | 0, _ => rfl
        | 1, _ => rfl
      · match i, hi with
        | 0, _ => exact sx
        | 1, _ => exact sy
    have hm2 : msg p (fun _ => 8) (fun i => if i = 0 then x else y) 2 = twoM p x y := by rw [msg2]; rfl
    have hml : (twoM p x y).length ≤ 400000 := by
      unfold twoM
      simp only [List.length_append, digs_len, HX.out, HY.out, List.length_singleton]
      omega
    have := c12 H13.out p (some ⟨G, 0, none⟩) 2 2 _ _ _ _ w' hP (fun i hi h0 => by
      by_cases e : i = 0
      · simp [e] at h0
      · simp [e] at h0) (by rw [hm2]; exact hml)
    rw [hm2, H8.out, ba_lit] at this
    exact this
  have RC : Hid (∀ w', (∀ k, k < w0.heap.size → w'.heap[k]? = w0.heap[k]?) → BA w' (S + 2) 31 (zeros 8)) := fun w' hkk => (hkk (S + 2) LS.out).trans T2.out
  go_region_held3 (fun _ => True) (exact trivial)
    (first
      | (go_at_call 57; refine (CO.out _ (by rfl)).mono ?_; rintro e wz ⟨rfl, hbz⟩; have KZ : Hid (∀ k, k < w0.heap.size → wz.heap[k]? = w0.heap[k]?) := fun k hk => (hbz.block k (by simp; omega)).trans (BO.out _ (by rfl) k hk); have RZ := Lib.hid (RC.out wz KZ.out); have BZ : Hid (Below S w wz) := (B0.out.alloc (by have := LS.out; omega) _).drew.trans (hbz.mono (by have := LS.out; simp; omega)); obtain ⟨z0, z1, z2, z3, z4, z5, z6, z7⟩ := cells8 (t := 31) 0 0 0 0 0 0 0 0 RZ.out; have f0 := free_of RZ.out; clear hbz))
  rename_i hHeld
  clear hHeld z0 z1 z2 z3 z4 z5 z6 z7 f0
  have RF : Hid ((put8 wz (S + 2) x0 x1 x2 x3 x4 x5 x6 x7).heap[S + 2]? = some (.cells #[.int .u8 x0, .int .u8 x1, .int .u8 x2, .int .u8 x3, .int .u8 x4, .int .u8 x5, .int .u8 x6, .int .u8 x7] 31 (0, 0))) := by rw [← ba_lit]; exact put8_ba x0 x1 x2 x3 x4 x5 x6 x7 RZ.out
  have BF : Hid (Below S w (put8 wz (S + 2) x0 x1 x2 x3 x4 x5 x6 x7)) := put8_below x0 x1 x2 x3 x4 x5 x6 x7 BZ.out (by omega)
  change Exit.then _ _ Exit.normal _ (put8 wz (S + 2) x0 x1 x2 x3 x4 x5 x6 x7)
  generalize put8 wz (S + 2) x0 x1 x2 x3 x4 x5 x6 x7 = wf at *
  go_wp2
  refine bodyPost_ret (v := .agg #[.int .u8 x0, .int .u8 x1, .int .u8 x2, .int .u8 x3, .int .u8 x4, .int .u8 x5, .int .u8 x6, .int .u8 x7]) (results_cell_row rfl _ _ (S + 2) 31 #[.int .u8 x0, .int .u8 x1, .int .u8 x2, .int .u8 x3, .int .u8 x4, .int .u8 x5, .int .u8 x6, .int .u8 x7] (0, 0) _ rfl RF.out Try.underlying31 rfl (sz s27 rfl)) rfl ⟨by rw [H8.out, ba_lit], ?_⟩
  rw [HS.out]
  exact BF.out
end Go.Proofs.Ytmcmdpbdipgahaa
