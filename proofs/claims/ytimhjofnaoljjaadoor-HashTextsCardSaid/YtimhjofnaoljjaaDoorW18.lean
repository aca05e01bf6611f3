/-
  The walk of HashParts.
-/
import Derived.Test.YtimhjofnaoljjaaDoorW17
import Derived.Test.YtimhjofnaoljjaaDoorW14
import Derived.Deep.MidRow
namespace Go.Proofs.YtimhjofnaoljjaaDoor
open Go.RowKit
theorem src_own {w : World} {base n : Nat} {A : Option Addr} {c : Nat} {xs : List Int} (h : w.ownsRow base 5 1 (.slice A n c) n (bvals xs)) : Src w A n xs ∧ n ≤ c ∧ (A = none → c = 0) ∧ c ≤ maxLen := by
  obtain ⟨A', c', e, hr, hl, hc⟩ := own_row h
  simp only [Value.slice.injEq] at e
  obtain ⟨rfl, _, rfl⟩ := e
  refine ⟨src_row hl hr, hc, fun ha => ?_, ?_⟩
  · rcases h.2 with ⟨h4, _⟩ | ⟨g, cap, cur, h4, _⟩
    · simp only [Value.slice.injEq] at h4; exact h4.2.2
    · simp only [Value.slice.injEq] at h4; rw [ha] at h4; cases h4.1
  · rcases h.2 with ⟨h4, _⟩ | ⟨g, cap, cur, h4, _, _, _, h5, _⟩
    · simp only [Value.slice.injEq] at h4; rw [h4.2.2]; exact Nat.zero_le _
    · simp only [Value.slice.injEq] at h4; omega
theorem own_one (w : World) (p : Int) : (w.alloc (Obj.cells #[.int .u8 p] 5)).ownsRow w.heap.size 5 1 (.slice (some ⟨w.heap.size, 0, none⟩) 1 1) 1 (bvals [p]) :=
  ⟨rfl, .inr ⟨w.heap.size, 1, #[.int .u8 p], rfl, Nat.le_refl _, heap_alloc_new w _, Nat.le_refl _, by decide, rfl, rfl⟩⟩
theorem num4 (n : Nat) (W : World) : Calls Tryd.prog 21 #[.int .i64 n, .int .i64 4] W fun e W' => ∃ A c, e = .returned (.slice A 4 c) ∧ W'.ownsRow W.heap.size 5 1 (.slice A 4 c) 4 (bvals (digs n 4)) ∧ Below W.heap.size W W' := c21 n 4 W (by omega)
theorem own_keepB {w W : World} {base n : Nat} {v : Value} {xs : List Value} (h : w.ownsRow base 5 1 v n xs) (hb : Below w.heap.size w W) : W.ownsRow base 5 1 v n xs := own_keep h fun q hq => hb.block q (own_lt h q hq)
theorem copied (y : List Int) (h : y.length = 8) : ((ba (zeros 8)).toList.take 0 ++ (bvals y ++ (ba (zeros 8)).toList.drop (0 + (bvals y).length))).toArray = ba y := by
  have : (bvals y).length = 8 := by simp [bvals, h]
  rw [this]
  simp [ba, zeros, bvals]
theorem msg2 (p : Int) (pl : Nat → Nat) (px : Nat → List Int) : msg p pl px 2 = [p] ++ digs (pl 0) 4 ++ px 0 ++ digs (pl 1) 4 ++ px 1 := rfl
theorem ba_range {w : World} {b : Nat} {t : TypeId} {xs : List Int} (h : BA w b t xs) : w.rangeAt b 0 (bvals xs) := by
  intro j v hv
  have hj : j < xs.length := by
    have := (List.getElem?_eq_some_iff.1 hv).1
    simpa [bvals] using this
  rw [Nat.zero_add, ba_cell h j hj, ← hv]
  simp [bvals, List.getD, hj]
theorem c8cells : ∀ (x : List Int), x.length = 8 → ∃ x0 x1 x2 x3 x4 x5 x6 x7, x = [x0, x1, x2, x3, x4, x5, x6, x7]
  | [x0, x1, x2, x3, x4, x5, x6, x7], _ => ⟨x0, x1, x2, x3, x4, x5, x6, x7, rfl⟩
theorem cells8 {w : World} {b : Nat} {t : TypeId} (x0 x1 x2 x3 x4 x5 x6 x7 : Int) (h : BA w b t [x0, x1, x2, x3, x4, x5, x6, x7]) : w.cell? ⟨b, 0, none⟩ = some (.int .u8 x0) ∧ w.cell? ⟨b, 1, none⟩ = some (.int .u8 x1) ∧ w.cell? ⟨b, 2, none⟩ = some (.int .u8 x2) ∧ w.cell? ⟨b, 3, none⟩ = some (.int .u8 x3) ∧ w.cell? ⟨b, 4, none⟩ = some (.int .u8 x4) ∧ w.cell? ⟨b, 5, none⟩ = some (.int .u8 x5) ∧ w.cell? ⟨b, 6, none⟩ = some (.int .u8 x6) ∧ w.cell? ⟨b, 7, none⟩ = some (.int .u8 x7) :=
  ⟨ba_cell h 0 (by simp), ba_cell h 1 (by simp), ba_cell h 2 (by simp), ba_cell h 3 (by simp), ba_cell h 4 (by simp), ba_cell h 5 (by simp), ba_cell h 6 (by simp), ba_cell h 7 (by simp)⟩
theorem eqT (x0 x1 x2 x3 x4 x5 x6 x7 : Int) (w : World) : (Op.equalIn 10000 27 (.agg #[.int .u8 x0, .int .u8 x1, .int .u8 x2, .int .u8 x3, .int .u8 x4, .int .u8 x5, .int .u8 x6, .int .u8 x7]) (.agg #[.int .u8 x0, .int .u8 x1, .int .u8 x2, .int .u8 x3, .int .u8 x4, .int .u8 x5, .int .u8 x6, .int .u8 x7])).run Tryd.prog w = .ok true w := by
  have := eq_ba 27 8 9998 Tryd.underlying27 [x0, x1, x2, x3, x4, x5, x6, x7] [x0, x1, x2, x3, x4, x5, x6, x7] w rfl rfl
  rw [decide_eq_true rfl] at this
  exact this
theorem eqS (m : List Int) (w : World) : (Op.equalIn 10000 23 (.agg (bvals (sha m)).toArray) (.agg (ba (sha m)))).run Tryd.prog w = .ok true w := by
  have := eq_ba 23 32 9998 Tryd.underlying23 (sha m) (sha m) w (sha_len m) (sha_len m)
  rw [decide_eq_true rfl] at this
  exact this
attribute [local irreducible] ua da ba kk sw S8.run rt hs comp splice outB sha msg
set_option maxRecDepth 100000 in
set_option maxHeartbeats 4000000 in
theorem walkParts (p : Int) (A1 A2 : Option Addr) (l1 c1 l2 c2 : Nat) (xs ys : List Int) (w : World) (hk : Keys w) (hs1 : Src w A1 l1 xs) (hs2 : Src w A2 l2 ys) (hn1 : A1 = none → c1 = 0) (hn2 : A2 = none → c2 = 0) (hl1 : l1 ≤ c1) (hl2 : l2 ≤ c2) (hc1 : c1 ≤ 9223372036854775807) (hc2 : c2 ≤ 9223372036854775807)
    (h13 : ∀ (A : Option Addr) (len cap : Nat) (xs : List Int) (w : World), Src w A len xs → (A = none → cap = 0) → len ≤ 400000 → Calls Tryd.prog 13 #[.slice A len cap] w fun e w' => e = .returned (.agg (ba (sha xs))) ∧ Below w.heap.size w w') :
    Calls Tryd.prog 6 #[.int .u8 p, .slice A1 l1 c1, .slice A2 l2 c2] w fun e w' => e = .returned (.bool true) ∧ Below w.heap.size w w' := by
  obtain ⟨i0, hi, hz0, hz1, hz2⟩ := info_parts info5
  have HI := Lib.hid hi
  have HI0 := Lib.hid hz0
  have HI1 := Lib.hid hz1
  have HI2 := Lib.hid hz2
  clear hi hz0 hz1 hz2
  have h3 := z23
  have h4 := z27
  have HK := Lib.hid hk
  have H1 := Lib.hid hs1
  have H2 := Lib.hid hs2
  have N1 := Lib.hid hn1
  have N2 := Lib.hid hn2
  have H13 := Lib.hid h13
  clear h13
  have HP : Hid (0 < w.heap.size) := keys_pos hk
  have C8 := Lib.hid (c8 w hk)
  clear hk hs1 hs2 hn1 hn2
  by_cases hb : l1 ≤ 2000 ∧ l2 ≤ 2000
  · obtain ⟨hb1, hb2⟩ := hb
    have q1 : ¬ (2000 : Int) < (l1 : Int) := by omega
    have q2 : ¬ (2000 : Int) < (l2 : Int) := by omega
    go_enter Tryd.func6, Tryd.ntmps6
    go_wp2_with (first
      | (go_at_call 8
         refine C8.out.mono ?_
         rintro e w1 ⟨rfl, hb1⟩
         have B1 := Lib.hid hb1
         have K1 : Hid (Keys w1) := keys_below HK.out hb1 HP.out
         have X1 : Hid (Src w1 A1 l1 xs) := H1.out.keep hb1.block
         have Y1 : Hid (Src w1 A2 l2 ys) := H2.out.keep hb1.block
         clear hb1
         obtain ⟨Z, hZ⟩ : ∃ Z, w1.heap.size = Z := ⟨_, rfl⟩
         have ZW : Hid (w.heap.size ≤ Z) := by show _ ≤ _; rw [← hZ]; exact B1.out.size
         have HZ := Lib.hid hZ)
      | fail)
    have E2 : Hid ((w1.alloc (Obj.cells #[.int .u8 p] 5)).heap.size = Z + 1) := by show _ = _; rw [← HZ.out]; simp
    have D1 := num4 l1 (w1.alloc (Obj.cells #[.int .u8 p] 5))
    refine D1.mono ?_
    clear D1
    rintro e w2 ⟨Aa, ca, rfl, hoa, hba⟩
    have OA : Hid (Src w2 Aa 4 (digs l1 4) ∧ 4 ≤ ca ∧ (Aa = none → ca = 0) ∧ ca ≤ maxLen) := src_own hoa
    have O2 : Hid (w2.ownsRow Z 5 1 (.slice (some ⟨Z, 0, none⟩) 1 1) 1 (bvals [p])) := by
      have := own_keepB (own_one w1 p) hba
      rw [HZ.out] at this
      exact this
    have B2 : Hid (Below Z w1 w2) := ((Below.refl Z w1).alloc (by rw [HZ.out]; exact Nat.le_refl _) _).trans (hba.mono (by rw [E2.out]; omega))
    have Z2 : Hid (Z ≤ w2.heap.size) := by show _ ≤ _; have := B2.out.size; have := HZ.out; omega
    clear hoa hba hZ
    go_wp2_with (first
      | (at_builtin
         refine wpList_app rfl (.tmp 21) (.tmp 24) 25 rfl i0 Tryd.underlying25 HI.out HI0.out HI1.out HI2.out Z 1 (.slice (some ⟨Z, 0, none⟩) 1 1) [p] rfl O2.out Aa 4 ca (digs l1 4) rfl OA.out.1 OA.out.2.2.1 (by unfold maxLen; omega) (by omega) Z2.out ?_
         intro Ab cb w3 hown hg _
         obtain ⟨n1, hn1⟩ : ∃ n1, 1 + 4 = n1 := ⟨_, rfl⟩
         rw [hn1] at hown ⊢
         have O3 := Lib.hid hown
         have HN1 := Lib.hid hn1
         have B3 : Hid (Below Z w1 w3) := B2.out.grown hg Z2.out (own_base O2.out)
         have Z3 : Hid (Z ≤ w3.heap.size) := by show _ ≤ _; have := B3.out.size; have := HZ.out; omega
         have X3 : Hid (Src w3 A1 l1 xs) := X1.out.keep (fun k hk => B3.out.block k (by have := HZ.out; omega))
         clear hown hg hn1)
      | (at_builtin
         refine wpList_app rfl (.tmp 26) (.tmp 27) 25 rfl i0 Tryd.underlying25 HI.out HI0.out HI1.out HI2.out Z n1 (.slice Ab n1 cb) ([p] ++ digs l1 4) rfl O3.out A1 l1 c1 xs rfl X3.out N1.out (by have := HN1.out; unfold maxLen; omega) (by have := HN1.out; omega) Z3.out ?_
         intro Ac cc w4 hown hg _
         obtain ⟨n2, hn2⟩ : ∃ n2, n1 + l1 = n2 := ⟨_, rfl⟩
         rw [hn2] at hown ⊢
         have O4 := Lib.hid hown
         have HN2 := Lib.hid hn2
         have B4 : Hid (Below Z w1 w4) := B3.out.grown hg Z3.out (own_base O3.out)
         have Z4 : Hid (Z ≤ w4.heap.size) := by show _ ≤ _; have := B4.out.size; have := HZ.out; omega
         clear hown hg hn2)
      | (go_at_call 21
         refine (num4 l2 w4).mono ?_
         rintro e w5 ⟨Ad, cd, rfl, hod, hbd⟩
         have OD : Hid (Src w5 Ad 4 (digs l2 4) ∧ 4 ≤ cd ∧ (Ad = none → cd = 0) ∧ cd ≤ maxLen) := src_own hod
         have O5 := Lib.hid (own_keepB O4.out hbd)
         have B5 : Hid (Below Z w1 w5) := B4.out.trans (hbd.mono Z4.out)
         have Z5 : Hid (Z ≤ w5.heap.size) := by show _ ≤ _; have := B5.out.size; have := HZ.out; omega
         clear hod hbd)
      | (at_builtin
         refine wpList_app rfl (.tmp 28) (.tmp 31) 25 rfl i0 Tryd.underlying25 HI.out HI0.out HI1.out HI2.out Z n2 (.slice Ac n2 cc) ([p] ++ digs l1 4 ++ xs) rfl O5.out Ad 4 cd (digs l2 4) rfl OD.out.1 OD.out.2.2.1 (by have := HN1.out; have := HN2.out; unfold maxLen; omega) (by have := HN1.out; have := HN2.out; omega) Z5.out ?_
         intro Ae ce w6 hown hg _
         obtain ⟨n3, hn3⟩ : ∃ n3, n2 + 4 = n3 := ⟨_, rfl⟩
         rw [hn3] at hown ⊢
         have O6 := Lib.hid hown
         have HN3 := Lib.hid hn3
         have B6 : Hid (Below Z w1 w6) := B5.out.grown hg Z5.out (own_base O5.out)
         have Z6 : Hid (Z ≤ w6.heap.size) := by show _ ≤ _; have := B6.out.size; have := HZ.out; omega
         have Y6 : Hid (Src w6 A2 l2 ys) := Y1.out.keep (fun k hk => B6.out.block k (by have := HZ.out; omega))
         clear hown hg hn3)
      | (at_builtin
         refine wpList_app rfl (.tmp 32) (.tmp 33) 25 rfl i0 Tryd.underlying25 HI.out HI0.out HI1.out HI2.out Z n3 (.slice Ae n3 ce) ([p] ++ digs l1 4 ++ xs ++ digs l2 4) rfl O6.out A2 l2 c2 ys rfl Y6.out N2.out (by have := HN1.out; have := HN2.out; have := HN3.out; unfold maxLen; omega) (by have := HN1.out; have := HN2.out; have := HN3.out; omega) Z6.out ?_
         intro Af cf w7 hown hg _
         obtain ⟨n4, hn4⟩ : ∃ n4, n3 + l2 = n4 := ⟨_, rfl⟩
         rw [hn4] at hown ⊢
         have HN4 : Hid (n4 = 9 + l1 + l2) := by show _ = _; have := HN1.out; have := HN2.out; have := HN3.out; omega
         obtain ⟨m, hm⟩ : ∃ m, [p] ++ digs l1 4 ++ xs ++ digs l2 4 ++ ys = m := ⟨_, rfl⟩
         rw [hm] at hown
         have HMM := Lib.hid hm
         have O7 := Lib.hid hown
         have S7 : Hid (Src w7 Af n4 m ∧ n4 ≤ cf ∧ (Af = none → cf = 0) ∧ cf ≤ maxLen) := src_own hown
         have B7 : Hid (Below Z w1 w7) := B6.out.grown hg Z6.out (own_base O6.out)
         have Z7 : Hid (Z ≤ w7.heap.size) := by show _ ≤ _; have := B7.out.size; have := HZ.out; omega
         have ZP : Hid (0 < Z) := by have := ZW.out; have := HP.out; show _ < _; omega
         have C9 := Lib.hid (c9 Af n4 cf m w7 (keys_below K1.out B7.out ZP.out) S7.out.1 (by have := HN4.out; omega) S7.out.2.1 (by have := S7.out.2.2.2; unfold maxLen at this; omega))
         clear hown hg hn4 hm)
      | (go_at_call 9
         refine C9.out.mono ?_
         rintro e w8 ⟨rfl, hb8⟩
         have B8 : Hid (Below Z w1 w8) := B7.out.trans (hb8.mono Z7.out)
         have S8 : Hid (Src w8 Af n4 m) := S7.out.1.keep hb8.block
         clear hb8
         obtain ⟨Y, hY⟩ : ∃ Y, w8.heap.size = Y := ⟨_, rfl⟩
         have ZY : Hid (Z ≤ Y) := by show _ ≤ _; have := B8.out.size; have := HZ.out; omega)
      | (refine wpList_store_rowTo rfl 23 (.tmp 8) (.tmp 36) rfl rfl Y (ba (sha m)) rfl rfl 23 (ba (zeros 32)) (by subst hY; exact heap_alloc_last w8 _) (sz s23 (by rw [ba_size, sha_len])) (by rw [ba_size, ba_size, sha_len]; rfl) (ba_one _) ?_
         have Y0 : (w8.alloc (Obj.cells (ba (zeros 32)) 23)).heap[Y]? = some (.cells (ba (zeros 32)) 23 (0, 0)) := by subst hY; exact heap_alloc_last w8 _
         generalize hq : (w8.alloc (Obj.cells (ba (zeros 32)) 23)).setRow Y (ba (sha m)) = w9
         have R9 : Hid (BA w9 Y 23 (sha m)) := by rw [← hq]; exact setRow_heap _ _ _ _ _ _ Y0
         have BB9 : Hid (Below Y w8 w9) := by rw [← hq]; subst hY; exact below_setRow ((Below.refl _ w8).alloc (Nat.le_refl _) _) (Nat.le_refl _) _
         have S9 : Hid (Src w9 Af n4 m) := S8.out.keep (fun k hk => BB9.out.block k (by rw [← hY]; exact hk))
         have B9 : Hid (Below Z w1 w9) := B8.out.trans (BB9.out.mono ZY.out)
         clear hq Y0 hY
         obtain ⟨V, hV⟩ : ∃ V, w9.heap.size = V := ⟨_, rfl⟩)
      | fail)
    have RA : Hid (BA (w9.alloc (Obj.cells (ba (zeros 8)) 27)) V 27 (zeros 8)) := by subst hV; exact heap_alloc_last w9 _
    have BV : Hid (Below V w9 (w9.alloc (Obj.cells (ba (zeros 8)) 27))) := by subst hV; exact (Below.refl _ w9).alloc (Nat.le_refl _) _
    have YV : Hid (Y < V) := by show _ < _; rw [← hV]; exact lt_of_block R9.out
    have SV : Hid (∀ k, k < w9.heap.size → k < V) := fun k hk => by omega
    obtain ⟨x0, x1, x2, x3, x4, x5, x6, x7, h8, _⟩ := sum8 m
    have H8 := Lib.hid h8
    clear h8
    generalize w9.alloc (Obj.cells (ba (zeros 8)) 27) = wA at *
    have RS : Hid (BA wA Y 23 (sha m)) := (BV.out.block Y YV.out).trans R9.out
    go_still_tail 2, (by kernel_rfl)
    change wpList _ _ _ _ _ wA.drew
    refine wpList_copy_own rfl (.tmp 37) (.tmp 38) 25 25 rfl 5 Tryd.underlying25 info5s V 0 8 8 ⟨Y, 0, none⟩ 8 32 rfl rfl (ba (zeros 8)) 27 RA.out (bvals [x0, x1, x2, x3, x4, x5, x6, x7]) (by simp [bvals]) (fun j u hu => by
      rw [Addr.add_mid, Nat.zero_add]
      have hj : j < 8 := by
        have := (List.getElem?_eq_some_iff.1 hu).1
        simpa [bvals] using this
      show wA.cell? _ = _
      rw [ba_cell RS.out j (by rw [sha_len]; omega), ← hu, ← H8.out]
      simp [bvals, List.getD, hj]
      rw [List.getElem?_eq_getElem (by rw [sha_len]; omega)]
      simp) (by simp [bvals, ba_size, zeros]) (bvals_one _) ?_
    rw [copied [x0, x1, x2, x3, x4, x5, x6, x7] rfl]
    generalize hq : wA.drew.setRow V (ba [x0, x1, x2, x3, x4, x5, x6, x7]) = wB
    have RB : Hid (BA wB V 27 [x0, x1, x2, x3, x4, x5, x6, x7]) := by rw [← hq]; exact setRow_heap wA.drew _ _ _ _ _ RA.out
    have BB : Hid (Below V w9 wB) := by rw [← hq]; exact below_setRow BV.out.drew (Nat.le_refl _) _
    have RSB : Hid (BA wB Y 23 (sha m)) := (BB.out.block Y YV.out).trans R9.out
    have SB : Hid (Src wB Af n4 m) := S9.out.keep (fun k hk => BB.out.block k (SV.out k hk))
    have BZB : Hid (Below Z w1 wB) := B9.out.trans (BB.out.mono (by have := ZY.out; have := YV.out; omega))
    clear hq RA BV RS
    obtain ⟨G, hG⟩ : ∃ G, wB.heap.size = G := ⟨_, rfl⟩
    have ZB : Hid (Z ≤ wB.heap.size) := by show _ ≤ _; have := BZB.out.size; have := HZ.out; omega
    have BO : Hid (∀ w' : World, w'.heap = (wB.alloc (Obj.cells #[.slice A1 l1 c1, .slice A2 l2 c2] 25)).heap → ∀ k, k < wB.heap.size → w'.heap[k]? = wB.heap[k]?) := fun w' hh k hk => by rw [hh]; exact Below.heap_alloc wB _ k hk
    have CO : Hid (∀ w' : World, w'.heap = (wB.alloc (Obj.cells #[.slice A1 l1 c1, .slice A2 l2 c2] 25)).heap → Calls Tryd.prog 10 #[.int .u8 p, .slice (some ⟨G, 0, none⟩) 2 2] w' fun e w'' => e = .returned (.agg #[.int .u8 x0, .int .u8 x1, .int .u8 x2, .int .u8 x3, .int .u8 x4, .int .u8 x5, .int .u8 x6, .int .u8 x7]) ∧ Below w'.heap.size w' w'') := fun w' hh => by
      have hkk := BO.out w' hh
      have hlast : w'.heap[G]? = some (.cells #[.slice A1 l1 c1, .slice A2 l2 c2] 25 (0, 0)) := by rw [hh, ← hG]; exact heap_alloc_last wB _
      have hK : Keys w' := fun i hi => by
        rw [World.cell?_of_block (w := wB) (w' := w') (a := ⟨0, i, none⟩) (hkk 0 (by have := ZB.out; have := ZP.out; omega))]
        exact (keys_below K1.out BZB.out ZP.out) i hi
      have hP : Prts w' (some ⟨G, 0, none⟩) 2 (fun i => if i = 0 then A1 else A2) (fun i => if i = 0 then l1 else l2) (fun i => if i = 0 then c1 else c2) (fun i => if i = 0 then xs else ys) := by
        refine ⟨.inr ⟨G, 0, rfl, fun i hi => ?_⟩, fun i hi => ?_, fun i hi => ?_⟩
        · rw [cell_of_row w' G (0 + i) _ 25 (0, 0) hlast]
          match i, hi with
          | 0, _ => rfl
          | 1, _ => rfl
        · match i, hi with
          | 0, _ => exact (X1.out.keep (fun k hk => BZB.out.block k (by have := HZ.out; omega))).keep hkk
          | 1, _ => exact (Y1.out.keep (fun k hk => BZB.out.block k (by have := HZ.out; omega))).keep hkk
        · match i, hi with
          | 0, _ => exact ⟨hl1, hc1⟩
          | 1, _ => exact ⟨hl2, hc2⟩
      have hm2 : msg p (fun i => if i = 0 then l1 else l2) (fun i => if i = 0 then xs else ys) 2 = m := by rw [msg2, ← HMM.out]; rfl
      have hml : m.length = n4 := S7.out.1.1
      have := c10 p (some ⟨G, 0, none⟩) 2 2 _ _ _ _ w' hK hP (by rw [hm2, hml]; have := HN4.out; omega)
      rw [hm2, H8.out, ba_lit] at this
      exact this
    have hu23 := Tryd.underlying23
    have hi23 : (Tryd.prog.info? 23).map (·.size) = some (bvals (sha m)).length := by rw [s23]; simp [bvals, sha_len]
    have KF : Hid (∀ w' : World, (∀ k, k < wB.heap.size → w'.heap[k]? = wB.heap[k]?) → w'.rangeAt Y 0 (bvals (sha m)) ∧ (w'.cell? ⟨V, 0, none⟩ = some (.int .u8 x0) ∧ w'.cell? ⟨V, 1, none⟩ = some (.int .u8 x1) ∧ w'.cell? ⟨V, 2, none⟩ = some (.int .u8 x2) ∧ w'.cell? ⟨V, 3, none⟩ = some (.int .u8 x3) ∧ w'.cell? ⟨V, 4, none⟩ = some (.int .u8 x4) ∧ w'.cell? ⟨V, 5, none⟩ = some (.int .u8 x5) ∧ w'.cell? ⟨V, 6, none⟩ = some (.int .u8 x6) ∧ w'.cell? ⟨V, 7, none⟩ = some (.int .u8 x7))) := fun w' hkk =>
      ⟨ba_range (t := 23) ((hkk Y (lt_of_block RSB.out)).trans RSB.out), cells8 (t := 27) _ _ _ _ _ _ _ _ ((hkk V (lt_of_block RB.out)).trans RB.out)⟩
    obtain ⟨pY, p0, p1, p2, p3, p4, p5, p6, p7⟩ := KF.out wB (fun _ _ => rfl)
    have eT := eqT x0 x1 x2 x3 x4 x5 x6 x7
    have eS := eqS m
    go_wp2_with fail
    go_region_held3 (fun w' => w'.rangeAt Y 0 (bvals (sha m)) ∧ (w'.cell? ⟨V, 0, none⟩ = some (.int .u8 x0) ∧ w'.cell? ⟨V, 1, none⟩ = some (.int .u8 x1) ∧ w'.cell? ⟨V, 2, none⟩ = some (.int .u8 x2) ∧ w'.cell? ⟨V, 3, none⟩ = some (.int .u8 x3) ∧ w'.cell? ⟨V, 4, none⟩ = some (.int .u8 x4) ∧ w'.cell? ⟨V, 5, none⟩ = some (.int .u8 x5) ∧ w'.cell? ⟨V, 6, none⟩ = some (.int .u8 x6) ∧ w'.cell? ⟨V, 7, none⟩ = some (.int .u8 x7))) (first | exact K9.out | exact K8.out | exact KF.out _ (BO.out _ (by rfl)) | exact KF.out _ (fun _ _ => rfl) | go_keep)
      (first
        | (go_at_call 10; refine (CO.out _ (by rfl)).mono ?_; rintro e wz ⟨rfl, hbz⟩; have KZ : Hid (∀ k, k < wB.heap.size → wz.heap[k]? = wB.heap[k]?) := fun k hk => (hbz.block k (by simp; omega)).trans (BO.out _ (by rfl) k hk); have BZ2 : Hid (Below Z w1 wz) := (BZB.out.alloc ZB.out _).drew.trans (hbz.mono (by have := ZB.out; simp; omega)); have SZ : Hid (Src wz Af n4 m) := SB.out.keep KZ.out; have WZ : Hid (wB.heap.size ≤ wz.heap.size) := (by show _ ≤ _; have := hbz.size; simp at this; omega); have K8 := Lib.hid (KF.out wz KZ.out); have C13 := Lib.hid (H13.out Af n4 cf m wz SZ.out S7.out.2.2.1 (by have := HN4.out; omega)); have ZZ2 : Hid (Z ≤ wz.heap.size) := (by show _ ≤ _; have := BZ2.out.size; have := HZ.out; omega); clear hbz)
        | (go_at_call 13; refine C13.out.mono ?_; rintro e wy ⟨rfl, hby⟩; have BY2 : Hid (Below Z w1 wy) := BZ2.out.trans (hby.mono ZZ2.out); have K9 := Lib.hid (KF.out wy (fun k hk => (hby.block k (Nat.lt_of_lt_of_le hk WZ.out)).trans (KZ.out k hk))); clear hby))
    rename_i hHeld
    clear hHeld K8 K9 eT eS
    go_wp2
    go_ret
    exact ⟨rfl, B1.out.trans (BY2.out.mono ZW.out)⟩
  · have hor : 2000 < l1 ∨ 2000 < l2 := by omega
    rcases hor with h | h
    · have q1 : (2000 : Int) < (l1 : Int) := by omega
      go_enter Tryd.func6, Tryd.ntmps6
      go_wp2_with (go_at_call 8; refine C8.out.mono ?_; rintro e w1 ⟨rfl, hb1⟩; have B1 := Lib.hid hb1; clear hb1)
      go_ret
      exact ⟨rfl, B1.out⟩
    · have q1 : (2000 : Int) < (l2 : Int) := by omega
      by_cases h1 : 2000 < l1
      · have q0 : (2000 : Int) < (l1 : Int) := by omega
        go_enter Tryd.func6, Tryd.ntmps6
        go_wp2_with (go_at_call 8; refine C8.out.mono ?_; rintro e w1 ⟨rfl, hb1⟩; have B1 := Lib.hid hb1; clear hb1)
        go_ret
        exact ⟨rfl, B1.out⟩
      · have q0 : ¬ (2000 : Int) < (l1 : Int) := by omega
        go_enter Tryd.func6, Tryd.ntmps6
        go_wp2_with (go_at_call 8; refine C8.out.mono ?_; rintro e w1 ⟨rfl, hb1⟩; have B1 := Lib.hid hb1; clear hb1)
        go_ret
        exact ⟨rfl, B1.out⟩
end Go.Proofs.YtimhjofnaoljjaaDoor
