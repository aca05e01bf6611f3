/-
  ReadHash.
-/
import Derived.Test.YtimhjofnaoljjaaDoorW25
namespace Go.Proofs.YtimhjofnaoljjaaDoor
open Go.RowKit
attribute [local irreducible] ba ua dv rdL rdV okT okU prB rdB
set_option maxRecDepth 100000 in
set_option maxHeartbeats 2000000 in
theorem c18 (s : ByteArray) (l : List UInt8) (w : World) (hl : s.data.toList = l) :
    Calls Tryd.prog 18 #[.string s] w fun e w' => e = .returned (.tuple #[.agg (ba (rdV l)), .bool (okT l)]) ∧ Below w.heap.size w w' := by
  have HL := Lib.hid hl
  have hsz : l.length = s.size := by rw [← hl]; simp
  have HSZ := Lib.hid hsz
  have hb8 := bt8
  have h27 := z27
  clear hl hsz
  obtain ⟨S, hS⟩ : ∃ S, w.heap.size = S := ⟨_, rfl⟩
  have T0 : Hid (BA (w.alloc (Obj.cells (ba (zeros 8)) 27)) S 27 (zeros 8)) := by subst hS; exact heap_alloc_last w _
  have T1 : Hid (BA ((w.alloc (Obj.cells (ba (zeros 8)) 27)).alloc (Obj.cells (ba (zeros 8)) 27)) (S + 1) 27 (zeros 8)) := by
    subst hS
    have := heap_alloc_last (w.alloc (Obj.cells (ba (zeros 8)) 27)) (Obj.cells (ba (zeros 8)) 27)
    simp only [World.size_alloc] at this
    exact this
  have T2 : Hid (BA ((w.alloc (Obj.cells (ba (zeros 8)) 27)).alloc (Obj.cells (ba (zeros 8)) 27)) S 27 (zeros 8)) := (Below.heap_alloc _ _ _ (lt_of_block T0.out)).trans T0.out
  have B0 : Hid (Below S w ((w.alloc (Obj.cells (ba (zeros 8)) 27)).alloc (Obj.cells (ba (zeros 8)) 27))) := by subst hS; exact ((Below.refl _ w).alloc (Nat.le_refl _) _).alloc (by simp) _
  have HS := Lib.hid hS
  by_cases h16 : s.size = 16
  · have HL16 : Hid (l.length = 16) := by show _ = _; rw [HSZ.out, h16]
    go_enter Tryd.func18, Tryd.ntmps18
    go_wp2_with fail
    generalize (w.alloc (Obj.cells (ba (zeros 8)) 27)).alloc (Obj.cells (ba (zeros 8)) 27) = w0 at *
    clear T0 hS
    go_loopw [5, 6, 7] (fun i _ _ wr => ∃ k : Nat, k ≤ 8 ∧ i = .int .i64 k ∧ okU l k = true ∧ BA wr S 27 (zeros 8) ∧ BA wr (S + 1) 27 (rdL l k ++ zeros (8 - k)) ∧ Below S w wr) (fun i _ _ _ => 8 - (intOf i).toNat)
    case atStart => exact ⟨0, by omega, rfl, by unfold okU; rfl, T2.out, by unfold rdL; exact T1.out, B0.out⟩
    case round =>
      clear T1 T2 B0
      obtain ⟨k, hk, rfl, hok, hR, hU, hbel⟩ := hrel
      have HOK := Lib.hid hok
      have RR := Lib.hid hR
      have UU := Lib.hid hU
      have BB := Lib.hid hbel
      clear hok hR hU hbel
      by_cases hlt : k < 8
      · obtain ⟨a, ha⟩ : ∃ a, l.getD (2 * k) 0 = a := ⟨_, rfl⟩
        obtain ⟨b, hb⟩ : ∃ b, l.getD (2 * k + 1) 0 = b := ⟨_, rfl⟩
        obtain ⟨p, hp⟩ : ∃ p, 2 * k = p := ⟨_, rfl⟩
        obtain ⟨p1, hp1⟩ : ∃ p1, 2 * k + 1 = p1 := ⟨_, rfl⟩
        have hix : ∀ (q : Nat) (c : UInt8), q < 16 → l.getD q 0 = c → ∀ w, (Instr.index 9 (.string s) (.int .i64 (q : Int))).run Tryd.prog w = .ok (.int .u8 (c.toNat : Int)) w := by
          intro q c hq hc w
          rw [run_index_string w 9 s .i64 q Tryd.underlying9, dif_pos (by omega)]
          have : s[((q : Int)).toNat]'(by omega) = c := by
            rw [← hc, ← HL.out]
            exact (getD_str s q (by omega)).symm
          rw [this]
        have i0 := hix p a (by omega) (by rw [← hp]; exact ha)
        have i1 := hix p1 b (by omega) (by rw [← hp1]; exact hb)
        have HPR : Hid (prB l k = (decide (0 ≤ dv a) && decide (0 ≤ dv b))) := by show _ = _; unfold prB; rw [ha, hb]
        have HRD : Hid (rdB l k = 16 * dv a + dv b) := by show _ = _; unfold rdB; rw [ha, hb]
        have e0 : 2 * (k : Int) = (p : Int) := by omega
        have e1 : (p : Int) + 1 = (p1 : Int) := by omega
        have v0 : IntKind.i64.wrap (p : Int) = p := by rw [IntKind.wrap_i64]; omega
        have v1 : IntKind.i64.wrap (p1 : Int) = p1 := by rw [IntKind.wrap_i64]; omega
        obtain ⟨a0, a1⟩ := dv_rng a
        obtain ⟨b0, b1⟩ := dv_rng b
        clear ha hb hp hp1 hix
        by_cases hx : 0 ≤ dv a
        · by_cases hy : 0 ≤ dv b
          · go_wp2_with fail
            go_quiet ((go_at_call 31; exact Calls.quiet_of_same (c31 _ _)))
            generalize hq : wr.drewN _ = wq
            have RQ : Hid (BA wq S 27 (zeros 8)) := by rw [← hq]; exact RR.out
            have UQ : Hid (BA wq (S + 1) 27 (rdL l k ++ zeros (8 - k))) := by rw [← hq]; exact UU.out
            have BQ : Hid (Below S w wq) := by rw [← hq]; exact below_drewN BB.out _
            clear hq RR UU BB
            have c0 := ba_cell UQ.out k (by rw [List.length_append, rdL_len, zeros_len]; omega)
            have f0 := free_of UQ.out k
            obtain ⟨z, hz⟩ : ∃ z, 16 * dv a + dv b = z := ⟨_, rfl⟩
            have HZ := Lib.hid hz
            have z0 : 0 ≤ z := by omega
            have z1 : z < 256 := by omega
            have N1 : Hid (BA (wq.setCell ⟨S + 1, k, none⟩ (.int .u8 z)) (S + 1) 27 (rdL l (k + 1) ++ zeros (8 - (k + 1)))) := by
              have := ba_set UQ.out k z
              rw [set_pad _ _ _ _ (rdL_len l k) (by omega)] at this
              show BA _ _ _ _
              rw [rdL1, HRD.out, HZ.out]
              exact this
            have N2 : Hid (BA (wq.setCell ⟨S + 1, k, none⟩ (.int .u8 z)) S 27 (zeros 8)) := heap_else k _ (by omega) RQ.out
            have N3 : Hid (Below S w (wq.setCell ⟨S + 1, k, none⟩ (.int .u8 z))) := BQ.out.setCell (by show S ≤ S + 1; omega) _
            have N4 : Hid (okU l (k + 1) = true) := by
              show _ = _
              rw [okU1, HOK.out, HPR.out, decide_eq_true hx, decide_eq_true hy]
              rfl
            clear RQ UQ BQ HOK
            go_wp2_with fail
            go_roundw
            case rel => exact ⟨k + 1, by omega, by go_num, N4.out, N2.out, N1.out, N3.out⟩
            case measure => simp [intOf]; omega
          · have hbad : okT l = false := okT_bad l k hlt (by rw [HPR.out, decide_eq_false hy]; simp)
            have HBAD := Lib.hid hbad
            clear hbad
            go_wp2_with fail
            go_quiet ((go_at_call 31; exact Calls.quiet_of_same (c31 _ _)))
            generalize hq : wr.drewN _ = wq
            have RQ : Hid (BA wq S 27 (zeros 8)) := by rw [← hq]; exact RR.out
            have UQ : Hid (BA wq (S + 1) 27 (rdL l k ++ zeros (8 - k))) := by rw [← hq]; exact UU.out
            have BQ : Hid (Below S w wq) := by rw [← hq]; exact below_drewN BB.out _
            clear hq RR UU BB
            go_wp2_with (first | (refine wpList_store_rowTo rfl 27 (.tmp 2) (.tmp 33) rfl rfl S (ba (zeros 8)) rfl rfl 27 (ba (zeros 8)) RQ.out (sz s27 (by rw [ba_size]; rfl)) rfl (ba_one _) ?_))
            exact bodyPost_ret (v := .tuple #[.agg (ba (zeros 8)), .bool false]) (res2 rfl _ _ S 27 _ (0, 0) _ rfl (setRow_heap _ _ _ _ _ _ RQ.out) Tryd.underlying27 rfl (sz s27 (by rw [ba_size]; rfl)) (.bool false) rfl) rfl ⟨by rw [rdV_bad HBAD.out, HBAD.out], by rw [HS.out]; exact below_setRow BQ.out (Nat.le_refl _) _⟩
        · have hbad : okT l = false := okT_bad l k hlt (by rw [HPR.out, decide_eq_false hx]; simp)
          have HBAD := Lib.hid hbad
          clear hbad
          go_wp2_with fail
          go_quiet ((go_at_call 31; exact Calls.quiet_of_same (c31 _ _)))
          generalize hq : wr.drewN _ = wq
          have RQ : Hid (BA wq S 27 (zeros 8)) := by rw [← hq]; exact RR.out
          have UQ : Hid (BA wq (S + 1) 27 (rdL l k ++ zeros (8 - k))) := by rw [← hq]; exact UU.out
          have BQ : Hid (Below S w wq) := by rw [← hq]; exact below_drewN BB.out _
          clear hq RR UU BB
          go_wp2_with (first | (refine wpList_store_rowTo rfl 27 (.tmp 2) (.tmp 33) rfl rfl S (ba (zeros 8)) rfl rfl 27 (ba (zeros 8)) RQ.out (sz s27 (by rw [ba_size]; rfl)) rfl (ba_one _) ?_))
          exact bodyPost_ret (v := .tuple #[.agg (ba (zeros 8)), .bool false]) (res2 rfl _ _ S 27 _ (0, 0) _ rfl (setRow_heap _ _ _ _ _ _ RQ.out) Tryd.underlying27 rfl (sz s27 (by rw [ba_size]; rfl)) (.bool false) rfl) rfl ⟨by rw [rdV_bad HBAD.out, HBAD.out], by rw [HS.out]; exact below_setRow BQ.out (Nat.le_refl _) _⟩
      · obtain rfl : k = 8 := by omega
        have HOT : Hid (okT l = true) := by
          show _ = _
          unfold okT
          rw [HOK.out, decide_eq_true HL16.out]
          rfl
        have UE : Hid (BA wr (S + 1) 27 (rdL l 8)) := by
          have : BA wr (S + 1) 27 (rdL l 8 ++ zeros 0) := UU.out
          rw [show rdL l 8 ++ zeros 0 = rdL l 8 by simp [zeros]] at this
          exact this
        clear UU HOK
        go_wp2_with (first
          | (refine wpList_load_row rfl 27 (.tmp 4) rfl (S + 1) rfl 27 (ba (rdL l 8)) (0, 0) _ UE.out Tryd.underlying27 rfl (sz s27 (by rw [ba_size, rdL_len])) ?_)
          | (refine wpList_store_rowTo rfl 27 (.tmp 2) (.tmp 41) rfl rfl S (ba (rdL l 8)) rfl rfl 27 (ba (zeros 8)) RR.out (sz s27 (by rw [ba_size, rdL_len])) (by rw [ba_size, ba_size, rdL_len]; rfl) (ba_one _) ?_))
        exact bodyPost_ret (v := .tuple #[.agg (ba (rdL l 8)), .bool true]) (res2 rfl _ _ S 27 _ (0, 0) _ rfl (setRow_heap _ _ _ _ _ _ RR.out) Tryd.underlying27 rfl (sz s27 (by rw [ba_size, rdL_len])) (.bool true) rfl) rfl ⟨by rw [rdV_ok HOT.out, HOT.out], by rw [HS.out]; exact below_setRow BB.out (Nat.le_refl _) _⟩
  · have hbad : okT l = false := by
      have : ¬ l.length = 16 := by rw [HSZ.out]; exact h16
      unfold okT
      rw [decide_eq_false this]
      rfl
    have HBAD := Lib.hid hbad
    have RR := T2
    have BB := B0
    have hn : ¬ (s.size : Int) = 16 := by omega
    clear hbad h16
    go_enter Tryd.func18, Tryd.ntmps18
    go_wp2_with (first
      | (refine wpList_load_row rfl 27 (.tmp 4) rfl (S + 1) rfl 27 (ba (zeros 8)) (0, 0) _ T1.out Tryd.underlying27 rfl (sz s27 (by rw [ba_size]; rfl)) ?_)
      | (refine wpList_store_rowTo rfl 27 (.tmp 2) (.tmp 11) rfl rfl S (ba (zeros 8)) rfl rfl 27 (ba (zeros 8)) RR.out (sz s27 (by rw [ba_size]; rfl)) rfl (ba_one _) ?_))
    exact bodyPost_ret (v := .tuple #[.agg (ba (zeros 8)), .bool false]) (res2 rfl _ _ S 27 _ (0, 0) _ rfl (setRow_heap _ _ _ _ _ _ RR.out) Tryd.underlying27 rfl (sz s27 (by rw [ba_size]; rfl)) (.bool false) rfl) rfl ⟨by rw [rdV_bad HBAD.out, HBAD.out], by rw [HS.out]; exact below_setRow BB.out (Nat.le_refl _) _⟩
end Go.Proofs.YtimhjofnaoljjaaDoor
