/-
  The document's CheckLeaf.
-/
import Derived.Test.YtgagcblddcibkaaDoorS34
import Derived.Test.YtgagcblddcibkaaDoorS15
import Derived.Deep.RegionWith
import Derived.Deep.DeepCutAuto
namespace Go.Proofs.YtgagcblddcibkaaDoor
open Go.RowKit
open Go.Maps
theorem bn (q : Nat) (h : q < 65536) : bits .and .i64 (q : Int) 1 = ((q % 2 : Nat) : Int) := by
  have e1 : (BitVec.ofInt 64 (q : Int)).toNat = q := ofInt_u64 q (by omega)
  show IntKind.i64.wrap ((BitVec.ofInt 64 (q : Int) &&& BitVec.ofInt 64 ((1 : Nat) : Int)).toNat : Int) = _
  rw [BitVec.toNat_and, e1, ofInt_u64 1 (by omega)]
  rw [IntKind.wrap_i64]
  rw [Nat.and_one_is_mod]
  omega
theorem put8_any {w : World} {b : Nat} (x0 x1 x2 x3 x4 x5 x6 x7 y0 y1 y2 y3 y4 y5 y6 y7 : Int) (h : BA w b 29 [y0, y1, y2, y3, y4, y5, y6, y7]) : BA (put8 w b x0 x1 x2 x3 x4 x5 x6 x7) b 29 [x0, x1, x2, x3, x4, x5, x6, x7] := ba_set (ba_set (ba_set (ba_set (ba_set (ba_set (ba_set (ba_set h 0 x0) 1 x1) 2 x2) 3 x3) 4 x4) 5 x5) 6 x6) 7 x7
attribute [local irreducible] ua da ba kk sw S8.run rt hs comp splice outB sha msg twoM twoN ab MapIs mrow nd upF at8 bvals
set_option maxRecDepth 100000 in
set_option maxHeartbeats 4000000 in
theorem r18 (root leaf pr : List Int) (i : Nat) (w : World) (hk : Keys w) (hr : root.length = 8) (hl : leaf.length = 8) (hp : pr.length = 128) (hi : i < 65536) :
    Calls Tryd.prog 18 #[.agg (ba root), .int .i64 i, .agg (ba leaf), .agg (ba pr)] w fun e w' => e = .returned (.bool (decide (upF leaf i pr 16 = root))) ∧ Below w.heap.size w w' := by
  have h4 := z27
  have HK := Lib.hid hk
  have HP : Hid (0 < w.heap.size) := keys_pos hk
  have HR := Lib.hid hr
  have HL := Lib.hid hl
  have HPR := Lib.hid hp
  have HI : Hid (i < 65536) := hi
  obtain ⟨S, hS⟩ : ∃ S, w.heap.size = S := ⟨_, rfl⟩
  have HS := Lib.hid hS
  have KW : Hid (∀ w', Below S w w' → Keys w') := fun w' hb => keys_below HK.out hb (by rw [← HS.out]; exact HP.out)
  have R1 : Hid (BA (w.alloc (Obj.cells (ba root) 29)) S 29 root) := by subst hS; exact heap_alloc_last w _
  have L1 : Hid (BA ((w.alloc (Obj.cells (ba root) 29)).alloc (Obj.cells (ba leaf) 29)) (S + 1) 29 leaf) := by
    show _ = _
    subst hS
    have := heap_alloc_last (w.alloc (Obj.cells (ba root) 29)) (Obj.cells (ba leaf) 29)
    simp only [World.size_alloc] at this
    exact this
  have P1 : Hid (BA (((w.alloc (Obj.cells (ba root) 29)).alloc (Obj.cells (ba leaf) 29)).alloc (Obj.cells (ba pr) 30)) (S + 2) 30 pr) := by
    show _ = _
    subst hS
    have := heap_alloc_last ((w.alloc (Obj.cells (ba root) 29)).alloc (Obj.cells (ba leaf) 29)) (Obj.cells (ba pr) 30)
    simp only [World.size_alloc] at this
    exact this
  have L2 : Hid (BA (((w.alloc (Obj.cells (ba root) 29)).alloc (Obj.cells (ba leaf) 29)).alloc (Obj.cells (ba pr) 30)) (S + 1) 29 leaf) := (Below.heap_alloc _ _ _ (lt_of_block L1.out)).trans L1.out
  have R2 : Hid (BA (((w.alloc (Obj.cells (ba root) 29)).alloc (Obj.cells (ba leaf) 29)).alloc (Obj.cells (ba pr) 30)) S 29 root) := (Below.heap_alloc _ _ _ (by have := lt_of_block L1.out; omega)).trans ((Below.heap_alloc _ _ _ (lt_of_block R1.out)).trans R1.out)
  have B0 : Hid (Below S w (((w.alloc (Obj.cells (ba root) 29)).alloc (Obj.cells (ba leaf) 29)).alloc (Obj.cells (ba pr) 30))) := by subst hS; exact (((Below.refl _ w).alloc (Nat.le_refl _) _).alloc (by simp) _).alloc (by simp; omega) _
  have W0 : Hid ((((w.alloc (Obj.cells (ba root) 29)).alloc (Obj.cells (ba leaf) 29)).alloc (Obj.cells (ba pr) 30)).heap.size = S + 3) := by show _ = _; subst hS; simp
  have SD : Hid (∀ s : Nat, i / 2 ^ s < 65536) := fun s => Nat.lt_of_le_of_lt (Nat.div_le_self _ _) HI.out
  obtain ⟨I, hIi⟩ : ∃ I : Int, (i : Int) = I := ⟨_, rfl⟩
  have HII := Lib.hid hIi
  have i0 : (0 : Int) ≤ I := by omega
  have i1 : I < 65536 := by omega
  rw [hIi]
  obtain ⟨r, hr2⟩ : ∃ r, upF leaf i pr 16 = r := ⟨_, rfl⟩
  have HR2 := Lib.hid hr2
  have HRL : Hid (r.length = 8) := by rw [← hr2]; exact upF_len hl i pr 16
  rw [hr2]
  clear hk hr hl hp hi hr2 hIi
  go_enter Tryd.func18, Tryd.ntmps18
  go_upto_region 1 with (fail)
  clear hS R1 L1
  generalize ((w.alloc (Obj.cells (ba root) 29)).alloc (Obj.cells (ba leaf) 29)).alloc (Obj.cells (ba pr) 30) = w0 at *
  have A1 : Hid (BA (w0.alloc (Obj.cells (ba (zeros 8)) 29)) (S + 3) 29 (zeros 8)) := by show _ = _; rw [← W0.out]; exact heap_alloc_last w0 _
  have hW := W0.out
  have n0 : ¬ I < 0 := by omega
  have n1 : ¬ 65536 ≤ I := by omega
  go_wp2_with (first
    | (refine wpList_load_row rfl 29 (.tmp 6) rfl (S + 1) rfl 29 (ba leaf) (0, 0) _ L2.out Tryd.underlying29 rfl (sz s27 (by rw [ba_size, HL.out])) ?_)
    | (refine wpList_store_rowTo rfl 29 (.tmp 9) (.tmp 17) rfl rfl (S + 3) (ba leaf) rfl rfl 29 (ba (zeros 8)) A1.out (sz s27 (by rw [ba_size, HL.out])) (by rw [ba_size, ba_size, HL.out, zeros_len]) (ba_one _) ?_
       have B2 : Hid (Below (S + 3) w0 ((w0.alloc (Obj.cells (ba (zeros 8)) 29)).setRow (S + 3) (ba leaf))) := below_setRow ((Below.refl (S + 3) w0).alloc (by have := W0.out; omega) _) (Nat.le_refl _) _
       have A2 : Hid (BA ((w0.alloc (Obj.cells (ba (zeros 8)) 29)).setRow (S + 3) (ba leaf)) (S + 3) 29 leaf) := setRow_heap _ _ _ _ _ _ A1.out
       clear A1 hW
       generalize (w0.alloc (Obj.cells (ba (zeros 8)) 29)).setRow (S + 3) (ba leaf) = w2 at *
       have P2 : Hid (BA w2 (S + 2) 30 pr) := (B2.out.block _ (by omega)).trans P1.out
       have R3 : Hid (BA w2 S 29 root) := (B2.out.block _ (by omega)).trans R2.out
       have BS2 : Hid (Below S w w2) := B0.out.trans (B2.out.mono (by omega)))
    | fail)
  go_loopw [10] (fun c wr => ∃ s : Nat, s ≤ 16 ∧ c = .int .i64 s ∧ BA wr (S + 3) 29 (upF leaf i pr s) ∧ BA wr S 29 root ∧ BA wr (S + 2) 30 pr ∧ Below S w wr) (fun c _ => 16 - (intOf c).toNat)
  case atStart => exact ⟨0, by omega, rfl, by rw [upF_zero]; exact A2.out, R3.out, P2.out, BS2.out⟩
  case round =>
    clear A2 R3 BS2 B2 P2 L2 P1 R2 B0 W0
    obtain ⟨s, hs, rfl, ha, hr, hp, hb⟩ := hrel
    have RR := Lib.hid hr
    have BR := Lib.hid hb
    have PR := Lib.hid hp
    have AR0 := Lib.hid ha
    clear hr hb ha hp
    by_cases hlt : s < 16
    · obtain ⟨q, hq⟩ : ∃ q, i / 2 ^ s = q := ⟨_, rfl⟩
      obtain ⟨a, ha⟩ : ∃ a, upF leaf i pr s = a := ⟨_, rfl⟩
      obtain ⟨o, ho⟩ : ∃ o, at8 pr s = o := ⟨_, rfl⟩
      have HA : Hid (a.length = 8) := by rw [← ha]; exact upF_len HL.out i pr s
      have HO : Hid (o.length = 8) := by rw [← ho]; exact at8_len (n := 16) HPR.out hlt
      have AR : Hid (BA wr (S + 3) 29 a) := by rw [← ha]; exact AR0.out
      have hq6 : q < 65536 := by rw [← hq]; exact SD.out s
      have e1 : I / 2 ^ s = (q : Int) := by rw [← HII.out, ← hq]; push_cast; rfl
      have bq := bn q hq6
      have s0 : (0 : Int) ≤ (s : Int) := by omega
      have s1 : (s : Int) < 16 := by omega
      have ht : (s : Int).toNat = s := by omega
      have hmin : min s 64 = s := by omega
      have HS16 : Hid (s < 16) := hlt
      have q0 : (0 : Int) ≤ (q : Int) := by omega
      have q6 : (q : Int) < 65536 := by omega
      obtain ⟨a0, a1, a2, a3, a4, a5, a6, a7, ha8⟩ := c8cells a HA.out
      obtain ⟨o0, o1, o2, o3, o4, o5, o6, o7, ho8⟩ := c8cells o HO.out
      have HCE : Hid (∀ w' : World, BA w' (S + 3) 29 a → BA w' (S + 2) 30 pr → (w'.cell? ⟨S + 3, 0, none⟩ = some (.int .u8 a0) ∧ w'.cell? ⟨S + 3, 1, none⟩ = some (.int .u8 a1) ∧ w'.cell? ⟨S + 3, 2, none⟩ = some (.int .u8 a2) ∧ w'.cell? ⟨S + 3, 3, none⟩ = some (.int .u8 a3) ∧ w'.cell? ⟨S + 3, 4, none⟩ = some (.int .u8 a4) ∧ w'.cell? ⟨S + 3, 5, none⟩ = some (.int .u8 a5) ∧ w'.cell? ⟨S + 3, 6, none⟩ = some (.int .u8 a6) ∧ w'.cell? ⟨S + 3, 7, none⟩ = some (.int .u8 a7)) ∧ (w'.cell? ⟨S + 2, s * 8, none⟩ = some (.int .u8 o0) ∧ w'.cell? ⟨S + 2, s * 8 + 1, none⟩ = some (.int .u8 o1) ∧ w'.cell? ⟨S + 2, s * 8 + 2, none⟩ = some (.int .u8 o2) ∧ w'.cell? ⟨S + 2, s * 8 + 3, none⟩ = some (.int .u8 o3) ∧ w'.cell? ⟨S + 2, s * 8 + 4, none⟩ = some (.int .u8 o4) ∧ w'.cell? ⟨S + 2, s * 8 + 5, none⟩ = some (.int .u8 o5) ∧ w'.cell? ⟨S + 2, s * 8 + 6, none⟩ = some (.int .u8 o6) ∧ w'.cell? ⟨S + 2, s * 8 + 7, none⟩ = some (.int .u8 o7))) := fun w' h1 h2 => by
        refine ⟨cells8 (t := 29) a0 a1 a2 a3 a4 a5 a6 a7 (by rw [← ha8]; exact h1), ?_⟩
        have gg : ∀ c, c < 8 → w'.cell? ⟨S + 2, s * 8 + c, none⟩ = some (.int .u8 ([o0, o1, o2, o3, o4, o5, o6, o7].getD c 0)) := fun c h8 => by
          have hl : s * 8 + c < pr.length := by rw [HPR.out]; omega
          have h3 := ba_cell h2 (s * 8 + c) hl
          rw [h3, ← ho8, ← ho]
          unfold at8
          simp [List.getD, h8, Nat.mul_comm 8 s]
        exact ⟨gg 0 (by decide), gg 1 (by decide), gg 2 (by decide), gg 3 (by decide), gg 4 (by decide), gg 5 (by decide), gg 6 (by decide), gg 7 (by decide)⟩
      obtain ⟨⟨u0, u1, u2, u3, u4, u5, u6, u7⟩, ⟨v0, v1, v2, v3, v4, v5, v6, v7⟩⟩ := HCE.out wr AR.out PR.out
      have LR : Hid (S + 3 < wr.heap.size) := lt_of_block AR.out
      clear AR0
      rcases Nat.mod_two_eq_zero_or_one q with hpar | hpar
      · have HU : Hid (upF leaf i pr (s + 1) = ab a o) := by show _ = _; rw [upF_even (by rw [hq]; omega), ha, ho]
        have HAB : Hid ((ab a o).length = 8) := ab_len _ _
        obtain ⟨c0, c1, c2, c3, c4, c5, c6, c7, hc8⟩ := c8cells (ab a o) HAB.out
        have HC8 := Lib.hid hc8
        have C28 : Hid (∀ w', Below S w w' → Calls Tryd.prog 28 #[.agg #[.int .u8 a0, .int .u8 a1, .int .u8 a2, .int .u8 a3, .int .u8 a4, .int .u8 a5, .int .u8 a6, .int .u8 a7], .agg #[.int .u8 o0, .int .u8 o1, .int .u8 o2, .int .u8 o3, .int .u8 o4, .int .u8 o5, .int .u8 o6, .int .u8 o7]] w' fun e w'' => e = .returned (.agg #[.int .u8 c0, .int .u8 c1, .int .u8 c2, .int .u8 c3, .int .u8 c4, .int .u8 c5, .int .u8 c6, .int .u8 c7]) ∧ Below w'.heap.size w' w'') := fun w' hb => by
          have := p28 a o w' (KW.out w' hb) HA.out HO.out
          rw [hc8, ha8, ho8, ba_lit, ba_lit, ba_lit] at this
          exact this
        rw [hpar] at bq
        have HA8 := Lib.hid ha8
        clear hq hq6 hs hlt ha ho hpar ha8 ho8 hc8
        go_wp2_with fail
        go_region_with (go_at_call 28; refine (C28.out _ (by first | exact BR.out | exact BR.out.drew)).mono ?_; rintro e wa ⟨rfl, hba⟩; have KB : Hid (∀ k, k < wr.heap.size → wa.heap[k]? = wr.heap[k]?) := fun k hk => hba.block k hk; have AA : Hid (BA wa (S + 3) 29 a) := (KB.out _ LR.out).trans AR.out; have PA : Hid (BA wa (S + 2) 30 pr) := (KB.out _ (by have := LR.out; omega)).trans PR.out; have RA : Hid (BA wa S 29 root) := (KB.out _ (by have := LR.out; omega)).trans RR.out; have BA' : Hid (Below S w wa) := (by first | exact BR.out.trans (hba.mono (by have := LR.out; omega)) | exact BR.out.drew.trans (hba.mono (by have := LR.out; simp; omega))); clear hba; obtain ⟨⟨z0, z1, z2, z3, z4, z5, z6, z7⟩, _⟩ := HCE.out wa AA.out PA.out; have f0 := free_of AA.out)
        all_goals
          have AN : Hid (BA (put8 wa (S + 3) c0 c1 c2 c3 c4 c5 c6 c7) (S + 3) 29 (upF leaf i pr (s + 1))) := by rw [HU.out, HC8.out]; exact put8_any c0 c1 c2 c3 c4 c5 c6 c7 a0 a1 a2 a3 a4 a5 a6 a7 (by rw [← HA8.out]; exact AA.out)
          have PN : Hid (BA (put8 wa (S + 3) c0 c1 c2 c3 c4 c5 c6 c7) (S + 2) 30 pr) := (put8_else c0 c1 c2 c3 c4 c5 c6 c7 (by omega)).trans PA.out
          have RN : Hid (BA (put8 wa (S + 3) c0 c1 c2 c3 c4 c5 c6 c7) S 29 root) := (put8_else c0 c1 c2 c3 c4 c5 c6 c7 (by omega)).trans RA.out
          have BN : Hid (Below S w (put8 wa (S + 3) c0 c1 c2 c3 c4 c5 c6 c7)) := put8_below c0 c1 c2 c3 c4 c5 c6 c7 BA'.out (by omega)
          clear z0 z1 z2 z3 z4 z5 z6 z7 f0
          change Exit.inBlock 1 _ Exit.normal _ (put8 wa (S + 3) c0 c1 c2 c3 c4 c5 c6 c7)
          generalize put8 wa (S + 3) c0 c1 c2 c3 c4 c5 c6 c7 = wf at *
          go_wp2_with fail
          go_roundw
          case rel => exact ⟨s + 1, by have := HS16.out; omega, by go_num, AN.out, RN.out, PN.out, BN.out⟩
          case measure => have := HS16.out; simp [intOf]; omega
      · have HU : Hid (upF leaf i pr (s + 1) = ab o a) := by show _ = _; rw [upF_odd (by rw [hq]; omega), ha, ho]
        have HAB : Hid ((ab o a).length = 8) := ab_len _ _
        obtain ⟨c0, c1, c2, c3, c4, c5, c6, c7, hc8⟩ := c8cells (ab o a) HAB.out
        have HC8 := Lib.hid hc8
        have C28 : Hid (∀ w', Below S w w' → Calls Tryd.prog 28 #[.agg #[.int .u8 o0, .int .u8 o1, .int .u8 o2, .int .u8 o3, .int .u8 o4, .int .u8 o5, .int .u8 o6, .int .u8 o7], .agg #[.int .u8 a0, .int .u8 a1, .int .u8 a2, .int .u8 a3, .int .u8 a4, .int .u8 a5, .int .u8 a6, .int .u8 a7]] w' fun e w'' => e = .returned (.agg #[.int .u8 c0, .int .u8 c1, .int .u8 c2, .int .u8 c3, .int .u8 c4, .int .u8 c5, .int .u8 c6, .int .u8 c7]) ∧ Below w'.heap.size w' w'') := fun w' hb => by
          have := p28 o a w' (KW.out w' hb) HO.out HA.out
          rw [hc8, ho8, ha8, ba_lit, ba_lit, ba_lit] at this
          exact this
        rw [hpar] at bq
        have HA8 := Lib.hid ha8
        clear hq hq6 hs hlt ha ho hpar ha8 ho8 hc8
        go_wp2_with fail
        go_region_with (go_at_call 28; refine (C28.out _ (by first | exact BR.out | exact BR.out.drew)).mono ?_; rintro e wa ⟨rfl, hba⟩; have KB : Hid (∀ k, k < wr.heap.size → wa.heap[k]? = wr.heap[k]?) := fun k hk => hba.block k hk; have AA : Hid (BA wa (S + 3) 29 a) := (KB.out _ LR.out).trans AR.out; have PA : Hid (BA wa (S + 2) 30 pr) := (KB.out _ (by have := LR.out; omega)).trans PR.out; have RA : Hid (BA wa S 29 root) := (KB.out _ (by have := LR.out; omega)).trans RR.out; have BA' : Hid (Below S w wa) := (by first | exact BR.out.trans (hba.mono (by have := LR.out; omega)) | exact BR.out.drew.trans (hba.mono (by have := LR.out; simp; omega))); clear hba; obtain ⟨⟨z0, z1, z2, z3, z4, z5, z6, z7⟩, _⟩ := HCE.out wa AA.out PA.out; have f0 := free_of AA.out)
        all_goals
          have AN : Hid (BA (put8 wa (S + 3) c0 c1 c2 c3 c4 c5 c6 c7) (S + 3) 29 (upF leaf i pr (s + 1))) := by rw [HU.out, HC8.out]; exact put8_any c0 c1 c2 c3 c4 c5 c6 c7 a0 a1 a2 a3 a4 a5 a6 a7 (by rw [← HA8.out]; exact AA.out)
          have PN : Hid (BA (put8 wa (S + 3) c0 c1 c2 c3 c4 c5 c6 c7) (S + 2) 30 pr) := (put8_else c0 c1 c2 c3 c4 c5 c6 c7 (by omega)).trans PA.out
          have RN : Hid (BA (put8 wa (S + 3) c0 c1 c2 c3 c4 c5 c6 c7) S 29 root) := (put8_else c0 c1 c2 c3 c4 c5 c6 c7 (by omega)).trans RA.out
          have BN : Hid (Below S w (put8 wa (S + 3) c0 c1 c2 c3 c4 c5 c6 c7)) := put8_below c0 c1 c2 c3 c4 c5 c6 c7 BA'.out (by omega)
          clear z0 z1 z2 z3 z4 z5 z6 z7 f0
          change Exit.inBlock 1 _ Exit.normal _ (put8 wa (S + 3) c0 c1 c2 c3 c4 c5 c6 c7)
          generalize put8 wa (S + 3) c0 c1 c2 c3 c4 c5 c6 c7 = wf at *
          go_wp2_with fail
          go_roundw
          case rel => exact ⟨s + 1, by have := HS16.out; omega, by go_num, AN.out, RN.out, PN.out, BN.out⟩
          case measure => have := HS16.out; simp [intOf]; omega
    · obtain rfl : s = 16 := by omega
      have AF : Hid (BA wr (S + 3) 29 r) := by rw [← HR2.out]; exact AR0.out
      have fq := fun w => eqh r root w HRL.out HR.out
      clear AR0 hs hlt
      go_wp2_with (first
        | (refine wpList_load_row rfl 29 (.tmp 9) rfl (S + 3) rfl 29 (ba r) (0, 0) _ AF.out Tryd.underlying29 rfl (sz s27 (by rw [ba_size, HRL.out])) ?_)
        | (refine wpList_load_row rfl 29 (.tmp 4) rfl S rfl 29 (ba root) (0, 0) _ RR.out Tryd.underlying29 rfl (sz s27 (by rw [ba_size, HR.out])) ?_)
        | fail)
      go_ret
      exact ⟨rfl, by rw [HS.out]; exact BR.out⟩
set_option maxRecDepth 100000 in
set_option maxHeartbeats 4000000 in
theorem r18no (root leaf pr : List Int) (i : Int) (w : World) (hno : ¬ (0 ≤ i ∧ i < 65536)) :
    Calls Tryd.prog 18 #[.agg (ba root), .int .i64 i, .agg (ba leaf), .agg (ba pr)] w fun e w' => e = .returned (.bool false) ∧ Below w.heap.size w w' := by
  have B0 : Hid (Below w.heap.size w (((w.alloc (Obj.cells (ba root) 29)).alloc (Obj.cells (ba leaf) 29)).alloc (Obj.cells (ba pr) 30))) := (((Below.refl _ w).alloc (Nat.le_refl _) _).alloc (by simp) _).alloc (by simp; omega) _
  by_cases h : i < 0
  all_goals
    try have h1 : 65536 ≤ i := by omega
    clear hno
    go_enter Tryd.func18, Tryd.ntmps18
    go_wp2_with fail
    go_ret
    exact ⟨rfl, B0.out⟩
/-- CheckLeaf, at any place -/
theorem r18any (root leaf pr : List Int) (i : Int) (w : World) (hk : Keys w) (hr : root.length = 8) (hl : leaf.length = 8) (hp : pr.length = 128) :
    Calls Tryd.prog 18 #[.agg (ba root), .int .i64 i, .agg (ba leaf), .agg (ba pr)] w fun e w' => e = .returned (.bool (chk6 root i leaf pr)) ∧ Below w.heap.size w w' := by
  by_cases h : 0 ≤ i ∧ i < 65536
  · obtain ⟨n, rfl⟩ := Int.eq_ofNat_of_zero_le h.1
    have e : chk6 root (n : Int) leaf pr = decide (upF leaf n pr 16 = root) := by unfold chk6; rw [decide_eq_true h, Int.toNat_natCast]; rfl
    rw [e]
    exact r18 root leaf pr n w hk hr hl hp (by omega)
  · have e : chk6 root i leaf pr = false := by unfold chk6; rw [decide_eq_false h]; rfl
    rw [e]
    exact r18no root leaf pr i w h
end Go.Proofs.YtgagcblddcibkaaDoor
