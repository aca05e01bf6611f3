/-
  Check.
-/
import Derived.Test.YtgagcblddcibkaaDoorS8
namespace Go.Proofs.YtgagcblddcibkaaDoor
open Go.RowKit
open Go.Maps
/-- the hash at a place of a row -/
def at8 (l : List Int) (s : Nat) : List Int := (l.drop (8 * s)).take 8
theorem at8_len {l : List Int} {n s : Nat} (h : l.length = 8 * n) (hs : s < n) : (at8 l s).length = 8 := by unfold at8; rw [List.length_take, List.length_drop]; omega
theorem ba_extract (l : List Int) (o : Nat) : (ba l).extract o (o + 8) = ba ((l.drop o).take 8) := by
  apply Array.ext'
  simp [ba, bvals, List.map_drop, List.map_take]
theorem idx30 (pr : List Int) (s : Nat) (hs : s < 16) (w : World) : (Instr.index 30 (.agg (ba pr)) (.int .i64 s)).run Tryd.prog w = .ok (.agg (ba (at8 pr s))) w := by
  have h1 := Tryd.sizeOf29
  have hx := ba_extract pr (s * 8)
  have e : s * 8 = 8 * s := by omega
  simp [Instr.index, asIntOf, run_underlying Tryd.underlying30, run_underlying Tryd.underlying29, part, isAgg, h1, at8, hx, hs]
  rw [e]
/-- where a leaf leads -/
def upF (leaf : List Int) (i : Nat) (pr : List Int) : Nat → List Int
  | 0 => leaf
  | s + 1 => if i / 2 ^ s % 2 = 0 then ab (upF leaf i pr s) (at8 pr s) else ab (at8 pr s) (upF leaf i pr s)
theorem upF_len {leaf : List Int} (h : leaf.length = 8) (i : Nat) (pr : List Int) : ∀ s, (upF leaf i pr s).length = 8
  | 0 => h
  | s + 1 => by
    show (if _ then _ else _ : List Int).length = _
    split
    · exact ab_len _ _
    · exact ab_len _ _
theorem upF_zero (leaf : List Int) (i : Nat) (pr : List Int) : upF leaf i pr 0 = leaf := rfl
theorem upF_even {leaf : List Int} {i : Nat} {pr : List Int} {s : Nat} (h : i / 2 ^ s % 2 = 0) : upF leaf i pr (s + 1) = ab (upF leaf i pr s) (at8 pr s) := by show (if _ then _ else _ : List Int) = _; rw [if_pos h]
theorem upF_odd {leaf : List Int} {i : Nat} {pr : List Int} {s : Nat} (h : ¬ i / 2 ^ s % 2 = 0) : upF leaf i pr (s + 1) = ab (at8 pr s) (upF leaf i pr s) := by show (if _ then _ else _ : List Int) = _; rw [if_neg h]
/-- is it so? -/
def chk6 (root : List Int) (i : Int) (leaf pr : List Int) : Bool := decide (0 ≤ i ∧ i < 65536) && decide (upF leaf i.toNat pr 16 = root)
attribute [local irreducible] ua da ba kk sw S8.run rt hs comp splice outB sha msg twoM twoN ab MapIs mrow nd upF at8
set_option maxRecDepth 100000 in
set_option maxHeartbeats 4000000 in
theorem p17 (root leaf pr : List Int) (i : Nat) (w : World) (hk : Keys w) (hr : root.length = 8) (hl : leaf.length = 8) (hp : pr.length = 128) (hi : i < 65536) :
    Calls Tryd.prog 17 #[.agg (ba root), .int .i64 i, .agg (ba leaf), .agg (ba pr)] w fun e w' => e = .returned (.bool (decide (upF leaf i pr 16 = root))) ∧ Below w.heap.size w w' := by
  have h4 := z27
  have HK := Lib.hid hk
  have HP : Hid (0 < w.heap.size) := keys_pos hk
  have HR := Lib.hid hr
  have HL := Lib.hid hl
  have HPR := Lib.hid hp
  have HI : Hid (i < 65536) := hi
  obtain ⟨S, hS⟩ : ∃ S, w.heap.size = S := ⟨_, rfl⟩
  have HS := Lib.hid hS
  have KW : Hid (∀ w', Below S w w' → Keys w') := fun w' hb => keys_below HK.out hb (by rw [← HS.out]; exact HP.out)
  have R1 : Hid (BA (w.alloc (Obj.cells (ba root) 29)) S 29 root) := by subst hS; exact heap_alloc_last w _
  have L1 : Hid (BA ((w.alloc (Obj.cells (ba root) 29)).alloc (Obj.cells (ba leaf) 29)) (S + 1) 29 leaf) := by
    show _ = _
    subst hS
    have := heap_alloc_last (w.alloc (Obj.cells (ba root) 29)) (Obj.cells (ba leaf) 29)
    simp only [World.size_alloc] at this
    exact this
  have P1 : Hid (BA (((w.alloc (Obj.cells (ba root) 29)).alloc (Obj.cells (ba leaf) 29)).alloc (Obj.cells (ba pr) 30)) (S + 2) 30 pr) := by
    show _ = _
    subst hS
    have := heap_alloc_last ((w.alloc (Obj.cells (ba root) 29)).alloc (Obj.cells (ba leaf) 29)) (Obj.cells (ba pr) 30)
    simp only [World.size_alloc] at this
    exact this
  have L2 : Hid (BA (((w.alloc (Obj.cells (ba root) 29)).alloc (Obj.cells (ba leaf) 29)).alloc (Obj.cells (ba pr) 30)) (S + 1) 29 leaf) := (Below.heap_alloc _ _ _ (lt_of_block L1.out)).trans L1.out
  have R2 : Hid (BA (((w.alloc (Obj.cells (ba root) 29)).alloc (Obj.cells (ba leaf) 29)).alloc (Obj.cells (ba pr) 30)) S 29 root) := (Below.heap_alloc _ _ _ (by have := lt_of_block L1.out; omega)).trans ((Below.heap_alloc _ _ _ (lt_of_block R1.out)).trans R1.out)
  have B0 : Hid (Below S w (((w.alloc (Obj.cells (ba root) 29)).alloc (Obj.cells (ba leaf) 29)).alloc (Obj.cells (ba pr) 30))) := by subst hS; exact (((Below.refl _ w).alloc (Nat.le_refl _) _).alloc (by simp) _).alloc (by simp; omega) _
  have W0 : Hid ((((w.alloc (Obj.cells (ba root) 29)).alloc (Obj.cells (ba leaf) 29)).alloc (Obj.cells (ba pr) 30)).heap.size = S + 3) := by show _ = _; subst hS; simp
  have C25 : Hid (∀ w, Calls Tryd.prog 25 #[.int .i64 i] w fun e w' => e = .returned (.bool true) ∧ w = w') := fun w => by
    have := p25 (i : Int) w
    rw [decide_eq_true (by omega), decide_eq_true (by omega)] at this
    exact this.mono fun _ _ h => ⟨h.1, h.2.symm⟩
  have SD : Hid (∀ s : Nat, i / 2 ^ s < 65536) := fun s => Nat.lt_of_le_of_lt (Nat.div_le_self _ _) HI.out
  have i0 : (0 : Int) ≤ (i : Int) := by omega
  have i1 : (i : Int) < 65536 := by omega
  obtain ⟨r, hr2⟩ : ∃ r, upF leaf i pr 16 = r := ⟨_, rfl⟩
  have HR2 := Lib.hid hr2
  have HRL : Hid (r.length = 8) := by rw [← hr2]; exact upF_len hl i pr 16
  rw [hr2]
  clear hk hr hl hp hi hr2
  go_enter Tryd.func17, Tryd.ntmps17
  go_wp2_with (first
    | (go_at_call 25
       clear hS R1 L1
       generalize ((w.alloc (Obj.cells (ba root) 29)).alloc (Obj.cells (ba leaf) 29)).alloc (Obj.cells (ba pr) 30) = w0 at *
       refine (C25.out w0).mono ?_
       rintro e w1 ⟨rfl, rfl⟩
       have hW := W0.out
       have A1 : Hid (BA (w0.alloc (Obj.cells (ba (zeros 8)) 29)) (S + 3) 29 (zeros 8)) := by show _ = _; rw [← hW]; exact heap_alloc_last w0 _)
    | (refine wpList_load_row rfl 29 (.tmp 6) rfl (S + 1) rfl 29 (ba leaf) (0, 0) _ L2.out Tryd.underlying29 rfl (sz s27 (by rw [ba_size, HL.out])) ?_)
    | (refine wpList_store_rowTo rfl 29 (.tmp 9) (.tmp 15) rfl rfl (S + 3) (ba leaf) rfl rfl 29 (ba (zeros 8)) A1.out (sz s27 (by rw [ba_size, HL.out])) (by rw [ba_size, ba_size, HL.out, zeros_len]) (ba_one _) ?_
       have B2 : Hid (Below (S + 3) w0 ((w0.alloc (Obj.cells (ba (zeros 8)) 29)).setRow (S + 3) (ba leaf))) := below_setRow ((Below.refl (S + 3) w0).alloc (by omega) _) (Nat.le_refl _) _
       have A2 : Hid (BA ((w0.alloc (Obj.cells (ba (zeros 8)) 29)).setRow (S + 3) (ba leaf)) (S + 3) 29 leaf) := setRow_heap _ _ _ _ _ _ A1.out
       clear hW A1
       generalize (w0.alloc (Obj.cells (ba (zeros 8)) 29)).setRow (S + 3) (ba leaf) = w2 at *
       have P2 : Hid (BA w2 (S + 2) 30 pr) := (B2.out.block _ (by omega)).trans P1.out
       have R3 : Hid (BA w2 S 29 root) := (B2.out.block _ (by omega)).trans R2.out
       have BS2 : Hid (Below S w w2) := B0.out.trans (B2.out.mono (by omega)))
    | (refine wpList_load_row rfl 30 (.tmp 7) rfl (S + 2) rfl 30 (ba pr) (0, 0) _ P2.out Tryd.underlying30 rfl (sz s30 (by rw [ba_size, HPR.out])) ?_)
    | fail)
  go_loopw [17, 1, 11] (fun c q _ wr => ∃ s : Nat, s ≤ 16 ∧ c = .int .i64 s ∧ q = .int .i64 ((i / 2 ^ s : Nat) : Int) ∧ BA wr (S + 3) 29 (upF leaf i pr s) ∧ BA wr S 29 root ∧ Below S w wr) (fun c _ _ _ => 16 - (intOf c).toNat)
  case atStart => exact ⟨0, by omega, rfl, by simp, by rw [upF_zero]; exact A2.out, R3.out, BS2.out⟩
  case round =>
    clear A2 R3 BS2 C25 B2 P2 L2 P1 R2 B0 W0
    obtain ⟨s, hs, rfl, rfl, ha, hr, hb⟩ := hrel
    have RR := Lib.hid hr
    have BR := Lib.hid hb
    have AR0 := Lib.hid ha
    clear hr hb ha
    by_cases hlt : s < 16
    · obtain ⟨q, hq⟩ : ∃ q, i / 2 ^ s = q := ⟨_, rfl⟩
      obtain ⟨p, hp⟩ : ∃ p, q / 2 = p := ⟨_, rfl⟩
      obtain ⟨a, ha⟩ : ∃ a, upF leaf i pr s = a := ⟨_, rfl⟩
      obtain ⟨o, ho⟩ : ∃ o, at8 pr s = o := ⟨_, rfl⟩
      have HA : Hid (a.length = 8) := by rw [← ha]; exact upF_len HL.out i pr s
      have HO : Hid (o.length = 8) := by rw [← ho]; exact at8_len (n := 16) HPR.out hlt
      have AR : Hid (BA wr (S + 3) 29 a) := by rw [← ha]; exact AR0.out
      have hx := idx30 pr s hlt
      rw [ho] at hx
      have hq6 : q < 65536 := by rw [← hq]; exact SD.out s
      have e1 : Int.tdiv (q : Int) 2 = (p : Int) := by rw [Int.tdiv_eq_ediv_of_nonneg (by omega)]; omega
      have e2 : (q : Int) / 2 = (p : Int) := by omega
      have s0 : (0 : Int) ≤ (s : Int) := by omega
      have s1 : (s : Int) < 16 := by omega
      have HS16 : Hid (s < 16) := hlt
      have q0 : (0 : Int) ≤ (q : Int) := by omega
      have q6 : (q : Int) < 65536 := by omega
      have HQ : Hid (i / 2 ^ s / 2 = p) := by show _ = _; rw [hq]; exact hp
      have HQ2 : Hid (i / 2 ^ (s + 1) = p) := by show _ = _; rw [Nat.pow_succ, ← Nat.div_div_eq_div_mul]; exact HQ.out
      obtain ⟨Z, hZ⟩ : ∃ Z, wr.heap.size = Z := ⟨_, rfl⟩
      have O1 : Hid (BA (wr.alloc (Obj.cells (ba (zeros 8)) 29)) Z 29 (zeros 8)) := by show _ = _; rw [← hZ]; exact heap_alloc_last wr _
      have ZL : Hid (S + 3 < Z) := by rw [← hZ]; exact lt_of_block AR.out
      clear AR0
      rcases Nat.mod_two_eq_zero_or_one q with hpar | hpar
      · have HU : Hid (upF leaf i pr (s + 1) = ab a o) := by show _ = _; rw [upF_even (by rw [hq]; omega), ha, ho]
        have C27 : Hid (∀ w', Below S w w' → Calls Tryd.prog 27 #[.agg (ba a), .agg (ba o)] w' fun e w'' => e = .returned (.agg (ba (ab a o))) ∧ Below w'.heap.size w' w'') := fun w' hb => p27 a o w' (KW.out w' hb) HA.out HO.out
        have HAB : Hid ((ab a o).length = 8) := ab_len _ _
        generalize ab a o = c at *
        have e3 : Int.tmod (q : Int) 2 = 0 := by rw [Int.tmod_eq_emod_of_nonneg (by omega)]; omega
        have e4 : (q : Int) % 2 = 0 := by omega
        rw [hq]
        clear hq hp hq6 hs hlt ha ho hpar
        go_wp2_with (first
          | (refine wpList_store_rowTo rfl 29 (.tmp 11) (.tmp 19) rfl rfl Z (ba o) rfl rfl 29 (ba (zeros 8)) O1.out (sz s27 (by rw [ba_size, HO.out])) (by rw [ba_size, ba_size, HO.out, zeros_len]) (ba_one _) ?_
             have B3 : Hid (Below Z wr ((wr.alloc (Obj.cells (ba (zeros 8)) 29)).setRow Z (ba o))) := below_setRow ((Below.refl Z wr).alloc (by omega) _) (Nat.le_refl _) _
             have O3 : Hid (BA ((wr.alloc (Obj.cells (ba (zeros 8)) 29)).setRow Z (ba o)) Z 29 o) := setRow_heap _ _ _ _ _ _ O1.out
             clear hZ O1
             generalize (wr.alloc (Obj.cells (ba (zeros 8)) 29)).setRow Z (ba o) = w3 at *
             have A3 : Hid (BA w3 (S + 3) 29 a) := (B3.out.block _ ZL.out).trans AR.out
             have R3 : Hid (BA w3 S 29 root) := (B3.out.block _ (by have := ZL.out; omega)).trans RR.out
             have BS3 : Hid (Below S w w3) := BR.out.trans (B3.out.mono (by have := ZL.out; omega)))
          | (refine wpList_load_row rfl 29 (.tmp 9) rfl (S + 3) rfl 29 (ba a) (0, 0) _ A3.out Tryd.underlying29 rfl (sz s27 (by rw [ba_size, HA.out])) ?_)
          | (refine wpList_load_row rfl 29 (.tmp 11) rfl Z rfl 29 (ba o) (0, 0) _ O3.out Tryd.underlying29 rfl (sz s27 (by rw [ba_size, HO.out])) ?_)
          | (go_at_call 27
             refine (C27.out w3 BS3.out).mono ?_
             rintro e w4 ⟨rfl, hb4⟩
             have A4 : Hid (BA w4 (S + 3) 29 a) := (hb4.block _ (lt_of_block A3.out)).trans A3.out
             have R4 : Hid (BA w4 S 29 root) := (hb4.block _ (lt_of_block R3.out)).trans R3.out
             have BS4 : Hid (Below S w w4) := BS3.out.trans (hb4.mono (by have := lt_of_block R3.out; omega))
             clear hb4)
          | (refine wpList_store_rowTo rfl 29 (.tmp 9) (.tmp 25) rfl rfl (S + 3) (ba c) rfl rfl 29 (ba a) A4.out (sz s27 (by rw [ba_size, HAB.out])) (by rw [ba_size, ba_size, HAB.out, HA.out]) (ba_one _) ?_)
          | fail)
        have AN : Hid (BA (w4.setRow (S + 3) (ba c)) (S + 3) 29 (upF leaf i pr (s + 1))) := by rw [HU.out]; exact setRow_heap _ _ _ _ _ _ A4.out
        have BN3 : Hid (Below (S + 3) w4 (w4.setRow (S + 3) (ba c))) := below_setRow (Below.refl (S + 3) w4) (Nat.le_refl _) _
        have RN : Hid (BA (w4.setRow (S + 3) (ba c)) S 29 root) := (BN3.out.block S (by omega)).trans R4.out
        have BN : Hid (Below S w (w4.setRow (S + 3) (ba c))) := BS4.out.trans (BN3.out.mono (by omega))
        go_roundw
        case rel => exact ⟨s + 1, by have := HS16.out; omega, by go_num, by rw [HQ2.out], AN.out, RN.out, BN.out⟩
        case measure => have := HS16.out; simp [intOf]; omega
      · have HU : Hid (upF leaf i pr (s + 1) = ab o a) := by show _ = _; rw [upF_odd (by rw [hq]; omega), ha, ho]
        have C27 : Hid (∀ w', Below S w w' → Calls Tryd.prog 27 #[.agg (ba o), .agg (ba a)] w' fun e w'' => e = .returned (.agg (ba (ab o a))) ∧ Below w'.heap.size w' w'') := fun w' hb => p27 o a w' (KW.out w' hb) HO.out HA.out
        have HAB : Hid ((ab o a).length = 8) := ab_len _ _
        generalize ab o a = c at *
        have e3 : Int.tmod (q : Int) 2 = 1 := by rw [Int.tmod_eq_emod_of_nonneg (by omega)]; omega
        have e4 : (q : Int) % 2 = 1 := by omega
        rw [hq]
        clear hq hp hq6 hs hlt ha ho hpar
        go_wp2_with (first
          | (refine wpList_store_rowTo rfl 29 (.tmp 11) (.tmp 19) rfl rfl Z (ba o) rfl rfl 29 (ba (zeros 8)) O1.out (sz s27 (by rw [ba_size, HO.out])) (by rw [ba_size, ba_size, HO.out, zeros_len]) (ba_one _) ?_
             have B3 : Hid (Below Z wr ((wr.alloc (Obj.cells (ba (zeros 8)) 29)).setRow Z (ba o))) := below_setRow ((Below.refl Z wr).alloc (by omega) _) (Nat.le_refl _) _
             have O3 : Hid (BA ((wr.alloc (Obj.cells (ba (zeros 8)) 29)).setRow Z (ba o)) Z 29 o) := setRow_heap _ _ _ _ _ _ O1.out
             clear hZ O1
             generalize (wr.alloc (Obj.cells (ba (zeros 8)) 29)).setRow Z (ba o) = w3 at *
             have A3 : Hid (BA w3 (S + 3) 29 a) := (B3.out.block _ ZL.out).trans AR.out
             have R3 : Hid (BA w3 S 29 root) := (B3.out.block _ (by have := ZL.out; omega)).trans RR.out
             have BS3 : Hid (Below S w w3) := BR.out.trans (B3.out.mono (by have := ZL.out; omega)))
          | (refine wpList_load_row rfl 29 (.tmp 11) rfl Z rfl 29 (ba o) (0, 0) _ O3.out Tryd.underlying29 rfl (sz s27 (by rw [ba_size, HO.out])) ?_)
          | (refine wpList_load_row rfl 29 (.tmp 9) rfl (S + 3) rfl 29 (ba a) (0, 0) _ A3.out Tryd.underlying29 rfl (sz s27 (by rw [ba_size, HA.out])) ?_)
          | (go_at_call 27
             refine (C27.out w3 BS3.out).mono ?_
             rintro e w4 ⟨rfl, hb4⟩
             have A4 : Hid (BA w4 (S + 3) 29 a) := (hb4.block _ (lt_of_block A3.out)).trans A3.out
             have R4 : Hid (BA w4 S 29 root) := (hb4.block _ (lt_of_block R3.out)).trans R3.out
             have BS4 : Hid (Below S w w4) := BS3.out.trans (hb4.mono (by have := lt_of_block R3.out; omega))
             clear hb4)
          | (refine wpList_store_rowTo rfl 29 (.tmp 9) (.tmp 28) rfl rfl (S + 3) (ba c) rfl rfl 29 (ba a) A4.out (sz s27 (by rw [ba_size, HAB.out])) (by rw [ba_size, ba_size, HAB.out, HA.out]) (ba_one _) ?_)
          | fail)
        have AN : Hid (BA (w4.setRow (S + 3) (ba c)) (S + 3) 29 (upF leaf i pr (s + 1))) := by rw [HU.out]; exact setRow_heap _ _ _ _ _ _ A4.out
        have BN3 : Hid (Below (S + 3) w4 (w4.setRow (S + 3) (ba c))) := below_setRow (Below.refl (S + 3) w4) (Nat.le_refl _) _
        have RN : Hid (BA (w4.setRow (S + 3) (ba c)) S 29 root) := (BN3.out.block S (by omega)).trans R4.out
        have BN : Hid (Below S w (w4.setRow (S + 3) (ba c))) := BS4.out.trans (BN3.out.mono (by omega))
        go_roundw
        case rel => exact ⟨s + 1, by have := HS16.out; omega, by go_num, by rw [HQ2.out], AN.out, RN.out, BN.out⟩
        case measure => have := HS16.out; simp [intOf]; omega
    · obtain rfl : s = 16 := by omega
      have AF : Hid (BA wr (S + 3) 29 r) := by rw [← HR2.out]; exact AR0.out
      have fq := fun w => eqh r root w HRL.out HR.out
      clear AR0 hs hlt
      go_wp2_with (first
        | (refine wpList_load_row rfl 29 (.tmp 9) rfl (S + 3) rfl 29 (ba r) (0, 0) _ AF.out Tryd.underlying29 rfl (sz s27 (by rw [ba_size, HRL.out])) ?_)
        | (refine wpList_load_row rfl 29 (.tmp 4) rfl S rfl 29 (ba root) (0, 0) _ RR.out Tryd.underlying29 rfl (sz s27 (by rw [ba_size, HR.out])) ?_)
        | fail)
      go_ret
      exact ⟨rfl, by rw [HS.out]; exact BR.out⟩
set_option maxRecDepth 100000 in
set_option maxHeartbeats 4000000 in
theorem p17no (root leaf pr : List Int) (i : Int) (w : World) (hno : ¬ (0 ≤ i ∧ i < 65536)) :
    Calls Tryd.prog 17 #[.agg (ba root), .int .i64 i, .agg (ba leaf), .agg (ba pr)] w fun e w' => e = .returned (.bool false) ∧ Below w.heap.size w w' := by
  have B0 : Hid (Below w.heap.size w (((w.alloc (Obj.cells (ba root) 29)).alloc (Obj.cells (ba leaf) 29)).alloc (Obj.cells (ba pr) 30))) := (((Below.refl _ w).alloc (Nat.le_refl _) _).alloc (by simp) _).alloc (by simp; omega) _
  have C25 : Hid (∀ w, Calls Tryd.prog 25 #[.int .i64 i] w fun e w' => e = .returned (.bool false) ∧ w = w') := fun w => by
    have := p25 (i : Int) w
    have e : (decide (0 ≤ i) && decide (i < 65536)) = false := by simp; omega
    rw [e] at this
    exact this.mono fun _ _ h => ⟨h.1, h.2.symm⟩
  clear hno
  go_enter Tryd.func17, Tryd.ntmps17
  go_wp2_with (go_at_call 25; refine (C25.out _).mono ?_; rintro e w1 ⟨rfl, rfl⟩)
  go_ret
  exact ⟨rfl, B0.out⟩
/-- Check, at any place -/
theorem p17any (root leaf pr : List Int) (i : Int) (w : World) (hk : Keys w) (hr : root.length = 8) (hl : leaf.length = 8) (hp : pr.length = 128) :
    Calls Tryd.prog 17 #[.agg (ba root), .int .i64 i, .agg (ba leaf), .agg (ba pr)] w fun e w' => e = .returned (.bool (chk6 root i leaf pr)) ∧ Below w.heap.size w w' := by
  by_cases h : 0 ≤ i ∧ i < 65536
  · obtain ⟨n, rfl⟩ := Int.eq_ofNat_of_zero_le h.1
    have e : chk6 root (n : Int) leaf pr = decide (upF leaf n pr 16 = root) := by unfold chk6; rw [decide_eq_true h, Int.toNat_natCast]; rfl
    rw [e]
    exact p17 root leaf pr n w hk hr hl hp (by omega)
  · have e : chk6 root i leaf pr = false := by unfold chk6; rw [decide_eq_false h]; rfl
    rw [e]
    exact p17no root leaf pr i w h
end Go.Proofs.YtgagcblddcibkaaDoor
