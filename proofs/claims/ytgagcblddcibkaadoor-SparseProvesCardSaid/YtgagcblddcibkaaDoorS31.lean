/-
  The document's Node.
-/
import Derived.Test.YtgagcblddcibkaaDoorS30
namespace Go.Proofs.YtgagcblddcibkaaDoor
open Go.RowKit
open Go.Maps
theorem nd_off (f : Int → List Int) : ∀ (h : Nat) (k : Int), (∀ j : Int, k * 2 ^ h ≤ j → j < k * 2 ^ h + 2 ^ h → f j = zeros 8) → nd f h k = zeros 8
  | 0, k, hf => by
    rw [nd_zero]
    exact hf k (by simp) (by simp; omega)
  | h + 1, k, hf => by
    have e1 : (2 : Int) ^ (h + 1) = 2 ^ h * 2 := Int.pow_succ _ _
    have e2 : k * (2 ^ h * 2) = 2 * (k * 2 ^ h) := by rw [← Int.mul_assoc, Int.mul_comm]
    have e3 : (2 * k) * 2 ^ h = 2 * (k * 2 ^ h) := Int.mul_assoc _ _ _
    have e4 : (2 * k + 1) * 2 ^ h = 2 * (k * 2 ^ h) + 2 ^ h := by rw [Int.add_mul, e3, Int.one_mul]
    rw [e1, e2] at hf
    have hp : (0 : Int) < 2 ^ h := Int.pow_pos (by decide)
    rw [nd_succ, nd_off f h (2 * k) (by rw [e3]; exact fun j h1 h2 => hf j h1 (by omega)), nd_off f h (2 * k + 1) (by rw [e4]; exact fun j h1 h2 => hf j (by omega) (by omega)), ab_zero]
def inR (lo hi : Int) (p : Int × List Int) : Bool := decide (lo ≤ p.1) && decide (p.1 < hi)
theorem any_off {L : List (Int × List Int)} {lo hi : Int} (h : L.any (inR lo hi) = false) (j : Int) (h1 : lo ≤ j) (h2 : j < hi) : lk L j = zeros 8 := by
  refine lk_none fun hm => ?_
  obtain ⟨p, hp, e⟩ := List.mem_map.1 hm
  have := List.any_eq_false.1 h p hp
  unfold inR at this
  simp only [Bool.and_eq_true, decide_eq_true_eq] at this
  omega
theorem any_drop {L : List (Int × List Int)} {F : Int × List Int → Bool} {k : Nat} {p : Int × List Int} (hp : L[k]? = some p) (s : Bool) : (s || (L.drop k).any F) = ((s || F p) || (L.drop (k + 1)).any F) := by
  obtain ⟨hk, e⟩ := List.getElem?_eq_some_iff.1 hp
  rw [List.drop_eq_getElem_cons hk, e, List.any_cons, Bool.or_assoc]
def NodeAns (M : Nat) (A1 A2 : Option Addr) (n c1 c2 : Nat) (L : List (Int × List Int)) (h : Nat) : Prop := ∀ (k lo : Nat) (w : World), Keys w → LR w M A1 A2 n c1 c2 L → lo = k * 2 ^ h → lo + 2 ^ h ≤ 65536 →
    Calls Tryd.prog 26 #[.pointer (some ⟨M, 0, none⟩), .int .i64 lo, .int .i64 h] w fun e w' => e = .returned (.agg (ba (nd (lk L) h k))) ∧ Below w.heap.size w w'
theorem nd_lk_len {L : List (Int × List Int)} (h8 : ∀ p ∈ L, p.2.length = 8) : ∀ (h : Nat) (k : Int), (nd (lk L) h k).length = 8
  | 0, k => lk_len h8 k
  | h + 1, k => by rw [nd_succ]; exact ab_len _ _
attribute [local irreducible] ua da ba kk sw S8.run rt hs comp splice outB sha msg twoM twoN ab MapIs mrow nd upF at8 prfL zip8 bvals ivals putA fillL inr sib inR
set_option maxRecDepth 100000 in
set_option maxHeartbeats 1600000 in
theorem r26core (M : Nat) (A1 A2 : Option Addr) (n c1 c2 : Nat) (L : List (Int × List Int)) (hG : Good L) (hn : n ≤ 1000) (h : Nat) (h16 : h ≤ 16) (ih : ∀ h', h = h' + 1 → NodeAns M A1 A2 n c1 c2 L h') : NodeAns M A1 A2 n c1 c2 L h := by
  intro k lo w hk hL hlo hhi
  have zz4 := z27
  have zz5 := b29
  have HK := Lib.hid hk
  have HPOS : Hid (0 < w.heap.size) := keys_pos hk
  have HL := Lib.hid hL
  have HN : Hid (n ≤ 1000) := hn
  have H8 : Hid (∀ p ∈ L, p.2.length = 8) := fun p hp => (hG.all p hp).1
  obtain ⟨S, hS⟩ : ∃ S, w.heap.size = S := ⟨_, rfl⟩
  have HS := Lib.hid hS
  have KW : Hid (∀ w', Below S w w' → Keys w') := fun w' hb => keys_below HK.out hb (by rw [← HS.out]; exact HPOS.out)
  have RW : Hid (∀ w', Below S w w' → LR w' M A1 A2 n c1 c2 L) := fun w' hb => HL.out.grow (by rw [HS.out]; exact hb)
  have R0 : Hid (BA (w.alloc (Obj.cells (ba (zeros 8)) 29)) S 29 (zeros 8)) := by subst hS; exact heap_alloc_last w _
  have B0 : Hid (Below S w (w.alloc (Obj.cells (ba (zeros 8)) 29))) := by subst hS; exact (Below.refl _ w).alloc (Nat.le_refl _) _
  obtain ⟨Q, hQ⟩ : ∃ Q : Nat, 2 ^ h = Q := ⟨_, rfl⟩
  have hQi : (2 : Int) ^ h = (Q : Int) := by rw [← hQ]; simp
  have HQ := Lib.hid hQ
  have HIH := Lib.hid ih
  have HLO := Lib.hid hlo
  have HHI : Hid (lo + Q ≤ 65536) := by rw [← hQ]; exact hhi
  obtain ⟨sm, hsm⟩ : ∃ sm, L.any (inR lo ((lo : Int) + (Q : Int))) = sm := ⟨_, rfl⟩
  have HSM := Lib.hid hsm
  have HV : Hid (sm = false → nd (lk L) h k = zeros 8) := by
    show _ → _
    intro e
    rw [e] at hsm
    refine nd_off _ h k fun j h1 h2 => any_off hsm j ?_ ?_
    · rw [hlo]; push_cast; exact h1
    · rw [hlo, ← hQ]; push_cast; exact h2
  have HXL : Hid ((nd (lk L) h k).length = 8) := nd_lk_len H8.out h k
  have h0 : (0 : Int) ≤ (h : Int) := by omega
  have h1 : (h : Int) ≤ 16 := by omega
  have ht : (h : Int).toNat = h := by omega
  have hmin : min h 64 = h := by omega
  have lo0 : (0 : Int) ≤ (lo : Int) := by omega
  have lo1 : (lo : Int) ≤ 65536 := by omega
  have q0 : (0 : Int) ≤ (Q : Int) := by omega
  have q1 : (Q : Int) ≤ 65536 := by omega
  have lq : (lo : Int) + (Q : Int) ≤ 65536 := by omega
  clear hG hn hk hL hlo hhi ih hsm hQ h16
  go_enter Tryd.func26, Tryd.ntmps26
  go_wp2_with fail
  clear hS
  generalize w.alloc (Obj.cells (ba (zeros 8)) 29) = w0 at *
  go_loopw [7, 8] (fun sv kv wr => ∃ (j : Nat) (s : Bool), j ≤ n ∧ kv = .int .i64 j ∧ sv = .bool s ∧ wr = w0 ∧ (s || (L.drop j).any (inR lo ((lo : Int) + (Q : Int)))) = sm) (fun _ kv _ => n - (intOf kv).toNat)
  case atStart => exact ⟨0, false, Nat.zero_le _, rfl, rfl, rfl, by rw [List.drop_zero, Bool.false_or]; exact HSM.out⟩
  case round =>
    clear HSM
    obtain ⟨j, s, hj, rfl, rfl, rfl, hx⟩ := hrel
    rename World => wr
    have HX := Lib.hid hx
    clear hx
    have LR0 := Lib.hid (RW.out wr B0.out)
    obtain ⟨m0, m1⟩ := LR0.out.cells
    by_cases hlt : j < n
    · obtain ⟨p, hp⟩ : ∃ p, L[j]? = some p := ⟨L[j]'(by rw [← LR0.out.len]; exact hlt), List.getElem?_eq_getElem _⟩
      obtain ⟨g1, g2, e1, e2⟩ := LR0.out.places (by omega)
      subst e1
      subst e2
      have x1 := LR0.out.num hp
      have k0 : (0 : Int) ≤ (j : Int) := by omega
      have k1 : (j : Int) < (n : Int) := by omega
      have k2 : (j : Int) < 1000 := by have := HN.out; omega
      have kc1 : (j : Int) < (c1 : Int) := by have := LR0.out.cap1.1; omega
      have HKN : Hid (j < n) := hlt
      have HX2 := HX.out
      rw [any_drop hp] at HX2
      have HR : Hid (inR lo ((lo : Int) + (Q : Int)) p = (decide ((lo : Int) ≤ p.1) && decide (p.1 < (lo : Int) + (Q : Int)))) := by show _ = _; unfold inR; rfl
      rw [HR.out] at HX2
      obtain ⟨z, hz⟩ : ∃ z, p.1 = z := ⟨_, rfl⟩
      rw [hz] at x1 HX2
      have HX3 := Lib.hid HX2
      clear HX2 HR hp hlt hj hz HX
      cases s
      · by_cases a1 : (lo : Int) ≤ z
        · by_cases a2 : z < (lo : Int) + (Q : Int)
          · have HX4 := HX3.out
            rw [decide_eq_true a1, decide_eq_true a2] at HX4
            have HX5 := Lib.hid HX4
            clear HX4 HX3
            go_wp2_with fail
            go_roundw
            case rel => exact ⟨j + 1, true, HKN.out, by go_num, rfl, trivial, HX5.out⟩
            case measure => have := HKN.out; simp [intOf]; omega
          · have HX4 := HX3.out
            rw [decide_eq_true a1, decide_eq_false a2] at HX4
            have HX5 := Lib.hid HX4
            clear HX4 HX3
            go_wp2_with fail
            go_roundw
            case rel => exact ⟨j + 1, false, HKN.out, by go_num, rfl, trivial, HX5.out⟩
            case measure => have := HKN.out; simp [intOf]; omega
        · have HX4 := HX3.out
          rw [decide_eq_false a1] at HX4
          have HX5 := Lib.hid HX4
          clear HX4 HX3
          go_wp2_with fail
          go_roundw
          case rel => exact ⟨j + 1, false, HKN.out, by go_num, rfl, trivial, HX5.out⟩
          case measure => have := HKN.out; simp [intOf]; omega
      · have HX4 := HX3.out
        rw [Bool.true_or] at HX4
        have HX5 := Lib.hid HX4
        clear HX4 HX3
        go_wp2_with fail
        go_roundw
        case rel => exact ⟨j + 1, true, HKN.out, by go_num, rfl, trivial, HX5.out⟩
        case measure => have := HKN.out; simp [intOf]; omega
    · obtain rfl : j = n := by omega
      have e := HX.out
      rw [List.drop_eq_nil_of_le (by rw [LR0.out.len]; exact Nat.le_refl _), List.any_nil, Bool.or_false] at e
      subst e
      have R1 : Hid (BA wr S 29 (zeros 8)) := R0.out
      clear HX hj hlt
      cases s
      · have HVZ : Hid (nd (lk L) h k = zeros 8) := HV.out rfl
        clear HV
        go_wp2_with (refine wpList_store_rowTo rfl 29 (.tmp 6) (.tmp 49) rfl rfl S (ba (zeros 8)) rfl rfl 29 (ba (zeros 8)) R1.out (sz s27 (by rw [ba_size]; rfl)) rfl (ba_one _) ?_)
        refine bodyPost_ret (v := .agg (ba (zeros 8))) (results_cell_row rfl _ _ S 29 _ (0, 0) _ rfl (setRow_heap _ _ _ _ _ _ R1.out) Tryd.underlying29 rfl (sz s27 (by rw [ba_size]; rfl))) rfl ⟨by rw [HVZ.out], ?_⟩
        rw [HS.out]
        exact below_setRow B0.out (Nat.le_refl _) _
      · clear HV
        by_cases hz : h = 0
        · have hzi : (h : Int) = 0 := by omega
          have HVZ : Hid (nd (lk L) h k = lk L lo) := by
            show _ = _
            have e2 : lo = k := by rw [HLO.out, hz]; simp
            rw [hz, nd_zero, e2]
          have E15 := Lib.hid (r15 M A1 A2 j c1 c2 L lo wr LR0.out H8.out HN.out)
          have HXL2 : Hid ((lk L lo).length = 8) := lk_len H8.out _
          generalize lk L lo = x at *
          clear hz
          go_wp2_with fail
          refine E15.out.mono ?_
          rintro e w1 ⟨rfl, hb1⟩
          have R2 : Hid (BA w1 S 29 (zeros 8)) := (hb1.block S (lt_of_block R1.out)).trans R1.out
          have B2 : Hid (Below S w w1) := B0.out.trans (hb1.mono (Nat.le_of_lt (lt_of_block R1.out)))
          clear hb1 E15
          go_wp2_with (refine wpList_store_rowTo rfl 29 (.tmp 6) (.tmp 54) rfl rfl S (ba x) rfl rfl 29 (ba (zeros 8)) R2.out (sz s27 (by rw [ba_size, HXL2.out])) (by rw [ba_size, ba_size, HXL2.out, zeros_len]) (ba_one _) ?_)
          refine bodyPost_ret (v := .agg (ba x)) (results_cell_row rfl _ _ S 29 _ (0, 0) _ rfl (setRow_heap _ _ _ _ _ _ R2.out) Tryd.underlying29 rfl (sz s27 (by rw [ba_size, HXL2.out]))) rfl ⟨by rw [HVZ.out], ?_⟩
          rw [HS.out]
          exact below_setRow B2.out (Nat.le_refl _) _
        · obtain ⟨g, hg⟩ : ∃ g, h = g + 1 := ⟨h - 1, by omega⟩
          have hzi : ¬ (h : Int) = 0 := by omega
          have hgi : (h : Int) - 1 = (g : Int) := by omega
          have g0 : (0 : Int) ≤ (g : Int) := by omega
          have g1 : (g : Int) ≤ 15 := by omega
          have gt : (g : Int).toNat = g := by omega
          have gmin : min g 64 = g := by omega
          obtain ⟨q, hq⟩ : ∃ q : Nat, 2 ^ g = q := ⟨_, rfl⟩
          have hqi : (2 : Int) ^ g = (q : Int) := by rw [← hq]; simp
          have hQq : Q = 2 * q := by rw [← HQ.out, hg, Nat.pow_succ, hq, Nat.mul_comm]
          have hlq : lo = 2 * k * q := by rw [HLO.out, HQ.out, hQq, Nat.mul_assoc, Nat.mul_left_comm]
          have hq0 : (0 : Int) ≤ (q : Int) := by omega
          have hq1 : (q : Int) ≤ 65536 := by omega
          have hlo2 : (lo : Int) + (q : Int) ≤ 65536 := by omega
          have hcast : (lo : Int) + (q : Int) = ((lo + q : Nat) : Int) := by omega
          have EA : Hid (Calls Tryd.prog 26 #[.pointer (some ⟨M, 0, none⟩), .int .i64 lo, .int .i64 g] wr fun e w' => e = .returned (.agg (ba (nd (lk L) g (2 * (k : Int))))) ∧ Below wr.heap.size wr w') := by
            have := HIH.out g hg (2 * k) lo wr (KW.out wr B0.out) LR0.out (by rw [hq]; exact hlq) (by rw [hq]; omega)
            rw [show ((2 * k : Nat) : Int) = 2 * (k : Int) by omega] at this
            exact this
          have EB : Hid (∀ w', Below S w w' → Calls Tryd.prog 26 #[.pointer (some ⟨M, 0, none⟩), .int .i64 ((lo : Int) + (q : Int)), .int .i64 g] w' fun e w'' => e = .returned (.agg (ba (nd (lk L) g (2 * (k : Int) + 1)))) ∧ Below w'.heap.size w' w'') := fun w' hb => by
            have := HIH.out g hg (2 * k + 1) (lo + q) w' (KW.out w' hb) (RW.out w' hb) (by rw [hq, Nat.add_mul, Nat.one_mul, ← hlq]) (by rw [hq]; omega)
            rw [show ((2 * k + 1 : Nat) : Int) = 2 * (k : Int) + 1 by omega, show ((lo + q : Nat) : Int) = (lo : Int) + (q : Int) by omega] at this
            exact this
          have HVZ : Hid (nd (lk L) h k = ab (nd (lk L) g (2 * (k : Int))) (nd (lk L) g (2 * (k : Int) + 1))) := by
            show _ = _
            rw [hg, nd_succ]
          have LA : Hid ((nd (lk L) g (2 * (k : Int))).length = 8) := nd_lk_len H8.out _ _
          have LB : Hid ((nd (lk L) g (2 * (k : Int) + 1)).length = 8) := nd_lk_len H8.out _ _
          generalize nd (lk L) g (2 * (k : Int)) = xa at *
          generalize nd (lk L) g (2 * (k : Int) + 1) = xb at *
          have E28 : Hid (∀ w', Below S w w' → Calls Tryd.prog 28 #[.agg (ba xa), .agg (ba xb)] w' fun e w'' => e = .returned (.agg (ba (ab xa xb))) ∧ Below w'.heap.size w' w'') := fun w' hb => p28 xa xb w' (KW.out w' hb) LA.out LB.out
          have LC : Hid ((ab xa xb).length = 8) := ab_len _ _
          generalize ab xa xb = xc at *
          clear hz hg hq hQq hlq hcast HIH
          go_wp2_with fail
          refine EA.out.mono ?_
          rintro e w1 ⟨rfl, hb1⟩
          have R2 : Hid (BA w1 S 29 (zeros 8)) := (hb1.block S (lt_of_block R1.out)).trans R1.out
          have B2 : Hid (Below S w w1) := B0.out.trans (hb1.mono (Nat.le_of_lt (lt_of_block R1.out)))
          clear hb1 EA
          go_wp2_with fail
          refine (EB.out w1 B2.out).mono ?_
          rintro e w2 ⟨rfl, hb2⟩
          have R3 : Hid (BA w2 S 29 (zeros 8)) := (hb2.block S (lt_of_block R2.out)).trans R2.out
          have B3 : Hid (Below S w w2) := B2.out.trans (hb2.mono (Nat.le_of_lt (lt_of_block R2.out)))
          clear hb2 EB R2 B2
          obtain ⟨Z, hZ⟩ : ∃ Z, w2.heap.size = Z := ⟨_, rfl⟩
          have HZ := Lib.hid hZ
          have SZ : Hid (S < Z) := by show _ < _; rw [← hZ]; exact lt_of_block R3.out
          have Z0 : Hid (BA ((w2.alloc (Obj.cells (ba (zeros 8)) 29)).alloc (Obj.cells (ba (zeros 8)) 29)) Z 29 (zeros 8)) := by subst hZ; exact alloc_mid _ _ _
          have Z1 : Hid (BA ((w2.alloc (Obj.cells (ba (zeros 8)) 29)).alloc (Obj.cells (ba (zeros 8)) 29)) (Z + 1) 29 (zeros 8)) := by subst hZ; exact alloc_last2 _ _ _
          have B4 : Hid (Below Z w2 ((w2.alloc (Obj.cells (ba (zeros 8)) 29)).alloc (Obj.cells (ba (zeros 8)) 29))) := by subst hZ; exact ((Below.refl _ w2).alloc (Nat.le_refl _) _).alloc (by simp) _
          go_wp2_with (first
            | (refine wpList_store_rowTo rfl 29 (.tmp 9) (.tmp 59) rfl rfl Z (ba xa) rfl rfl 29 (ba (zeros 8)) Z0.out (sz s27 (by rw [ba_size, LA.out])) (by rw [ba_size, ba_size, LA.out, zeros_len]) (ba_one _) ?_
               have Z2 : Hid (BA (((w2.alloc (Obj.cells (ba (zeros 8)) 29)).alloc (Obj.cells (ba (zeros 8)) 29)).setRow Z (ba xa)) Z 29 xa) := setRow_heap _ _ _ _ _ _ Z0.out
               have B5 : Hid (Below Z w2 (((w2.alloc (Obj.cells (ba (zeros 8)) 29)).alloc (Obj.cells (ba (zeros 8)) 29)).setRow Z (ba xa))) := below_setRow B4.out (Nat.le_refl _) _
               have Z3 : Hid (BA (((w2.alloc (Obj.cells (ba (zeros 8)) 29)).alloc (Obj.cells (ba (zeros 8)) 29)).setRow Z (ba xa)) (Z + 1) 29 (zeros 8)) := (setRow_other _ _ _ _ (by omega)).trans Z1.out
               clear hZ Z0 Z1 B4
               generalize ((w2.alloc (Obj.cells (ba (zeros 8)) 29)).alloc (Obj.cells (ba (zeros 8)) 29)).setRow Z (ba xa) = w3 at *)
            | (refine wpList_store_rowTo rfl 29 (.tmp 10) (.tmp 69) rfl rfl (Z + 1) (ba xb) rfl rfl 29 (ba (zeros 8)) Z3.out (sz s27 (by rw [ba_size, LB.out])) (by rw [ba_size, ba_size, LB.out, zeros_len]) (ba_one _) ?_
               have Z4 : Hid (BA (w3.setRow (Z + 1) (ba xb)) (Z + 1) 29 xb) := setRow_heap _ _ _ _ _ _ Z3.out
               have Z5 : Hid (BA (w3.setRow (Z + 1) (ba xb)) Z 29 xa) := (setRow_other _ _ _ _ (by omega)).trans Z2.out
               have B6 : Hid (Below Z w2 (w3.setRow (Z + 1) (ba xb))) := below_setRow B5.out (Nat.le_succ _) _
               clear Z3 Z2 B5
               generalize w3.setRow (Z + 1) (ba xb) = w4 at *
               have R5 : Hid (BA w4 S 29 (zeros 8)) := (B6.out.block S SZ.out).trans R3.out
               have B7 : Hid (Below S w w4) := B3.out.trans (B6.out.mono (Nat.le_of_lt SZ.out)))
            | (refine wpList_load_row rfl 29 (.tmp 9) rfl Z rfl 29 (ba xa) (0, 0) _ Z5.out Tryd.underlying29 rfl (sz s27 (by rw [ba_size, LA.out])) ?_)
            | (refine wpList_load_row rfl 29 (.tmp 10) rfl (Z + 1) rfl 29 (ba xb) (0, 0) _ Z4.out Tryd.underlying29 rfl (sz s27 (by rw [ba_size, LB.out])) ?_)
            | (go_at_call 28
               refine (E28.out w4 B7.out).mono ?_
               rintro e w5 ⟨rfl, hb5⟩
               have R6 : Hid (BA w5 S 29 (zeros 8)) := (hb5.block S (lt_of_block R5.out)).trans R5.out
               have B8 : Hid (Below S w w5) := B7.out.trans (hb5.mono (Nat.le_of_lt (lt_of_block R5.out)))
               clear hb5)
            | (refine wpList_store_rowTo rfl 29 (.tmp 6) (.tmp 72) rfl rfl S (ba xc) rfl rfl 29 (ba (zeros 8)) R6.out (sz s27 (by rw [ba_size, LC.out])) (by rw [ba_size, ba_size, LC.out, zeros_len]) (ba_one _) ?_)
            | fail)
          refine bodyPost_ret (v := .agg (ba xc)) (results_cell_row rfl _ _ S 29 _ (0, 0) _ rfl (setRow_heap _ _ _ _ _ _ R6.out) Tryd.underlying29 rfl (sz s27 (by rw [ba_size, LC.out]))) rfl ⟨by rw [HVZ.out], ?_⟩
          rw [HS.out]
          exact below_setRow B8.out (Nat.le_refl _) _
theorem r26 (M : Nat) (A1 A2 : Option Addr) (n c1 c2 : Nat) (L : List (Int × List Int)) (hG : Good L) (hn : n ≤ 1000) : ∀ h, h ≤ 16 → NodeAns M A1 A2 n c1 c2 L h
  | 0, _ => r26core M A1 A2 n c1 c2 L hG hn 0 (by omega) fun h' e => by omega
  | h + 1, h16 => r26core M A1 A2 n c1 c2 L hG hn (h + 1) h16 fun h' e => by
    have e2 : h = h' := by omega
    subst e2
    exact r26 M A1 A2 n c1 c2 L hG hn h (by omega)
end Go.Proofs.YtgagcblddcibkaaDoor
