/-
  Put's walk.
-/
import Derived.Test.YtgagcblddcibkaaDoorS5
namespace Go.Proofs.YtgagcblddcibkaaDoor
open Go.RowKit
open Go.Maps
attribute [local irreducible] ua da ba kk sw S8.run rt hs comp splice outB sha msg twoM twoN ab zeros MapIs mrow nd
set_option maxRecDepth 100000 in
set_option maxHeartbeats 4000000 in
theorem p20 (B T N i : Nat) (h : List Int) (ms : Nat → Option Nat) (f : Int → List Int) (w : World) (hk : Keys w) (hB : 0 < B) (hT : Tr w B T ms (nd f) N) (hN : N < 90000) (hh : h.length = 8) (hi : i < 65536) :
    Calls Tryd.prog 20 #[.pointer (some ⟨T, 0, none⟩), .int .i64 i, .agg (ba h)] w fun e w' => e = .returned (.bool true) ∧ ∃ ms', Tr w' B T ms' (nd (upd f i h)) (N + 17) ∧ Chg w w' T ms ms' := by
  have HT := Lib.hid hT
  have HH := Lib.hid hh
  have HK := Lib.hid hk
  have HBB : Hid (0 < B) := hB
  obtain ⟨S, hS⟩ : ∃ S, w.heap.size = S := ⟨_, rfl⟩
  have HS := Lib.hid hS
  obtain ⟨h0, h1, h2, h3, h4, h5, h6, h7, hh8⟩ := c8cells h hh
  have HH8 := Lib.hid hh8
  obtain ⟨g, hg⟩ : ∃ g, upd f i h = g := ⟨_, rfl⟩
  have HG := Lib.hid hg
  rw [hg]
  have T0 : Hid ((w.alloc (Obj.cells #[.int .u8 h0, .int .u8 h1, .int .u8 h2, .int .u8 h3, .int .u8 h4, .int .u8 h5, .int .u8 h6, .int .u8 h7] 29)).heap[S]? = some (.cells #[.int .u8 h0, .int .u8 h1, .int .u8 h2, .int .u8 h3, .int .u8 h4, .int .u8 h5, .int .u8 h6, .int .u8 h7] 29 (0, 0))) := by subst hS; exact heap_alloc_last w _
  have B0 : Hid (Below w.heap.size w (w.alloc (Obj.cells #[.int .u8 h0, .int .u8 h1, .int .u8 h2, .int .u8 h3, .int .u8 h4, .int .u8 h5, .int .u8 h6, .int .u8 h7] 29))) := (Below.refl _ w).alloc (Nat.le_refl _) _
  have R0 : Hid (Tr (w.alloc (Obj.cells #[.int .u8 h0, .int .u8 h1, .int .u8 h2, .int .u8 h3, .int .u8 h4, .int .u8 h5, .int .u8 h6, .int .u8 h7] 29)) B T ms (nd f) N) := HT.out.grow B0.out
  have C25 : Hid (∀ w, Calls Tryd.prog 25 #[.int .i64 i] w fun e w' => e = .returned (.bool true) ∧ w = w') := fun w => by
    have := p25 (i : Int) w
    rw [decide_eq_true (by omega), decide_eq_true (by omega)] at this
    exact this.mono fun _ _ h => ⟨h.1, h.2.symm⟩
  have KW : Hid (∀ w', Below B w w' → Keys w') := fun w' hb => keys_below HK.out hb HBB.out
  have HI : Hid (i < 65536 ∧ N < 90000) := ⟨hi, hN⟩
  have i0 : (0 : Int) ≤ (i : Int) := by omega
  have i1 : (i : Int) < 65536 := by omega
  have C30 : Hid (∀ w', Tr w' B T ms (nd f) N → Calls Tryd.prog 30 #[.pointer (some ⟨T, 0, none⟩), .int .i64 0, .int .i64 i, .agg #[.int .u8 h0, .int .u8 h1, .int .u8 h2, .int .u8 h3, .int .u8 h4, .int .u8 h5, .int .u8 h6, .int .u8 h7]] w' fun e w'' => e = .returned (.tuple #[]) ∧ ∃ ms', Tr w'' B T ms' (ndw f g 0) (N + 1) ∧ Chg w' w'' T ms ms') := fun w' ht => by
    have := p30 B T 0 N (i : Int) h ms (nd f) w' ht (by omega) (by omega) (wf_small i0 (by omega)) HH.out
    rw [ndw_first, hg, hh8, ba_lit] at this
    exact this
  rw [hh8, ba_lit]
  clear hh8 hT hh hg hk hB hN hi
  go_enter Tryd.func20, Tryd.ntmps20
  go_wp2_with (first
    | (go_at_call 25; refine (C25.out _).mono ?_; rintro e w1 ⟨rfl, rfl⟩)
    | fail)
  clear hS
  generalize w.alloc (Obj.cells #[.int .u8 h0, .int .u8 h1, .int .u8 h2, .int .u8 h3, .int .u8 h4, .int .u8 h5, .int .u8 h6, .int .u8 h7] 29) = w0 at *
  refine (C30.out w0 R0.out).mono ?_
  rintro e w1 ⟨rfl, ms1, ht1, hc1⟩
  have T1 := Lib.hid ht1
  have G1 : Hid (Chg w w1 T ms ms1) := (Chg.of_below B0.out).trans hc1
  clear ht1 hc1
  go_wp2_with fail
  go_loopw [20, 1, 7, 8] (fun c q _ _ wr => ∃ (s : Nat) (msr : Nat → Option Nat), s ≤ 16 ∧ c = .int .i64 s ∧ q = .int .i64 ((i / 2 ^ s : Nat) : Int) ∧ Tr wr B T msr (ndw f g s) (N + s + 1) ∧ Chg w wr T ms msr) (fun c _ _ _ _ => 16 - (intOf c).toNat)
  case atStart => exact ⟨0, ms1, by omega, rfl, by simp, T1.out, G1.out⟩
  case round =>
    clear T1 G1 R0 T0 B0 C30 C25
    obtain ⟨s, msr, hs, rfl, rfl, htr, hcr⟩ := hrel
    have TR := Lib.hid htr
    have GR := Lib.hid hcr
    clear htr hcr
    by_cases hlt : s < 16
    · obtain ⟨q, hq⟩ : ∃ q, i / 2 ^ s = q := ⟨_, rfl⟩
      obtain ⟨p, hp⟩ : ∃ p, q / 2 = p := ⟨_, rfl⟩
      obtain ⟨m, hm⟩ : ∃ m, 2 * p = m := ⟨_, rfl⟩
      have hqi : q ≤ i := by rw [← hq]; exact Nat.div_le_self _ _
      have hq6 : q < 65536 := Nat.lt_of_le_of_lt hqi HI.out.1
      have hp6 : p < 65536 := by omega
      have hm6 : m ≤ 65536 := by omega
      have e1 : Int.tdiv (q : Int) 2 = (p : Int) := by rw [Int.tdiv_eq_ediv_of_nonneg (by omega)]; omega
      have e2 : (q : Int) / 2 = (p : Int) := by omega
      have e3 : 2 * (p : Int) = (m : Int) := by omega
      obtain ⟨g1, l1⟩ := TR.out.get s (by omega) (k := (m : Int)) (wf_small (by omega) (by omega))
      obtain ⟨g2, l2⟩ := TR.out.get s (by omega) (k := (m : Int) + 1) (wf_small (by omega) (by omega))
      have HQ : Hid (i / 2 ^ s / 2 = p) := by show _ = _; rw [hq]; exact hp
      have HQ2 : Hid (i / 2 ^ (s + 1) = p) := by show _ = _; rw [Nat.pow_succ, ← Nat.div_div_eq_div_mul]; exact HQ.out
      have HN := ndw_next f i s h p HQ.out
      rw [HG.out, e3] at HN
      obtain ⟨A, hA⟩ : ∃ A, ndw f g s s (m : Int) = A := ⟨_, rfl⟩
      obtain ⟨A2, hA2⟩ : ∃ A, ndw f g s s ((m : Int) + 1) = A := ⟨_, rfl⟩
      rw [hA] at g1 l1 HN
      rw [hA2] at g2 l2 HN
      have HNN := Lib.hid HN
      have KR : Hid (Keys wr) := KW.out wr (HT.out.below GR.out)
      have C27 := Lib.hid (p27 A A2 wr KR.out l1 l2)
      have HLA : Hid ((ab A A2).length = 8) := ab_len A A2
      have c1 := TR.out.cell s (by omega)
      have s0 : (0 : Int) ≤ (s : Int) := by omega
      have s1 : (s : Int) < 16 := by omega
      have s2 : (s : Int) < 17 := by omega
      have HS16 : Hid (s < 16) := hlt
      have q0 : (0 : Int) ≤ (q : Int) := by omega
      have q6 : (q : Int) < 65536 := by omega
      have p6 : (p : Int) < 65536 := by omega
      have m6 : (m : Int) ≤ 65536 := by omega
      rw [hq]
      clear hA hA2 HN l1 l2 hq hp hm hqi hq6 hp6 hm6 hs hlt
      go_wp2_with fail
      refine C27.out.mono ?_
      rintro e w2 ⟨rfl, hb2⟩
      have T2 : Hid (Tr w2 B T msr (ndw f g s) (N + s + 1)) := TR.out.grow hb2
      have G2 : Hid (Chg w w2 T ms msr) := GR.out.trans (Chg.of_below hb2)
      have C31 : Hid (Calls Tryd.prog 30 #[.pointer (some ⟨T, 0, none⟩), .int .i64 ((s : Int) + 1), .int .i64 (p : Int), .agg (ba (ab A A2))] w2 fun e w'' => e = .returned (.tuple #[]) ∧ ∃ ms', Tr w'' B T ms' (ndw f g (s + 1)) (N + (s + 1) + 1) ∧ Chg w2 w'' T msr ms') := by
        have := p30 B T (s + 1) (N + s + 1) (p : Int) (ab A A2) msr (ndw f g s) w2 T2.out (by have := HS16.out; omega) (by have := HI.out; have := HS16.out; omega) (wf_small (by omega) (by omega)) HLA.out
        rw [HNN.out] at this
        exact this
      clear hb2
      go_wp2_with fail
      refine C31.out.mono ?_
      rintro e w3 ⟨rfl, ms3, ht3, hc3⟩
      have T3 := Lib.hid ht3
      have G3 : Hid (Chg w w3 T ms ms3) := G2.out.trans hc3
      clear ht3 hc3
      go_wp2_with fail
      go_roundw
      case rel => exact ⟨s + 1, ms3, by have := HS16.out; omega, by go_num, by rw [HQ2.out], T3.out, G3.out⟩
      case measure => have := HS16.out; simp [intOf]; omega
    · obtain rfl : s = 16 := by omega
      go_wp2_with fail
      go_ret
      exact ⟨rfl, msr, ndw_last f g TR.out, GR.out⟩
end Go.Proofs.YtgagcblddcibkaaDoor
