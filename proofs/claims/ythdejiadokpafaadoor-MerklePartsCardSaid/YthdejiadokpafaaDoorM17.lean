/-
  Prove at any place; the walk of MerkleMakes.
-/
import Derived.Test.YthdejiadokpafaaDoorM15
namespace Go.Proofs.YthdejiadokpafaaDoor
open Go.RowKit
/-- may there be a proof? -/
def mayB (i n : Int) : Bool := decide (0 ≤ i) && (decide (i < n) && decide (n ≤ 65536))
/-- what is proved of any place -/
def pvT (n : Nat) (l : List Int) (i : Int) : List (List Int) := if mayB i n = true then provL n l i.toNat n else []
theorem pvT_8 (n : Nat) (l : List Int) (i : Int) : ∀ x ∈ pvT n l i, x.length = 8 := by
  unfold pvT
  split
  · exact provL_8 _ _ _ _
  · intro x hx; cases hx
theorem pvT_le (n : Nat) (l : List Int) (i : Int) : (pvT n l i).length ≤ 65536 := by
  unfold pvT
  split
  · rename_i h
    unfold mayB at h
    simp only [Bool.and_eq_true, decide_eq_true_eq] at h
    rw [provL_len]
    have := stepsF_le n i.toNat n (by omega) (by omega)
    omega
  · exact Nat.zero_le _
theorem pvT_yes {n i : Nat} {l : List Int} (hi : i < n) (h : n ≤ 65536) : mayB i n = true ∧ pvT n l i = provL n l i n := by
  have e : mayB i n = true := by
    unfold mayB
    rw [decide_eq_true (by omega : (0 : Int) ≤ (i : Int)), decide_eq_true (by omega : (i : Int) < (n : Int)), decide_eq_true (by omega : (n : Int) ≤ 65536)]
    rfl
  exact ⟨e, by unfold pvT; rw [if_pos e, Int.toNat_natCast]⟩
/-- Prove, any place -/
theorem p8any (A : Option Addr) (n cap : Nat) (i : Int) (l : List Int) (w : World) (hk : Keys w) (hs : Src w A (8 * n) l) (hcap : n ≤ cap) (hmax : cap ≤ 9223372036854775807) :
    Calls Tryd.prog 8 #[.slice A n cap, .int .i64 i] w fun e w' => ∃ (A' : Option Addr) (c : Nat), e = .returned (.tuple #[.slice A' (pvT n l i).length c, .bool (mayB i n)]) ∧ Src w' A' (8 * (pvT n l i).length) (pvT n l i).flatten ∧ (pvT n l i).length ≤ c ∧ c ≤ maxLen ∧ Below w.heap.size w w' := by
  rcases may_split i n with h | ⟨a, b, rfl, hb, h1, h2⟩
  · have e : mayB i n = false := h
    have e2 : pvT n l i = [] := by unfold pvT; rw [if_neg (by rw [e]; decide)]
    rw [e, e2]
    refine (p8no A n cap i w h).mono ?_
    rintro _ w' ⟨rfl, hb⟩
    exact ⟨none, 0, rfl, ⟨rfl, .inl rfl⟩, Nat.le_refl _, by decide, hb⟩
  · obtain rfl : n = b := by omega
    obtain ⟨e, e2⟩ := pvT_yes (l := l) h1 h2
    rw [e, e2]
    refine (p8 A n cap a l w hk hs h1 h2 hcap hmax).mono ?_
    rintro _ w' ⟨A', c, rfl, h3, h4, h5, h6⟩
    exact ⟨A', c, rfl, h3, h4, h5, h6⟩
/-- the document's Prove, any place -/
theorem r9any (A : Option Addr) (n cap : Nat) (i : Int) (l : List Int) (w : World) (hk : Keys w) (hs : Src w A (8 * n) l) (hcap : n ≤ cap) (hmax : cap ≤ 9223372036854775807) :
    Calls Tryd.prog 9 #[.slice A n cap, .int .i64 i] w fun e w' => ∃ (A' : Option Addr) (c : Nat), e = .returned (.tuple #[.slice A' (pvT n l i).length c, .bool (mayB i n)]) ∧ Src w' A' (8 * (pvT n l i).length) (pvT n l i).flatten ∧ (pvT n l i).length ≤ c ∧ c ≤ maxLen ∧ Below w.heap.size w w' := by
  rcases may_split i n with h | ⟨a, b, rfl, hb, h1, h2⟩
  · have e : mayB i n = false := h
    have e2 : pvT n l i = [] := by unfold pvT; rw [if_neg (by rw [e]; decide)]
    rw [e, e2]
    refine (r9no A n cap i w h).mono ?_
    rintro _ w' ⟨rfl, hb⟩
    exact ⟨none, 0, rfl, ⟨rfl, .inl rfl⟩, Nat.le_refl _, by decide, hb⟩
  · obtain rfl : n = b := by omega
    obtain ⟨e, e2⟩ := pvT_yes (l := l) h1 h2
    rw [e, e2]
    refine (r9 n A n cap a l w hk hs h1 (Nat.le_refl _) h2 hcap hmax).mono ?_
    rintro _ w' ⟨A', c, rfl, h3, h6⟩
    have h7 := own8_src h3
    exact ⟨A', c, rfl, h7.1, h7.2.1, h7.2.2, h6⟩
/-- the hash at a place of a row -/
theorem src_mid (fl : List Int) (t j : Nat) (hj : j < t) (hl : fl.length = 8 * t) : ∃ x0 x1 x2 x3 x4 x5 x6 x7 : Int, (fl.drop (8 * j)).take 8 = [x0, x1, x2, x3, x4, x5, x6, x7] ∧ ∀ (w : World) (g o : Nat), Src w (some ⟨g, o, none⟩) (8 * t) fl → w.cell? ⟨g, o + j * 8, none⟩ = some (.int .u8 x0) ∧ w.cell? ⟨g, o + j * 8 + 1, none⟩ = some (.int .u8 x1) ∧ w.cell? ⟨g, o + j * 8 + 2, none⟩ = some (.int .u8 x2) ∧ w.cell? ⟨g, o + j * 8 + 3, none⟩ = some (.int .u8 x3) ∧ w.cell? ⟨g, o + j * 8 + 4, none⟩ = some (.int .u8 x4) ∧ w.cell? ⟨g, o + j * 8 + 5, none⟩ = some (.int .u8 x5) ∧ w.cell? ⟨g, o + j * 8 + 6, none⟩ = some (.int .u8 x6) ∧ w.cell? ⟨g, o + j * 8 + 7, none⟩ = some (.int .u8 x7) := by
  obtain ⟨x0, x1, x2, x3, x4, x5, x6, x7, hx⟩ := c8cells ((fl.drop (8 * j)).take 8) (by rw [List.length_take, List.length_drop]; omega)
  refine ⟨x0, x1, x2, x3, x4, x5, x6, x7, hx, fun w g o h => ?_⟩
  obtain ⟨_, h2⟩ := h
  rcases h2 with h2 | ⟨g', o', h3, hc⟩
  · omega
  · cases h3
    have gg : ∀ c, c < 8 → w.cell? ⟨g, o + j * 8 + c, none⟩ = some (.int .u8 (((fl.drop (8 * j)).take 8).getD c 0)) := fun c hc8 => by
      rw [show o + j * 8 + c = o + (8 * j + c) by omega, hc (8 * j + c) (by omega)]
      simp [List.getD, hc8]
    rw [hx] at gg
    exact ⟨gg 0 (by decide), gg 1 (by decide), gg 2 (by decide), gg 3 (by decide), gg 4 (by decide), gg 5 (by decide), gg 6 (by decide), gg 7 (by decide)⟩
attribute [local irreducible] ua da ba kk sw S8.run rt hs comp splice outB sha msg rootF leafH twoH stepsF cutN leadF provL bvals rootV l24 chkB mayB pvT
set_option maxRecDepth 100000 in
set_option maxHeartbeats 8000000 in
theorem q3 (A : Option Addr) (n cap : Nat) (i : Int) (l : List Int) (w : World) (hk : Keys w) (hs : Src w A (8 * n) l) (hcap : n ≤ cap) (hmax : cap ≤ 9223372036854775807) :
    Calls Tryd.prog 3 #[.slice A n cap, .int .i64 i] w fun e w' => e = .returned (.bool true) ∧ Below w.heap.size w w' := by
  have HK := Lib.hid hk
  have HP : Hid (0 < w.heap.size) := keys_pos hk
  have HX := Lib.hid hs
  have KW : Hid (∀ w', Below w.heap.size w w' → Keys w') := fun w' hb => keys_below HK.out hb HP.out
  have SW : Hid (∀ w', Below w.heap.size w w' → Src w' A (8 * n) l) := fun w' hb => HX.out.keep fun q hq => hb.block q hq
  have C7 := Lib.hid (p7 w hk)
  obtain ⟨fl, hfl⟩ : ∃ fl, (pvT n l i).flatten = fl := ⟨_, rfl⟩
  obtain ⟨t, ht⟩ : ∃ t, (pvT n l i).length = t := ⟨_, rfl⟩
  obtain ⟨b, hb⟩ : ∃ b, mayB i n = b := ⟨_, rfl⟩
  have HFL : Hid (fl.length = 8 * t) := by show _ = _; rw [← hfl, ← ht]; exact flat_len _ (pvT_8 n l i)
  have C8 : Hid (∀ w', Below w.heap.size w w' → Calls Tryd.prog 8 #[.slice A n cap, .int .i64 i] w' fun e w'' => ∃ (A' : Option Addr) (c : Nat), e = .returned (.tuple #[.slice A' t c, .bool b]) ∧ Src w'' A' (8 * t) fl ∧ t ≤ c ∧ c ≤ maxLen ∧ Below w'.heap.size w' w'') := fun w' hbb => by
    have := p8any A n cap i l w' (KW.out w' hbb) (SW.out w' hbb) hcap hmax
    rw [hfl, ht, hb] at this
    exact this
  have C9 : Hid (∀ w', Below w.heap.size w w' → Calls Tryd.prog 9 #[.slice A n cap, .int .i64 i] w' fun e w'' => ∃ (A' : Option Addr) (c : Nat), e = .returned (.tuple #[.slice A' t c, .bool b]) ∧ Src w'' A' (8 * t) fl ∧ t ≤ c ∧ c ≤ maxLen ∧ Below w'.heap.size w' w'') := fun w' hbb => by
    have := r9any A n cap i l w' (KW.out w' hbb) (SW.out w' hbb) hcap hmax
    rw [hfl, ht, hb] at this
    exact this
  obtain ⟨r, hr⟩ : ∃ r, rootV n l = r := ⟨_, rfl⟩
  have HR : Hid (r.length = 8) := by rw [← hr]; exact rootV_len _ _
  have C10 : Hid (∀ w', Below w.heap.size w w' → Calls Tryd.prog 10 #[.slice A n cap] w' fun e w'' => e = .returned (.agg (ba r)) ∧ Below w'.heap.size w' w'') := fun w' hbb => by
    rw [← hr]; exact p10 A n cap l w' (KW.out w' hbb) (SW.out w' hbb) hcap hmax
  have C11 : Hid (∀ w', Below w.heap.size w w' → Calls Tryd.prog 11 #[.slice A n cap] w' fun e w'' => e = .returned (.agg (ba r)) ∧ Below w'.heap.size w' w'') := fun w' hbb => by
    rw [← hr]; exact r11 A n cap l w' (KW.out w' hbb) (SW.out w' hbb) hcap hmax
  have FQ : Hid (∀ w, (Op.equalIn 10000 27 (.agg (ba r)) (.agg (ba r))).run Tryd.prog w = .ok true w) := fun w => by
    have := eqh r r w HR.out HR.out
    rwa [decide_eq_true rfl] at this
  have HTB : Hid (t ≤ 65536) := by show _ ≤ _; rw [← ht]; exact pvT_le _ _ _
  clear hfl ht hb hr hk hs hcap hmax
  by_cases hbig : 200 < n
  · have q1 : (200 : Int) < (n : Int) := by omega
    clear hbig
    go_enter Tryd.func3, Tryd.ntmps3
    go_wp2_with (go_at_call 7; refine C7.out.mono ?_; rintro e w1 ⟨rfl, hb1⟩; have B1 := Lib.hid hb1; clear hb1)
    go_ret
    exact ⟨rfl, B1.out⟩
  · have q1 : ¬ (200 : Int) < (n : Int) := by omega
    clear hbig
    go_enter Tryd.func3, Tryd.ntmps3
    go_wp2_with (first
      | (go_at_call 7; refine C7.out.mono ?_; rintro e w1 ⟨rfl, hb1⟩; have B1 := Lib.hid hb1; clear hb1)
      | fail)
    refine (C8.out _ B1.out).mono ?_
    rintro e w2 ⟨A1, c1, rfl, hs1, hc1, hc1m, hb2⟩
    have B2 : Hid (Below w.heap.size w w2) := B1.out.trans (hb2.mono B1.out.size)
    have S1 := Lib.hid hs1
    clear hs1 hb2
    go_wp2_with fail
    refine (C9.out _ B2.out).mono ?_
    rintro e w3 ⟨A2, c2, rfl, hs2, hc2, hc2m, hb3⟩
    have B3 : Hid (Below w.heap.size w w3) := B2.out.trans (hb3.mono B2.out.size)
    have S2 := Lib.hid hs2
    have S13 : Hid (Src w3 A1 (8 * t) fl) := S1.out.keep fun q hq => hb3.block q hq
    have HB3 : Hid (w.heap.size ≤ w3.heap.size) := B3.out.size
    clear hs2 hb3 hc1m hc2m
    cases b
    all_goals
      go_wp2_with fail
      go_loopw [9] (fun v wr => ∃ k : Nat, k ≤ t ∧ v = .int .i64 k ∧ Below w3.heap.size w3 wr) (fun v _ => t - (intOf v).toNat)
      case atStart => exact ⟨0, Nat.zero_le _, rfl, Below.refl _ _⟩
      case round =>
        obtain ⟨k, hk, rfl, hbel⟩ := hrel
        have BL := Lib.hid hbel
        clear hbel
        by_cases hlt : k < t
        · obtain ⟨x0, x1, x2, x3, x4, x5, x6, x7, _, hc⟩ := src_mid fl t k hlt HFL.out
          obtain ⟨g1, o1, hA1⟩ := src_at S13.out (by omega)
          obtain ⟨g2, o2, hA2⟩ := src_at S2.out (by omega)
          subst hA1
          subst hA2
          obtain ⟨u0, u1, u2, u3, u4, u5, u6, u7⟩ := hc wr g1 o1 (S13.out.keep fun q hq => BL.out.block q hq)
          obtain ⟨y0, y1, y2, y3, y4, y5, y6, y7⟩ := hc wr g2 o2 (S2.out.keep fun q hq => BL.out.block q hq)
          have fq : ∀ w, (Op.equalIn 10000 27 (.agg #[.int .u8 x0, .int .u8 x1, .int .u8 x2, .int .u8 x3, .int .u8 x4, .int .u8 x5, .int .u8 x6, .int .u8 x7]) (.agg #[.int .u8 x0, .int .u8 x1, .int .u8 x2, .int .u8 x3, .int .u8 x4, .int .u8 x5, .int .u8 x6, .int .u8 x7])).run Tryd.prog w = .ok true w := fun w => by
            have := eqh [x0, x1, x2, x3, x4, x5, x6, x7] [x0, x1, x2, x3, x4, x5, x6, x7] w rfl rfl
            rw [ba_lit, decide_eq_true rfl] at this
            exact this
          have k0 : (0 : Int) ≤ (k : Int) := by omega
          have k1 : (k : Int) < (t : Int) := by omega
          have k2 : (k : Int) < 65536 := by have := HTB.out; omega
          clear hc
          go_wp2_with fail
          go_quiet (fail)
          go_wp2
          go_roundw
          case rel => exact ⟨k + 1, by omega, by go_num, below_drewN BL.out _⟩
          case measure => simp [intOf]; omega
        · obtain rfl : k = t := by omega
          have B4 : Hid (Below w.heap.size w wr) := B3.out.trans (BL.out.mono HB3.out)
          have fq := FQ.out
          go_wp2_with (first
            | (go_at_call 10; refine (C10.out _ B4.out).mono ?_; rintro e w5 ⟨rfl, hb5⟩; have B5 : Hid (Below w.heap.size w w5) := B4.out.trans (hb5.mono B4.out.size); clear hb5)
            | (go_at_call 11; refine (C11.out _ B5.out).mono ?_; rintro e w6 ⟨rfl, hb6⟩; have B6 : Hid (Below w.heap.size w w6) := B5.out.trans (hb6.mono B5.out.size); clear hb6)
            | fail)
          go_ret
          exact ⟨rfl, B6.out⟩
end Go.Proofs.YthdejiadokpafaaDoor
