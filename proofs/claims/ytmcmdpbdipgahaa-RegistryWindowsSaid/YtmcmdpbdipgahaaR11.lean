/-
  Epochs and windows: the program's.
-/
import Derived.Test.YtmcmdpbdipgahaaR10
namespace Go.Proofs.Ytmcmdpbdipgahaa
open Go.RowKit
set_option maxRecDepth 100000
def p1 (a : Int) : Bool := decide (1 ≤ a) && decide (a ≤ 64)
def p2 (b : Int) : Bool := decide (0 ≤ b) && decide (b ≤ 64)
def p3 (m : Int) : Bool := decide (0 ≤ m) && decide (m ≤ 400)
def fairS (x : Sm) : Bool := p1 x.s.a && (p2 x.s.b && p3 x.s.made)
/-- an epoch's number, or none -/
def epC (x : Sm) (h : Int) : Int × Bool := if fairS x = true ∧ x.s.made < h then (Int.tdiv (h - x.s.made - 1) x.s.a, true) else (0, false)
def endC (x : Sm) (e : Int) : Int := if fairS x = true ∧ 0 ≤ e ∧ e ≤ 400 then x.s.made + (e + 1) * x.s.a else 0
def openC (x : Sm) (e h : Int) : Bool := decide (fairS x = true ∧ 0 ≤ e ∧ e ≤ 400 ∧ endC x e < h ∧ h ≤ endC x e + x.s.b)
theorem fair_iff {x : Sm} : fairS x = true ↔ (1 ≤ x.s.a ∧ x.s.a ≤ 64) ∧ (0 ≤ x.s.b ∧ x.s.b ≤ 64) ∧ 0 ≤ x.s.made ∧ x.s.made ≤ 400 := by
  unfold fairS p1 p2 p3
  simp only [Bool.and_eq_true, decide_eq_true_eq]
theorem mul_bnd {e a : Int} (h1 : 0 ≤ e) (h2 : e ≤ 400) (h3 : 1 ≤ a) (h4 : a ≤ 64) : 1 ≤ (e + 1) * a ∧ (e + 1) * a ≤ 25664 := by
  have g1 : 1 * 1 ≤ (e + 1) * a := Int.mul_le_mul (by omega) h3 (by decide) (by omega)
  have g2 : (e + 1) * a ≤ 401 * 64 := Int.mul_le_mul (by omega) h4 (by omega) (by decide)
  exact ⟨by omega, by omega⟩
theorem tdiv_bnd {n a : Int} (h : 0 ≤ n) (ha : 1 ≤ a) : 0 ≤ n.tdiv a ∧ n.tdiv a ≤ n := by
  rw [Int.tdiv_eq_ediv_of_nonneg h]
  exact ⟨Int.ediv_nonneg h (by omega), Int.ediv_le_self a h⟩
theorem sd_c0 {w : World} {b : Nat} {x : Sm} {T : TypeId} (h : BL w b (sdV x) T) : w.cell? ⟨b, 0, none⟩ = some (.int .i64 x.s.a) := sd_at h (i := 0) rfl
theorem sd_c1 {w : World} {b : Nat} {x : Sm} {T : TypeId} (h : BL w b (sdV x) T) : w.cell? ⟨b, 1, none⟩ = some (.int .i64 x.s.b) := sd_at h (i := 1) rfl
attribute [local irreducible] sdV
set_option maxHeartbeats 2000000 in
theorem rCounts (x : Sm) (w : World) : Calls Try.prog 43 #[.agg (sdV x).toArray] w fun e w' => e = .returned (.bool (fairS x)) ∧ Below w.heap.size w w' := by
  obtain ⟨N, hN⟩ : ∃ N, w.heap.size = N := ⟨_, rfl⟩
  have HN := Lib.hid hN
  obtain ⟨v, hv⟩ : ∃ v, w.alloc (Obj.cells (sdV x).toArray 53) = v := ⟨_, rfl⟩
  have RX : Hid (BL v N (sdV x) 53) := Lib.hid (by subst hv hN; exact heap_alloc_last w _)
  have BV : Hid (Below N w v) := Lib.hid (by subst hv hN; exact (Below.refl _ w).alloc (Nat.le_refl _) _)
  have VS : Hid (N ≤ v.heap.size) := Lib.hid (by subst hv hN; simp)
  have sx : Hid ((sdV x).length = 42) := Lib.hid (sd_len x)
  have b0 := sd_c0 RX.out
  have b1 := sd_c1 RX.out
  have b4 := sd_c4 RX.out
  unfold fairS
  obtain ⟨a, ha⟩ : ∃ a, x.s.a = a := ⟨_, rfl⟩
  obtain ⟨b, hb⟩ : ∃ b, x.s.b = b := ⟨_, rfl⟩
  obtain ⟨m, hm⟩ : ∃ m, x.s.made = m := ⟨_, rfl⟩
  rw [ha] at b0 ⊢
  rw [hb] at b1 ⊢
  rw [hm] at b4 ⊢
  have W1 : Hid (∀ w, Calls Try.prog 39 #[.int .i64 a, .int .i64 1, .int .i64 64] w fun e w' => e = .returned (.bool (p1 a)) ∧ w = w') := Lib.hid fun w => rWithin a 1 64 w
  have W2 : Hid (∀ w, Calls Try.prog 39 #[.int .i64 b, .int .i64 0, .int .i64 64] w fun e w' => e = .returned (.bool (p2 b)) ∧ w = w') := Lib.hid fun w => rWithin b 0 64 w
  have W3 : Hid (∀ w, Calls Try.prog 39 #[.int .i64 m, .int .i64 0, .int .i64 400] w fun e w' => e = .returned (.bool (p3 m)) ∧ w = w') := Lib.hid fun w => rWithin m 0 400 w
  generalize p1 a = q1 at *
  generalize p2 b = q2 at *
  generalize p3 m = q3 at *
  clear ha hb hm
  rw [hN]
  have T1 : Hid True := Lib.hid trivial
  have T2 : Hid True := Lib.hid trivial
  cases q1 <;> cases q2 <;>
  · go_enter Try.func43, Try.ntmps43
    go_upto_region 1 with (fail)
    (try rw [hv])
    go_wp2_with (first
      | (go_at_call 39; clear T1; refine (W1.out _).mono ?_; rintro e w' ⟨rfl, rfl⟩)
      | (go_at_call 39; clear T2; refine (W2.out _).mono ?_; rintro e w' ⟨rfl, rfl⟩)
      | (go_at_call 39; refine (W3.out _).mono ?_; rintro e w' ⟨rfl, rfl⟩)
      | fail)
    go_ret
    exact ⟨rfl, BV.out⟩
set_option maxHeartbeats 4000000 in
theorem rEpoch (x : Sm) (h : Int) (w : World) (hw : wfI h) : Calls Try.prog 21 #[.agg (sdV x).toArray, .int .i64 h] w fun e w' => e = .returned (.tuple #[.int .i64 (epC x h).1, .bool (epC x h).2]) ∧ Below w.heap.size w w' := by
  obtain ⟨N, hN⟩ : ∃ N, w.heap.size = N := ⟨_, rfl⟩
  have HN := Lib.hid hN
  obtain ⟨v, hv⟩ : ∃ v, w.alloc (Obj.cells (sdV x).toArray 53) = v := ⟨_, rfl⟩
  have RX : Hid (BL v N (sdV x) 53) := Lib.hid (by subst hv hN; exact heap_alloc_last w _)
  have BV : Hid (Below N w v) := Lib.hid (by subst hv hN; exact (Below.refl _ w).alloc (Nat.le_refl _) _)
  have VS : Hid (N ≤ v.heap.size) := Lib.hid (by subst hv hN; simp)
  have sx : Hid ((sdV x).length = 42) := Lib.hid (sd_len x)
  have b0 := sd_c0 RX.out
  have b1 := sd_c1 RX.out
  have b4 := sd_c4 RX.out
  have CC : Hid (Calls Try.prog 43 #[.agg (sdV x).toArray] v fun e w' => e = .returned (.bool (fairS x)) ∧ Below v.heap.size v w') := Lib.hid (rCounts x v)
  have FI : Hid (fairS x = true → (1 ≤ x.s.a ∧ x.s.a ≤ 64) ∧ (0 ≤ x.s.b ∧ x.s.b ≤ 64) ∧ 0 ≤ x.s.made ∧ x.s.made ≤ 400) := Lib.hid fair_iff.1
  unfold epC
  obtain ⟨a, ha⟩ : ∃ a, x.s.a = a := ⟨_, rfl⟩
  obtain ⟨m, hm⟩ : ∃ m, x.s.made = m := ⟨_, rfl⟩
  rw [ha] at b0 FI ⊢
  rw [hm] at b4 FI ⊢
  obtain ⟨f, hf⟩ : ∃ f, fairS x = f := ⟨_, rfl⟩
  rw [hf] at CC FI ⊢
  clear ha hm hf b1
  rw [hN]
  cases f with
  | false =>
    rw [if_neg (by simp)]
    clear FI
    go_enter Try.func21, Try.ntmps21
    go_upto_region 1 with (fail)
    (try rw [hv])
    go_wp2_with (first
      | (refine wpList_load_midG (by rfl) 53 (.tmp 2) rfl N 0 rfl (sdV x) _ (range_of RX.out) Try.underlying53 rfl (szL sz53 sx.out) ?_)
      | (go_at_call 43; refine CC.out.mono ?_; rintro e w1 ⟨rfl, hb⟩; have B1 := Lib.hid hb; clear hb)
      | fail)
    go_ret2
    exact ⟨rfl, BV.out.trans (B1.out.mono VS.out)⟩
  | true =>
    obtain ⟨⟨a1, a2⟩, _, m1, m2⟩ := FI.out rfl
    by_cases hm : h ≤ m
    · rw [if_neg (by omega)]
      clear FI a1 a2 m1 m2
      go_enter Try.func21, Try.ntmps21
      go_upto_region 1 with (fail)
      (try rw [hv])
      go_wp2_with (first
        | (refine wpList_load_midG (by rfl) 53 (.tmp 2) rfl N 0 rfl (sdV x) _ (range_of RX.out) Try.underlying53 rfl (szL sz53 sx.out) ?_)
        | (go_at_call 43; refine CC.out.mono ?_; rintro e w1 ⟨rfl, hb⟩; have B1 := Lib.hid hb; have c4 := (World.cell?_of_block (hb.block N (by have := bl_lt RX.out; exact this))).trans b4; clear hb)
        | fail)
      go_ret2
      exact ⟨rfl, BV.out.trans (B1.out.mono VS.out)⟩
    · rw [if_pos ⟨rfl, by omega⟩]
      have w1 : wrap64 (h - m) = h - m := by unfold wfI at hw; unfold wrap64; omega
      have w2 : wrap64 (h - m - 1) = h - m - 1 := by unfold wfI at hw; unfold wrap64; omega
      have w3 : wrap64 ((h - m - 1).tdiv a) = (h - m - 1).tdiv a := by
        have g := tdiv_bnd (n := h - m - 1) (a := a) (by omega) a1
        generalize (h - m - 1).tdiv a = z at *
        unfold wfI at hw; unfold wrap64; omega
      have hnm : ¬ (h ≤ m) := hm
      have a0 : a ≠ 0 := by omega
      have am : a ≠ -1 := by omega
      clear FI
      go_enter Try.func21, Try.ntmps21
      go_upto_region 1 with (fail)
      (try rw [hv])
      go_wp2_with (first
        | (refine wpList_load_midG (by rfl) 53 (.tmp 2) rfl N 0 rfl (sdV x) _ (range_of RX.out) Try.underlying53 rfl (szL sz53 sx.out) ?_)
        | (go_at_call 43; refine CC.out.mono ?_; rintro e w1 ⟨rfl, hb⟩; have B1 := Lib.hid hb; have c4 := (World.cell?_of_block (hb.block N (by have := bl_lt RX.out; exact this))).trans b4; have c0 := (World.cell?_of_block (hb.block N (by have := bl_lt RX.out; exact this))).trans b0; clear hb)
        | fail)
      go_ret2
      exact ⟨congrArg (fun z => Ending.returned (.tuple #[.int .i64 z, .bool true])) w3, BV.out.trans (B1.out.mono VS.out)⟩
set_option maxHeartbeats 4000000 in
theorem rEnds (x : Sm) (e : Int) (w : World) : Calls Try.prog 23 #[.agg (sdV x).toArray, .int .i64 e] w fun e1 w' => e1 = .returned (.int .i64 (endC x e)) ∧ Below w.heap.size w w' := by
  obtain ⟨N, hN⟩ : ∃ N, w.heap.size = N := ⟨_, rfl⟩
  have HN := Lib.hid hN
  obtain ⟨v, hv⟩ : ∃ v, w.alloc (Obj.cells (sdV x).toArray 53) = v := ⟨_, rfl⟩
  have RX : Hid (BL v N (sdV x) 53) := Lib.hid (by subst hv hN; exact heap_alloc_last w _)
  have BV : Hid (Below N w v) := Lib.hid (by subst hv hN; exact (Below.refl _ w).alloc (Nat.le_refl _) _)
  have VS : Hid (N ≤ v.heap.size) := Lib.hid (by subst hv hN; simp)
  have sx : Hid ((sdV x).length = 42) := Lib.hid (sd_len x)
  have b0 := sd_c0 RX.out
  have b1 := sd_c1 RX.out
  have b4 := sd_c4 RX.out
  have CC : Hid (Calls Try.prog 43 #[.agg (sdV x).toArray] v fun e w' => e = .returned (.bool (fairS x)) ∧ Below v.heap.size v w') := Lib.hid (rCounts x v)
  have FI : Hid (fairS x = true → (1 ≤ x.s.a ∧ x.s.a ≤ 64) ∧ (0 ≤ x.s.b ∧ x.s.b ≤ 64) ∧ 0 ≤ x.s.made ∧ x.s.made ≤ 400) := Lib.hid fair_iff.1
  unfold endC
  obtain ⟨a, ha⟩ : ∃ a, x.s.a = a := ⟨_, rfl⟩
  obtain ⟨m, hm⟩ : ∃ m, x.s.made = m := ⟨_, rfl⟩
  rw [ha] at b0 FI ⊢
  rw [hm] at b4 FI ⊢
  obtain ⟨f, hf⟩ : ∃ f, fairS x = f := ⟨_, rfl⟩
  rw [hf] at CC FI ⊢
  clear ha hm hf b1
  rw [hN]
  obtain ⟨q, hq⟩ : ∃ q, (decide (0 ≤ e) && decide (e ≤ 400)) = q := ⟨_, rfl⟩
  have CW : Hid (∀ w, Calls Try.prog 39 #[.int .i64 e, .int .i64 0, .int .i64 400] w fun e1 w' => e1 = .returned (.bool q) ∧ w = w') := Lib.hid fun w => by rw [← hq]; exact rWithin e 0 400 w
  cases f with
  | false =>
    rw [if_neg (by simp)]
    clear FI hq CW
    go_enter Try.func23, Try.ntmps23
    go_upto_region 1 with (fail)
    (try rw [hv])
    go_wp2_with (first
      | (refine wpList_load_midG (by rfl) 53 (.tmp 2) rfl N 0 rfl (sdV x) _ (range_of RX.out) Try.underlying53 rfl (szL sz53 sx.out) ?_)
      | (go_at_call 43; refine CC.out.mono ?_; rintro e1 w1 ⟨rfl, hb⟩; have B1 := Lib.hid hb; have c4 := (World.cell?_of_block (hb.block N (by have := bl_lt RX.out; exact this))).trans b4; have c0 := (World.cell?_of_block (hb.block N (by have := bl_lt RX.out; exact this))).trans b0; clear hb)
      | fail)
    go_ret
    exact ⟨rfl, BV.out.trans (B1.out.mono VS.out)⟩
  | true =>
    obtain ⟨⟨a1, a2⟩, _, m1, m2⟩ := FI.out rfl
    cases q with
    | false =>
      rw [if_neg (by simp only [Bool.and_eq_false_iff, decide_eq_false_iff_not] at hq; omega)]
      clear FI a1 a2 m1 m2 hq
      go_enter Try.func23, Try.ntmps23
      go_upto_region 1 with (fail)
      (try rw [hv])
      go_wp2_with (first
        | (refine wpList_load_midG (by rfl) 53 (.tmp 2) rfl N 0 rfl (sdV x) _ (range_of RX.out) Try.underlying53 rfl (szL sz53 sx.out) ?_)
        | (go_at_call 43; refine CC.out.mono ?_; rintro e1 w1 ⟨rfl, hb⟩; have B1 := Lib.hid hb; have c4 := (World.cell?_of_block (hb.block N (by have := bl_lt RX.out; exact this))).trans b4; have c0 := (World.cell?_of_block (hb.block N (by have := bl_lt RX.out; exact this))).trans b0; clear hb)
        | (go_at_call 39; refine (CW.out _).mono ?_; rintro e2 w' ⟨rfl, rfl⟩)
        | fail)
      go_ret
      exact ⟨rfl, BV.out.trans (B1.out.mono VS.out)⟩
    | true =>
      simp only [Bool.and_eq_true, decide_eq_true_eq] at hq
      rw [if_pos ⟨rfl, hq.1, hq.2⟩]
      have g := mul_bnd hq.1 hq.2 a1 a2
      have w1 : wrap64 (e + 1) = e + 1 := by unfold wrap64; omega
      obtain ⟨z, hz⟩ : ∃ z, (e + 1) * a = z := ⟨_, rfl⟩
      rw [hz] at g ⊢
      have w2 : wrap64 ((e + 1) * a) = z := by rw [hz]; unfold wrap64; omega
      have w3 : wrap64 (m + z) = m + z := by unfold wrap64; omega
      clear hz FI hq g
      go_enter Try.func23, Try.ntmps23
      go_upto_region 1 with (fail)
      (try rw [hv])
      go_wp2_with (first
        | (refine wpList_load_midG (by rfl) 53 (.tmp 2) rfl N 0 rfl (sdV x) _ (range_of RX.out) Try.underlying53 rfl (szL sz53 sx.out) ?_)
        | (go_at_call 43; refine CC.out.mono ?_; rintro e1 w1 ⟨rfl, hb⟩; have B1 := Lib.hid hb; have c4 := (World.cell?_of_block (hb.block N (by have := bl_lt RX.out; exact this))).trans b4; have c0 := (World.cell?_of_block (hb.block N (by have := bl_lt RX.out; exact this))).trans b0; clear hb)
        | (go_at_call 39; refine (CW.out _).mono ?_; rintro e2 w' ⟨rfl, rfl⟩)
        | fail)
      go_ret
      exact ⟨congrArg (fun z => Ending.returned (.int .i64 z)) w3, BV.out.trans (B1.out.mono VS.out)⟩
theorem end_bnd {x : Sm} {e : Int} : (endC x e = 0 ∧ ¬ (fairS x = true ∧ 0 ≤ e ∧ e ≤ 400)) ∨ ((fairS x = true ∧ 0 ≤ e ∧ e ≤ 400) ∧ 1 ≤ endC x e ∧ endC x e ≤ 26064 ∧ 0 ≤ x.s.b ∧ x.s.b ≤ 64) := by
  by_cases h : fairS x = true ∧ 0 ≤ e ∧ e ≤ 400
  · right
    have f := fair_iff.1 h.1
    have g := mul_bnd h.2.1 h.2.2 f.1.1 f.1.2
    unfold endC
    rw [if_pos h]
    exact ⟨h, by omega, by omega, f.2.1⟩
  · left
    unfold endC
    rw [if_neg h]
    exact ⟨rfl, h⟩
set_option maxHeartbeats 4000000 in
theorem rOpen (x : Sm) (e h : Int) (w : World) : Calls Try.prog 25 #[.agg (sdV x).toArray, .int .i64 e, .int .i64 h] w fun e1 w' => e1 = .returned (.bool (openC x e h)) ∧ Below w.heap.size w w' := by
  obtain ⟨N, hN⟩ : ∃ N, w.heap.size = N := ⟨_, rfl⟩
  have HN := Lib.hid hN
  obtain ⟨v, hv⟩ : ∃ v, w.alloc (Obj.cells (sdV x).toArray 53) = v := ⟨_, rfl⟩
  have RX : Hid (BL v N (sdV x) 53) := Lib.hid (by subst hv hN; exact heap_alloc_last w _)
  have BV : Hid (Below N w v) := Lib.hid (by subst hv hN; exact (Below.refl _ w).alloc (Nat.le_refl _) _)
  have VS : Hid (N ≤ v.heap.size) := Lib.hid (by subst hv hN; simp)
  have sx : Hid ((sdV x).length = 42) := Lib.hid (sd_len x)
  have b0 := sd_c0 RX.out
  have b1 := sd_c1 RX.out
  have b4 := sd_c4 RX.out
  have CE : Hid (Calls Try.prog 23 #[.agg (sdV x).toArray, .int .i64 e] v fun e1 w' => e1 = .returned (.int .i64 (endC x e)) ∧ Below v.heap.size v w') := Lib.hid (rEnds x e v)
  have EB := end_bnd (x := x) (e := e)
  unfold openC
  obtain ⟨z, hz⟩ : ∃ z, endC x e = z := ⟨_, rfl⟩
  rw [hz] at CE EB ⊢
  rw [hN]
  rcases EB with ⟨rfl, hn⟩ | ⟨hp, z1, z2, n1, n2⟩
  · rw [decide_eq_false (fun g => hn ⟨g.1, g.2.1, g.2.2.1⟩)]
    clear hn hz b0 b4
    go_enter Try.func25, Try.ntmps25
    go_upto_region 1 with (fail)
    (try rw [hv])
    go_wp2_with (first
      | (refine wpList_load_midG (by rfl) 53 (.tmp 3) rfl N 0 rfl (sdV x) _ (range_of RX.out) Try.underlying53 rfl (szL sz53 sx.out) ?_)
      | (go_at_call 23; refine CE.out.mono ?_; rintro e1 w1 ⟨rfl, hb⟩; have B1 := Lib.hid hb; clear hb)
      | fail)
    go_ret
    exact ⟨rfl, BV.out.trans (B1.out.mono VS.out)⟩
  · obtain ⟨n, hn⟩ : ∃ n, x.s.b = n := ⟨_, rfl⟩
    rw [hn] at n1 n2 b1 ⊢
    have w1 : wrap64 (z + 1) = z + 1 := by unfold wrap64; omega
    have w2 : wrap64 (z + n) = z + n := by unfold wrap64; omega
    obtain ⟨q, hq⟩ : ∃ q, (decide (z + 1 ≤ h) && decide (h ≤ z + n)) = q := ⟨_, rfl⟩
    have CW : Hid (∀ w, Calls Try.prog 39 #[.int .i64 h, .int .i64 (z + 1), .int .i64 (z + n)] w fun e1 w' => e1 = .returned (.bool q) ∧ w = w') := Lib.hid fun w => by rw [← hq]; exact rWithin h (z + 1) (z + n) w
    have hqq : decide (fairS x = true ∧ 0 ≤ e ∧ e ≤ 400 ∧ z < h ∧ h ≤ z + n) = q := by
      rw [← hq]
      by_cases g1 : z < h <;> by_cases g2 : h ≤ z + n
      · rw [decide_eq_true ⟨hp.1, hp.2.1, hp.2.2, g1, g2⟩, decide_eq_true (by omega : z + 1 ≤ h), decide_eq_true g2]; rfl
      · rw [decide_eq_false (fun g => g2 g.2.2.2.2), decide_eq_false g2, Bool.and_false]
      · rw [decide_eq_false (fun g => g1 g.2.2.2.1), decide_eq_false (by omega : ¬ z + 1 ≤ h), Bool.false_and]
      · rw [decide_eq_false (fun g => g1 g.2.2.2.1), decide_eq_false (by omega : ¬ z + 1 ≤ h), Bool.false_and]
    rw [hqq]
    have z0 : (0 : Int) < z := by omega
    clear hqq hq hp hz hn n1 n2 z1 z2 b0 b4
    go_enter Try.func25, Try.ntmps25
    go_upto_region 1 with (fail)
    (try rw [hv])
    go_wp2_with (first
      | (refine wpList_load_midG (by rfl) 53 (.tmp 3) rfl N 0 rfl (sdV x) _ (range_of RX.out) Try.underlying53 rfl (szL sz53 sx.out) ?_)
      | (go_at_call 23; refine CE.out.mono ?_; rintro e1 w1 ⟨rfl, hb⟩; have B1 := Lib.hid hb; have c1 := (World.cell?_of_block (hb.block N (by have := bl_lt RX.out; exact this))).trans b1; clear hb)
      | (go_at_call 39; refine (CW.out _).mono ?_; rintro e2 w' ⟨rfl, rfl⟩)
      | fail)
    go_ret
    exact ⟨rfl, BV.out.trans (B1.out.mono VS.out)⟩
end Go.Proofs.Ytmcmdpbdipgahaa
