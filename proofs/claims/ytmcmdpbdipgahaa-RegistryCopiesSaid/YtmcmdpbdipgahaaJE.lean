/-
  Joined: R11, R12, R13.
-/
import Derived.Test.YtmcmdpbdipgahaaJD
/-
  Epochs and windows: the program's.
-/
namespace Go.Proofs.Ytmcmdpbdipgahaa
open Go.RowKit
set_option maxRecDepth 100000
def p1 (a : Int) : Bool := decide (1 ≤ a) && decide (a ≤ 64)
def p2 (b : Int) : Bool := decide (0 ≤ b) && decide (b ≤ 64)
def p3 (m : Int) : Bool := decide (0 ≤ m) && decide (m ≤ 400)
def fairS (x : Sm) : Bool := p1 x.s.a && (p2 x.s.b && p3 x.s.made)
/-- an epoch's number, or none -/
def epC (x : Sm) (h : Int) : Int × Bool := if fairS x = true ∧ x.s.made < h then (Int.tdiv (h - x.s.made - 1) x.s.a, true) else (0, false)
def endC (x : Sm) (e : Int) : Int := if fairS x = true ∧ 0 ≤ e ∧ e ≤ 400 then x.s.made + (e + 1) * x.s.a else 0
def openC (x : Sm) (e h : Int) : Bool := decide (fairS x = true ∧ 0 ≤ e ∧ e ≤ 400 ∧ endC x e < h ∧ h ≤ endC x e + x.s.b)
theorem fair_iff {x : Sm} : fairS x = true ↔ (1 ≤ x.s.a ∧ x.s.a ≤ 64) ∧ (0 ≤ x.s.b ∧ x.s.b ≤ 64) ∧ 0 ≤ x.s.made ∧ x.s.made ≤ 400 := by
  unfold fairS p1 p2 p3
  simp only [Bool.and_eq_true, decide_eq_true_eq]
theorem mul_bnd {e a : Int} (h1 : 0 ≤ e) (h2 : e ≤ 400) (h3 : 1 ≤ a) (h4 : a ≤ 64) : 1 ≤ (e + 1) * a ∧ (e + 1) * a ≤ 25664 := by
  have g1 : 1 * 1 ≤ (e + 1) * a := Int.mul_le_mul (by omega) h3 (by decide) (by omega)
  have g2 : (e + 1) * a ≤ 401 * 64 := Int.mul_le_mul (by omega) h4 (by omega) (by decide)
  exact ⟨by omega, by omega⟩
theorem tdiv_bnd {n a : Int} (h : 0 ≤ n) (ha : 1 ≤ a) : 0 ≤ n.tdiv a ∧ n.tdiv a ≤ n := by
  rw [Int.tdiv_eq_ediv_of_nonneg h]
  exact ⟨Int.ediv_nonneg h (by omega), Int.ediv_le_self a h⟩
theorem sd_c0 {w : World} {b : Nat} {x : Sm} {T : TypeId} (h : BL w b (sdV x) T) : w.cell? ⟨b, 0, none⟩ = some (.int .i64 x.s.a) := sd_at h (i := 0) rfl
theorem sd_c1 {w : World} {b : Nat} {x : Sm} {T : TypeId} (h : BL w b (sdV x) T) : w.cell? ⟨b, 1, none⟩ = some (.int .i64 x.s.b) := sd_at h (i := 1) rfl
attribute [local irreducible] sdV
set_option maxHeartbeats 2000000 in
theorem rCounts (x : Sm) (w : World) : Calls Try.prog 43 #[.agg (sdV x).toArray] w fun e w' => e = .returned (.bool (fairS x)) ∧ Below w.heap.size w w' := by
  obtain ⟨N, hN⟩ : ∃ N, w.heap.size = N := ⟨_, rfl⟩
  have HN := Lib.hid hN
  obtain ⟨v, hv⟩ : ∃ v, w.alloc (Obj.cells (sdV x).toArray 53) = v := ⟨_, rfl⟩
  have RX : Hid (BL v N (sdV x) 53) := Lib.hid (by subst hv hN; exact heap_alloc_last w _)
  have BV : Hid (Below N w v) := Lib.hid (by subst hv hN; exact (Below.refl _ w).alloc (Nat.le_refl _) _)
  have VS : Hid (N ≤ v.heap.size) := Lib.hid (by subst hv hN; simp)
  have sx : Hid ((sdV x).length = 42) := Lib.hid (sd_len x)
  have b0 := sd_c0 RX.out
  have b1 := sd_c1 RX.out
  have b4 := sd_c4 RX.out
  unfold fairS
  obtain ⟨a, ha⟩ : ∃ a, x.s.a = a := ⟨_, rfl⟩
  obtain ⟨b, hb⟩ : ∃ b, x.s.b = b := ⟨_, rfl⟩
  obtain ⟨m, hm⟩ : ∃ m, x.s.made = m := ⟨_, rfl⟩
  rw [ha] at b0 ⊢
  rw [hb] at b1 ⊢
  rw [hm] at b4 ⊢
  have W1 : Hid (∀ w, Calls Try.prog 39 #[.int .i64 a, .int .i64 1, .int .i64 64] w fun e w' => e = .returned (.bool (p1 a)) ∧ w = w') := Lib.hid fun w => rWithin a 1 64 w
  have W2 : Hid (∀ w, Calls Try.prog 39 #[.int .i64 b, .int .i64 0, .int .i64 64] w fun e w' => e = .returned (.bool (p2 b)) ∧ w = w') := Lib.hid fun w => rWithin b 0 64 w
  have W3 : Hid (∀ w, Calls Try.prog 39 #[.int .i64 m, .int .i64 0, .int .i64 400] w fun e w' => e = .returned (.bool (p3 m)) ∧ w = w') := Lib.hid fun w => rWithin m 0 400 w
  generalize p1 a = q1 at *
  generalize p2 b = q2 at *
  generalize p3 m = q3 at *
  clear ha hb hm
  rw [hN]
  have T1 : Hid True := Lib.hid trivial
  have T2 : Hid True := Lib.hid trivial
  cases q1 <;> cases q2 <;>
  · go_enter Try.func43, Try.ntmps43
    go_upto_region 1 with (fail)
    (try rw [hv])
    go_wp2_with (first
      | (go_at_call 39; clear T1; refine (W1.out _).mono ?_; rintro e w' ⟨rfl, rfl⟩)
      | (go_at_call 39; clear T2; refine (W2.out _).mono ?_; rintro e w' ⟨rfl, rfl⟩)
      | (go_at_call 39; refine (W3.out _).mono ?_; rintro e w' ⟨rfl, rfl⟩)
      | fail)
    go_ret
    exact ⟨rfl, BV.out⟩
set_option maxHeartbeats 4000000 in
theorem rEpoch (x : Sm) (h : Int) (w : World) (hw : wfI h) : Calls Try.prog 21 #[.agg (sdV x).toArray, .int .i64 h] w fun e w' => e = .returned (.tuple #[.int .i64 (epC x h).1, .bool (epC x h).2]) ∧ Below w.heap.size w w' := by
  obtain ⟨N, hN⟩ : ∃ N, w.heap.size = N := ⟨_, rfl⟩
  have HN := Lib.hid hN
  obtain ⟨v, hv⟩ : ∃ v, w.alloc (Obj.cells (sdV x).toArray 53) = v := ⟨_, rfl⟩
  have RX : Hid (BL v N (sdV x) 53) := Lib.hid (by subst hv hN; exact heap_alloc_last w _)
  have BV : Hid (Below N w v) := Lib.hid (by subst hv hN; exact (Below.refl _ w).alloc (Nat.le_refl _) _)
  have VS : Hid (N ≤ v.heap.size) := Lib.hid (by subst hv hN; simp)
  have sx : Hid ((sdV x).length = 42) := Lib.hid (sd_len x)
  have b0 := sd_c0 RX.out
  have b1 := sd_c1 RX.out
  have b4 := sd_c4 RX.out
  have CC : Hid (Calls Try.prog 43 #[.agg (sdV x).toArray] v fun e w' => e = .returned (.bool (fairS x)) ∧ Below v.heap.size v w') := Lib.hid (rCounts x v)
  have FI : Hid (fairS x = true → (1 ≤ x.s.a ∧ x.s.a ≤ 64) ∧ (0 ≤ x.s.b ∧ x.s.b ≤ 64) ∧ 0 ≤ x.s.made ∧ x.s.made ≤ 400) := Lib.hid fair_iff.1
  unfold epC
  obtain ⟨a, ha⟩ : ∃ a, x.s.a = a := ⟨_, rfl⟩
  obtain ⟨m, hm⟩ : ∃ m, x.s.made = m := ⟨_, rfl⟩
  rw [ha] at b0 FI ⊢
  rw [hm] at b4 FI ⊢
  obtain ⟨f, hf⟩ : ∃ f, fairS x = f := ⟨_, rfl⟩
  rw [hf] at CC FI ⊢
  clear ha hm hf b1
  rw [hN]
  cases f with
  | false =>
    rw [if_neg (by simp)]
    clear FI
    go_enter Try.func21, Try.ntmps21
    go_upto_region 1 with (fail)
    (try rw [hv])
    go_wp2_with (first
      | (refine wpList_load_midG (by rfl) 53 (.tmp 2) rfl N 0 rfl (sdV x) _ (range_of RX.out) Try.underlying53 rfl (szL sz53 sx.out) ?_)
      | (go_at_call 43; refine CC.out.mono ?_; rintro e w1 ⟨rfl, hb⟩; have B1 := Lib.hid hb; clear hb)
      | fail)
    go_ret2
    exact ⟨rfl, BV.out.trans (B1.out.mono VS.out)⟩
  | true =>
    obtain ⟨⟨a1, a2⟩, _, m1, m2⟩ := FI.out rfl
    by_cases hm : h ≤ m
    · rw [if_neg (by omega)]
      clear FI a1 a2 m1 m2
      go_enter Try.func21, Try.ntmps21
      go_upto_region 1 with (fail)
      (try rw [hv])
      go_wp2_with (first
        | (refine wpList_load_midG (by rfl) 53 (.tmp 2) rfl N 0 rfl (sdV x) _ (range_of RX.out) Try.underlying53 rfl (szL sz53 sx.out) ?_)
        | (go_at_call 43; refine CC.out.mono ?_; rintro e w1 ⟨rfl, hb⟩; have B1 := Lib.hid hb; have c4 := (World.cell?_of_block (hb.block N (by have := bl_lt RX.out; exact this))).trans b4; clear hb)
        | fail)
      go_ret2
      exact ⟨rfl, BV.out.trans (B1.out.mono VS.out)⟩
    · rw [if_pos ⟨rfl, by omega⟩]
      have w1 : wrap64 (h - m) = h - m := by unfold wfI at hw; unfold wrap64; omega
      have w2 : wrap64 (h - m - 1) = h - m - 1 := by unfold wfI at hw; unfold wrap64; omega
      have w3 : wrap64 ((h - m - 1).tdiv a) = (h - m - 1).tdiv a := by
        have g := tdiv_bnd (n := h - m - 1) (a := a) (by omega) a1
        generalize (h - m - 1).tdiv a = z at *
        unfold wfI at hw; unfold wrap64; omega
      have hnm : ¬ (h ≤ m) := hm
      have a0 : a ≠ 0 := by omega
      have am : a ≠ -1 := by omega
      clear FI
      go_enter Try.func21, Try.ntmps21
      go_upto_region 1 with (fail)
      (try rw [hv])
      go_wp2_with (first
        | (refine wpList_load_midG (by rfl) 53 (.tmp 2) rfl N 0 rfl (sdV x) _ (range_of RX.out) Try.underlying53 rfl (szL sz53 sx.out) ?_)
        | (go_at_call 43; refine CC.out.mono ?_; rintro e w1 ⟨rfl, hb⟩; have B1 := Lib.hid hb; have c4 := (World.cell?_of_block (hb.block N (by have := bl_lt RX.out; exact this))).trans b4; have c0 := (World.cell?_of_block (hb.block N (by have := bl_lt RX.out; exact this))).trans b0; clear hb)
        | fail)
      go_ret2
      exact ⟨congrArg (fun z => Ending.returned (.tuple #[.int .i64 z, .bool true])) w3, BV.out.trans (B1.out.mono VS.out)⟩
set_option maxHeartbeats 4000000 in
theorem rEnds (x : Sm) (e : Int) (w : World) : Calls Try.prog 23 #[.agg (sdV x).toArray, .int .i64 e] w fun e1 w' => e1 = .returned (.int .i64 (endC x e)) ∧ Below w.heap.size w w' := by
  obtain ⟨N, hN⟩ : ∃ N, w.heap.size = N := ⟨_, rfl⟩
  have HN := Lib.hid hN
  obtain ⟨v, hv⟩ : ∃ v, w.alloc (Obj.cells (sdV x).toArray 53) = v := ⟨_, rfl⟩
  have RX : Hid (BL v N (sdV x) 53) := Lib.hid (by subst hv hN; exact heap_alloc_last w _)
  have BV : Hid (Below N w v) := Lib.hid (by subst hv hN; exact (Below.refl _ w).alloc (Nat.le_refl _) _)
  have VS : Hid (N ≤ v.heap.size) := Lib.hid (by subst hv hN; simp)
  have sx : Hid ((sdV x).length = 42) := Lib.hid (sd_len x)
  have b0 := sd_c0 RX.out
  have b1 := sd_c1 RX.out
  have b4 := sd_c4 RX.out
  have CC : Hid (Calls Try.prog 43 #[.agg (sdV x).toArray] v fun e w' => e = .returned (.bool (fairS x)) ∧ Below v.heap.size v w') := Lib.hid (rCounts x v)
  have FI : Hid (fairS x = true → (1 ≤ x.s.a ∧ x.s.a ≤ 64) ∧ (0 ≤ x.s.b ∧ x.s.b ≤ 64) ∧ 0 ≤ x.s.made ∧ x.s.made ≤ 400) := Lib.hid fair_iff.1
  unfold endC
  obtain ⟨a, ha⟩ : ∃ a, x.s.a = a := ⟨_, rfl⟩
  obtain ⟨m, hm⟩ : ∃ m, x.s.made = m := ⟨_, rfl⟩
  rw [ha] at b0 FI ⊢
  rw [hm] at b4 FI ⊢
  obtain ⟨f, hf⟩ : ∃ f, fairS x = f := ⟨_, rfl⟩
  rw [hf] at CC FI ⊢
  clear ha hm hf b1
  rw [hN]
  obtain ⟨q, hq⟩ : ∃ q, (decide (0 ≤ e) && decide (e ≤ 400)) = q := ⟨_, rfl⟩
  have CW : Hid (∀ w, Calls Try.prog 39 #[.int .i64 e, .int .i64 0, .int .i64 400] w fun e1 w' => e1 = .returned (.bool q) ∧ w = w') := Lib.hid fun w => by rw [← hq]; exact rWithin e 0 400 w
  cases f with
  | false =>
    rw [if_neg (by simp)]
    clear FI hq CW
    go_enter Try.func23, Try.ntmps23
    go_upto_region 1 with (fail)
    (try rw [hv])
    go_wp2_with (first
      | (refine wpList_load_midG (by rfl) 53 (.tmp 2) rfl N 0 rfl (sdV x) _ (range_of RX.out) Try.underlying53 rfl (szL sz53 sx.out) ?_)
      | (go_at_call 43; refine CC.out.mono ?_; rintro e1 w1 ⟨rfl, hb⟩; have B1 := Lib.hid hb; have c4 := (World.cell?_of_block (hb.block N (by have := bl_lt RX.out; exact this))).trans b4; have c0 := (World.cell?_of_block (hb.block N (by have := bl_lt RX.out; exact this))).trans b0; clear hb)
      | fail)
    go_ret
    exact ⟨rfl, BV.out.trans (B1.out.mono VS.out)⟩
  | true =>
    obtain ⟨⟨a1, a2⟩, _, m1, m2⟩ := FI.out rfl
    cases q with
    | false =>
      rw [if_neg (by simp only [Bool.and_eq_false_iff, decide_eq_false_iff_not] at hq; omega)]
      clear FI a1 a2 m1 m2 hq
      go_enter Try.func23, Try.ntmps23
      go_upto_region 1 with (fail)
      (try rw [hv])
      go_wp2_with (first
        | (refine wpList_load_midG (by rfl) 53 (.tmp 2) rfl N 0 rfl (sdV x) _ (range_of RX.out) Try.underlying53 rfl (szL sz53 sx.out) ?_)
        | (go_at_call 43; refine CC.out.mono ?_; rintro e1 w1 ⟨rfl, hb⟩; have B1 := Lib.hid hb; have c4 := (World.cell?_of_block (hb.block N (by have := bl_lt RX.out; exact this))).trans b4; have c0 := (World.cell?_of_block (hb.block N (by have := bl_lt RX.out; exact this))).trans b0; clear hb)
        | (go_at_call 39; refine (CW.out _).mono ?_; rintro e2 w' ⟨rfl, rfl⟩)
        | fail)
      go_ret
      exact ⟨rfl, BV.out.trans (B1.out.mono VS.out)⟩
    | true =>
      simp only [Bool.and_eq_true, decide_eq_true_eq] at hq
      rw [if_pos ⟨rfl, hq.1, hq.2⟩]
      have g := mul_bnd hq.1 hq.2 a1 a2
      have w1 : wrap64 (e + 1) = e + 1 := by unfold wrap64; omega
      obtain ⟨z, hz⟩ : ∃ z, (e + 1) * a = z := ⟨_, rfl⟩
      rw [hz] at g ⊢
      have w2 : wrap64 ((e + 1) * a) = z := by rw [hz]; unfold wrap64; omega
      have w3 : wrap64 (m + z) = m + z := by unfold wrap64; omega
      clear hz FI hq g
      go_enter Try.func23, Try.ntmps23
      go_upto_region 1 with (fail)
      (try rw [hv])
      go_wp2_with (first
        | (refine wpList_load_midG (by rfl) 53 (.tmp 2) rfl N 0 rfl (sdV x) _ (range_of RX.out) Try.underlying53 rfl (szL sz53 sx.out) ?_)
        | (go_at_call 43; refine CC.out.mono ?_; rintro e1 w1 ⟨rfl, hb⟩; have B1 := Lib.hid hb; have c4 := (World.cell?_of_block (hb.block N (by have := bl_lt RX.out; exact this))).trans b4; have c0 := (World.cell?_of_block (hb.block N (by have := bl_lt RX.out; exact this))).trans b0; clear hb)
        | (go_at_call 39; refine (CW.out _).mono ?_; rintro e2 w' ⟨rfl, rfl⟩)
        | fail)
      go_ret
      exact ⟨congrArg (fun z => Ending.returned (.int .i64 z)) w3, BV.out.trans (B1.out.mono VS.out)⟩
theorem end_bnd {x : Sm} {e : Int} : (endC x e = 0 ∧ ¬ (fairS x = true ∧ 0 ≤ e ∧ e ≤ 400)) ∨ ((fairS x = true ∧ 0 ≤ e ∧ e ≤ 400) ∧ 1 ≤ endC x e ∧ endC x e ≤ 26064 ∧ 0 ≤ x.s.b ∧ x.s.b ≤ 64) := by
  by_cases h : fairS x = true ∧ 0 ≤ e ∧ e ≤ 400
  · right
    have f := fair_iff.1 h.1
    have g := mul_bnd h.2.1 h.2.2 f.1.1 f.1.2
    unfold endC
    rw [if_pos h]
    exact ⟨h, by omega, by omega, f.2.1⟩
  · left
    unfold endC
    rw [if_neg h]
    exact ⟨rfl, h⟩
set_option maxHeartbeats 4000000 in
theorem rOpen (x : Sm) (e h : Int) (w : World) : Calls Try.prog 25 #[.agg (sdV x).toArray, .int .i64 e, .int .i64 h] w fun e1 w' => e1 = .returned (.bool (openC x e h)) ∧ Below w.heap.size w w' := by
  obtain ⟨N, hN⟩ : ∃ N, w.heap.size = N := ⟨_, rfl⟩
  have HN := Lib.hid hN
  obtain ⟨v, hv⟩ : ∃ v, w.alloc (Obj.cells (sdV x).toArray 53) = v := ⟨_, rfl⟩
  have RX : Hid (BL v N (sdV x) 53) := Lib.hid (by subst hv hN; exact heap_alloc_last w _)
  have BV : Hid (Below N w v) := Lib.hid (by subst hv hN; exact (Below.refl _ w).alloc (Nat.le_refl _) _)
  have VS : Hid (N ≤ v.heap.size) := Lib.hid (by subst hv hN; simp)
  have sx : Hid ((sdV x).length = 42) := Lib.hid (sd_len x)
  have b0 := sd_c0 RX.out
  have b1 := sd_c1 RX.out
  have b4 := sd_c4 RX.out
  have CE : Hid (Calls Try.prog 23 #[.agg (sdV x).toArray, .int .i64 e] v fun e1 w' => e1 = .returned (.int .i64 (endC x e)) ∧ Below v.heap.size v w') := Lib.hid (rEnds x e v)
  have EB := end_bnd (x := x) (e := e)
  unfold openC
  obtain ⟨z, hz⟩ : ∃ z, endC x e = z := ⟨_, rfl⟩
  rw [hz] at CE EB ⊢
  rw [hN]
  rcases EB with ⟨rfl, hn⟩ | ⟨hp, z1, z2, n1, n2⟩
  · rw [decide_eq_false (fun g => hn ⟨g.1, g.2.1, g.2.2.1⟩)]
    clear hn hz b0 b4
    go_enter Try.func25, Try.ntmps25
    go_upto_region 1 with (fail)
    (try rw [hv])
    go_wp2_with (first
      | (refine wpList_load_midG (by rfl) 53 (.tmp 3) rfl N 0 rfl (sdV x) _ (range_of RX.out) Try.underlying53 rfl (szL sz53 sx.out) ?_)
      | (go_at_call 23; refine CE.out.mono ?_; rintro e1 w1 ⟨rfl, hb⟩; have B1 := Lib.hid hb; clear hb)
      | fail)
    go_ret
    exact ⟨rfl, BV.out.trans (B1.out.mono VS.out)⟩
  · obtain ⟨n, hn⟩ : ∃ n, x.s.b = n := ⟨_, rfl⟩
    rw [hn] at n1 n2 b1 ⊢
    have w1 : wrap64 (z + 1) = z + 1 := by unfold wrap64; omega
    have w2 : wrap64 (z + n) = z + n := by unfold wrap64; omega
    obtain ⟨q, hq⟩ : ∃ q, (decide (z + 1 ≤ h) && decide (h ≤ z + n)) = q := ⟨_, rfl⟩
    have CW : Hid (∀ w, Calls Try.prog 39 #[.int .i64 h, .int .i64 (z + 1), .int .i64 (z + n)] w fun e1 w' => e1 = .returned (.bool q) ∧ w = w') := Lib.hid fun w => by rw [← hq]; exact rWithin h (z + 1) (z + n) w
    have hqq : decide (fairS x = true ∧ 0 ≤ e ∧ e ≤ 400 ∧ z < h ∧ h ≤ z + n) = q := by
      rw [← hq]
      by_cases g1 : z < h <;> by_cases g2 : h ≤ z + n
      · rw [decide_eq_true ⟨hp.1, hp.2.1, hp.2.2, g1, g2⟩, decide_eq_true (by omega : z + 1 ≤ h), decide_eq_true g2]; rfl
      · rw [decide_eq_false (fun g => g2 g.2.2.2.2), decide_eq_false g2, Bool.and_false]
      · rw [decide_eq_false (fun g => g1 g.2.2.2.1), decide_eq_false (by omega : ¬ z + 1 ≤ h), Bool.false_and]
      · rw [decide_eq_false (fun g => g1 g.2.2.2.1), decide_eq_false (by omega : ¬ z + 1 ≤ h), Bool.false_and]
    rw [hqq]
    have z0 : (0 : Int) < z := by omega
    clear hqq hq hp hz hn n1 n2 z1 z2 b0 b4
    go_enter Try.func25, Try.ntmps25
    go_upto_region 1 with (fail)
    (try rw [hv])
    go_wp2_with (first
      | (refine wpList_load_midG (by rfl) 53 (.tmp 3) rfl N 0 rfl (sdV x) _ (range_of RX.out) Try.underlying53 rfl (szL sz53 sx.out) ?_)
      | (go_at_call 23; refine CE.out.mono ?_; rintro e1 w1 ⟨rfl, hb⟩; have B1 := Lib.hid hb; have c1 := (World.cell?_of_block (hb.block N (by have := bl_lt RX.out; exact this))).trans b1; clear hb)
      | (go_at_call 39; refine (CW.out _).mono ?_; rintro e2 w' ⟨rfl, rfl⟩)
      | fail)
    go_ret
    exact ⟨rfl, BV.out.trans (B1.out.mono VS.out)⟩
end Go.Proofs.Ytmcmdpbdipgahaa

/-
  RegistryWindows without the walk.
-/
namespace Go.Proofs.Ytmcmdpbdipgahaa
open Go.RowKit
set_option maxRecDepth 100000
/-- a record with a schedule alone -/
def smW (L W m : Int) : Sm := sm1 L W 0 none 0 0 [] m
theorem b53w (L W m : Int) (w : World) : (Instr.build 53 #[(1, .int .i64 m), (0, .agg #[.int .i64 L, .int .i64 W, .int .i64 0, .slice none 0 0])]).run Try.prog w = .ok (.agg (sdV (smW L W m)).toArray) w := by kernel_rfl
theorem sw_abm (L W m : Int) : (smW L W m).s.a = L ∧ (smW L W m).s.b = W ∧ (smW L W m).s.made = m := ⟨rfl, rfl, rfl⟩
structure WD (L W m : Int) : Prop where
  l1 : 2 ≤ L
  l2 : L ≤ 64
  w1 : 1 ≤ W
  w2 : W ≤ L
  m1 : 0 ≤ m
  m2 : m < 256
theorem WD.fair {L W m : Int} (d : WD L W m) : fairS (smW L W m) = true := by
  obtain ⟨l1, l2, w1, w2, m1, m2⟩ := d
  refine fair_iff.2 ⟨?_, ?_, ?_⟩
  · show 1 ≤ L ∧ L ≤ 64
    omega
  · show 0 ≤ W ∧ W ≤ 64
    omega
  · show 0 ≤ m ∧ m ≤ 400
    omega
/-- where j stands: z blocks of whole epochs, r in the one that runs -/
structure Wj (L q r z : Int) (j : Nat) : Prop where
  e : (j : Int) = z + r
  z : q * L = z
  r0 : 0 ≤ r
  r1 : r + 1 ≤ L
  q0 : 0 ≤ q
  q3 : q ≤ 3
theorem wj_of {L W m : Int} (d : WD L W m) {j : Nat} (hj : (j : Int) < 3 * L + 2) : Wj L ((j : Int) / L) ((j : Int) % L) ((j : Int) / L * L) j := by
  have l1 := d.l1
  have h1 := Int.emod_nonneg (j : Int) (show L ≠ 0 by omega)
  have h2 := Int.emod_lt_of_pos (j : Int) (show 0 < L by omega)
  have h3 := Int.mul_ediv_add_emod (j : Int) L
  rw [Int.mul_comm] at h3
  have h4 : 0 ≤ (j : Int) / L := Int.ediv_nonneg (by omega) (by omega)
  refine ⟨h3.symm, rfl, h1, by omega, h4, ?_⟩
  by_cases h5 : (j : Int) / L ≤ 3
  · exact h5
  · have : 4 * L ≤ (j : Int) / L * L := Int.mul_le_mul_of_nonneg_right (by omega) (by omega)
    omega
section
variable {L W m q r z : Int} {j : Nat}
theorem ep_w (d : WD L W m) : epC (smW L W m) (m + 1 + j) = ((j : Int) / L, true) := by
  unfold epC
  rw [if_pos ⟨d.fair, by show m < _; omega⟩]
  show ((m + 1 + (j : Int) - m - 1).tdiv L, true) = _
  rw [show m + 1 + (j : Int) - m - 1 = (j : Int) by omega, Int.tdiv_eq_ediv_of_nonneg (by omega)]
theorem ep_0 (d : WD L W m) : epC (smW L W m) m = (0, false) := by
  have := d.m1
  unfold epC
  rw [if_neg]
  rintro ⟨_, h⟩
  have h : m < m := h
  omega
theorem end_w (d : WD L W m) {k : Int} (h0 : 0 ≤ k) (h4 : k ≤ 400) : endC (smW L W m) k = m + (k + 1) * L := by
  unfold endC
  rw [if_pos ⟨d.fair, h0, h4⟩]
  rfl
theorem end_q (d : WD L W m) (h : Wj L q r z j) : endC (smW L W m) q = m + (z + L) := by
  rw [end_w d h.q0 (by have := h.q3; omega), Int.add_mul, h.z, Int.one_mul]
theorem end_p (d : WD L W m) (h : Wj L q r z j) : endC (smW L W m) (q - 1) = if 1 ≤ q then m + z else 0 := by
  by_cases h1 : 1 ≤ q
  · rw [if_pos h1, end_w d (by omega) (by have := h.q3; omega), show q - 1 + 1 = q by omega, h.z]
  · rw [if_neg h1]
    unfold endC
    rw [if_neg (fun g => by omega)]
theorem open_w (d : WD L W m) (h : Wj L q r z j) {k : Int} (h0 : 0 ≤ k) (h4 : k ≤ 400) : openC (smW L W m) k (m + 1 + j) = decide (k = q - 1 ∧ r + 1 ≤ W) := by
  obtain ⟨he, hz, r0, r1, q0, q3⟩ := h
  obtain ⟨l1, l2, w1, w2, m1, m2⟩ := d
  have d : WD L W m := ⟨l1, l2, w1, w2, m1, m2⟩
  unfold openC
  rw [end_w d h0 h4]
  rw [show (smW L W m).s.b = W from rfl]
  refine decide_eq_decide.2 ?_
  have e1 : (k + 1) * L = k * L + L := by rw [Int.add_mul, Int.one_mul]
  constructor
  · rintro ⟨_, _, _, g1, g2⟩
    rcases Int.lt_trichotomy k (q - 1) with g | g | g
    · exfalso
      have : (k + 2) * L ≤ q * L := Int.mul_le_mul_of_nonneg_right (by omega) (by omega)
      have e2 : (k + 2) * L = k * L + 2 * L := by rw [Int.add_mul]
      omega
    · refine ⟨g, ?_⟩
      subst g
      rw [show q - 1 + 1 = q by omega] at g2
      omega
    · exfalso
      have : q * L ≤ k * L := Int.mul_le_mul_of_nonneg_right (by omega) (by omega)
      omega
  · rintro ⟨rfl, g⟩
    rw [show q - 1 + 1 = q by omega]
    exact ⟨d.fair, by omega, by omega, by omega, by omega⟩
end
end Go.Proofs.Ytmcmdpbdipgahaa

/-
  RegistryWindows: the walk.
-/
namespace Go.Proofs.Ytmcmdpbdipgahaa
open Go.RowKit
set_option maxRecDepth 100000
theorem quiet_skip {ops : Array Oper} {o : Oper} {a : Act} {K : Act → Prop} {E : Prop} (hw : Region.wanted o (yielded ops a.tmps) = false) (hK : K (a.put o.dst undef)) : if Region.wanted o (yielded ops a.tmps) = true then E else K (a.put o.dst undef) := by
  rw [if_neg (by rw [hw]; decide)]
  exact hK
attribute [local irreducible] sdV smW wpQuiet
set_option maxHeartbeats 16000000 in
theorem q5 (m0 l0 n0 : Int) (w : World) (hm : 0 ≤ m0 ∧ m0 < 256) (hl : 0 ≤ l0 ∧ l0 < 256) (hn : 0 ≤ n0 ∧ n0 < 256) :
    Calls Try.prog 5 #[.int .u8 m0, .int .u8 l0, .int .u8 n0] w fun e w' => e = .returned (.bool true) ∧ Below w.heap.size w w' := by
  obtain ⟨N, hN⟩ : ∃ N, w.heap.size = N := ⟨_, rfl⟩
  have HN := Lib.hid hN
  have AW := Lib.hid rAwake
  have hz : ∀ w, (zeroValue 53).run Try.prog w = .ok (.agg (sdV sm0).toArray) w := z53
  have u1 : IntKind.i64.wrap m0 = m0 := by rw [IntKind.wrap_i64]; omega
  have u2 : IntKind.i64.wrap l0 = l0 := by rw [IntKind.wrap_i64]; omega
  have u3 : IntKind.i64.wrap n0 = n0 := by rw [IntKind.wrap_i64]; omega
  rw [hN]
  go_enter Try.func5, Try.ntmps5
  go_upto_region 3 with (first
    | (go_at_call 9; refine (AW.out _).mono ?_; clear AW; rintro e w1 ⟨rfl, hb⟩; have B1 := Lib.hid hb; clear hb)
    | fail)
  go_upto_region 5 with (fail)
  have HN1 : Hid (N ≤ w1.heap.size) := Lib.hid (by rw [← HN.out]; exact B1.out.size)
  obtain ⟨L, hL⟩ : ∃ L, 2 + l0 % 63 = L := ⟨_, rfl⟩
  rw [hL]
  obtain ⟨Wn, hWn⟩ : ∃ W, wrap64 (1 + n0 % L) = W := ⟨_, rfl⟩
  rw [hWn]
  have DW : Hid (WD L Wn m0) := Lib.hid (by
    have h1 := Int.emod_nonneg l0 (show (63 : Int) ≠ 0 by decide)
    have h2 := Int.emod_lt_of_pos l0 (show (0 : Int) < 63 by decide)
    have h3 := Int.emod_nonneg n0 (show L ≠ 0 by omega)
    have h4 := Int.emod_lt_of_pos n0 (show 0 < L by omega)
    have h5 : wrap64 (1 + n0 % L) = 1 + n0 % L := by
      generalize n0 % L = y at *
      unfold wrap64; omega
    rw [h5] at hWn
    exact ⟨by omega, by omega, by omega, by omega, hm.1, hm.2⟩)
  clear hL hWn u2 u3
  have SB := fun w => b53w L Wn m0 w
  obtain ⟨x, hx⟩ : ∃ x, smW L Wn m0 = x := ⟨_, rfl⟩
  have HX := Lib.hid hx
  have XM : Hid (x.s.made = m0) := Lib.hid (by rw [← hx]; exact (sw_abm L Wn m0).2.2)
  rw [hx] at SB
  clear hx hm hl hn
  obtain ⟨M, hM⟩ : ∃ M, w1.heap.size = M := ⟨_, rfl⟩
  have sx : Hid ((sdV x).length = 42) := Lib.hid (sd_len x)
  have s0 : Hid ((sdV sm0).length = 42) := Lib.hid (sd_len sm0)
  obtain ⟨v, hv⟩ : ∃ v, w1.alloc (Obj.cells #[.int .i64 L, .int .i64 Wn, .int .i64 0, .slice none 0 0] 38) = v := ⟨_, rfl⟩
  have PV : Hid (PB v M L Wn 0 (.slice none 0 0)) := Lib.hid (by subst hv; exact pb_new hM L Wn 0 (.slice none 0 0))
  have SV : Hid (v.heap.size = M + 1) := Lib.hid (by rw [← hv, ← hM, World.size_alloc])
  have BV1 : Hid (Below w1.heap.size w1 v) := Lib.hid (by rw [← hv]; exact (Below.refl _ w1).alloc (Nat.le_refl _) _)
  rw [hM, hv]
  have R2 : Hid (BL ((v.alloc (Obj.cells (sdV sm0).toArray 53)).setRow v.heap.size (sdV x).toArray) v.heap.size (sdV x) 53) := Lib.hid (setRow_heap _ _ _ _ _ _ (heap_alloc_last v _))
  have BV2 : Hid (Below v.heap.size v ((v.alloc (Obj.cells (sdV sm0).toArray 53)).setRow v.heap.size (sdV x).toArray)) := Lib.hid (below_setRow ((Below.refl _ v).alloc (Nat.le_refl _) _) (Nat.le_refl _) _)
  have SV2 : Hid (((v.alloc (Obj.cells (sdV sm0).toArray 53)).setRow v.heap.size (sdV x).toArray).heap.size = M + 2) := Lib.hid (by rw [setRow_size, World.size_alloc, SV.out])
  clear hv
  go_upto_region 6 with (first
    | (refine wpList_load_midG (by rfl) 38 (.tmp 7) rfl M 0 rfl [.int .i64 L, .int .i64 Wn, .int .i64 0, .slice none 0 0] _ (pb_range PV.out) Try.underlying38 rfl (pb_info L Wn 0 _) ?_)
    | (refine wpList_bld2 (by rfl) 53 (.tmp 31) (.tmp 32) 1 0 (.int .i64 m0) (.agg (sdV x).toArray) (.agg #[.int .i64 L, .int .i64 Wn, .int .i64 0, .slice none 0 0]) rfl rfl rfl SB ?_)
    | (refine wpList_store_rowTo rfl 53 (.tmp 8) (.tmp 33) rfl rfl v.heap.size (sdV x).toArray rfl rfl 53 _ (heap_alloc_last v _) (szA sz53 sx.out) (by rw [List.size_toArray, List.size_toArray, sx.out, s0.out]) (all_oneCell_toArray (sd_one x)) ?_)
    | fail)
  obtain ⟨w2, hw2⟩ : ∃ w2, (v.alloc (Obj.cells (sdV sm0).toArray 53)).setRow v.heap.size (sdV x).toArray = w2 := ⟨_, rfl⟩
  rw [hw2] at R2 BV2 SV2 ⊢
  have hM1 := SV.out
  rw [hM1] at R2 ⊢
  have PW : Hid (PB w2 M L Wn 0 (.slice none 0 0)) := Lib.hid ((BV2.out.block M (by omega)).trans PV.out)
  have B2 : Hid (Below N w w2) := Lib.hid (((show Below N w w1 by rw [← HN.out]; exact B1.out).trans (BV1.out.mono HN1.out)).trans (BV2.out.mono (by have := HN1.out; omega)))
  obtain ⟨Z, hZ⟩ : ∃ Z, w2.heap.size = Z := ⟨_, rfl⟩
  have HZ : Hid (Z = M + 2) := Lib.hid (by rw [← hZ]; exact SV2.out)
  have HZ2 := Lib.hid hZ
  have CA0 : ∀ W, Below Z w2 W → W.cell? ⟨M, 0, none⟩ = some (.int .i64 L) := fun W hb => (World.cell?_of_block (w := w2) (a := ⟨M, 0, none⟩) (hb.block M (by have := HZ.out; omega))).trans (pb_cells PW.out).1
  have CA1 : ∀ W, Below Z w2 W → W.cell? ⟨M, 1, none⟩ = some (.int .i64 Wn) := fun W hb => (World.cell?_of_block (w := w2) (a := ⟨M, 1, none⟩) (hb.block M (by have := HZ.out; omega))).trans (pb_cells PW.out).2.1
  have CX : ∀ W, Below Z w2 W → W.rangeAt (M + 1) 0 (sdV x) := fun W hb => range_keep1 (range_of R2.out) (hb.block (M + 1) (by have := HZ.out; omega))
  have CMD : ∀ W, Below Z w2 W → W.cell? ⟨M + 1, 4, none⟩ = some (.int .i64 m0) := fun W hb => by
    have := (World.cell?_of_block (w := w2) (a := ⟨M + 1, 4, none⟩) (hb.block (M + 1) (by have := HZ.out; omega))).trans (sd_c4 R2.out)
    rwa [XM.out] at this
  have KE : Hid (∀ (e : Int) W, Below Z w2 W → Calls Try.prog 23 #[.agg (sdV x).toArray, .int .i64 e] W fun e1 w' => e1 = .returned (.int .i64 (endC x e)) ∧ Below Z w2 w') := Lib.hid fun e W hb => (rEnds x e W).mono fun e1 w' h => ⟨h.1, hb.trans (h.2.mono (by have := hb.size; rw [HZ2.out] at this; exact this))⟩
  have KEP : Hid (∀ (h : Int) W, wfI h → Below Z w2 W → Calls Try.prog 21 #[.agg (sdV x).toArray, .int .i64 h] W fun e1 w' => e1 = .returned (.tuple #[.int .i64 (epC x h).1, .bool (epC x h).2]) ∧ Below Z w2 w') := Lib.hid fun h W hw hb => (rEpoch x h W hw).mono fun e1 w' h => ⟨h.1, hb.trans (h.2.mono (by have := hb.size; rw [HZ2.out] at this; exact this))⟩
  have KOP : Hid (∀ (e h : Int) W, Below Z w2 W → Calls Try.prog 25 #[.agg (sdV x).toArray, .int .i64 e, .int .i64 h] W fun e1 w' => e1 = .returned (.bool (openC x e h)) ∧ Below Z w2 w') := Lib.hid fun e h W hb => (rOpen x e h W).mono fun e1 w' h => ⟨h.1, hb.trans (h.2.mono (by have := hb.size; rw [HZ2.out] at this; exact this))⟩
  have a0 := CA0 w2 (Below.refl _ _)
  have a4 := CMD w2 (Below.refl _ _)
  have BZ2 : Hid (Below Z w2 w2) := Lib.hid (Below.refl _ _)
  have s1 : wrap64 (m0 + 1) = m0 + 1 := by have := DW.out.m1; have := DW.out.m2; unfold wrap64; omega
  have S1 := Lib.hid s1
  clear hw2 hZ hM1 hM R2 PV BV1 BV2 SV SV2 HN1 B1 SB hz PW
  go_upto_region 7 with (fail)
  clear a0 a4 s1
  go_loopw [9] (fun hv wr => ∃ j : Nat, (j : Int) ≤ 3 * L + 2 ∧ hv = .int .i64 (m0 + 1 + (j : Int)) ∧ Below Z w2 wr) (fun hv _ => (3 * L + 2 + m0 + 1 - intOf hv).toNat)
  case atStart => exact ⟨0, by have := DW.out.l1; omega, by (try rw [S1.out]); simp, BZ2.out⟩
  case round =>
    obtain ⟨j, hj, rfl, hbr⟩ := hrel
    have BR := Lib.hid hbr
    have a0 := CA0 wr hbr
    have a4 := CMD wr hbr
    clear hbr
    have L3 : wrap64 (3 * L) = 3 * L := by have := DW.out.l1; have := DW.out.l2; unfold wrap64; omega
    have L4 : wrap64 (m0 + 3 * L) = m0 + 3 * L := by have := DW.out.l1; have := DW.out.l2; have := DW.out.m1; have := DW.out.m2; unfold wrap64; omega
    have L5 : wrap64 (m0 + 3 * L + 3) = m0 + 3 * L + 3 := by have := DW.out.l1; have := DW.out.l2; have := DW.out.m1; have := DW.out.m2; unfold wrap64; omega
    by_cases hlt : (j : Int) < 3 * L + 2
    · have WJ0 := wj_of DW.out hlt
      have EW := ep_w (j := j) DW.out
      have EQ0 := end_q DW.out WJ0
      have EP0 := end_p DW.out WJ0
      have OW0 := fun (k : Int) h0 h4 => open_w (k := k) DW.out WJ0 h0 h4
      rw [HX.out] at EW EQ0 EP0 OW0
      obtain ⟨q, hq⟩ : ∃ q, (j : Int) / L = q := ⟨_, rfl⟩
      obtain ⟨r, hr⟩ : ∃ r, (j : Int) % L = r := ⟨_, rfl⟩
      rw [hq] at EW EQ0 EP0 OW0 WJ0
      rw [hr] at OW0 WJ0
      obtain ⟨z, hz⟩ : ∃ z, q * L = z := ⟨_, rfl⟩
      rw [hz] at EQ0 EP0 WJ0
      have WJ := Lib.hid WJ0
      obtain ⟨h, hh⟩ : ∃ h, m0 + 1 + (j : Int) = h := ⟨_, rfl⟩
      rw [hh] at EW OW0 ⊢
      have HH := Lib.hid hh
      have ht : h < m0 + 3 * L + 3 := by omega
      have HJ : Hid (((j + 1 : Nat) : Int) ≤ 3 * L + 2) := Lib.hid (by omega)
      have HB : Hid (0 ≤ h ∧ h ≤ 1000 ∧ q ≤ 3 ∧ 0 ≤ q) := Lib.hid (by have := DW.out.l2; have := DW.out.m1; have := DW.out.m2; have := WJ0.q3; have := WJ0.q0; omega)
      have HW : Hid (wrap64 (h + 1) = m0 + 1 + ((j + 1 : Nat) : Int)) := Lib.hid (by have := HB.out; unfold wrap64; omega)
      have HME : Hid ((3 * L + 2 + m0 + 1 - intOf (.int .i64 (wrap64 (h + 1)))).toNat < (3 * L + 2 + m0 + 1 - intOf (.int .i64 h)).toNat) := Lib.hid (by
        rw [HW.out]
        show (3 * L + 2 + m0 + 1 - (m0 + 1 + ((j + 1 : Nat) : Int))).toNat < (3 * L + 2 + m0 + 1 - h).toNat
        omega)
      have Q3 : Hid (q ≤ 3) := Lib.hid HB.out.2.2.1
      obtain ⟨eq, heq⟩ : ∃ eq, endC x q = eq := ⟨_, rfl⟩
      obtain ⟨p, hp⟩ : ∃ p, q - 1 = p := ⟨_, rfl⟩
      obtain ⟨ep, hep⟩ : ∃ ep, endC x p = ep := ⟨_, rfl⟩
      have HP := Lib.hid hp
      rw [heq] at EQ0
      rw [hp, hep] at EP0
      have sq : wrap64 (q - 1) = p := by rw [← hp]; have := HB.out; unfold wrap64; omega
      have sqi : IntKind.i64.wrap (q - 1) = p := by rw [IntKind.wrap_i64, ← hp]; have := HB.out; omega
      have KQ : Hid (∀ W, Below Z w2 W → Calls Try.prog 23 #[.agg (sdV x).toArray, .int .i64 q] W fun e1 w' => e1 = .returned (.int .i64 eq) ∧ Below Z w2 w') := Lib.hid fun W hb => by rw [← heq]; exact KE.out q W hb
      have KP : Hid (∀ W, Below Z w2 W → Calls Try.prog 23 #[.agg (sdV x).toArray, .int .i64 p] W fun e1 w' => e1 = .returned (.int .i64 ep) ∧ Below Z w2 w') := Lib.hid fun W hb => by rw [← hep]; exact KE.out p W hb
      have KO : Hid (∀ k : Nat, k < 5 → ∀ W, Below Z w2 W → Calls Try.prog 25 #[.agg (sdV x).toArray, .int .i64 k, .int .i64 h] W fun e1 w' => e1 = .returned (.bool (decide ((k : Int) = q - 1 ∧ r + 1 ≤ Wn))) ∧ Below Z w2 w') := Lib.hid fun k hk W hb => by rw [← OW0 (k : Int) (by omega) (by omega)]; exact KOP.out k h W hb
      have KH : Hid (Calls Try.prog 21 #[.agg (sdV x).toArray, .int .i64 h] wr fun e1 w' => e1 = .returned (.tuple #[.int .i64 q, .bool true]) ∧ Below Z w2 w') := Lib.hid (by
        have := KEP.out h wr (by have := HB.out; unfold wfI; omega) BR.out
        rw [EW] at this
        exact this)
      have dH : decide (eq < h) = false := decide_eq_false (by have := WJ0.e; have := WJ0.r1; omega)
      clear OW0 EW heq hep hp hq hr hz hh hj hlt KE KEP KOP
      go_upto_region 10 with (first
        | (refine wpList_load_midG (by rfl) 53 (.tmp 8) rfl (M + 1) 0 rfl (sdV x) _ (CX _ BR.out) Try.underlying53 rfl (szL sz53 sx.out) ?_)
        | (go_at_call 21; refine KH.out.mono ?_; rintro e1 w3 ⟨rfl, hb⟩; have BR := Lib.hid hb; clear hb)
        | fail)
      clear L3 L4 L5 ht a0 a4 KH
      by_cases hq1 : 1 ≤ q
      · have dQ : decide (0 < q) = true := decide_eq_true (by omega)
        rw [if_pos hq1] at EP0
        have dP : decide (h ≤ ep) = false := decide_eq_false (by have := WJ0.e; have := WJ0.r0; have := HH.out; omega)
        have dS : wrap64 (eq - ep) = L := by have := DW.out.l1; have := DW.out.l2; unfold wrap64; omega
        have dSi : IntKind.i64.wrap (eq - ep) = L := by have := DW.out.l1; have := DW.out.l2; rw [IntKind.wrap_i64]; omega
        obtain ⟨rr, hrr⟩ : ∃ rr, r + 1 = rr := ⟨_, rfl⟩
        have dR : wrap64 (h - ep) = rr := by have := WJ0.e; have := HH.out; have := WJ0.r0; have := WJ0.r1; have := DW.out.l2; unfold wrap64; omega
        have dRi : IntKind.i64.wrap (h - ep) = rr := by have := WJ0.e; have := HH.out; have := WJ0.r0; have := WJ0.r1; have := DW.out.l2; rw [IntKind.wrap_i64]; omega
        have HQ1 := Lib.hid hq1
        clear WJ0 EQ0 EP0
        by_cases hb : r + 1 ≤ Wn
        · have RW := Lib.hid hb
          have dW : decide (rr ≤ Wn) = true := decide_eq_true (by rw [← hrr]; exact hb)
          clear hb hrr hq1
          refine wp_region_class (C := fun W => Below Z w2 W) (by kernel_rfl) (by kernel_rfl) BR.out.drew ?_
          refine wpQuiet_step (fun K hK => ?_)
          refine quiet_val (by rfl) (v := ?_) ?_ (hK _ ?_)
          rotate_left
          · (intro w hSw; go_simp; try with_reducible rfl)
          clear hK K
          simp only [Act.put, List.setIfInBounds_toArray, List.set_cons_zero, List.set_cons_succ]
          refine wpQuiet_step (fun K hK => ?_)
          refine quiet_val (by rfl) (v := ?_) ?_ (hK _ ?_)
          rotate_left
          · (intro w hSw; go_simp; try with_reducible rfl)
          clear hK K
          simp only [Act.put, List.setIfInBounds_toArray, List.set_cons_zero, List.set_cons_succ]
          refine wpQuiet_step (fun K hK => ?_)
          refine quiet_val (by rfl) (v := ?_) ?_ (hK _ ?_)
          rotate_left
          · (intro w hSw; go_simp; try with_reducible rfl)
          clear hK K
          simp only [Act.put, List.setIfInBounds_toArray, List.set_cons_zero, List.set_cons_succ]
          refine wpQuiet_step (fun K hK => ?_)
          refine quiet_val (by rfl) (v := ?_) ?_ (hK _ ?_)
          rotate_left
          · (intro w hSw; go_simp; try with_reducible rfl)
          clear hK K
          simp only [Act.put, List.setIfInBounds_toArray, List.set_cons_zero, List.set_cons_succ]
          refine wpQuiet_step (fun K hK => ?_)
          refine quiet_load (by rfl) 53 (.tmp 8) rfl (M + 1) (0) rfl (sdV x) _ (fun w h => CX w h) Try.underlying53 rfl (szL sz53 sx.out) (hK _ ?_)
          clear hK K
          simp only [Act.put, List.setIfInBounds_toArray, List.set_cons_zero, List.set_cons_succ]
          refine wpQuiet_step (fun K hK => ?_)
          refine quiet_val (by rfl) (v := ?_) ?_ (hK _ ?_)
          rotate_left
          · (intro w hSw; go_simp; try with_reducible rfl)
          clear hK K
          simp only [Act.put, List.setIfInBounds_toArray, List.set_cons_zero, List.set_cons_succ]
          refine wpQuiet_step (fun K hK => ?_)
          refine quiet_call (by rfl) 23 #[.agg (sdV x).toArray, .int .i64 q] ?_ (fun w hw => KQ.out w hw) (hK _ ?_)
          · (intro w hSw; go_simp; try with_reducible rfl)
          clear hK K
          simp only [Act.put, List.setIfInBounds_toArray, List.set_cons_zero, List.set_cons_succ]
          refine wpQuiet_step (fun K hK => ?_)
          refine quiet_val (by rfl) (v := .bool false) (fun w hSw => ?_) (hK _ ?_)
          · (go_simp; first | done | (rw [dH]; done) | (simp only [dH]; done) | (simp only [dH]; rfl))
          clear hK K
          simp only [Act.put, List.setIfInBounds_toArray, List.set_cons_zero, List.set_cons_succ]
          refine wpQuiet_step (fun K hK => ?_)
          refine quiet_val (by rfl) (v := ?_) ?_ (hK _ ?_)
          rotate_left
          · (intro w hSw; go_simp; try with_reducible rfl)
          clear hK K
          simp only [Act.put, List.setIfInBounds_toArray, List.set_cons_zero, List.set_cons_succ]
          refine wpQuiet_step (fun K hK => ?_)
          refine quiet_val (by rfl) (v := ?_) ?_ (hK _ ?_)
          rotate_left
          · (intro w hSw; go_simp; try with_reducible rfl)
          clear hK K
          simp only [Act.put, List.setIfInBounds_toArray, List.set_cons_zero, List.set_cons_succ]
          refine wpQuiet_step (fun K hK => ?_)
          refine quiet_val (by rfl) (v := ?_) ?_ (hK _ ?_)
          rotate_left
          · (intro w hSw; go_simp; try with_reducible rfl)
          clear hK K
          simp only [Act.put, List.setIfInBounds_toArray, List.set_cons_zero, List.set_cons_succ]
          refine wpQuiet_step (fun K hK => ?_)
          refine quiet_val (by rfl) (v := .bool true) (fun w hSw => ?_) (hK _ ?_)
          · (go_simp; first | done | (rw [dQ]; done) | (simp only [dQ]; done) | (simp only [dQ]; rfl))
          clear hK K
          simp only [Act.put, List.setIfInBounds_toArray, List.set_cons_zero, List.set_cons_succ]
          refine wpQuiet_step (fun K hK => ?_)
          refine quiet_val (by rfl) (v := ?_) ?_ (hK _ ?_)
          rotate_left
          · (intro w hSw; go_simp; try with_reducible rfl)
          clear hK K
          simp only [Act.put, List.setIfInBounds_toArray, List.set_cons_zero, List.set_cons_succ]
          refine wpQuiet_step (fun K hK => ?_)
          refine quiet_val (by rfl) (v := ?_) ?_ (hK _ ?_)
          rotate_left
          · (intro w hSw; go_simp; try with_reducible rfl)
          clear hK K
          simp only [Act.put, List.setIfInBounds_toArray, List.set_cons_zero, List.set_cons_succ]
          refine wpQuiet_step (fun K hK => ?_)
          refine quiet_load (by rfl) 53 (.tmp 8) rfl (M + 1) (0) rfl (sdV x) _ (fun w h => CX w h) Try.underlying53 rfl (szL sz53 sx.out) (hK _ ?_)
          clear hK K
          simp only [Act.put, List.setIfInBounds_toArray, List.set_cons_zero, List.set_cons_succ]
          refine wpQuiet_step (fun K hK => ?_)
          refine quiet_val (by rfl) (v := ?_) ?_ (hK _ ?_)
          rotate_left
          · (intro w hSw; go_simp; try with_reducible rfl)
          clear hK K
          simp only [Act.put, List.setIfInBounds_toArray, List.set_cons_zero, List.set_cons_succ]
          refine wpQuiet_step (fun K hK => ?_)
          refine quiet_val (by rfl) (v := .int .i64 p) (fun w hSw => ?_) (hK _ ?_)
          · (go_simp; first | done | exact sqi | (rw [sqi]; done) | (rw [sq]; done))
          clear hK K
          simp only [Act.put, List.setIfInBounds_toArray, List.set_cons_zero, List.set_cons_succ]
          refine wpQuiet_step (fun K hK => ?_)
          refine quiet_call (by rfl) 23 #[.agg (sdV x).toArray, .int .i64 p] ?_ (fun w hw => KP.out w hw) (hK _ ?_)
          · (intro w hSw; go_simp; try with_reducible rfl)
          clear hK K
          simp only [Act.put, List.setIfInBounds_toArray, List.set_cons_zero, List.set_cons_succ]
          refine wpQuiet_step (fun K hK => ?_)
          refine quiet_val (by rfl) (v := .bool false) (fun w hSw => ?_) (hK _ ?_)
          · (go_simp; first | done | (rw [dP]; done) | (simp only [dP]; done) | (simp only [dP]; rfl))
          clear hK K
          simp only [Act.put, List.setIfInBounds_toArray, List.set_cons_zero, List.set_cons_succ]
          refine wpQuiet_step (fun K hK => ?_)
          refine quiet_val (by rfl) (v := ?_) ?_ (hK _ ?_)
          rotate_left
          · (intro w hSw; go_simp; try with_reducible rfl)
          clear hK K
          simp only [Act.put, List.setIfInBounds_toArray, List.set_cons_zero, List.set_cons_succ]
          refine wpQuiet_step (fun K hK => ?_)
          refine quiet_val (by rfl) (v := ?_) ?_ (hK _ ?_)
          rotate_left
          · (intro w hSw; go_simp; try with_reducible rfl)
          clear hK K
          simp only [Act.put, List.setIfInBounds_toArray, List.set_cons_zero, List.set_cons_succ]
          refine wpQuiet_step (fun K hK => ?_)
          refine quiet_val (by rfl) (v := ?_) ?_ (hK _ ?_)
          rotate_left
          · (intro w hSw; go_simp; try with_reducible rfl)
          clear hK K
          simp only [Act.put, List.setIfInBounds_toArray, List.set_cons_zero, List.set_cons_succ]
          refine wpQuiet_step (fun K hK => ?_)
          refine quiet_load (by rfl) 53 (.tmp 8) rfl (M + 1) (0) rfl (sdV x) _ (fun w h => CX w h) Try.underlying53 rfl (szL sz53 sx.out) (hK _ ?_)
          clear hK K
          simp only [Act.put, List.setIfInBounds_toArray, List.set_cons_zero, List.set_cons_succ]
          refine wpQuiet_step (fun K hK => ?_)
          refine quiet_val (by rfl) (v := ?_) ?_ (hK _ ?_)
          rotate_left
          · (intro w hSw; go_simp; try with_reducible rfl)
          clear hK K
          simp only [Act.put, List.setIfInBounds_toArray, List.set_cons_zero, List.set_cons_succ]
          refine wpQuiet_step (fun K hK => ?_)
          refine quiet_call (by rfl) 23 #[.agg (sdV x).toArray, .int .i64 q] ?_ (fun w hw => KQ.out w hw) (hK _ ?_)
          · (intro w hSw; go_simp; try with_reducible rfl)
          clear hK K
          simp only [Act.put, List.setIfInBounds_toArray, List.set_cons_zero, List.set_cons_succ]
          refine wpQuiet_step (fun K hK => ?_)
          refine quiet_load (by rfl) 53 (.tmp 8) rfl (M + 1) (0) rfl (sdV x) _ (fun w h => CX w h) Try.underlying53 rfl (szL sz53 sx.out) (hK _ ?_)
          clear hK K
          simp only [Act.put, List.setIfInBounds_toArray, List.set_cons_zero, List.set_cons_succ]
          refine wpQuiet_step (fun K hK => ?_)
          refine quiet_val (by rfl) (v := ?_) ?_ (hK _ ?_)
          rotate_left
          · (intro w hSw; go_simp; try with_reducible rfl)
          clear hK K
          simp only [Act.put, List.setIfInBounds_toArray, List.set_cons_zero, List.set_cons_succ]
          refine wpQuiet_step (fun K hK => ?_)
          refine quiet_val (by rfl) (v := .int .i64 p) (fun w hSw => ?_) (hK _ ?_)
          · (go_simp; first | done | exact sqi | (rw [sqi]; done) | (rw [sq]; done))
          clear hK K
          simp only [Act.put, List.setIfInBounds_toArray, List.set_cons_zero, List.set_cons_succ]
          refine wpQuiet_step (fun K hK => ?_)
          refine quiet_call (by rfl) 23 #[.agg (sdV x).toArray, .int .i64 p] ?_ (fun w hw => KP.out w hw) (hK _ ?_)
          · (intro w hSw; go_simp; try with_reducible rfl)
          clear hK K
          simp only [Act.put, List.setIfInBounds_toArray, List.set_cons_zero, List.set_cons_succ]
          refine wpQuiet_step (fun K hK => ?_)
          refine quiet_val (by rfl) (v := .int .i64 L) (fun w hSw => ?_) (hK _ ?_)
          · (go_simp; first | done | exact dSi | (rw [dSi]; done) | (rw [dS]; done))
          clear hK K
          simp only [Act.put, List.setIfInBounds_toArray, List.set_cons_zero, List.set_cons_succ]
          refine wpQuiet_step (fun K hK => ?_)
          refine quiet_val (by rfl) (v := ?_) ?_ (hK _ ?_)
          rotate_left
          · (intro w hSw; go_simp; try with_reducible rfl)
          clear hK K
          simp only [Act.put, List.setIfInBounds_toArray, List.set_cons_zero, List.set_cons_succ]
          refine wpQuiet_step (fun K hK => ?_)
          refine quiet_val (by rfl) (v := ?_) ?_ (hK _ ?_)
          rotate_left
          · (intro w hSw; have z := CA0 w hSw; go_simp; try with_reducible rfl)
          clear hK K
          simp only [Act.put, List.setIfInBounds_toArray, List.set_cons_zero, List.set_cons_succ]
          refine wpQuiet_step (fun K hK => ?_)
          refine quiet_val (by rfl) (v := .bool false) (fun w hSw => ?_) (hK _ ?_)
          · (go_simp; first | done | (simp; done) | (simp; omega))
          clear hK K
          simp only [Act.put, List.setIfInBounds_toArray, List.set_cons_zero, List.set_cons_succ]
          refine wpQuiet_step (fun K hK => ?_)
          refine quiet_val (by rfl) (v := ?_) ?_ (hK _ ?_)
          rotate_left
          · (intro w hSw; go_simp; try with_reducible rfl)
          clear hK K
          simp only [Act.put, List.setIfInBounds_toArray, List.set_cons_zero, List.set_cons_succ]
          refine wpQuiet_step (fun K hK => ?_)
          refine quiet_skip (by kernel_rfl) (hK _ ?_)
          clear hK K
          simp only [Act.put, List.setIfInBounds_toArray, List.set_cons_zero, List.set_cons_succ]
          refine wpQuiet_step (fun K hK => ?_)
          refine quiet_skip (by kernel_rfl) (hK _ ?_)
          clear hK K
          simp only [Act.put, List.setIfInBounds_toArray, List.set_cons_zero, List.set_cons_succ]
          refine wpQuiet_step (fun K hK => ?_)
          refine quiet_val (by rfl) (v := ?_) ?_ (hK _ ?_)
          rotate_left
          · (intro w hSw; go_simp; try with_reducible rfl)
          clear hK K
          simp only [Act.put, List.setIfInBounds_toArray, List.set_cons_zero, List.set_cons_succ]
          refine wpQuiet_step (fun K hK => ?_)
          refine quiet_val (by rfl) (v := ?_) ?_ (hK _ ?_)
          rotate_left
          · (intro w hSw; go_simp; try with_reducible rfl)
          clear hK K
          simp only [Act.put, List.setIfInBounds_toArray, List.set_cons_zero, List.set_cons_succ]
          refine wpQuiet_nil ?_
          intro wq hq
          have BQ : Hid (Below Z w2 wq) := Lib.hid hq
          clear hq
          go_wp2
          go_loopw [13, 12] (fun kv mv wr => ∃ k : Nat, k ≤ 5 ∧ kv = .int .i64 k ∧ mv = .int .i64 (if q - 1 < (k : Int) then 1 else 0 : Int) ∧ Below Z w2 wr) (fun kv _ _ => 5 - (intOf kv).toNat)
          case atStart => exact ⟨0, by omega, rfl, by rw [if_neg (by have := HQ1.out; omega)], BQ.out⟩
          case round =>
            obtain ⟨k, hk5, rfl, rfl, hbi⟩ := hrel
            have BI : Hid (Below Z w2 wr) := Lib.hid hbi
            clear hbi
            by_cases hlt : k < 5
            · have k5 : (k : Int) < 5 := by omega
              have KW : Hid (wrap64 ((k : Int) + 1) = ((k + 1 : Nat) : Int)) := Lib.hid (by unfold wrap64; omega)
              have KW2 : Hid ((k : Int) + 1 = ((k + 1 : Nat) : Int)) := Lib.hid (by omega)
              have HK5 := Lib.hid hlt
              have OP : Hid (∀ W, Below Z w2 W → Calls Try.prog 25 #[.agg (sdV x).toArray, .int .i64 k, .int .i64 h] W fun e1 w' => e1 = .returned (.bool (decide ((k : Int) = q - 1 ∧ r + 1 ≤ Wn))) ∧ Below Z w2 w') := Lib.hid (KO.out k hlt)
              by_cases hkq : (k : Int) = q - 1
              · rw [decide_eq_true ⟨hkq, RW.out⟩] at OP
                have m0' : (if q - 1 < (k : Int) then 1 else 0 : Int) = 0 := if_neg (by omega)
                have m1' : Hid ((1 : Int) = if q - 1 < ((k + 1 : Nat) : Int) then 1 else 0) := Lib.hid (by rw [if_pos (by omega)])
                rw [m0']
                obtain rfl : p = (k : Int) := by rw [← HP.out, hkq]
                clear m0' hkq hlt
                go_wp2_with (first
                  | (refine wpList_load_midG (by rfl) 53 (.tmp 8) rfl (M + 1) 0 rfl (sdV x) _ (CX _ BI.out) Try.underlying53 rfl (szL sz53 sx.out) ?_)
                  | (go_at_call 25; refine (OP.out _ BI.out).mono ?_; rintro e1 w5 ⟨rfl, hb⟩; have BJ := Lib.hid hb; clear hb)
                  | fail)
                go_roundw
                case rel => exact ⟨k + 1, HK5.out, by first | exact congrArg _ KW.out | exact congrArg _ KW2.out, by first | exact congrArg _ m1'.out | rfl, BJ.out⟩
                case measure => first | exact meas_up KW.out HK5.out | exact meas_up KW2.out HK5.out
              · rw [decide_eq_false (fun g => hkq g.1)] at OP
                have m1' : Hid ((if q - 1 < (k : Int) then 1 else 0 : Int) = if q - 1 < ((k + 1 : Nat) : Int) then 1 else 0) := Lib.hid ((Decidable.em (q - 1 < (k : Int))).elim (fun g => (if_pos g).trans (if_pos (show q - 1 < ((k + 1 : Nat) : Int) by omega)).symm) fun g => (if_neg g).trans (if_neg (show ¬ q - 1 < ((k + 1 : Nat) : Int) by omega)).symm)
                clear hkq hlt
                generalize (if q - 1 < (k : Int) then 1 else 0 : Int) = mn at *
                go_wp2_with (first
                  | (refine wpList_load_midG (by rfl) 53 (.tmp 8) rfl (M + 1) 0 rfl (sdV x) _ (CX _ BI.out) Try.underlying53 rfl (szL sz53 sx.out) ?_)
                  | (go_at_call 25; refine (OP.out _ BI.out).mono ?_; rintro e1 w5 ⟨rfl, hb⟩; have BJ := Lib.hid hb; clear hb)
                  | fail)
                go_roundw
                case rel => exact ⟨k + 1, HK5.out, by first | exact congrArg _ KW.out | exact congrArg _ KW2.out, by first | exact congrArg _ m1'.out | rfl, BJ.out⟩
                case measure => first | exact meas_up KW.out HK5.out | exact meas_up KW2.out HK5.out
            · have k5 : ¬ (k : Int) < 5 := by omega
              rw [if_pos (by have := Q3.out; omega)]
              clear hlt hk5
              go_upto_region 20 with (fail)
              refine wp_region_class (C := fun W => Below Z w2 W) (by kernel_rfl) (by kernel_rfl) BI.out.drew ?_
              refine wpQuiet_step (fun K hK => ?_)
              refine quiet_val (by rfl) (v := ?_) ?_ (hK _ ?_)
              rotate_left
              · (intro w hSw; go_simp; try with_reducible rfl)
              clear hK K
              simp only [Act.put, List.setIfInBounds_toArray, List.set_cons_zero, List.set_cons_succ]
              refine wpQuiet_step (fun K hK => ?_)
              refine quiet_val (by rfl) (v := ?_) ?_ (hK _ ?_)
              rotate_left
              · (intro w hSw; go_simp; try with_reducible rfl)
              clear hK K
              simp only [Act.put, List.setIfInBounds_toArray, List.set_cons_zero, List.set_cons_succ]
              refine wpQuiet_step (fun K hK => ?_)
              refine quiet_val (by rfl) (v := ?_) ?_ (hK _ ?_)
              rotate_left
              · (intro w hSw; go_simp; try with_reducible rfl)
              clear hK K
              simp only [Act.put, List.setIfInBounds_toArray, List.set_cons_zero, List.set_cons_succ]
              refine wpQuiet_step (fun K hK => ?_)
              refine quiet_val (by rfl) (v := ?_) ?_ (hK _ ?_)
              rotate_left
              · (intro w hSw; go_simp; try with_reducible rfl)
              clear hK K
              simp only [Act.put, List.setIfInBounds_toArray, List.set_cons_zero, List.set_cons_succ]
              refine wpQuiet_step (fun K hK => ?_)
              refine quiet_val (by rfl) (v := ?_) ?_ (hK _ ?_)
              rotate_left
              · (intro w hSw; go_simp; try with_reducible rfl)
              clear hK K
              simp only [Act.put, List.setIfInBounds_toArray, List.set_cons_zero, List.set_cons_succ]
              refine wpQuiet_step (fun K hK => ?_)
              refine quiet_val (by rfl) (v := ?_) ?_ (hK _ ?_)
              rotate_left
              · (intro w hSw; go_simp; try with_reducible rfl)
              clear hK K
              simp only [Act.put, List.setIfInBounds_toArray, List.set_cons_zero, List.set_cons_succ]
              refine wpQuiet_step (fun K hK => ?_)
              refine quiet_val (by rfl) (v := .bool true) (fun w hSw => ?_) (hK _ ?_)
              · (go_simp; first | done | (rw [dQ]; done) | (simp only [dQ]; done) | (simp only [dQ]; rfl))
              clear hK K
              simp only [Act.put, List.setIfInBounds_toArray, List.set_cons_zero, List.set_cons_succ]
              refine wpQuiet_step (fun K hK => ?_)
              refine quiet_val (by rfl) (v := ?_) ?_ (hK _ ?_)
              rotate_left
              · (intro w hSw; go_simp; try with_reducible rfl)
              clear hK K
              simp only [Act.put, List.setIfInBounds_toArray, List.set_cons_zero, List.set_cons_succ]
              refine wpQuiet_step (fun K hK => ?_)
              refine quiet_val (by rfl) (v := ?_) ?_ (hK _ ?_)
              rotate_left
              · (intro w hSw; go_simp; try with_reducible rfl)
              clear hK K
              simp only [Act.put, List.setIfInBounds_toArray, List.set_cons_zero, List.set_cons_succ]
              refine wpQuiet_step (fun K hK => ?_)
              refine quiet_load (by rfl) 53 (.tmp 8) rfl (M + 1) (0) rfl (sdV x) _ (fun w h => CX w h) Try.underlying53 rfl (szL sz53 sx.out) (hK _ ?_)
              clear hK K
              simp only [Act.put, List.setIfInBounds_toArray, List.set_cons_zero, List.set_cons_succ]
              refine wpQuiet_step (fun K hK => ?_)
              refine quiet_val (by rfl) (v := ?_) ?_ (hK _ ?_)
              rotate_left
              · (intro w hSw; go_simp; try with_reducible rfl)
              clear hK K
              simp only [Act.put, List.setIfInBounds_toArray, List.set_cons_zero, List.set_cons_succ]
              refine wpQuiet_step (fun K hK => ?_)
              refine quiet_val (by rfl) (v := .int .i64 p) (fun w hSw => ?_) (hK _ ?_)
              · (go_simp; first | done | exact sqi | (rw [sqi]; done) | (rw [sq]; done))
              clear hK K
              simp only [Act.put, List.setIfInBounds_toArray, List.set_cons_zero, List.set_cons_succ]
              refine wpQuiet_step (fun K hK => ?_)
              refine quiet_call (by rfl) 23 #[.agg (sdV x).toArray, .int .i64 p] ?_ (fun w hw => KP.out w hw) (hK _ ?_)
              · (intro w hSw; go_simp; try with_reducible rfl)
              clear hK K
              simp only [Act.put, List.setIfInBounds_toArray, List.set_cons_zero, List.set_cons_succ]
              refine wpQuiet_step (fun K hK => ?_)
              refine quiet_val (by rfl) (v := .int .i64 rr) (fun w hSw => ?_) (hK _ ?_)
              · (go_simp; first | done | exact dRi | (rw [dRi]; done) | (rw [dR]; done))
              clear hK K
              simp only [Act.put, List.setIfInBounds_toArray, List.set_cons_zero, List.set_cons_succ]
              refine wpQuiet_step (fun K hK => ?_)
              refine quiet_val (by rfl) (v := ?_) ?_ (hK _ ?_)
              rotate_left
              · (intro w hSw; go_simp; try with_reducible rfl)
              clear hK K
              simp only [Act.put, List.setIfInBounds_toArray, List.set_cons_zero, List.set_cons_succ]
              refine wpQuiet_step (fun K hK => ?_)
              refine quiet_val (by rfl) (v := ?_) ?_ (hK _ ?_)
              rotate_left
              · (intro w hSw; have z := CA1 w hSw; go_simp; try with_reducible rfl)
              clear hK K
              simp only [Act.put, List.setIfInBounds_toArray, List.set_cons_zero, List.set_cons_succ]
              refine wpQuiet_step (fun K hK => ?_)
              refine quiet_val (by rfl) (v := .bool true) (fun w hSw => ?_) (hK _ ?_)
              · (go_simp; first | done | (rw [dW]; done) | (simp only [dW]; done) | (simp only [dW]; rfl))
              clear hK K
              simp only [Act.put, List.setIfInBounds_toArray, List.set_cons_zero, List.set_cons_succ]
              refine wpQuiet_step (fun K hK => ?_)
              refine quiet_val (by rfl) (v := ?_) ?_ (hK _ ?_)
              rotate_left
              · (intro w hSw; go_simp; try with_reducible rfl)
              clear hK K
              simp only [Act.put, List.setIfInBounds_toArray, List.set_cons_zero, List.set_cons_succ]
              refine wpQuiet_step (fun K hK => ?_)
              refine quiet_val (by rfl) (v := ?_) ?_ (hK _ ?_)
              rotate_left
              · (intro w hSw; go_simp; try with_reducible rfl)
              clear hK K
              simp only [Act.put, List.setIfInBounds_toArray, List.set_cons_zero, List.set_cons_succ]
              refine wpQuiet_step (fun K hK => ?_)
              refine quiet_val (by rfl) (v := ?_) ?_ (hK _ ?_)
              rotate_left
              · (intro w hSw; go_simp; try with_reducible rfl)
              clear hK K
              simp only [Act.put, List.setIfInBounds_toArray, List.set_cons_zero, List.set_cons_succ]
              refine wpQuiet_nil ?_
              intro wz hq
              have BZ : Hid (Below Z w2 wz) := Lib.hid hq
              clear hq
              go_wp2
              go_roundw
              case rel => exact ⟨j + 1, HJ.out, congrArg _ HW.out, BZ.out⟩
              case measure => exact HME.out
        · have NW := Lib.hid hb
          have dW : decide (rr ≤ Wn) = false := decide_eq_false (by rw [← hrr]; exact hb)
          clear hb hrr hq1
          refine wp_region_class (C := fun W => Below Z w2 W) (by kernel_rfl) (by kernel_rfl) BR.out.drew ?_
          refine wpQuiet_step (fun K hK => ?_)
          refine quiet_val (by rfl) (v := ?_) ?_ (hK _ ?_)
          rotate_left
          · (intro w hSw; go_simp; try with_reducible rfl)
          clear hK K
          simp only [Act.put, List.setIfInBounds_toArray, List.set_cons_zero, List.set_cons_succ]
          refine wpQuiet_step (fun K hK => ?_)
          refine quiet_val (by rfl) (v := ?_) ?_ (hK _ ?_)
          rotate_left
          · (intro w hSw; go_simp; try with_reducible rfl)
          clear hK K
          simp only [Act.put, List.setIfInBounds_toArray, List.set_cons_zero, List.set_cons_succ]
          refine wpQuiet_step (fun K hK => ?_)
          refine quiet_val (by rfl) (v := ?_) ?_ (hK _ ?_)
          rotate_left
          · (intro w hSw; go_simp; try with_reducible rfl)
          clear hK K
          simp only [Act.put, List.setIfInBounds_toArray, List.set_cons_zero, List.set_cons_succ]
          refine wpQuiet_step (fun K hK => ?_)
          refine quiet_val (by rfl) (v := ?_) ?_ (hK _ ?_)
          rotate_left
          · (intro w hSw; go_simp; try with_reducible rfl)
          clear hK K
          simp only [Act.put, List.setIfInBounds_toArray, List.set_cons_zero, List.set_cons_succ]
          refine wpQuiet_step (fun K hK => ?_)
          refine quiet_load (by rfl) 53 (.tmp 8) rfl (M + 1) (0) rfl (sdV x) _ (fun w h => CX w h) Try.underlying53 rfl (szL sz53 sx.out) (hK _ ?_)
          clear hK K
          simp only [Act.put, List.setIfInBounds_toArray, List.set_cons_zero, List.set_cons_succ]
          refine wpQuiet_step (fun K hK => ?_)
          refine quiet_val (by rfl) (v := ?_) ?_ (hK _ ?_)
          rotate_left
          · (intro w hSw; go_simp; try with_reducible rfl)
          clear hK K
          simp only [Act.put, List.setIfInBounds_toArray, List.set_cons_zero, List.set_cons_succ]
          refine wpQuiet_step (fun K hK => ?_)
          refine quiet_call (by rfl) 23 #[.agg (sdV x).toArray, .int .i64 q] ?_ (fun w hw => KQ.out w hw) (hK _ ?_)
          · (intro w hSw; go_simp; try with_reducible rfl)
          clear hK K
          simp only [Act.put, List.setIfInBounds_toArray, List.set_cons_zero, List.set_cons_succ]
          refine wpQuiet_step (fun K hK => ?_)
          refine quiet_val (by rfl) (v := .bool false) (fun w hSw => ?_) (hK _ ?_)
          · (go_simp; first | done | (rw [dH]; done) | (simp only [dH]; done) | (simp only [dH]; rfl))
          clear hK K
          simp only [Act.put, List.setIfInBounds_toArray, List.set_cons_zero, List.set_cons_succ]
          refine wpQuiet_step (fun K hK => ?_)
          refine quiet_val (by rfl) (v := ?_) ?_ (hK _ ?_)
          rotate_left
          · (intro w hSw; go_simp; try with_reducible rfl)
          clear hK K
          simp only [Act.put, List.setIfInBounds_toArray, List.set_cons_zero, List.set_cons_succ]
          refine wpQuiet_step (fun K hK => ?_)
          refine quiet_val (by rfl) (v := ?_) ?_ (hK _ ?_)
          rotate_left
          · (intro w hSw; go_simp; try with_reducible rfl)
          clear hK K
          simp only [Act.put, List.setIfInBounds_toArray, List.set_cons_zero, List.set_cons_succ]
          refine wpQuiet_step (fun K hK => ?_)
          refine quiet_val (by rfl) (v := ?_) ?_ (hK _ ?_)
          rotate_left
          · (intro w hSw; go_simp; try with_reducible rfl)
          clear hK K
          simp only [Act.put, List.setIfInBounds_toArray, List.set_cons_zero, List.set_cons_succ]
          refine wpQuiet_step (fun K hK => ?_)
          refine quiet_val (by rfl) (v := .bool true) (fun w hSw => ?_) (hK _ ?_)
          · (go_simp; first | done | (rw [dQ]; done) | (simp only [dQ]; done) | (simp only [dQ]; rfl))
          clear hK K
          simp only [Act.put, List.setIfInBounds_toArray, List.set_cons_zero, List.set_cons_succ]
          refine wpQuiet_step (fun K hK => ?_)
          refine quiet_val (by rfl) (v := ?_) ?_ (hK _ ?_)
          rotate_left
          · (intro w hSw; go_simp; try with_reducible rfl)
          clear hK K
          simp only [Act.put, List.setIfInBounds_toArray, List.set_cons_zero, List.set_cons_succ]
          refine wpQuiet_step (fun K hK => ?_)
          refine quiet_val (by rfl) (v := ?_) ?_ (hK _ ?_)
          rotate_left
          · (intro w hSw; go_simp; try with_reducible rfl)
          clear hK K
          simp only [Act.put, List.setIfInBounds_toArray, List.set_cons_zero, List.set_cons_succ]
          refine wpQuiet_step (fun K hK => ?_)
          refine quiet_load (by rfl) 53 (.tmp 8) rfl (M + 1) (0) rfl (sdV x) _ (fun w h => CX w h) Try.underlying53 rfl (szL sz53 sx.out) (hK _ ?_)
          clear hK K
          simp only [Act.put, List.setIfInBounds_toArray, List.set_cons_zero, List.set_cons_succ]
          refine wpQuiet_step (fun K hK => ?_)
          refine quiet_val (by rfl) (v := ?_) ?_ (hK _ ?_)
          rotate_left
          · (intro w hSw; go_simp; try with_reducible rfl)
          clear hK K
          simp only [Act.put, List.setIfInBounds_toArray, List.set_cons_zero, List.set_cons_succ]
          refine wpQuiet_step (fun K hK => ?_)
          refine quiet_val (by rfl) (v := .int .i64 p) (fun w hSw => ?_) (hK _ ?_)
          · (go_simp; first | done | exact sqi | (rw [sqi]; done) | (rw [sq]; done))
          clear hK K
          simp only [Act.put, List.setIfInBounds_toArray, List.set_cons_zero, List.set_cons_succ]
          refine wpQuiet_step (fun K hK => ?_)
          refine quiet_call (by rfl) 23 #[.agg (sdV x).toArray, .int .i64 p] ?_ (fun w hw => KP.out w hw) (hK _ ?_)
          · (intro w hSw; go_simp; try with_reducible rfl)
          clear hK K
          simp only [Act.put, List.setIfInBounds_toArray, List.set_cons_zero, List.set_cons_succ]
          refine wpQuiet_step (fun K hK => ?_)
          refine quiet_val (by rfl) (v := .bool false) (fun w hSw => ?_) (hK _ ?_)
          · (go_simp; first | done | (rw [dP]; done) | (simp only [dP]; done) | (simp only [dP]; rfl))
          clear hK K
          simp only [Act.put, List.setIfInBounds_toArray, List.set_cons_zero, List.set_cons_succ]
          refine wpQuiet_step (fun K hK => ?_)
          refine quiet_val (by rfl) (v := ?_) ?_ (hK _ ?_)
          rotate_left
          · (intro w hSw; go_simp; try with_reducible rfl)
          clear hK K
          simp only [Act.put, List.setIfInBounds_toArray, List.set_cons_zero, List.set_cons_succ]
          refine wpQuiet_step (fun K hK => ?_)
          refine quiet_val (by rfl) (v := ?_) ?_ (hK _ ?_)
          rotate_left
          · (intro w hSw; go_simp; try with_reducible rfl)
          clear hK K
          simp only [Act.put, List.setIfInBounds_toArray, List.set_cons_zero, List.set_cons_succ]
          refine wpQuiet_step (fun K hK => ?_)
          refine quiet_val (by rfl) (v := ?_) ?_ (hK _ ?_)
          rotate_left
          · (intro w hSw; go_simp; try with_reducible rfl)
          clear hK K
          simp only [Act.put, List.setIfInBounds_toArray, List.set_cons_zero, List.set_cons_succ]
          refine wpQuiet_step (fun K hK => ?_)
          refine quiet_load (by rfl) 53 (.tmp 8) rfl (M + 1) (0) rfl (sdV x) _ (fun w h => CX w h) Try.underlying53 rfl (szL sz53 sx.out) (hK _ ?_)
          clear hK K
          simp only [Act.put, List.setIfInBounds_toArray, List.set_cons_zero, List.set_cons_succ]
          refine wpQuiet_step (fun K hK => ?_)
          refine quiet_val (by rfl) (v := ?_) ?_ (hK _ ?_)
          rotate_left
          · (intro w hSw; go_simp; try with_reducible rfl)
          clear hK K
          simp only [Act.put, List.setIfInBounds_toArray, List.set_cons_zero, List.set_cons_succ]
          refine wpQuiet_step (fun K hK => ?_)
          refine quiet_call (by rfl) 23 #[.agg (sdV x).toArray, .int .i64 q] ?_ (fun w hw => KQ.out w hw) (hK _ ?_)
          · (intro w hSw; go_simp; try with_reducible rfl)
          clear hK K
          simp only [Act.put, List.setIfInBounds_toArray, List.set_cons_zero, List.set_cons_succ]
          refine wpQuiet_step (fun K hK => ?_)
          refine quiet_load (by rfl) 53 (.tmp 8) rfl (M + 1) (0) rfl (sdV x) _ (fun w h => CX w h) Try.underlying53 rfl (szL sz53 sx.out) (hK _ ?_)
          clear hK K
          simp only [Act.put, List.setIfInBounds_toArray, List.set_cons_zero, List.set_cons_succ]
          refine wpQuiet_step (fun K hK => ?_)
          refine quiet_val (by rfl) (v := ?_) ?_ (hK _ ?_)
          rotate_left
          · (intro w hSw; go_simp; try with_reducible rfl)
          clear hK K
          simp only [Act.put, List.setIfInBounds_toArray, List.set_cons_zero, List.set_cons_succ]
          refine wpQuiet_step (fun K hK => ?_)
          refine quiet_val (by rfl) (v := .int .i64 p) (fun w hSw => ?_) (hK _ ?_)
          · (go_simp; first | done | exact sqi | (rw [sqi]; done) | (rw [sq]; done))
          clear hK K
          simp only [Act.put, List.setIfInBounds_toArray, List.set_cons_zero, List.set_cons_succ]
          refine wpQuiet_step (fun K hK => ?_)
          refine quiet_call (by rfl) 23 #[.agg (sdV x).toArray, .int .i64 p] ?_ (fun w hw => KP.out w hw) (hK _ ?_)
          · (intro w hSw; go_simp; try with_reducible rfl)
          clear hK K
          simp only [Act.put, List.setIfInBounds_toArray, List.set_cons_zero, List.set_cons_succ]
          refine wpQuiet_step (fun K hK => ?_)
          refine quiet_val (by rfl) (v := .int .i64 L) (fun w hSw => ?_) (hK _ ?_)
          · (go_simp; first | done | exact dSi | (rw [dSi]; done) | (rw [dS]; done))
          clear hK K
          simp only [Act.put, List.setIfInBounds_toArray, List.set_cons_zero, List.set_cons_succ]
          refine wpQuiet_step (fun K hK => ?_)
          refine quiet_val (by rfl) (v := ?_) ?_ (hK _ ?_)
          rotate_left
          · (intro w hSw; go_simp; try with_reducible rfl)
          clear hK K
          simp only [Act.put, List.setIfInBounds_toArray, List.set_cons_zero, List.set_cons_succ]
          refine wpQuiet_step (fun K hK => ?_)
          refine quiet_val (by rfl) (v := ?_) ?_ (hK _ ?_)
          rotate_left
          · (intro w hSw; have z := CA0 w hSw; go_simp; try with_reducible rfl)
          clear hK K
          simp only [Act.put, List.setIfInBounds_toArray, List.set_cons_zero, List.set_cons_succ]
          refine wpQuiet_step (fun K hK => ?_)
          refine quiet_val (by rfl) (v := .bool false) (fun w hSw => ?_) (hK _ ?_)
          · (go_simp; first | done | (simp; done) | (simp; omega))
          clear hK K
          simp only [Act.put, List.setIfInBounds_toArray, List.set_cons_zero, List.set_cons_succ]
          refine wpQuiet_step (fun K hK => ?_)
          refine quiet_val (by rfl) (v := ?_) ?_ (hK _ ?_)
          rotate_left
          · (intro w hSw; go_simp; try with_reducible rfl)
          clear hK K
          simp only [Act.put, List.setIfInBounds_toArray, List.set_cons_zero, List.set_cons_succ]
          refine wpQuiet_step (fun K hK => ?_)
          refine quiet_skip (by kernel_rfl) (hK _ ?_)
          clear hK K
          simp only [Act.put, List.setIfInBounds_toArray, List.set_cons_zero, List.set_cons_succ]
          refine wpQuiet_step (fun K hK => ?_)
          refine quiet_skip (by kernel_rfl) (hK _ ?_)
          clear hK K
          simp only [Act.put, List.setIfInBounds_toArray, List.set_cons_zero, List.set_cons_succ]
          refine wpQuiet_step (fun K hK => ?_)
          refine quiet_val (by rfl) (v := ?_) ?_ (hK _ ?_)
          rotate_left
          · (intro w hSw; go_simp; try with_reducible rfl)
          clear hK K
          simp only [Act.put, List.setIfInBounds_toArray, List.set_cons_zero, List.set_cons_succ]
          refine wpQuiet_step (fun K hK => ?_)
          refine quiet_val (by rfl) (v := ?_) ?_ (hK _ ?_)
          rotate_left
          · (intro w hSw; go_simp; try with_reducible rfl)
          clear hK K
          simp only [Act.put, List.setIfInBounds_toArray, List.set_cons_zero, List.set_cons_succ]
          refine wpQuiet_nil ?_
          intro wq hq
          have BQ : Hid (Below Z w2 wq) := Lib.hid hq
          clear hq
          go_wp2
          go_loopw [13, 12] (fun kv mv wr => ∃ k : Nat, k ≤ 5 ∧ kv = .int .i64 k ∧ mv = .int .i64 (0 : Int) ∧ Below Z w2 wr) (fun kv _ _ => 5 - (intOf kv).toNat)
          case atStart => exact ⟨0, by omega, rfl, rfl, BQ.out⟩
          case round =>
            obtain ⟨k, hk5, rfl, rfl, hbi⟩ := hrel
            have BI : Hid (Below Z w2 wr) := Lib.hid hbi
            clear hbi
            by_cases hlt : k < 5
            · have k5 : (k : Int) < 5 := by omega
              have KW : Hid (wrap64 ((k : Int) + 1) = ((k + 1 : Nat) : Int)) := Lib.hid (by unfold wrap64; omega)
              have KW2 : Hid ((k : Int) + 1 = ((k + 1 : Nat) : Int)) := Lib.hid (by omega)
              have HK5 := Lib.hid hlt
              have OP : Hid (∀ W, Below Z w2 W → Calls Try.prog 25 #[.agg (sdV x).toArray, .int .i64 k, .int .i64 h] W fun e1 w' => e1 = .returned (.bool (decide ((k : Int) = q - 1 ∧ r + 1 ≤ Wn))) ∧ Below Z w2 w') := Lib.hid (KO.out k hlt)
              rw [decide_eq_false (fun g => by have := NW.out; have := g.2; omega)] at OP
              clear hlt
              go_wp2_with (first
                | (refine wpList_load_midG (by rfl) 53 (.tmp 8) rfl (M + 1) 0 rfl (sdV x) _ (CX _ BI.out) Try.underlying53 rfl (szL sz53 sx.out) ?_)
                | (go_at_call 25; refine (OP.out _ BI.out).mono ?_; rintro e1 w5 ⟨rfl, hb⟩; have BJ := Lib.hid hb; clear hb)
                | fail)
              go_roundw
              case rel => exact ⟨k + 1, HK5.out, by first | exact congrArg _ KW.out | exact congrArg _ KW2.out, rfl, BJ.out⟩
              case measure => first | exact meas_up KW.out HK5.out | exact meas_up KW2.out HK5.out
            · have k5 : ¬ (k : Int) < 5 := by omega
              clear hlt hk5
              go_upto_region 20 with (fail)
              refine wp_region_class (C := fun W => Below Z w2 W) (by kernel_rfl) (by kernel_rfl) BI.out.drew ?_
              refine wpQuiet_step (fun K hK => ?_)
              refine quiet_val (by rfl) (v := ?_) ?_ (hK _ ?_)
              rotate_left
              · (intro w hSw; go_simp; try with_reducible rfl)
              clear hK K
              simp only [Act.put, List.setIfInBounds_toArray, List.set_cons_zero, List.set_cons_succ]
              refine wpQuiet_step (fun K hK => ?_)
              refine quiet_val (by rfl) (v := ?_) ?_ (hK _ ?_)
              rotate_left
              · (intro w hSw; go_simp; try with_reducible rfl)
              clear hK K
              simp only [Act.put, List.setIfInBounds_toArray, List.set_cons_zero, List.set_cons_succ]
              refine wpQuiet_step (fun K hK => ?_)
              refine quiet_val (by rfl) (v := ?_) ?_ (hK _ ?_)
              rotate_left
              · (intro w hSw; go_simp; try with_reducible rfl)
              clear hK K
              simp only [Act.put, List.setIfInBounds_toArray, List.set_cons_zero, List.set_cons_succ]
              refine wpQuiet_step (fun K hK => ?_)
              refine quiet_val (by rfl) (v := ?_) ?_ (hK _ ?_)
              rotate_left
              · (intro w hSw; go_simp; try with_reducible rfl)
              clear hK K
              simp only [Act.put, List.setIfInBounds_toArray, List.set_cons_zero, List.set_cons_succ]
              refine wpQuiet_step (fun K hK => ?_)
              refine quiet_val (by rfl) (v := ?_) ?_ (hK _ ?_)
              rotate_left
              · (intro w hSw; go_simp; try with_reducible rfl)
              clear hK K
              simp only [Act.put, List.setIfInBounds_toArray, List.set_cons_zero, List.set_cons_succ]
              refine wpQuiet_step (fun K hK => ?_)
              refine quiet_val (by rfl) (v := ?_) ?_ (hK _ ?_)
              rotate_left
              · (intro w hSw; go_simp; try with_reducible rfl)
              clear hK K
              simp only [Act.put, List.setIfInBounds_toArray, List.set_cons_zero, List.set_cons_succ]
              refine wpQuiet_step (fun K hK => ?_)
              refine quiet_val (by rfl) (v := .bool true) (fun w hSw => ?_) (hK _ ?_)
              · (go_simp; first | done | (rw [dQ]; done) | (simp only [dQ]; done) | (simp only [dQ]; rfl))
              clear hK K
              simp only [Act.put, List.setIfInBounds_toArray, List.set_cons_zero, List.set_cons_succ]
              refine wpQuiet_step (fun K hK => ?_)
              refine quiet_val (by rfl) (v := ?_) ?_ (hK _ ?_)
              rotate_left
              · (intro w hSw; go_simp; try with_reducible rfl)
              clear hK K
              simp only [Act.put, List.setIfInBounds_toArray, List.set_cons_zero, List.set_cons_succ]
              refine wpQuiet_step (fun K hK => ?_)
              refine quiet_val (by rfl) (v := ?_) ?_ (hK _ ?_)
              rotate_left
              · (intro w hSw; go_simp; try with_reducible rfl)
              clear hK K
              simp only [Act.put, List.setIfInBounds_toArray, List.set_cons_zero, List.set_cons_succ]
              refine wpQuiet_step (fun K hK => ?_)
              refine quiet_load (by rfl) 53 (.tmp 8) rfl (M + 1) (0) rfl (sdV x) _ (fun w h => CX w h) Try.underlying53 rfl (szL sz53 sx.out) (hK _ ?_)
              clear hK K
              simp only [Act.put, List.setIfInBounds_toArray, List.set_cons_zero, List.set_cons_succ]
              refine wpQuiet_step (fun K hK => ?_)
              refine quiet_val (by rfl) (v := ?_) ?_ (hK _ ?_)
              rotate_left
              · (intro w hSw; go_simp; try with_reducible rfl)
              clear hK K
              simp only [Act.put, List.setIfInBounds_toArray, List.set_cons_zero, List.set_cons_succ]
              refine wpQuiet_step (fun K hK => ?_)
              refine quiet_val (by rfl) (v := .int .i64 p) (fun w hSw => ?_) (hK _ ?_)
              · (go_simp; first | done | exact sqi | (rw [sqi]; done) | (rw [sq]; done))
              clear hK K
              simp only [Act.put, List.setIfInBounds_toArray, List.set_cons_zero, List.set_cons_succ]
              refine wpQuiet_step (fun K hK => ?_)
              refine quiet_call (by rfl) 23 #[.agg (sdV x).toArray, .int .i64 p] ?_ (fun w hw => KP.out w hw) (hK _ ?_)
              · (intro w hSw; go_simp; try with_reducible rfl)
              clear hK K
              simp only [Act.put, List.setIfInBounds_toArray, List.set_cons_zero, List.set_cons_succ]
              refine wpQuiet_step (fun K hK => ?_)
              refine quiet_val (by rfl) (v := .int .i64 rr) (fun w hSw => ?_) (hK _ ?_)
              · (go_simp; first | done | exact dRi | (rw [dRi]; done) | (rw [dR]; done))
              clear hK K
              simp only [Act.put, List.setIfInBounds_toArray, List.set_cons_zero, List.set_cons_succ]
              refine wpQuiet_step (fun K hK => ?_)
              refine quiet_val (by rfl) (v := ?_) ?_ (hK _ ?_)
              rotate_left
              · (intro w hSw; go_simp; try with_reducible rfl)
              clear hK K
              simp only [Act.put, List.setIfInBounds_toArray, List.set_cons_zero, List.set_cons_succ]
              refine wpQuiet_step (fun K hK => ?_)
              refine quiet_val (by rfl) (v := ?_) ?_ (hK _ ?_)
              rotate_left
              · (intro w hSw; have z := CA1 w hSw; go_simp; try with_reducible rfl)
              clear hK K
              simp only [Act.put, List.setIfInBounds_toArray, List.set_cons_zero, List.set_cons_succ]
              refine wpQuiet_step (fun K hK => ?_)
              refine quiet_val (by rfl) (v := .bool false) (fun w hSw => ?_) (hK _ ?_)
              · (go_simp; first | done | (rw [dW]; done) | (simp only [dW]; done) | (simp only [dW]; rfl))
              clear hK K
              simp only [Act.put, List.setIfInBounds_toArray, List.set_cons_zero, List.set_cons_succ]
              refine wpQuiet_step (fun K hK => ?_)
              refine quiet_val (by rfl) (v := ?_) ?_ (hK _ ?_)
              rotate_left
              · (intro w hSw; go_simp; try with_reducible rfl)
              clear hK K
              simp only [Act.put, List.setIfInBounds_toArray, List.set_cons_zero, List.set_cons_succ]
              refine wpQuiet_step (fun K hK => ?_)
              refine quiet_val (by rfl) (v := ?_) ?_ (hK _ ?_)
              rotate_left
              · (intro w hSw; go_simp; try with_reducible rfl)
              clear hK K
              simp only [Act.put, List.setIfInBounds_toArray, List.set_cons_zero, List.set_cons_succ]
              refine wpQuiet_step (fun K hK => ?_)
              refine quiet_val (by rfl) (v := ?_) ?_ (hK _ ?_)
              rotate_left
              · (intro w hSw; go_simp; try with_reducible rfl)
              clear hK K
              simp only [Act.put, List.setIfInBounds_toArray, List.set_cons_zero, List.set_cons_succ]
              refine wpQuiet_nil ?_
              intro wz hq
              have BZ : Hid (Below Z w2 wz) := Lib.hid hq
              clear hq
              go_wp2
              go_roundw
              case rel => exact ⟨j + 1, HJ.out, congrArg _ HW.out, BZ.out⟩
              case measure => exact HME.out
      · have q00 : q = 0 := by have := HB.out; omega
        have QZ : Hid (q = 0) := Lib.hid q00
        have dQ : decide (0 < q) = false := decide_eq_false (by omega)
        rw [if_neg hq1] at EP0
        have z00 : z = 0 := by rw [← WJ0.z, q00, Int.zero_mul]
        have dS : wrap64 (eq - ep) = eq := by have := DW.out.l1; have := DW.out.l2; have := DW.out.m1; have := DW.out.m2; unfold wrap64; omega
        have dSi : IntKind.i64.wrap (eq - ep) = eq := by have := DW.out.l1; have := DW.out.l2; have := DW.out.m1; have := DW.out.m2; rw [IntKind.wrap_i64]; omega
        by_cases hm0 : m0 = 0
        · have eL : eq = L := by omega
          subst eL
          clear WJ0 EQ0 EP0 z00 q00 hm0 hq1
          refine wp_region_class (C := fun W => Below Z w2 W) (by kernel_rfl) (by kernel_rfl) BR.out.drew ?_
          refine wpQuiet_step (fun K hK => ?_)
          refine quiet_val (by rfl) (v := ?_) ?_ (hK _ ?_)
          rotate_left
          · (intro w hSw; go_simp; try with_reducible rfl)
          clear hK K
          simp only [Act.put, List.setIfInBounds_toArray, List.set_cons_zero, List.set_cons_succ]
          refine wpQuiet_step (fun K hK => ?_)
          refine quiet_val (by rfl) (v := ?_) ?_ (hK _ ?_)
          rotate_left
          · (intro w hSw; go_simp; try with_reducible rfl)
          clear hK K
          simp only [Act.put, List.setIfInBounds_toArray, List.set_cons_zero, List.set_cons_succ]
          refine wpQuiet_step (fun K hK => ?_)
          refine quiet_val (by rfl) (v := ?_) ?_ (hK _ ?_)
          rotate_left
          · (intro w hSw; go_simp; try with_reducible rfl)
          clear hK K
          simp only [Act.put, List.setIfInBounds_toArray, List.set_cons_zero, List.set_cons_succ]
          refine wpQuiet_step (fun K hK => ?_)
          refine quiet_val (by rfl) (v := ?_) ?_ (hK _ ?_)
          rotate_left
          · (intro w hSw; go_simp; try with_reducible rfl)
          clear hK K
          simp only [Act.put, List.setIfInBounds_toArray, List.set_cons_zero, List.set_cons_succ]
          refine wpQuiet_step (fun K hK => ?_)
          refine quiet_load (by rfl) 53 (.tmp 8) rfl (M + 1) (0) rfl (sdV x) _ (fun w h => CX w h) Try.underlying53 rfl (szL sz53 sx.out) (hK _ ?_)
          clear hK K
          simp only [Act.put, List.setIfInBounds_toArray, List.set_cons_zero, List.set_cons_succ]
          refine wpQuiet_step (fun K hK => ?_)
          refine quiet_val (by rfl) (v := ?_) ?_ (hK _ ?_)
          rotate_left
          · (intro w hSw; go_simp; try with_reducible rfl)
          clear hK K
          simp only [Act.put, List.setIfInBounds_toArray, List.set_cons_zero, List.set_cons_succ]
          refine wpQuiet_step (fun K hK => ?_)
          refine quiet_call (by rfl) 23 #[.agg (sdV x).toArray, .int .i64 q] ?_ (fun w hw => KQ.out w hw) (hK _ ?_)
          · (intro w hSw; go_simp; try with_reducible rfl)
          clear hK K
          simp only [Act.put, List.setIfInBounds_toArray, List.set_cons_zero, List.set_cons_succ]
          refine wpQuiet_step (fun K hK => ?_)
          refine quiet_val (by rfl) (v := .bool false) (fun w hSw => ?_) (hK _ ?_)
          · (go_simp; first | done | (rw [dH]; done) | (simp only [dH]; done) | (simp only [dH]; rfl))
          clear hK K
          simp only [Act.put, List.setIfInBounds_toArray, List.set_cons_zero, List.set_cons_succ]
          refine wpQuiet_step (fun K hK => ?_)
          refine quiet_val (by rfl) (v := ?_) ?_ (hK _ ?_)
          rotate_left
          · (intro w hSw; go_simp; try with_reducible rfl)
          clear hK K
          simp only [Act.put, List.setIfInBounds_toArray, List.set_cons_zero, List.set_cons_succ]
          refine wpQuiet_step (fun K hK => ?_)
          refine quiet_val (by rfl) (v := ?_) ?_ (hK _ ?_)
          rotate_left
          · (intro w hSw; go_simp; try with_reducible rfl)
          clear hK K
          simp only [Act.put, List.setIfInBounds_toArray, List.set_cons_zero, List.set_cons_succ]
          refine wpQuiet_step (fun K hK => ?_)
          refine quiet_val (by rfl) (v := ?_) ?_ (hK _ ?_)
          rotate_left
          · (intro w hSw; go_simp; try with_reducible rfl)
          clear hK K
          simp only [Act.put, List.setIfInBounds_toArray, List.set_cons_zero, List.set_cons_succ]
          refine wpQuiet_step (fun K hK => ?_)
          refine quiet_val (by rfl) (v := .bool false) (fun w hSw => ?_) (hK _ ?_)
          · (go_simp; first | done | (rw [dQ]; done) | (simp only [dQ]; done) | (simp only [dQ]; rfl))
          clear hK K
          simp only [Act.put, List.setIfInBounds_toArray, List.set_cons_zero, List.set_cons_succ]
          refine wpQuiet_step (fun K hK => ?_)
          refine quiet_val (by rfl) (v := ?_) ?_ (hK _ ?_)
          rotate_left
          · (intro w hSw; go_simp; try with_reducible rfl)
          clear hK K
          simp only [Act.put, List.setIfInBounds_toArray, List.set_cons_zero, List.set_cons_succ]
          refine wpQuiet_step (fun K hK => ?_)
          refine quiet_skip (by kernel_rfl) (hK _ ?_)
          clear hK K
          simp only [Act.put, List.setIfInBounds_toArray, List.set_cons_zero, List.set_cons_succ]
          refine wpQuiet_step (fun K hK => ?_)
          refine quiet_skip (by kernel_rfl) (hK _ ?_)
          clear hK K
          simp only [Act.put, List.setIfInBounds_toArray, List.set_cons_zero, List.set_cons_succ]
          refine wpQuiet_step (fun K hK => ?_)
          refine quiet_skip (by kernel_rfl) (hK _ ?_)
          clear hK K
          simp only [Act.put, List.setIfInBounds_toArray, List.set_cons_zero, List.set_cons_succ]
          refine wpQuiet_step (fun K hK => ?_)
          refine quiet_skip (by kernel_rfl) (hK _ ?_)
          clear hK K
          simp only [Act.put, List.setIfInBounds_toArray, List.set_cons_zero, List.set_cons_succ]
          refine wpQuiet_step (fun K hK => ?_)
          refine quiet_skip (by kernel_rfl) (hK _ ?_)
          clear hK K
          simp only [Act.put, List.setIfInBounds_toArray, List.set_cons_zero, List.set_cons_succ]
          refine wpQuiet_step (fun K hK => ?_)
          refine quiet_skip (by kernel_rfl) (hK _ ?_)
          clear hK K
          simp only [Act.put, List.setIfInBounds_toArray, List.set_cons_zero, List.set_cons_succ]
          refine wpQuiet_step (fun K hK => ?_)
          refine quiet_val (by rfl) (v := ?_) ?_ (hK _ ?_)
          rotate_left
          · (intro w hSw; go_simp; try with_reducible rfl)
          clear hK K
          simp only [Act.put, List.setIfInBounds_toArray, List.set_cons_zero, List.set_cons_succ]
          refine wpQuiet_step (fun K hK => ?_)
          refine quiet_val (by rfl) (v := ?_) ?_ (hK _ ?_)
          rotate_left
          · (intro w hSw; go_simp; try with_reducible rfl)
          clear hK K
          simp only [Act.put, List.setIfInBounds_toArray, List.set_cons_zero, List.set_cons_succ]
          refine wpQuiet_step (fun K hK => ?_)
          refine quiet_val (by rfl) (v := ?_) ?_ (hK _ ?_)
          rotate_left
          · (intro w hSw; go_simp; try with_reducible rfl)
          clear hK K
          simp only [Act.put, List.setIfInBounds_toArray, List.set_cons_zero, List.set_cons_succ]
          refine wpQuiet_step (fun K hK => ?_)
          refine quiet_load (by rfl) 53 (.tmp 8) rfl (M + 1) (0) rfl (sdV x) _ (fun w h => CX w h) Try.underlying53 rfl (szL sz53 sx.out) (hK _ ?_)
          clear hK K
          simp only [Act.put, List.setIfInBounds_toArray, List.set_cons_zero, List.set_cons_succ]
          refine wpQuiet_step (fun K hK => ?_)
          refine quiet_val (by rfl) (v := ?_) ?_ (hK _ ?_)
          rotate_left
          · (intro w hSw; go_simp; try with_reducible rfl)
          clear hK K
          simp only [Act.put, List.setIfInBounds_toArray, List.set_cons_zero, List.set_cons_succ]
          refine wpQuiet_step (fun K hK => ?_)
          refine quiet_call (by rfl) 23 #[.agg (sdV x).toArray, .int .i64 q] ?_ (fun w hw => KQ.out w hw) (hK _ ?_)
          · (intro w hSw; go_simp; try with_reducible rfl)
          clear hK K
          simp only [Act.put, List.setIfInBounds_toArray, List.set_cons_zero, List.set_cons_succ]
          refine wpQuiet_step (fun K hK => ?_)
          refine quiet_load (by rfl) 53 (.tmp 8) rfl (M + 1) (0) rfl (sdV x) _ (fun w h => CX w h) Try.underlying53 rfl (szL sz53 sx.out) (hK _ ?_)
          clear hK K
          simp only [Act.put, List.setIfInBounds_toArray, List.set_cons_zero, List.set_cons_succ]
          refine wpQuiet_step (fun K hK => ?_)
          refine quiet_val (by rfl) (v := ?_) ?_ (hK _ ?_)
          rotate_left
          · (intro w hSw; go_simp; try with_reducible rfl)
          clear hK K
          simp only [Act.put, List.setIfInBounds_toArray, List.set_cons_zero, List.set_cons_succ]
          refine wpQuiet_step (fun K hK => ?_)
          refine quiet_val (by rfl) (v := .int .i64 p) (fun w hSw => ?_) (hK _ ?_)
          · (go_simp; first | done | exact sqi | (rw [sqi]; done) | (rw [sq]; done))
          clear hK K
          simp only [Act.put, List.setIfInBounds_toArray, List.set_cons_zero, List.set_cons_succ]
          refine wpQuiet_step (fun K hK => ?_)
          refine quiet_call (by rfl) 23 #[.agg (sdV x).toArray, .int .i64 p] ?_ (fun w hw => KP.out w hw) (hK _ ?_)
          · (intro w hSw; go_simp; try with_reducible rfl)
          clear hK K
          simp only [Act.put, List.setIfInBounds_toArray, List.set_cons_zero, List.set_cons_succ]
          refine wpQuiet_step (fun K hK => ?_)
          refine quiet_val (by rfl) (v := .int .i64 eq) (fun w hSw => ?_) (hK _ ?_)
          · (go_simp; first | done | exact dSi | (rw [dSi]; done) | (rw [dS]; done))
          clear hK K
          simp only [Act.put, List.setIfInBounds_toArray, List.set_cons_zero, List.set_cons_succ]
          refine wpQuiet_step (fun K hK => ?_)
          refine quiet_val (by rfl) (v := ?_) ?_ (hK _ ?_)
          rotate_left
          · (intro w hSw; go_simp; try with_reducible rfl)
          clear hK K
          simp only [Act.put, List.setIfInBounds_toArray, List.set_cons_zero, List.set_cons_succ]
          refine wpQuiet_step (fun K hK => ?_)
          refine quiet_val (by rfl) (v := ?_) ?_ (hK _ ?_)
          rotate_left
          · (intro w hSw; have z := CA0 w hSw; go_simp; try with_reducible rfl)
          clear hK K
          simp only [Act.put, List.setIfInBounds_toArray, List.set_cons_zero, List.set_cons_succ]
          refine wpQuiet_step (fun K hK => ?_)
          refine quiet_val (by rfl) (v := .bool false) (fun w hSw => ?_) (hK _ ?_)
          · (go_simp; first | done | (simp; done) | (simp; omega))
          clear hK K
          simp only [Act.put, List.setIfInBounds_toArray, List.set_cons_zero, List.set_cons_succ]
          refine wpQuiet_step (fun K hK => ?_)
          refine quiet_val (by rfl) (v := ?_) ?_ (hK _ ?_)
          rotate_left
          · (intro w hSw; go_simp; try with_reducible rfl)
          clear hK K
          simp only [Act.put, List.setIfInBounds_toArray, List.set_cons_zero, List.set_cons_succ]
          refine wpQuiet_step (fun K hK => ?_)
          refine quiet_skip (by kernel_rfl) (hK _ ?_)
          clear hK K
          simp only [Act.put, List.setIfInBounds_toArray, List.set_cons_zero, List.set_cons_succ]
          refine wpQuiet_step (fun K hK => ?_)
          refine quiet_skip (by kernel_rfl) (hK _ ?_)
          clear hK K
          simp only [Act.put, List.setIfInBounds_toArray, List.set_cons_zero, List.set_cons_succ]
          refine wpQuiet_step (fun K hK => ?_)
          refine quiet_val (by rfl) (v := ?_) ?_ (hK _ ?_)
          rotate_left
          · (intro w hSw; go_simp; try with_reducible rfl)
          clear hK K
          simp only [Act.put, List.setIfInBounds_toArray, List.set_cons_zero, List.set_cons_succ]
          refine wpQuiet_step (fun K hK => ?_)
          refine quiet_val (by rfl) (v := ?_) ?_ (hK _ ?_)
          rotate_left
          · (intro w hSw; go_simp; try with_reducible rfl)
          clear hK K
          simp only [Act.put, List.setIfInBounds_toArray, List.set_cons_zero, List.set_cons_succ]
          refine wpQuiet_nil ?_
          intro wq hq
          have BQ : Hid (Below Z w2 wq) := Lib.hid hq
          clear hq
          go_wp2
          go_loopw [13, 12] (fun kv mv wr => ∃ k : Nat, k ≤ 5 ∧ kv = .int .i64 k ∧ mv = .int .i64 (0 : Int) ∧ Below Z w2 wr) (fun kv _ _ => 5 - (intOf kv).toNat)
          case atStart => exact ⟨0, by omega, rfl, rfl, BQ.out⟩
          case round =>
            obtain ⟨k, hk5, rfl, rfl, hbi⟩ := hrel
            have BI : Hid (Below Z w2 wr) := Lib.hid hbi
            clear hbi
            by_cases hlt : k < 5
            · have k5 : (k : Int) < 5 := by omega
              have KW : Hid (wrap64 ((k : Int) + 1) = ((k + 1 : Nat) : Int)) := Lib.hid (by unfold wrap64; omega)
              have KW2 : Hid ((k : Int) + 1 = ((k + 1 : Nat) : Int)) := Lib.hid (by omega)
              have HK5 := Lib.hid hlt
              have OP : Hid (∀ W, Below Z w2 W → Calls Try.prog 25 #[.agg (sdV x).toArray, .int .i64 k, .int .i64 h] W fun e1 w' => e1 = .returned (.bool (decide ((k : Int) = q - 1 ∧ r + 1 ≤ Wn))) ∧ Below Z w2 w') := Lib.hid (KO.out k hlt)
              rw [decide_eq_false (fun g => by have := g.1; have := QZ.out; omega)] at OP
              clear hlt
              go_wp2_with (first
                | (refine wpList_load_midG (by rfl) 53 (.tmp 8) rfl (M + 1) 0 rfl (sdV x) _ (CX _ BI.out) Try.underlying53 rfl (szL sz53 sx.out) ?_)
                | (go_at_call 25; refine (OP.out _ BI.out).mono ?_; rintro e1 w5 ⟨rfl, hb⟩; have BJ := Lib.hid hb; clear hb)
                | fail)
              go_roundw
              case rel => exact ⟨k + 1, HK5.out, by first | exact congrArg _ KW.out | exact congrArg _ KW2.out, rfl, BJ.out⟩
              case measure => first | exact meas_up KW.out HK5.out | exact meas_up KW2.out HK5.out
            · have k5 : ¬ (k : Int) < 5 := by omega
              clear hlt hk5
              go_upto_region 20 with (fail)
              refine wp_region_class (C := fun W => Below Z w2 W) (by kernel_rfl) (by kernel_rfl) BI.out.drew ?_
              refine wpQuiet_step (fun K hK => ?_)
              refine quiet_val (by rfl) (v := ?_) ?_ (hK _ ?_)
              rotate_left
              · (intro w hSw; go_simp; try with_reducible rfl)
              clear hK K
              simp only [Act.put, List.setIfInBounds_toArray, List.set_cons_zero, List.set_cons_succ]
              refine wpQuiet_step (fun K hK => ?_)
              refine quiet_val (by rfl) (v := ?_) ?_ (hK _ ?_)
              rotate_left
              · (intro w hSw; go_simp; try with_reducible rfl)
              clear hK K
              simp only [Act.put, List.setIfInBounds_toArray, List.set_cons_zero, List.set_cons_succ]
              refine wpQuiet_step (fun K hK => ?_)
              refine quiet_val (by rfl) (v := ?_) ?_ (hK _ ?_)
              rotate_left
              · (intro w hSw; go_simp; try with_reducible rfl)
              clear hK K
              simp only [Act.put, List.setIfInBounds_toArray, List.set_cons_zero, List.set_cons_succ]
              refine wpQuiet_step (fun K hK => ?_)
              refine quiet_val (by rfl) (v := ?_) ?_ (hK _ ?_)
              rotate_left
              · (intro w hSw; go_simp; try with_reducible rfl)
              clear hK K
              simp only [Act.put, List.setIfInBounds_toArray, List.set_cons_zero, List.set_cons_succ]
              refine wpQuiet_step (fun K hK => ?_)
              refine quiet_val (by rfl) (v := ?_) ?_ (hK _ ?_)
              rotate_left
              · (intro w hSw; go_simp; try with_reducible rfl)
              clear hK K
              simp only [Act.put, List.setIfInBounds_toArray, List.set_cons_zero, List.set_cons_succ]
              refine wpQuiet_step (fun K hK => ?_)
              refine quiet_val (by rfl) (v := ?_) ?_ (hK _ ?_)
              rotate_left
              · (intro w hSw; go_simp; try with_reducible rfl)
              clear hK K
              simp only [Act.put, List.setIfInBounds_toArray, List.set_cons_zero, List.set_cons_succ]
              refine wpQuiet_step (fun K hK => ?_)
              refine quiet_val (by rfl) (v := .bool false) (fun w hSw => ?_) (hK _ ?_)
              · (go_simp; first | done | (rw [dQ]; done) | (simp only [dQ]; done) | (simp only [dQ]; rfl))
              clear hK K
              simp only [Act.put, List.setIfInBounds_toArray, List.set_cons_zero, List.set_cons_succ]
              refine wpQuiet_step (fun K hK => ?_)
              refine quiet_val (by rfl) (v := ?_) ?_ (hK _ ?_)
              rotate_left
              · (intro w hSw; go_simp; try with_reducible rfl)
              clear hK K
              simp only [Act.put, List.setIfInBounds_toArray, List.set_cons_zero, List.set_cons_succ]
              refine wpQuiet_step (fun K hK => ?_)
              refine quiet_skip (by kernel_rfl) (hK _ ?_)
              clear hK K
              simp only [Act.put, List.setIfInBounds_toArray, List.set_cons_zero, List.set_cons_succ]
              refine wpQuiet_step (fun K hK => ?_)
              refine quiet_skip (by kernel_rfl) (hK _ ?_)
              clear hK K
              simp only [Act.put, List.setIfInBounds_toArray, List.set_cons_zero, List.set_cons_succ]
              refine wpQuiet_step (fun K hK => ?_)
              refine quiet_skip (by kernel_rfl) (hK _ ?_)
              clear hK K
              simp only [Act.put, List.setIfInBounds_toArray, List.set_cons_zero, List.set_cons_succ]
              refine wpQuiet_step (fun K hK => ?_)
              refine quiet_skip (by kernel_rfl) (hK _ ?_)
              clear hK K
              simp only [Act.put, List.setIfInBounds_toArray, List.set_cons_zero, List.set_cons_succ]
              refine wpQuiet_step (fun K hK => ?_)
              refine quiet_skip (by kernel_rfl) (hK _ ?_)
              clear hK K
              simp only [Act.put, List.setIfInBounds_toArray, List.set_cons_zero, List.set_cons_succ]
              refine wpQuiet_step (fun K hK => ?_)
              refine quiet_skip (by kernel_rfl) (hK _ ?_)
              clear hK K
              simp only [Act.put, List.setIfInBounds_toArray, List.set_cons_zero, List.set_cons_succ]
              refine wpQuiet_step (fun K hK => ?_)
              refine quiet_skip (by kernel_rfl) (hK _ ?_)
              clear hK K
              simp only [Act.put, List.setIfInBounds_toArray, List.set_cons_zero, List.set_cons_succ]
              refine wpQuiet_step (fun K hK => ?_)
              refine quiet_skip (by kernel_rfl) (hK _ ?_)
              clear hK K
              simp only [Act.put, List.setIfInBounds_toArray, List.set_cons_zero, List.set_cons_succ]
              refine wpQuiet_step (fun K hK => ?_)
              refine quiet_skip (by kernel_rfl) (hK _ ?_)
              clear hK K
              simp only [Act.put, List.setIfInBounds_toArray, List.set_cons_zero, List.set_cons_succ]
              refine wpQuiet_step (fun K hK => ?_)
              refine quiet_val (by rfl) (v := ?_) ?_ (hK _ ?_)
              rotate_left
              · (intro w hSw; go_simp; try with_reducible rfl)
              clear hK K
              simp only [Act.put, List.setIfInBounds_toArray, List.set_cons_zero, List.set_cons_succ]
              refine wpQuiet_step (fun K hK => ?_)
              refine quiet_val (by rfl) (v := ?_) ?_ (hK _ ?_)
              rotate_left
              · (intro w hSw; go_simp; try with_reducible rfl)
              clear hK K
              simp only [Act.put, List.setIfInBounds_toArray, List.set_cons_zero, List.set_cons_succ]
              refine wpQuiet_step (fun K hK => ?_)
              refine quiet_val (by rfl) (v := ?_) ?_ (hK _ ?_)
              rotate_left
              · (intro w hSw; go_simp; try with_reducible rfl)
              clear hK K
              simp only [Act.put, List.setIfInBounds_toArray, List.set_cons_zero, List.set_cons_succ]
              refine wpQuiet_nil ?_
              intro wz hq
              have BZ : Hid (Below Z w2 wz) := Lib.hid hq
              clear hq
              go_wp2
              go_roundw
              case rel => exact ⟨j + 1, HJ.out, congrArg _ HW.out, BZ.out⟩
              case measure => exact HME.out
        · have eL : ¬ eq = L := by omega
          clear WJ0 EQ0 EP0 z00 q00 hm0 hq1
          refine wp_region_class (C := fun W => Below Z w2 W) (by kernel_rfl) (by kernel_rfl) BR.out.drew ?_
          refine wpQuiet_step (fun K hK => ?_)
          refine quiet_val (by rfl) (v := ?_) ?_ (hK _ ?_)
          rotate_left
          · (intro w hSw; go_simp; try with_reducible rfl)
          clear hK K
          simp only [Act.put, List.setIfInBounds_toArray, List.set_cons_zero, List.set_cons_succ]
          refine wpQuiet_step (fun K hK => ?_)
          refine quiet_val (by rfl) (v := ?_) ?_ (hK _ ?_)
          rotate_left
          · (intro w hSw; go_simp; try with_reducible rfl)
          clear hK K
          simp only [Act.put, List.setIfInBounds_toArray, List.set_cons_zero, List.set_cons_succ]
          refine wpQuiet_step (fun K hK => ?_)
          refine quiet_val (by rfl) (v := ?_) ?_ (hK _ ?_)
          rotate_left
          · (intro w hSw; go_simp; try with_reducible rfl)
          clear hK K
          simp only [Act.put, List.setIfInBounds_toArray, List.set_cons_zero, List.set_cons_succ]
          refine wpQuiet_step (fun K hK => ?_)
          refine quiet_val (by rfl) (v := ?_) ?_ (hK _ ?_)
          rotate_left
          · (intro w hSw; go_simp; try with_reducible rfl)
          clear hK K
          simp only [Act.put, List.setIfInBounds_toArray, List.set_cons_zero, List.set_cons_succ]
          refine wpQuiet_step (fun K hK => ?_)
          refine quiet_load (by rfl) 53 (.tmp 8) rfl (M + 1) (0) rfl (sdV x) _ (fun w h => CX w h) Try.underlying53 rfl (szL sz53 sx.out) (hK _ ?_)
          clear hK K
          simp only [Act.put, List.setIfInBounds_toArray, List.set_cons_zero, List.set_cons_succ]
          refine wpQuiet_step (fun K hK => ?_)
          refine quiet_val (by rfl) (v := ?_) ?_ (hK _ ?_)
          rotate_left
          · (intro w hSw; go_simp; try with_reducible rfl)
          clear hK K
          simp only [Act.put, List.setIfInBounds_toArray, List.set_cons_zero, List.set_cons_succ]
          refine wpQuiet_step (fun K hK => ?_)
          refine quiet_call (by rfl) 23 #[.agg (sdV x).toArray, .int .i64 q] ?_ (fun w hw => KQ.out w hw) (hK _ ?_)
          · (intro w hSw; go_simp; try with_reducible rfl)
          clear hK K
          simp only [Act.put, List.setIfInBounds_toArray, List.set_cons_zero, List.set_cons_succ]
          refine wpQuiet_step (fun K hK => ?_)
          refine quiet_val (by rfl) (v := .bool false) (fun w hSw => ?_) (hK _ ?_)
          · (go_simp; first | done | (rw [dH]; done) | (simp only [dH]; done) | (simp only [dH]; rfl))
          clear hK K
          simp only [Act.put, List.setIfInBounds_toArray, List.set_cons_zero, List.set_cons_succ]
          refine wpQuiet_step (fun K hK => ?_)
          refine quiet_val (by rfl) (v := ?_) ?_ (hK _ ?_)
          rotate_left
          · (intro w hSw; go_simp; try with_reducible rfl)
          clear hK K
          simp only [Act.put, List.setIfInBounds_toArray, List.set_cons_zero, List.set_cons_succ]
          refine wpQuiet_step (fun K hK => ?_)
          refine quiet_val (by rfl) (v := ?_) ?_ (hK _ ?_)
          rotate_left
          · (intro w hSw; go_simp; try with_reducible rfl)
          clear hK K
          simp only [Act.put, List.setIfInBounds_toArray, List.set_cons_zero, List.set_cons_succ]
          refine wpQuiet_step (fun K hK => ?_)
          refine quiet_val (by rfl) (v := ?_) ?_ (hK _ ?_)
          rotate_left
          · (intro w hSw; go_simp; try with_reducible rfl)
          clear hK K
          simp only [Act.put, List.setIfInBounds_toArray, List.set_cons_zero, List.set_cons_succ]
          refine wpQuiet_step (fun K hK => ?_)
          refine quiet_val (by rfl) (v := .bool false) (fun w hSw => ?_) (hK _ ?_)
          · (go_simp; first | done | (rw [dQ]; done) | (simp only [dQ]; done) | (simp only [dQ]; rfl))
          clear hK K
          simp only [Act.put, List.setIfInBounds_toArray, List.set_cons_zero, List.set_cons_succ]
          refine wpQuiet_step (fun K hK => ?_)
          refine quiet_val (by rfl) (v := ?_) ?_ (hK _ ?_)
          rotate_left
          · (intro w hSw; go_simp; try with_reducible rfl)
          clear hK K
          simp only [Act.put, List.setIfInBounds_toArray, List.set_cons_zero, List.set_cons_succ]
          refine wpQuiet_step (fun K hK => ?_)
          refine quiet_skip (by kernel_rfl) (hK _ ?_)
          clear hK K
          simp only [Act.put, List.setIfInBounds_toArray, List.set_cons_zero, List.set_cons_succ]
          refine wpQuiet_step (fun K hK => ?_)
          refine quiet_skip (by kernel_rfl) (hK _ ?_)
          clear hK K
          simp only [Act.put, List.setIfInBounds_toArray, List.set_cons_zero, List.set_cons_succ]
          refine wpQuiet_step (fun K hK => ?_)
          refine quiet_skip (by kernel_rfl) (hK _ ?_)
          clear hK K
          simp only [Act.put, List.setIfInBounds_toArray, List.set_cons_zero, List.set_cons_succ]
          refine wpQuiet_step (fun K hK => ?_)
          refine quiet_skip (by kernel_rfl) (hK _ ?_)
          clear hK K
          simp only [Act.put, List.setIfInBounds_toArray, List.set_cons_zero, List.set_cons_succ]
          refine wpQuiet_step (fun K hK => ?_)
          refine quiet_skip (by kernel_rfl) (hK _ ?_)
          clear hK K
          simp only [Act.put, List.setIfInBounds_toArray, List.set_cons_zero, List.set_cons_succ]
          refine wpQuiet_step (fun K hK => ?_)
          refine quiet_skip (by kernel_rfl) (hK _ ?_)
          clear hK K
          simp only [Act.put, List.setIfInBounds_toArray, List.set_cons_zero, List.set_cons_succ]
          refine wpQuiet_step (fun K hK => ?_)
          refine quiet_val (by rfl) (v := ?_) ?_ (hK _ ?_)
          rotate_left
          · (intro w hSw; go_simp; try with_reducible rfl)
          clear hK K
          simp only [Act.put, List.setIfInBounds_toArray, List.set_cons_zero, List.set_cons_succ]
          refine wpQuiet_step (fun K hK => ?_)
          refine quiet_val (by rfl) (v := ?_) ?_ (hK _ ?_)
          rotate_left
          · (intro w hSw; go_simp; try with_reducible rfl)
          clear hK K
          simp only [Act.put, List.setIfInBounds_toArray, List.set_cons_zero, List.set_cons_succ]
          refine wpQuiet_step (fun K hK => ?_)
          refine quiet_val (by rfl) (v := ?_) ?_ (hK _ ?_)
          rotate_left
          · (intro w hSw; go_simp; try with_reducible rfl)
          clear hK K
          simp only [Act.put, List.setIfInBounds_toArray, List.set_cons_zero, List.set_cons_succ]
          refine wpQuiet_step (fun K hK => ?_)
          refine quiet_load (by rfl) 53 (.tmp 8) rfl (M + 1) (0) rfl (sdV x) _ (fun w h => CX w h) Try.underlying53 rfl (szL sz53 sx.out) (hK _ ?_)
          clear hK K
          simp only [Act.put, List.setIfInBounds_toArray, List.set_cons_zero, List.set_cons_succ]
          refine wpQuiet_step (fun K hK => ?_)
          refine quiet_val (by rfl) (v := ?_) ?_ (hK _ ?_)
          rotate_left
          · (intro w hSw; go_simp; try with_reducible rfl)
          clear hK K
          simp only [Act.put, List.setIfInBounds_toArray, List.set_cons_zero, List.set_cons_succ]
          refine wpQuiet_step (fun K hK => ?_)
          refine quiet_call (by rfl) 23 #[.agg (sdV x).toArray, .int .i64 q] ?_ (fun w hw => KQ.out w hw) (hK _ ?_)
          · (intro w hSw; go_simp; try with_reducible rfl)
          clear hK K
          simp only [Act.put, List.setIfInBounds_toArray, List.set_cons_zero, List.set_cons_succ]
          refine wpQuiet_step (fun K hK => ?_)
          refine quiet_load (by rfl) 53 (.tmp 8) rfl (M + 1) (0) rfl (sdV x) _ (fun w h => CX w h) Try.underlying53 rfl (szL sz53 sx.out) (hK _ ?_)
          clear hK K
          simp only [Act.put, List.setIfInBounds_toArray, List.set_cons_zero, List.set_cons_succ]
          refine wpQuiet_step (fun K hK => ?_)
          refine quiet_val (by rfl) (v := ?_) ?_ (hK _ ?_)
          rotate_left
          · (intro w hSw; go_simp; try with_reducible rfl)
          clear hK K
          simp only [Act.put, List.setIfInBounds_toArray, List.set_cons_zero, List.set_cons_succ]
          refine wpQuiet_step (fun K hK => ?_)
          refine quiet_val (by rfl) (v := .int .i64 p) (fun w hSw => ?_) (hK _ ?_)
          · (go_simp; first | done | exact sqi | (rw [sqi]; done) | (rw [sq]; done))
          clear hK K
          simp only [Act.put, List.setIfInBounds_toArray, List.set_cons_zero, List.set_cons_succ]
          refine wpQuiet_step (fun K hK => ?_)
          refine quiet_call (by rfl) 23 #[.agg (sdV x).toArray, .int .i64 p] ?_ (fun w hw => KP.out w hw) (hK _ ?_)
          · (intro w hSw; go_simp; try with_reducible rfl)
          clear hK K
          simp only [Act.put, List.setIfInBounds_toArray, List.set_cons_zero, List.set_cons_succ]
          refine wpQuiet_step (fun K hK => ?_)
          refine quiet_val (by rfl) (v := .int .i64 eq) (fun w hSw => ?_) (hK _ ?_)
          · (go_simp; first | done | exact dSi | (rw [dSi]; done) | (rw [dS]; done))
          clear hK K
          simp only [Act.put, List.setIfInBounds_toArray, List.set_cons_zero, List.set_cons_succ]
          refine wpQuiet_step (fun K hK => ?_)
          refine quiet_val (by rfl) (v := ?_) ?_ (hK _ ?_)
          rotate_left
          · (intro w hSw; go_simp; try with_reducible rfl)
          clear hK K
          simp only [Act.put, List.setIfInBounds_toArray, List.set_cons_zero, List.set_cons_succ]
          refine wpQuiet_step (fun K hK => ?_)
          refine quiet_val (by rfl) (v := ?_) ?_ (hK _ ?_)
          rotate_left
          · (intro w hSw; have z := CA0 w hSw; go_simp; try with_reducible rfl)
          clear hK K
          simp only [Act.put, List.setIfInBounds_toArray, List.set_cons_zero, List.set_cons_succ]
          refine wpQuiet_step (fun K hK => ?_)
          refine quiet_val (by rfl) (v := .bool true) (fun w hSw => ?_) (hK _ ?_)
          · (go_simp; first | done | (simp; done) | (simp; omega))
          clear hK K
          simp only [Act.put, List.setIfInBounds_toArray, List.set_cons_zero, List.set_cons_succ]
          refine wpQuiet_step (fun K hK => ?_)
          refine quiet_val (by rfl) (v := ?_) ?_ (hK _ ?_)
          rotate_left
          · (intro w hSw; go_simp; try with_reducible rfl)
          clear hK K
          simp only [Act.put, List.setIfInBounds_toArray, List.set_cons_zero, List.set_cons_succ]
          refine wpQuiet_step (fun K hK => ?_)
          refine quiet_val (by rfl) (v := ?_) ?_ (hK _ ?_)
          rotate_left
          · (intro w hSw; go_simp; try with_reducible rfl)
          clear hK K
          simp only [Act.put, List.setIfInBounds_toArray, List.set_cons_zero, List.set_cons_succ]
          refine wpQuiet_step (fun K hK => ?_)
          refine quiet_val (by rfl) (v := .bool false) (fun w hSw => ?_) (hK _ ?_)
          · (go_simp; first | done | (rw [dQ]; done) | (simp only [dQ]; done) | (simp only [dQ]; rfl))
          clear hK K
          simp only [Act.put, List.setIfInBounds_toArray, List.set_cons_zero, List.set_cons_succ]
          refine wpQuiet_step (fun K hK => ?_)
          refine quiet_val (by rfl) (v := ?_) ?_ (hK _ ?_)
          rotate_left
          · (intro w hSw; go_simp; try with_reducible rfl)
          clear hK K
          simp only [Act.put, List.setIfInBounds_toArray, List.set_cons_zero, List.set_cons_succ]
          refine wpQuiet_step (fun K hK => ?_)
          refine quiet_val (by rfl) (v := ?_) ?_ (hK _ ?_)
          rotate_left
          · (intro w hSw; go_simp; try with_reducible rfl)
          clear hK K
          simp only [Act.put, List.setIfInBounds_toArray, List.set_cons_zero, List.set_cons_succ]
          refine wpQuiet_nil ?_
          intro wq hq
          have BQ : Hid (Below Z w2 wq) := Lib.hid hq
          clear hq
          go_wp2
          go_loopw [13, 12] (fun kv mv wr => ∃ k : Nat, k ≤ 5 ∧ kv = .int .i64 k ∧ mv = .int .i64 (0 : Int) ∧ Below Z w2 wr) (fun kv _ _ => 5 - (intOf kv).toNat)
          case atStart => exact ⟨0, by omega, rfl, rfl, BQ.out⟩
          case round =>
            obtain ⟨k, hk5, rfl, rfl, hbi⟩ := hrel
            have BI : Hid (Below Z w2 wr) := Lib.hid hbi
            clear hbi
            by_cases hlt : k < 5
            · have k5 : (k : Int) < 5 := by omega
              have KW : Hid (wrap64 ((k : Int) + 1) = ((k + 1 : Nat) : Int)) := Lib.hid (by unfold wrap64; omega)
              have KW2 : Hid ((k : Int) + 1 = ((k + 1 : Nat) : Int)) := Lib.hid (by omega)
              have HK5 := Lib.hid hlt
              have OP : Hid (∀ W, Below Z w2 W → Calls Try.prog 25 #[.agg (sdV x).toArray, .int .i64 k, .int .i64 h] W fun e1 w' => e1 = .returned (.bool (decide ((k : Int) = q - 1 ∧ r + 1 ≤ Wn))) ∧ Below Z w2 w') := Lib.hid (KO.out k hlt)
              rw [decide_eq_false (fun g => by have := g.1; have := QZ.out; omega)] at OP
              clear hlt
              go_wp2_with (first
                | (refine wpList_load_midG (by rfl) 53 (.tmp 8) rfl (M + 1) 0 rfl (sdV x) _ (CX _ BI.out) Try.underlying53 rfl (szL sz53 sx.out) ?_)
                | (go_at_call 25; refine (OP.out _ BI.out).mono ?_; rintro e1 w5 ⟨rfl, hb⟩; have BJ := Lib.hid hb; clear hb)
                | fail)
              go_roundw
              case rel => exact ⟨k + 1, HK5.out, by first | exact congrArg _ KW.out | exact congrArg _ KW2.out, rfl, BJ.out⟩
              case measure => first | exact meas_up KW.out HK5.out | exact meas_up KW2.out HK5.out
            · have k5 : ¬ (k : Int) < 5 := by omega
              clear hlt hk5
              go_upto_region 20 with (fail)
              refine wp_region_class (C := fun W => Below Z w2 W) (by kernel_rfl) (by kernel_rfl) BI.out.drew ?_
              refine wpQuiet_step (fun K hK => ?_)
              refine quiet_val (by rfl) (v := ?_) ?_ (hK _ ?_)
              rotate_left
              · (intro w hSw; go_simp; try with_reducible rfl)
              clear hK K
              simp only [Act.put, List.setIfInBounds_toArray, List.set_cons_zero, List.set_cons_succ]
              refine wpQuiet_step (fun K hK => ?_)
              refine quiet_val (by rfl) (v := ?_) ?_ (hK _ ?_)
              rotate_left
              · (intro w hSw; go_simp; try with_reducible rfl)
              clear hK K
              simp only [Act.put, List.setIfInBounds_toArray, List.set_cons_zero, List.set_cons_succ]
              refine wpQuiet_step (fun K hK => ?_)
              refine quiet_val (by rfl) (v := ?_) ?_ (hK _ ?_)
              rotate_left
              · (intro w hSw; go_simp; try with_reducible rfl)
              clear hK K
              simp only [Act.put, List.setIfInBounds_toArray, List.set_cons_zero, List.set_cons_succ]
              refine wpQuiet_step (fun K hK => ?_)
              refine quiet_val (by rfl) (v := ?_) ?_ (hK _ ?_)
              rotate_left
              · (intro w hSw; go_simp; try with_reducible rfl)
              clear hK K
              simp only [Act.put, List.setIfInBounds_toArray, List.set_cons_zero, List.set_cons_succ]
              refine wpQuiet_step (fun K hK => ?_)
              refine quiet_val (by rfl) (v := ?_) ?_ (hK _ ?_)
              rotate_left
              · (intro w hSw; go_simp; try with_reducible rfl)
              clear hK K
              simp only [Act.put, List.setIfInBounds_toArray, List.set_cons_zero, List.set_cons_succ]
              refine wpQuiet_step (fun K hK => ?_)
              refine quiet_val (by rfl) (v := ?_) ?_ (hK _ ?_)
              rotate_left
              · (intro w hSw; go_simp; try with_reducible rfl)
              clear hK K
              simp only [Act.put, List.setIfInBounds_toArray, List.set_cons_zero, List.set_cons_succ]
              refine wpQuiet_step (fun K hK => ?_)
              refine quiet_val (by rfl) (v := .bool false) (fun w hSw => ?_) (hK _ ?_)
              · (go_simp; first | done | (rw [dQ]; done) | (simp only [dQ]; done) | (simp only [dQ]; rfl))
              clear hK K
              simp only [Act.put, List.setIfInBounds_toArray, List.set_cons_zero, List.set_cons_succ]
              refine wpQuiet_step (fun K hK => ?_)
              refine quiet_val (by rfl) (v := ?_) ?_ (hK _ ?_)
              rotate_left
              · (intro w hSw; go_simp; try with_reducible rfl)
              clear hK K
              simp only [Act.put, List.setIfInBounds_toArray, List.set_cons_zero, List.set_cons_succ]
              refine wpQuiet_step (fun K hK => ?_)
              refine quiet_skip (by kernel_rfl) (hK _ ?_)
              clear hK K
              simp only [Act.put, List.setIfInBounds_toArray, List.set_cons_zero, List.set_cons_succ]
              refine wpQuiet_step (fun K hK => ?_)
              refine quiet_skip (by kernel_rfl) (hK _ ?_)
              clear hK K
              simp only [Act.put, List.setIfInBounds_toArray, List.set_cons_zero, List.set_cons_succ]
              refine wpQuiet_step (fun K hK => ?_)
              refine quiet_skip (by kernel_rfl) (hK _ ?_)
              clear hK K
              simp only [Act.put, List.setIfInBounds_toArray, List.set_cons_zero, List.set_cons_succ]
              refine wpQuiet_step (fun K hK => ?_)
              refine quiet_skip (by kernel_rfl) (hK _ ?_)
              clear hK K
              simp only [Act.put, List.setIfInBounds_toArray, List.set_cons_zero, List.set_cons_succ]
              refine wpQuiet_step (fun K hK => ?_)
              refine quiet_skip (by kernel_rfl) (hK _ ?_)
              clear hK K
              simp only [Act.put, List.setIfInBounds_toArray, List.set_cons_zero, List.set_cons_succ]
              refine wpQuiet_step (fun K hK => ?_)
              refine quiet_skip (by kernel_rfl) (hK _ ?_)
              clear hK K
              simp only [Act.put, List.setIfInBounds_toArray, List.set_cons_zero, List.set_cons_succ]
              refine wpQuiet_step (fun K hK => ?_)
              refine quiet_skip (by kernel_rfl) (hK _ ?_)
              clear hK K
              simp only [Act.put, List.setIfInBounds_toArray, List.set_cons_zero, List.set_cons_succ]
              refine wpQuiet_step (fun K hK => ?_)
              refine quiet_skip (by kernel_rfl) (hK _ ?_)
              clear hK K
              simp only [Act.put, List.setIfInBounds_toArray, List.set_cons_zero, List.set_cons_succ]
              refine wpQuiet_step (fun K hK => ?_)
              refine quiet_skip (by kernel_rfl) (hK _ ?_)
              clear hK K
              simp only [Act.put, List.setIfInBounds_toArray, List.set_cons_zero, List.set_cons_succ]
              refine wpQuiet_step (fun K hK => ?_)
              refine quiet_val (by rfl) (v := ?_) ?_ (hK _ ?_)
              rotate_left
              · (intro w hSw; go_simp; try with_reducible rfl)
              clear hK K
              simp only [Act.put, List.setIfInBounds_toArray, List.set_cons_zero, List.set_cons_succ]
              refine wpQuiet_step (fun K hK => ?_)
              refine quiet_val (by rfl) (v := ?_) ?_ (hK _ ?_)
              rotate_left
              · (intro w hSw; go_simp; try with_reducible rfl)
              clear hK K
              simp only [Act.put, List.setIfInBounds_toArray, List.set_cons_zero, List.set_cons_succ]
              refine wpQuiet_step (fun K hK => ?_)
              refine quiet_val (by rfl) (v := ?_) ?_ (hK _ ?_)
              rotate_left
              · (intro w hSw; go_simp; try with_reducible rfl)
              clear hK K
              simp only [Act.put, List.setIfInBounds_toArray, List.set_cons_zero, List.set_cons_succ]
              refine wpQuiet_nil ?_
              intro wz hq
              have BZ : Hid (Below Z w2 wz) := Lib.hid hq
              clear hq
              go_wp2
              go_roundw
              case rel => exact ⟨j + 1, HJ.out, congrArg _ HW.out, BZ.out⟩
              case measure => exact HME.out
    · have hge : ¬ (m0 + 1 + (j : Int) < m0 + 3 * L + 3) := by omega
      have BR := Lib.hid (show Below Z w2 wr from BR.out)
      have K0 : Hid (Calls Try.prog 21 #[.agg (sdV x).toArray, .int .i64 m0] wr fun e1 w' => e1 = .returned (.tuple #[.int .i64 0, .bool false]) ∧ Below Z w2 w') := Lib.hid (by
        have := KEP.out m0 wr (by have := DW.out.m1; have := DW.out.m2; unfold wfI; omega) BR.out
        have e := ep_0 DW.out
        rw [HX.out] at e
        rw [e] at this
        exact this)
      clear KE KEP KOP hlt hj
      go_wp2_with (first
        | (refine wpList_load_midG (by rfl) 53 (.tmp 8) rfl (M + 1) 0 rfl (sdV x) _ (CX _ BR.out) Try.underlying53 rfl (szL sz53 sx.out) ?_)
        | (go_at_call 21; refine K0.out.mono ?_; rintro e1 w3 ⟨rfl, hb⟩; have BE := Lib.hid hb; clear hb)
        | fail)
      go_ret
      exact ⟨rfl, B2.out.trans (BE.out.mono (by have := B2.out.size; rw [HN.out, HZ2.out] at this; exact this))⟩
theorem u8_wf {a : Int} (h : (Lit.int .u8 a).wf = true) : 0 ≤ a ∧ a < 256 := by
  have h : (decide (IntKind.u8.min ≤ a) && decide (a ≤ IntKind.u8.max)) = true := h
  rw [show IntKind.u8.min = 0 by decide, show IntKind.u8.max = 255 by decide] at h
  simp at h
  omega
end Go.Proofs.Ytmcmdpbdipgahaa
