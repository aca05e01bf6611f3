/-
  Joined: R14, R15, R16, RO1.
-/
import Derived.Test.YtmcmdpbdipgahaaJE
import Derived.ProofKit
import Derived.OpenShut
import Derived.Laws.Cover2
import Derived.Deep.Slices
/-
  Epochs and windows: the document's.
-/
namespace Go.Proofs.Ytmcmdpbdipgahaa
open Go.RowKit
set_option maxRecDepth 100000
theorem sz57 : (Try.prog.info? 57).map (·.size) = some 42 := by kernel_rfl
theorem z57 (w : World) : (zeroValue 57).run Try.prog w = .ok (.agg (sdV sm0).toArray) w := by kernel_rfl
theorem fair_no {x : Sm} (h : ¬ ((1 ≤ x.s.a ∧ x.s.a ≤ 64) ∧ (0 ≤ x.s.b ∧ x.s.b ≤ 64) ∧ 0 ≤ x.s.made ∧ x.s.made ≤ 400)) : fairS x = false := by
  cases e : fairS x with
  | false => rfl
  | true => exact absurd (fair_iff.1 e) h
attribute [local irreducible] sdV wpQuiet
set_option maxHeartbeats 4000000 in
theorem dFair (x : Sm) (w : World) : Calls Try.prog 44 #[.agg (sdV x).toArray] w fun e w' => e = .returned (.bool (fairS x)) ∧ Below w.heap.size w w' := by
  obtain ⟨N, hN⟩ : ∃ N, w.heap.size = N := ⟨_, rfl⟩
  have HN := Lib.hid hN
  obtain ⟨v, hv⟩ : ∃ v, w.alloc (Obj.cells (sdV x).toArray 57) = v := ⟨_, rfl⟩
  have RX : Hid (BL v N (sdV x) 57) := Lib.hid (by subst hv hN; exact heap_alloc_last w _)
  have BV : Hid (Below N w v) := Lib.hid (by subst hv hN; exact (Below.refl _ w).alloc (Nat.le_refl _) _)
  have VS : Hid (N ≤ v.heap.size) := Lib.hid (by subst hv hN; simp)
  have sx : Hid ((sdV x).length = 42) := Lib.hid (sd_len x)
  have b0 := sd_c0 RX.out
  have b1 := sd_c1 RX.out
  have b4 := sd_c4 RX.out
  rw [hN]
  by_cases h0 : 1 ≤ x.s.a
  · skip
    by_cases h1 : x.s.a ≤ 64
    · skip
      by_cases h2 : 0 ≤ x.s.b
      · skip
        by_cases h3 : x.s.b ≤ 64
        · skip
          by_cases h4 : 0 ≤ x.s.made
          · skip
            by_cases h5 : x.s.made ≤ 400
            · skip
              rw [show fairS x = true from fair_iff.2 ⟨⟨h0, h1⟩, ⟨h2, h3⟩, h4, h5⟩]
              go_enter Try.func44, Try.ntmps44
              go_upto_region 1 with (fail)
              (try rw [hv])
              go_wp2
              go_ret
              exact ⟨rfl, BV.out⟩
            · skip
              rw [fair_no (fun g => by omega)]
              go_enter Try.func44, Try.ntmps44
              go_upto_region 1 with (fail)
              (try rw [hv])
              go_wp2
              go_ret
              exact ⟨rfl, BV.out⟩
          · skip
            rw [fair_no (fun g => by omega)]
            go_enter Try.func44, Try.ntmps44
            go_upto_region 1 with (fail)
            (try rw [hv])
            go_wp2
            go_ret
            exact ⟨rfl, BV.out⟩
        · skip
          rw [fair_no (fun g => by omega)]
          go_enter Try.func44, Try.ntmps44
          go_upto_region 1 with (fail)
          (try rw [hv])
          go_wp2
          go_ret
          exact ⟨rfl, BV.out⟩
      · skip
        rw [fair_no (fun g => by omega)]
        go_enter Try.func44, Try.ntmps44
        go_upto_region 1 with (fail)
        (try rw [hv])
        go_wp2
        go_ret
        exact ⟨rfl, BV.out⟩
    · skip
      rw [fair_no (fun g => by omega)]
      go_enter Try.func44, Try.ntmps44
      go_upto_region 1 with (fail)
      (try rw [hv])
      go_wp2
      go_ret
      exact ⟨rfl, BV.out⟩
  · skip
    rw [fair_no (fun g => by omega)]
    go_enter Try.func44, Try.ntmps44
    go_upto_region 1 with (fail)
    (try rw [hv])
    go_wp2
    go_ret
    exact ⟨rfl, BV.out⟩
set_option maxHeartbeats 4000000 in
theorem dEpoch (x : Sm) (h : Int) (w : World) (hw : wfI h) : Calls Try.prog 22 #[.agg (sdV x).toArray, .int .i64 h] w fun e w' => e = .returned (.tuple #[.int .i64 (epC x h).1, .bool (epC x h).2]) ∧ Below w.heap.size w w' := by
  obtain ⟨N, hN⟩ : ∃ N, w.heap.size = N := ⟨_, rfl⟩
  have HN := Lib.hid hN
  obtain ⟨v, hv⟩ : ∃ v, w.alloc (Obj.cells (sdV x).toArray 57) = v := ⟨_, rfl⟩
  have RX : Hid (BL v N (sdV x) 57) := Lib.hid (by subst hv hN; exact heap_alloc_last w _)
  have BV : Hid (Below N w v) := Lib.hid (by subst hv hN; exact (Below.refl _ w).alloc (Nat.le_refl _) _)
  have VS : Hid (N ≤ v.heap.size) := Lib.hid (by subst hv hN; simp)
  have sx : Hid ((sdV x).length = 42) := Lib.hid (sd_len x)
  have b0 := sd_c0 RX.out
  have b1 := sd_c1 RX.out
  have b4 := sd_c4 RX.out
  have CC : Hid (Calls Try.prog 44 #[.agg (sdV x).toArray] v fun e w' => e = .returned (.bool (fairS x)) ∧ Below v.heap.size v w') := Lib.hid (dFair x v)
  have FI : Hid (fairS x = true → (1 ≤ x.s.a ∧ x.s.a ≤ 64) ∧ (0 ≤ x.s.b ∧ x.s.b ≤ 64) ∧ 0 ≤ x.s.made ∧ x.s.made ≤ 400) := Lib.hid fair_iff.1
  unfold epC
  obtain ⟨a, ha⟩ : ∃ a, x.s.a = a := ⟨_, rfl⟩
  obtain ⟨m, hm⟩ : ∃ m, x.s.made = m := ⟨_, rfl⟩
  rw [ha] at b0 FI ⊢
  rw [hm] at b4 FI ⊢
  obtain ⟨f, hf⟩ : ∃ f, fairS x = f := ⟨_, rfl⟩
  rw [hf] at CC FI ⊢
  clear ha hm hf b1
  rw [hN]
  by_cases hm : h ≤ m
  · rw [if_neg (by omega)]
    clear FI CC
    go_enter Try.func22, Try.ntmps22
    go_upto_region 1 with (fail)
    (try rw [hv])
    go_wp2_with (first
      | fail)
    go_ret2
    exact ⟨rfl, BV.out⟩
  · cases f with
    | false =>
      rw [if_neg (by simp)]
      clear FI
      go_enter Try.func22, Try.ntmps22
      go_upto_region 1 with (fail)
      (try rw [hv])
      go_wp2_with (first
        | (refine wpList_load_midG (by rfl) 57 (.tmp 2) rfl N 0 rfl (sdV x) _ (range_of RX.out) Try.underlying57 rfl (szL sz57 sx.out) ?_)
        | (go_at_call 44; refine CC.out.mono ?_; rintro e1 w1 ⟨rfl, hb⟩; have B1 := Lib.hid hb; have c4 := (World.cell?_of_block (hb.block N (by have := bl_lt RX.out; exact this))).trans b4; have c0 := (World.cell?_of_block (hb.block N (by have := bl_lt RX.out; exact this))).trans b0; clear hb)
        | fail)
      go_ret2
      exact ⟨rfl, BV.out.trans (B1.out.mono VS.out)⟩
    | true =>
      obtain ⟨⟨a1, a2⟩, _, m1, m2⟩ := FI.out rfl
      rw [if_pos ⟨rfl, by omega⟩]
      have w1 : wrap64 (h - m) = h - m := by unfold wfI at hw; unfold wrap64; omega
      have w2 : wrap64 (h - m - 1) = h - m - 1 := by unfold wfI at hw; unfold wrap64; omega
      have w3 : wrap64 ((h - m - 1).tdiv a) = (h - m - 1).tdiv a := by
        have g := tdiv_bnd (n := h - m - 1) (a := a) (by omega) a1
        generalize (h - m - 1).tdiv a = z at *
        unfold wfI at hw; unfold wrap64; omega
      have a0 : a ≠ 0 := by omega
      have am : a ≠ -1 := by omega
      clear FI
      go_enter Try.func22, Try.ntmps22
      go_upto_region 1 with (fail)
      (try rw [hv])
      go_wp2_with (first
        | (refine wpList_load_midG (by rfl) 57 (.tmp 2) rfl N 0 rfl (sdV x) _ (range_of RX.out) Try.underlying57 rfl (szL sz57 sx.out) ?_)
        | (go_at_call 44; refine CC.out.mono ?_; rintro e1 w1 ⟨rfl, hb⟩; have B1 := Lib.hid hb; have c4 := (World.cell?_of_block (hb.block N (by have := bl_lt RX.out; exact this))).trans b4; have c0 := (World.cell?_of_block (hb.block N (by have := bl_lt RX.out; exact this))).trans b0; clear hb)
        | fail)
      go_ret2
      exact ⟨congrArg (fun z => Ending.returned (.tuple #[.int .i64 z, .bool true])) w3, BV.out.trans (B1.out.mono VS.out)⟩
set_option maxHeartbeats 4000000 in
theorem dEnds (x : Sm) (e : Int) (w : World) : Calls Try.prog 24 #[.agg (sdV x).toArray, .int .i64 e] w fun e1 w' => e1 = .returned (.int .i64 (endC x e)) ∧ Below w.heap.size w w' := by
  obtain ⟨N, hN⟩ : ∃ N, w.heap.size = N := ⟨_, rfl⟩
  have HN := Lib.hid hN
  obtain ⟨v, hv⟩ : ∃ v, w.alloc (Obj.cells (sdV x).toArray 57) = v := ⟨_, rfl⟩
  have RX : Hid (BL v N (sdV x) 57) := Lib.hid (by subst hv hN; exact heap_alloc_last w _)
  have BV : Hid (Below N w v) := Lib.hid (by subst hv hN; exact (Below.refl _ w).alloc (Nat.le_refl _) _)
  have VS : Hid (N ≤ v.heap.size) := Lib.hid (by subst hv hN; simp)
  have sx : Hid ((sdV x).length = 42) := Lib.hid (sd_len x)
  have b0 := sd_c0 RX.out
  have b1 := sd_c1 RX.out
  have b4 := sd_c4 RX.out
  have CC : Hid (Calls Try.prog 44 #[.agg (sdV x).toArray] v fun e w' => e = .returned (.bool (fairS x)) ∧ Below v.heap.size v w') := Lib.hid (dFair x v)
  have FI : Hid (fairS x = true → (1 ≤ x.s.a ∧ x.s.a ≤ 64) ∧ (0 ≤ x.s.b ∧ x.s.b ≤ 64) ∧ 0 ≤ x.s.made ∧ x.s.made ≤ 400) := Lib.hid fair_iff.1
  unfold endC
  obtain ⟨a, ha⟩ : ∃ a, x.s.a = a := ⟨_, rfl⟩
  obtain ⟨m, hm⟩ : ∃ m, x.s.made = m := ⟨_, rfl⟩
  rw [ha] at b0 FI ⊢
  rw [hm] at b4 FI ⊢
  obtain ⟨f, hf⟩ : ∃ f, fairS x = f := ⟨_, rfl⟩
  rw [hf] at CC FI ⊢
  clear ha hm hf b1
  rw [hN]
  by_cases g0 : e < 0
  · rw [if_neg (by omega)]
    clear FI CC
    go_enter Try.func24, Try.ntmps24
    go_upto_region 1 with (fail)
    (try rw [hv])
    go_wp2_with (first
      | fail)
    go_ret
    exact ⟨rfl, BV.out⟩
  · by_cases g4 : 400 < e
    · rw [if_neg (by omega)]
      clear FI CC
      go_enter Try.func24, Try.ntmps24
      go_upto_region 1 with (fail)
      (try rw [hv])
      go_wp2_with (first
        | fail)
      go_ret
      exact ⟨rfl, BV.out⟩
    · cases f with
      | false =>
        rw [if_neg (by simp)]
        clear FI
        go_enter Try.func24, Try.ntmps24
        go_upto_region 1 with (fail)
        (try rw [hv])
        go_wp2_with (first
          | (refine wpList_load_midG (by rfl) 57 (.tmp 2) rfl N 0 rfl (sdV x) _ (range_of RX.out) Try.underlying57 rfl (szL sz57 sx.out) ?_)
          | (go_at_call 44; refine CC.out.mono ?_; rintro e1 w1 ⟨rfl, hb⟩; have B1 := Lib.hid hb; have c4 := (World.cell?_of_block (hb.block N (by have := bl_lt RX.out; exact this))).trans b4; have c0 := (World.cell?_of_block (hb.block N (by have := bl_lt RX.out; exact this))).trans b0; clear hb)
          | fail)
        go_ret
        exact ⟨rfl, BV.out.trans (B1.out.mono VS.out)⟩
      | true =>
        obtain ⟨⟨a1, a2⟩, _, m1, m2⟩ := FI.out rfl
        rw [if_pos ⟨rfl, by omega, by omega⟩]
        have g := mul_bnd (show 0 ≤ e by omega) (show e ≤ 400 by omega) a1 a2
        have w1 : wrap64 (e + 1) = e + 1 := by unfold wrap64; omega
        obtain ⟨z, hz⟩ : ∃ z, (e + 1) * a = z := ⟨_, rfl⟩
        rw [hz] at g ⊢
        have w2 : wrap64 ((e + 1) * a) = z := by rw [hz]; unfold wrap64; omega
        have w3 : wrap64 (m + z) = m + z := by unfold wrap64; omega
        clear hz FI g
        go_enter Try.func24, Try.ntmps24
        go_upto_region 1 with (fail)
        (try rw [hv])
        go_wp2_with (first
          | (refine wpList_load_midG (by rfl) 57 (.tmp 2) rfl N 0 rfl (sdV x) _ (range_of RX.out) Try.underlying57 rfl (szL sz57 sx.out) ?_)
          | (go_at_call 44; refine CC.out.mono ?_; rintro e1 w1 ⟨rfl, hb⟩; have B1 := Lib.hid hb; have c4 := (World.cell?_of_block (hb.block N (by have := bl_lt RX.out; exact this))).trans b4; have c0 := (World.cell?_of_block (hb.block N (by have := bl_lt RX.out; exact this))).trans b0; clear hb)
          | fail)
        go_ret
        exact ⟨congrArg (fun z => Ending.returned (.int .i64 z)) w3, BV.out.trans (B1.out.mono VS.out)⟩
set_option maxHeartbeats 4000000 in
theorem dOpen (x : Sm) (e h : Int) (w : World) : Calls Try.prog 26 #[.agg (sdV x).toArray, .int .i64 e, .int .i64 h] w fun e1 w' => e1 = .returned (.bool (openC x e h)) ∧ Below w.heap.size w w' := by
  obtain ⟨N, hN⟩ : ∃ N, w.heap.size = N := ⟨_, rfl⟩
  have HN := Lib.hid hN
  obtain ⟨v, hv⟩ : ∃ v, w.alloc (Obj.cells (sdV x).toArray 57) = v := ⟨_, rfl⟩
  have RX : Hid (BL v N (sdV x) 57) := Lib.hid (by subst hv hN; exact heap_alloc_last w _)
  have BV : Hid (Below N w v) := Lib.hid (by subst hv hN; exact (Below.refl _ w).alloc (Nat.le_refl _) _)
  have VS : Hid (N ≤ v.heap.size) := Lib.hid (by subst hv hN; simp)
  have sx : Hid ((sdV x).length = 42) := Lib.hid (sd_len x)
  have b0 := sd_c0 RX.out
  have b1 := sd_c1 RX.out
  have b4 := sd_c4 RX.out
  have CC : Hid (Calls Try.prog 44 #[.agg (sdV x).toArray] v fun e w' => e = .returned (.bool (fairS x)) ∧ Below v.heap.size v w') := Lib.hid (dFair x v)
  have EB := end_bnd (x := x) (e := e)
  have CE0 : Hid (∀ W, Calls Try.prog 24 #[.agg (sdV x).toArray, .int .i64 e] W fun e1 w' => e1 = .returned (.int .i64 (endC x e)) ∧ Below W.heap.size W w') := Lib.hid fun W => dEnds x e W
  unfold openC
  obtain ⟨f, hf⟩ : ∃ f, fairS x = f := ⟨_, rfl⟩
  rw [hf] at CC EB ⊢
  clear hf
  rw [hN]
  by_cases g0 : e < 0
  · rw [decide_eq_false (fun g => by omega)]
    clear EB CC CE0
    go_enter Try.func26, Try.ntmps26
    go_upto_region 1 with (fail)
    (try rw [hv])
    go_wp2_with (first
      | fail)
    go_ret
    exact ⟨rfl, BV.out⟩
  · by_cases g4 : 400 < e
    · rw [decide_eq_false (fun g => by omega)]
      clear EB CC CE0
      go_enter Try.func26, Try.ntmps26
      go_upto_region 1 with (fail)
      (try rw [hv])
      go_wp2_with (first
        | fail)
      go_ret
      exact ⟨rfl, BV.out⟩
    · cases f with
      | false =>
        rw [decide_eq_false (fun g => by cases g.1)]
        clear EB CE0
        go_enter Try.func26, Try.ntmps26
        go_upto_region 1 with (fail)
        (try rw [hv])
        go_wp2_with (first
          | (refine wpList_load_midG (by rfl) 57 (.tmp 3) rfl N 0 rfl (sdV x) _ (range_of RX.out) Try.underlying57 rfl (szL sz57 sx.out) ?_)
          | (go_at_call 44; refine CC.out.mono ?_; rintro e1 w1 ⟨rfl, hb⟩; have B1 := Lib.hid hb; have c4 := (World.cell?_of_block (hb.block N (by have := bl_lt RX.out; exact this))).trans b4; have c0 := (World.cell?_of_block (hb.block N (by have := bl_lt RX.out; exact this))).trans b0; clear hb)
          | fail)
        go_ret
        exact ⟨rfl, BV.out.trans (B1.out.mono VS.out)⟩
      | true =>
        obtain ⟨z, hz⟩ : ∃ z, endC x e = z := ⟨_, rfl⟩
        rw [hz] at CE0 EB ⊢
        obtain ⟨hp, z1, z2, n1, n2⟩ := EB.resolve_left (fun g => g.2 ⟨rfl, by omega, by omega⟩)
        obtain ⟨n, hn⟩ : ∃ n, x.s.b = n := ⟨_, rfl⟩
        rw [hn] at n1 n2 b1 ⊢
        obtain ⟨zz, hzz⟩ : ∃ zz, z + n = zz := ⟨_, rfl⟩
        have zn : wrap64 (z + n) = zz := by rw [← hzz]; unfold wrap64; omega
        have zni : IntKind.i64.wrap (z + n) = zz := by rw [IntKind.wrap_i64, ← hzz]; omega
        rw [hzz]
        obtain ⟨ob, hob⟩ : ∃ ob, decide (true = true ∧ 0 ≤ e ∧ e ≤ 400 ∧ z < h ∧ h ≤ zz) = ob := ⟨_, rfl⟩
        rw [hob]
        have HOB := Lib.hid hob
        clear hob
        go_enter Try.func26, Try.ntmps26
        go_upto_region 1 with (fail)
        (try rw [hv])
        go_upto_region 3 with (first
          | (refine wpList_load_midG (by rfl) 57 (.tmp 3) rfl N 0 rfl (sdV x) _ (range_of RX.out) Try.underlying57 rfl (szL sz57 sx.out) ?_)
          | (go_at_call 44; refine CC.out.mono ?_; rintro e1 w1 ⟨rfl, hb⟩; have B1 := Lib.hid hb; have c4 := (World.cell?_of_block (hb.block N (by have := bl_lt RX.out; exact this))).trans b4; have c0 := (World.cell?_of_block (hb.block N (by have := bl_lt RX.out; exact this))).trans b0; clear hb)
          | fail)
        obtain ⟨Z, hZ⟩ : ∃ Z, w1.heap.size = Z := ⟨_, rfl⟩
        have B1w : Hid (Below N w w1) := Lib.hid (BV.out.trans (B1.out.mono VS.out))
        have R1 : Hid (BL w1 N (sdV x) 57) := Lib.hid (bl_keep RX.out (B1.out.block N (bl_lt RX.out)))
        have NZ : Hid (N < Z) := Lib.hid (by rw [← hZ]; exact bl_lt R1.out)
        have CX : ∀ W, Below Z w1 W → W.rangeAt N 0 (sdV x) := fun W hb => range_keep1 (range_of R1.out) (hb.block N NZ.out)
        have CB : ∀ W, Below Z w1 W → W.cell? ⟨N, 1, none⟩ = some (.int .i64 n) := fun W hb => by
          have := (World.cell?_of_block (w := w1) (a := ⟨N, 1, none⟩) (hb.block N NZ.out)).trans (sd_c1 R1.out)
          rwa [hn] at this
        have KE : Hid (∀ W, Below Z w1 W → Calls Try.prog 24 #[.agg (sdV x).toArray, .int .i64 e] W fun e1 w' => e1 = .returned (.int .i64 z) ∧ Below Z w1 w') := Lib.hid fun W hb => (CE0.out W).mono fun e1 w' g => ⟨g.1, hb.trans (g.2.mono (by have := hb.size; rw [hZ] at this; exact this))⟩
        have BW : Hid (∀ W, Below Z w1 W → Below N w W) := Lib.hid fun W hb => B1w.out.trans (hb.mono (Nat.le_of_lt NZ.out))
        by_cases hg : z < h
        · have dG : decide (z < h) = true := decide_eq_true hg
          obtain ⟨q, dL⟩ : ∃ q, decide (h ≤ zz) = q := ⟨_, rfl⟩
          have hqq : ob = q := by
            rw [← dL, ← HOB.out]
            exact decide_eq_decide.2 ⟨fun g => g.2.2.2.2, fun g => ⟨by first | rfl | trivial, by omega, by omega, hg, g⟩⟩
          subst hqq
          clear HOB hg hp hzz hz z1 z2 n1 n2 CE0 hZ g0 g4 c0 c4 b0 b1 b4
          refine wp_region_class (C := fun W => Below Z w1 W) (by kernel_rfl) (by kernel_rfl) ((Below.refl Z w1).drew) ?_
          refine wpQuiet_step (fun K hK => ?_)
          refine quiet_val (by rfl) (v := ?_) ?_ (hK _ ?_)
          rotate_left
          · (intro w hSw; go_simp; try with_reducible rfl)
          clear hK K
          simp only [Act.put, List.setIfInBounds_toArray, List.set_cons_zero, List.set_cons_succ]
          refine wpQuiet_step (fun K hK => ?_)
          refine quiet_load (by rfl) 57 (.tmp 3) rfl N (0) rfl (sdV x) _ (fun w h => CX w h) Try.underlying57 rfl (szL sz57 sx.out) (hK _ ?_)
          clear hK K
          simp only [Act.put, List.setIfInBounds_toArray, List.set_cons_zero, List.set_cons_succ]
          refine wpQuiet_step (fun K hK => ?_)
          refine quiet_val (by rfl) (v := ?_) ?_ (hK _ ?_)
          rotate_left
          · (intro w hSw; go_simp; try with_reducible rfl)
          clear hK K
          simp only [Act.put, List.setIfInBounds_toArray, List.set_cons_zero, List.set_cons_succ]
          refine wpQuiet_step (fun K hK => ?_)
          refine quiet_call (by rfl) 24 #[.agg (sdV x).toArray, .int .i64 e] ?_ (fun w hw => KE.out w hw) (hK _ ?_)
          · (intro w hSw; go_simp; try with_reducible rfl)
          clear hK K
          simp only [Act.put, List.setIfInBounds_toArray, List.set_cons_zero, List.set_cons_succ]
          refine wpQuiet_step (fun K hK => ?_)
          refine quiet_val (by rfl) (v := .bool true) (fun w hSw => ?_) (hK _ ?_)
          · (go_simp; first | done | (rw [dG]; done) | (simp only [dG]; done) | (simp only [dG]; rfl))
          clear hK K
          simp only [Act.put, List.setIfInBounds_toArray, List.set_cons_zero, List.set_cons_succ]
          refine wpQuiet_step (fun K hK => ?_)
          refine quiet_val (by rfl) (v := ?_) ?_ (hK _ ?_)
          rotate_left
          · (intro w hSw; go_simp; try with_reducible rfl)
          clear hK K
          simp only [Act.put, List.setIfInBounds_toArray, List.set_cons_zero, List.set_cons_succ]
          refine wpQuiet_step (fun K hK => ?_)
          refine quiet_val (by rfl) (v := ?_) ?_ (hK _ ?_)
          rotate_left
          · (intro w hSw; go_simp; try with_reducible rfl)
          clear hK K
          simp only [Act.put, List.setIfInBounds_toArray, List.set_cons_zero, List.set_cons_succ]
          refine wpQuiet_step (fun K hK => ?_)
          refine quiet_load (by rfl) 57 (.tmp 3) rfl N (0) rfl (sdV x) _ (fun w h => CX w h) Try.underlying57 rfl (szL sz57 sx.out) (hK _ ?_)
          clear hK K
          simp only [Act.put, List.setIfInBounds_toArray, List.set_cons_zero, List.set_cons_succ]
          refine wpQuiet_step (fun K hK => ?_)
          refine quiet_val (by rfl) (v := ?_) ?_ (hK _ ?_)
          rotate_left
          · (intro w hSw; go_simp; try with_reducible rfl)
          clear hK K
          simp only [Act.put, List.setIfInBounds_toArray, List.set_cons_zero, List.set_cons_succ]
          refine wpQuiet_step (fun K hK => ?_)
          refine quiet_call (by rfl) 24 #[.agg (sdV x).toArray, .int .i64 e] ?_ (fun w hw => KE.out w hw) (hK _ ?_)
          · (intro w hSw; go_simp; try with_reducible rfl)
          clear hK K
          simp only [Act.put, List.setIfInBounds_toArray, List.set_cons_zero, List.set_cons_succ]
          refine wpQuiet_step (fun K hK => ?_)
          refine quiet_val (by rfl) (v := ?_) ?_ (hK _ ?_)
          rotate_left
          · (intro w hSw; go_simp; try with_reducible rfl)
          clear hK K
          simp only [Act.put, List.setIfInBounds_toArray, List.set_cons_zero, List.set_cons_succ]
          refine wpQuiet_step (fun K hK => ?_)
          refine quiet_val (by rfl) (v := ?_) ?_ (hK _ ?_)
          rotate_left
          · (intro w hSw; go_simp; try with_reducible rfl)
          clear hK K
          simp only [Act.put, List.setIfInBounds_toArray, List.set_cons_zero, List.set_cons_succ]
          refine wpQuiet_step (fun K hK => ?_)
          refine quiet_val (by rfl) (v := ?_) ?_ (hK _ ?_)
          rotate_left
          · (intro w hSw; have z := CB w hSw; go_simp; try with_reducible rfl)
          clear hK K
          simp only [Act.put, List.setIfInBounds_toArray, List.set_cons_zero, List.set_cons_succ]
          refine wpQuiet_step (fun K hK => ?_)
          refine quiet_val (by rfl) (v := .int .i64 zz) (fun w hSw => ?_) (hK _ ?_)
          · (go_simp; first | done | exact zni | (rw [zni]; done) | (rw [zn]; done))
          clear hK K
          simp only [Act.put, List.setIfInBounds_toArray, List.set_cons_zero, List.set_cons_succ]
          refine wpQuiet_step (fun K hK => ?_)
          refine quiet_val (by rfl) (v := .bool ob) (fun w hSw => ?_) (hK _ ?_)
          · (go_simp; first | done | (rw [dL]; done) | (simp only [dL]; done) | (simp only [dL]; rfl))
          clear hK K
          simp only [Act.put, List.setIfInBounds_toArray, List.set_cons_zero, List.set_cons_succ]
          refine wpQuiet_step (fun K hK => ?_)
          refine quiet_val (by rfl) (v := ?_) ?_ (hK _ ?_)
          rotate_left
          · (intro w hSw; go_simp; try with_reducible rfl)
          clear hK K
          simp only [Act.put, List.setIfInBounds_toArray, List.set_cons_zero, List.set_cons_succ]
          refine wpQuiet_step (fun K hK => ?_)
          refine quiet_val (by rfl) (v := ?_) ?_ (hK _ ?_)
          rotate_left
          · (intro w hSw; go_simp; try with_reducible rfl)
          clear hK K
          simp only [Act.put, List.setIfInBounds_toArray, List.set_cons_zero, List.set_cons_succ]
          refine wpQuiet_nil ?_
          intro wq hq
          have BQ : Hid (Below Z w1 wq) := Lib.hid hq
          clear hq
          go_wp2
          go_ret
          exact ⟨rfl, BW.out _ BQ.out⟩
        · have dG : decide (z < h) = false := decide_eq_false hg
          have hqq : ob = false := by rw [← HOB.out]; exact decide_eq_false (fun g => hg g.2.2.2.1)
          subst hqq
          clear HOB hg hp hzz hz z1 z2 n1 n2 CE0 hZ g0 g4 c0 c4 b0 b1 b4
          refine wp_region_class (C := fun W => Below Z w1 W) (by kernel_rfl) (by kernel_rfl) ((Below.refl Z w1).drew) ?_
          refine wpQuiet_step (fun K hK => ?_)
          refine quiet_val (by rfl) (v := ?_) ?_ (hK _ ?_)
          rotate_left
          · (intro w hSw; go_simp; try with_reducible rfl)
          clear hK K
          simp only [Act.put, List.setIfInBounds_toArray, List.set_cons_zero, List.set_cons_succ]
          refine wpQuiet_step (fun K hK => ?_)
          refine quiet_load (by rfl) 57 (.tmp 3) rfl N (0) rfl (sdV x) _ (fun w h => CX w h) Try.underlying57 rfl (szL sz57 sx.out) (hK _ ?_)
          clear hK K
          simp only [Act.put, List.setIfInBounds_toArray, List.set_cons_zero, List.set_cons_succ]
          refine wpQuiet_step (fun K hK => ?_)
          refine quiet_val (by rfl) (v := ?_) ?_ (hK _ ?_)
          rotate_left
          · (intro w hSw; go_simp; try with_reducible rfl)
          clear hK K
          simp only [Act.put, List.setIfInBounds_toArray, List.set_cons_zero, List.set_cons_succ]
          refine wpQuiet_step (fun K hK => ?_)
          refine quiet_call (by rfl) 24 #[.agg (sdV x).toArray, .int .i64 e] ?_ (fun w hw => KE.out w hw) (hK _ ?_)
          · (intro w hSw; go_simp; try with_reducible rfl)
          clear hK K
          simp only [Act.put, List.setIfInBounds_toArray, List.set_cons_zero, List.set_cons_succ]
          refine wpQuiet_step (fun K hK => ?_)
          refine quiet_val (by rfl) (v := .bool false) (fun w hSw => ?_) (hK _ ?_)
          · (go_simp; first | done | (rw [dG]; done) | (simp only [dG]; done) | (simp only [dG]; rfl))
          clear hK K
          simp only [Act.put, List.setIfInBounds_toArray, List.set_cons_zero, List.set_cons_succ]
          refine wpQuiet_step (fun K hK => ?_)
          refine quiet_val (by rfl) (v := ?_) ?_ (hK _ ?_)
          rotate_left
          · (intro w hSw; go_simp; try with_reducible rfl)
          clear hK K
          simp only [Act.put, List.setIfInBounds_toArray, List.set_cons_zero, List.set_cons_succ]
          refine wpQuiet_step (fun K hK => ?_)
          refine quiet_skip (by kernel_rfl) (hK _ ?_)
          clear hK K
          simp only [Act.put, List.setIfInBounds_toArray, List.set_cons_zero, List.set_cons_succ]
          refine wpQuiet_step (fun K hK => ?_)
          refine quiet_skip (by kernel_rfl) (hK _ ?_)
          clear hK K
          simp only [Act.put, List.setIfInBounds_toArray, List.set_cons_zero, List.set_cons_succ]
          refine wpQuiet_step (fun K hK => ?_)
          refine quiet_skip (by kernel_rfl) (hK _ ?_)
          clear hK K
          simp only [Act.put, List.setIfInBounds_toArray, List.set_cons_zero, List.set_cons_succ]
          refine wpQuiet_step (fun K hK => ?_)
          refine quiet_skip (by kernel_rfl) (hK _ ?_)
          clear hK K
          simp only [Act.put, List.setIfInBounds_toArray, List.set_cons_zero, List.set_cons_succ]
          refine wpQuiet_step (fun K hK => ?_)
          refine quiet_skip (by kernel_rfl) (hK _ ?_)
          clear hK K
          simp only [Act.put, List.setIfInBounds_toArray, List.set_cons_zero, List.set_cons_succ]
          refine wpQuiet_step (fun K hK => ?_)
          refine quiet_skip (by kernel_rfl) (hK _ ?_)
          clear hK K
          simp only [Act.put, List.setIfInBounds_toArray, List.set_cons_zero, List.set_cons_succ]
          refine wpQuiet_step (fun K hK => ?_)
          refine quiet_skip (by kernel_rfl) (hK _ ?_)
          clear hK K
          simp only [Act.put, List.setIfInBounds_toArray, List.set_cons_zero, List.set_cons_succ]
          refine wpQuiet_step (fun K hK => ?_)
          refine quiet_skip (by kernel_rfl) (hK _ ?_)
          clear hK K
          simp only [Act.put, List.setIfInBounds_toArray, List.set_cons_zero, List.set_cons_succ]
          refine wpQuiet_step (fun K hK => ?_)
          refine quiet_skip (by kernel_rfl) (hK _ ?_)
          clear hK K
          simp only [Act.put, List.setIfInBounds_toArray, List.set_cons_zero, List.set_cons_succ]
          refine wpQuiet_step (fun K hK => ?_)
          refine quiet_val (by rfl) (v := ?_) ?_ (hK _ ?_)
          rotate_left
          · (intro w hSw; go_simp; try with_reducible rfl)
          clear hK K
          simp only [Act.put, List.setIfInBounds_toArray, List.set_cons_zero, List.set_cons_succ]
          refine wpQuiet_step (fun K hK => ?_)
          refine quiet_val (by rfl) (v := ?_) ?_ (hK _ ?_)
          rotate_left
          · (intro w hSw; go_simp; try with_reducible rfl)
          clear hK K
          simp only [Act.put, List.setIfInBounds_toArray, List.set_cons_zero, List.set_cons_succ]
          refine wpQuiet_nil ?_
          intro wq hq
          have BQ : Hid (Below Z w1 wq) := Lib.hid hq
          clear hq
          go_wp2
          go_ret
          exact ⟨rfl, BW.out _ BQ.out⟩
end Go.Proofs.Ytmcmdpbdipgahaa

/-
  RegistryTimes: Side, the walk.
-/
namespace Go.Proofs.Ytmcmdpbdipgahaa
open Go.RowKit
set_option maxRecDepth 100000
def hz8 : List Value := List.replicate 8 (.int .u8 0)
def ctz : List Value := [.int .i64 0, .int .i64 0, .int .i64 0] ++ hz8 ++ hz8 ++ [.slice none 0 0, .slice none 0 0]
theorem sd_sub {w : World} {b : Nat} {x : Sm} {T : TypeId} (h : BL w b (sdV x) T) (o n : Nat) (cs : List Value) (e : List.take n (List.drop o (sdV x)) = cs) : w.rangeAt b o cs := by
  have hr := range_of h
  intro i v hv
  rw [← e] at hv
  rw [List.getElem?_take] at hv
  split at hv
  · rw [List.getElem?_drop] at hv
    have := hr (o + i) v hv
    rwa [Nat.zero_add] at this
  · cases hv
theorem bS (L W m : Int) (w : World) : (Instr.build 53 #[(0, .agg #[.int .i64 L, .int .i64 W, .int .i64 0, .slice none 0 0]), (1, .int .i64 m), (2, .int .i64 0), (3, .int .i64 0), (4, .int .i64 0), (5, .int .i64 0), (6, .bool false), (7, .int .i64 0), (8, .agg hz8.toArray), (9, .bool false), (10, .agg ctz.toArray), (11, .slice none 0 0)]).run Try.prog w = .ok (.agg (sdV (smW L W m)).toArray) w := by kernel_rfl
theorem apN (w : World) (ty : TypeId) : (Builtin.append_ #[51, 51] ty #[.slice none 0 0, .slice none 0 0]).run Try.prog w = .ok (.slice none 0 0) w := by kernel_rfl
theorem szP38 : (Try.prog.info? 38).map (·.size) = some 4 := by kernel_rfl
theorem szH8 : (Try.prog.info? 31).map (·.size) = some hz8.length := by kernel_rfl
theorem szC50 : (Try.prog.info? 50).map (·.size) = some ctz.length := by kernel_rfl
theorem sw_cells {w : World} {b : Nat} {L W m : Int} {T : TypeId} (h : BL w b (sdV (smW L W m)) T) :
    w.rangeAt b 0 [.int .i64 L, .int .i64 W, .int .i64 0, .slice none 0 0] ∧ w.cell? ⟨b, 4, none⟩ = some (.int .i64 m) ∧ w.cell? ⟨b, 5, none⟩ = some (.int .i64 0) ∧ w.cell? ⟨b, 6, none⟩ = some (.int .i64 0) ∧ w.cell? ⟨b, 7, none⟩ = some (.int .i64 0) ∧ w.cell? ⟨b, 8, none⟩ = some (.int .i64 0) ∧
    w.cell? ⟨b, 9, none⟩ = some (.bool false) ∧ w.cell? ⟨b, 10, none⟩ = some (.int .i64 0) ∧ w.rangeAt b 11 hz8 ∧ w.cell? ⟨b, 19, none⟩ = some (.bool false) ∧ w.rangeAt b 20 ctz ∧ w.cell? ⟨b, 41, none⟩ = some (.slice none 0 0) :=
  ⟨sd_sub h 0 4 _ rfl, sd_at h (i := 4) rfl, sd_at h (i := 5) rfl, sd_at h (i := 6) rfl, sd_at h (i := 7) rfl, sd_at h (i := 8) rfl, sd_at h (i := 9) rfl, sd_at h (i := 10) rfl, sd_sub h 11 8 _ rfl, sd_at h (i := 19) rfl, sd_sub h 20 21 _ rfl, sd_at h (i := 41) rfl⟩
theorem run_bldN {P : Program} {a : Act} {o : Oper} {T : TypeId} {L : Array (Nat × Operand)} {M : Array (Nat × Value)} {v : Value} {w : World} (ho : o.op = .build T L) (hm : L.map (fun p => (p.1, a.eval p.2)) = M) (hr : (Instr.build T M).run P w = .ok v w) : (execOp a.eval o).run P w = .ok (.value v) w := by
  unfold execOp
  simp only [ho, hm, Sem.run_bind, hr, Result.andThen_ok]
  rfl
attribute [local irreducible] sdV smW hz8 ctz wpQuiet
set_option maxHeartbeats 4000000 in
theorem lSide (L W m : Int) (w : World) : Calls Try.prog 20 #[.agg (sdV (smW L W m)).toArray] w fun e w' => e = .returned (.agg (sdV (smW L W m)).toArray) ∧ Below w.heap.size w w' := by
  obtain ⟨N, hN⟩ : ∃ N, w.heap.size = N := ⟨_, rfl⟩
  have HN := Lib.hid hN
  have BSL := bS L W m
  have CEL := fun (W' : World) (h : BL W' N (sdV (smW L W m)) 57) => sw_cells h
  obtain ⟨x, hx⟩ : ∃ x, smW L W m = x := ⟨_, rfl⟩
  rw [hx] at BSL CEL ⊢
  clear hx
  obtain ⟨v, hv⟩ : ∃ v, (w.alloc (Obj.cells (sdV x).toArray 57)).alloc (Obj.cells (sdV sm0).toArray 53) = v := ⟨_, rfl⟩
  have RX : Hid (BL v N (sdV x) 57) := Lib.hid (by subst hv hN; exact bl_keep (heap_alloc_last w _) (Below.heap_alloc _ _ _ (by simp)))
  have RY : Hid (BL v (N + 1) (sdV sm0) 53) := Lib.hid (by
    subst hv hN
    have := heap_alloc_last (w.alloc (Obj.cells (sdV x).toArray 57)) (Obj.cells (sdV sm0).toArray 53)
    rw [World.size_alloc] at this
    exact this)
  have BV : Hid (Below N w v) := Lib.hid (by subst hv hN; exact ((Below.refl _ w).alloc (Nat.le_refl _) _).alloc (by simp) _)
  have VS : Hid (v.heap.size = N + 2) := Lib.hid (by subst hv hN; show _ = _; rw [World.size_alloc, World.size_alloc])
  have sx : Hid ((sdV x).length = 42) := Lib.hid (sd_len x)
  have s0 : Hid ((sdV sm0).length = 42) := Lib.hid (sd_len sm0)
  have hz : ∀ w, (zeroValue 53).run Try.prog w = .ok (.agg (sdV sm0).toArray) w := z53
  have CF : ∀ W', Below v.heap.size v W' → _ := fun W' hb => CEL W' (bl_keep RX.out (hb.block N (by have := VS.out; omega)))
  rw [hN]
  go_enter Try.func20, Try.ntmps20
  go_upto_region 1 with (fail)
  (try rw [hv])
  clear hv hz
  refine wp_region_end 26 (S := fun w' => Below v.heap.size v w') (by kernel_rfl) (by kernel_rfl) (Below.refl _ v).drew (fun hHeld => ?_)
  refine wpAnyH_take (i := 0) (v := ?_) rfl (by kernel_rfl) (by kernel_rfl) (by kernel_rfl) (fun _ _ _ h => h) (Or.inl ⟨by rfl, ?_⟩) (by assumption) ?_
  rotate_left
  · (intro w hSw; (try dsimp only at hSw); go_simp; try with_reducible rfl)
  simp only [Act.put, List.getElem_toArray, List.getElem_cons_zero, List.setIfInBounds_toArray, List.set_cons_zero, List.set_cons_succ]
  refine wpAnyH_take (i := 1) rfl (by kernel_rfl) (by kernel_rfl) (by kernel_rfl) (fun _ _ _ h => h) (yieldsIf_load_mid (by rfl) 38 (.tmp 3) rfl N (0) rfl ([.int .i64 L, .int .i64 W, .int .i64 0, .slice none 0 0]) _ (fun w h => (CF w h).1) Try.underlying38 rfl szP38) (by assumption) ?_
  simp only [Act.put, List.getElem_toArray, List.getElem_cons_succ, List.getElem_cons_zero, List.setIfInBounds_toArray, List.set_cons_zero, List.set_cons_succ]
  refine wpAnyH_take (i := 2) (v := ?_) rfl (by kernel_rfl) (by kernel_rfl) (by kernel_rfl) (fun _ _ _ h => h) (Or.inl ⟨by rfl, ?_⟩) (by assumption) ?_
  rotate_left
  · (intro w hSw; (try dsimp only at hSw); go_simp; try with_reducible rfl)
  simp only [Act.put, List.getElem_toArray, List.getElem_cons_succ, List.getElem_cons_zero, List.setIfInBounds_toArray, List.set_cons_zero, List.set_cons_succ]
  refine wpAnyH_take (i := 3) (v := ?_) rfl (by kernel_rfl) (by kernel_rfl) (by kernel_rfl) (fun _ _ _ h => h) (Or.inl ⟨by rfl, ?_⟩) (by assumption) ?_
  rotate_left
  · (intro w hSw; (try dsimp only at hSw); have c4 := (CF w hSw).2.1; go_simp; try with_reducible rfl)
  simp only [Act.put, List.getElem_toArray, List.getElem_cons_succ, List.getElem_cons_zero, List.setIfInBounds_toArray, List.set_cons_zero, List.set_cons_succ]
  refine wpAnyH_take (i := 4) (v := ?_) rfl (by kernel_rfl) (by kernel_rfl) (by kernel_rfl) (fun _ _ _ h => h) (Or.inl ⟨by rfl, ?_⟩) (by assumption) ?_
  rotate_left
  · (intro w hSw; (try dsimp only at hSw); go_simp; try with_reducible rfl)
  simp only [Act.put, List.getElem_toArray, List.getElem_cons_succ, List.getElem_cons_zero, List.setIfInBounds_toArray, List.set_cons_zero, List.set_cons_succ]
  refine wpAnyH_take (i := 5) (v := ?_) rfl (by kernel_rfl) (by kernel_rfl) (by kernel_rfl) (fun _ _ _ h => h) (Or.inl ⟨by rfl, ?_⟩) (by assumption) ?_
  rotate_left
  · (intro w hSw; (try dsimp only at hSw); have c5 := (CF w hSw).2.2.1; go_simp; try with_reducible rfl)
  simp only [Act.put, List.getElem_toArray, List.getElem_cons_succ, List.getElem_cons_zero, List.setIfInBounds_toArray, List.set_cons_zero, List.set_cons_succ]
  refine wpAnyH_take (i := 6) (v := ?_) rfl (by kernel_rfl) (by kernel_rfl) (by kernel_rfl) (fun _ _ _ h => h) (Or.inl ⟨by rfl, ?_⟩) (by assumption) ?_
  rotate_left
  · (intro w hSw; (try dsimp only at hSw); go_simp; try with_reducible rfl)
  simp only [Act.put, List.getElem_toArray, List.getElem_cons_succ, List.getElem_cons_zero, List.setIfInBounds_toArray, List.set_cons_zero, List.set_cons_succ]
  refine wpAnyH_take (i := 7) (v := ?_) rfl (by kernel_rfl) (by kernel_rfl) (by kernel_rfl) (fun _ _ _ h => h) (Or.inl ⟨by rfl, ?_⟩) (by assumption) ?_
  rotate_left
  · (intro w hSw; (try dsimp only at hSw); have c6 := (CF w hSw).2.2.2.1; go_simp; try with_reducible rfl)
  simp only [Act.put, List.getElem_toArray, List.getElem_cons_succ, List.getElem_cons_zero, List.setIfInBounds_toArray, List.set_cons_zero, List.set_cons_succ]
  refine wpAnyH_take (i := 8) (v := ?_) rfl (by kernel_rfl) (by kernel_rfl) (by kernel_rfl) (fun _ _ _ h => h) (Or.inl ⟨by rfl, ?_⟩) (by assumption) ?_
  rotate_left
  · (intro w hSw; (try dsimp only at hSw); go_simp; try with_reducible rfl)
  simp only [Act.put, List.getElem_toArray, List.getElem_cons_succ, List.getElem_cons_zero, List.setIfInBounds_toArray, List.set_cons_zero, List.set_cons_succ]
  refine wpAnyH_take (i := 9) (v := ?_) rfl (by kernel_rfl) (by kernel_rfl) (by kernel_rfl) (fun _ _ _ h => h) (Or.inl ⟨by rfl, ?_⟩) (by assumption) ?_
  rotate_left
  · (intro w hSw; (try dsimp only at hSw); have c7 := (CF w hSw).2.2.2.2.1; go_simp; try with_reducible rfl)
  simp only [Act.put, List.getElem_toArray, List.getElem_cons_succ, List.getElem_cons_zero, List.setIfInBounds_toArray, List.set_cons_zero, List.set_cons_succ]
  refine wpAnyH_take (i := 10) (v := ?_) rfl (by kernel_rfl) (by kernel_rfl) (by kernel_rfl) (fun _ _ _ h => h) (Or.inl ⟨by rfl, ?_⟩) (by assumption) ?_
  rotate_left
  · (intro w hSw; (try dsimp only at hSw); go_simp; try with_reducible rfl)
  simp only [Act.put, List.getElem_toArray, List.getElem_cons_succ, List.getElem_cons_zero, List.setIfInBounds_toArray, List.set_cons_zero, List.set_cons_succ]
  refine wpAnyH_take (i := 11) (v := ?_) rfl (by kernel_rfl) (by kernel_rfl) (by kernel_rfl) (fun _ _ _ h => h) (Or.inl ⟨by rfl, ?_⟩) (by assumption) ?_
  rotate_left
  · (intro w hSw; (try dsimp only at hSw); have c8 := (CF w hSw).2.2.2.2.2.1; go_simp; try with_reducible rfl)
  simp only [Act.put, List.getElem_toArray, List.getElem_cons_succ, List.getElem_cons_zero, List.setIfInBounds_toArray, List.set_cons_zero, List.set_cons_succ]
  refine wpAnyH_take (i := 12) (v := ?_) rfl (by kernel_rfl) (by kernel_rfl) (by kernel_rfl) (fun _ _ _ h => h) (Or.inl ⟨by rfl, ?_⟩) (by assumption) ?_
  rotate_left
  · (intro w hSw; (try dsimp only at hSw); go_simp; try with_reducible rfl)
  simp only [Act.put, List.getElem_toArray, List.getElem_cons_succ, List.getElem_cons_zero, List.setIfInBounds_toArray, List.set_cons_zero, List.set_cons_succ]
  refine wpAnyH_take (i := 13) (v := ?_) rfl (by kernel_rfl) (by kernel_rfl) (by kernel_rfl) (fun _ _ _ h => h) (Or.inl ⟨by rfl, ?_⟩) (by assumption) ?_
  rotate_left
  · (intro w hSw; (try dsimp only at hSw); have c9 := (CF w hSw).2.2.2.2.2.2.1; go_simp; try with_reducible rfl)
  simp only [Act.put, List.getElem_toArray, List.getElem_cons_succ, List.getElem_cons_zero, List.setIfInBounds_toArray, List.set_cons_zero, List.set_cons_succ]
  refine wpAnyH_take (i := 14) (v := ?_) rfl (by kernel_rfl) (by kernel_rfl) (by kernel_rfl) (fun _ _ _ h => h) (Or.inl ⟨by rfl, ?_⟩) (by assumption) ?_
  rotate_left
  · (intro w hSw; (try dsimp only at hSw); go_simp; try with_reducible rfl)
  simp only [Act.put, List.getElem_toArray, List.getElem_cons_succ, List.getElem_cons_zero, List.setIfInBounds_toArray, List.set_cons_zero, List.set_cons_succ]
  refine wpAnyH_take (i := 15) (v := ?_) rfl (by kernel_rfl) (by kernel_rfl) (by kernel_rfl) (fun _ _ _ h => h) (Or.inl ⟨by rfl, ?_⟩) (by assumption) ?_
  rotate_left
  · (intro w hSw; (try dsimp only at hSw); have c10 := (CF w hSw).2.2.2.2.2.2.2.1; go_simp; try with_reducible rfl)
  simp only [Act.put, List.getElem_toArray, List.getElem_cons_succ, List.getElem_cons_zero, List.setIfInBounds_toArray, List.set_cons_zero, List.set_cons_succ]
  refine wpAnyH_take (i := 16) (v := ?_) rfl (by kernel_rfl) (by kernel_rfl) (by kernel_rfl) (fun _ _ _ h => h) (Or.inl ⟨by rfl, ?_⟩) (by assumption) ?_
  rotate_left
  · (intro w hSw; (try dsimp only at hSw); go_simp; try with_reducible rfl)
  simp only [Act.put, List.getElem_toArray, List.getElem_cons_succ, List.getElem_cons_zero, List.setIfInBounds_toArray, List.set_cons_zero, List.set_cons_succ]
  refine wpAnyH_take (i := 17) rfl (by kernel_rfl) (by kernel_rfl) (by kernel_rfl) (fun _ _ _ h => h) (yieldsIf_load_mid (by rfl) 31 (.tmp 19) rfl N (11) rfl (hz8) _ (fun w h => (CF w h).2.2.2.2.2.2.2.2.1) Try.underlying31 rfl szH8) (by assumption) ?_
  simp only [Act.put, List.getElem_toArray, List.getElem_cons_succ, List.getElem_cons_zero, List.setIfInBounds_toArray, List.set_cons_zero, List.set_cons_succ]
  refine wpAnyH_take (i := 18) (v := ?_) rfl (by kernel_rfl) (by kernel_rfl) (by kernel_rfl) (fun _ _ _ h => h) (Or.inl ⟨by rfl, ?_⟩) (by assumption) ?_
  rotate_left
  · (intro w hSw; (try dsimp only at hSw); go_simp; try with_reducible rfl)
  simp only [Act.put, List.getElem_toArray, List.getElem_cons_succ, List.getElem_cons_zero, List.setIfInBounds_toArray, List.set_cons_zero, List.set_cons_succ]
  refine wpAnyH_take (i := 19) (v := ?_) rfl (by kernel_rfl) (by kernel_rfl) (by kernel_rfl) (fun _ _ _ h => h) (Or.inl ⟨by rfl, ?_⟩) (by assumption) ?_
  rotate_left
  · (intro w hSw; (try dsimp only at hSw); have c19 := (CF w hSw).2.2.2.2.2.2.2.2.2.1; go_simp; try with_reducible rfl)
  simp only [Act.put, List.getElem_toArray, List.getElem_cons_succ, List.getElem_cons_zero, List.setIfInBounds_toArray, List.set_cons_zero, List.set_cons_succ]
  refine wpAnyH_take (i := 20) (v := ?_) rfl (by kernel_rfl) (by kernel_rfl) (by kernel_rfl) (fun _ _ _ h => h) (Or.inl ⟨by rfl, ?_⟩) (by assumption) ?_
  rotate_left
  · (intro w hSw; (try dsimp only at hSw); go_simp; try with_reducible rfl)
  simp only [Act.put, List.getElem_toArray, List.getElem_cons_succ, List.getElem_cons_zero, List.setIfInBounds_toArray, List.set_cons_zero, List.set_cons_succ]
  refine wpAnyH_take (i := 21) rfl (by kernel_rfl) (by kernel_rfl) (by kernel_rfl) (fun _ _ _ h => h) (yieldsIf_load_mid (by rfl) 50 (.tmp 23) rfl N (20) rfl (ctz) _ (fun w h => (CF w h).2.2.2.2.2.2.2.2.2.2.1) Try.underlying50 rfl szC50) (by assumption) ?_
  simp only [Act.put, List.getElem_toArray, List.getElem_cons_succ, List.getElem_cons_zero, List.setIfInBounds_toArray, List.set_cons_zero, List.set_cons_succ]
  refine wpAnyH_take (i := 22) (v := ?_) rfl (by kernel_rfl) (by kernel_rfl) (by kernel_rfl) (fun _ _ _ h => h) (Or.inl ⟨by rfl, ?_⟩) (by assumption) ?_
  rotate_left
  · (intro w hSw; (try dsimp only at hSw); go_simp; try with_reducible rfl)
  simp only [Act.put, List.getElem_toArray, List.getElem_cons_succ, List.getElem_cons_zero, List.setIfInBounds_toArray, List.set_cons_zero, List.set_cons_succ]
  refine wpAnyH_take (i := 23) (v := ?_) rfl (by kernel_rfl) (by kernel_rfl) (by kernel_rfl) (fun _ _ _ h => h) (Or.inl ⟨by rfl, ?_⟩) (by assumption) ?_
  rotate_left
  · (intro w hSw; (try dsimp only at hSw); have c41 := (CF w hSw).2.2.2.2.2.2.2.2.2.2.2; go_simp; try with_reducible rfl)
  simp only [Act.put, List.getElem_toArray, List.getElem_cons_succ, List.getElem_cons_zero, List.setIfInBounds_toArray, List.set_cons_zero, List.set_cons_succ]
  refine wpAnyH_take (i := 24) (v := ?_) rfl (by kernel_rfl) (by kernel_rfl) (by kernel_rfl) (fun _ _ _ h => h) (Or.inl ⟨by rfl, ?_⟩) (by assumption) ?_
  rotate_left
  · (intro w hSw; (try dsimp only at hSw); have ap := apN; go_simp; try with_reducible rfl)
  simp only [Act.put, List.getElem_toArray, List.getElem_cons_succ, List.getElem_cons_zero, List.setIfInBounds_toArray, List.set_cons_zero, List.set_cons_succ]
  refine wpAnyH_take (i := 25) (v := .agg (sdV x).toArray) rfl (by kernel_rfl) (by kernel_rfl) (by kernel_rfl) (fun _ _ _ h => h) (Or.inl ⟨by rfl, fun w hSw => run_bldN rfl (by simp only [List.map_toArray, List.map_cons, List.map_nil]; rfl) (BSL w)⟩) (by assumption) ?_
  simp only [Act.put, List.getElem_toArray, List.getElem_cons_succ, List.getElem_cons_zero, List.setIfInBounds_toArray, List.set_cons_zero, List.set_cons_succ]
  clear hHeld
  refine wpAnyH_done (by kernel_rfl) ?_ _
  refine qn_last rfl (by rfl) ?_
  refine wp_store_row 53 (.tmp 2) (.tmp 28) rfl (N + 1) (sdV x).toArray rfl rfl 53 (sdV sm0).toArray RY.out (szA sz53 sx.out) (by rw [List.size_toArray, List.size_toArray, sx.out, s0.out]) (all_oneCell_toArray (sd_one x)) ?_
  go_wp2
  refine bodyPost_ret (v := .agg (sdV x).toArray) (results_cell_row rfl _ _ (N + 1) 53 (sdV x).toArray (0, 0) _ rfl (setRow_heap _ _ _ _ _ _ RY.out) Try.underlying53 rfl (szA sz53 sx.out)) rfl ⟨rfl, ?_⟩
  exact below_setRow BV.out.drew (Nat.le_succ _) _
end Go.Proofs.Ytmcmdpbdipgahaa

/-
  RegistryTimes: the walk.
-/
namespace Go.Proofs.Ytmcmdpbdipgahaa
open Go.RowKit
set_option maxRecDepth 100000
theorem b57w (L W m : Int) (w : World) : (Instr.build 57 #[(1, .int .i64 m), (0, .agg #[.int .i64 L, .int .i64 W, .int .i64 0, .slice none 0 0])]).run Try.prog w = .ok (.agg (sdV (smW L W m)).toArray) w := by kernel_rfl
attribute [local irreducible] sdV smW wpQuiet
set_option maxHeartbeats 8000000 in
theorem q4 (n0 n1 n2 n3 n4 h e : Int) (w : World) (hh : wfI h) :
    Calls Try.prog 4 #[.agg #[.int .i64 n0, .int .i64 n1, .int .i64 n2, .int .i64 n3, .int .i64 n4], .int .i64 h, .int .i64 e] w fun e w' => e = .returned (.bool true) ∧ Below w.heap.size w w' := by
  obtain ⟨N, hN⟩ : ∃ N, w.heap.size = N := ⟨_, rfl⟩
  have HN := Lib.hid hN
  have AW := Lib.hid rAwake
  have SB := fun w => b57w n1 n2 n0 w
  have CS := Lib.hid (lSide n1 n2 n0)
  obtain ⟨x, hx⟩ : ∃ x, smW n1 n2 n0 = x := ⟨_, rfl⟩
  rw [hx] at SB CS
  clear hx
  have sx : Hid ((sdV x).length = 42) := Lib.hid (sd_len x)
  have s0 : Hid ((sdV sm0).length = 42) := Lib.hid (sd_len sm0)
  have K1 : Hid (∀ W, Calls Try.prog 21 #[.agg (sdV x).toArray, .int .i64 h] W fun e w' => e = .returned (.tuple #[.int .i64 (epC x h).1, .bool (epC x h).2]) ∧ Below W.heap.size W w') := Lib.hid fun W => rEpoch x h W hh
  have K2 : Hid (∀ W, Calls Try.prog 22 #[.agg (sdV x).toArray, .int .i64 h] W fun e w' => e = .returned (.tuple #[.int .i64 (epC x h).1, .bool (epC x h).2]) ∧ Below W.heap.size W w') := Lib.hid fun W => dEpoch x h W hh
  have E1 : Hid (∀ W, Calls Try.prog 23 #[.agg (sdV x).toArray, .int .i64 e] W fun e1 w' => e1 = .returned (.int .i64 (endC x e)) ∧ Below W.heap.size W w') := Lib.hid fun W => rEnds x e W
  have E2 : Hid (∀ W, Calls Try.prog 24 #[.agg (sdV x).toArray, .int .i64 e] W fun e1 w' => e1 = .returned (.int .i64 (endC x e)) ∧ Below W.heap.size W w') := Lib.hid fun W => dEnds x e W
  have O1 : Hid (∀ W, Calls Try.prog 25 #[.agg (sdV x).toArray, .int .i64 e, .int .i64 h] W fun e1 w' => e1 = .returned (.bool (openC x e h)) ∧ Below W.heap.size W w') := Lib.hid fun W => rOpen x e h W
  have O2 : Hid (∀ W, Calls Try.prog 26 #[.agg (sdV x).toArray, .int .i64 e, .int .i64 h] W fun e1 w' => e1 = .returned (.bool (openC x e h)) ∧ Below W.heap.size W w') := Lib.hid fun W => dOpen x e h W
  generalize (epC x h).1 = ep at *
  generalize (epC x h).2 = eb at *
  generalize endC x e = en at *
  generalize openC x e h = ob at *
  have hz : ∀ w, (zeroValue 53).run Try.prog w = .ok (.agg (sdV sm0).toArray) w := z53
  have hz2 : ∀ w, (zeroValue 57).run Try.prog w = .ok (.agg (sdV sm0).toArray) w := z57
  rw [hN]
  go_enter Try.func4, Try.ntmps4
  go_upto_region 1 with (fail)
  have B0 : Hid (Below N w (w.alloc (Obj.cells #[.int .i64 n0, .int .i64 n1, .int .i64 n2, .int .i64 n3, .int .i64 n4] 60))) := Lib.hid ((Below.refl _ w).alloc (by rw [hN]; exact Nat.le_refl _) _)
  have RB : Hid ((w.alloc (Obj.cells #[.int .i64 n0, .int .i64 n1, .int .i64 n2, .int .i64 n3, .int .i64 n4] 60)).heap[N]? = some (.cells #[.int .i64 n0, .int .i64 n1, .int .i64 n2, .int .i64 n3, .int .i64 n4] 60 (0, 0))) := Lib.hid (by rw [← hN]; exact heap_alloc_last w _)
  generalize w.alloc (Obj.cells #[.int .i64 n0, .int .i64 n1, .int .i64 n2, .int .i64 n3, .int .i64 n4] 60) = w0 at *
  go_upto_region 3 with (first
    | (go_at_call 9; refine (AW.out _).mono ?_; clear AW; rintro e1 w1 ⟨rfl, hb⟩; have B1 := Lib.hid hb; clear hb)
    | fail)
  have R1 : Hid (w1.heap[N]? = some (.cells #[.int .i64 n0, .int .i64 n1, .int .i64 n2, .int .i64 n3, .int .i64 n4] 60 (0, 0))) := Lib.hid ((B1.out.block N (lt_of_block RB.out)).trans RB.out)
  have BW1 : Hid (Below N w w1) := Lib.hid (B0.out.trans (B1.out.mono (Nat.le_of_lt (lt_of_block RB.out))))
  have N1 : Hid (N < w1.heap.size) := Lib.hid (lt_of_block R1.out)
  have c0 : w1.cell? ⟨N, 0, none⟩ = some (.int .i64 n0) := by rw [cell_of_row w1 N _ _ _ (0, 0) R1.out]; rfl
  have c1 : w1.cell? ⟨N, 1, none⟩ = some (.int .i64 n1) := by rw [cell_of_row w1 N _ _ _ (0, 0) R1.out]; rfl
  have c2 : w1.cell? ⟨N, 2, none⟩ = some (.int .i64 n2) := by rw [cell_of_row w1 N _ _ _ (0, 0) R1.out]; rfl
  clear B0 RB B1
  go_upto_region 4 with (first
    | (refine wpList_bld2 (by rfl) 57 (.tmp 16) (.tmp 21) 1 0 (.int .i64 n0) (.agg (sdV x).toArray) (.agg #[.int .i64 n1, .int .i64 n2, .int .i64 0, .slice none 0 0]) rfl rfl rfl SB ?_)
    | (refine wpList_store_rowTo rfl 57 (.tmp 7) (.tmp 22) rfl rfl w1.heap.size (sdV x).toArray rfl rfl 57 _ (heap_alloc_last w1 _) (szA sz57 sx.out) (by rw [List.size_toArray, List.size_toArray, sx.out, s0.out]) (all_oneCell_toArray (sd_one x)) ?_)
    | fail)
  have RX0 : Hid (BL ((w1.alloc (Obj.cells (sdV sm0).toArray 57)).setRow w1.heap.size (sdV x).toArray) w1.heap.size (sdV x) 57) := Lib.hid (setRow_heap _ _ _ _ _ _ (heap_alloc_last w1 _))
  have B2 : Hid (Below w1.heap.size w1 ((w1.alloc (Obj.cells (sdV sm0).toArray 57)).setRow w1.heap.size (sdV x).toArray)) := Lib.hid (below_setRow ((Below.refl _ w1).alloc (Nat.le_refl _) _) (Nat.le_refl _) _)
  generalize (w1.alloc (Obj.cells (sdV sm0).toArray 57)).setRow w1.heap.size (sdV x).toArray = w2 at *
  generalize w1.heap.size = X at *
  have BW2 : Hid (Below N w w2) := Lib.hid (BW1.out.trans (B2.out.mono (Nat.le_of_lt N1.out)))
  have X2 : Hid (X < w2.heap.size) := Lib.hid (bl_lt RX0.out)
  clear c0 c1 c2 SB hz2 R1 B2 BW1
  go_upto_region 5 with (first
    | (refine wpList_load_midG (by rfl) 57 (.tmp 7) rfl X 0 rfl (sdV x) _ (range_of RX0.out) Try.underlying57 rfl (szL sz57 sx.out) ?_)
    | (go_at_call 20; refine (CS.out _).mono ?_; clear CS; rintro e1 w3 ⟨rfl, hb⟩; have B3 := Lib.hid hb; clear hb)
    | (refine wpList_store_rowTo rfl 53 (.tmp 8) (.tmp 24) rfl rfl w3.heap.size (sdV x).toArray rfl rfl 53 _ (heap_alloc_last w3 _) (szA sz53 sx.out) (by rw [List.size_toArray, List.size_toArray, sx.out, s0.out]) (all_oneCell_toArray (sd_one x)) ?_)
    | fail)
  have RX3 : Hid (BL w3 X (sdV x) 57) := Lib.hid (bl_keep RX0.out (B3.out.block X X2.out))
  have BW3 : Hid (Below N w w3) := Lib.hid (BW2.out.trans (B3.out.mono (Nat.le_trans (Nat.le_of_lt N1.out) (Nat.le_of_lt X2.out))))
  have RY0 : Hid (BL ((w3.alloc (Obj.cells (sdV sm0).toArray 53)).setRow w3.heap.size (sdV x).toArray) w3.heap.size (sdV x) 53) := Lib.hid (setRow_heap _ _ _ _ _ _ (heap_alloc_last w3 _))
  have B4 : Hid (Below w3.heap.size w3 ((w3.alloc (Obj.cells (sdV sm0).toArray 53)).setRow w3.heap.size (sdV x).toArray)) := Lib.hid (below_setRow ((Below.refl _ w3).alloc (Nat.le_refl _) _) (Nat.le_refl _) _)
  generalize (w3.alloc (Obj.cells (sdV sm0).toArray 53)).setRow w3.heap.size (sdV x).toArray = w4 at *
  have X3 : Hid (X < w3.heap.size ∧ N < X) := Lib.hid ⟨bl_lt RX3.out, N1.out⟩
  generalize w3.heap.size = Y at *
  have RX4 : Hid (BL w4 X (sdV x) 57) := Lib.hid (bl_keep RX3.out (B4.out.block X X3.out.1))
  have BW4 : Hid (Below N w w4) := Lib.hid (BW3.out.trans (B4.out.mono (by have := X3.out; omega)))
  have Y4 : Hid (Y < w4.heap.size) := Lib.hid (bl_lt RY0.out)
  clear hz RX0 RX3 B3 B4 BW2 BW3 X2
  go_upto_region 6 with (first
    | (refine wpList_load_midG (by rfl) 53 (.tmp 8) rfl Y 0 rfl (sdV x) _ (range_of RY0.out) Try.underlying53 rfl (szL sz53 sx.out) ?_)
    | (go_at_call 21; refine (K1.out _).mono ?_; clear K1; rintro e1 w5 ⟨rfl, hb⟩; have B5 := Lib.hid hb; clear hb)
    | fail)
  have RX5 : Hid (BL w5 X (sdV x) 57) := Lib.hid (bl_keep RX4.out (B5.out.block X (by have := X3.out; have := Y4.out; omega)))
  have RY5 : Hid (BL w5 Y (sdV x) 53) := Lib.hid (bl_keep RY0.out (B5.out.block Y Y4.out))
  have BW5 : Hid (Below N w w5) := Lib.hid (BW4.out.trans (B5.out.mono (by have := X3.out; have := Y4.out; omega)))
  have Y5 : Hid (Y < w5.heap.size) := Lib.hid (bl_lt RY5.out)
  clear RX4 RY0 B5 BW4 Y4
  go_upto_region 7 with (first
    | (refine wpList_load_midG (by rfl) 57 (.tmp 7) rfl X 0 rfl (sdV x) _ (range_of RX5.out) Try.underlying57 rfl (szL sz57 sx.out) ?_)
    | (go_at_call 22; refine (K2.out _).mono ?_; clear K2; rintro e1 wz ⟨rfl, hb⟩; have B6 := Lib.hid hb; clear hb)
    | fail)
  obtain ⟨Z, hZ⟩ : ∃ Z, wz.heap.size = Z := ⟨_, rfl⟩
  have RXz : Hid (BL wz X (sdV x) 57) := Lib.hid (bl_keep RX5.out (B6.out.block X (by have := X3.out; have := Y5.out; omega)))
  have RYz : Hid (BL wz Y (sdV x) 53) := Lib.hid (bl_keep RY5.out (B6.out.block Y Y5.out))
  have BWz : Hid (Below N w wz) := Lib.hid (BW5.out.trans (B6.out.mono (by have := X3.out; have := Y5.out; omega)))
  have YZ : Hid (Y < Z) := Lib.hid (by rw [← hZ]; exact bl_lt RYz.out)
  have BZ : Hid (Below Z wz wz) := Lib.hid (Below.refl _ _)
  have CX : ∀ W, Below Z wz W → W.rangeAt X 0 (sdV x) := fun W hb => range_keep1 (range_of RXz.out) (hb.block X (by have := X3.out; have := YZ.out; omega))
  have CY : ∀ W, Below Z wz W → W.rangeAt Y 0 (sdV x) := fun W hb => range_keep1 (range_of RYz.out) (hb.block Y YZ.out)
  have up : ∀ {W w' : World}, Below Z wz W → Below W.heap.size W w' → Below Z wz w' := fun hb g => hb.trans (g.mono (by have := hb.size; rw [hZ] at this; exact this))
  have KE1 : Hid (∀ W, Below Z wz W → Calls Try.prog 23 #[.agg (sdV x).toArray, .int .i64 e] W fun e1 w' => e1 = .returned (.int .i64 en) ∧ Below Z wz w') := Lib.hid fun W hb => (E1.out W).mono fun e1 w' g => ⟨g.1, up hb g.2⟩
  have KE2 : Hid (∀ W, Below Z wz W → Calls Try.prog 24 #[.agg (sdV x).toArray, .int .i64 e] W fun e1 w' => e1 = .returned (.int .i64 en) ∧ Below Z wz w') := Lib.hid fun W hb => (E2.out W).mono fun e1 w' g => ⟨g.1, up hb g.2⟩
  have KO1 : Hid (∀ W, Below Z wz W → Calls Try.prog 25 #[.agg (sdV x).toArray, .int .i64 e, .int .i64 h] W fun e1 w' => e1 = .returned (.bool ob) ∧ Below Z wz w') := Lib.hid fun W hb => (O1.out W).mono fun e1 w' g => ⟨g.1, up hb g.2⟩
  have KO2 : Hid (∀ W, Below Z wz W → Calls Try.prog 26 #[.agg (sdV x).toArray, .int .i64 e, .int .i64 h] W fun e1 w' => e1 = .returned (.bool ob) ∧ Below Z wz w') := Lib.hid fun W hb => (O2.out W).mono fun e1 w' g => ⟨g.1, up hb g.2⟩
  have NZ : Hid (N ≤ Z) := Lib.hid (by have := X3.out; have := YZ.out; omega)
  clear E1 E2 O1 O2 up hZ RX5 RY5 BW5 Y5 B6
  refine wp_region_class (C := fun W => Below Z wz W) (by kernel_rfl) (by kernel_rfl) (BZ.out.drew) ?_
  refine wpQuiet_step (fun K hK => ?_)
  refine quiet_val (by rfl) (v := ?_) ?_ (hK _ ?_)
  rotate_left
  · (intro w hSw; go_simp; try with_reducible rfl)
  clear hK K
  simp only [Act.put, List.setIfInBounds_toArray, List.set_cons_zero, List.set_cons_succ]
  refine wpQuiet_step (fun K hK => ?_)
  refine quiet_val (by rfl) (v := ?_) ?_ (hK _ ?_)
  rotate_left
  · (intro w hSw; go_simp; try with_reducible rfl)
  clear hK K
  simp only [Act.put, List.setIfInBounds_toArray, List.set_cons_zero, List.set_cons_succ]
  refine wpQuiet_step (fun K hK => ?_)
  refine quiet_val (by rfl) (v := .bool true) (fun w hSw => ?_) (hK _ ?_)
  · (go_simp; first | done | (simp; done))
  clear hK K
  simp only [Act.put, List.setIfInBounds_toArray, List.set_cons_zero, List.set_cons_succ]
  refine wpQuiet_step (fun K hK => ?_)
  refine quiet_val (by rfl) (v := ?_) ?_ (hK _ ?_)
  rotate_left
  · (intro w hSw; go_simp; try with_reducible rfl)
  clear hK K
  simp only [Act.put, List.setIfInBounds_toArray, List.set_cons_zero, List.set_cons_succ]
  refine wpQuiet_step (fun K hK => ?_)
  refine quiet_val (by rfl) (v := ?_) ?_ (hK _ ?_)
  rotate_left
  · (intro w hSw; go_simp; try with_reducible rfl)
  clear hK K
  simp only [Act.put, List.setIfInBounds_toArray, List.set_cons_zero, List.set_cons_succ]
  refine wpQuiet_step (fun K hK => ?_)
  refine quiet_val (by rfl) (v := ?_) ?_ (hK _ ?_)
  rotate_left
  · (intro w hSw; go_simp; try with_reducible rfl)
  clear hK K
  simp only [Act.put, List.setIfInBounds_toArray, List.set_cons_zero, List.set_cons_succ]
  refine wpQuiet_step (fun K hK => ?_)
  refine quiet_val (by rfl) (v := .bool true) (fun w hSw => ?_) (hK _ ?_)
  · (go_simp; first | done | (simp; done))
  clear hK K
  simp only [Act.put, List.setIfInBounds_toArray, List.set_cons_zero, List.set_cons_succ]
  refine wpQuiet_step (fun K hK => ?_)
  refine quiet_val (by rfl) (v := ?_) ?_ (hK _ ?_)
  rotate_left
  · (intro w hSw; go_simp; try with_reducible rfl)
  clear hK K
  simp only [Act.put, List.setIfInBounds_toArray, List.set_cons_zero, List.set_cons_succ]
  refine wpQuiet_step (fun K hK => ?_)
  refine quiet_val (by rfl) (v := ?_) ?_ (hK _ ?_)
  rotate_left
  · (intro w hSw; go_simp; try with_reducible rfl)
  clear hK K
  simp only [Act.put, List.setIfInBounds_toArray, List.set_cons_zero, List.set_cons_succ]
  refine wpQuiet_step (fun K hK => ?_)
  refine quiet_load (by rfl) 53 (.tmp 8) rfl Y (0) rfl (sdV x) _ (fun w h => CY w h) Try.underlying53 rfl (szL sz53 sx.out) (hK _ ?_)
  clear hK K
  simp only [Act.put, List.setIfInBounds_toArray, List.set_cons_zero, List.set_cons_succ]
  refine wpQuiet_step (fun K hK => ?_)
  refine quiet_val (by rfl) (v := ?_) ?_ (hK _ ?_)
  rotate_left
  · (intro w hSw; go_simp; try with_reducible rfl)
  clear hK K
  simp only [Act.put, List.setIfInBounds_toArray, List.set_cons_zero, List.set_cons_succ]
  refine wpQuiet_step (fun K hK => ?_)
  refine quiet_call (by rfl) 23 #[.agg (sdV x).toArray, .int .i64 e] ?_ (fun w hw => KE1.out w hw) (hK _ ?_)
  · (intro w hSw; go_simp; try with_reducible rfl)
  clear hK K
  simp only [Act.put, List.setIfInBounds_toArray, List.set_cons_zero, List.set_cons_succ]
  refine wpQuiet_step (fun K hK => ?_)
  refine quiet_load (by rfl) 57 (.tmp 7) rfl X (0) rfl (sdV x) _ (fun w h => CX w h) Try.underlying57 rfl (szL sz57 sx.out) (hK _ ?_)
  clear hK K
  simp only [Act.put, List.setIfInBounds_toArray, List.set_cons_zero, List.set_cons_succ]
  refine wpQuiet_step (fun K hK => ?_)
  refine quiet_val (by rfl) (v := ?_) ?_ (hK _ ?_)
  rotate_left
  · (intro w hSw; go_simp; try with_reducible rfl)
  clear hK K
  simp only [Act.put, List.setIfInBounds_toArray, List.set_cons_zero, List.set_cons_succ]
  refine wpQuiet_step (fun K hK => ?_)
  refine quiet_call (by rfl) 24 #[.agg (sdV x).toArray, .int .i64 e] ?_ (fun w hw => KE2.out w hw) (hK _ ?_)
  · (intro w hSw; go_simp; try with_reducible rfl)
  clear hK K
  simp only [Act.put, List.setIfInBounds_toArray, List.set_cons_zero, List.set_cons_succ]
  refine wpQuiet_step (fun K hK => ?_)
  refine quiet_val (by rfl) (v := .bool true) (fun w hSw => ?_) (hK _ ?_)
  · (go_simp; first | done | (simp; done))
  clear hK K
  simp only [Act.put, List.setIfInBounds_toArray, List.set_cons_zero, List.set_cons_succ]
  refine wpQuiet_step (fun K hK => ?_)
  refine quiet_val (by rfl) (v := ?_) ?_ (hK _ ?_)
  rotate_left
  · (intro w hSw; go_simp; try with_reducible rfl)
  clear hK K
  simp only [Act.put, List.setIfInBounds_toArray, List.set_cons_zero, List.set_cons_succ]
  refine wpQuiet_step (fun K hK => ?_)
  refine quiet_val (by rfl) (v := ?_) ?_ (hK _ ?_)
  rotate_left
  · (intro w hSw; go_simp; try with_reducible rfl)
  clear hK K
  simp only [Act.put, List.setIfInBounds_toArray, List.set_cons_zero, List.set_cons_succ]
  refine wpQuiet_step (fun K hK => ?_)
  refine quiet_load (by rfl) 53 (.tmp 8) rfl Y (0) rfl (sdV x) _ (fun w h => CY w h) Try.underlying53 rfl (szL sz53 sx.out) (hK _ ?_)
  clear hK K
  simp only [Act.put, List.setIfInBounds_toArray, List.set_cons_zero, List.set_cons_succ]
  refine wpQuiet_step (fun K hK => ?_)
  refine quiet_val (by rfl) (v := ?_) ?_ (hK _ ?_)
  rotate_left
  · (intro w hSw; go_simp; try with_reducible rfl)
  clear hK K
  simp only [Act.put, List.setIfInBounds_toArray, List.set_cons_zero, List.set_cons_succ]
  refine wpQuiet_step (fun K hK => ?_)
  refine quiet_val (by rfl) (v := ?_) ?_ (hK _ ?_)
  rotate_left
  · (intro w hSw; go_simp; try with_reducible rfl)
  clear hK K
  simp only [Act.put, List.setIfInBounds_toArray, List.set_cons_zero, List.set_cons_succ]
  refine wpQuiet_step (fun K hK => ?_)
  refine quiet_call (by rfl) 25 #[.agg (sdV x).toArray, .int .i64 e, .int .i64 h] ?_ (fun w hw => KO1.out w hw) (hK _ ?_)
  · (intro w hSw; go_simp; try with_reducible rfl)
  clear hK K
  simp only [Act.put, List.setIfInBounds_toArray, List.set_cons_zero, List.set_cons_succ]
  refine wpQuiet_step (fun K hK => ?_)
  refine quiet_load (by rfl) 57 (.tmp 7) rfl X (0) rfl (sdV x) _ (fun w h => CX w h) Try.underlying57 rfl (szL sz57 sx.out) (hK _ ?_)
  clear hK K
  simp only [Act.put, List.setIfInBounds_toArray, List.set_cons_zero, List.set_cons_succ]
  refine wpQuiet_step (fun K hK => ?_)
  refine quiet_val (by rfl) (v := ?_) ?_ (hK _ ?_)
  rotate_left
  · (intro w hSw; go_simp; try with_reducible rfl)
  clear hK K
  simp only [Act.put, List.setIfInBounds_toArray, List.set_cons_zero, List.set_cons_succ]
  refine wpQuiet_step (fun K hK => ?_)
  refine quiet_val (by rfl) (v := ?_) ?_ (hK _ ?_)
  rotate_left
  · (intro w hSw; go_simp; try with_reducible rfl)
  clear hK K
  simp only [Act.put, List.setIfInBounds_toArray, List.set_cons_zero, List.set_cons_succ]
  refine wpQuiet_step (fun K hK => ?_)
  refine quiet_call (by rfl) 26 #[.agg (sdV x).toArray, .int .i64 e, .int .i64 h] ?_ (fun w hw => KO2.out w hw) (hK _ ?_)
  · (intro w hSw; go_simp; try with_reducible rfl)
  clear hK K
  simp only [Act.put, List.setIfInBounds_toArray, List.set_cons_zero, List.set_cons_succ]
  refine wpQuiet_step (fun K hK => ?_)
  refine quiet_val (by rfl) (v := .bool true) (fun w hSw => ?_) (hK _ ?_)
  · (go_simp; first | done | (simp; done))
  clear hK K
  simp only [Act.put, List.setIfInBounds_toArray, List.set_cons_zero, List.set_cons_succ]
  refine wpQuiet_step (fun K hK => ?_)
  refine quiet_val (by rfl) (v := ?_) ?_ (hK _ ?_)
  rotate_left
  · (intro w hSw; go_simp; try with_reducible rfl)
  clear hK K
  simp only [Act.put, List.setIfInBounds_toArray, List.set_cons_zero, List.set_cons_succ]
  refine wpQuiet_step (fun K hK => ?_)
  refine quiet_val (by rfl) (v := ?_) ?_ (hK _ ?_)
  rotate_left
  · (intro w hSw; go_simp; try with_reducible rfl)
  clear hK K
  simp only [Act.put, List.setIfInBounds_toArray, List.set_cons_zero, List.set_cons_succ]
  refine wpQuiet_nil ?_
  intro wq hq
  have BQ : Hid (Below Z wz wq) := Lib.hid hq
  clear hq
  go_wp2
  go_ret
  exact ⟨rfl, BWz.out.trans (BQ.out.mono NZ.out)⟩
end Go.Proofs.Ytmcmdpbdipgahaa

/-
  An array of numbers that came in.
-/
namespace Go.Proofs.Ytmcmdpbdipgahaa
open Go.ChangeShapes Go.WideShapes Go.ChangeAt Go.RowKit Go.Deep
section
variable {H : Type} {enc' : TypeId × Value → H} {w : World} {base : Nat} {spare : Nat → Bool} {held : Bool}
theorem okWide_array {P : Program} {r : Reach} {b0 n : Nat} {t e : TypeId} {v : Value} (ht : P.underlying t = some (.array n e)) (h : Value.okWide P w r b0 t v) : ∃ cs : Array Value, v = .agg cs ∧ cs.size = P.cellsOf t := by
  simp only [Value.okWide, ht] at h
  obtain ⟨cs, h1, h2, _⟩ := h
  exact ⟨cs, h1, h2⟩
theorem nums_of {n : Nat} {cs : List Value} (hl : cs.length = n) (h : ∀ i, i < n → ∃ z : Int, cs[i]? = some (.int .i64 z)) : ∃ l : List Int, cs = l.map (.int .i64) ∧ l.length = n := by
  induction cs generalizing n with
  | nil => exact ⟨[], rfl, by simpa using hl⟩
  | cons c cs ih =>
    cases n with
    | zero => cases hl
    | succ n =>
      obtain ⟨z, h0⟩ := h 0 (by omega)
      obtain ⟨l, h1, h2⟩ := ih (n := n) (by simpa using hl) (fun i hi => by
        obtain ⟨y, e⟩ := h (i + 1) (by omega)
        exact ⟨y, by simpa using e⟩)
      simp at h0
      subst h0
      exact ⟨z :: l, by simp [h1], by simp [h2]⟩
theorem c3s : Try.prog.cellsOf 3 = 1 := by kernel_rfl
set_option maxRecDepth 100000 in
/-- a row of numbers that came in -/
theorem ints_of {r : Reach} {b0 n : Nat} {t : TypeId} {v : Value} {d : DataW H} {p : List MemPlace} (ht : Try.prog.underlying t = some (.array n 3)) (hc : Try.prog.cellsOf t = n) (hv : Value.okWide Try.prog w r b0 t v) (hd : DataW.Trod enc' Try.prog w base spare held t v d p) :
    ∃ l : List Int, v = .agg (l.map (.int .i64)).toArray ∧ l.length = n := by
  obtain ⟨cs, rfl, hsz⟩ := okWide_array ht hv
  obtain ⟨fuel, hf⟩ := hd
  obtain ⟨xs, m, _, _, hl, hx, hi⟩ := DataW.trod_array ht hf
  simp only [Value.cells] at hl hi
  rw [hc] at hl
  obtain ⟨l, h1, h2⟩ := nums_of hl fun i hin => by
    have e := hi i hin
    rw [c3s, Nat.mul_one, List.getElem?_eq_getElem (by omega)] at e
    obtain ⟨z, e1, _⟩ := DataW.trod_int Try.underlying3 e
    refine ⟨z, ?_⟩
    have : (cs.toList.drop i)[0]? = some (.int .i64 z) := by
      have := congrArg (fun l : List Value => l[0]?) e1
      simpa [List.getElem?_take] using this
    simpa using this
  exact ⟨l, by rw [show cs = (l.map (.int .i64)).toArray by apply Array.ext'; rw [h1]], h2⟩
theorem five_of {l : List Int} (h : l.length = 5) : ∃ a b c d e, (l.map (Value.int .i64)).toArray = #[.int .i64 a, .int .i64 b, .int .i64 c, .int .i64 d, .int .i64 e] := by
  match l, h with
  | [a, b, c, d, e], _ => exact ⟨a, b, c, d, e, rfl⟩
end
end Go.Proofs.Ytmcmdpbdipgahaa
