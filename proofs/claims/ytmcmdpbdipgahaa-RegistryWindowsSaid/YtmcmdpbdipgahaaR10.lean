/-
  The first thing that each law asks.
-/
import Derived.Test.YtmcmdpbdipgahaaR9
import Derived.Test.YtmcmdpbdipgahaaQ13
namespace Go.Proofs.Ytmcmdpbdipgahaa
open Go.RowKit Go.Maps
set_option maxRecDepth 100000
def flatK' (n : Nat) : List Int := cat rootS n
theorem may_two (n : Nat) (c : Int) (h1 : 1 ≤ n) (h5 : n ≤ 5) (hc : 1 ≤ c) (hc2 : c ≤ n) : mayP (at8 (cat rootS n)) n 4 2 c = true := may_made n c h1 h5 hc hc2
def cM (n : Nat) (d : Int) (h : Int) : Con := con0 4 2 d n (cat rootS n) h
theorem fw_first (c : Con) (n : Int) (hc : c.1.ce = false) (h : fwOk c n) : fwC [c] 0 n = ([moreC c n], 0) := by
  unfold fwC
  rw [if_pos (show (0 : Int) ≤ 0 ∧ (0 : Int) < (([c].length : Nat) : Int) from ⟨by decide, by simp⟩)]
  show (if c.1.ce = true then _ else _) = _
  rw [if_neg (by rw [hc]; decide)]
  rw [if_pos (show fwOk ([c].getD (0 : Int).toNat con00) n from h)]
  rfl
theorem len1 {xs : List Sm} {c : Con} (h : xs.map Sm.con = [c]) : xs.length = 1 ∧ (xs.getD 0 sm0).con = c := by
  cases xs with
  | nil => cases h
  | cons x l =>
    cases l with
    | nil => simp only [List.map_cons, List.map_nil, List.cons.injEq, and_true] at h; exact ⟨rfl, h⟩
    | cons y l => simp at h
theorem sd_c4 {w : World} {b : Nat} {x : Sm} {T : TypeId} (h : BL w b (sdV x) T) : w.cell? ⟨b, 4, none⟩ = some (.int .i64 x.s.made) := sd_at h (i := 4) rfl
theorem awCreate (S : Nat) (A : Option Addr) (c : Nat) (w : World) (h : Reg w S none []) (h1 : Src w A (8 * 2) (cat rootS 2)) (h2 : 2 ≤ c) (h3 : c ≤ maxLen) :
    Calls Try.prog 12 #[.pointer (some ⟨S, 0, none⟩), .agg #[.int .i64 4, .int .i64 2, .int .i64 1, .slice A 2 c], .int .i64 3] w fun e w' => e = .returned (.tuple #[.int .i64 0, .int .i64 0]) ∧ ∃ m', Reg w' S m' [cM 2 1 3] ∧ (∀ b, m' = some b → w.heap.size ≤ b) ∧ Fr w w' (isP S none) := by
  have hc : creC [] (mayP (at8 (cat rootS 2)) 2 4 2 1) (con0 4 2 1 2 (cat rootS 2) 3) = ([cM 2 1 3], 0, 0) := by
    rw [may_two 2 1 (by decide) (by decide) (by decide) (by decide)]
    rfl
  refine (kCreate S none [] 4 2 1 A 2 c (cat rootS 2) 3 w h (by decide) h1 h2 h3).mono ?_
  rintro e w' ⟨r, m', hr, rfl, k2, k3, k4⟩
  rw [hc] at hr
  subst hr
  exact ⟨rfl, m', k2, fun b e => (k3 b e).resolve_left (fun h => by cases h), k4⟩
theorem awForward (S : Nat) (m : Option Nat) (w : World) (h : Reg w S m [cM 2 1 3]) :
    Calls Try.prog 14 #[.pointer (some ⟨S, 0, none⟩), .agg #[.int .i64 0, .int .i64 1, .int .u8 1, .int .u8 0, .int .u8 0, .int .u8 0, .int .u8 0, .int .u8 0, .int .u8 0, .int .u8 0, .int .i64 5]] w fun e w' => e = .returned (.int .i64 0) ∧ ∃ m', Reg w' S m' [moreC (cM 2 1 3) 5] ∧ (∀ b, m' = some b → m = some b ∨ w.heap.size ≤ b) ∧ Fr w w' (isP S m) := by
  obtain ⟨xs, h1, h2⟩ := h
  have hl := (len1 h2).1
  have hf : fwC (xs.map Sm.con) 0 5 = ([moreC (cM 2 1 3) 5], 0) := by
    rw [h2]
    exact fw_first _ _ rfl ⟨by decide, by decide, by decide, by decide⟩
  refine (show Calls Try.prog 14 #[.pointer (some ⟨S, 0, none⟩), .agg (fwV 0 1 [1] 5).toArray] w _ from kForward S m xs 0 1 5 [1] w h1 (by omega) (by unfold wfI; omega) (by unfold wfI; omega) (fun c hc => ?_)).mono ?_
  · rw [h2] at hc
    rw [List.mem_singleton.1 hc]
    exact ⟨by decide, by decide, by decide, by decide⟩
  rintro e w' ⟨r, m', hr, rfl, k2, k3, k4⟩
  rw [hf] at hr
  subst hr
  exact ⟨rfl, m', k2, k3, k4⟩
theorem awSide (S : Nat) (m : Option Nat) (w : World) (h : Reg w S m [moreC (cM 2 1 3) 5]) :
    Calls Try.prog 16 #[.pointer (some ⟨S, 0, none⟩), .int .i64 0] w fun e w' => ∃ x' : Sm, e = .returned (.tuple #[.agg (sdV x').toArray, .bool true]) ∧ x'.s.bal = 5 ∧ x'.s.fwd = 5 ∧ x'.s.made = 3 ∧ Below w.heap.size w w' := by
  obtain ⟨xs, h1, h2⟩ := h
  obtain ⟨hl, hx⟩ := len1 h2
  refine (rSide S m xs 0 w h1 (by unfold wfI; omega)).mono ?_
  rintro e w' ⟨x', rfl, k1, _, k3⟩
  have ha : atS xs 0 = xs.getD 0 sm0 := if_pos ⟨by decide, by rw [hl]; decide⟩
  rw [ha, hx] at k1
  have k2 : x'.s = (moreC (cM 2 1 3) 5).1 := congrArg Prod.fst k1
  refine ⟨x', ?_, by rw [k2]; rfl, by rw [k2]; rfl, by rw [k2]; rfl, k3⟩
  rw [decide_eq_true ⟨by decide, by rw [hl]; decide⟩]
theorem awTotal (S : Nat) (m : Option Nat) (w : World) (h : Reg w S m [moreC (cM 2 1 3) 5]) :
    Calls Try.prog 27 #[.pointer (some ⟨S, 0, none⟩)] w fun e w' => e = .returned (.int .i64 5) ∧ Below w.heap.size w w' := by
  obtain ⟨xs, h1, h2⟩ := h
  obtain ⟨hl, hx⟩ := len1 h2
  have hb : balF xs 0 = 5 := by
    unfold balF
    have : (xs.getD 0 sm0).s = (moreC (cM 2 1 3) 5).1 := congrArg Prod.fst hx
    rw [this]
    rfl
  have := rTotal S m xs w h1 (by omega) (fun i hi => by
    have : i = 0 := by omega
    subst this
    rw [hb]; decide)
  rw [hl] at this
  unfold sumN sumN at this
  rw [hb] at this
  exact this
attribute [local irreducible] sdV MapV z0 fnS cat rootS mayP creC fwC con0 cM
set_option maxHeartbeats 8000000 in
theorem rAwake (w : World) : Calls Try.prog 9 #[] w fun e w' => e = .returned (.bool true) ∧ Below w.heap.size w w' := by
  obtain ⟨N, hN⟩ : ∃ N, w.heap.size = N := ⟨_, rfl⟩
  have HN := Lib.hid hN
  have CM : Hid (∀ w, Keys w → Calls Try.prog 11 #[.int .i64 2, .int .i64 1] w fun e w' => ∃ A c, e = .returned (.agg #[.int .i64 4, .int .i64 2, .int .i64 1, .slice A 2 c]) ∧ Src w' A (8 * 2) (cat rootS 2) ∧ 2 ≤ c ∧ c ≤ maxLen ∧ Below w.heap.size w w') := Lib.hid fun w hk => kMade 2 1 w hk (by decide)
  have hz : ∀ w, (zeroValue 53).run Try.prog w = .ok (.agg (sdV sm0).toArray) w := z53
  rw [hN]
  go_enter Try.func9, Try.ntmps9
  go_upto_region 4 with (first
    | (go_at_call 10; refine (rNew _).mono ?_; rintro e w1 ⟨rfl, r1, r2⟩; have R1 := Lib.hid r1; have B1 := Lib.hid r2; clear r1 r2)
    | fail)
  try rw [hN] at R1 B1
  have K1 : Hid (Keys w1) := Lib.hid (by have := R1.out.lt N (.inl rfl); unfold Keys; omega)
  go_upto_region 5 with (first
    | (go_at_call 11; refine (CM.out _ K1.out).mono ?_; rintro e w2 ⟨A, c, rfl, s1, s2, s3, s4⟩; have S1 := Lib.hid s1; have S2 := Lib.hid s2; have S3 := Lib.hid s3; have B2 := Lib.hid s4; clear s1 s2 s3 s4)
    | (go_at_call 12; refine (awCreate N A c w2 ⟨[], R1.out.grow B2.out, rfl⟩ S1.out S2.out S3.out).mono ?_; rintro e w3 ⟨rfl, m3, k2, k3, k4⟩; have K2 := Lib.hid k2; have K4 := Lib.hid k4; have K3 := Lib.hid k3; clear k2 k3 k4)
    | fail)
  have N1 : Hid (N ≤ w1.heap.size) := Lib.hid (Nat.le_of_lt (R1.out.lt N (.inl rfl)))
  have BA : Hid (Below N w w3) := Lib.hid ((B1.out.trans (B2.out.mono N1.out)).trans (K4.out.below (Nat.le_trans N1.out B2.out.size) fun q hq => hq.elim (fun e => Nat.le_of_eq e.symm) fun e => (by cases e)))
  have M3 : Hid (∀ q, isP N m3 q → N ≤ q) := Lib.hid fun q hq => hq.elim (fun e => Nat.le_of_eq e.symm) fun e => Nat.le_trans (Nat.le_trans N1.out B2.out.size) (K3.out q e)
  have Z3 : Hid (N ≤ w3.heap.size) := Lib.hid (Nat.le_of_lt (K2.out.lt N (.inl rfl)))
  clear R1 B1 K1 S1 S2 S3 B2 K3 K4 CM
  go_upto_region 6 with (first
    | (go_at_call 14; refine (awForward N m3 w3 K2.out).mono ?_; rintro e w4 ⟨rfl, m4, k2, k3, k4⟩; have L2 := Lib.hid k2; have L4 := Lib.hid k4; clear k2 k3 k4)
    | fail)
  have BB : Hid (Below N w w4) := Lib.hid (BA.out.trans (L4.out.below Z3.out M3.out))
  have Z4 : Hid (N ≤ w4.heap.size) := Lib.hid (Nat.le_of_lt (L2.out.lt N (.inl rfl)))
  clear L4 BA
  have s0 : Hid ((sdV sm0).length = 42) := Lib.hid (sd_len sm0)
  go_wp2_with fail
  refine (awSide N m4 w4 L2.out).mono ?_
  rintro e w5 ⟨x, rfl, x1, x2, x3, hb5⟩
  have B5 := Lib.hid hb5
  have R5 := Lib.hid (L2.out.grow hb5)
  have sx : Hid ((sdV x).length = 42) := Lib.hid (sd_len x)
  have X123 := Lib.hid (And.intro x1 (And.intro x2 x3))
  clear hb5 x1 x2 x3
  go_upto_region 7 with (first
    | (refine wpList_store_rowTo rfl 53 (.tmp 5) (.tmp 23) rfl rfl w5.heap.size (sdV x).toArray rfl rfl 53 _ (heap_alloc_last _ _) (szA sz53 sx.out) (by rw [List.size_toArray, List.size_toArray, sx.out, s0.out]) (all_oneCell_toArray (sd_one x)) ?_)
    | fail)
  have RX : Hid (BL ((w5.alloc (Obj.cells (sdV sm0).toArray 53)).setRow w5.heap.size (sdV x).toArray) w5.heap.size (sdV x) 53) := Lib.hid (setRow_heap _ _ _ _ _ _ (heap_alloc_last w5 _))
  have B6 : Hid (Below w5.heap.size w5 ((w5.alloc (Obj.cells (sdV sm0).toArray 53)).setRow w5.heap.size (sdV x).toArray)) := Lib.hid (below_setRow ((Below.refl _ w5).alloc (Nat.le_refl _) _) (Nat.le_refl _) _)
  obtain ⟨w6, hw6⟩ : ∃ w6, (w5.alloc (Obj.cells (sdV sm0).toArray 53)).setRow w5.heap.size (sdV x).toArray = w6 := ⟨_, rfl⟩
  rw [hw6] at RX B6 ⊢
  obtain ⟨M, hM⟩ : ∃ M, w5.heap.size = M := ⟨_, rfl⟩
  rw [hM] at RX ⊢
  have b4 := sd_c4 RX.out
  have b5 := sd_bal RX.out
  have b6 := sd_c6 RX.out
  rw [X123.out.1] at b5
  rw [X123.out.2.1] at b6
  rw [X123.out.2.2] at b4
  have R6 := Lib.hid (R5.out.grow B6.out)
  have BC : Hid (Below N w w6) := Lib.hid ((BB.out.trans (B5.out.mono Z4.out)).trans (B6.out.mono (Nat.le_trans Z4.out B5.out.size)))
  have Z6 : Hid (N ≤ w6.heap.size) := Lib.hid (Nat.le_of_lt (R6.out.lt N (.inl rfl)))
  clear hw6 hM hz
  go_wp2_with (first
    | (go_at_call 27; refine (awTotal N m4 w6 R6.out).mono ?_; rintro e w7 ⟨rfl, hb⟩; have B7 := Lib.hid hb; clear hb)
    | fail)
  go_ret
  exact ⟨rfl, BC.out.trans (B7.out.mono Z6.out)⟩
end Go.Proofs.Ytmcmdpbdipgahaa
