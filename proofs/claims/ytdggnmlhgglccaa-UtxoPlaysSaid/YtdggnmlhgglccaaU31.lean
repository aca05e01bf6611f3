/-
  The order of points.
-/
import Derived.Test.YtdggnmlhgglccaaU30
import Derived.Sort.Statements
namespace Go.Proofs.Ytdggnmlhgglccaa
open Go.RowKit
set_option maxRecDepth 100000
def hp (p : List Int) : List Int := p.take 8
theorem hp_len {p : List Int} (h : okP p) : (hp p).length = 8 := by unfold hp; rw [List.length_take, okT_len h]; rfl
theorem hp_byt {p : List Int} (h : okP p) : Byt (hp p) := ((okT_byt 8 (hp p)).1 (okT_app (S := hS) (T := [some 1]) |>.1 h).1).2
theorem at_ok {p : List Int} (h : okP p) : -9223372036854775808 ≤ cel p 8 ∧ cel p 8 < 9223372036854775808 := by
  have h2 := (okT_app (S := hS) (T := [some 1]) |>.1 h).2
  have hl := okT_len h
  match p, hl with
  | [_, _, _, _, _, _, _, _, z], _ => exact h2.1
theorem pt_rng {p : List Int} (hp0 : okP p) {w : World} {b o : Nat} (h : w.rangeAt b o (ptV p)) : w.rangeAt b o (bvals (hp p)) ∧ w.cell? ⟨b, o + 8, none⟩ = some (.int .i64 (cel p 8)) := by
  have hl : p.length = 9 := okT_len hp0
  obtain ⟨h1, h2⟩ := rg_app (S := hS) (T := [some 1]) (n := 8) h rfl (by omega)
  refine ⟨rg_byt h1 (hp_len hp0), ?_⟩
  obtain ⟨h3, _⟩ := rg_num h2 (by rw [List.length_drop]; omega)
  rwa [cel_drop] at h3
def cI (x y : Int) : Int := if x < y then -1 else if x > y then 1 else 0
def cmpP (p q : List Int) : Int := if lessB (hp p) (hp q) = true then -1 else if lessB (hp q) (hp p) = true then 1 else cI (cel p 8) (cel q 8)
def lessP (p q : List Int) : Bool := lessB (hp p) (hp q) || (decide (hp p = hp q) && decide (cel p 8 < cel q 8))
theorem pt_ext {p q : List Int} (h1 : okP p) (h2 : okP q) (e : hp p = hp q) (e2 : cel p 8 = cel q 8) : p = q := by
  have l1 := okT_len h1
  have l2 := okT_len h2
  match p, l1, q, l2 with
  | [a0, a1, a2, a3, a4, a5, a6, a7, a8], _, [b0, b1, b2, b3, b4, b5, b6, b7, b8], _ =>
    have e2 : a8 = b8 := e2
    have e : [a0, a1, a2, a3, a4, a5, a6, a7] = [b0, b1, b2, b3, b4, b5, b6, b7] := e
    simp only [List.cons.injEq, and_true] at e ⊢
    obtain ⟨e0, e1, e3, e4, e5, e6, e7, e8⟩ := e
    exact ⟨e0, e1, e3, e4, e5, e6, e7, e8, e2⟩
theorem lessB_irr (x : List Int) : lessB x x = false := by simp [lessB, cb_same]
theorem lessB_tot {x y : List Int} (hx : Byt x) (hy : Byt y) (h1 : lessB x y = false) (h2 : lessB y x = false) : x = y := by
  have := less_eq hx hy
  rw [h1, h2] at this
  simpa using this
theorem cmpP_neg {p q : List Int} (h1 : okP p) (h2 : okP q) : decide (cmpP p q < 0) = lessP p q := by
  unfold cmpP lessP
  cases e1 : lessB (hp p) (hp q) with
  | true => simp
  | false =>
    cases e2 : lessB (hp q) (hp p) with
    | true =>
      have hn : hp p ≠ hp q := fun e => by rw [e, lessB_irr] at e2; cases e2
      simp [hn]
    | false =>
      have he := lessB_tot (hp_byt h1) (hp_byt h2) e1 e2
      simp only [Bool.false_eq_true, if_false, Bool.false_or, he, decide_true, Bool.true_and]
      unfold cI
      by_cases a : cel p 8 < cel q 8
      · simp [a]
      · by_cases b : cel p 8 > cel q 8
        · simp [a, b]
        · simp [a, b]
theorem lessP_irr (p : List Int) : lessP p p = false := by unfold lessP; rw [lessB_irr]; simp
theorem lessP_trans {p q r : List Int} (h1 : lessP p q = true) (h2 : lessP q r = true) : lessP p r = true := by
  unfold lessP at *
  simp only [Bool.or_eq_true, Bool.and_eq_true, decide_eq_true_eq] at *
  rcases h1 with h1 | ⟨h1, h1'⟩
  · rcases h2 with h2 | ⟨h2, _⟩
    · exact .inl (less_trans h1 h2)
    · exact .inl (h2 ▸ h1)
  · rcases h2 with h2 | ⟨h2, h2'⟩
    · exact .inl (h1 ▸ h2)
    · exact .inr ⟨h1.trans h2, by omega⟩
/-- of two points that are no order is one -/
theorem lessP_tot {p q : List Int} (hp0 : okP p) (hq0 : okP q) (h1 : lessP p q = false) (h2 : lessP q p = false) : p = q := by
  unfold lessP at h1 h2
  simp only [Bool.or_eq_false_iff, Bool.and_eq_false_iff, decide_eq_false_iff_not] at h1 h2
  have he := lessB_tot (hp_byt hp0) (hp_byt hq0) h1.1 h2.1
  refine pt_ext hp0 hq0 he ?_
  have a := h1.2.resolve_left fun h => h he
  have b := h2.2.resolve_left fun h => h he.symm
  omega
theorem lessP_asym {p q : List Int} (h : lessP p q = true) : lessP q p = false := by
  cases e : lessP q p with
  | false => rfl
  | true => have := lessP_trans h e; rw [lessP_irr] at this; cases this
theorem i36 : (Try.prog.info? 36).map (·.size) = some 8 := by kernel_rfl
theorem bv8 {x : List Int} (h : x.length = 8) : (bvals x).length = 8 := by simp [bvals, h]
attribute [local irreducible] bvals ptV
theorem uCmpI (a b : Int) (w : World) : Calls Try.prog 45 #[.int .i64 a, .int .i64 b] w fun e w' => e = .returned (.int .i64 (cI a b)) ∧ w = w' := by
  have hn : ∀ (x : Int) (w : World), Calls Try.prog 51 #[.int .i64 x] w fun e w' => e = .returned (.bool false) ∧ w = w' := fun x w => by
    go_enter Try.func51, Try.ntmps51
    go_wp2
    go_ret
    exact ⟨by simp, rfl⟩
  unfold cI
  by_cases h1 : a < b
  · rw [if_pos h1]
    go_enter Try.func45, Try.ntmps45
    go_wp2_with (first | (go_at_call 51; refine (hn _ _).mono ?_; rintro e w' ⟨rfl, rfl⟩) | fail)
    go_ret
    exact ⟨rfl, rfl⟩
  · rw [if_neg h1]
    by_cases h2 : a > b
    · rw [if_pos h2]
      have h3 : b < a := h2
      go_enter Try.func45, Try.ntmps45
      go_wp2_with (first | (go_at_call 51; refine (hn _ _).mono ?_; rintro e w' ⟨rfl, rfl⟩) | fail)
      go_ret
      exact ⟨rfl, rfl⟩
    · rw [if_neg h2]
      have h3 : ¬ b < a := h2
      go_enter Try.func45, Try.ntmps45
      go_wp2_with (first | (go_at_call 51; refine (hn _ _).mono ?_; rintro e w' ⟨rfl, rfl⟩) | fail)
      go_ret
      exact ⟨rfl, rfl⟩
set_option maxHeartbeats 2000000 in
theorem uOrder (p q : List Int) (w : World) (h1 : okP p) (h2 : okP q) :
    Calls Try.prog 36 #[.agg (ptV p).toArray, .agg (ptV q).toArray] w fun e w' => e = .returned (.int .i64 (cmpP p q)) ∧ Gw w w' := by
  obtain ⟨v, hv⟩ : ∃ v, (w.alloc (Obj.cells (ptV p).toArray 38)).alloc (Obj.cells (ptV q).toArray 38) = v := ⟨_, rfl⟩
  have G0 : Hid (Gw w v) := by subst hv; exact (Gw.alloc _ _).trans (Gw.alloc _ _)
  obtain ⟨N, hN⟩ : ∃ N, w.heap.size = N := ⟨_, rfl⟩
  have R0 : BL v N (ptV p) 38 := by subst hv hN; exact bl_keep (heap_alloc_last w _) (Below.heap_alloc _ _ _ (by simp))
  have R1 : BL v (N + 1) (ptV q) 38 := by
    subst hv hN
    have := heap_alloc_last (w.alloc (Obj.cells (ptV p).toArray 38)) (Obj.cells (ptV q).toArray 38)
    rw [World.size_alloc] at this
    exact this
  have K : ∀ w', Below v.heap.size v w' → (w'.rangeAt N 0 (bvals (hp p)) ∧ w'.rangeAt (N + 1) 0 (bvals (hp q))) ∧ w'.cell? ⟨N, 8, none⟩ = some (.int .i64 (cel p 8)) ∧ w'.cell? ⟨N + 1, 8, none⟩ = some (.int .i64 (cel q 8)) := fun w' hb => by
    obtain ⟨a1, a2⟩ := pt_rng h1 (range_of (bl_keep R0 (hb.block N (bl_lt R0))))
    obtain ⟨b1, b2⟩ := pt_rng h2 (range_of (bl_keep R1 (hb.block (N + 1) (bl_lt R1))))
    rw [Nat.zero_add] at a2 b2
    exact ⟨⟨a1, b1⟩, a2, b2⟩
  have KK := Lib.hid K
  have L1 := Lib.hid (hp_len h1)
  have L2 := Lib.hid (hp_len h2)
  clear R0 R1 K h1 h2
  have R := Lib.hid (KK.out v (Below.refl _ _)).1
  unfold cmpP
  have LS1 := Lib.hid (fun w => uLess (hp p) (hp q) w L1.out L2.out)
  have LS2 := Lib.hid (fun w => uLess (hp q) (hp p) w L2.out L1.out)
  have CI := Lib.hid (fun w => uCmpI (cel p 8) (cel q 8) w)
  generalize hp p = x at *
  generalize hp q = y at *
  generalize cel p 8 = a at *
  generalize cel q 8 = b at *
  generalize cI a b = c at *
  have T1 := Lib.hid True.intro
  cases e1 : lessB x y with
  | true =>
    rw [e1] at LS1
    simp only [if_true]
    go_enter Try.func36, Try.ntmps36
    go_upto_region 1 with (fail)
    go_wp2_with (first
      | (refine wpList_load_midG (by rfl) 36 (.tmp 5) rfl N 0 rfl (bvals x) _ R.out.1 Try.underlying36 rfl (szL i36 (bv8 L1.out)) ?_)
      | (refine wpList_load_midG (by rfl) 36 (.tmp 7) rfl (N + 1) 0 rfl (bvals y) _ R.out.2 Try.underlying36 rfl (szL i36 (bv8 L2.out)) ?_)
      | (go_at_call 44; refine (LS1.out _).mono ?_; rintro e w1 ⟨rfl, g1⟩; have G1 := Lib.hid (G0.out.trans g1); clear g1)
      | fail)
    go_ret
    exact ⟨rfl, G1.out⟩
  | false =>
    rw [e1] at LS1
    simp only [Bool.false_eq_true, if_false]
    cases e2 : lessB y x with
    | true =>
      rw [e2] at LS2
      simp only [if_true]
      go_enter Try.func36, Try.ntmps36
      go_upto_region 1 with (fail)
      go_wp2_with (first
        | (refine wpList_load_midG (by rfl) 36 (.tmp 5) rfl N 0 rfl (bvals x) _ R.out.1 Try.underlying36 rfl (szL i36 (bv8 L1.out)) ?_)
        | (refine wpList_load_midG (by rfl) 36 (.tmp 7) rfl (N + 1) 0 rfl (bvals y) _ R.out.2 Try.underlying36 rfl (szL i36 (bv8 L2.out)) ?_)
        | (go_at_call 44; clear T1; refine (LS1.out _).mono ?_; rintro e w1 ⟨rfl, g1⟩; have G1 := Lib.hid (G0.out.trans g1); have R2 := Lib.hid (KK.out w1 g1.below).1; clear g1)
        | (refine wpList_load_midG (by rfl) 36 (.tmp 10) rfl (N + 1) 0 rfl (bvals y) _ R2.out.2 Try.underlying36 rfl (szL i36 (bv8 L2.out)) ?_)
        | (refine wpList_load_midG (by rfl) 36 (.tmp 12) rfl N 0 rfl (bvals x) _ R2.out.1 Try.underlying36 rfl (szL i36 (bv8 L1.out)) ?_)
        | (go_at_call 44; refine (LS2.out _).mono ?_; rintro e w2 ⟨rfl, g1⟩; have G2 := Lib.hid (G1.out.trans g1); clear g1)
        | fail)
      go_ret
      exact ⟨rfl, G2.out⟩
    | false =>
      rw [e2] at LS2
      simp only [Bool.false_eq_true, if_false]
      go_enter Try.func36, Try.ntmps36
      go_upto_region 1 with (fail)
      go_wp2_with (first
        | (refine wpList_load_midG (by rfl) 36 (.tmp 5) rfl N 0 rfl (bvals x) _ R.out.1 Try.underlying36 rfl (szL i36 (bv8 L1.out)) ?_)
        | (refine wpList_load_midG (by rfl) 36 (.tmp 7) rfl (N + 1) 0 rfl (bvals y) _ R.out.2 Try.underlying36 rfl (szL i36 (bv8 L2.out)) ?_)
        | (go_at_call 44; clear T1; refine (LS1.out _).mono ?_; rintro e w1 ⟨rfl, g1⟩; have G1 := Lib.hid (G0.out.trans g1); have GB := Lib.hid g1; have R2 := Lib.hid (KK.out w1 g1.below).1; clear g1)
        | (refine wpList_load_midG (by rfl) 36 (.tmp 10) rfl (N + 1) 0 rfl (bvals y) _ R2.out.2 Try.underlying36 rfl (szL i36 (bv8 L2.out)) ?_)
        | (refine wpList_load_midG (by rfl) 36 (.tmp 12) rfl N 0 rfl (bvals x) _ R2.out.1 Try.underlying36 rfl (szL i36 (bv8 L1.out)) ?_)
        | (go_at_call 44; refine (LS2.out _).mono ?_; rintro e w2 ⟨rfl, g1⟩; have G2 := Lib.hid (G1.out.trans g1); have C3 := (KK.out w2 (GB.out.trans g1).below).2; have c1 := C3.1; have c2 := C3.2; clear C3 g1)
        | (go_at_call 45; refine (CI.out _).mono ?_; rintro e w3 ⟨rfl, rfl⟩)
        | fail)
      go_ret
      exact ⟨rfl, G2.out⟩
end Go.Proofs.Ytdggnmlhgglccaa
