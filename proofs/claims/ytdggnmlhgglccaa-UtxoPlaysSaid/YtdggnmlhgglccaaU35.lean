/-
  The document's order of hashes, of points.
-/
import Derived.Test.YtdggnmlhgglccaaU22
import Derived.Test.YtdggnmlhgglccaaU35a
namespace Go.Proofs.Ytdggnmlhgglccaa
open Go.RowKit
set_option maxRecDepth 100000
/-- the first place at which two rows of bytes part tells which is less -/
theorem less_at : ∀ (i : Nat) {x y : List Int}, Byt x → Byt y → x.length = y.length → i < x.length → (∀ j, j < i → x.getD j 0 = y.getD j 0) → x.getD i 0 ≠ y.getD i 0 → lessB x y = decide (x.getD i 0 < y.getD i 0)
  | _, [], _, _, _, _, h, _, _ => by simp at h
  | _, _ :: _, [], _, _, h, _, _, _ => by simp at h
  | 0, a :: x, b :: y, hx, hy, _, _, _, hn => by
    have ha := hx a (by simp)
    have hb := hy b (by simp)
    have hn : a ≠ b := hn
    show decide (Lib.compareBytes (Lib.bytesOf (a :: x)) (Lib.bytesOf (b :: y)) < 0) = decide (a < b)
    simp only [Lib.bytesOf, List.map_cons, Lib.compareBytes]
    have e1 : (UInt8.ofNat a.toNat < UInt8.ofNat b.toNat) ↔ a < b := by
      rw [UInt8.lt_iff_toNat_lt]; simp; omega
    have e2 : (UInt8.ofNat b.toNat < UInt8.ofNat a.toNat) ↔ b < a := by
      rw [UInt8.lt_iff_toNat_lt]; simp; omega
    by_cases h : a < b
    · rw [if_pos (e1.2 h)]; simp [h]
    · rw [if_neg (fun e => h (e1.1 e)), if_pos (e2.2 (by omega))]; simp [h]
  | i + 1, a :: x, b :: y, hx, hy, hl, hi, he, hn => by
    have h0 : a = b := he 0 (by omega)
    subst h0
    have := less_at i (x := x) (y := y) (fun z hz => hx z (List.mem_cons_of_mem _ hz)) (fun z hz => hy z (List.mem_cons_of_mem _ hz)) (by simpa using hl) (by simpa using hi) (fun j hj => he (j + 1) (by omega)) hn
    rw [show (a :: x).getD (i + 1) 0 = x.getD i 0 from rfl, show (a :: y).getD (i + 1) 0 = y.getD i 0 from rfl, ← this]
    show decide (Lib.compareBytes (Lib.bytesOf (a :: x)) (Lib.bytesOf (a :: y)) < 0) = decide (Lib.compareBytes (Lib.bytesOf x) (Lib.bytesOf y) < 0)
    simp only [Lib.bytesOf, List.map_cons, Lib.compareBytes, UInt8.lt_irrefl, if_false]
    rfl
theorem less_same {x y : List Int} (hl : x.length = 8) (hm : y.length = 8) (he : ∀ j, j < 8 → x.getD j 0 = y.getD j 0) : lessB x y = false := by
  have : x = y := by
    apply List.ext_getElem (by omega)
    intro i h1 h2
    have := he i (by omega)
    simpa [List.getD, List.getElem?_eq_getElem h1, List.getElem?_eq_getElem h2] using this
  rw [this, lessB_irr]
theorem meas_up8 {k n : Nat} (hk : k < n) : n - (intOf (.int .i64 ((k : Int) + 1))).toNat < n - (intOf (.int .i64 (k : Int))).toNat := by
  show n - ((k : Nat) + 1 : Int).toNat < n - ((k : Nat) : Int).toNat
  omega
attribute [local irreducible] bvals ptV
set_option maxHeartbeats 2000000 in
theorem dLess (x y : List Int) (w : World) (hx : x.length = 8) (hy : y.length = 8) (bx : Byt x) (by' : Byt y) :
    Calls Try.prog 37 #[.agg (bvals x).toArray, .agg (bvals y).toArray] w fun e w' => e = .returned (.bool (lessB x y)) ∧ Below w.heap.size w w' := by
  obtain ⟨v, hv⟩ : ∃ v, (w.alloc (Obj.cells (bvals x).toArray 36)).alloc (Obj.cells (bvals y).toArray 36) = v := ⟨_, rfl⟩
  have G0 : Hid (Below w.heap.size w v) := by subst hv; exact ((Below.refl _ w).alloc (Nat.le_refl _) _).alloc (by simp) _
  obtain ⟨N, hN⟩ : ∃ N, w.heap.size = N := ⟨_, rfl⟩
  have R0 : BL v N (bvals x) 36 := by subst hv hN; exact bl_keep (heap_alloc_last w _) (Below.heap_alloc _ _ _ (by simp))
  have R1 : BL v (N + 1) (bvals y) 36 := by
    subst hv hN
    have := heap_alloc_last (w.alloc (Obj.cells (bvals x).toArray 36)) (Obj.cells (bvals y).toArray 36)
    rw [World.size_alloc] at this
    exact this
  have CC : Hid (∀ (n j : Nat), j < 8 → (v.drewN n).cell? ⟨N, j, none⟩ = some (.int .u8 (x.getD j 0)) ∧ (v.drewN n).cell? ⟨N + 1, j, none⟩ = some (.int .u8 (y.getD j 0))) := Lib.hid fun n j hj => by
    have h1 := range_of R0 j (.int .u8 (x.getD j 0)) (by simp [bvals, List.getD, List.getElem?_eq_getElem (show j < x.length by omega)])
    have h2 := range_of R1 j (.int .u8 (y.getD j 0)) (by simp [bvals, List.getD, List.getElem?_eq_getElem (show j < y.length by omega)])
    rw [Nat.zero_add] at h1 h2
    exact ⟨h1, h2⟩
  have HX := Lib.hid (And.intro hx (And.intro hy (And.intro bx by')))
  clear R0 R1 hx hy bx by'
  go_enter Try.func37, Try.ntmps37
  go_wp2
  clear hv
  go_loopw [5] (fun iv wr => ∃ i n : Nat, i ≤ 8 ∧ iv = .int .i64 i ∧ wr = v.drewN n ∧ (∀ j, j < i → x.getD j 0 = y.getD j 0)) (fun iv _ => 8 - (intOf iv).toNat)
  case atStart => exact ⟨0, 0, by omega, rfl, rfl, fun j h => by omega⟩
  case round =>
    obtain ⟨i, n, hi, rfl, rfl, he⟩ := hrel
    have HE := Lib.hid he
    by_cases hlt : i < 8
    · obtain ⟨c1, c2⟩ := CC.out n i hlt
      obtain ⟨W, hW⟩ : ∃ W, v.drewN n = W := ⟨_, rfl⟩
      rw [hW] at c1 c2 ⊢
      have i0 : (0 : Int) ≤ (i : Int) := by omega
      have i1 : (i : Int) < 8 := by omega
      have HI := Lib.hid hlt
      obtain ⟨a, ha⟩ : ∃ a, x.getD i 0 = a := ⟨_, rfl⟩
      obtain ⟨b, hb⟩ : ∃ b, y.getD i 0 = b := ⟨_, rfl⟩
      rw [ha] at c1
      rw [hb] at c2
      have HA := Lib.hid ha
      have HB := Lib.hid hb
      have HW := Lib.hid hW
      clear he hi hlt ha hb hW
      by_cases hab : a = b
      · subst hab
        go_wp2
        go_quiet (fail)
        go_wp2
        go_roundw
        case rel => exact ⟨i + 1, n + nq, HI.out, rfl, by rw [← HW.out, World.drewN_drewN], fun j hj => by
          rcases Nat.lt_succ_iff_lt_or_eq.1 hj with h | h
          · exact HE.out j h
          · rw [h, HA.out, HB.out]⟩
        case measure => exact meas_up8 HI.out
      · have hne : (a == b) = false := by simp [hab]
        go_wp2
        go_quiet (fail)
        obtain ⟨W2, hW2⟩ : ∃ W2, W.drewN nq = W2 := ⟨_, rfl⟩
        have d1 : W2.cell? ⟨N, i, none⟩ = some (.int .u8 a) := by rw [← hW2]; exact c1
        have d2 : W2.cell? ⟨N + 1, i, none⟩ = some (.int .u8 b) := by rw [← hW2]; exact c2
        have HW2 := Lib.hid hW2
        rw [hW2]
        clear c1 c2 hW2
        go_wp2
        go_quiet (fail)
        go_wp2
        go_ret
        refine ⟨?_, ?_⟩
        · obtain ⟨l1, l2, b1, b2⟩ := HX.out
          have := less_at i b1 b2 (by omega) (by have := HI.out; omega) HE.out (by rw [HA.out, HB.out]; exact hab)
          rw [HA.out, HB.out] at this
          rw [this]
          rfl
        · rw [← HW2.out, ← HW.out]
          exact below_drewN (below_drewN (below_drewN (hN ▸ G0.out) _) _) _
    · obtain rfl : i = 8 := by omega
      go_wp2
      go_ret
      obtain ⟨l1, l2, _⟩ := HX.out
      exact ⟨by rw [less_same l1 l2 HE.out]; rfl, below_drewN (hN ▸ G0.out) _⟩
set_option maxHeartbeats 300000 in
theorem dLessP (p q : List Int) (w : World) (h1 : okP p) (h2 : okP q) :
    Calls Try.prog 22 #[.agg (ptV p).toArray, .agg (ptV q).toArray] w fun e w' => e = .returned (.bool (lessP p q)) ∧ Below w.heap.size w w' := by
  obtain ⟨v, hv⟩ : ∃ v, (w.alloc (Obj.cells (ptV p).toArray 38)).alloc (Obj.cells (ptV q).toArray 38) = v := ⟨_, rfl⟩
  have G0 : Hid (Below w.heap.size w v) := by subst hv; exact ((Below.refl _ w).alloc (Nat.le_refl _) _).alloc (by simp) _
  obtain ⟨N, hN⟩ : ∃ N, w.heap.size = N := ⟨_, rfl⟩
  have R0 : BL v N (ptV p) 38 := by subst hv hN; exact bl_keep (heap_alloc_last w _) (Below.heap_alloc _ _ _ (by simp))
  have R1 : BL v (N + 1) (ptV q) 38 := by
    subst hv hN
    have := heap_alloc_last (w.alloc (Obj.cells (ptV p).toArray 38)) (Obj.cells (ptV q).toArray 38)
    rw [World.size_alloc] at this
    exact this
  have K : ∀ w', Below v.heap.size v w' → (w'.rangeAt N 0 (bvals (hp p)) ∧ w'.rangeAt (N + 1) 0 (bvals (hp q))) ∧ w'.cell? ⟨N, 8, none⟩ = some (.int .i64 (cel p 8)) ∧ w'.cell? ⟨N + 1, 8, none⟩ = some (.int .i64 (cel q 8)) := fun w' hb => by
    obtain ⟨a1, a2⟩ := pt_rng h1 (range_of (bl_keep R0 (hb.block N (bl_lt R0))))
    obtain ⟨b1, b2⟩ := pt_rng h2 (range_of (bl_keep R1 (hb.block (N + 1) (bl_lt R1))))
    rw [Nat.zero_add] at a2 b2
    exact ⟨⟨a1, b1⟩, a2, b2⟩
  have KK := Lib.hid K
  have L1 := Lib.hid (hp_len h1)
  have L2 := Lib.hid (hp_len h2)
  have HQ : ∀ w', (Op.equalIn 10000 36 (.agg (bvals (hp p)).toArray) (.agg (bvals (hp q)).toArray)).run Try.prog w' = .ok (decide (hp p = hp q)) w' := fun w' => eq_hash 9998 _ _ (hp_len h1) (hp_len h2) w'
  have LS1 := Lib.hid (fun w => dLess (hp p) (hp q) w L1.out L2.out (hp_byt h1) (hp_byt h2))
  clear R0 R1 K h1 h2
  have R := Lib.hid (KK.out v (Below.refl _ _)).1
  unfold lessP
  generalize hp p = x at *
  generalize hp q = y at *
  generalize cel p 8 = a at *
  generalize cel q 8 = b at *
  cases e1 : lessB x y with
  | true =>
    rw [e1] at LS1
    simp only [Bool.true_or]
    clear HQ
    go_enter Try.func22, Try.ntmps22
    go_upto_region 1 with (fail)
    go_wp2_with (first
      | (refine wpList_load_mid rfl 36 (.tmp 5) rfl N 0 rfl (bvals x) _ R.out.1 Try.underlying36 rfl (szL i36 (bv8 L1.out)) ?_)
      | (refine wpList_load_mid rfl 36 (.tmp 7) rfl (N + 1) 0 rfl (bvals y) _ R.out.2 Try.underlying36 rfl (szL i36 (bv8 L2.out)) ?_)
      | fail)
    refine (LS1.out _).mono ?_
    rintro e w1 ⟨rfl, g1⟩
    have G1 := Lib.hid (G0.out.trans (g1.mono G0.out.size))
    clear g1
    go_wp2_with fail
    go_ret
    exact ⟨rfl, hN ▸ G1.out⟩
  | false =>
    rw [e1] at LS1
    simp only [Bool.false_or]
    by_cases e2 : x = y
    · have hd : decide (x = y) = true := decide_eq_true e2
      simp only [hd] at HQ ⊢
      simp only [Bool.true_and]
      go_enter Try.func22, Try.ntmps22
      go_upto_region 1 with (fail)
      clear e2 hd
      go_wp2_with (first
        | (refine wpList_load_mid rfl 36 (.tmp 5) rfl N 0 rfl (bvals x) _ R.out.1 Try.underlying36 rfl (szL i36 (bv8 L1.out)) ?_)
        | (refine wpList_load_mid rfl 36 (.tmp 7) rfl (N + 1) 0 rfl (bvals y) _ R.out.2 Try.underlying36 rfl (szL i36 (bv8 L2.out)) ?_)
        | fail)
      refine (LS1.out _).mono ?_
      rintro e w1 ⟨rfl, g1⟩
      have G1 := Lib.hid (G0.out.trans (g1.mono G0.out.size))
      have K1 := KK.out w1 g1
      have R2 := Lib.hid K1.1
      have c1 := K1.2.1
      have c2 := K1.2.2
      clear K1 g1 R KK
      go_wp2_with (first
        | (refine wpList_load_midG (by rfl) 36 (.tmp 11) rfl N 0 rfl (bvals x) _ R2.out.1 Try.underlying36 rfl (szL i36 (bv8 L1.out)) ?_)
        | (refine wpList_load_midG (by rfl) 36 (.tmp 13) rfl (N + 1) 0 rfl (bvals y) _ R2.out.2 Try.underlying36 rfl (szL i36 (bv8 L2.out)) ?_)
        | fail)
      go_ret
      exact ⟨rfl, hN ▸ G1.out⟩
    · have hd : decide (x = y) = false := decide_eq_false e2
      simp only [hd] at HQ ⊢
      simp only [Bool.false_and]
      go_enter Try.func22, Try.ntmps22
      go_upto_region 1 with (fail)
      clear e2 hd
      go_wp2_with (first
        | (refine wpList_load_mid rfl 36 (.tmp 5) rfl N 0 rfl (bvals x) _ R.out.1 Try.underlying36 rfl (szL i36 (bv8 L1.out)) ?_)
        | (refine wpList_load_mid rfl 36 (.tmp 7) rfl (N + 1) 0 rfl (bvals y) _ R.out.2 Try.underlying36 rfl (szL i36 (bv8 L2.out)) ?_)
        | fail)
      refine (LS1.out _).mono ?_
      rintro e w1 ⟨rfl, g1⟩
      have G1 := Lib.hid (G0.out.trans (g1.mono G0.out.size))
      have K1 := KK.out w1 g1
      have R2 := Lib.hid K1.1
      have c1 := K1.2.1
      have c2 := K1.2.2
      clear K1 g1 R KK
      go_wp2_with (first
        | (refine wpList_load_midG (by rfl) 36 (.tmp 11) rfl N 0 rfl (bvals x) _ R2.out.1 Try.underlying36 rfl (szL i36 (bv8 L1.out)) ?_)
        | (refine wpList_load_midG (by rfl) 36 (.tmp 13) rfl (N + 1) 0 rfl (bvals y) _ R2.out.2 Try.underlying36 rfl (szL i36 (bv8 L2.out)) ?_)
        | fail)
      go_ret
      exact ⟨rfl, hN ▸ G1.out⟩
end Go.Proofs.Ytdggnmlhgglccaa
