/-
  may.
-/
import Derived.Test.YtdggnmlhgglccaaU4
namespace Go.Proofs.Ytdggnmlhgglccaa
open Go.RowKit
set_option maxRecDepth 100000
theorem vals_at {S : Sch} {r : List Int} {i k : Nat} (h : S[i]? = some (some k)) (hl : r.length = S.length) : (vals S r)[i]? = some (.int .i64 (cel r i)) := by
  have hi : i < S.length := (List.getElem?_eq_some_iff.1 h).1
  unfold vals
  rw [List.getElem?_zipWith, h, List.getElem?_eq_getElem (by omega)]
  simp [cellV, cel, List.getD, show i < r.length by omega]
theorem cn_amt {c : Cn} (h : c.r.length = 10) : (cnV c)[8]? = some (.int .i64 (amt c)) := by
  unfold cnV
  rw [List.getElem?_append_left (by rw [vals_len (by rw [h]; rfl)]; decide)]
  exact vals_at (k := 7) rfl (by rw [h]; rfl)
theorem pt_at {p : List Int} (h : okP p) : (ptV p)[8]? = some (.int .i64 (cel p 8)) := vals_at (k := 1) rfl (okT_len h)
theorem Cn.ok.len {c : Cn} (h : c.ok) : c.r.length = 10 := okT_len h
instance (L : List Stp) (p : List Int) (c : Cn) : Decidable (mayAdd L p c) := by unfold mayAdd; exact inferInstance
theorem may_eq {L : List Stp} {p : List Int} {c : Cn} (h : okS L) : decide (mayAdd L p c) = (!(setF L p).isSome && (addB (setT L) (amt c) && (decide (0 < amt c) && (decide (0 ≤ cel p 8) && decide (cel p 8 ≤ 255))))) := by
  have I := inv_of h
  have h1 := I.nn
  have h2 := I.mx
  unfold maxM at h2
  have e : (setF L p).isSome = false ↔ setF L p = none := by cases setF L p <;> simp
  have e2 : mayAdd L p c ↔ (setF L p).isSome = false ∧ addB (setT L) (amt c) = true ∧ 0 < amt c ∧ 0 ≤ cel p 8 ∧ cel p 8 ≤ 255 := by
    unfold mayAdd
    rw [e, add_iff]
    unfold maxM
    constructor
    · rintro ⟨a, b, d, f, g⟩
      exact ⟨a, ⟨h1, h2, by omega, by omega, d⟩, b, f, g⟩
    · rintro ⟨a, ⟨_, _, _, _, d⟩, b, f, g⟩
      exact ⟨a, b, d, f, g⟩
  rw [Bool.eq_iff_iff]
  simp only [decide_eq_true_eq, Bool.and_eq_true, Bool.not_eq_true', e2]
theorem getD_len {L : List Stp} (h : okS L) (p : List Int) : ((setF L p).getD cn0).r.length = 10 := by
  cases e : setF L p with
  | none => exact cn0_len
  | some c => exact ((inv_of h).ok p c e).2.1.len
attribute [local irreducible] ptV cnV zeros
set_option maxHeartbeats 4000000 in
theorem uMayC (S : Nat) (L : List Stp) (P : Nat → Prop) (p : List Int) (c : Cn) (w : World) (h : SetIs w S L P) (hp : okP p) (hc : c.ok) :
    Calls Try.prog 27 #[.pointer (some ⟨S, 0, none⟩), .agg (ptV p).toArray, .agg (cnV c).toArray] w fun e w' => e = .returned (.bool (decide (mayAdd L p c))) ∧ Below w.heap.size w w' := by
  obtain ⟨N, hN⟩ : ∃ N, w.heap.size = N := ⟨_, rfl⟩
  have HN := Lib.hid hN
  have C1 : Hid (∀ w' : World, (∀ q, q < N → w'.heap[q]? = w.heap[q]?) → w'.cell? ⟨S, 1, none⟩ = some (.int .i64 (setT L))) := fun w' hw => by
    obtain ⟨m, A, k, h⟩ := h
    exact (World.cell?_of_block (w := w) (a := ⟨S, 1, none⟩) (hw S (by rw [← hN]; exact h.lt S h.inS))).trans h.c1
  have OK : okS L := by obtain ⟨m, A, k, h⟩ := h; exact h.ok
  rw [may_eq OK]
  have LD := Lib.hid (getD_len OK p)
  clear OK
  have HS := Lib.hid h
  have HP := Lib.hid hp
  have HC := Lib.hid hc
  have hz : ∀ w, (zeroValue 47).run Try.prog w = .ok (.agg (cnV cn0).toArray) w := z47
  clear h hp hc
  obtain ⟨v, hv⟩ : ∃ v, ((w.alloc (Obj.cells (ptV p).toArray 38)).alloc (Obj.cells (cnV c).toArray 47)) = v := ⟨_, rfl⟩
  have RP : Hid (BL v N (ptV p) 38) := by
    subst hv hN
    exact bl_keep (heap_alloc_last w _) (Below.heap_alloc _ _ _ (by simp))
  have RC : Hid (BL v (N + 1) (cnV c) 47) := by
    subst hv hN
    have := heap_alloc_last (w.alloc (Obj.cells (ptV p).toArray 38)) (Obj.cells (cnV c).toArray 47)
    rw [World.size_alloc] at this
    exact this
  have BV : Hid (Below N w v) := by subst hv hN; exact ((Below.refl _ w).alloc (Nat.le_refl _) _).alloc (by simp) _
  have VS : Hid (v.heap.size = N + 2) := by subst hv hN; show _ = _; rw [World.size_alloc, World.size_alloc]
  have GV : Hid (SetIs v S L P) := Lib.hid (HS.out.grow (by rw [HN.out]; exact BV.out))
  have CG := Lib.hid (uGet S L P p v GV.out HP.out)
  have CA := Lib.hid (uAdd (setT L) (amt c))
  have cA0 : Hid ((cnV c)[8]? = some (.int .i64 (amt c))) := cn_amt HC.out.len
  have cP0 : Hid ((ptV p)[8]? = some (.int .i64 (cel p 8))) := pt_at HP.out
  generalize (setF L p).isSome = D at *
  generalize (setF L p).getD cn0 = C at *
  generalize setT L = T at *
  generalize amt c = x at *
  generalize cel p 8 = y at *
  generalize addB T x = E at *
  go_enter Try.func27, Try.ntmps27
  go_upto_region 2 with (first
    | (refine wpList_load_midG (by rfl) 38 (.tmp 4) rfl N 0 rfl (ptV p) _ (range_of RP.out) Try.underlying38 rfl (szP HP.out) ?_)
    | (go_at_call 21; refine CG.out.mono ?_; rintro e w1 ⟨rfl, hb1⟩; have B1 := Lib.hid hb1; clear hb1)
    | (refine wpList_store_rowTo rfl 47 (.tmp 7) (.tmp 15) rfl rfl _ (cnV C).toArray rfl rfl 47 _ (heap_alloc_last w1 _) (szCA LD.out) (szCC cn0_len LD.out) (all_oneCell_toArray (cn_one _)) ?_)
    | fail)
  have B2 : Hid (Below N w w1) := Lib.hid (BV.out.trans (B1.out.mono (by rw [VS.out]; omega)))
  have N1 : Hid (N ≤ w1.heap.size) := by have := B2.out.size; rw [HN.out] at this; exact this
  have B3 : Hid (Below N w ((w1.alloc (Obj.cells (cnV cn0).toArray 47)).setRow w1.heap.size (cnV C).toArray)) := Lib.hid (below_setRow (B2.out.alloc N1.out _) N1.out _)
  have K3 : Hid (∀ q, q < N + 2 → ((w1.alloc (Obj.cells (cnV cn0).toArray 47)).setRow w1.heap.size (cnV C).toArray).heap[q]? = v.heap[q]?) := fun q hq => by
    have h1 : q < w1.heap.size := by have := B1.out.size; rw [VS.out] at this; omega
    exact (setRow_other _ _ _ _ (by omega)).trans ((Below.heap_alloc w1 _ q h1).trans (B1.out.block q (by rw [VS.out]; exact hq)))
  generalize (w1.alloc (Obj.cells (cnV cn0).toArray 47)).setRow w1.heap.size (cnV C).toArray = v2 at *
  have c1 := C1.out v2 (fun q hq => B3.out.block q hq)
  have cA : v2.cell? ⟨N + 1, 8, none⟩ = some (.int .i64 x) := (World.cell?_of_block (w := v) (a := ⟨N + 1, 8, none⟩) (K3.out _ (by show N + 1 < _; omega))).trans (by have := range_cell (range_of RC.out) cA0.out; rwa [Nat.zero_add] at this)
  have cP : v2.cell? ⟨N, 8, none⟩ = some (.int .i64 y) := (World.cell?_of_block (w := v) (a := ⟨N, 8, none⟩) (K3.out _ (by show N < _; omega))).trans (by have := range_cell (range_of RP.out) cP0.out; rwa [Nat.zero_add] at this)
  clear hv
  go_quiet ((go_at_call 38; exact Calls.quiet_of_same ((CA.out _).mono fun _ _ h => ⟨h.1, h.2.symm⟩)))
  have B4 : Hid (Below w.heap.size w (v2.drewN nq)) := by show Below _ _ _; rw [HN.out]; exact below_drewN B3.out nq
  have cA' : (v2.drewN nq).cell? ⟨N + 1, 8, none⟩ = some (.int .i64 x) := cA
  have cP' : (v2.drewN nq).cell? ⟨N, 8, none⟩ = some (.int .i64 y) := cP
  generalize v2.drewN nq = v4 at *
  clear cA cP c1
  cases D
  · cases E
    · go_wp2
      go_ret
      exact ⟨by first | rfl | (simp [*]; done) | (simp [*]; omega) | (simp; omega), by first | exact B4.out | (rw [← HN.out]; exact B4.out)⟩
    · by_cases h0 : 0 < x
      · by_cases h1 : 0 ≤ y
        · by_cases h2 : y ≤ 255
          · go_wp2
            go_ret
            exact ⟨by first | rfl | (simp [*]; done) | (simp [*]; omega) | (simp; omega), by first | exact B4.out | (rw [← HN.out]; exact B4.out)⟩
          · go_wp2
            go_ret
            exact ⟨by first | rfl | (simp [*]; done) | (simp [*]; omega) | (simp; omega), by first | exact B4.out | (rw [← HN.out]; exact B4.out)⟩
        · go_wp2
          go_ret
          exact ⟨by first | rfl | (simp [*]; done) | (simp [*]; omega) | (simp; omega), by first | exact B4.out | (rw [← HN.out]; exact B4.out)⟩
      · go_wp2
        go_ret
        exact ⟨by first | rfl | (simp [*]; done) | (simp [*]; omega) | (simp; omega), by first | exact B4.out | (rw [← HN.out]; exact B4.out)⟩
  · go_wp2
    go_ret
    exact ⟨by first | rfl | (simp [*]; done) | (simp [*]; omega) | (simp; omega), by first | exact B4.out | (rw [← HN.out]; exact B4.out)⟩
end Go.Proofs.Ytdggnmlhgglccaa
