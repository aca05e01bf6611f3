/-
  The document's Coins: Add, where it answers false.
-/
import Derived.Test.YtdggnmlhgglccaaU45a
namespace Go.Proofs.Ytdggnmlhgglccaa
open Go.RowKit
set_option maxRecDepth 100000
attribute [local irreducible] ptV cnV
section
variable {B : Nat} {ps : List (List Int)} {cs : List Cn} {Q : Nat → Prop} {p : List Int} {x : Cn} {w : World}
set_option maxHeartbeats 2000000 in
theorem cAddNo1 (h : CoIs w B ps cs Q) (hp : okP p) (hx : x.ok) (hf : Fine cs) (hl : ps.length ≤ 1000) (g1 : hasP ps p = true) :
    Calls Try.prog 10 #[.pointer (some ⟨B, 0, none⟩), .agg (ptV p).toArray, .agg (cnV x).toArray] w fun e w' => e = .returned (.bool false) ∧ Below w.heap.size w w' := by
  obtain ⟨N, hN⟩ : ∃ N, w.heap.size = N := ⟨_, rfl⟩
  have HN := Lib.hid hN
  have HP := Lib.hid hp
  have HX := Lib.hid hx
  have HL := Lib.hid hl
  have HF := Lib.hid hf
  obtain ⟨v, hv⟩ : ∃ v, ((w.alloc (Obj.cells (ptV p).toArray 38)).alloc (Obj.cells (cnV x).toArray 42)) = v := ⟨_, rfl⟩
  have RP : Hid (BL v N (ptV p) 38) := by
    subst hv hN
    exact bl_keep (heap_alloc_last w _) (Below.heap_alloc _ _ _ (by simp))
  have RC : Hid (BL v (N + 1) (cnV x) 42) := by
    subst hv hN
    have := heap_alloc_last (w.alloc (Obj.cells (ptV p).toArray 38)) (Obj.cells (cnV x).toArray 42)
    rw [World.size_alloc] at this
    exact this
  have BV : Hid (Below N w v) := by subst hv hN; exact ((Below.refl _ w).alloc (Nat.le_refl _) _).alloc (by simp) _
  have VS : Hid (v.heap.size = N + 2) := by subst hv hN; show _ = _; rw [World.size_alloc, World.size_alloc]
  have HCO : Hid (∀ W, Below v.heap.size v W → CoIs W B ps cs Q) := Lib.hid fun W hb => by
    obtain ⟨A, A2, c, c2, h⟩ := h
    exact ⟨A, A2, c, c2, (h.grow (by rw [hN]; exact BV.out)).grow hb⟩
  have CA := Lib.hid (cAt B ps cs Q p v (HCO.out v (Below.refl _ v)) hp hl)
  have HLC : Hid (cs.length ≤ 1000) := Lib.hid (by obtain ⟨A, A2, c, c2, h⟩ := h; have := h.len; omega)
  obtain ⟨k, hk⟩ : ∃ k, idxP ps p = k := ⟨_, rfl⟩
  obtain ⟨a, ha⟩ : ∃ a, cel p 8 = a := ⟨_, rfl⟩
  obtain ⟨m, hm⟩ : ∃ m, amt x = m := ⟨_, rfl⟩
  obtain ⟨t, ht⟩ : ∃ t, totC cs = t := ⟨_, rfl⟩
  have HK := Lib.hid hk
  have HA := Lib.hid ha
  have HM := Lib.hid hm
  have HT := Lib.hid ht
  rw [hk] at CA
  rw [g1] at CA
  clear g1
  clear h hp hx hf hl hk ha hm ht
  go_enter Try.func10, Try.ntmps10
  go_wp2_with (first
    | (refine wpList_load_midG (by rfl) 38 (.tmp 4) rfl N 0 rfl (ptV p) _ (range_of RP.out) Try.underlying38 rfl (szP HP.out) ?_)
    | (go_at_call 25; refine CA.out.mono ?_; rintro e w1 ⟨rfl, hb1⟩; have B1 := Lib.hid hb1; clear hb1)
    | fail)
  have c8 : w1.cell? ⟨N, 8, none⟩ = some (.int .i64 a) := by
    have := (pt_rng HP.out (range_keep1 (range_of RP.out) (B1.out.block N (by rw [VS.out]; omega)))).2
    rw [HA.out, Nat.zero_add] at this
    exact this
  have a8 : w1.cell? ⟨N + 1, 8, none⟩ = some (.int .i64 m) := by
    have := (range_keep1 (range_of RC.out) (B1.out.block (N + 1) (by rw [VS.out]; omega))) 8 _ (cn_amt HX.out.len)
    rw [HM.out, Nat.zero_add] at this
    exact this
  have CT : Hid (∀ n, Calls Try.prog 26 #[.pointer (some ⟨B, 0, none⟩)] (w1.drewN n) fun e w' => e = .returned (.int .i64 t) ∧ w' = w1.drewN n) := Lib.hid fun n => (cTotal B ps cs Q (w1.drewN n) (HCO.out _ (below_drewN B1.out n)) HF.out HLC.out).mono fun e w' h => ⟨by rw [h.1, HT.out], h.2.symm⟩
  clear hv
  go_quiet ((go_at_call 26; exact Calls.quiet_of_same (CT.out _)))
  go_wp2
  go_ret
  exact ⟨rfl, by rw [HN.out]; exact BV.out.trans (below_drewN (B1.out.mono (by rw [VS.out]; omega)) _)⟩
set_option maxHeartbeats 2000000 in
theorem cAddNo2 (h : CoIs w B ps cs Q) (hp : okP p) (hx : x.ok) (hf : Fine cs) (hl : ps.length ≤ 1000) (g1 : hasP ps p = false) (g2 : cel p 8 < 0) :
    Calls Try.prog 10 #[.pointer (some ⟨B, 0, none⟩), .agg (ptV p).toArray, .agg (cnV x).toArray] w fun e w' => e = .returned (.bool false) ∧ Below w.heap.size w w' := by
  obtain ⟨N, hN⟩ : ∃ N, w.heap.size = N := ⟨_, rfl⟩
  have HN := Lib.hid hN
  have HP := Lib.hid hp
  have HX := Lib.hid hx
  have HL := Lib.hid hl
  have HF := Lib.hid hf
  obtain ⟨v, hv⟩ : ∃ v, ((w.alloc (Obj.cells (ptV p).toArray 38)).alloc (Obj.cells (cnV x).toArray 42)) = v := ⟨_, rfl⟩
  have RP : Hid (BL v N (ptV p) 38) := by
    subst hv hN
    exact bl_keep (heap_alloc_last w _) (Below.heap_alloc _ _ _ (by simp))
  have RC : Hid (BL v (N + 1) (cnV x) 42) := by
    subst hv hN
    have := heap_alloc_last (w.alloc (Obj.cells (ptV p).toArray 38)) (Obj.cells (cnV x).toArray 42)
    rw [World.size_alloc] at this
    exact this
  have BV : Hid (Below N w v) := by subst hv hN; exact ((Below.refl _ w).alloc (Nat.le_refl _) _).alloc (by simp) _
  have VS : Hid (v.heap.size = N + 2) := by subst hv hN; show _ = _; rw [World.size_alloc, World.size_alloc]
  have HCO : Hid (∀ W, Below v.heap.size v W → CoIs W B ps cs Q) := Lib.hid fun W hb => by
    obtain ⟨A, A2, c, c2, h⟩ := h
    exact ⟨A, A2, c, c2, (h.grow (by rw [hN]; exact BV.out)).grow hb⟩
  have CA := Lib.hid (cAt B ps cs Q p v (HCO.out v (Below.refl _ v)) hp hl)
  have HLC : Hid (cs.length ≤ 1000) := Lib.hid (by obtain ⟨A, A2, c, c2, h⟩ := h; have := h.len; omega)
  obtain ⟨k, hk⟩ : ∃ k, idxP ps p = k := ⟨_, rfl⟩
  obtain ⟨a, ha⟩ : ∃ a, cel p 8 = a := ⟨_, rfl⟩
  obtain ⟨m, hm⟩ : ∃ m, amt x = m := ⟨_, rfl⟩
  obtain ⟨t, ht⟩ : ∃ t, totC cs = t := ⟨_, rfl⟩
  have HK := Lib.hid hk
  have HA := Lib.hid ha
  have HM := Lib.hid hm
  have HT := Lib.hid ht
  rw [hk] at CA
  rw [g1] at CA
  rw [ha] at g2
  clear g1
  clear h hp hx hf hl hk ha hm ht
  go_enter Try.func10, Try.ntmps10
  go_wp2_with (first
    | (refine wpList_load_midG (by rfl) 38 (.tmp 4) rfl N 0 rfl (ptV p) _ (range_of RP.out) Try.underlying38 rfl (szP HP.out) ?_)
    | (go_at_call 25; refine CA.out.mono ?_; rintro e w1 ⟨rfl, hb1⟩; have B1 := Lib.hid hb1; clear hb1)
    | fail)
  have c8 : w1.cell? ⟨N, 8, none⟩ = some (.int .i64 a) := by
    have := (pt_rng HP.out (range_keep1 (range_of RP.out) (B1.out.block N (by rw [VS.out]; omega)))).2
    rw [HA.out, Nat.zero_add] at this
    exact this
  have a8 : w1.cell? ⟨N + 1, 8, none⟩ = some (.int .i64 m) := by
    have := (range_keep1 (range_of RC.out) (B1.out.block (N + 1) (by rw [VS.out]; omega))) 8 _ (cn_amt HX.out.len)
    rw [HM.out, Nat.zero_add] at this
    exact this
  have CT : Hid (∀ n, Calls Try.prog 26 #[.pointer (some ⟨B, 0, none⟩)] (w1.drewN n) fun e w' => e = .returned (.int .i64 t) ∧ w' = w1.drewN n) := Lib.hid fun n => (cTotal B ps cs Q (w1.drewN n) (HCO.out _ (below_drewN B1.out n)) HF.out HLC.out).mono fun e w' h => ⟨by rw [h.1, HT.out], h.2.symm⟩
  clear hv
  go_quiet ((go_at_call 26; exact Calls.quiet_of_same (CT.out _)))
  go_wp2
  go_ret
  exact ⟨rfl, by rw [HN.out]; exact BV.out.trans (below_drewN (B1.out.mono (by rw [VS.out]; omega)) _)⟩
set_option maxHeartbeats 2000000 in
theorem cAddNo3 (h : CoIs w B ps cs Q) (hp : okP p) (hx : x.ok) (hf : Fine cs) (hl : ps.length ≤ 1000) (g1 : hasP ps p = false) (g2 : 0 ≤ cel p 8) (g3 : cel p 8 > 255) :
    Calls Try.prog 10 #[.pointer (some ⟨B, 0, none⟩), .agg (ptV p).toArray, .agg (cnV x).toArray] w fun e w' => e = .returned (.bool false) ∧ Below w.heap.size w w' := by
  obtain ⟨N, hN⟩ : ∃ N, w.heap.size = N := ⟨_, rfl⟩
  have HN := Lib.hid hN
  have HP := Lib.hid hp
  have HX := Lib.hid hx
  have HL := Lib.hid hl
  have HF := Lib.hid hf
  obtain ⟨v, hv⟩ : ∃ v, ((w.alloc (Obj.cells (ptV p).toArray 38)).alloc (Obj.cells (cnV x).toArray 42)) = v := ⟨_, rfl⟩
  have RP : Hid (BL v N (ptV p) 38) := by
    subst hv hN
    exact bl_keep (heap_alloc_last w _) (Below.heap_alloc _ _ _ (by simp))
  have RC : Hid (BL v (N + 1) (cnV x) 42) := by
    subst hv hN
    have := heap_alloc_last (w.alloc (Obj.cells (ptV p).toArray 38)) (Obj.cells (cnV x).toArray 42)
    rw [World.size_alloc] at this
    exact this
  have BV : Hid (Below N w v) := by subst hv hN; exact ((Below.refl _ w).alloc (Nat.le_refl _) _).alloc (by simp) _
  have VS : Hid (v.heap.size = N + 2) := by subst hv hN; show _ = _; rw [World.size_alloc, World.size_alloc]
  have HCO : Hid (∀ W, Below v.heap.size v W → CoIs W B ps cs Q) := Lib.hid fun W hb => by
    obtain ⟨A, A2, c, c2, h⟩ := h
    exact ⟨A, A2, c, c2, (h.grow (by rw [hN]; exact BV.out)).grow hb⟩
  have CA := Lib.hid (cAt B ps cs Q p v (HCO.out v (Below.refl _ v)) hp hl)
  have HLC : Hid (cs.length ≤ 1000) := Lib.hid (by obtain ⟨A, A2, c, c2, h⟩ := h; have := h.len; omega)
  obtain ⟨k, hk⟩ : ∃ k, idxP ps p = k := ⟨_, rfl⟩
  obtain ⟨a, ha⟩ : ∃ a, cel p 8 = a := ⟨_, rfl⟩
  obtain ⟨m, hm⟩ : ∃ m, amt x = m := ⟨_, rfl⟩
  obtain ⟨t, ht⟩ : ∃ t, totC cs = t := ⟨_, rfl⟩
  have HK := Lib.hid hk
  have HA := Lib.hid ha
  have HM := Lib.hid hm
  have HT := Lib.hid ht
  rw [hk] at CA
  rw [g1] at CA
  rw [ha] at g2 g3
  clear g1
  clear h hp hx hf hl hk ha hm ht
  go_enter Try.func10, Try.ntmps10
  go_wp2_with (first
    | (refine wpList_load_midG (by rfl) 38 (.tmp 4) rfl N 0 rfl (ptV p) _ (range_of RP.out) Try.underlying38 rfl (szP HP.out) ?_)
    | (go_at_call 25; refine CA.out.mono ?_; rintro e w1 ⟨rfl, hb1⟩; have B1 := Lib.hid hb1; clear hb1)
    | fail)
  have c8 : w1.cell? ⟨N, 8, none⟩ = some (.int .i64 a) := by
    have := (pt_rng HP.out (range_keep1 (range_of RP.out) (B1.out.block N (by rw [VS.out]; omega)))).2
    rw [HA.out, Nat.zero_add] at this
    exact this
  have a8 : w1.cell? ⟨N + 1, 8, none⟩ = some (.int .i64 m) := by
    have := (range_keep1 (range_of RC.out) (B1.out.block (N + 1) (by rw [VS.out]; omega))) 8 _ (cn_amt HX.out.len)
    rw [HM.out, Nat.zero_add] at this
    exact this
  have CT : Hid (∀ n, Calls Try.prog 26 #[.pointer (some ⟨B, 0, none⟩)] (w1.drewN n) fun e w' => e = .returned (.int .i64 t) ∧ w' = w1.drewN n) := Lib.hid fun n => (cTotal B ps cs Q (w1.drewN n) (HCO.out _ (below_drewN B1.out n)) HF.out HLC.out).mono fun e w' h => ⟨by rw [h.1, HT.out], h.2.symm⟩
  clear hv
  go_quiet ((go_at_call 26; exact Calls.quiet_of_same (CT.out _)))
  go_wp2
  go_ret
  exact ⟨rfl, by rw [HN.out]; exact BV.out.trans (below_drewN (B1.out.mono (by rw [VS.out]; omega)) _)⟩
set_option maxHeartbeats 2000000 in
theorem cAddNo4 (h : CoIs w B ps cs Q) (hp : okP p) (hx : x.ok) (hf : Fine cs) (hl : ps.length ≤ 1000) (g1 : hasP ps p = false) (g2 : 0 ≤ cel p 8) (g3 : cel p 8 ≤ 255) (g4 : amt x < 1) :
    Calls Try.prog 10 #[.pointer (some ⟨B, 0, none⟩), .agg (ptV p).toArray, .agg (cnV x).toArray] w fun e w' => e = .returned (.bool false) ∧ Below w.heap.size w w' := by
  obtain ⟨N, hN⟩ : ∃ N, w.heap.size = N := ⟨_, rfl⟩
  have HN := Lib.hid hN
  have HP := Lib.hid hp
  have HX := Lib.hid hx
  have HL := Lib.hid hl
  have HF := Lib.hid hf
  obtain ⟨v, hv⟩ : ∃ v, ((w.alloc (Obj.cells (ptV p).toArray 38)).alloc (Obj.cells (cnV x).toArray 42)) = v := ⟨_, rfl⟩
  have RP : Hid (BL v N (ptV p) 38) := by
    subst hv hN
    exact bl_keep (heap_alloc_last w _) (Below.heap_alloc _ _ _ (by simp))
  have RC : Hid (BL v (N + 1) (cnV x) 42) := by
    subst hv hN
    have := heap_alloc_last (w.alloc (Obj.cells (ptV p).toArray 38)) (Obj.cells (cnV x).toArray 42)
    rw [World.size_alloc] at this
    exact this
  have BV : Hid (Below N w v) := by subst hv hN; exact ((Below.refl _ w).alloc (Nat.le_refl _) _).alloc (by simp) _
  have VS : Hid (v.heap.size = N + 2) := by subst hv hN; show _ = _; rw [World.size_alloc, World.size_alloc]
  have HCO : Hid (∀ W, Below v.heap.size v W → CoIs W B ps cs Q) := Lib.hid fun W hb => by
    obtain ⟨A, A2, c, c2, h⟩ := h
    exact ⟨A, A2, c, c2, (h.grow (by rw [hN]; exact BV.out)).grow hb⟩
  have CA := Lib.hid (cAt B ps cs Q p v (HCO.out v (Below.refl _ v)) hp hl)
  have HLC : Hid (cs.length ≤ 1000) := Lib.hid (by obtain ⟨A, A2, c, c2, h⟩ := h; have := h.len; omega)
  obtain ⟨k, hk⟩ : ∃ k, idxP ps p = k := ⟨_, rfl⟩
  obtain ⟨a, ha⟩ : ∃ a, cel p 8 = a := ⟨_, rfl⟩
  obtain ⟨m, hm⟩ : ∃ m, amt x = m := ⟨_, rfl⟩
  obtain ⟨t, ht⟩ : ∃ t, totC cs = t := ⟨_, rfl⟩
  have HK := Lib.hid hk
  have HA := Lib.hid ha
  have HM := Lib.hid hm
  have HT := Lib.hid ht
  rw [hk] at CA
  rw [g1] at CA
  rw [ha] at g2 g3
  rw [hm] at g4
  clear g1
  clear h hp hx hf hl hk ha hm ht
  go_enter Try.func10, Try.ntmps10
  go_wp2_with (first
    | (refine wpList_load_midG (by rfl) 38 (.tmp 4) rfl N 0 rfl (ptV p) _ (range_of RP.out) Try.underlying38 rfl (szP HP.out) ?_)
    | (go_at_call 25; refine CA.out.mono ?_; rintro e w1 ⟨rfl, hb1⟩; have B1 := Lib.hid hb1; clear hb1)
    | fail)
  have c8 : w1.cell? ⟨N, 8, none⟩ = some (.int .i64 a) := by
    have := (pt_rng HP.out (range_keep1 (range_of RP.out) (B1.out.block N (by rw [VS.out]; omega)))).2
    rw [HA.out, Nat.zero_add] at this
    exact this
  have a8 : w1.cell? ⟨N + 1, 8, none⟩ = some (.int .i64 m) := by
    have := (range_keep1 (range_of RC.out) (B1.out.block (N + 1) (by rw [VS.out]; omega))) 8 _ (cn_amt HX.out.len)
    rw [HM.out, Nat.zero_add] at this
    exact this
  have CT : Hid (∀ n, Calls Try.prog 26 #[.pointer (some ⟨B, 0, none⟩)] (w1.drewN n) fun e w' => e = .returned (.int .i64 t) ∧ w' = w1.drewN n) := Lib.hid fun n => (cTotal B ps cs Q (w1.drewN n) (HCO.out _ (below_drewN B1.out n)) HF.out HLC.out).mono fun e w' h => ⟨by rw [h.1, HT.out], h.2.symm⟩
  clear hv
  go_quiet ((go_at_call 26; exact Calls.quiet_of_same (CT.out _)))
  go_wp2
  go_ret
  exact ⟨rfl, by rw [HN.out]; exact BV.out.trans (below_drewN (B1.out.mono (by rw [VS.out]; omega)) _)⟩
set_option maxHeartbeats 2000000 in
theorem cAddNo5 (h : CoIs w B ps cs Q) (hp : okP p) (hx : x.ok) (hf : Fine cs) (hl : ps.length ≤ 1000) (g1 : hasP ps p = false) (g2 : 0 ≤ cel p 8) (g3 : cel p 8 ≤ 255) (g4 : 1 ≤ amt x) (g5 : amt x > 1125899906842624) :
    Calls Try.prog 10 #[.pointer (some ⟨B, 0, none⟩), .agg (ptV p).toArray, .agg (cnV x).toArray] w fun e w' => e = .returned (.bool false) ∧ Below w.heap.size w w' := by
  obtain ⟨N, hN⟩ : ∃ N, w.heap.size = N := ⟨_, rfl⟩
  have HN := Lib.hid hN
  have HP := Lib.hid hp
  have HX := Lib.hid hx
  have HL := Lib.hid hl
  have HF := Lib.hid hf
  obtain ⟨v, hv⟩ : ∃ v, ((w.alloc (Obj.cells (ptV p).toArray 38)).alloc (Obj.cells (cnV x).toArray 42)) = v := ⟨_, rfl⟩
  have RP : Hid (BL v N (ptV p) 38) := by
    subst hv hN
    exact bl_keep (heap_alloc_last w _) (Below.heap_alloc _ _ _ (by simp))
  have RC : Hid (BL v (N + 1) (cnV x) 42) := by
    subst hv hN
    have := heap_alloc_last (w.alloc (Obj.cells (ptV p).toArray 38)) (Obj.cells (cnV x).toArray 42)
    rw [World.size_alloc] at this
    exact this
  have BV : Hid (Below N w v) := by subst hv hN; exact ((Below.refl _ w).alloc (Nat.le_refl _) _).alloc (by simp) _
  have VS : Hid (v.heap.size = N + 2) := by subst hv hN; show _ = _; rw [World.size_alloc, World.size_alloc]
  have HCO : Hid (∀ W, Below v.heap.size v W → CoIs W B ps cs Q) := Lib.hid fun W hb => by
    obtain ⟨A, A2, c, c2, h⟩ := h
    exact ⟨A, A2, c, c2, (h.grow (by rw [hN]; exact BV.out)).grow hb⟩
  have CA := Lib.hid (cAt B ps cs Q p v (HCO.out v (Below.refl _ v)) hp hl)
  have HLC : Hid (cs.length ≤ 1000) := Lib.hid (by obtain ⟨A, A2, c, c2, h⟩ := h; have := h.len; omega)
  obtain ⟨k, hk⟩ : ∃ k, idxP ps p = k := ⟨_, rfl⟩
  obtain ⟨a, ha⟩ : ∃ a, cel p 8 = a := ⟨_, rfl⟩
  obtain ⟨m, hm⟩ : ∃ m, amt x = m := ⟨_, rfl⟩
  obtain ⟨t, ht⟩ : ∃ t, totC cs = t := ⟨_, rfl⟩
  have HK := Lib.hid hk
  have HA := Lib.hid ha
  have HM := Lib.hid hm
  have HT := Lib.hid ht
  rw [hk] at CA
  rw [g1] at CA
  rw [ha] at g2 g3
  rw [hm] at g4 g5
  clear g1
  clear h hp hx hf hl hk ha hm ht
  go_enter Try.func10, Try.ntmps10
  go_wp2_with (first
    | (refine wpList_load_midG (by rfl) 38 (.tmp 4) rfl N 0 rfl (ptV p) _ (range_of RP.out) Try.underlying38 rfl (szP HP.out) ?_)
    | (go_at_call 25; refine CA.out.mono ?_; rintro e w1 ⟨rfl, hb1⟩; have B1 := Lib.hid hb1; clear hb1)
    | fail)
  have c8 : w1.cell? ⟨N, 8, none⟩ = some (.int .i64 a) := by
    have := (pt_rng HP.out (range_keep1 (range_of RP.out) (B1.out.block N (by rw [VS.out]; omega)))).2
    rw [HA.out, Nat.zero_add] at this
    exact this
  have a8 : w1.cell? ⟨N + 1, 8, none⟩ = some (.int .i64 m) := by
    have := (range_keep1 (range_of RC.out) (B1.out.block (N + 1) (by rw [VS.out]; omega))) 8 _ (cn_amt HX.out.len)
    rw [HM.out, Nat.zero_add] at this
    exact this
  have CT : Hid (∀ n, Calls Try.prog 26 #[.pointer (some ⟨B, 0, none⟩)] (w1.drewN n) fun e w' => e = .returned (.int .i64 t) ∧ w' = w1.drewN n) := Lib.hid fun n => (cTotal B ps cs Q (w1.drewN n) (HCO.out _ (below_drewN B1.out n)) HF.out HLC.out).mono fun e w' h => ⟨by rw [h.1, HT.out], h.2.symm⟩
  clear hv
  go_quiet ((go_at_call 26; exact Calls.quiet_of_same (CT.out _)))
  go_wp2
  go_ret
  exact ⟨rfl, by rw [HN.out]; exact BV.out.trans (below_drewN (B1.out.mono (by rw [VS.out]; omega)) _)⟩
end
end Go.Proofs.Ytdggnmlhgglccaa
