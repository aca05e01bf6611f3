/-
  Joined: R9, R10.
-/
import Derived.Test.YtmcmdpbdipgahaaJC
import Derived.Test.YtmcmdpbdipgahaaQ13
/-
  Forward.
-/
namespace Go.Proofs.Ytmcmdpbdipgahaa
open Go.RowKit Go.Maps
set_option maxRecDepth 100000
def fwV (s a : Int) (o : List Int) (n : Int) : List Value := .int .i64 s :: .int .i64 a :: .int .u8 (o.getD 0 0) :: .int .u8 (o.getD 1 0) :: .int .u8 (o.getD 2 0) :: .int .u8 (o.getD 3 0) :: .int .u8 (o.getD 4 0) :: .int .u8 (o.getD 5 0) :: .int .u8 (o.getD 6 0) :: .int .u8 (o.getD 7 0) :: .int .i64 n :: []
theorem fw_c0 {w : World} {b : Nat} {s a n : Int} {o : List Int} {T : TypeId} (h : BL w b (fwV s a o n) T) : w.cell? ⟨b, 0, none⟩ = some (.int .i64 s) := by
  have := (range_of h) 0 _ rfl
  rwa [Nat.zero_add] at this
theorem fw_c10 {w : World} {b : Nat} {s a n : Int} {o : List Int} {T : TypeId} (h : BL w b (fwV s a o n) T) : w.cell? ⟨b, 10, none⟩ = some (.int .i64 n) := by
  have := (range_of h) 10 _ rfl
  rwa [Nat.zero_add] at this
def Sm.more (x : Sm) (n : Int) : Sm := ⟨{ x.s with bal := x.s.bal + n, fwd := x.s.fwd + n }, x.K, x.O, x.G, x.U⟩
def Sm.more1 (x : Sm) (n : Int) : Sm := ⟨{ x.s with bal := x.s.bal + n }, x.K, x.O, x.G, x.U⟩
def moreC (c : Con) (n : Int) : Con := ({ c.1 with bal := c.1.bal + n, fwd := c.1.fwd + n }, c.2)
theorem more_con (x : Sm) (n : Int) : (x.more n).con = moreC x.con n := rfl
theorem sd_more1 (x : Sm) (n : Int) : (sdV x).set 5 (.int .i64 (x.s.bal + n)) = sdV (x.more1 n) := rfl
theorem sd_more2 (x : Sm) (n : Int) : (sdV (x.more1 n)).set 6 (.int .i64 (x.s.fwd + n)) = sdV (x.more n) := rfl
theorem sd_c6 {w : World} {b : Nat} {x : Sm} {T : TypeId} (h : BL w b (sdV x) T) : w.cell? ⟨b, 6, none⟩ = some (.int .i64 x.s.fwd) := sd_at h (i := 6) rfl
theorem sd_c6' {w : World} {b : Nat} {x : Sm} {n : Int} {T : TypeId} (h : BL w b (sdV (x.more1 n)) T) : w.cell? ⟨b, 6, none⟩ = some (.int .i64 x.s.fwd) := sd_at h (i := 6) rfl
theorem sd_c9 {w : World} {b : Nat} {x : Sm} {T : TypeId} (h : BL w b (sdV x) T) : w.cell? ⟨b, 9, none⟩ = some (.bool x.s.ce) := sd_at h (i := 9) rfl
/-- amounts as they may be -/
def okC (c : Con) : Prop := 0 ≤ c.1.bal ∧ c.1.bal ≤ 1125899906842624 ∧ 0 ≤ c.1.fwd ∧ c.1.fwd ≤ 1125899906842624
def con00 : Con := sm0.con
def fwOk (c : Con) (n : Int) : Prop := 1 ≤ n ∧ n ≤ 1125899906842624 ∧ c.1.bal ≤ 1125899906842624 - n ∧ c.1.fwd ≤ 1125899906842624 - n
instance (c : Con) (n : Int) : Decidable (fwOk c n) := inferInstanceAs (Decidable (_ ∧ _))
/-- what Forward does and answers -/
def fwC (cs : List Con) (s n : Int) : List Con × Int :=
  if 0 ≤ s ∧ s < cs.length then
    if (cs.getD s.toNat con00).1.ce = true then (cs, 14)
    else if fwOk (cs.getD s.toNat con00) n then (putS cs s.toNat (moreC (cs.getD s.toNat con00) n), 0) else (cs, 5)
  else (cs, 8)
theorem getD_con (xs : List Sm) (i : Nat) : (xs.map Sm.con).getD i con00 = (xs.getD i sm0).con := by
  rw [List.getD_eq_getElem?_getD, List.getD_eq_getElem?_getD, List.getElem?_map]
  cases xs[i]? <;> rfl
theorem mapOkV.look {w : World} {m : Option Nat} {xs : List Sm} (hm : mapOkV w xs m) {i : Int} (hi : wfI i) : (Instr.lookup 74 (.map m) (.int .i64 i) true).run Try.prog w = .ok (.tuple #[.agg (sdV (atS xs i)).toArray, .bool (decide (0 ≤ i ∧ i < xs.length))]) w := by
  cases m with
  | none =>
    have hm : xs = [] := hm
    subst hm
    have := get_nilV w hi
    rw [show atS [] i = sm0 from if_neg (by simp), decide_eq_false (by simp)]
    exact this
  | some b =>
    have := MapV.get hm hi
    rw [(fn_get xs i).1, (fn_get xs i).2] at this
    exact this
attribute [local irreducible] sdV MapV z0 fnS fwV
theorem fw_len (s a n : Int) (o : List Int) : (fwV s a o n).length = 11 := by unfold fwV; rfl
set_option maxHeartbeats 8000000 in
theorem kForward (S : Nat) (m : Option Nat) (xs : List Sm) (s a n : Int) (o : List Int) (w : World) (h : RegM w S m xs) (hl : xs.length ≤ 100) (hs : wfI s) (hn : wfI n) (hok : ∀ c ∈ xs.map Sm.con, okC c) :
    Calls Try.prog 14 #[.pointer (some ⟨S, 0, none⟩), .agg (fwV s a o n).toArray] w fun e w' => ∃ r m', r = fwC (xs.map Sm.con) s n ∧ e = .returned (.int .i64 r.2) ∧ Reg w' S m' r.1 ∧ (∀ b, m' = some b → m = some b ∨ w.heap.size ≤ b) ∧ Fr w w' (isP S m) := by
  obtain ⟨N, hN⟩ : ∃ N, w.heap.size = N := ⟨_, rfl⟩
  have HN := Lib.hid hN
  obtain ⟨v, hv⟩ : ∃ v, w.alloc (Obj.cells (fwV s a o n).toArray 33) = v := ⟨_, rfl⟩
  have RF : Hid (BL v N (fwV s a o n) 33) := Lib.hid (by subst hv hN; exact heap_alloc_last w _)
  have BV : Hid (Below N w v) := Lib.hid (by subst hv hN; exact (Below.refl _ w).alloc (Nat.le_refl _) _)
  have VS : Hid (v.heap.size = N + 1) := Lib.hid (by subst hv hN; show _ = _; rw [World.size_alloc])
  have hg := h.grow (show Below w.heap.size w v by rw [hN]; exact BV.out)
  have HV := Lib.hid hg
  have HRG : Hid (∀ z, Below N w z → RegM z S m xs) := Lib.hid fun z hb => h.grow (by rw [hN]; exact hb)
  have HAG : Hid (∀ z, Below N w z → SdAt z (isP S m) (atS xs s)) := Lib.hid fun z hb => (h.at s).grow (by rw [hN]; exact hb)
  have HM := Lib.hid hg.map
  have HC := Lib.hid (show v.cell? ⟨S, 0, none⟩ = some (.map m) from hg.c0)
  have HSL : Hid (S < N) := Lib.hid (by rw [← hN]; exact h.lt S (.inl rfl))
  have HML : Hid (∀ b, m = some b → b < N) := Lib.hid fun b e => by rw [← hN]; exact h.lt b (.inr e)
  have HWS := Lib.hid hs
  have HA : Hid (SdAt v (isP S m) (atS xs s)) := Lib.hid (hg.at s)
  have LK : ∀ w' : World, (∀ q, q < N + 1 → w'.heap[q]? = v.heap[q]?) → (Instr.lookup 74 (.map m) (.int .i64 s) true).run Try.prog w' = .ok (.tuple #[.agg (sdV (atS xs s)).toArray, .bool (decide (0 ≤ s ∧ s < xs.length))]) w' := fun w' hw => (HM.out.keep fun b e => hw b (by have := HML.out b e; omega)).look HWS.out
  have C0 : ∀ w' : World, (∀ q, q < N + 1 → w'.heap[q]? = v.heap[q]?) → w'.cell? ⟨S, 0, none⟩ = some (.map m) := fun w' hw => (World.cell?_of_block (w := v) (a := ⟨S, 0, none⟩) (hw S (by have := HSL.out; omega))).trans HC.out
  have F0 : ∀ w' : World, (∀ q, q < N + 1 → w'.heap[q]? = v.heap[q]?) → w'.cell? ⟨N, 0, none⟩ = some (.int .i64 s) := fun w' hw => (World.cell?_of_block (w := v) (a := ⟨N, 0, none⟩) (hw N (by omega))).trans (fw_c0 RF.out)
  have HL := Lib.hid hl
  have HWN := Lib.hid hn
  have HOK := Lib.hid hok
  have LEN : Hid ((xs.map Sm.con).length = xs.length) := Lib.hid (List.length_map _)
  obtain ⟨x, hx⟩ : ∃ x, atS xs s = x := ⟨_, rfl⟩
  rw [hx] at LK HA HAG
  have HX := Lib.hid hx
  obtain ⟨D, hD⟩ : ∃ D, decide (0 ≤ s ∧ s < xs.length) = D := ⟨_, rfl⟩
  rw [hD] at LK
  have HDD := Lib.hid hD
  have sx : Hid ((sdV x).length = 42) := Lib.hid (sd_len x)
  have s0 : Hid ((sdV sm0).length = 42) := Lib.hid (sd_len sm0)
  have BD : Hid (Below N w v.drew) := Lib.hid BV.out.drew
  have VD : Hid (v.drew.heap.size = N + 1) := VS
  clear h hg hs hx hD hl hn hok
  go_enter Try.func14, Try.ntmps14
  go_upto_region 3 with (fail)
  (try rw [hv])
  clear hv
  refine wp_region_held_drew (S := (fun w' : World => ∀ q, q < N + 1 → w'.heap[q]? = v.heap[q]?)) (by kernel_rfl) (by exact fun _ _ => rfl) (fun hHeld => ?_)
  refine wpAnyH_take (i := 0) (v := ?_) rfl (by kernel_rfl) (by kernel_rfl) (by kernel_rfl) (fun _ _ _ h => h) (Or.inl ⟨by rfl, ?_⟩) (by assumption) ?_
  rotate_left
  · (intro w hSw; (try dsimp only at hSw); go_simp; try with_reducible rfl)
  simp only [Act.put, List.getElem_toArray, List.getElem_cons_zero, List.setIfInBounds_toArray, List.set_cons_zero, List.set_cons_succ]
  refine wpAnyH_take (i := 1) (v := ?_) rfl (by kernel_rfl) (by kernel_rfl) (by kernel_rfl) (fun _ _ _ h => h) (Or.inl ⟨by rfl, ?_⟩) (by assumption) ?_
  rotate_left
  · (intro w hSw; (try dsimp only at hSw); go_simp; try with_reducible rfl)
  simp only [Act.put, List.getElem_toArray, List.getElem_cons_succ, List.getElem_cons_zero, List.setIfInBounds_toArray, List.set_cons_zero, List.set_cons_succ]
  refine wpAnyH_take (i := 2) (v := ?_) rfl (by kernel_rfl) (by kernel_rfl) (by kernel_rfl) (fun _ _ _ h => h) (Or.inl ⟨by rfl, ?_⟩) (by assumption) ?_
  rotate_left
  · (intro w hSw; (try dsimp only at hSw); go_simp; try with_reducible rfl)
  simp only [Act.put, List.getElem_toArray, List.getElem_cons_succ, List.getElem_cons_zero, List.setIfInBounds_toArray, List.set_cons_zero, List.set_cons_succ]
  refine wpAnyH_take (i := 3) (v := ?_) rfl (by kernel_rfl) (by kernel_rfl) (by kernel_rfl) (fun _ _ _ h => h) (Or.inl ⟨by rfl, ?_⟩) (by assumption) ?_
  rotate_left
  · (intro w hSw; have z := C0 w hSw; go_simp; try with_reducible rfl)
  simp only [Act.put, List.getElem_toArray, List.getElem_cons_succ, List.getElem_cons_zero, List.setIfInBounds_toArray, List.set_cons_zero, List.set_cons_succ]
  refine wpAnyH_take (i := 4) (v := ?_) rfl (by kernel_rfl) (by kernel_rfl) (by kernel_rfl) (fun _ _ _ h => h) (Or.inl ⟨by rfl, ?_⟩) (by assumption) ?_
  rotate_left
  · (intro w hSw; (try dsimp only at hSw); go_simp; try with_reducible rfl)
  simp only [Act.put, List.getElem_toArray, List.getElem_cons_succ, List.getElem_cons_zero, List.setIfInBounds_toArray, List.set_cons_zero, List.set_cons_succ]
  refine wpAnyH_take (i := 5) (v := ?_) rfl (by kernel_rfl) (by kernel_rfl) (by kernel_rfl) (fun _ _ _ h => h) (Or.inl ⟨by rfl, ?_⟩) (by assumption) ?_
  rotate_left
  · (intro w hSw; have z := F0 w hSw; go_simp; try with_reducible rfl)
  simp only [Act.put, List.getElem_toArray, List.getElem_cons_succ, List.getElem_cons_zero, List.setIfInBounds_toArray, List.set_cons_zero, List.set_cons_succ]
  refine wpAnyH_take (i := 6) (v := ?_) rfl (by kernel_rfl) (by kernel_rfl) (by kernel_rfl) (fun _ _ _ h => h) (Or.inl ⟨by rfl, ?_⟩) (by assumption) ?_
  rotate_left
  · (intro w hSw; have z := LK w hSw; go_simp; try with_reducible rfl)
  simp only [Act.put, List.getElem_toArray, List.getElem_cons_succ, List.getElem_cons_zero, List.setIfInBounds_toArray, List.set_cons_zero, List.set_cons_succ]
  refine wpAnyH_take (i := 7) (v := ?_) rfl (by kernel_rfl) (by kernel_rfl) (by kernel_rfl) (fun _ _ _ h => h) (Or.inl ⟨by rfl, ?_⟩) (by assumption) ?_
  rotate_left
  · (intro w hSw; (try dsimp only at hSw); go_simp; try with_reducible rfl)
  simp only [Act.put, List.getElem_toArray, List.getElem_cons_succ, List.getElem_cons_zero, List.setIfInBounds_toArray, List.set_cons_zero, List.set_cons_succ]
  refine wpAnyH_take (i := 8) (v := ?_) rfl (by kernel_rfl) (by kernel_rfl) (by kernel_rfl) (fun _ _ _ h => h) (Or.inl ⟨by rfl, ?_⟩) (by assumption) ?_
  rotate_left
  · (intro w hSw; (try dsimp only at hSw); go_simp; try with_reducible rfl)
  simp only [Act.put, List.getElem_toArray, List.getElem_cons_succ, List.getElem_cons_zero, List.setIfInBounds_toArray, List.set_cons_zero, List.set_cons_succ]
  refine wpAnyH_take (i := 9) (v := ?_) rfl (by kernel_rfl) (by kernel_rfl) (by kernel_rfl) (fun _ _ _ h => h) (Or.inl ⟨by rfl, ?_⟩) (by assumption) ?_
  rotate_left
  · (intro w hSw; (try dsimp only at hSw); go_simp; try with_reducible rfl)
  simp only [Act.put, List.getElem_toArray, List.getElem_cons_succ, List.getElem_cons_zero, List.setIfInBounds_toArray, List.set_cons_zero, List.set_cons_succ]
  refine wpAnyH_ready (rs := [10]) (by kernel_rfl) (by simp) ?_
  refine AllReadyH.cons rfl (fun K hK => ?_) AllReadyH.nil
  refine step_allocS rfl rfl ?_
  have B2 : Hid (Below N w (v.drew.alloc (Obj.cells (sdV sm0).toArray 53))) := Lib.hid (BD.out.alloc (by have := VD.out; omega) _)
  have R2 : Hid (BL (v.drew.alloc (Obj.cells (sdV sm0).toArray 53)) (N + 1) (sdV sm0) 53) := Lib.hid (by rw [← VD.out]; exact heap_alloc_last _ _)
  have H2 : ∀ q, q < N + 1 → (v.drew.alloc (Obj.cells (sdV sm0).toArray 53)).heap[q]? = v.heap[q]? := fun q hq => Below.heap_alloc v.drew _ q (by rw [VD.out]; exact hq)
  have V2 : Hid ((v.drew.alloc (Obj.cells (sdV sm0).toArray 53)).heap.size = N + 2) := Lib.hid (by rw [World.size_alloc, VD.out])
  rw [VD.out]
  generalize v.drew.alloc (Obj.cells (sdV sm0).toArray 53) = v2 at *
  clear hHeld
  refine hK.out _ _ H2 (fun hHeld => ?_)
  clear hK K
  refine wpAnyH_ready (rs := [11]) (by kernel_rfl) (by simp) ?_
  refine AllReadyH.cons rfl (fun K hK => ?_) AllReadyH.nil
  refine step_storeR rfl 53 (.tmp 5) (.tmp 17) rfl rfl (N + 1) (sdV x).toArray rfl rfl 53 _ R2.out (szA sz53 sx.out) (by rw [List.size_toArray, List.size_toArray, sx.out, s0.out]) (all_oneCell_toArray (sd_one x)) ?_
  have B3 : Hid (Below N w (v2.setRow (N + 1) (sdV x).toArray)) := Lib.hid (below_setRow B2.out (by omega) _)
  have R3 : Hid (BL (v2.setRow (N + 1) (sdV x).toArray) (N + 1) (sdV x) 53) := Lib.hid (setRow_heap _ _ _ _ _ _ R2.out)
  have H3 : ∀ q, q < N + 1 → (v2.setRow (N + 1) (sdV x).toArray).heap[q]? = v.heap[q]? := fun q hq => (setRow_other _ _ _ _ (by omega)).trans (H2 q hq)
  have V3 : Hid ((v2.setRow (N + 1) (sdV x).toArray).heap.size = N + 2) := Lib.hid (by rw [setRow_size]; exact V2.out)
  generalize v2.setRow (N + 1) (sdV x).toArray = u at *
  clear hHeld
  refine hK.out _ _ H3 (fun hHeld => ?_)
  clear hK K
  refine wpAnyH_take (i := 12) (v := ?_) rfl (by kernel_rfl) (by kernel_rfl) (by kernel_rfl) (fun _ _ _ h => h) (Or.inl ⟨by rfl, ?_⟩) (by assumption) ?_
  rotate_left
  · (intro w hSw; (try dsimp only at hSw); go_simp; try with_reducible rfl)
  simp only [Act.put, List.getElem_toArray, List.getElem_cons_succ, List.getElem_cons_zero, List.setIfInBounds_toArray, List.set_cons_zero, List.set_cons_succ]
  clear hHeld
  refine wpAnyH_done (by kernel_rfl) ?_ _
  have RFu : Hid (BL u N (fwV s a o n) 33) := Lib.hid (bl_keep RF.out (H3 N (by omega)))
  have HU : Hid (RegM u S m xs) := Lib.hid ⟨bl_keep HV.out.blk (H3 S (by have := HSL.out; omega)), HM.out.keep fun b e => H3 b (by have := HML.out b e; omega), fun y hy => (HV.out.rows y hy).keep (by rw [VS.out, V3.out]; omega) (fun q hq _ => H3 q (by rw [← VS.out]; exact hq)) fun _ _ h => h⟩
  have HAu : Hid (SdAt u (isP S m) x) := Lib.hid (HA.out.keep (by rw [VS.out, V3.out]; omega) (fun q hq _ => H3 q (by rw [← VS.out]; exact hq)) fun _ _ h => h)
  have FU : Hid (Fr w u (isP S m)) := Lib.hid (Fr.of_below (by rw [HN.out]; exact B3.out))
  have b5 := sd_bal R3.out
  have b6 := sd_c6 R3.out
  have b9 := sd_c9 R3.out
  have a10 := fw_c10 RFu.out
  have NE : N + 1 ≠ N := by omega
  clear C0 F0 LK H3 H2 HM HC BD VD RF HA HV V2 R2 B2
  obtain ⟨bal, hbal⟩ : ∃ z, x.s.bal = z := ⟨_, rfl⟩
  obtain ⟨fwd, hfwd⟩ : ∃ z, x.s.fwd = z := ⟨_, rfl⟩
  obtain ⟨ce, hce⟩ : ∃ z, x.s.ce = z := ⟨_, rfl⟩
  rw [hbal] at b5
  rw [hfwd] at b6
  rw [hce] at b9
  have XX : Hid (x.con.1.bal = bal ∧ x.con.1.fwd = fwd ∧ x.con.1.ce = ce) := Lib.hid ⟨hbal, hfwd, hce⟩
  have stay : ∀ k, (fwC (xs.map Sm.con) s n) = (xs.map Sm.con, k) → ∀ w2 : World, Below u.heap.size u w2 → ∃ r m', r = fwC (xs.map Sm.con) s n ∧ Ending.returned (.int .i64 k) = .returned (.int .i64 r.2) ∧ Reg w2 S m' r.1 ∧ (∀ b, m' = some b → m = some b ∨ w.heap.size ≤ b) ∧ Fr w w2 (isP S m) := fun k hk w2 hb => ⟨_, m, rfl, by rw [hk], ⟨xs, HU.out.grow hb, by rw [hk]⟩, fun b e => .inl e, FU.out.trans (Fr.of_below (P := isP S m) hb) fun q hq => .inl hq⟩
  have STAY := Lib.hid stay
  clear stay hbal hfwd hce
  cases D with
  | false =>
    go_wp2
    go_ret
    refine STAY.out 8 ?_ _ (Below.refl _ _)
    unfold fwC
    rw [LEN.out, if_neg (of_decide_eq_false HDD.out)]
  | true =>
    have hin := of_decide_eq_true HDD.out
    obtain ⟨i, rfl⟩ : ∃ i : Nat, s = (i : Int) := ⟨s.toNat, by omega⟩
    have GX : Hid ((xs.map Sm.con).getD ((i : Int)).toNat con00 = x.con) := Lib.hid (by
      rw [Int.toNat_natCast, getD_con, ← HX.out]
      unfold atS
      rw [if_pos hin, Int.toNat_natCast])
    have HI : Hid (i < xs.length) := Lib.hid (by omega)
    have FWC : Hid (fwC (xs.map Sm.con) (i : Int) n = if x.con.1.ce = true then (xs.map Sm.con, 14) else if fwOk x.con n then (putS (xs.map Sm.con) i (moreC x.con n), 0) else (xs.map Sm.con, 5)) := Lib.hid (by
      unfold fwC
      rw [LEN.out, if_pos hin, GX.out, Int.toNat_natCast])
    have OKX : Hid (okC x.con) := Lib.hid (HOK.out _ (by
      rw [← GX.out, Int.toNat_natCast, List.getD_eq_getElem?_getD, List.getElem?_eq_getElem (by rw [LEN.out]; exact HI.out)]
      exact List.getElem_mem _))
    clear hin
    cases ce with
    | true =>
      go_wp2
      go_ret
      exact STAY.out 14 (by rw [FWC.out, if_pos XX.out.2.2]) _ (Below.refl _ _)
    | false =>
      have nce : Hid (¬ x.con.1.ce = true) := Lib.hid (by rw [XX.out.2.2]; decide)
      by_cases g1 : n < 1
      · go_wp2
        go_ret
        exact STAY.out 5 (by rw [FWC.out, if_neg nce.out, if_neg (by unfold fwOk; omega)]) _ (Below.refl _ _)
      · by_cases g2 : n ≤ 1125899906842624
        · have CM : Hid (∀ w, Calls Try.prog 36 #[.int .i64 n] w fun e w' => e = .returned (.bool true) ∧ w = w') := Lib.hid fun w => by
            have := rMayM n w
            rw [decide_eq_true (by omega : 0 ≤ n), decide_eq_true g2] at this
            exact this
          have hr : 1 ≤ n ∧ n ≤ 1125899906842624 := ⟨by omega, g2⟩
          obtain ⟨q1, hq1⟩ : ∃ q, decide (bal ≤ 1125899906842624 - n) = q := ⟨_, rfl⟩
          obtain ⟨q2, hq2⟩ : ∃ q, decide (fwd ≤ 1125899906842624 - n) = q := ⟨_, rfl⟩
          have CB : Hid (∀ w, Calls Try.prog 37 #[.int .i64 bal, .int .i64 n] w fun e w' => e = .returned (.bool q1) ∧ w = w') := Lib.hid fun w => by rw [← hq1]; exact rRoom bal n w hr
          have CF : Hid (∀ w, Calls Try.prog 37 #[.int .i64 fwd, .int .i64 n] w fun e w' => e = .returned (.bool q2) ∧ w = w') := Lib.hid fun w => by rw [← hq2]; exact rRoom fwd n w hr
          have Q1 := Lib.hid hq1
          have Q2 := Lib.hid hq2
          have HR := Lib.hid hr
          clear g2 hr hq1 hq2
          have T1 : Hid True := Lib.hid trivial
          cases q1 with
          | false =>
            go_wp2_with (first
              | (go_at_call 36; refine (CM.out _).mono ?_; rintro e w' ⟨rfl, rfl⟩)
              | (go_at_call 37; refine (CB.out _).mono ?_; rintro e w' ⟨rfl, rfl⟩)
              | fail)
            go_ret
            exact STAY.out 5 (by rw [FWC.out, if_neg nce.out, if_neg (by unfold fwOk; rw [XX.out.1]; have := of_decide_eq_false Q1.out; omega)]) _ (Below.refl _ _)
          | true =>
            cases q2 with
            | false =>
              go_wp2_with (first
                | (go_at_call 36; refine (CM.out _).mono ?_; rintro e w' ⟨rfl, rfl⟩)
                | (go_at_call 37; clear T1; refine (CB.out _).mono ?_; rintro e w' ⟨rfl, rfl⟩)
                | (go_at_call 37; refine (CF.out _).mono ?_; rintro e w' ⟨rfl, rfl⟩)
                | fail)
              go_ret
              exact STAY.out 5 (by rw [FWC.out, if_neg nce.out, if_neg (by unfold fwOk; rw [XX.out.2.1]; have := of_decide_eq_false Q2.out; omega)]) _ (Below.refl _ _)
            | true =>
              have FOK : Hid (fwOk x.con n) := Lib.hid ⟨HR.out.1, HR.out.2, by rw [XX.out.1]; exact of_decide_eq_true Q1.out, by rw [XX.out.2.1]; exact of_decide_eq_true Q2.out⟩
              have LI : Hid (i ≤ xs.length ∧ xs.length ≤ 100) := Lib.hid ⟨Nat.le_of_lt HI.out, HL.out⟩
              have W1 : wrap64 (bal + n) = bal + n := by have h1 := FOK.out; have h2 := OKX.out; unfold fwOk at h1; unfold okC at h2; rw [XX.out.1] at h1 h2; unfold wrap64; omega
              have W2 : wrap64 (fwd + n) = fwd + n := by have h1 := FOK.out; have h2 := OKX.out; unfold fwOk at h1; unfold okC at h2; rw [XX.out.2.1] at h1 h2; unfold wrap64; omega
              have f5 : u.frozen? ⟨N + 1, 5, none⟩ = false := bl_free R3.out 5
              have R4 : Hid (BL (u.setCell ⟨N + 1, 5, none⟩ (.int .i64 (bal + n))) (N + 1) (sdV (x.more1 n)) 53) := Lib.hid (by
                have := bl_set R3.out 5 (.int .i64 (bal + n))
                rw [← XX.out.1] at this ⊢
                rw [show x.con.1.bal = x.s.bal from rfl, sd_more1] at this
                exact this)
              have f6 : (u.setCell ⟨N + 1, 5, none⟩ (.int .i64 (bal + n))).frozen? ⟨N + 1, 6, none⟩ = false := bl_free R4.out 6
              have R5 : Hid (BL ((u.setCell ⟨N + 1, 5, none⟩ (.int .i64 (bal + n))).setCell ⟨N + 1, 6, none⟩ (.int .i64 (fwd + n))) (N + 1) (sdV (x.more n)) 53) := Lib.hid (by
                have := bl_set R4.out 6 (.int .i64 (fwd + n))
                rw [← XX.out.2.1] at this ⊢
                rw [show x.con.1.fwd = x.s.fwd from rfl, sd_more2] at this
                exact this)
              have B5 : Hid (Below N w ((u.setCell ⟨N + 1, 5, none⟩ (.int .i64 (bal + n))).setCell ⟨N + 1, 6, none⟩ (.int .i64 (fwd + n)))) := Lib.hid ((B3.out.setCell (Nat.le_succ _) _).setCell (Nat.le_succ _) _)
              have F0 : ((u.setCell ⟨N + 1, 5, none⟩ (.int .i64 (bal + n))).setCell ⟨N + 1, 6, none⟩ (.int .i64 (fwd + n))).cell? ⟨N, 0, none⟩ = some (.int .i64 (i : Int)) := fw_c0 (bl_keep (bl_keep RFu.out (heap_set1 _ _ _ (by omega))) (heap_set1 _ _ _ (by omega)))
              have sm : Hid ((sdV (x.more n)).length = 42) := Lib.hid (sd_len _)
              go_upto_region 12 with (first
                | (go_at_call 36; refine (CM.out _).mono ?_; rintro e w' ⟨rfl, rfl⟩)
                | (go_at_call 37; clear T1; refine (CB.out _).mono ?_; rintro e w' ⟨rfl, rfl⟩)
                | (go_at_call 37; refine (CF.out _).mono ?_; rintro e w' ⟨rfl, rfl⟩)
                | fail)
              generalize (u.setCell ⟨N + 1, 5, none⟩ (.int .i64 (bal + n))).setCell ⟨N + 1, 6, none⟩ (.int .i64 (fwd + n)) = u2 at *
              clear W1 W2 f5 f6 b5 b6 a10 CM CB CF
              go_wp2_with (first
                | (refine wpList_load_midG (by rfl) 53 (.tmp 5) rfl (N + 1) 0 rfl (sdV (x.more n)) _ (range_of R5.out) Try.underlying53 rfl (szL sz53 sm.out) ?_)
                | (go_at_call 34; refine (kPut S m xs i (x.more n) u2 (HRG.out _ B5.out) LI.out.1 LI.out.2 ⟨(HAG.out _ B5.out).K, (HAG.out _ B5.out).O, (HAG.out _ B5.out).G, (HAG.out _ B5.out).U⟩).mono ?_; rintro e w3 ⟨rfl, m', x', k1, k2, k3, k4⟩; have K1 := Lib.hid k1; have K2 := Lib.hid k2; have K3 := Lib.hid k3; have K4 := Lib.hid k4; clear k1 k2 k3 k4)
                | fail)
              go_ret
              refine ⟨_, m', rfl, ?_, ⟨putS xs i x', ?_, ?_⟩, fun b e => (K3.out b e).imp id fun h => Nat.le_trans B5.out.size h, (Fr.of_below (P := isP S m) (by rw [HN.out]; exact B5.out)).trans K4.out fun q hq => .inl hq⟩
              · rw [FWC.out, if_neg nce.out, if_pos FOK.out]; rfl
              · exact K2.out
              · rw [FWC.out, if_neg nce.out, if_pos FOK.out, putS_map, K1.out, more_con]
        · have CM : Hid (∀ w, Calls Try.prog 36 #[.int .i64 n] w fun e w' => e = .returned (.bool false) ∧ w = w') := Lib.hid fun w => by
            have := rMayM n w
            rw [decide_eq_true (by omega : 0 ≤ n), decide_eq_false g2] at this
            exact this
          go_wp2_with (first
            | (go_at_call 36; refine (CM.out _).mono ?_; rintro e w' ⟨rfl, rfl⟩)
            | fail)
          go_ret
          exact STAY.out 5 (by rw [FWC.out, if_neg nce.out, if_neg (by unfold fwOk; omega)]) _ (Below.refl _ _)
end Go.Proofs.Ytmcmdpbdipgahaa

/-
  The first thing that each law asks.
-/
namespace Go.Proofs.Ytmcmdpbdipgahaa
open Go.RowKit Go.Maps
set_option maxRecDepth 100000
def flatK' (n : Nat) : List Int := cat rootS n
theorem may_two (n : Nat) (c : Int) (h1 : 1 ≤ n) (h5 : n ≤ 5) (hc : 1 ≤ c) (hc2 : c ≤ n) : mayP (at8 (cat rootS n)) n 4 2 c = true := may_made n c h1 h5 hc hc2
def cM (n : Nat) (d : Int) (h : Int) : Con := con0 4 2 d n (cat rootS n) h
theorem fw_first (c : Con) (n : Int) (hc : c.1.ce = false) (h : fwOk c n) : fwC [c] 0 n = ([moreC c n], 0) := by
  unfold fwC
  rw [if_pos (show (0 : Int) ≤ 0 ∧ (0 : Int) < (([c].length : Nat) : Int) from ⟨by decide, by simp⟩)]
  show (if c.1.ce = true then _ else _) = _
  rw [if_neg (by rw [hc]; decide)]
  rw [if_pos (show fwOk ([c].getD (0 : Int).toNat con00) n from h)]
  rfl
theorem len1 {xs : List Sm} {c : Con} (h : xs.map Sm.con = [c]) : xs.length = 1 ∧ (xs.getD 0 sm0).con = c := by
  cases xs with
  | nil => cases h
  | cons x l =>
    cases l with
    | nil => simp only [List.map_cons, List.map_nil, List.cons.injEq, and_true] at h; exact ⟨rfl, h⟩
    | cons y l => simp at h
theorem sd_c4 {w : World} {b : Nat} {x : Sm} {T : TypeId} (h : BL w b (sdV x) T) : w.cell? ⟨b, 4, none⟩ = some (.int .i64 x.s.made) := sd_at h (i := 4) rfl
theorem awCreate (S : Nat) (A : Option Addr) (c : Nat) (w : World) (h : Reg w S none []) (h1 : Src w A (8 * 2) (cat rootS 2)) (h2 : 2 ≤ c) (h3 : c ≤ maxLen) :
    Calls Try.prog 12 #[.pointer (some ⟨S, 0, none⟩), .agg #[.int .i64 4, .int .i64 2, .int .i64 1, .slice A 2 c], .int .i64 3] w fun e w' => e = .returned (.tuple #[.int .i64 0, .int .i64 0]) ∧ ∃ m', Reg w' S m' [cM 2 1 3] ∧ (∀ b, m' = some b → w.heap.size ≤ b) ∧ Fr w w' (isP S none) := by
  have hc : creC [] (mayP (at8 (cat rootS 2)) 2 4 2 1) (con0 4 2 1 2 (cat rootS 2) 3) = ([cM 2 1 3], 0, 0) := by
    rw [may_two 2 1 (by decide) (by decide) (by decide) (by decide)]
    rfl
  refine (kCreate S none [] 4 2 1 A 2 c (cat rootS 2) 3 w h (by decide) h1 h2 h3).mono ?_
  rintro e w' ⟨r, m', hr, rfl, k2, k3, k4⟩
  rw [hc] at hr
  subst hr
  exact ⟨rfl, m', k2, fun b e => (k3 b e).resolve_left (fun h => by cases h), k4⟩
theorem awForward (S : Nat) (m : Option Nat) (w : World) (h : Reg w S m [cM 2 1 3]) :
    Calls Try.prog 14 #[.pointer (some ⟨S, 0, none⟩), .agg #[.int .i64 0, .int .i64 1, .int .u8 1, .int .u8 0, .int .u8 0, .int .u8 0, .int .u8 0, .int .u8 0, .int .u8 0, .int .u8 0, .int .i64 5]] w fun e w' => e = .returned (.int .i64 0) ∧ ∃ m', Reg w' S m' [moreC (cM 2 1 3) 5] ∧ (∀ b, m' = some b → m = some b ∨ w.heap.size ≤ b) ∧ Fr w w' (isP S m) := by
  obtain ⟨xs, h1, h2⟩ := h
  have hl := (len1 h2).1
  have hf : fwC (xs.map Sm.con) 0 5 = ([moreC (cM 2 1 3) 5], 0) := by
    rw [h2]
    exact fw_first _ _ rfl ⟨by decide, by decide, by decide, by decide⟩
  refine (show Calls Try.prog 14 #[.pointer (some ⟨S, 0, none⟩), .agg (fwV 0 1 [1] 5).toArray] w _ from kForward S m xs 0 1 5 [1] w h1 (by omega) (by unfold wfI; omega) (by unfold wfI; omega) (fun c hc => ?_)).mono ?_
  · rw [h2] at hc
    rw [List.mem_singleton.1 hc]
    exact ⟨by decide, by decide, by decide, by decide⟩
  rintro e w' ⟨r, m', hr, rfl, k2, k3, k4⟩
  rw [hf] at hr
  subst hr
  exact ⟨rfl, m', k2, k3, k4⟩
theorem awSide (S : Nat) (m : Option Nat) (w : World) (h : Reg w S m [moreC (cM 2 1 3) 5]) :
    Calls Try.prog 16 #[.pointer (some ⟨S, 0, none⟩), .int .i64 0] w fun e w' => ∃ x' : Sm, e = .returned (.tuple #[.agg (sdV x').toArray, .bool true]) ∧ x'.s.bal = 5 ∧ x'.s.fwd = 5 ∧ x'.s.made = 3 ∧ Below w.heap.size w w' := by
  obtain ⟨xs, h1, h2⟩ := h
  obtain ⟨hl, hx⟩ := len1 h2
  refine (rSide S m xs 0 w h1 (by unfold wfI; omega)).mono ?_
  rintro e w' ⟨x', rfl, k1, _, k3⟩
  have ha : atS xs 0 = xs.getD 0 sm0 := if_pos ⟨by decide, by rw [hl]; decide⟩
  rw [ha, hx] at k1
  have k2 : x'.s = (moreC (cM 2 1 3) 5).1 := congrArg Prod.fst k1
  refine ⟨x', ?_, by rw [k2]; rfl, by rw [k2]; rfl, by rw [k2]; rfl, k3⟩
  rw [decide_eq_true ⟨by decide, by rw [hl]; decide⟩]
theorem awTotal (S : Nat) (m : Option Nat) (w : World) (h : Reg w S m [moreC (cM 2 1 3) 5]) :
    Calls Try.prog 27 #[.pointer (some ⟨S, 0, none⟩)] w fun e w' => e = .returned (.int .i64 5) ∧ Below w.heap.size w w' := by
  obtain ⟨xs, h1, h2⟩ := h
  obtain ⟨hl, hx⟩ := len1 h2
  have hb : balF xs 0 = 5 := by
    unfold balF
    have : (xs.getD 0 sm0).s = (moreC (cM 2 1 3) 5).1 := congrArg Prod.fst hx
    rw [this]
    rfl
  have := rTotal S m xs w h1 (by omega) (fun i hi => by
    have : i = 0 := by omega
    subst this
    rw [hb]; decide)
  rw [hl] at this
  unfold sumN sumN at this
  rw [hb] at this
  exact this
attribute [local irreducible] sdV MapV z0 fnS cat rootS mayP creC fwC con0 cM
set_option maxHeartbeats 8000000 in
theorem rAwake (w : World) : Calls Try.prog 9 #[] w fun e w' => e = .returned (.bool true) ∧ Below w.heap.size w w' := by
  obtain ⟨N, hN⟩ : ∃ N, w.heap.size = N := ⟨_, rfl⟩
  have HN := Lib.hid hN
  have CM : Hid (∀ w, Keys w → Calls Try.prog 11 #[.int .i64 2, .int .i64 1] w fun e w' => ∃ A c, e = .returned (.agg #[.int .i64 4, .int .i64 2, .int .i64 1, .slice A 2 c]) ∧ Src w' A (8 * 2) (cat rootS 2) ∧ 2 ≤ c ∧ c ≤ maxLen ∧ Below w.heap.size w w') := Lib.hid fun w hk => kMade 2 1 w hk (by decide)
  have hz : ∀ w, (zeroValue 53).run Try.prog w = .ok (.agg (sdV sm0).toArray) w := z53
  rw [hN]
  go_enter Try.func9, Try.ntmps9
  go_upto_region 4 with (first
    | (go_at_call 10; refine (rNew _).mono ?_; rintro e w1 ⟨rfl, r1, r2⟩; have R1 := Lib.hid r1; have B1 := Lib.hid r2; clear r1 r2)
    | fail)
  try rw [hN] at R1 B1
  have K1 : Hid (Keys w1) := Lib.hid (by have := R1.out.lt N (.inl rfl); unfold Keys; omega)
  go_upto_region 5 with (first
    | (go_at_call 11; refine (CM.out _ K1.out).mono ?_; rintro e w2 ⟨A, c, rfl, s1, s2, s3, s4⟩; have S1 := Lib.hid s1; have S2 := Lib.hid s2; have S3 := Lib.hid s3; have B2 := Lib.hid s4; clear s1 s2 s3 s4)
    | (go_at_call 12; refine (awCreate N A c w2 ⟨[], R1.out.grow B2.out, rfl⟩ S1.out S2.out S3.out).mono ?_; rintro e w3 ⟨rfl, m3, k2, k3, k4⟩; have K2 := Lib.hid k2; have K4 := Lib.hid k4; have K3 := Lib.hid k3; clear k2 k3 k4)
    | fail)
  have N1 : Hid (N ≤ w1.heap.size) := Lib.hid (Nat.le_of_lt (R1.out.lt N (.inl rfl)))
  have BA : Hid (Below N w w3) := Lib.hid ((B1.out.trans (B2.out.mono N1.out)).trans (K4.out.below (Nat.le_trans N1.out B2.out.size) fun q hq => hq.elim (fun e => Nat.le_of_eq e.symm) fun e => (by cases e)))
  have M3 : Hid (∀ q, isP N m3 q → N ≤ q) := Lib.hid fun q hq => hq.elim (fun e => Nat.le_of_eq e.symm) fun e => Nat.le_trans (Nat.le_trans N1.out B2.out.size) (K3.out q e)
  have Z3 : Hid (N ≤ w3.heap.size) := Lib.hid (Nat.le_of_lt (K2.out.lt N (.inl rfl)))
  clear R1 B1 K1 S1 S2 S3 B2 K3 K4 CM
  go_upto_region 6 with (first
    | (go_at_call 14; refine (awForward N m3 w3 K2.out).mono ?_; rintro e w4 ⟨rfl, m4, k2, k3, k4⟩; have L2 := Lib.hid k2; have L4 := Lib.hid k4; clear k2 k3 k4)
    | fail)
  have BB : Hid (Below N w w4) := Lib.hid (BA.out.trans (L4.out.below Z3.out M3.out))
  have Z4 : Hid (N ≤ w4.heap.size) := Lib.hid (Nat.le_of_lt (L2.out.lt N (.inl rfl)))
  clear L4 BA
  have s0 : Hid ((sdV sm0).length = 42) := Lib.hid (sd_len sm0)
  go_wp2_with fail
  refine (awSide N m4 w4 L2.out).mono ?_
  rintro e w5 ⟨x, rfl, x1, x2, x3, hb5⟩
  have B5 := Lib.hid hb5
  have R5 := Lib.hid (L2.out.grow hb5)
  have sx : Hid ((sdV x).length = 42) := Lib.hid (sd_len x)
  have X123 := Lib.hid (And.intro x1 (And.intro x2 x3))
  clear hb5 x1 x2 x3
  go_upto_region 7 with (first
    | (refine wpList_store_rowTo rfl 53 (.tmp 5) (.tmp 23) rfl rfl w5.heap.size (sdV x).toArray rfl rfl 53 _ (heap_alloc_last _ _) (szA sz53 sx.out) (by rw [List.size_toArray, List.size_toArray, sx.out, s0.out]) (all_oneCell_toArray (sd_one x)) ?_)
    | fail)
  have RX : Hid (BL ((w5.alloc (Obj.cells (sdV sm0).toArray 53)).setRow w5.heap.size (sdV x).toArray) w5.heap.size (sdV x) 53) := Lib.hid (setRow_heap _ _ _ _ _ _ (heap_alloc_last w5 _))
  have B6 : Hid (Below w5.heap.size w5 ((w5.alloc (Obj.cells (sdV sm0).toArray 53)).setRow w5.heap.size (sdV x).toArray)) := Lib.hid (below_setRow ((Below.refl _ w5).alloc (Nat.le_refl _) _) (Nat.le_refl _) _)
  obtain ⟨w6, hw6⟩ : ∃ w6, (w5.alloc (Obj.cells (sdV sm0).toArray 53)).setRow w5.heap.size (sdV x).toArray = w6 := ⟨_, rfl⟩
  rw [hw6] at RX B6 ⊢
  obtain ⟨M, hM⟩ : ∃ M, w5.heap.size = M := ⟨_, rfl⟩
  rw [hM] at RX ⊢
  have b4 := sd_c4 RX.out
  have b5 := sd_bal RX.out
  have b6 := sd_c6 RX.out
  rw [X123.out.1] at b5
  rw [X123.out.2.1] at b6
  rw [X123.out.2.2] at b4
  have R6 := Lib.hid (R5.out.grow B6.out)
  have BC : Hid (Below N w w6) := Lib.hid ((BB.out.trans (B5.out.mono Z4.out)).trans (B6.out.mono (Nat.le_trans Z4.out B5.out.size)))
  have Z6 : Hid (N ≤ w6.heap.size) := Lib.hid (Nat.le_of_lt (R6.out.lt N (.inl rfl)))
  clear hw6 hM hz
  go_wp2_with (first
    | (go_at_call 27; refine (awTotal N m4 w6 R6.out).mono ?_; rintro e w7 ⟨rfl, hb⟩; have B7 := Lib.hid hb; clear hb)
    | fail)
  go_ret
  exact ⟨rfl, BC.out.trans (B7.out.mono Z6.out)⟩
end Go.Proofs.Ytmcmdpbdipgahaa
