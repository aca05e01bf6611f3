/-
  Joined: R33, R34, R35, R36.
-/
import Derived.Test.YtmcmdpbdipgahaaJN
/-
  The document's registry: a row of records; its total.
-/
namespace Go.Proofs.Ytmcmdpbdipgahaa
open Go.RowKit Go.Maps
set_option maxRecDepth 100000
/-- the document's registry at block M -/
structure DocAt (w : World) (M : Nat) (A : Option Addr) (n c : Nat) (ys : List Sm) : Prop where
  blk : BL w M [.slice A n c] 29
  len : ys.length = n
  cap : n ≤ c
  row : n = 0 ∨ ∃ b o, A = some ⟨b, o, none⟩ ∧ b < w.heap.size ∧ ∀ i, i < n → w.rangeAt b (o + i * 42) (sdV (ys.getD i sm0))
  soft : ∀ b o, A = some ⟨b, o, none⟩ → n ≠ 0 → ∃ cs, w.heap[b]? = some (.cells cs 57 (0, 0))
theorem DocAt.grow {w w' : World} {M : Nat} {A : Option Addr} {n c : Nat} {ys : List Sm} (h : DocAt w M A n c ys) (hb : Below w.heap.size w w') : DocAt w' M A n c ys :=
  ⟨bl_keep h.blk (hb.block M (bl_lt h.blk)), h.len, h.cap, h.row.imp id fun ⟨b, o, e, hl, hr⟩ => ⟨b, o, e, Nat.lt_of_lt_of_le hl hb.size, fun i hi => range_keep1 (hr i hi) (hb.block b hl)⟩, fun b o e hn => by
    obtain ⟨cs, hq⟩ := h.soft b o e hn
    exact ⟨cs, (hb.block b (lt_of_block hq)).trans hq⟩⟩
theorem DocAt.c0 {w : World} {M : Nat} {A : Option Addr} {n c : Nat} {ys : List Sm} (h : DocAt w M A n c ys) : w.cell? ⟨M, 0, none⟩ = some (.slice A n c) := by
  have := range_of h.blk 0 _ rfl
  rwa [Nat.zero_add] at this
theorem sd_rbal {w : World} {b o : Nat} {x : Sm} (h : w.rangeAt b o (sdV x)) : w.cell? ⟨b, o + 5, none⟩ = some (.int .i64 x.s.bal) := h 5 _ rfl
attribute [local irreducible] sdV sumN
set_option maxHeartbeats 4000000 in
theorem dTotal (M : Nat) (A : Option Addr) (n c : Nat) (ys : List Sm) (w : World) (h : DocAt w M A n c ys) (hn : n ≤ 8) (hb : ∀ i, i < n → 0 ≤ balF ys i ∧ balF ys i ≤ 1125899906842624) :
    Calls Try.prog 41 #[.pointer (some ⟨M, 0, none⟩)] w fun e w' => e = .returned (.int .i64 (sumN (balF ys) n)) ∧ w = w' := by
  have c0 := h.c0
  have HH := Lib.hid h
  have HNN := Lib.hid hn
  have HB := Lib.hid hb
  clear h hn hb
  go_enter Try.func41, Try.ntmps41
  go_wp2
  go_loopw [4, 3] (fun iv tv wr => ∃ i : Nat, i ≤ n ∧ iv = .int .i64 i ∧ tv = .int .i64 (sumN (balF ys) i) ∧ wr = w) (fun iv _ _ => n - (intOf iv).toNat)
  case atStart => exact ⟨0, Nat.zero_le _, rfl, by rw [sumN_0], rfl⟩
  case round =>
    obtain ⟨i, hi, rfl, rfl, hw⟩ := hrel
    rw [hw]
    clear hw
    by_cases hlt : i < n
    · obtain ⟨b, o, e, hl, hr⟩ := HH.out.row.resolve_left (by omega)
      have cb := sd_rbal (hr i hlt)
      have hbal : (ys.getD i sm0).s.bal = balF ys i := rfl
      rw [hbal] at cb
      have hs := sumN_s (balF ys) i
      have SB : Hid (0 ≤ sumN (balF ys) i ∧ sumN (balF ys) i ≤ 8 * 1125899906842624) := Lib.hid (by
        have := sumN_bnd (F := balF ys) (n := i) (M := 1125899906842624) fun j hj => HB.out j (by omega)
        have := HNN.out
        omega)
      have UB := Lib.hid (HB.out i hlt)
      obtain ⟨u, hu⟩ : ∃ u, balF ys i = u := ⟨_, rfl⟩
      obtain ⟨tt, htt⟩ : ∃ tt, sumN (balF ys) i = tt := ⟨_, rfl⟩
      rw [hu] at cb hs UB
      rw [htt] at hs SB ⊢
      have HS := Lib.hid hs
      have TW : Hid (wrap64 (tt + u) = tt + u) := Lib.hid (by have := SB.out; have := UB.out; unfold wrap64; omega)
      have i1 : (i : Int) < (n : Int) := by omega
      have i0 : (0 : Int) ≤ (i : Int) := by omega
      have KW : Hid (wrap64 ((i : Int) + 1) = ((i + 1 : Nat) : Int)) := Lib.hid (by have := HNN.out; unfold wrap64; omega)
      have KW2 : Hid ((i : Int) + 1 = ((i + 1 : Nat) : Int)) := Lib.hid (by omega)
      have HLT := Lib.hid hlt
      subst e
      clear hi hlt hr hl hbal hs hu htt
      go_wp2
      go_roundw
      case rel => exact ⟨i + 1, HLT.out, by first | exact congrArg _ KW.out | exact congrArg _ KW2.out, by rw [HS.out]; first | rfl | exact congrArg _ TW.out, by first | rfl | trivial⟩
      case measure => first | exact meas_up KW.out HLT.out | exact meas_up KW2.out HLT.out
    · have ii : i = n := by omega
      have i1 : ¬ (i : Int) < (n : Int) := by omega
      rw [ii]
      have i2 : ¬ (n : Int) < (n : Int) := by omega
      clear hi hlt i1
      go_wp2
      go_ret
      exact ⟨rfl, rfl⟩
end Go.Proofs.Ytmcmdpbdipgahaa

/-
  Two registries that hold the same are told to be the same.
-/
namespace Go.Proofs.Ytmcmdpbdipgahaa
open Go.RowKit Go.Maps
set_option maxRecDepth 100000
/-- records as they come up here: no certificate was ever set -/
def simC (c : Con) : Prop := c.2.2.1.1 = 0 ∧ c.2.2.2.1.1 = 0 ∧ (∃ flat, c.2.1.2 = bvals flat) ∧ ∃ us : List Int, c.2.2.2.2.2 = us.map (.int .i64)
theorem lSame2 {Q Q' : Nat → Prop} (x y : Sm) (w : World) (hx : SdAt w Q x) (hy : SdAt w Q' y) (hc : x.con = y.con) (hs : simC x.con) :
    Calls Try.prog 42 #[.agg (sdV x).toArray, .agg (sdV y).toArray] w fun e w' => e = .returned (.bool true) ∧ Below w.heap.size w w' := by
  obtain ⟨h1, h2, ⟨flat, h3⟩, ⟨us, h4⟩⟩ := hs
  exact lSame x y flat us w hx hy hc h1 h2 h3 h4
attribute [local irreducible] sdV sumN wpQuiet
set_option maxHeartbeats 8000000 in
theorem lSameR {Q : Nat → Prop} (S : Nat) (m : Option Nat) (xs : List Sm) (M : Nat) (A : Option Addr) (n c : Nat) (ys : List Sm) (w : World) (h : RegM w S m xs) (d : DocAt w M A n c ys) (hr : ∀ y ∈ ys, SdAt w Q y) (hc : xs.map Sm.con = ys.map Sm.con) (hn : n ≤ 8) (hs : ∀ c ∈ ys.map Sm.con, simC c ∧ okC c) :
    Calls Try.prog 19 #[.pointer (some ⟨S, 0, none⟩), .pointer (some ⟨M, 0, none⟩)] w fun e w' => e = .returned (.bool true) ∧ Below w.heap.size w w' := by
  obtain ⟨Z, hZ⟩ : ∃ Z, w.heap.size = Z := ⟨_, rfl⟩
  obtain ⟨v, hv⟩ : ∃ v, w = v := ⟨_, rfl⟩
  subst hv
  have lx : xs.length = n := by have := congrArg List.length hc; rw [List.length_map, List.length_map, d.len] at this; exact this
  have gc : ∀ i, i < n → (xs.getD i sm0).con = (ys.getD i sm0).con := fun i hi => by rw [← getD_con, ← getD_con, hc]
  have gs : ∀ i, i < n → simC (ys.getD i sm0).con ∧ okC (ys.getD i sm0).con := fun i hi => by
    rw [← getD_con]
    refine hs _ ?_
    rw [List.getD_eq_getElem?_getD, List.getElem?_eq_getElem (by rw [List.length_map, d.len]; exact hi)]
    exact List.getElem_mem _
  have gb : ∀ i, i < n → balF xs i = balF ys i := fun i hi => congrArg (fun c : Con => c.1.bal) (gc i hi)
  have bnd : ∀ i, i < n → 0 ≤ balF ys i ∧ balF ys i ≤ 1125899906842624 := fun i hi => ⟨(gs i hi).2.1, (gs i hi).2.2.1⟩
  have up : ∀ {W w' : World}, Below Z w W → Below W.heap.size W w' → Below Z w w' := fun hb g => hb.trans (g.mono (by have := hb.size; rw [hZ] at this; exact this))
  have KL : Hid (∀ W, Below Z w W → Calls Try.prog 28 #[.pointer (some ⟨S, 0, none⟩)] W fun e w' => e = .returned (.int .i64 n) ∧ Below Z w w') := Lib.hid fun W hb => by
    refine (rLen S m xs W (h.grow (by rw [hZ]; exact hb))).mono ?_
    rintro e w' ⟨rfl, rfl⟩
    exact ⟨by rw [lx], hb⟩
  have KT : Hid (∀ W, Below Z w W → Calls Try.prog 27 #[.pointer (some ⟨S, 0, none⟩)] W fun e w' => e = .returned (.int .i64 (sumN (balF ys) n)) ∧ Below Z w w') := Lib.hid fun W hb => by
    refine (rTotal S m xs W (h.grow (by rw [hZ]; exact hb)) (by omega) fun i hi => by rw [gb i (by omega)]; exact bnd i (by omega)).mono ?_
    rintro e w' ⟨rfl, hb'⟩
    exact ⟨by rw [lx, sumN_ext gb], up hb hb'⟩
  have KD : Hid (∀ W, Below Z w W → Calls Try.prog 41 #[.pointer (some ⟨M, 0, none⟩)] W fun e w' => e = .returned (.int .i64 (sumN (balF ys) n)) ∧ Below Z w w') := Lib.hid fun W hb => by
    refine (dTotal M A n c ys W (d.grow (by rw [hZ]; exact hb)) hn bnd).mono ?_
    rintro e w' ⟨rfl, rfl⟩
    exact ⟨rfl, hb⟩
  have KSD : Hid (∀ W (i : Nat), Below Z w W → i < n → Calls Try.prog 16 #[.pointer (some ⟨S, 0, none⟩), .int .i64 (i : Int)] W fun e w' => ∃ x', e = .returned (.tuple #[.agg (sdV x').toArray, .bool true]) ∧ x'.con = (ys.getD i sm0).con ∧ SdAt w' (fun q => q < W.heap.size) x' ∧ Below W.heap.size W w') := Lib.hid fun W i hb hi => by
    have := sideM S m xs i W (h.grow (by rw [hZ]; exact hb)) (by omega) (by omega)
    rwa [gc i hi] at this
  have KSN : Hid (∀ W, Below Z w W → Calls Try.prog 16 #[.pointer (some ⟨S, 0, none⟩), .int .i64 (n : Int)] W fun e w' => ∃ x', e = .returned (.tuple #[.agg (sdV x').toArray, .bool false]) ∧ Below W.heap.size W w') := Lib.hid fun W hb => by
    refine (rSide S m xs (n : Int) W (h.grow (by rw [hZ]; exact hb)) (by unfold wfI; omega)).mono ?_
    rintro e w' ⟨x', rfl, _, _, k3⟩
    exact ⟨x', by rw [decide_eq_false (by omega)], k3⟩
  have CMH : Hid (∀ W, Below Z w W → W.cell? ⟨M, 0, none⟩ = some (.slice A n c)) := Lib.hid fun W hb => (d.grow (by rw [hZ]; exact hb)).c0
  have ROW : Hid (n = 0 ∨ ∃ b o, A = some ⟨b, o, none⟩ ∧ ∀ i, i < n → ∀ W, Below Z w W → W.rangeAt b (o + i * 42) (sdV (ys.getD i sm0))) := Lib.hid (d.row.imp id fun ⟨b, o, e, hl, hr⟩ => ⟨b, o, e, fun i hi W hb => range_keep1 (hr i hi) (hb.block b (by rw [← hZ]; exact hl))⟩)
  have YR : Hid (∀ i, i < n → ∀ W, Below Z w W → SdAt W Q (ys.getD i sm0)) := Lib.hid fun i hi W hb => (hr _ (by rw [List.getD_eq_getElem?_getD, List.getElem?_eq_getElem (by rw [d.len]; exact hi)]; exact List.getElem_mem _)).grow (by rw [hZ]; exact hb)
  have GS : Hid (∀ i, i < n → simC (ys.getD i sm0).con) := Lib.hid fun i hi => (gs i hi).1
  have HNN := Lib.hid hn
  have BVV : Hid (Below Z w w) := Lib.hid (Below.refl _ _)
  have UP : Hid (∀ {W w' : World}, Below Z w W → Below W.heap.size W w' → Below Z w w') := Lib.hid up
  have hz : ∀ w, (zeroValue 53).run Try.prog w = .ok (.agg (sdV sm0).toArray) w := z53
  have s0 : Hid ((sdV sm0).length = 42) := Lib.hid (sd_len sm0)
  have CM := CMH.out
  rw [hZ]
  clear h d hr hc hn hs lx gc gs gb bnd up hZ
  obtain ⟨v, hv⟩ : ∃ v, w = v := ⟨_, rfl⟩
  rw [hv] at KL KT KD KSD KSN CMH ROW YR BVV UP CM ⊢
  clear hv
  go_enter Try.func19, Try.ntmps19
  go_upto_region 1 with (fail)
  refine wp_region_class (C := fun W => Below Z v W) (by kernel_rfl) (by kernel_rfl) (BVV.out.drew) ?_
  refine wpQuiet_step (fun K hK => ?_)
  refine quiet_val (by rfl) (v := ?_) ?_ (hK _ ?_)
  rotate_left
  · (intro w hSw; go_simp; try with_reducible rfl)
  clear hK K
  simp only [Act.put, List.setIfInBounds_toArray, List.set_cons_zero, List.set_cons_succ]
  refine wpQuiet_step (fun K hK => ?_)
  refine quiet_val (by rfl) (v := .bool false) (fun w hSw => ?_) (hK _ ?_)
  · (go_simp; first | done | (simp; done))
  clear hK K
  simp only [Act.put, List.setIfInBounds_toArray, List.set_cons_zero, List.set_cons_succ]
  refine wpQuiet_step (fun K hK => ?_)
  refine quiet_val (by rfl) (v := ?_) ?_ (hK _ ?_)
  rotate_left
  · (intro w hSw; go_simp; try with_reducible rfl)
  clear hK K
  simp only [Act.put, List.setIfInBounds_toArray, List.set_cons_zero, List.set_cons_succ]
  refine wpQuiet_step (fun K hK => ?_)
  refine quiet_val (by rfl) (v := ?_) ?_ (hK _ ?_)
  rotate_left
  · (intro w hSw; go_simp; try with_reducible rfl)
  clear hK K
  simp only [Act.put, List.setIfInBounds_toArray, List.set_cons_zero, List.set_cons_succ]
  refine wpQuiet_step (fun K hK => ?_)
  refine quiet_call (by rfl) 28 #[.pointer (some ⟨S, 0, none⟩)] ?_ (fun w hw => KL.out w hw) (hK _ ?_)
  · (intro w hSw; go_simp; try with_reducible rfl)
  clear hK K
  simp only [Act.put, List.setIfInBounds_toArray, List.set_cons_zero, List.set_cons_succ]
  refine wpQuiet_step (fun K hK => ?_)
  refine quiet_val (by rfl) (v := ?_) ?_ (hK _ ?_)
  rotate_left
  · (intro w hSw; go_simp; try with_reducible rfl)
  clear hK K
  simp only [Act.put, List.setIfInBounds_toArray, List.set_cons_zero, List.set_cons_succ]
  refine wpQuiet_step (fun K hK => ?_)
  refine quiet_val (by rfl) (v := ?_) ?_ (hK _ ?_)
  rotate_left
  · (intro w hSw; go_simp; try with_reducible rfl)
  clear hK K
  simp only [Act.put, List.setIfInBounds_toArray, List.set_cons_zero, List.set_cons_succ]
  refine wpQuiet_step (fun K hK => ?_)
  refine quiet_val (by rfl) (v := ?_) ?_ (hK _ ?_)
  rotate_left
  · (intro w hSw; go_simp; try with_reducible rfl)
  clear hK K
  simp only [Act.put, List.setIfInBounds_toArray, List.set_cons_zero, List.set_cons_succ]
  refine wpQuiet_step (fun K hK => ?_)
  refine quiet_val (by rfl) (v := ?_) ?_ (hK _ ?_)
  rotate_left
  · (intro w hSw; have z := CM w hSw; go_simp; try with_reducible rfl)
  clear hK K
  simp only [Act.put, List.setIfInBounds_toArray, List.set_cons_zero, List.set_cons_succ]
  refine wpQuiet_step (fun K hK => ?_)
  refine quiet_val (by rfl) (v := ?_) ?_ (hK _ ?_)
  rotate_left
  · (intro w hSw; go_simp; try with_reducible rfl)
  clear hK K
  simp only [Act.put, List.setIfInBounds_toArray, List.set_cons_zero, List.set_cons_succ]
  refine wpQuiet_step (fun K hK => ?_)
  refine quiet_val (by rfl) (v := .bool false) (fun w hSw => ?_) (hK _ ?_)
  · (go_simp; first | done | (simp; done))
  clear hK K
  simp only [Act.put, List.setIfInBounds_toArray, List.set_cons_zero, List.set_cons_succ]
  refine wpQuiet_step (fun K hK => ?_)
  refine quiet_val (by rfl) (v := ?_) ?_ (hK _ ?_)
  rotate_left
  · (intro w hSw; go_simp; try with_reducible rfl)
  clear hK K
  simp only [Act.put, List.setIfInBounds_toArray, List.set_cons_zero, List.set_cons_succ]
  refine wpQuiet_step (fun K hK => ?_)
  refine quiet_val (by rfl) (v := ?_) ?_ (hK _ ?_)
  rotate_left
  · (intro w hSw; go_simp; try with_reducible rfl)
  clear hK K
  simp only [Act.put, List.setIfInBounds_toArray, List.set_cons_zero, List.set_cons_succ]
  refine wpQuiet_step (fun K hK => ?_)
  refine quiet_val (by rfl) (v := ?_) ?_ (hK _ ?_)
  rotate_left
  · (intro w hSw; go_simp; try with_reducible rfl)
  clear hK K
  simp only [Act.put, List.setIfInBounds_toArray, List.set_cons_zero, List.set_cons_succ]
  refine wpQuiet_step (fun K hK => ?_)
  refine quiet_call (by rfl) 27 #[.pointer (some ⟨S, 0, none⟩)] ?_ (fun w hw => KT.out w hw) (hK _ ?_)
  · (intro w hSw; go_simp; try with_reducible rfl)
  clear hK K
  simp only [Act.put, List.setIfInBounds_toArray, List.set_cons_zero, List.set_cons_succ]
  refine wpQuiet_step (fun K hK => ?_)
  refine quiet_val (by rfl) (v := ?_) ?_ (hK _ ?_)
  rotate_left
  · (intro w hSw; go_simp; try with_reducible rfl)
  clear hK K
  simp only [Act.put, List.setIfInBounds_toArray, List.set_cons_zero, List.set_cons_succ]
  refine wpQuiet_step (fun K hK => ?_)
  refine quiet_call (by rfl) 41 #[.pointer (some ⟨M, 0, none⟩)] ?_ (fun w hw => KD.out w hw) (hK _ ?_)
  · (intro w hSw; go_simp; try with_reducible rfl)
  clear hK K
  simp only [Act.put, List.setIfInBounds_toArray, List.set_cons_zero, List.set_cons_succ]
  refine wpQuiet_step (fun K hK => ?_)
  refine quiet_val (by rfl) (v := .bool false) (fun w hSw => ?_) (hK _ ?_)
  · (go_simp; first | done | (simp; done))
  clear hK K
  simp only [Act.put, List.setIfInBounds_toArray, List.set_cons_zero, List.set_cons_succ]
  refine wpQuiet_step (fun K hK => ?_)
  refine quiet_val (by rfl) (v := ?_) ?_ (hK _ ?_)
  rotate_left
  · (intro w hSw; go_simp; try with_reducible rfl)
  clear hK K
  simp only [Act.put, List.setIfInBounds_toArray, List.set_cons_zero, List.set_cons_succ]
  refine wpQuiet_nil ?_
  intro wq hq
  have BQ : Hid (Below Z v wq) := Lib.hid hq
  clear hq
  clear CM KL KT KD
  go_wp2
  go_loopw [5] (fun iv wr => ∃ i : Nat, i ≤ n ∧ iv = .int .i64 i ∧ Below Z v wr) (fun iv _ => n - (intOf iv).toNat)
  case atStart => exact ⟨0, Nat.zero_le _, rfl, BQ.out⟩
  case round =>
    clear BQ
    obtain ⟨i, hi, rfl, hbr⟩ := hrel
    have BR := Lib.hid hbr
    have cm := CMH.out _ hbr
    clear hbr
    by_cases hlt : i < n
    · obtain ⟨b, o, rfl, rw42⟩ := ROW.out.resolve_left (by omega)
      have i1 : (i : Int) < (n : Int) := by omega
      have i0 : (0 : Int) ≤ (i : Int) := by omega
      have KW : Hid (wrap64 ((i : Int) + 1) = ((i + 1 : Nat) : Int)) := Lib.hid (by have := HNN.out; unfold wrap64; omega)
      have KW2 : Hid ((i : Int) + 1 = ((i + 1 : Nat) : Int)) := Lib.hid (by omega)
      have HLT := Lib.hid hlt
      have RW := Lib.hid (rw42 i hlt)
      have YI := Lib.hid (YR.out i hlt)
      have GI := Lib.hid (GS.out i hlt)
      have CS := Lib.hid (KSD.out _ i BR.out hlt)
      generalize ys.getD i sm0 = y at *
      have sy : Hid ((sdV y).length = 42) := Lib.hid (sd_len y)
      clear hi hlt rw42
      go_wp2_with fail
      refine CS.out.mono ?_
      rintro e w3 ⟨x, rfl, x1, x2, hb3⟩
      have XC := Lib.hid x1
      have XA := Lib.hid x2
      have B3 := Lib.hid hb3
      have sx : Hid ((sdV x).length = 42) := Lib.hid (sd_len x)
      clear x1 x2 hb3 CS
      go_upto_region 7 with (first
        | (refine wpList_store_rowTo rfl 53 (.tmp 6) (.tmp 42) rfl rfl w3.heap.size (sdV x).toArray rfl rfl 53 _ (heap_alloc_last w3 _) (szA sz53 sx.out) (by rw [List.size_toArray, List.size_toArray, sx.out, s0.out]) (all_oneCell_toArray (sd_one x)) ?_)
        | fail)
      have RX : Hid (BL ((w3.alloc (Obj.cells (sdV sm0).toArray 53)).setRow w3.heap.size (sdV x).toArray) w3.heap.size (sdV x) 53) := Lib.hid (setRow_heap _ _ _ _ _ _ (heap_alloc_last w3 _))
      have BX : Hid (Below w3.heap.size w3 ((w3.alloc (Obj.cells (sdV sm0).toArray 53)).setRow w3.heap.size (sdV x).toArray)) := Lib.hid (below_setRow ((Below.refl _ w3).alloc (Nat.le_refl _) _) (Nat.le_refl _) _)
      generalize (w3.alloc (Obj.cells (sdV sm0).toArray 53)).setRow w3.heap.size (sdV x).toArray = wb at *
      have XAb : Hid (SdAt wb (fun _ => False) x) := Lib.hid ((XA.out.grow BX.out).keep (Nat.le_refl _) (fun _ _ _ => rfl) fun _ _ h => h.elim)
      have BB : Hid (Below Z v wb) := Lib.hid (UP.out (UP.out BR.out B3.out) BX.out)
      generalize w3.heap.size = XS at *
      obtain ⟨X, hX⟩ : ∃ X, wb.heap.size = X := ⟨_, rfl⟩
      have HX := Lib.hid hX
      have BXX : Hid (Below X wb wb) := Lib.hid (Below.refl _ _)
      have u2 : ∀ W, Below X wb W → Below Z v W := fun W hb => UP.out BB.out (by rw [hX]; exact hb)
      have CX : ∀ W, Below X wb W → W.rangeAt XS 0 (sdV x) := fun W hb => range_keep1 (range_of RX.out) (hb.block XS (by rw [← hX]; exact bl_lt RX.out))
      have CM2 : ∀ W, Below X wb W → W.cell? ⟨M, 0, none⟩ = some (.slice (some ⟨b, o, none⟩) n c) := fun W hb => CMH.out W (u2 W hb)
      have CY : ∀ W, Below X wb W → W.rangeAt b (o + i * 42) (sdV y) := fun W hb => RW.out W (u2 W hb)
      have KS : Hid (∀ W, Below X wb W → Calls Try.prog 42 #[.agg (sdV x).toArray, .agg (sdV y).toArray] W fun e w' => e = .returned (.bool true) ∧ Below X wb w') := Lib.hid fun W hb => by
        refine (lSame2 x y W (XAb.out.grow (by rw [hX]; exact hb)) (YI.out W (u2 W hb)) XC.out (by rw [XC.out]; exact GI.out)).mono ?_
        rintro e w' ⟨rfl, g⟩
        exact ⟨rfl, hb.trans (g.mono (by have := hb.size; rw [hX] at this; exact this))⟩
      have U2 := Lib.hid u2
      clear u2 hX cm
      refine wp_region_class (C := fun W => Below X wb W) (by kernel_rfl) (by kernel_rfl) (BXX.out.drew) ?_
      refine wpQuiet_step (fun K hK => ?_)
      refine quiet_val (by rfl) (v := ?_) ?_ (hK _ ?_)
      rotate_left
      · (intro w hSw; go_simp; try with_reducible rfl)
      clear hK K
      simp only [Act.put, List.setIfInBounds_toArray, List.set_cons_zero, List.set_cons_succ]
      refine wpQuiet_step (fun K hK => ?_)
      refine quiet_val (by rfl) (v := .bool false) (fun w hSw => ?_) (hK _ ?_)
      · (go_simp; first | done | (simp; done))
      clear hK K
      simp only [Act.put, List.setIfInBounds_toArray, List.set_cons_zero, List.set_cons_succ]
      refine wpQuiet_step (fun K hK => ?_)
      refine quiet_val (by rfl) (v := ?_) ?_ (hK _ ?_)
      rotate_left
      · (intro w hSw; go_simp; try with_reducible rfl)
      clear hK K
      simp only [Act.put, List.setIfInBounds_toArray, List.set_cons_zero, List.set_cons_succ]
      refine wpQuiet_step (fun K hK => ?_)
      refine quiet_load (by rfl) 53 (.tmp 6) rfl XS (0) rfl (sdV x) _ (fun w h => CX w h) Try.underlying53 rfl (szL sz53 sx.out) (hK _ ?_)
      clear hK K
      simp only [Act.put, List.setIfInBounds_toArray, List.set_cons_zero, List.set_cons_succ]
      refine wpQuiet_step (fun K hK => ?_)
      refine quiet_val (by rfl) (v := ?_) ?_ (hK _ ?_)
      rotate_left
      · (intro w hSw; go_simp; try with_reducible rfl)
      clear hK K
      simp only [Act.put, List.setIfInBounds_toArray, List.set_cons_zero, List.set_cons_succ]
      refine wpQuiet_step (fun K hK => ?_)
      refine quiet_val (by rfl) (v := ?_) ?_ (hK _ ?_)
      rotate_left
      · (intro w hSw; go_simp; try with_reducible rfl)
      clear hK K
      simp only [Act.put, List.setIfInBounds_toArray, List.set_cons_zero, List.set_cons_succ]
      refine wpQuiet_step (fun K hK => ?_)
      refine quiet_val (by rfl) (v := ?_) ?_ (hK _ ?_)
      rotate_left
      · (intro w hSw; go_simp; try with_reducible rfl)
      clear hK K
      simp only [Act.put, List.setIfInBounds_toArray, List.set_cons_zero, List.set_cons_succ]
      refine wpQuiet_step (fun K hK => ?_)
      refine quiet_val (by rfl) (v := ?_) ?_ (hK _ ?_)
      rotate_left
      · (intro w hSw; have z := CM2 w hSw; go_simp; try with_reducible rfl)
      clear hK K
      simp only [Act.put, List.setIfInBounds_toArray, List.set_cons_zero, List.set_cons_succ]
      refine wpQuiet_step (fun K hK => ?_)
      refine quiet_val (by rfl) (v := ?_) ?_ (hK _ ?_)
      rotate_left
      · (intro w hSw; go_simp; try with_reducible rfl)
      clear hK K
      simp only [Act.put, List.setIfInBounds_toArray, List.set_cons_zero, List.set_cons_succ]
      refine wpQuiet_step (fun K hK => ?_)
      refine quiet_val (by rfl) (v := ?_) ?_ (hK _ ?_)
      rotate_left
      · (intro w hSw; go_simp; try with_reducible rfl)
      clear hK K
      simp only [Act.put, List.setIfInBounds_toArray, List.set_cons_zero, List.set_cons_succ]
      refine wpQuiet_step (fun K hK => ?_)
      refine quiet_load (by rfl) 57 (.tmp 53) rfl b (o + i * 42) rfl (sdV y) _ (fun w h => CY w h) Try.underlying57 rfl (szL sz57 sy.out) (hK _ ?_)
      clear hK K
      simp only [Act.put, List.setIfInBounds_toArray, List.set_cons_zero, List.set_cons_succ]
      refine wpQuiet_step (fun K hK => ?_)
      refine quiet_call (by rfl) 42 #[.agg (sdV x).toArray, .agg (sdV y).toArray] ?_ (fun w hw => KS.out w hw) (hK _ ?_)
      · (intro w hSw; go_simp; try with_reducible rfl)
      clear hK K
      simp only [Act.put, List.setIfInBounds_toArray, List.set_cons_zero, List.set_cons_succ]
      refine wpQuiet_step (fun K hK => ?_)
      refine quiet_val (by rfl) (v := ?_) ?_ (hK _ ?_)
      rotate_left
      · (intro w hSw; go_simp; try with_reducible rfl)
      clear hK K
      simp only [Act.put, List.setIfInBounds_toArray, List.set_cons_zero, List.set_cons_succ]
      refine wpQuiet_step (fun K hK => ?_)
      refine quiet_val (by rfl) (v := ?_) ?_ (hK _ ?_)
      rotate_left
      · (intro w hSw; go_simp; try with_reducible rfl)
      clear hK K
      simp only [Act.put, List.setIfInBounds_toArray, List.set_cons_zero, List.set_cons_succ]
      refine wpQuiet_nil ?_
      intro wr2 hq
      have BR2 : Hid (Below X wb wr2) := Lib.hid hq
      clear hq
      have BZ := Lib.hid (U2.out _ BR2.out)
      clear CX CM2 CY
      go_wp2_with fail
      go_roundw
      case rel => exact ⟨i + 1, HLT.out, by first | exact congrArg _ KW.out | exact congrArg _ KW2.out, BZ.out⟩
      case measure => first | exact meas_up KW.out HLT.out | exact meas_up KW2.out HLT.out
    · have i1 : ¬ (i : Int) < (n : Int) := by omega
      clear hi hlt
      go_wp2_with (first
        | (go_at_call 16; refine (KSN.out _ BR.out).mono ?_; rintro e w4 ⟨x4, rfl, hb4⟩; have B4 := Lib.hid (UP.out BR.out hb4); clear hb4; have s4 : Hid ((sdV x4).length = 42) := Lib.hid (sd_len x4))
        | (refine wpList_store_rowTo rfl 53 (.tmp 8) (.tmp 66) rfl rfl w4.heap.size (sdV x4).toArray rfl rfl 53 _ (heap_alloc_last w4 _) (szA sz53 s4.out) (by rw [List.size_toArray, List.size_toArray, s4.out, s0.out]) (all_oneCell_toArray (sd_one x4)) ?_)
        | fail)
      go_ret
      exact ⟨rfl, UP.out B4.out (below_setRow ((Below.refl _ w4).alloc (Nat.le_refl _) _) (Nat.le_refl _) _)⟩
end Go.Proofs.Ytmcmdpbdipgahaa

/-
  The document's Forward.
-/
namespace Go.Proofs.Ytmcmdpbdipgahaa
open Go.RowKit Go.Maps
set_option maxRecDepth 100000
theorem soft_sets {b : Nat} {T : TypeId} : ∀ (vs : List Value) {w : World} {cs : Array Value} (o : Nat), w.heap[b]? = some (.cells cs T (0, 0)) → ∃ cs', (w.setCells b o vs).heap[b]? = some (.cells cs' T (0, 0))
  | [], _, cs, _, h => ⟨cs, h⟩
  | v :: r, w, cs, o, h => by
    rw [World.setCells]
    have hb : BL w b cs.toList T := by unfold BL; rw [Array.toArray_toList]; exact h
    exact soft_sets r (o + 1) (bl_set hb o v)
theorem fr_cellsF (w : World) (b o : Nat) (vs : List Value) : Fr w (w.setCells b o vs) (fun q => q = b) := by
  have h := below_setCells (B := 0) (Nat.zero_le b) vs o (Below.refl 0 w)
  exact ⟨h.os, h.tape, h.output, h.size, fun q _ hn => heap_setCells hn _ _ _⟩
theorem doc_put {w : World} {M b ob n c i : Nat} {ys : List Sm} {x' : Sm} (d : DocAt w M (some ⟨b, ob, none⟩) n c ys) (hi : i < n) (ht : w.there b (ob + i * 42) 42) : DocAt (w.setCells b (ob + i * 42) (sdV x')) M (some ⟨b, ob, none⟩) n c (ys.set i x') := by
  obtain ⟨cs, hcs⟩ := d.soft b ob rfl (by omega)
  have hne : M ≠ b := by
    rintro rfl
    have hb := d.blk
    unfold BL at hb
    rw [hcs] at hb
    exact absurd (Obj.cells.inj (Option.some.inj hb)).2.1 (by decide)
  refine ⟨bl_keep d.blk (heap_setCells hne _ _ _), by rw [List.length_set]; exact d.len, d.cap, .inr ⟨b, ob, rfl, ?_, fun j hj => ?_⟩, fun b' o' e _ => ?_⟩
  · exact Nat.lt_of_lt_of_le (lt_of_block hcs) (fr_cellsF w b _ _).size
  · obtain ⟨b', o', e, hl, hr⟩ := d.row.resolve_left (by omega)
    cases e
    rw [set_getD ys i j x' sm0 (by rw [d.len]; exact hi)]
    by_cases hij : j = i
    · rw [if_pos hij, hij]
      exact World.rangeAt_setCells_same w b _ _ (by rw [sd_len]; exact ht)
    · rw [if_neg hij]
      exact World.rangeAt_setCells_apart (hr j hj) b _ _ (.inr (by rw [sd_len, sd_len]; omega))
  · cases e
    exact soft_sets _ _ hcs
/-- the block of a row -/
def onB (A : Option Addr) (q : Nat) : Prop := ∃ o, A = some ⟨q, o, none⟩
attribute [local irreducible] sdV sumN wpQuiet fwV
set_option maxHeartbeats 8000000 in
theorem dForward (M : Nat) (A : Option Addr) (n c : Nat) (ys : List Sm) (s a k : Int) (o : List Int) (w : World) (d : DocAt w M A n c ys) (hn : n ≤ 8) (hs : wfI s) (hk : wfI k) (hok : ∀ c ∈ ys.map Sm.con, okC c) :
    Calls Try.prog 15 #[.pointer (some ⟨M, 0, none⟩), .agg (fwV s a o k).toArray] w fun e w' => e = .returned (.int .i64 (fwC (ys.map Sm.con) s k).2) ∧ ∃ ys', DocAt w' M A n c ys' ∧ ys'.map Sm.con = (fwC (ys.map Sm.con) s k).1 ∧ Fr w w' (onB A) ∧ ∀ y ∈ ys', ∃ y0 ∈ ys, y.K = y0.K ∧ y.O = y0.O ∧ y.G = y0.G ∧ y.U = y0.U := by
  obtain ⟨N, hN⟩ : ∃ N, w.heap.size = N := ⟨_, rfl⟩
  obtain ⟨v, hv⟩ : ∃ v, w.alloc (Obj.cells (fwV s a o k).toArray 33) = v := ⟨_, rfl⟩
  have RF : Hid (BL v N (fwV s a o k) 33) := Lib.hid (by subst hv hN; exact heap_alloc_last w _)
  have BV : Hid (Below N w v) := Lib.hid (by subst hv hN; exact (Below.refl _ w).alloc (Nat.le_refl _) _)
  have DV : Hid (DocAt v M A n c ys) := Lib.hid (d.grow (by rw [hN]; exact BV.out))
  have HN := Lib.hid hN
  obtain ⟨Z, hZ⟩ : ∃ Z, v.heap.size = Z := ⟨_, rfl⟩
  have HZ := Lib.hid hZ
  have BVV : Hid (Below Z v v) := Lib.hid (Below.refl _ _)
  have NZ : Hid (N < Z) := Lib.hid (by rw [← hZ]; exact bl_lt RF.out)
  have C0 : ∀ W, Below Z v W → W.cell? ⟨N, 0, none⟩ = some (.int .i64 s) := fun W hb => fw_c0 (bl_keep RF.out (hb.block N NZ.out))
  have CK : Hid (∀ W, Below Z v W → W.cell? ⟨N, 10, none⟩ = some (.int .i64 k)) := Lib.hid fun W hb => fw_c10 (bl_keep RF.out (hb.block N NZ.out))
  have CM : ∀ W, Below Z v W → W.cell? ⟨M, 0, none⟩ = some (.slice A n c) := fun W hb => (DV.out.grow (by rw [HZ.out]; exact hb)).c0
  have LEN : Hid ((ys.map Sm.con).length = n) := Lib.hid (by rw [List.length_map]; exact d.len)
  have STAY : Hid (∀ e W, fwC (ys.map Sm.con) s k = (ys.map Sm.con, e) → Below Z v W → Ending.returned (.int .i64 e) = .returned (.int .i64 (fwC (ys.map Sm.con) s k).2) ∧ ∃ ys', DocAt W M A n c ys' ∧ ys'.map Sm.con = (fwC (ys.map Sm.con) s k).1 ∧ Fr w W (onB A) ∧ ∀ y ∈ ys', ∃ y0 ∈ ys, y.K = y0.K ∧ y.O = y0.O ∧ y.G = y0.G ∧ y.U = y0.U) := Lib.hid fun e W he hb => by
    rw [he]
    exact ⟨rfl, ys, DV.out.grow (by rw [HZ.out]; exact hb), rfl, (Fr.of_below (P := onB A) (by rw [HN.out]; exact BV.out)).trans (Fr.of_below (P := onB A) (by rw [HZ.out]; exact hb)) fun q h => .inl h, fun y hy => ⟨y, hy, rfl, rfl, rfl, rfl⟩⟩
  have HNN := Lib.hid hn
  have HOK := Lib.hid hok
  have HW := Lib.hid (And.intro hs hk)
  clear d hn hok hZ hs hk
  by_cases hs0 : s < 0
  · have F : Hid (fwC (ys.map Sm.con) s k = (ys.map Sm.con, 8)) := Lib.hid (by unfold fwC; rw [if_neg (by rw [LEN.out]; omega)])
    have q0 : decide (s < 0) = true := decide_eq_true hs0
    go_enter Try.func15, Try.ntmps15
    go_upto_region 1 with (fail)
    (try rw [hN]); (try rw [hv])
    clear hv
    refine wp_region_class (C := fun W => Below Z v W) (by kernel_rfl) (by kernel_rfl) (BVV.out.drew) ?_
    refine wpQuiet_step (fun K hK => ?_)
    refine quiet_val (by rfl) (v := ?_) ?_ (hK _ ?_)
    rotate_left
    · (intro w hSw; go_simp; try with_reducible rfl)
    clear hK K
    simp only [Act.put, List.setIfInBounds_toArray, List.set_cons_zero, List.set_cons_succ]
    refine wpQuiet_step (fun K hK => ?_)
    refine quiet_val (by rfl) (v := ?_) ?_ (hK _ ?_)
    rotate_left
    · (intro w hSw; have z := C0 w hSw; go_simp; try with_reducible rfl)
    clear hK K
    simp only [Act.put, List.setIfInBounds_toArray, List.set_cons_zero, List.set_cons_succ]
    refine wpQuiet_step (fun K hK => ?_)
    refine quiet_val (by rfl) (v := .bool true) (fun w hSw => ?_) (hK _ ?_)
    · (go_simp; first | done | (simp; done))
    clear hK K
    simp only [Act.put, List.setIfInBounds_toArray, List.set_cons_zero, List.set_cons_succ]
    refine wpQuiet_step (fun K hK => ?_)
    refine quiet_val (by rfl) (v := ?_) ?_ (hK _ ?_)
    rotate_left
    · (intro w hSw; go_simp; try with_reducible rfl)
    clear hK K
    simp only [Act.put, List.setIfInBounds_toArray, List.set_cons_zero, List.set_cons_succ]
    refine wpQuiet_step (fun K hK => ?_)
    refine quiet_skip (by kernel_rfl) (hK _ ?_)
    clear hK K
    simp only [Act.put, List.setIfInBounds_toArray, List.set_cons_zero, List.set_cons_succ]
    refine wpQuiet_step (fun K hK => ?_)
    refine quiet_skip (by kernel_rfl) (hK _ ?_)
    clear hK K
    simp only [Act.put, List.setIfInBounds_toArray, List.set_cons_zero, List.set_cons_succ]
    refine wpQuiet_step (fun K hK => ?_)
    refine quiet_skip (by kernel_rfl) (hK _ ?_)
    clear hK K
    simp only [Act.put, List.setIfInBounds_toArray, List.set_cons_zero, List.set_cons_succ]
    refine wpQuiet_step (fun K hK => ?_)
    refine quiet_skip (by kernel_rfl) (hK _ ?_)
    clear hK K
    simp only [Act.put, List.setIfInBounds_toArray, List.set_cons_zero, List.set_cons_succ]
    refine wpQuiet_step (fun K hK => ?_)
    refine quiet_skip (by kernel_rfl) (hK _ ?_)
    clear hK K
    simp only [Act.put, List.setIfInBounds_toArray, List.set_cons_zero, List.set_cons_succ]
    refine wpQuiet_step (fun K hK => ?_)
    refine quiet_skip (by kernel_rfl) (hK _ ?_)
    clear hK K
    simp only [Act.put, List.setIfInBounds_toArray, List.set_cons_zero, List.set_cons_succ]
    refine wpQuiet_step (fun K hK => ?_)
    refine quiet_skip (by kernel_rfl) (hK _ ?_)
    clear hK K
    simp only [Act.put, List.setIfInBounds_toArray, List.set_cons_zero, List.set_cons_succ]
    refine wpQuiet_step (fun K hK => ?_)
    refine quiet_skip (by kernel_rfl) (hK _ ?_)
    clear hK K
    simp only [Act.put, List.setIfInBounds_toArray, List.set_cons_zero, List.set_cons_succ]
    refine wpQuiet_step (fun K hK => ?_)
    refine quiet_val (by rfl) (v := ?_) ?_ (hK _ ?_)
    rotate_left
    · (intro w hSw; go_simp; try with_reducible rfl)
    clear hK K
    simp only [Act.put, List.setIfInBounds_toArray, List.set_cons_zero, List.set_cons_succ]
    refine wpQuiet_nil ?_
    intro w1 hq
    have B1 := Lib.hid hq
    clear hq
    clear C0 CM
    go_wp2
    go_ret
    exact STAY.out 8 _ F.out B1.out
  have q0 : decide (s < 0) = false := decide_eq_false hs0
  by_cases hsn : (n : Int) ≤ s
  · have F : Hid (fwC (ys.map Sm.con) s k = (ys.map Sm.con, 8)) := Lib.hid (by unfold fwC; rw [if_neg (by rw [LEN.out]; omega)])
    have q1 : decide ((n : Int) ≤ s) = true := decide_eq_true hsn
    go_enter Try.func15, Try.ntmps15
    go_upto_region 1 with (fail)
    (try rw [hN]); (try rw [hv])
    clear hv
    refine wp_region_class (C := fun W => Below Z v W) (by kernel_rfl) (by kernel_rfl) (BVV.out.drew) ?_
    refine wpQuiet_step (fun K hK => ?_)
    refine quiet_val (by rfl) (v := ?_) ?_ (hK _ ?_)
    rotate_left
    · (intro w hSw; go_simp; try with_reducible rfl)
    clear hK K
    simp only [Act.put, List.setIfInBounds_toArray, List.set_cons_zero, List.set_cons_succ]
    refine wpQuiet_step (fun K hK => ?_)
    refine quiet_val (by rfl) (v := ?_) ?_ (hK _ ?_)
    rotate_left
    · (intro w hSw; have z := C0 w hSw; go_simp; try with_reducible rfl)
    clear hK K
    simp only [Act.put, List.setIfInBounds_toArray, List.set_cons_zero, List.set_cons_succ]
    refine wpQuiet_step (fun K hK => ?_)
    refine quiet_val (by rfl) (v := .bool false) (fun w hSw => ?_) (hK _ ?_)
    · (go_simp; first | done | (simp; done))
    clear hK K
    simp only [Act.put, List.setIfInBounds_toArray, List.set_cons_zero, List.set_cons_succ]
    refine wpQuiet_step (fun K hK => ?_)
    refine quiet_val (by rfl) (v := ?_) ?_ (hK _ ?_)
    rotate_left
    · (intro w hSw; go_simp; try with_reducible rfl)
    clear hK K
    simp only [Act.put, List.setIfInBounds_toArray, List.set_cons_zero, List.set_cons_succ]
    refine wpQuiet_step (fun K hK => ?_)
    refine quiet_val (by rfl) (v := ?_) ?_ (hK _ ?_)
    rotate_left
    · (intro w hSw; go_simp; try with_reducible rfl)
    clear hK K
    simp only [Act.put, List.setIfInBounds_toArray, List.set_cons_zero, List.set_cons_succ]
    refine wpQuiet_step (fun K hK => ?_)
    refine quiet_val (by rfl) (v := ?_) ?_ (hK _ ?_)
    rotate_left
    · (intro w hSw; have z := C0 w hSw; go_simp; try with_reducible rfl)
    clear hK K
    simp only [Act.put, List.setIfInBounds_toArray, List.set_cons_zero, List.set_cons_succ]
    refine wpQuiet_step (fun K hK => ?_)
    refine quiet_val (by rfl) (v := ?_) ?_ (hK _ ?_)
    rotate_left
    · (intro w hSw; go_simp; try with_reducible rfl)
    clear hK K
    simp only [Act.put, List.setIfInBounds_toArray, List.set_cons_zero, List.set_cons_succ]
    refine wpQuiet_step (fun K hK => ?_)
    refine quiet_val (by rfl) (v := ?_) ?_ (hK _ ?_)
    rotate_left
    · (intro w hSw; go_simp; try with_reducible rfl)
    clear hK K
    simp only [Act.put, List.setIfInBounds_toArray, List.set_cons_zero, List.set_cons_succ]
    refine wpQuiet_step (fun K hK => ?_)
    refine quiet_val (by rfl) (v := ?_) ?_ (hK _ ?_)
    rotate_left
    · (intro w hSw; go_simp; try with_reducible rfl)
    clear hK K
    simp only [Act.put, List.setIfInBounds_toArray, List.set_cons_zero, List.set_cons_succ]
    refine wpQuiet_step (fun K hK => ?_)
    refine quiet_val (by rfl) (v := ?_) ?_ (hK _ ?_)
    rotate_left
    · (intro w hSw; have z := CM w hSw; go_simp; try with_reducible rfl)
    clear hK K
    simp only [Act.put, List.setIfInBounds_toArray, List.set_cons_zero, List.set_cons_succ]
    refine wpQuiet_step (fun K hK => ?_)
    refine quiet_val (by rfl) (v := ?_) ?_ (hK _ ?_)
    rotate_left
    · (intro w hSw; go_simp; try with_reducible rfl)
    clear hK K
    simp only [Act.put, List.setIfInBounds_toArray, List.set_cons_zero, List.set_cons_succ]
    refine wpQuiet_step (fun K hK => ?_)
    refine quiet_val (by rfl) (v := .bool true) (fun w hSw => ?_) (hK _ ?_)
    · (go_simp; first | done | (simp; done))
    clear hK K
    simp only [Act.put, List.setIfInBounds_toArray, List.set_cons_zero, List.set_cons_succ]
    refine wpQuiet_step (fun K hK => ?_)
    refine quiet_val (by rfl) (v := ?_) ?_ (hK _ ?_)
    rotate_left
    · (intro w hSw; go_simp; try with_reducible rfl)
    clear hK K
    simp only [Act.put, List.setIfInBounds_toArray, List.set_cons_zero, List.set_cons_succ]
    refine wpQuiet_nil ?_
    intro w1 hq
    have B1 := Lib.hid hq
    clear hq
    clear C0 CM
    go_wp2
    go_ret
    exact STAY.out 8 _ F.out B1.out
  have q1 : decide ((n : Int) ≤ s) = false := decide_eq_false hsn
  obtain ⟨i, rfl⟩ : ∃ i : Nat, s = (i : Int) := ⟨s.toNat, by omega⟩
  have hin : i < n := by omega
  have HIN := Lib.hid hin
  obtain ⟨x, hx⟩ : ∃ x, ys.getD i sm0 = x := ⟨_, rfl⟩
  obtain ⟨b, ob, rfl, hl, hr⟩ := DV.out.row.resolve_left (by omega)
  have CR : ∀ W, Below Z v W → W.rangeAt b (ob + i * 42) (sdV x) := fun W hb => by rw [← hx]; exact range_keep1 (hr i hin) (hb.block b (by rw [← HZ.out]; exact hl))
  have LB : Hid (b < Z) := Lib.hid (by rw [← HZ.out]; exact hl)
  have HX := Lib.hid hx
  have sx : Hid ((sdV x).length = 42) := Lib.hid (sd_len x)
  have s0 : Hid ((sdV sm0).length = 42) := Lib.hid (sd_len sm0)
  have hz2 : ∀ w, (zeroValue 57).run Try.prog w = .ok (.agg (sdV sm0).toArray) w := z57
  have FWC : Hid (fwC (ys.map Sm.con) (i : Int) k = if x.con.1.ce = true then (ys.map Sm.con, 14) else if fwOk x.con k then (putS (ys.map Sm.con) i (moreC x.con k), 0) else (ys.map Sm.con, 5)) := Lib.hid (by
    unfold fwC
    rw [if_pos (by rw [LEN.out]; omega), Int.toNat_natCast, getD_con, hx])
  have OKX : Hid (okC x.con) := Lib.hid (HOK.out _ (by
    rw [← hx, ← getD_con, List.getD_eq_getElem?_getD, List.getElem?_eq_getElem (by rw [LEN.out]; exact hin)]
    exact List.getElem_mem _))
  clear hl hr hx hin
  have i1 : (i : Int) < (n : Int) := by omega
  have i0 : (0 : Int) ≤ (i : Int) := by omega
  go_enter Try.func15, Try.ntmps15
  go_upto_region 1 with (fail)
  (try rw [hN]); (try rw [hv])
  clear hv
  refine wp_region_class (C := fun W => Below Z v W) (by kernel_rfl) (by kernel_rfl) (BVV.out.drew) ?_
  refine wpQuiet_step (fun K hK => ?_)
  refine quiet_val (by rfl) (v := ?_) ?_ (hK _ ?_)
  rotate_left
  · (intro w hSw; go_simp; try with_reducible rfl)
  clear hK K
  simp only [Act.put, List.setIfInBounds_toArray, List.set_cons_zero, List.set_cons_succ]
  refine wpQuiet_step (fun K hK => ?_)
  refine quiet_val (by rfl) (v := ?_) ?_ (hK _ ?_)
  rotate_left
  · (intro w hSw; have z := C0 w hSw; go_simp; try with_reducible rfl)
  clear hK K
  simp only [Act.put, List.setIfInBounds_toArray, List.set_cons_zero, List.set_cons_succ]
  refine wpQuiet_step (fun K hK => ?_)
  refine quiet_val (by rfl) (v := .bool false) (fun w hSw => ?_) (hK _ ?_)
  · (go_simp; first | done | (simp; done))
  clear hK K
  simp only [Act.put, List.setIfInBounds_toArray, List.set_cons_zero, List.set_cons_succ]
  refine wpQuiet_step (fun K hK => ?_)
  refine quiet_val (by rfl) (v := ?_) ?_ (hK _ ?_)
  rotate_left
  · (intro w hSw; go_simp; try with_reducible rfl)
  clear hK K
  simp only [Act.put, List.setIfInBounds_toArray, List.set_cons_zero, List.set_cons_succ]
  refine wpQuiet_step (fun K hK => ?_)
  refine quiet_val (by rfl) (v := ?_) ?_ (hK _ ?_)
  rotate_left
  · (intro w hSw; go_simp; try with_reducible rfl)
  clear hK K
  simp only [Act.put, List.setIfInBounds_toArray, List.set_cons_zero, List.set_cons_succ]
  refine wpQuiet_step (fun K hK => ?_)
  refine quiet_val (by rfl) (v := ?_) ?_ (hK _ ?_)
  rotate_left
  · (intro w hSw; have z := C0 w hSw; go_simp; try with_reducible rfl)
  clear hK K
  simp only [Act.put, List.setIfInBounds_toArray, List.set_cons_zero, List.set_cons_succ]
  refine wpQuiet_step (fun K hK => ?_)
  refine quiet_val (by rfl) (v := ?_) ?_ (hK _ ?_)
  rotate_left
  · (intro w hSw; go_simp; try with_reducible rfl)
  clear hK K
  simp only [Act.put, List.setIfInBounds_toArray, List.set_cons_zero, List.set_cons_succ]
  refine wpQuiet_step (fun K hK => ?_)
  refine quiet_val (by rfl) (v := ?_) ?_ (hK _ ?_)
  rotate_left
  · (intro w hSw; go_simp; try with_reducible rfl)
  clear hK K
  simp only [Act.put, List.setIfInBounds_toArray, List.set_cons_zero, List.set_cons_succ]
  refine wpQuiet_step (fun K hK => ?_)
  refine quiet_val (by rfl) (v := ?_) ?_ (hK _ ?_)
  rotate_left
  · (intro w hSw; go_simp; try with_reducible rfl)
  clear hK K
  simp only [Act.put, List.setIfInBounds_toArray, List.set_cons_zero, List.set_cons_succ]
  refine wpQuiet_step (fun K hK => ?_)
  refine quiet_val (by rfl) (v := ?_) ?_ (hK _ ?_)
  rotate_left
  · (intro w hSw; have z := CM w hSw; go_simp; try with_reducible rfl)
  clear hK K
  simp only [Act.put, List.setIfInBounds_toArray, List.set_cons_zero, List.set_cons_succ]
  refine wpQuiet_step (fun K hK => ?_)
  refine quiet_val (by rfl) (v := ?_) ?_ (hK _ ?_)
  rotate_left
  · (intro w hSw; go_simp; try with_reducible rfl)
  clear hK K
  simp only [Act.put, List.setIfInBounds_toArray, List.set_cons_zero, List.set_cons_succ]
  refine wpQuiet_step (fun K hK => ?_)
  refine quiet_val (by rfl) (v := .bool false) (fun w hSw => ?_) (hK _ ?_)
  · (go_simp; first | done | (simp; done))
  clear hK K
  simp only [Act.put, List.setIfInBounds_toArray, List.set_cons_zero, List.set_cons_succ]
  refine wpQuiet_step (fun K hK => ?_)
  refine quiet_val (by rfl) (v := ?_) ?_ (hK _ ?_)
  rotate_left
  · (intro w hSw; go_simp; try with_reducible rfl)
  clear hK K
  simp only [Act.put, List.setIfInBounds_toArray, List.set_cons_zero, List.set_cons_succ]
  refine wpQuiet_nil ?_
  intro w1 hq
  have B1 := Lib.hid hq
  clear hq
  go_upto_region 3 with (fail)
  refine wp_region_end 9 (S := fun W => Below Z v W) (by kernel_rfl) (by kernel_rfl) B1.out.drew (fun hHeld => ?_)
  refine wpAnyH_take (i := 0) (v := ?_) rfl (by kernel_rfl) (by kernel_rfl) (by kernel_rfl) (fun _ _ _ h => h) (Or.inl ⟨by rfl, ?_⟩) (by assumption) ?_
  rotate_left
  · (intro w hSw; (try dsimp only at hSw); go_simp; try with_reducible rfl)
  simp only [Act.put, List.getElem_toArray, List.getElem_cons_zero, List.setIfInBounds_toArray, List.set_cons_zero, List.set_cons_succ]
  refine wpAnyH_take (i := 1) (v := ?_) rfl (by kernel_rfl) (by kernel_rfl) (by kernel_rfl) (fun _ _ _ h => h) (Or.inl ⟨by rfl, ?_⟩) (by assumption) ?_
  rotate_left
  · (intro w hSw; (try dsimp only at hSw); go_simp; try with_reducible rfl)
  simp only [Act.put, List.getElem_toArray, List.getElem_cons_succ, List.getElem_cons_zero, List.setIfInBounds_toArray, List.set_cons_zero, List.set_cons_succ]
  refine wpAnyH_take (i := 2) (v := ?_) rfl (by kernel_rfl) (by kernel_rfl) (by kernel_rfl) (fun _ _ _ h => h) (Or.inl ⟨by rfl, ?_⟩) (by assumption) ?_
  rotate_left
  · (intro w hSw; (try dsimp only at hSw); go_simp; try with_reducible rfl)
  simp only [Act.put, List.getElem_toArray, List.getElem_cons_succ, List.getElem_cons_zero, List.setIfInBounds_toArray, List.set_cons_zero, List.set_cons_succ]
  refine wpAnyH_take (i := 3) (v := ?_) rfl (by kernel_rfl) (by kernel_rfl) (by kernel_rfl) (fun _ _ _ h => h) (Or.inl ⟨by rfl, ?_⟩) (by assumption) ?_
  rotate_left
  · (intro w hSw; have z := CM w hSw; go_simp; try with_reducible rfl)
  simp only [Act.put, List.getElem_toArray, List.getElem_cons_succ, List.getElem_cons_zero, List.setIfInBounds_toArray, List.set_cons_zero, List.set_cons_succ]
  refine wpAnyH_take (i := 4) (v := ?_) rfl (by kernel_rfl) (by kernel_rfl) (by kernel_rfl) (fun _ _ _ h => h) (Or.inl ⟨by rfl, ?_⟩) (by assumption) ?_
  rotate_left
  · (intro w hSw; (try dsimp only at hSw); go_simp; try with_reducible rfl)
  simp only [Act.put, List.getElem_toArray, List.getElem_cons_succ, List.getElem_cons_zero, List.setIfInBounds_toArray, List.set_cons_zero, List.set_cons_succ]
  refine wpAnyH_take (i := 5) (v := ?_) rfl (by kernel_rfl) (by kernel_rfl) (by kernel_rfl) (fun _ _ _ h => h) (Or.inl ⟨by rfl, ?_⟩) (by assumption) ?_
  rotate_left
  · (intro w hSw; have z := C0 w hSw; go_simp; try with_reducible rfl)
  simp only [Act.put, List.getElem_toArray, List.getElem_cons_succ, List.getElem_cons_zero, List.setIfInBounds_toArray, List.set_cons_zero, List.set_cons_succ]
  refine wpAnyH_take (i := 6) (v := ?_) rfl (by kernel_rfl) (by kernel_rfl) (by kernel_rfl) (fun _ _ _ h => h) (Or.inl ⟨by rfl, ?_⟩) (by assumption) ?_
  rotate_left
  · (intro w hSw; (try dsimp only at hSw); go_simp; try with_reducible rfl)
  simp only [Act.put, List.getElem_toArray, List.getElem_cons_succ, List.getElem_cons_zero, List.setIfInBounds_toArray, List.set_cons_zero, List.set_cons_succ]
  refine wpAnyH_take (i := 7) rfl (by kernel_rfl) (by kernel_rfl) (by kernel_rfl) (fun _ _ _ h => h) (yieldsIf_load_mid (by rfl) 57 (.tmp 25) rfl b (ob + i * 42) rfl (sdV x) _ (fun w h => CR w h) Try.underlying57 rfl (szL sz57 sx.out)) (by assumption) ?_
  simp only [Act.put, List.getElem_toArray, List.getElem_cons_succ, List.getElem_cons_zero, List.setIfInBounds_toArray, List.set_cons_zero, List.set_cons_succ]
  refine wpAnyH_ready (rs := [8]) (by kernel_rfl) (by simp) ?_
  refine AllReadyH.cons rfl (fun K hK => ?_) AllReadyH.nil
  go_simp
  obtain ⟨XB, hXB⟩ : ∃ XB, w1.heap.size = XB := ⟨_, rfl⟩
  have ZX : Hid (Z ≤ XB) := Lib.hid (by rw [← hXB]; have := B1.out.size; rw [HZ.out] at this; exact this)
  have BA : Hid (Below Z v (w1.alloc (Obj.cells (sdV sm0).toArray 57)).drew) := Lib.hid ((B1.out.alloc (by rw [hXB]; exact ZX.out) _).drew)
  have RB : Hid (BL (w1.alloc (Obj.cells (sdV sm0).toArray 57)).drew XB (sdV sm0) 57) := Lib.hid (by rw [← hXB]; exact heap_alloc_last w1 _)
  rw [hXB]
  generalize (w1.alloc (Obj.cells (sdV sm0).toArray 57)).drew = w2 at *
  refine hK.out _ _ BA.out (fun hHeld => ?_)
  clear hK K
  clear hHeld
  refine wpAnyH_done (by kernel_rfl) ?_ _
  refine qn_last rfl (by rfl) ?_
  have TB : Hid (w2.there XB 0 (sdV x).toArray.size) := Lib.hid fun j hj => by
    have hj : j < 42 := by rw [List.size_toArray, sx.out] at hj; exact hj
    refine ⟨?_, bl_free RB.out _⟩
    have := (range_of RB.out).isSome j (by rw [s0.out]; exact hj)
    exact this
  refine wp_store_mid 57 (.tmp 5) (.tmp 26) rfl XB 0 (sdV x).toArray rfl rfl TB.out (szA sz57 sx.out) (all_oneCell_toArray (sd_one x)) ?_
  have R3 : Hid (BL (w2.setCells XB 0 (sdV x)) XB (sdV x) 57) := Lib.hid (by
    have := bl_sets (sdV x) 0 RB.out (by rw [sx.out, s0.out]; exact Nat.le_refl _)
    rw [Nat.zero_add, List.take_zero, List.nil_append, sx.out, List.drop_of_length_le (by rw [s0.out]; exact Nat.le_refl _), List.append_nil] at this
    exact this)
  have B3 : Hid (Below Z v (w2.setCells XB 0 (sdV x))) := Lib.hid (below_setCells ZX.out _ _ BA.out)
  rw [show (sdV x).toArray.toList = sdV x by rw [List.toList_toArray]]
  generalize w2.setCells XB 0 (sdV x) = w3 at *
  have a9 := sd_c9 R3.out
  have a5 := (sd_i R3.out).2.1
  have a6 := sd_c6 R3.out
  have ak := CK.out _ B3.out
  obtain ⟨bal, hbal⟩ : ∃ z, x.s.bal = z := ⟨_, rfl⟩
  obtain ⟨fwd, hfwd⟩ : ∃ z, x.s.fwd = z := ⟨_, rfl⟩
  obtain ⟨ce, hce⟩ : ∃ z, x.s.ce = z := ⟨_, rfl⟩
  rw [hbal] at a5
  rw [hfwd] at a6
  rw [hce] at a9
  have XX : Hid (x.con.1.bal = bal ∧ x.con.1.fwd = fwd ∧ x.con.1.ce = ce) := Lib.hid ⟨hbal, hfwd, hce⟩
  clear hce hbal hfwd TB RB BA hXB C0 CM CR q0 q1
  cases ce with
  | true =>
    have F : Hid (fwC (ys.map Sm.con) (i : Int) k = (ys.map Sm.con, 14)) := Lib.hid (by rw [FWC.out, if_pos XX.out.2.2])
    go_wp2
    go_ret
    exact STAY.out 14 _ F.out B3.out
  | false =>
  by_cases h1 : k < 1
  · have F : Hid (fwC (ys.map Sm.con) (i : Int) k = (ys.map Sm.con, 5)) := Lib.hid (by rw [FWC.out, if_neg (by rw [XX.out.2.2]; decide), if_neg (by unfold fwOk; rw [XX.out.1, XX.out.2.1]; omega)])
    have g1 : decide (k < 1) = true := decide_eq_true h1
    go_wp2
    go_ret
    exact STAY.out 5 _ F.out B3.out
  have g1 : decide (k < 1) = false := decide_eq_false h1
  by_cases h2 : 1125899906842624 < k
  · have F : Hid (fwC (ys.map Sm.con) (i : Int) k = (ys.map Sm.con, 5)) := Lib.hid (by rw [FWC.out, if_neg (by rw [XX.out.2.2]; decide), if_neg (by unfold fwOk; rw [XX.out.1, XX.out.2.1]; omega)])
    have g2 : decide (1125899906842624 < k) = true := decide_eq_true h2
    go_wp2
    go_ret
    exact STAY.out 5 _ F.out B3.out
  have g2 : decide (1125899906842624 < k) = false := decide_eq_false h2
  have wk : wrap64 (1125899906842624 - k) = 1125899906842624 - k := by unfold wrap64; omega
  by_cases h3 : 1125899906842624 - k < bal
  · have F : Hid (fwC (ys.map Sm.con) (i : Int) k = (ys.map Sm.con, 5)) := Lib.hid (by rw [FWC.out, if_neg (by rw [XX.out.2.2]; decide), if_neg (by unfold fwOk; rw [XX.out.1, XX.out.2.1]; omega)])
    have g3 : decide (1125899906842624 - k < bal) = true := decide_eq_true h3
    go_wp2
    go_ret
    exact STAY.out 5 _ F.out B3.out
  have g3 : decide (1125899906842624 - k < bal) = false := decide_eq_false h3
  by_cases h4 : 1125899906842624 - k < fwd
  · have F : Hid (fwC (ys.map Sm.con) (i : Int) k = (ys.map Sm.con, 5)) := Lib.hid (by rw [FWC.out, if_neg (by rw [XX.out.2.2]; decide), if_neg (by unfold fwOk; rw [XX.out.1, XX.out.2.1]; omega)])
    have g4 : decide (1125899906842624 - k < fwd) = true := decide_eq_true h4
    go_wp2
    go_ret
    exact STAY.out 5 _ F.out B3.out
  have g4 : decide (1125899906842624 - k < fwd) = false := decide_eq_false h4
  go_upto_region 8 with (fail)
  have HOKX : Hid (1 ≤ k ∧ k ≤ 1125899906842624 ∧ bal + k ≤ 1125899906842624 ∧ fwd + k ≤ 1125899906842624 ∧ 0 ≤ bal ∧ 0 ≤ fwd) := Lib.hid (by
    have := OKX.out
    unfold okC at this
    rw [XX.out.1, XX.out.2.1] at this
    omega)
  have NXB : Hid (N < XB) := Lib.hid (by have := NZ.out; have := ZX.out; omega)
  have B33 : Hid (Below XB w3 w3) := Lib.hid (Below.refl _ _)
  have CF0 : Hid (w3.drew.cell? ⟨XB, 6, none⟩ = some (.int .i64 fwd)) := Lib.hid a6
  have RN3 : Hid (BL w3 N (fwV (i : Int) a o k) 33) := Lib.hid (bl_keep RF.out (B3.out.block N NZ.out))
  have CKX : ∀ W, (Below XB w3 W ∧ W.cell? ⟨XB, 6, none⟩ = some (.int .i64 fwd)) → W.cell? ⟨N, 10, none⟩ = some (.int .i64 k) := fun W hb => fw_c10 (bl_keep RN3.out (hb.1.block N NXB.out))
  have CF6 : ∀ W, (Below XB w3 W ∧ W.cell? ⟨XB, 6, none⟩ = some (.int .i64 fwd)) → W.cell? ⟨XB, 6, none⟩ = some (.int .i64 fwd) := fun W hb => hb.2
  have f5 := bl_free R3.out 5
  have f6 := bl_free R3.out 6
  clear a6 a9 ak g1 g2 g3 g4 wk
  refine wp_region_end 13 (S := fun W => Below XB w3 W ∧ W.cell? ⟨XB, 6, none⟩ = some (.int .i64 fwd)) (by kernel_rfl) (by kernel_rfl) ⟨B33.out.drew, CF0.out⟩ (fun hHeld => ?_)
  refine wpAnyH_take (i := 0) (v := ?_) rfl (by kernel_rfl) (by kernel_rfl) (by kernel_rfl) (fun _ _ _ h => h) (Or.inl ⟨by rfl, ?_⟩) (by assumption) ?_
  rotate_left
  · (intro w hSw; (try dsimp only at hSw); go_simp; try with_reducible rfl)
  simp only [Act.put, List.getElem_toArray, List.getElem_cons_zero, List.setIfInBounds_toArray, List.set_cons_zero, List.set_cons_succ]
  refine wpAnyH_take (i := 2) (v := ?_) rfl (by kernel_rfl) (by kernel_rfl) (by kernel_rfl) (fun _ _ _ h => h) (Or.inl ⟨by rfl, ?_⟩) (by assumption) ?_
  rotate_left
  · (intro w hSw; (try dsimp only at hSw); go_simp; try with_reducible rfl)
  simp only [Act.put, List.getElem_toArray, List.getElem_cons_succ, List.getElem_cons_zero, List.setIfInBounds_toArray, List.set_cons_zero, List.set_cons_succ]
  refine wpAnyH_take (i := 3) (v := ?_) rfl (by kernel_rfl) (by kernel_rfl) (by kernel_rfl) (fun _ _ _ h => h) (Or.inl ⟨by rfl, ?_⟩) (by assumption) ?_
  rotate_left
  · (intro w hSw; have z := CKX w hSw; go_simp; try with_reducible rfl)
  simp only [Act.put, List.getElem_toArray, List.getElem_cons_succ, List.getElem_cons_zero, List.setIfInBounds_toArray, List.set_cons_zero, List.set_cons_succ]
  refine wpAnyH_take (i := 5) (v := ?_) rfl (by kernel_rfl) (by kernel_rfl) (by kernel_rfl) (fun _ _ _ h => h) (Or.inl ⟨by rfl, ?_⟩) (by assumption) ?_
  rotate_left
  · (intro w hSw; (try dsimp only at hSw); go_simp; try with_reducible rfl)
  simp only [Act.put, List.getElem_toArray, List.getElem_cons_succ, List.getElem_cons_zero, List.setIfInBounds_toArray, List.set_cons_zero, List.set_cons_succ]
  refine wpAnyH_take (i := 6) (v := ?_) rfl (by kernel_rfl) (by kernel_rfl) (by kernel_rfl) (fun _ _ _ h => h) (Or.inl ⟨by rfl, ?_⟩) (by assumption) ?_
  rotate_left
  · (intro w hSw; have z := CF6 w hSw; go_simp; try with_reducible rfl)
  simp only [Act.put, List.getElem_toArray, List.getElem_cons_succ, List.getElem_cons_zero, List.setIfInBounds_toArray, List.set_cons_zero, List.set_cons_succ]
  refine wpAnyH_take (i := 7) (v := ?_) rfl (by kernel_rfl) (by kernel_rfl) (by kernel_rfl) (fun _ _ _ h => h) (Or.inl ⟨by rfl, ?_⟩) (by assumption) ?_
  rotate_left
  · (intro w hSw; (try dsimp only at hSw); go_simp; try with_reducible rfl)
  simp only [Act.put, List.getElem_toArray, List.getElem_cons_succ, List.getElem_cons_zero, List.setIfInBounds_toArray, List.set_cons_zero, List.set_cons_succ]
  refine wpAnyH_take (i := 8) (v := ?_) rfl (by kernel_rfl) (by kernel_rfl) (by kernel_rfl) (fun _ _ _ h => h) (Or.inl ⟨by rfl, ?_⟩) (by assumption) ?_
  rotate_left
  · (intro w hSw; have z := CKX w hSw; go_simp; try with_reducible rfl)
  simp only [Act.put, List.getElem_toArray, List.getElem_cons_succ, List.getElem_cons_zero, List.setIfInBounds_toArray, List.set_cons_zero, List.set_cons_succ]
  refine wpAnyH_take (i := 9) (v := ?_) rfl (by kernel_rfl) (by kernel_rfl) (by kernel_rfl) (fun _ _ _ h => h) (Or.inl ⟨by rfl, ?_⟩) (by assumption) ?_
  rotate_left
  · (intro w hSw; (try dsimp only at hSw); go_simp; try with_reducible rfl)
  simp only [Act.put, List.getElem_toArray, List.getElem_cons_succ, List.getElem_cons_zero, List.setIfInBounds_toArray, List.set_cons_zero, List.set_cons_succ]
  refine wpAnyH_ready (rs := [1]) (by kernel_rfl) (by simp) ?_
  refine AllReadyH.cons rfl (fun K hK => ?_) AllReadyH.nil
  go_simp
  refine hK.out _ _ (⟨B33.out.drew, CF0.out⟩) (fun hHeld => ?_)
  clear hK K
  refine wpAnyH_take (i := 4) (v := ?_) rfl (by kernel_rfl) (by kernel_rfl) (by kernel_rfl) (fun _ _ _ h => h) (Or.inl ⟨by rfl, ?_⟩) (by assumption) ?_
  rotate_left
  · (intro w hSw; (try dsimp only at hSw); go_simp; try with_reducible rfl)
  simp only [Act.put, List.getElem_toArray, List.getElem_cons_succ, List.getElem_cons_zero, List.setIfInBounds_toArray, List.set_cons_zero, List.set_cons_succ]
  refine wpAnyH_take (i := 10) (v := ?_) rfl (by kernel_rfl) (by kernel_rfl) (by kernel_rfl) (fun _ _ _ h => h) (Or.inl ⟨by rfl, ?_⟩) (by assumption) ?_
  rotate_left
  · (intro w hSw; (try dsimp only at hSw); go_simp; try with_reducible rfl)
  simp only [Act.put, List.getElem_toArray, List.getElem_cons_succ, List.getElem_cons_zero, List.setIfInBounds_toArray, List.set_cons_zero, List.set_cons_succ]
  refine wpAnyH_ready (rs := [11]) (by kernel_rfl) (by simp) ?_
  refine AllReadyH.cons rfl (fun K hK => ?_) AllReadyH.nil
  go_simp
  have wI1 : Hid (IntKind.i64.wrap (bal + k) = bal + k) := Lib.hid (by rw [IntKind.wrap_i64]; have := HOKX.out; omega)
  rw [wI1.out]
  have R4 : Hid (BL (w3.setCell ⟨XB, 5, none⟩ (.int .i64 (bal + k))).drew XB (sdV (x.more1 k)) 57) := Lib.hid (by
    have := bl_set R3.out 5 (.int .i64 (bal + k))
    rw [← XX.out.1] at this
    rw [← XX.out.1]
    exact (sd_more1 x k) ▸ this)
  have S4 : Hid (Below XB w3 (w3.setCell ⟨XB, 5, none⟩ (.int .i64 (bal + k))).drew) := Lib.hid (B33.out.setCell (Nat.le_refl _) _).drew
  have C64 : Hid ((w3.setCell ⟨XB, 5, none⟩ (.int .i64 (bal + k))).drew.cell? ⟨XB, 6, none⟩ = some (.int .i64 fwd)) := Lib.hid (by rw [← XX.out.2.1]; exact sd_c6' R4.out)
  generalize (w3.setCell ⟨XB, 5, none⟩ (.int .i64 (bal + k))).drew = w4 at *
  refine hK.out _ _ (⟨S4.out, C64.out⟩) (fun hHeld => ?_)
  clear hK K
  refine wpAnyH_take (i := 12) (v := ?_) rfl (by kernel_rfl) (by kernel_rfl) (by kernel_rfl) (fun _ _ _ h => h) (Or.inl ⟨by rfl, ?_⟩) (by assumption) ?_
  rotate_left
  · (intro w hSw; (try dsimp only at hSw); go_simp; try with_reducible rfl)
  simp only [Act.put, List.getElem_toArray, List.getElem_cons_succ, List.getElem_cons_zero, List.setIfInBounds_toArray, List.set_cons_zero, List.set_cons_succ]
  clear hHeld
  refine wpAnyH_done (by kernel_rfl) ?_ _
  refine qn_last rfl (by rfl) ?_
  have f64 := bl_free R4.out 6
  have c64 := C64.out
  clear CKX CF6 f5 f6 a5
  go_upto_region 9 with (fail)
  have wI2 : Hid (IntKind.i64.wrap (fwd + k) = fwd + k) := Lib.hid (by rw [IntKind.wrap_i64]; have := HOKX.out; omega)
  have wI3 : Hid (wrap64 (fwd + k) = fwd + k) := Lib.hid (by have := HOKX.out; unfold wrap64; omega)
  first | rw [wI2.out] | rw [wI3.out]
  have R5 : Hid (BL (w4.setCell ⟨XB, 6, none⟩ (.int .i64 (fwd + k))) XB (sdV (x.more k)) 57) := Lib.hid (by
    have := bl_set R4.out 6 (.int .i64 (fwd + k))
    rw [← XX.out.2.1] at this
    rw [← XX.out.2.1]
    exact (sd_more2 x k) ▸ this)
  have B5 : Hid (Below Z v (w4.setCell ⟨XB, 6, none⟩ (.int .i64 (fwd + k)))) := Lib.hid ((B3.out.trans (S4.out.mono ZX.out)).setCell ZX.out _)
  generalize w4.setCell ⟨XB, 6, none⟩ (.int .i64 (fwd + k)) = w5 at *
  have B55 : Hid (Below w5.heap.size w5 w5) := Lib.hid (Below.refl _ _)
  have up5 : Hid (∀ W, Below w5.heap.size w5 W → Below Z v W) := Lib.hid fun W hb => B5.out.trans (hb.mono (by have := B5.out.size; rw [HZ.out] at this; exact this))
  have CM9 : ∀ W, Below w5.heap.size w5 W → W.cell? ⟨M, 0, none⟩ = some (.slice (some ⟨b, ob, none⟩) n c) := fun W hb => (DV.out.grow (by rw [HZ.out]; exact up5.out W hb)).c0
  have C09 : ∀ W, Below w5.heap.size w5 W → W.cell? ⟨N, 0, none⟩ = some (.int .i64 (i : Int)) := fun W hb => fw_c0 (bl_keep RF.out ((up5.out W hb).block N NZ.out))
  have CB9 : ∀ W, Below w5.heap.size w5 W → W.rangeAt XB 0 (sdV (x.more k)) := fun W hb => range_keep1 (range_of R5.out) (hb.block XB (bl_lt R5.out))
  have sm : Hid ((sdV (x.more k)).length = 42) := Lib.hid (sd_len _)
  clear f64 c64
  refine wp_region_end 8 (S := fun W => Below w5.heap.size w5 W) (by kernel_rfl) (by kernel_rfl) B55.out.drew (fun hHeld => ?_)
  refine wpAnyH_take (i := 0) (v := ?_) rfl (by kernel_rfl) (by kernel_rfl) (by kernel_rfl) (fun _ _ _ h => h) (Or.inl ⟨by rfl, ?_⟩) (by assumption) ?_
  rotate_left
  · (intro w hSw; (try dsimp only at hSw); go_simp; try with_reducible rfl)
  simp only [Act.put, List.getElem_toArray, List.getElem_cons_zero, List.setIfInBounds_toArray, List.set_cons_zero, List.set_cons_succ]
  refine wpAnyH_take (i := 1) (v := ?_) rfl (by kernel_rfl) (by kernel_rfl) (by kernel_rfl) (fun _ _ _ h => h) (Or.inl ⟨by rfl, ?_⟩) (by assumption) ?_
  rotate_left
  · (intro w hSw; (try dsimp only at hSw); go_simp; try with_reducible rfl)
  simp only [Act.put, List.getElem_toArray, List.getElem_cons_succ, List.getElem_cons_zero, List.setIfInBounds_toArray, List.set_cons_zero, List.set_cons_succ]
  refine wpAnyH_take (i := 2) (v := ?_) rfl (by kernel_rfl) (by kernel_rfl) (by kernel_rfl) (fun _ _ _ h => h) (Or.inl ⟨by rfl, ?_⟩) (by assumption) ?_
  rotate_left
  · (intro w hSw; (try dsimp only at hSw); go_simp; try with_reducible rfl)
  simp only [Act.put, List.getElem_toArray, List.getElem_cons_succ, List.getElem_cons_zero, List.setIfInBounds_toArray, List.set_cons_zero, List.set_cons_succ]
  refine wpAnyH_take (i := 3) (v := ?_) rfl (by kernel_rfl) (by kernel_rfl) (by kernel_rfl) (fun _ _ _ h => h) (Or.inl ⟨by rfl, ?_⟩) (by assumption) ?_
  rotate_left
  · (intro w hSw; have z := CM9 w hSw; go_simp; try with_reducible rfl)
  simp only [Act.put, List.getElem_toArray, List.getElem_cons_succ, List.getElem_cons_zero, List.setIfInBounds_toArray, List.set_cons_zero, List.set_cons_succ]
  refine wpAnyH_take (i := 4) (v := ?_) rfl (by kernel_rfl) (by kernel_rfl) (by kernel_rfl) (fun _ _ _ h => h) (Or.inl ⟨by rfl, ?_⟩) (by assumption) ?_
  rotate_left
  · (intro w hSw; (try dsimp only at hSw); go_simp; try with_reducible rfl)
  simp only [Act.put, List.getElem_toArray, List.getElem_cons_succ, List.getElem_cons_zero, List.setIfInBounds_toArray, List.set_cons_zero, List.set_cons_succ]
  refine wpAnyH_take (i := 5) (v := ?_) rfl (by kernel_rfl) (by kernel_rfl) (by kernel_rfl) (fun _ _ _ h => h) (Or.inl ⟨by rfl, ?_⟩) (by assumption) ?_
  rotate_left
  · (intro w hSw; have z := C09 w hSw; go_simp; try with_reducible rfl)
  simp only [Act.put, List.getElem_toArray, List.getElem_cons_succ, List.getElem_cons_zero, List.setIfInBounds_toArray, List.set_cons_zero, List.set_cons_succ]
  refine wpAnyH_take (i := 6) rfl (by kernel_rfl) (by kernel_rfl) (by kernel_rfl) (fun _ _ _ h => h) (yieldsIf_load_mid (by rfl) 57 (.tmp 5) rfl XB (0) rfl (sdV (x.more k)) _ (fun w h => CB9 w h) Try.underlying57 rfl (szL sz57 sm.out)) (by assumption) ?_
  simp only [Act.put, List.getElem_toArray, List.getElem_cons_succ, List.getElem_cons_zero, List.setIfInBounds_toArray, List.set_cons_zero, List.set_cons_succ]
  refine wpAnyH_take (i := 7) (v := ?_) rfl (by kernel_rfl) (by kernel_rfl) (by kernel_rfl) (fun _ _ _ h => h) (Or.inl ⟨by rfl, ?_⟩) (by assumption) ?_
  rotate_left
  · (intro w hSw; (try dsimp only at hSw); go_simp; try with_reducible rfl)
  simp only [Act.put, List.getElem_toArray, List.getElem_cons_succ, List.getElem_cons_zero, List.setIfInBounds_toArray, List.set_cons_zero, List.set_cons_succ]
  clear hHeld
  refine wpAnyH_done (by kernel_rfl) ?_ _
  refine qn_last rfl (by rfl) ?_
  obtain ⟨cs, hcs⟩ : ∃ cs, w5.heap[b]? = some (.cells cs 57 (0, 0)) := by
    obtain ⟨cs, hq⟩ := DV.out.soft b ob rfl (by have := HIN.out; omega)
    exact ⟨cs, (B5.out.block b LB.out).trans hq⟩
  have r5 : w5.rangeAt b (ob + i * 42) (sdV (ys.getD i sm0)) := by
    obtain ⟨b', o', e, hl, hr⟩ := DV.out.row.resolve_left (by have := HIN.out; omega)
    cases e
    exact range_keep1 (hr i HIN.out) (B5.out.block b LB.out)
  have TB : Hid (w5.drew.there b (ob + i * 42) (sdV (x.more k)).toArray.size) := Lib.hid fun j hj => by
    have hj : j < 42 := by rw [List.size_toArray, sm.out] at hj; exact hj
    exact ⟨r5.isSome j (by rw [sd_len]; exact hj), free_of hcs _⟩
  refine wp_store_mid 57 (.tmp 72) (.tmp 71) rfl b (ob + i * 42) (sdV (x.more k)).toArray rfl rfl TB.out (szA sz57 sm.out) (all_oneCell_toArray (sd_one _)) ?_
  rw [show (sdV (x.more k)).toArray.toList = sdV (x.more k) by rw [List.toList_toArray]]
  have BD : Hid (Below Z v w5.drew) := Lib.hid B5.out.drew
  have D6 : Hid (DocAt (w5.drew.setCells b (ob + i * 42) (sdV (x.more k))) M (some ⟨b, ob, none⟩) n c (ys.set i (x.more k))) := Lib.hid (doc_put (DV.out.grow (by rw [HZ.out]; exact BD.out)) HIN.out (by have := TB.out; rw [List.size_toArray, sm.out] at this; exact this))
  have F6 : Hid (Fr w (w5.drew.setCells b (ob + i * 42) (sdV (x.more k))) (onB (some ⟨b, ob, none⟩))) := Lib.hid (((Fr.of_below (P := onB (some ⟨b, ob, none⟩)) (by rw [HN.out]; exact BV.out)).trans (Fr.of_below (P := onB (some ⟨b, ob, none⟩)) (by rw [HZ.out]; exact BD.out)) fun q h => .inl h).trans (fr_cellsF _ b _ _) fun q e => .inl ⟨ob, by rw [e]⟩)
  generalize w5.drew.setCells b (ob + i * 42) (sdV (x.more k)) = w6 at *
  clear CM9 C09 CB9 hcs r5
  go_wp2
  go_ret
  have fok : fwOk x.con k := by
    unfold fwOk
    rw [XX.out.1, XX.out.2.1]
    have := HOKX.out
    omega
  have hF : fwC (ys.map Sm.con) (i : Int) k = (putS (ys.map Sm.con) i (moreC x.con k), 0) := by rw [FWC.out, if_neg (by rw [XX.out.2.2]; decide), if_pos fok]
  refine ⟨by rw [hF]; rfl, ys.set i (x.more k), D6.out, ?_, F6.out, fun y hy => ?_⟩
  · rw [hF]
    unfold putS
    rw [if_pos (by rw [LEN.out]; exact HIN.out), List.map_set, more_con]
  · rcases List.mem_or_eq_of_mem_set hy with hy | rfl
    · exact ⟨y, hy, rfl, rfl, rfl, rfl⟩
    · refine ⟨x, ?_, rfl, rfl, rfl, rfl⟩
      rw [← HX.out, List.getD_eq_getElem?_getD, List.getElem?_eq_getElem (by have := LEN.out; rw [List.length_map] at this; rw [this]; exact HIN.out)]
      exact List.getElem_mem _
end Go.Proofs.Ytmcmdpbdipgahaa

/-
  Create, its rows.
-/
namespace Go.Proofs.Ytmcmdpbdipgahaa
open Go.RowKit Go.Maps
set_option maxRecDepth 100000
attribute [local irreducible] sdV MapV z0 fnS bvals mayP sm1
set_option maxHeartbeats 4000000 in
theorem kCreate2 (S : Nat) (m : Option Nat) (xs : List Sm) (a b c : Int) (A : Option Addr) (n cap : Nat) (flat : List Int) (ht : Int) (w : World) (hr : RegM w S m xs) (hn : xs.length ≤ 8) (hs : Src w A (8 * n) flat) (hc : n ≤ cap) (hc2 : cap ≤ maxLen) :
    Calls Try.prog 12 #[.pointer (some ⟨S, 0, none⟩), .agg #[.int .i64 a, .int .i64 b, .int .i64 c, .slice A n cap], .int .i64 ht] w fun e w' => ∃ r m', r = creC (xs.map Sm.con) (mayP (at8 flat) n a b c) (con0 a b c n flat ht) ∧ e = .returned (.tuple #[.int .i64 r.2.1, .int .i64 r.2.2]) ∧ (∃ xs', RegM w' S m' xs' ∧ xs'.map Sm.con = r.1 ∧ ∀ y ∈ xs', y ∈ xs ∨ SdAt w' (fun q => q < w.heap.size) y) ∧ (∀ b, m' = some b → m = some b ∨ w.heap.size ≤ b) ∧ Fr w w' (isP S m) := by
  obtain ⟨N, hN⟩ : ∃ N, w.heap.size = N := ⟨_, rfl⟩
  have HN := Lib.hid hN
  obtain ⟨v, hv⟩ : ∃ v, w.alloc (Obj.cells #[.int .i64 a, .int .i64 b, .int .i64 c, .slice A n cap] 38) = v := ⟨_, rfl⟩
  have P0 : Hid (PB v N a b c (.slice A n cap)) := Lib.hid (by subst hv; exact pb_new hN a b c (.slice A n cap))
  have BV : Hid (Below N w v) := Lib.hid (by subst hv hN; exact (Below.refl _ w).alloc (Nat.le_refl _) _)
  have VS : Hid (v.heap.size = N + 1) := Lib.hid (by subst hv hN; show _ = _; rw [World.size_alloc])
  have HR : Hid (RegM v S m xs) := Lib.hid (hr.grow (by rw [hN]; exact BV.out))
  have HSR : Hid (Src v A (8 * n) flat) := Lib.hid (hs.keep fun k hk => BV.out.block k (by rw [← hN]; exact hk))
  have CM : Hid (Calls Try.prog 33 #[.agg #[.int .i64 a, .int .i64 b, .int .i64 c, .slice A n cap]] v fun e w' => e = .returned (.bool (mayP (at8 flat) n a b c)) ∧ Below v.heap.size v w') := Lib.hid (kMay A n cap flat a b c v HSR.out hc hc2)
  have HC := Lib.hid hc
  have HNL := Lib.hid hn
  have BN : Hid (∀ q, isP S m q → q < N) := Lib.hid fun q hq => by rw [← hN]; exact hr.lt q hq
  clear hr hs hc hc2 hn
  obtain ⟨ok, hok⟩ : ∃ ok, mayP (at8 flat) n a b c = ok := ⟨_, rfl⟩
  rw [hok] at CM ⊢
  have HOK := Lib.hid hok
  clear hok
  cases ok
  · go_enter Try.func12, Try.ntmps12
    go_upto_region 3 with (fail)
    (try rw [hv])
    go_wp2_with (first
      | (refine wpList_load_midG (by rfl) 38 (.tmp 4) rfl N 0 rfl [.int .i64 a, .int .i64 b, .int .i64 c, .slice A n cap] _ (pb_range P0.out) Try.underlying38 rfl (pb_info a b c _) ?_)
      | (go_at_call 33; refine CM.out.mono ?_; rintro e w1 ⟨rfl, hb⟩; have B1 := Lib.hid hb; clear hb)
      | fail)
    go_ret2
    exact ⟨_, m, rfl, rfl, ⟨xs, HR.out.grow B1.out, rfl, fun y hy => .inl hy⟩, fun b e => .inl e, (Fr.of_below (by rw [HN.out]; exact BV.out)).trans (Fr.of_below (P := isP S m) B1.out) fun q hq => .inl hq⟩
  · obtain ⟨L, hL⟩ : ∃ L, xs.length = L := ⟨_, rfl⟩
    have HL := Lib.hid hL
    have hml : (xs.map Sm.con).length = L := by rw [List.length_map, hL]
    have HML := Lib.hid hml
    clear hml hL
    by_cases h8 : 8 ≤ L
    · have h8' : decide ((8 : Int) ≤ (L : Int)) = true := by simp; omega
      have H8 := Lib.hid h8
      clear h8
      go_enter Try.func12, Try.ntmps12
      go_upto_region 3 with (fail)
      (try rw [hv])
      go_wp2_with (first
        | (refine wpList_load_midG (by rfl) 38 (.tmp 4) rfl N 0 rfl [.int .i64 a, .int .i64 b, .int .i64 c, .slice A n cap] _ (pb_range P0.out) Try.underlying38 rfl (pb_info a b c _) ?_)
        | (go_at_call 33; refine CM.out.mono ?_; rintro e w1 ⟨rfl, hb⟩; have B1 := Lib.hid hb; clear hb)
        | (go_at_call 28; refine (rLen S m xs _ (HR.out.grow B1.out)).mono ?_; rintro e w2 ⟨rfl, rfl⟩; rw [HL.out])
        | fail)
      go_ret2
      refine ⟨_, m, rfl, ?_, ⟨xs, HR.out.grow B1.out, ?_, fun y hy => .inl hy⟩, fun b e => .inl e, (Fr.of_below (by rw [HN.out]; exact BV.out)).trans (Fr.of_below (P := isP S m) B1.out) fun q hq => .inl hq⟩
      · unfold creC; rw [if_neg (by decide), HML.out, if_pos H8.out]; try rfl
      · unfold creC; rw [if_neg (by decide), HML.out, if_pos H8.out]; try rfl
    · have h8' : decide ((8 : Int) ≤ (L : Int)) = false := by simp; omega
      have H8 := Lib.hid h8
      have SB := fun w => b53 a b c A n cap flat ht w
      clear h8
      go_enter Try.func12, Try.ntmps12
      go_upto_region 3 with (fail)
      (try rw [hv])
      go_upto_region 8 with (first
        | (refine wpList_load_midG (by rfl) 38 (.tmp 4) rfl N 0 rfl [.int .i64 a, .int .i64 b, .int .i64 c, .slice A n cap] _ (pb_range P0.out) Try.underlying38 rfl (pb_info a b c _) ?_)
        | (go_at_call 33; refine CM.out.mono ?_; rintro e w1 ⟨rfl, hb⟩; have B1 := Lib.hid hb; clear hb)
        | (go_at_call 28; refine (rLen S m xs _ (HR.out.grow B1.out)).mono ?_; rintro e w2 ⟨rfl, rfl⟩; rw [HL.out])
        | fail)
      have P1 : Hid (PB w1 N a b c (.slice A n cap)) := Lib.hid ((B1.out.block N (by have := VS.out; omega)).trans P0.out)
      have H1 := may_n HOK.out
      have HX : Hid (SdAt w1 (isP S m) (sm1 a b c A n cap flat ht)) := Lib.hid (sm1_at a b c ht (HR.out.grow B1.out) (HSR.out.keep B1.out.block) H1.1 HC.out (by omega))
      have H100 : Hid (xs.length ≤ 100) := Lib.hid (by have := HNL.out; omega)
      clear H1 hv
      go_wp2_with (first
        | (refine wpList_load_midG (by rfl) 38 (.tmp 4) rfl N 0 rfl [.int .i64 a, .int .i64 b, .int .i64 c, .slice A n cap] _ (pb_range P1.out) Try.underlying38 rfl (pb_info a b c _) ?_)
        | (refine wpList_bld2 (by rfl) 53 (.tmp 20) (.tmp 21) 0 1 (.agg #[.int .i64 a, .int .i64 b, .int .i64 c, .slice A n cap]) (.agg (sdV (sm1 a b c A n cap flat ht)).toArray) (.int .i64 ht) rfl rfl rfl SB ?_)
        | (go_at_call 34; rw [← HL.out]; refine (kPut2 S m xs xs.length _ w1 (HR.out.grow B1.out) (Nat.le_refl _) H100.out HX.out).mono ?_; rintro e w2 ⟨rfl, m', x', k1, k2, k3, k4, k5⟩; have K1 := Lib.hid k1; have K2 := Lib.hid k2; have K3 := Lib.hid k3; have K4 := Lib.hid k4; have K5 := Lib.hid k5; clear k1 k2 k3 k4 k5)
        | fail)
      go_ret2
      have hp : putS xs xs.length x' = xs ++ [x'] := by unfold putS; rw [if_neg (by omega)]
      have hcr : creC (xs.map Sm.con) true (con0 a b c n flat ht) = (xs.map Sm.con ++ [con0 a b c n flat ht], ((L : Nat) : Int), 0) := by unfold creC; rw [if_neg (by decide), HML.out, if_neg H8.out]
      refine ⟨_, m', rfl, ?_, ⟨xs ++ [x'], by rw [← hp]; exact K2.out, ?_, fun y hy => (by
        rcases List.mem_append.1 hy with hy | hy
        · exact .inl hy
        · rw [List.mem_singleton.1 hy]
          exact .inr (K5.out.weakF fun q _ hq => Nat.lt_of_lt_of_le hq (by have := BV.out.size; have := B1.out.size; have := HN.out; omega)))⟩, fun b e => (K3.out b e).imp id fun h => ?_, (Fr.of_below (by rw [HN.out]; exact BV.out)).trans ((Fr.of_below (P := isP S m) B1.out).trans K4.out fun q hq => .inl hq) fun q hq => .inl hq⟩
      · rw [hcr]; (try rw [HL.out]); try rfl
      · rw [hcr, List.map_append, List.map_cons, List.map_nil, K1.out, sm1_con]
      · have := BV.out.size; have := B1.out.size; have := HN.out; omega
end Go.Proofs.Ytmcmdpbdipgahaa
