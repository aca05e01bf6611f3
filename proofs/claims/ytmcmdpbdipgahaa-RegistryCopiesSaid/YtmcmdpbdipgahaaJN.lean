/-
  Joined: R30, R31, R32.
-/
import Derived.Test.YtmcmdpbdipgahaaJM
/-
  Two rows of hashes are the same.
-/
namespace Go.Proofs.Ytmcmdpbdipgahaa
open Go.RowKit Go.Maps
set_option maxRecDepth 100000
theorem at8_range {w : World} {b o n i : Nat} {flat : List Int} (h : w.rangeAt b o (bvals flat)) (hl : flat.length = 8 * n) (hi : i < n) : w.rangeAt b (o + i * 8) (bvals (at8 flat i)) := by
  have h1 := rng_take (k := 8) (rng_drop (k := i * 8) h (by rw [bvals_len]; omega))
  have e : ((bvals flat).drop (i * 8)).take 8 = bvals (at8 flat i) := by
    unfold bvals at8
    rw [← List.map_drop, ← List.map_take, Nat.mul_comm]
  rwa [e] at h1
attribute [local irreducible] wpQuiet
set_option maxHeartbeats 4000000 in
theorem lHash {P P' : Nat → Prop} (a b : Rf) (n : Nat) (flat : List Int) (w : World) (ha : RfAt w P 8 a) (hb : RfAt w P' 8 b) (an : a.n = n) (bn : b.n = n) (ea : a.ys = bvals flat) (eb : b.ys = bvals flat) :
    Calls Try.prog 55 #[.slice a.A n a.c, .slice b.A n b.c] w fun e w' => e = .returned (.bool true) ∧ Below w.heap.size w w' := by
  obtain ⟨N, hN⟩ : ∃ N, w.heap.size = N := ⟨_, rfl⟩
  have hfl : flat.length = 8 * n := by have := ha.src.1; rw [ea, bvals_len, an] at this; omega
  have HA : Hid (n = 0 ∨ ∃ bA oA, a.A = some ⟨bA, oA, none⟩ ∧ bA < N ∧ w.rangeAt bA oA (bvals flat)) := Lib.hid (by
    rcases ha.src.2.2 with h | ⟨b', o', e, hl, hr⟩
    · exact .inl (by omega)
    · rw [ea] at hr
      exact .inr ⟨b', o', e, by omega, hr⟩)
  have HB : Hid (n = 0 ∨ ∃ bB oB, b.A = some ⟨bB, oB, none⟩ ∧ bB < N ∧ w.rangeAt bB oB (bvals flat)) := Lib.hid (by
    rcases hb.src.2.2 with h | ⟨b', o', e, hl, hr⟩
    · exact .inl (by omega)
    · rw [eb] at hr
      exact .inr ⟨b', o', e, by omega, hr⟩)
  have HN : Hid (n ≤ 100) := Lib.hid (by have := ha.big; omega)
  have FL := Lib.hid hfl
  obtain ⟨A, hA⟩ : ∃ A, a.A = A := ⟨_, rfl⟩
  obtain ⟨B, hB⟩ : ∃ B, b.A = B := ⟨_, rfl⟩
  rw [hA] at HA ⊢
  rw [hB] at HB ⊢
  obtain ⟨ca, hca⟩ : ∃ c, a.c = c := ⟨_, rfl⟩
  obtain ⟨cb, hcb⟩ : ∃ c, b.c = c := ⟨_, rfl⟩
  rw [hca, hcb, hN]
  have B0 : Hid (Below N w w) := Lib.hid (Below.refl _ _)
  clear ha hb an bn ea eb hfl hA hB hca hcb hN
  go_enter Try.func55, Try.ntmps55
  go_wp2
  go_loopw [5] (fun iv wr => ∃ i : Nat, i ≤ n ∧ iv = .int .i64 i ∧ Below N w wr) (fun iv _ => n - (intOf iv).toNat)
  case atStart => exact ⟨0, Nat.zero_le _, rfl, B0.out⟩
  case round =>
    clear B0
    obtain ⟨i, hi, rfl, hbr⟩ := hrel
    have BR := Lib.hid hbr
    clear hbr
    by_cases hlt : i < n
    · obtain ⟨bA, oA, rfl, lba, ra⟩ : ∃ bA oA, A = some ⟨bA, oA, none⟩ ∧ bA < N ∧ w.rangeAt bA oA (bvals flat) := HA.out.resolve_left (by omega)
      obtain ⟨bB, oB, rfl, lbb, rb⟩ : ∃ bB oB, B = some ⟨bB, oB, none⟩ ∧ bB < N ∧ w.rangeAt bB oB (bvals flat) := HB.out.resolve_left (by omega)
      have i1 : (i : Int) < (n : Int) := by omega
      have i0 : (0 : Int) ≤ (i : Int) := by omega
      have KW : Hid (wrap64 ((i : Int) + 1) = ((i + 1 : Nat) : Int)) := Lib.hid (by have := HN.out; unfold wrap64; omega)
      have KW2 : Hid ((i : Int) + 1 = ((i + 1 : Nat) : Int)) := Lib.hid (by omega)
      have HLT := Lib.hid hlt
      obtain ⟨r, hr⟩ : ∃ r, at8 flat i = r := ⟨_, rfl⟩
      have lr : Hid (r.length = 8) := Lib.hid (by rw [← hr]; exact at8_len FL.out hlt)
      have CA : ∀ W, Below N w W → W.rangeAt bA (oA + i * 8) (bvals r) := fun W hb => by rw [← hr]; exact at8_range (range_keep1 ra (hb.block bA lba)) FL.out HLT.out
      have CB : ∀ W, Below N w W → W.rangeAt bB (oB + i * 8) (bvals r) := fun W hb => by rw [← hr]; exact at8_range (range_keep1 rb (hb.block bB lbb)) FL.out HLT.out
      clear hi hlt hr ra rb lba lbb
      go_upto_region 6 with (fail)
      refine wp_region_class (C := fun W => Below N w W) (by kernel_rfl) (by kernel_rfl) (BR.out.drew) ?_
      refine wpQuiet_step (fun K hK => ?_)
      refine quiet_val (by rfl) (v := ?_) ?_ (hK _ ?_)
      rotate_left
      · (intro w hSw; go_simp; try with_reducible rfl)
      clear hK K
      simp only [Act.put, List.setIfInBounds_toArray, List.set_cons_zero, List.set_cons_succ]
      refine wpQuiet_step (fun K hK => ?_)
      refine quiet_val (by rfl) (v := ?_) ?_ (hK _ ?_)
      rotate_left
      · (intro w hSw; go_simp; try with_reducible rfl)
      clear hK K
      simp only [Act.put, List.setIfInBounds_toArray, List.set_cons_zero, List.set_cons_succ]
      refine wpQuiet_step (fun K hK => ?_)
      refine quiet_val (by rfl) (v := ?_) ?_ (hK _ ?_)
      rotate_left
      · (intro w hSw; go_simp; try with_reducible rfl)
      clear hK K
      simp only [Act.put, List.setIfInBounds_toArray, List.set_cons_zero, List.set_cons_succ]
      refine wpQuiet_step (fun K hK => ?_)
      refine quiet_load (by rfl) 31 (.tmp 19) rfl bA (oA + i * 8) rfl (bvals r) _ (fun w h => CA w h) Try.underlying31 rfl (szL s27 (by rw [bvals_len]; exact lr.out)) (hK _ ?_)
      clear hK K
      simp only [Act.put, List.setIfInBounds_toArray, List.set_cons_zero, List.set_cons_succ]
      refine wpQuiet_step (fun K hK => ?_)
      refine quiet_val (by rfl) (v := ?_) ?_ (hK _ ?_)
      rotate_left
      · (intro w hSw; go_simp; try with_reducible rfl)
      clear hK K
      simp only [Act.put, List.setIfInBounds_toArray, List.set_cons_zero, List.set_cons_succ]
      refine wpQuiet_step (fun K hK => ?_)
      refine quiet_val (by rfl) (v := ?_) ?_ (hK _ ?_)
      rotate_left
      · (intro w hSw; go_simp; try with_reducible rfl)
      clear hK K
      simp only [Act.put, List.setIfInBounds_toArray, List.set_cons_zero, List.set_cons_succ]
      refine wpQuiet_step (fun K hK => ?_)
      refine quiet_val (by rfl) (v := ?_) ?_ (hK _ ?_)
      rotate_left
      · (intro w hSw; go_simp; try with_reducible rfl)
      clear hK K
      simp only [Act.put, List.setIfInBounds_toArray, List.set_cons_zero, List.set_cons_succ]
      refine wpQuiet_step (fun K hK => ?_)
      refine quiet_load (by rfl) 31 (.tmp 23) rfl bB (oB + i * 8) rfl (bvals r) _ (fun w h => CB w h) Try.underlying31 rfl (szL s27 (by rw [bvals_len]; exact lr.out)) (hK _ ?_)
      clear hK K
      simp only [Act.put, List.setIfInBounds_toArray, List.set_cons_zero, List.set_cons_succ]
      refine wpQuiet_step (fun K hK => ?_)
      refine quiet_val (by rfl) (v := .bool false) (fun w hSw => ?_) (hK _ ?_)
      · (have z := eqhL r r w lr.out lr.out; rw [decide_eq_true rfl] at z; unfold ba at z; go_simp; first | done | (simp; done))
      clear hK K
      simp only [Act.put, List.setIfInBounds_toArray, List.set_cons_zero, List.set_cons_succ]
      refine wpQuiet_nil ?_
      intro wq hq
      have BQ : Hid (Below N w wq) := Lib.hid hq
      clear hq
      go_wp2_with fail
      go_roundw
      case rel => exact ⟨i + 1, HLT.out, by first | exact congrArg _ KW.out | exact congrArg _ KW2.out, BQ.out⟩
      case measure => first | exact meas_up KW.out HLT.out | exact meas_up KW2.out HLT.out
    · have i1 : ¬ (i : Int) < (n : Int) := by omega
      go_wp2
      go_ret
      exact ⟨rfl, BR.out⟩
end Go.Proofs.Ytmcmdpbdipgahaa

/-
  Two certificates without rows are the same.
-/
namespace Go.Proofs.Ytmcmdpbdipgahaa
open Go.RowKit Go.Maps
set_option maxRecDepth 100000
def ctV (c1 c2 c3 : Int) (e r : List Int) (A B : Option Addr) (ka kb : Nat) : List Value := .int .i64 c1 :: .int .i64 c2 :: .int .i64 c3 :: (bvals e ++ (bvals r ++ [.slice A 0 ka, .slice B 0 kb]))
theorem ct_len {c1 c2 c3 : Int} {e r : List Int} {A B : Option Addr} {ka kb : Nat} (he : e.length = 8) (hr : r.length = 8) : (ctV c1 c2 c3 e r A B ka kb).length = 21 := by
  unfold ctV
  simp [bvals_len, he, hr]
theorem ct_one (c1 c2 c3 : Int) (e r : List Int) (A B : Option Addr) (ka kb : Nat) : ∀ v ∈ ctV c1 c2 c3 e r A B ka kb, v.oneCell' = true := by
  intro v hv
  unfold ctV at hv
  simp only [List.mem_cons, List.mem_append, List.not_mem_nil, or_false] at hv
  rcases hv with rfl | rfl | rfl | hv | hv | rfl | rfl
  · rfl
  · rfl
  · rfl
  · exact bvals_one _ v hv
  · exact bvals_one _ v hv
  · rfl
  · rfl
theorem ct_cells {w : World} {b : Nat} {c1 c2 c3 : Int} {e r : List Int} {A B : Option Addr} {ka kb : Nat} {T : TypeId} (h : BL w b (ctV c1 c2 c3 e r A B ka kb) T) (he : e.length = 8) (hr : r.length = 8) :
    w.cell? ⟨b, 0, none⟩ = some (.int .i64 c1) ∧ w.cell? ⟨b, 1, none⟩ = some (.int .i64 c2) ∧ w.cell? ⟨b, 2, none⟩ = some (.int .i64 c3) ∧ w.rangeAt b 3 (bvals e) ∧ w.rangeAt b 11 (bvals r) ∧ w.cell? ⟨b, 19, none⟩ = some (.slice A 0 ka) ∧ w.cell? ⟨b, 20, none⟩ = some (.slice B 0 kb) := by
  have hg := range_of h
  have h1 : w.rangeAt b 3 (bvals e ++ (bvals r ++ [.slice A 0 ka, .slice B 0 kb])) := by
    have := rng_drop (k := 3) hg (by rw [ct_len he hr]; decide)
    rwa [Nat.zero_add] at this
  have h2 := range_app h1
  rw [bvals_len, he] at h2
  have h3 := range_app h2.2
  rw [bvals_len, hr] at h3
  have cc : ∀ (o : Nat) (v : Value) (cs : List Value), w.rangeAt b o (v :: cs) → w.cell? ⟨b, o, none⟩ = some v := fun o v cs hc => by
    have := hc 0 v rfl
    rwa [Nat.add_zero] at this
  have c0 := cc 0 _ _ hg
  have c1' := hg 1 _ rfl
  have c2' := hg 2 _ rfl
  rw [Nat.zero_add] at c1' c2'
  have g0 := cc _ _ _ h3.2
  have g1 := h3.2 1 _ rfl
  exact ⟨c0, c1', c2', h2.1, h3.1, g0, g1⟩
theorem szC50' : (Try.prog.info? 50).map (·.size) = some 21 := by kernel_rfl
attribute [local irreducible] ctV
set_option maxHeartbeats 4000000 in
theorem lCert (c1 c2 c3 : Int) (e r : List Int) (A B A2 B2 : Option Addr) (ka kb ka2 kb2 : Nat) (w : World) (he : e.length = 8) (hr : r.length = 8) :
    Calls Try.prog 56 #[.agg (ctV c1 c2 c3 e r A B ka kb).toArray, .agg (ctV c1 c2 c3 e r A2 B2 ka2 kb2).toArray] w fun e w' => e = .returned (.bool true) ∧ Below w.heap.size w w' := by
  obtain ⟨N, hN⟩ : ∃ N, w.heap.size = N := ⟨_, rfl⟩
  obtain ⟨v, hv⟩ : ∃ v, (w.alloc (Obj.cells (ctV c1 c2 c3 e r A B ka kb).toArray 50)).alloc (Obj.cells (ctV c1 c2 c3 e r A2 B2 ka2 kb2).toArray 50) = v := ⟨_, rfl⟩
  have R1 : Hid (BL v N (ctV c1 c2 c3 e r A B ka kb) 50) := Lib.hid (by subst hv hN; exact bl_keep (heap_alloc_last w _) (Below.heap_alloc _ _ _ (by rw [World.size_alloc]; omega)))
  have R2 : Hid (BL v (N + 1) (ctV c1 c2 c3 e r A2 B2 ka2 kb2) 50) := Lib.hid (by
    subst hv hN
    have := heap_alloc_last (w.alloc (Obj.cells (ctV c1 c2 c3 e r A B ka kb).toArray 50)) (Obj.cells (ctV c1 c2 c3 e r A2 B2 ka2 kb2).toArray 50)
    rwa [World.size_alloc] at this)
  have BV : Hid (Below N w v) := Lib.hid (by subst hv hN; exact ((Below.refl _ w).alloc (Nat.le_refl _) _).alloc (by rw [World.size_alloc]; omega) _)
  obtain ⟨a0, a1, a2, a3, a4, a5, a6⟩ := ct_cells R1.out he hr
  obtain ⟨b0, b1, b2, b3, b4, b5, b6⟩ := ct_cells R2.out he hr
  have HE := Lib.hid he
  have HR := Lib.hid hr
  have A3 := Lib.hid a3
  have A4 := Lib.hid a4
  have B3 := Lib.hid b3
  have B4 := Lib.hid b4
  have zE := fun w => eqhL e e w he he
  have zR := fun w => eqhL r r w hr hr
  simp only [decide_true] at zE zR
  unfold ba at zE zR
  rw [hN]
  clear he hr a3 a4 b3 b4
  go_enter Try.func56, Try.ntmps56
  go_upto_region 1 with (fail)
  (try rw [hN]); (try rw [hv])
  clear hv
  go_wp2_with (first
    | (refine wpList_load_midG (by rfl) 31 (.tmp 27) rfl N 3 rfl (bvals e) _ A3.out Try.underlying31 rfl (szL s27 (by rw [bvals_len]; exact HE.out)) ?_)
    | (refine wpList_load_midG (by rfl) 31 (.tmp 29) rfl (N + 1) 3 rfl (bvals e) _ B3.out Try.underlying31 rfl (szL s27 (by rw [bvals_len]; exact HE.out)) ?_)
    | (refine wpList_load_midG (by rfl) 31 (.tmp 34) rfl N 11 rfl (bvals r) _ A4.out Try.underlying31 rfl (szL s27 (by rw [bvals_len]; exact HR.out)) ?_)
    | (refine wpList_load_midG (by rfl) 31 (.tmp 36) rfl (N + 1) 11 rfl (bvals r) _ B4.out Try.underlying31 rfl (szL s27 (by rw [bvals_len]; exact HR.out)) ?_)
    | fail)
  clear A3 A4 B3 B4 zE zR
  go_loopw [5] (fun iv wr => iv = .int .i64 0 ∧ wr = v) (fun _ _ => 0)
  case atStart => exact ⟨rfl, rfl⟩
  case round =>
    obtain ⟨rfl, hw⟩ := hrel
    rw [hw]
    clear hw
    go_wp2
    go_loopw [6] (fun iv wr => iv = .int .i64 0 ∧ wr = v) (fun _ _ => 0)
    case atStart => exact ⟨rfl, rfl⟩
    case round =>
      obtain ⟨rfl, hw⟩ := hrel
      rw [hw]
      go_wp2
      go_ret
      exact ⟨rfl, BV.out⟩
end Go.Proofs.Ytmcmdpbdipgahaa

/-
  Two records that hold the same, without certificates' rows, are told to be the same.
-/
namespace Go.Proofs.Ytmcmdpbdipgahaa
open Go.RowKit Go.Maps
set_option maxRecDepth 100000
theorem sd_ct {w : World} {b : Nat} {x : Sm} {T : TypeId} (h : BL w b (sdV x) T) (hO : x.O.n = 0) (hG : x.G.n = 0) : w.rangeAt b 20 (ctV x.s.c1 x.s.c2 x.s.c3 (nm x.s.ce1) (nm x.s.ce2) x.O.A x.G.A x.O.c x.G.c) := by
  obtain ⟨s, K, ⟨OA, On, Oc, Oy⟩, ⟨GA, Gn, Gc, Gy⟩, U⟩ := x
  have hO : On = 0 := hO
  have hG : Gn = 0 := hG
  subst hO hG
  exact sd_sub h 20 21 _ rfl
theorem sd_rt {w : World} {b : Nat} {x : Sm} {T : TypeId} (h : BL w b (sdV x) T) : w.rangeAt b 11 (bvals (nm x.s.rt)) := sd_sub h 11 8 _ rfl
theorem sd_all {w : World} {b : Nat} {x : Sm} {T : TypeId} (h : BL w b (sdV x) T) :
    w.cell? ⟨b, 0, none⟩ = some (.int .i64 x.s.a) ∧ w.cell? ⟨b, 1, none⟩ = some (.int .i64 x.s.b) ∧ w.cell? ⟨b, 2, none⟩ = some (.int .i64 x.s.c) ∧ w.cell? ⟨b, 4, none⟩ = some (.int .i64 x.s.made) ∧ w.cell? ⟨b, 5, none⟩ = some (.int .i64 x.s.bal) ∧ w.cell? ⟨b, 6, none⟩ = some (.int .i64 x.s.fwd) ∧ w.cell? ⟨b, 7, none⟩ = some (.int .i64 x.s.mat) ∧ w.cell? ⟨b, 8, none⟩ = some (.int .i64 x.s.cla) ∧ w.cell? ⟨b, 9, none⟩ = some (.bool x.s.ce) ∧ w.cell? ⟨b, 10, none⟩ = some (.int .i64 x.s.at') ∧ w.cell? ⟨b, 19, none⟩ = some (.bool x.s.pe) :=
  ⟨sd_at h (i := 0) rfl, sd_at h (i := 1) rfl, sd_at h (i := 2) rfl, sd_at h (i := 4) rfl, sd_at h (i := 5) rfl, sd_at h (i := 6) rfl, sd_at h (i := 7) rfl, sd_at h (i := 8) rfl, sd_at h (i := 9) rfl, sd_at h (i := 10) rfl, sd_at h (i := 19) rfl⟩
theorem sd_k {w : World} {b : Nat} {x : Sm} {T : TypeId} (h : BL w b (sdV x) T) : w.cell? ⟨b, 3, none⟩ = some (.slice x.K.A x.K.n x.K.c) ∧ w.cell? ⟨b, 41, none⟩ = some (.slice x.U.A x.U.n x.U.c) := ⟨sd_at h (i := 3) rfl, sd_at h (i := 41) rfl⟩
theorem row_i {w : World} {b o i : Nat} {us : List Int} (h : w.rangeAt b o (us.map (.int .i64))) (hi : i < us.length) : w.cell? ⟨b, o + i, none⟩ = some (.int .i64 (us.getD i 0)) := h i _ (by rw [List.getElem?_map, List.getD_eq_getElem?_getD, List.getElem?_eq_getElem hi]; rfl)
attribute [local irreducible] ctV sdV wpQuiet
set_option maxHeartbeats 8000000 in
theorem lSame {Q Q' : Nat → Prop} (x y : Sm) (flat us : List Int) (w : World) (hx : SdAt w Q x) (hy : SdAt w Q' y) (hc : x.con = y.con) (hO : x.O.n = 0) (hG : x.G.n = 0) (hK : x.K.ys = bvals flat) (hU : x.U.ys = us.map (.int .i64)) :
    Calls Try.prog 42 #[.agg (sdV x).toArray, .agg (sdV y).toArray] w fun e w' => e = .returned (.bool true) ∧ Below w.heap.size w w' := by
  obtain ⟨N, hN⟩ : ∃ N, w.heap.size = N := ⟨_, rfl⟩
  have es : y.s = x.s := (congrArg (fun c : Con => c.1) hc).symm
  have ekn : y.K.n = x.K.n := (congrArg (fun c : Con => c.2.1.1) hc).symm
  have eky : y.K.ys = bvals flat := (congrArg (fun c : Con => c.2.1.2) hc).symm.trans hK
  have eon : y.O.n = 0 := (congrArg (fun c : Con => c.2.2.1.1) hc).symm.trans hO
  have egn : y.G.n = 0 := (congrArg (fun c : Con => c.2.2.2.1.1) hc).symm.trans hG
  have eun : y.U.n = x.U.n := (congrArg (fun c : Con => c.2.2.2.2.1) hc).symm
  have euy : y.U.ys = us.map (.int .i64) := (congrArg (fun c : Con => c.2.2.2.2.2) hc).symm.trans hU
  obtain ⟨v, hv⟩ : ∃ v, (w.alloc (Obj.cells (sdV x).toArray 53)).alloc (Obj.cells (sdV y).toArray 57) = v := ⟨_, rfl⟩
  have RX : Hid (BL v N (sdV x) 53) := Lib.hid (by subst hv hN; exact bl_keep (heap_alloc_last w _) (Below.heap_alloc _ _ _ (by rw [World.size_alloc]; omega)))
  have RY : Hid (BL v (N + 1) (sdV y) 57) := Lib.hid (by
    subst hv hN
    have := heap_alloc_last (w.alloc (Obj.cells (sdV x).toArray 53)) (Obj.cells (sdV y).toArray 57)
    rwa [World.size_alloc] at this)
  have BV : Hid (Below N w v) := Lib.hid (by subst hv hN; exact ((Below.refl _ w).alloc (Nat.le_refl _) _).alloc (by rw [World.size_alloc]; omega) _)
  have XV : Hid (SdAt v Q x) := Lib.hid (hx.grow (by rw [hN]; exact BV.out))
  have YV : Hid (SdAt v Q' y) := Lib.hid (hy.grow (by rw [hN]; exact BV.out))
  obtain ⟨Z, hZ⟩ : ∃ Z, v.heap.size = Z := ⟨_, rfl⟩
  have NZ : Hid (N + 1 < Z) := Lib.hid (by rw [← hZ]; exact bl_lt RY.out)
  have HZ := Lib.hid hZ
  obtain ⟨n, hn⟩ : ∃ n, x.K.n = n := ⟨_, rfl⟩
  obtain ⟨m, hm⟩ : ∃ m, x.U.n = m := ⟨_, rfl⟩
  have ml : us.length = m := by have := hx.U.src.1; rw [hU, List.length_map, hm] at this; omega
  have m100 : m ≤ 100 := by rw [← hm]; exact hx.U.big
  have HM := Lib.hid (And.intro ml m100)
  have HA : Hid (m = 0 ∨ ∃ bA oA, x.U.A = some ⟨bA, oA, none⟩ ∧ ∀ W, Below Z v W → W.rangeAt bA oA (us.map (.int .i64))) := Lib.hid (by
    rcases XV.out.U.src.2.2 with h | ⟨b', o', e, hl, hr⟩
    · exact .inl (by omega)
    · rw [hU] at hr
      exact .inr ⟨b', o', e, fun W hb => range_keep1 hr (hb.block b' (by omega))⟩)
  have HB : Hid (m = 0 ∨ ∃ bB oB, y.U.A = some ⟨bB, oB, none⟩ ∧ ∀ W, Below Z v W → W.rangeAt bB oB (us.map (.int .i64))) := Lib.hid (by
    rcases YV.out.U.src.2.2 with h | ⟨b', o', e, hl, hr⟩
    · exact .inl (by omega)
    · rw [euy] at hr
      exact .inr ⟨b', o', e, fun W hb => range_keep1 hr (hb.block b' (by omega))⟩)
  have kx : Hid (∀ W, Below Z v W → BL W N (sdV x) 53) := Lib.hid fun W hb => bl_keep RX.out (hb.block N (by have := NZ.out; omega))
  have ky : Hid (∀ W, Below Z v W → BL W (N + 1) (sdV y) 57) := Lib.hid fun W hb => bl_keep RY.out (hb.block (N + 1) NZ.out)
  have LH : Hid (Calls Try.prog 55 #[.slice x.K.A n x.K.c, .slice y.K.A n y.K.c] v fun e w' => e = .returned (.bool true) ∧ Below Z v w') := Lib.hid (by
    have := lHash x.K y.K n flat v XV.out.K YV.out.K hn (ekn.trans hn) hK eky
    rwa [hZ] at this)
  have LC : Hid (∀ W, Calls Try.prog 56 #[.agg (ctV x.s.c1 x.s.c2 x.s.c3 (nm x.s.ce1) (nm x.s.ce2) x.O.A x.G.A x.O.c x.G.c).toArray, .agg (ctV x.s.c1 x.s.c2 x.s.c3 (nm x.s.ce1) (nm x.s.ce2) y.O.A y.G.A y.O.c y.G.c).toArray] W fun e w' => e = .returned (.bool true) ∧ Below W.heap.size W w') := Lib.hid fun W => lCert _ _ _ _ _ _ _ _ _ _ _ _ _ W (nm_len _) (nm_len _)
  have CX : Hid (∀ W, Below Z v W → W.rangeAt N 20 (ctV x.s.c1 x.s.c2 x.s.c3 (nm x.s.ce1) (nm x.s.ce2) x.O.A x.G.A x.O.c x.G.c) ∧ W.rangeAt N 11 (bvals (nm x.s.rt))) := Lib.hid fun W hb => ⟨sd_ct (kx.out W hb) hO hG, sd_rt (kx.out W hb)⟩
  have CY : Hid (∀ W, Below Z v W → W.rangeAt (N + 1) 20 (ctV x.s.c1 x.s.c2 x.s.c3 (nm x.s.ce1) (nm x.s.ce2) y.O.A y.G.A y.O.c y.G.c) ∧ W.rangeAt (N + 1) 11 (bvals (nm x.s.rt))) := Lib.hid fun W hb => by
    have h1 := sd_ct (ky.out W hb) eon egn
    have h2 := sd_rt (ky.out W hb)
    rw [es] at h1 h2
    exact ⟨h1, h2⟩
  have SX : Hid (∀ W, Below Z v W → _) := Lib.hid fun W hb => sd_all (kx.out W hb)
  have SY : Hid (∀ W, Below Z v W → _) := Lib.hid fun W hb => sd_all (ky.out W hb)
  rw [es] at SY
  have KX : Hid (∀ W, Below Z v W → W.cell? ⟨N, 3, none⟩ = some (.slice x.K.A n x.K.c) ∧ W.cell? ⟨N, 41, none⟩ = some (.slice x.U.A m x.U.c)) := Lib.hid fun W hb => by
    have := sd_k (kx.out W hb)
    rwa [hn, hm] at this
  have KY : Hid (∀ W, Below Z v W → W.cell? ⟨N + 1, 3, none⟩ = some (.slice y.K.A n y.K.c) ∧ W.cell? ⟨N + 1, 41, none⟩ = some (.slice y.U.A m y.U.c)) := Lib.hid fun W hb => by
    have := sd_k (ky.out W hb)
    rwa [ekn, eun, hn, hm] at this
  have lct1 : Hid ((ctV x.s.c1 x.s.c2 x.s.c3 (nm x.s.ce1) (nm x.s.ce2) x.O.A x.G.A x.O.c x.G.c).length = 21) := Lib.hid (ct_len (nm_len _) (nm_len _))
  have lct2 : Hid ((ctV x.s.c1 x.s.c2 x.s.c3 (nm x.s.ce1) (nm x.s.ce2) y.O.A y.G.A y.O.c y.G.c).length = 21) := Lib.hid (ct_len (nm_len _) (nm_len _))
  have lnr : Hid ((bvals (nm x.s.rt)).length = 8) := Lib.hid (by rw [bvals_len]; exact nm_len _)
  have zR := fun w => eqhL (nm x.s.rt) (nm x.s.rt) w (nm_len _) (nm_len _)
  simp only [decide_true] at zR
  unfold ba at zR
  have BVV : Hid (Below Z v v) := Lib.hid (Below.refl _ _)
  generalize x.s = s at *
  generalize nm s.rt = rr at *
  obtain ⟨sx1, sx2, sx3, sx4, sx5, sx6, sx7, sx8, sx9, sx10, sx11⟩ := SX.out v BVV.out
  obtain ⟨sy1, sy2, sy3, sy4, sy5, sy6, sy7, sy8, sy9, sy10, sy11⟩ := SY.out v BVV.out
  obtain ⟨x3, x41⟩ := KX.out v BVV.out
  obtain ⟨y3, y41⟩ := KY.out v BVV.out
  generalize ctV s.c1 s.c2 s.c3 (nm s.ce1) (nm s.ce2) x.O.A x.G.A x.O.c x.G.c = ctx at *
  generalize ctV s.c1 s.c2 s.c3 (nm s.ce1) (nm s.ce2) y.O.A y.G.A y.O.c y.G.c = cty at *
  rw [hN]
  clear hx hy hc hO hG hK hU es ekn eky eon egn eun euy RX RY XV YV hn hm ml m100 kx ky hZ
  go_enter Try.func42, Try.ntmps42
  go_upto_region 1 with (fail)
  (try rw [hN]); (try rw [hv])
  clear hv
  go_wp2_with (first
    | (go_at_call 55; refine LH.out.mono ?_; clear LH; rintro e w1 ⟨rfl, hb⟩; have B1 := Lib.hid hb; clear hb; have z1 := (KX.out _ B1.out).2; have z2 := (KY.out _ B1.out).2)
    | fail)
  clear z1 z2 sx1 sx2 sx3 sx4 sx5 sx6 sx7 sx8 sx9 sx10 sx11 sy1 sy2 sy3 sy4 sy5 sy6 sy7 sy8 sy9 sy10 sy11 x3 x41 y3 y41
  go_loopw [5] (fun iv wr => ∃ i : Nat, i ≤ m ∧ iv = .int .i64 i ∧ Below Z v wr) (fun iv _ => m - (intOf iv).toNat)
  case atStart => exact ⟨0, Nat.zero_le _, rfl, B1.out⟩
  case round =>
    clear B1
    obtain ⟨i, hi, rfl, hbr⟩ := hrel
    have BR := Lib.hid hbr
    clear hbr
    obtain ⟨_, x41⟩ := KX.out _ BR.out
    by_cases hlt : i < m
    · have HU1 := HA.out.resolve_left (by omega)
      have HU2 := HB.out.resolve_left (by omega)
      have EX : Hid (∀ W, Below Z v W → W.cell? ⟨N, 41, none⟩ = some (.slice x.U.A m x.U.c)) := Lib.hid fun W hb => (KX.out W hb).2
      have EY : Hid (∀ W, Below Z v W → W.cell? ⟨N + 1, 41, none⟩ = some (.slice y.U.A m y.U.c)) := Lib.hid fun W hb => (KY.out W hb).2
      obtain ⟨bA, oA, eA, rA⟩ := HU1
      obtain ⟨bB, oB, eB, rB⟩ := HU2
      rw [eA] at EX x41
      rw [eB] at EY
      obtain ⟨u, hu⟩ : ∃ u, us.getD i 0 = u := ⟨_, rfl⟩
      have X41 := EX.out
      have Y41 := EY.out
      have CA : ∀ W, Below Z v W → W.cell? ⟨bA, oA + i, none⟩ = some (.int .i64 u) := fun W hb => by
        have := row_i (rA W hb) (i := i) (by rw [HM.out.1]; exact hlt)
        rwa [hu] at this
      have CB : ∀ W, Below Z v W → W.cell? ⟨bB, oB + i, none⟩ = some (.int .i64 u) := fun W hb => by
        have := row_i (rB W hb) (i := i) (by rw [HM.out.1]; exact hlt)
        rwa [hu] at this
      have i1 : (i : Int) < (m : Int) := by omega
      have i0 : (0 : Int) ≤ (i : Int) := by omega
      have KW : Hid (wrap64 ((i : Int) + 1) = ((i + 1 : Nat) : Int)) := Lib.hid (by have := HM.out; unfold wrap64; omega)
      have KW2 : Hid ((i : Int) + 1 = ((i + 1 : Nat) : Int)) := Lib.hid (by omega)
      have HLT := Lib.hid hlt
      clear hi hlt hu rA rB EX EY eA eB
      go_upto_region 6 with (fail)
      clear x41
      refine wp_region_class (C := fun W => Below Z v W) (by kernel_rfl) (by kernel_rfl) (BR.out.drew) ?_
      refine wpQuiet_step (fun K hK => ?_)
      refine quiet_val (by rfl) (v := ?_) ?_ (hK _ ?_)
      rotate_left
      · (intro w hSw; go_simp; try with_reducible rfl)
      clear hK K
      simp only [Act.put, List.setIfInBounds_toArray, List.set_cons_zero, List.set_cons_succ]
      refine wpQuiet_step (fun K hK => ?_)
      refine quiet_val (by rfl) (v := ?_) ?_ (hK _ ?_)
      rotate_left
      · (intro w hSw; have z := X41 w hSw; go_simp; try with_reducible rfl)
      clear hK K
      simp only [Act.put, List.setIfInBounds_toArray, List.set_cons_zero, List.set_cons_succ]
      refine wpQuiet_step (fun K hK => ?_)
      refine quiet_val (by rfl) (v := ?_) ?_ (hK _ ?_)
      rotate_left
      · (intro w hSw; go_simp; try with_reducible rfl)
      clear hK K
      simp only [Act.put, List.setIfInBounds_toArray, List.set_cons_zero, List.set_cons_succ]
      refine wpQuiet_step (fun K hK => ?_)
      refine quiet_val (by rfl) (v := ?_) ?_ (hK _ ?_)
      rotate_left
      · (intro w hSw; go_simp; try with_reducible rfl)
      clear hK K
      simp only [Act.put, List.setIfInBounds_toArray, List.set_cons_zero, List.set_cons_succ]
      refine wpQuiet_step (fun K hK => ?_)
      refine quiet_val (by rfl) (v := ?_) ?_ (hK _ ?_)
      rotate_left
      · (intro w hSw; have z := CA w hSw; go_simp; try with_reducible rfl)
      clear hK K
      simp only [Act.put, List.setIfInBounds_toArray, List.set_cons_zero, List.set_cons_succ]
      refine wpQuiet_step (fun K hK => ?_)
      refine quiet_val (by rfl) (v := ?_) ?_ (hK _ ?_)
      rotate_left
      · (intro w hSw; go_simp; try with_reducible rfl)
      clear hK K
      simp only [Act.put, List.setIfInBounds_toArray, List.set_cons_zero, List.set_cons_succ]
      refine wpQuiet_step (fun K hK => ?_)
      refine quiet_val (by rfl) (v := ?_) ?_ (hK _ ?_)
      rotate_left
      · (intro w hSw; have z := Y41 w hSw; go_simp; try with_reducible rfl)
      clear hK K
      simp only [Act.put, List.setIfInBounds_toArray, List.set_cons_zero, List.set_cons_succ]
      refine wpQuiet_step (fun K hK => ?_)
      refine quiet_val (by rfl) (v := ?_) ?_ (hK _ ?_)
      rotate_left
      · (intro w hSw; go_simp; try with_reducible rfl)
      clear hK K
      simp only [Act.put, List.setIfInBounds_toArray, List.set_cons_zero, List.set_cons_succ]
      refine wpQuiet_step (fun K hK => ?_)
      refine quiet_val (by rfl) (v := ?_) ?_ (hK _ ?_)
      rotate_left
      · (intro w hSw; go_simp; try with_reducible rfl)
      clear hK K
      simp only [Act.put, List.setIfInBounds_toArray, List.set_cons_zero, List.set_cons_succ]
      refine wpQuiet_step (fun K hK => ?_)
      refine quiet_val (by rfl) (v := ?_) ?_ (hK _ ?_)
      rotate_left
      · (intro w hSw; have z := CB w hSw; go_simp; try with_reducible rfl)
      clear hK K
      simp only [Act.put, List.setIfInBounds_toArray, List.set_cons_zero, List.set_cons_succ]
      refine wpQuiet_step (fun K hK => ?_)
      refine quiet_val (by rfl) (v := .bool false) (fun w hSw => ?_) (hK _ ?_)
      · (go_simp; first | done | (simp; done))
      clear hK K
      simp only [Act.put, List.setIfInBounds_toArray, List.set_cons_zero, List.set_cons_succ]
      refine wpQuiet_nil ?_
      intro wq hq
      have BQ : Hid (Below Z v wq) := Lib.hid hq
      clear hq
      clear X41 Y41 CA CB
      go_wp2_with fail
      go_roundw
      case rel => exact ⟨i + 1, HLT.out, by first | exact congrArg _ KW.out | exact congrArg _ KW2.out, BQ.out⟩
      case measure => first | exact meas_up KW.out HLT.out | exact meas_up KW2.out HLT.out
    · have i1 : ¬ (i : Int) < (m : Int) := by omega
      go_upto_region 8 with (fail)
      clear x41
      rename World => wr
      obtain ⟨sx1, sx2, sx3, sx4, sx5, sx6, sx7, sx8, sx9, sx10, sx11⟩ := SX.out _ BR.out
      obtain ⟨sy1, sy2, sy3, sy4, sy5, sy6, sy7, sy8, sy9, sy10, sy11⟩ := SY.out _ BR.out
      have CX1 := Lib.hid (CX.out _ BR.out)
      have CY1 := Lib.hid (CY.out _ BR.out)
      go_wp2_with (first
        | (refine wpList_load_midG (by rfl) 31 (.tmp 116) rfl N 11 rfl (bvals rr) _ CX1.out.2 Try.underlying31 rfl (szL s27 lnr.out) ?_)
        | (refine wpList_load_midG (by rfl) 31 (.tmp 118) rfl (N + 1) 11 rfl (bvals rr) _ CY1.out.2 Try.underlying31 rfl (szL s27 lnr.out) ?_)
        | (refine wpList_load_midG (by rfl) 50 (.tmp 130) rfl N 20 rfl ctx _ CX1.out.1 Try.underlying50 rfl (szL szC50' lct1.out) ?_)
        | (refine wpList_load_midG (by rfl) 50 (.tmp 132) rfl (N + 1) 20 rfl cty _ CY1.out.1 Try.underlying50 rfl (szL szC50' lct2.out) ?_)
        | (go_at_call 56; refine (LC.out _).mono ?_; clear LC; rintro e w5 ⟨rfl, hb⟩; have B5 := Lib.hid hb; clear hb)
        | fail)
      go_ret
      exact ⟨rfl, BV.out.trans ((BR.out.trans (B5.out.mono (by have := BR.out.size; rw [HZ.out] at this; exact this))).mono (by have := NZ.out; omega))⟩
end Go.Proofs.Ytmcmdpbdipgahaa
