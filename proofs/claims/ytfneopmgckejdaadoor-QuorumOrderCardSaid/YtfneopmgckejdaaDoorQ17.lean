/-
  The walk of QuorumOrder.
-/
import Derived.Test.YtfneopmgckejdaaDoorQ16
namespace Go.Proofs.YtfneopmgckejdaaDoor
open Go.RowKit
theorem nums6 (x y z : Nat) (hx : x < 256) (hy : y < 256) (hz : z < 256) : ∃ k0 k a b : Nat, (2 ≤ k ∧ k ≤ 5) ∧ a < k ∧ b < k ∧ IntKind.i64.wrap (x : Int) = (x : Int) ∧ IntKind.i64.wrap (y : Int) = (y : Int) ∧ IntKind.i64.wrap (z : Int) = (z : Int) ∧ (x : Int).tmod 4 = (k0 : Int) ∧ IntKind.i64.wrap (k0 : Int) = (k0 : Int) ∧ wrap64 (2 + (k0 : Int)) = (k : Int) ∧ IntKind.i64.wrap (2 + (k0 : Int)) = (k : Int) ∧ ((k : Int) == 0) = false ∧ (y : Int).tmod (k : Int) = (a : Int) ∧ IntKind.i64.wrap (a : Int) = (a : Int) ∧ (z : Int).tmod (k : Int) = (b : Int) ∧ IntKind.i64.wrap (b : Int) = (b : Int) ∧ ¬ (k : Int) = 0 ∧ ¬ k = 0 ∧ k ≤ 8 := by
  have h4 : x % 4 < 4 := Nat.mod_lt _ (by decide)
  have m4' : (x : Int).tmod 4 = ((x % 4 : Nat) : Int) := rfl
  generalize x % 4 = k0 at h4 m4'
  have ha : y % (k0 + 2) < k0 + 2 := Nat.mod_lt _ (Nat.succ_pos _)
  have ma : (y : Int).tmod ((k0 + 2 : Nat) : Int) = ((y % (k0 + 2) : Nat) : Int) := rfl
  generalize y % (k0 + 2) = a at ha ma
  have hb : z % (k0 + 2) < k0 + 2 := Nat.mod_lt _ (Nat.succ_pos _)
  have mb : (z : Int).tmod ((k0 + 2 : Nat) : Int) = ((z % (k0 + 2) : Nat) : Int) := rfl
  generalize z % (k0 + 2) = b at hb mb
  have e1 : (2 : Int) + (k0 : Int) = ((k0 + 2 : Nat) : Int) := by omega
  refine ⟨k0, k0 + 2, a, b, ⟨by omega, by omega⟩, ha, hb, wrapS x (by omega), wrapS y (by omega), wrapS z (by omega), m4', wrapS k0 (by omega), ?_, ?_, beq_false_of_ne (by omega), ma, wrapS a (by omega), mb, wrapS b (by omega), by omega, by omega, by omega⟩
  · rw [e1]; exact wrapT _ (by omega)
  · rw [e1]; exact wrapS _ (by omega)
theorem run_bs0 (w : World) : (Instr.buildSlice 33 0 #[]).run Tryd.prog w = .ok (.slice (some ⟨w.heap.size, 0, none⟩) 0 0) (w.alloc (.cells #[] 45)) := by kernel_rfl
theorem step_bs0 {w : World} {ops : Array Oper} {o : Oper} {a : Act} {K : Act → World → Prop} {Q : Exit → Act → World → Prop} {E : Prop} (hw : Region.wanted o (yielded ops a.tmps) = true) (ho : o.op = .buildSlice 33 0 #[])
    (hK : K (a.put o.dst (.slice (some ⟨w.heap.size, 0, none⟩) 0 0)) (w.alloc (.cells #[] 45))) : if Region.wanted o (yielded ops a.tmps) = true then Oper.wp Tryd.prog o a w K Q else E := by
  rw [if_pos hw]
  have hp : (#[] : Array (Nat × Operand)).map (fun (i, x) => (i, a.eval x)) = #[] := by simp
  unfold Oper.wp execOp
  simp only [ho, hp, Sem.run_bind, run_bs0 w, Result.andThen_ok]
  exact hK
theorem step_appS' {w : World} {ops : Array Oper} {o : Oper} {a : Act} {K : Act → World → Prop} {Q : Exit → Act → World → Prop} {E : Prop} (hw : Region.wanted o (yielded ops a.tmps) = true) (s x : Operand)
    (ho : o.op = .call { callee := .builtin .append, args := #[s, x], argTypes := #[33, 33] })
    (base n m : Nat) (v : Value) (l : List Value) (hv : a.eval s = v) (hown : w.ownsRow base 45 282 v n l) (g p c : Nat) (h : List Value) (hx : a.eval x = .slice (some ⟨g, p, none⟩) m c) (hr : w.rangeAt g p h) (hl : h.length = m * 282) (h1 : ∀ u ∈ h, u.oneCell' = true)
    (hn : n + m ≤ 65536) (hbase : base ≤ w.heap.size)
    (hK : ∀ A' c' w', w'.ownsRow base 45 282 (.slice A' (n + m) c') (n + m) (l ++ h) → w.grownBy w' v.ownBlock → K (a.put o.dst (.slice A' (n + m) c')) w') : if Region.wanted o (yielded ops a.tmps) = true then Oper.wp Tryd.prog o a w K Q else E := by
  rw [if_pos hw]
  obtain ⟨A', c', w', hr2, hown', hg⟩ := run_appS o.type base n m v l hown g p c h hr hl h1 hn hbase
  unfold Oper.wp execOp
  simp only [ho, resolve, invoke, builtin, Sem.run_bind, Sem.run_pure, Result.andThen_ok, List.map_toArray, List.map_cons, List.map_nil, hv, hx, hr2]
  exact hK A' c' w' hown' hg
theorem own_empty {w : World} {H base : Nat} (h : w.heap[H]? = some (.cells #[] 45 (0, 0))) (hb : base ≤ H) : w.ownsRow base 45 282 (.slice (some ⟨H, 0, none⟩) 0 0) 0 [] := ⟨rfl, .inr ⟨H, 0, #[], rfl, hb, h, Nat.le_refl _, by unfold maxLen; omega, rfl, rfl⟩⟩
theorem own_range {w : World} {base n c g : Nat} {l : List Value} (h : w.ownsRow base 45 282 (.slice (some ⟨g, 0, none⟩) n c) n l) : w.rangeAt g 0 l := fun j v hj => by
  have hlt := (List.getElem?_eq_some_iff.1 hj).1
  have hl := h.1
  rw [Nat.zero_add, h.cellAt j (by omega)]
  exact hj
theorem own_some {w : World} {base n c : Nat} {B : Option Addr} {l : List Value} (h : w.ownsRow base 45 282 (.slice B n c) n l) (hn : 1 ≤ n) : ∃ g, B = some ⟨g, 0, none⟩ := by
  rcases h.2 with ⟨_, h0⟩ | ⟨g, cap, cur, e, _⟩
  · omega
  · injection e with e1 _ _
    exact ⟨g, e1⟩
theorem flat_one (xs : List Sgd) : ∀ u ∈ xs.flatMap eS, u.oneCell' = true := fun u hu => by
  obtain ⟨x, _, hx⟩ := List.mem_flatMap.1 hu
  exact eS_one x u hx
theorem irow_one {w : World} {G : Nat} {x : Int} (h : w.heap[G]? = some (.cells #[.int .i64 x] 3 (0, 0))) : IRow w (some ⟨G, 0, none⟩) [x] := by
  refine .inr ⟨G, 0, rfl, fun j hj => ?_⟩
  rw [Nat.zero_add, cell_of_row w G j _ 3 (0, 0) h]
  rcases (by simpa using hj : j < 1) with hj2
  obtain rfl : j = 0 := by omega
  rfl
/-- the ways in which they are not enough -/
theorem no_nil (F : Nat → List Int) (n : Nat) (m : List Int) : enough F n 4 2 1 m [] = false := by
  unfold enough
  rw [decide_eq_false (by decide : ¬ (1 : Int) ≤ (([] : List Sgd).length : Int))]
  simp
theorem no_strange (n : Nat) (m : List Int) (xs : List Sgd) (i : Int) (L : List Int) : enough (FK n) n 4 2 1 m (xs ++ [⟨(n : Int), i, L⟩]) = false := by
  unfold enough
  have : ¬ allP (FK n) n m (xs ++ [⟨(n : Int), i, L⟩]) := fun h => by
    have h1 := okS_key (h xs.length (by simp))
    rw [show (xs ++ [(⟨(n : Int), i, L⟩ : Sgd)]).getD xs.length sgd0 = ⟨(n : Int), i, L⟩ by simp [List.getD_eq_getElem?_getD]] at h1
    have h2 : (n : Int) < n := h1.2
    omega
  rw [decide_eq_false this]
  simp
theorem no_double (F : Nat → List Int) (n : Nat) (m : List Int) (x y : Int) (bs : List Bool) : enough F n 4 2 1 m (sgnL m [x, y] bs 2 ++ sgnL m [x, y] bs 2) = false := by
  unfold enough
  have : ¬ riseP (sgnL m [x, y] bs 2 ++ sgnL m [x, y] bs 2) := fun h => by
    have h1 : (1 : Nat) = 0 ∨ x < y := h 1 (by rw [List.length_append, sgnL_len]; decide)
    have h2 : (2 : Nat) = 0 ∨ y < x := h 2 (by rw [List.length_append, sgnL_len]; decide)
    omega
  rw [decide_eq_false this]
  simp
theorem inK_one (n x : Nat) (hx : x < n) : inK n [(x : Int)] 1 := fun i hi => by
  obtain rfl : i = 0 := by omega
  exact ⟨x, rfl, hx⟩
theorem cnt_strange (n : Nat) (m : List Int) (x : Nat) (i : Int) (L : List Int) (hx : x < n) : cnt (FK n) n m (sgnL m [(x : Int)] [] 1 ++ [⟨(n : Int), i, L⟩]) = 1 := by
  rw [cnt_wrong _ _ _ _ _ (okS_no (x := ⟨(n : Int), i, L⟩) (by show ¬ (_ ∧ (n : Int) < n); omega))]
  exact cnt_made n m [(x : Int)] 1 (inK_one n x hx) (fun i hi => .inl (by omega))
theorem yes_two (n : Nat) (m : List Int) (x y : Nat) (hx : x < n) (hy : y < n) (h5 : n ≤ 5) : enough (FK n) n 4 2 1 m (sgnL m [(x : Int), (y : Int)] [] 2) = decide ((x : Int) < (y : Int)) := by
  rw [enough_made n 1 m _ 2 (by omega) h5 (by decide) (by omega) (inK_two n x y hx hy), riseW_two]
  rfl
theorem cSignedB (m : List Int) (x y : Int) (G : Nat) (w : World) (hk : Keys w) (hm : m.length = 8) (hbt : Byt m) (hG : w.heap[G]? = some (.cells #[.int .i64 x, .int .i64 y] 3 (0, 0))) :
    Calls Tryd.prog 11 #[.agg (ba m), .slice (some ⟨G, 0, none⟩) 2 2, .slice none 0 0] w fun e w' => ∃ B c, e = .returned (.slice B 2 c) ∧ w'.ownsRow w.heap.size 45 282 (.slice B 2 c) 2 ((sgnL m [x, y] [] 2).flatMap eS) ∧ Below w.heap.size w w' := kSigned m (some ⟨G, 0, none⟩) 2 2 [x, y] none 0 0 [] w hk hm hbt (irow_two hG) rfl (.inl rfl) rfl (by decide)
theorem cSigned1 (m : List Int) (x : Int) (G : Nat) (w : World) (hk : Keys w) (hm : m.length = 8) (hbt : Byt m) (hG : w.heap[G]? = some (.cells #[.int .i64 x] 3 (0, 0))) :
    Calls Tryd.prog 11 #[.agg (bvals m).toArray, .slice (some ⟨G, 0, none⟩) 1 1, .slice none 0 0] w fun e w' => ∃ B c, e = .returned (.slice B 1 c) ∧ w'.ownsRow w.heap.size 45 282 (.slice B 1 c) 1 ((sgnL m [x] [] 1).flatMap eS) ∧ Below w.heap.size w w' := by
  have := kSigned m (some ⟨G, 0, none⟩) 1 1 [x] none 0 0 [] w hk hm hbt (irow_one hG) rfl (.inl rfl) rfl (by decide)
  rw [ba_bvals m] at this
  exact this
theorem sg_range {w : World} {g : Nat} {x : Sgd} {xs : List Sgd} (h : w.rangeAt g 0 ((x :: xs).flatMap eS)) (hx : x.sig.length = 280) : w.rangeAt g 1 (sg x.idx x.sig) := fun j v hj => by
  have hlt := (List.getElem?_eq_some_iff.1 hj).1
  rw [sg_len, hx] at hlt
  have := h (j + 1) v (by
    rw [List.flatMap_cons, List.getElem?_append_left (by rw [eS_len hx]; omega)]
    simpa [eS] using hj)
  rw [Nat.zero_add] at this
  rw [Nat.add_comm]
  exact this
theorem SRow_nil (w : World) : SRow w none [] := ⟨fun _ hx => absurd hx List.not_mem_nil, .inl rfl⟩
attribute [local irreducible] ua da ba kk sw S8.run rt hs comp splice outB sha msg bvals at8 secM zeros sec keyF marksF mk pubk bt rootF leafH twoH stepsF cutN leadF provL rootV pubF pubs keyL opn sht way gives ckB chkB rootL sg eS fineP mayK win mayP okS has cnt cntN riseP allP enough keyAt cat opL shL sigL wayP wayL rootS seedL bend mAt sgF sgnL FK riseW m4 m8q ivals upTo
set_option maxRecDepth 100000 in
set_option maxHeartbeats 64000000 in
theorem q6 (x y z : Nat) (w : World) (hk : Keys w) (hx : x < 256) (hy : y < 256) (hz : z < 256) :
    Calls Tryd.prog 6 #[.int .u8 x, .int .u8 y, .int .u8 z] w fun e w' => e = .returned (.bool true) ∧ Below w.heap.size w w' := by
  have HK := Lib.hid hk
  have HP : Hid (0 < w.heap.size) := keys_pos hk
  obtain ⟨S, hS⟩ : ∃ S, w.heap.size = S := ⟨_, rfl⟩
  have HS := Lib.hid hS
  have KW : Hid (∀ w', Below S w w' → Keys w') := fun w' hb => keys_below HK.out hb (by rw [← HS.out]; exact HP.out)
  have C7 := Lib.hid (kAwake w hk)
  have BMX : Hid (Byt (m8q 6 x)) := byt_m8q (by omega) (by omega)
  obtain ⟨k0, k, a, b, hK, ha, hb, wx, wy, wz, mx, wk0, wk1, wk2, kne, my, wa, mz, wb, kne2, kne3, hk8⟩ := nums6 x y z hx hy hz
  have HK5 := Lib.hid hK
  have HA := Lib.hid ha
  have HB := Lib.hid hb
  have C10 : Hid (∀ w', Below S w w' → Calls Tryd.prog 10 #[.int .i64 k, .int .i64 1] w' fun e w'' => ∃ A c, e = .returned (.agg #[.int .i64 4, .int .i64 2, .int .i64 1, .slice A k c]) ∧ Src w'' A (8 * k) (cat rootS k) ∧ k ≤ c ∧ c ≤ maxLen ∧ Below w'.heap.size w' w'') := fun w' hb => kMade k 1 w' (KW.out w' hb) hk8
  clear hk hK ha hb hx hy hz hk8
  go_enter Tryd.func6, Tryd.ntmps6
  go_upto_region 6 with (first
    | (go_at_call 7
       refine C7.out.mono ?_
       rintro e w1 ⟨rfl, hb⟩
       have B1 : Hid (Below S w w1) := by show Below _ _ _; rw [← HS.out]; exact hb
       have S1 : Hid (S ≤ w1.heap.size) := by show _ ≤ _; rw [← HS.out]; exact hb.size
       clear hb C7)
    | (go_at_call 10
       refine (C10.out w1 B1.out).mono ?_
       rintro e w2 ⟨A, c, rfl, hsrc, hc3, hcm3, hb⟩
       have S2 := Lib.hid hsrc
       have HC3 := Lib.hid hc3
       have HCM := Lib.hid hcm3
       have B2 : Hid (Below S w w2) := B1.out.trans (hb.mono S1.out)
       obtain ⟨PBK, hP⟩ : ∃ q, w2.heap.size = q := ⟨_, rfl⟩
       have HPS : Hid (S ≤ PBK) := by show _ ≤ _; rw [← hP]; exact Nat.le_trans S1.out hb.size
       have PQ1 := Lib.hid (pb_old (pb_new hP 4 2 1 (.slice A k c)) (Obj.cells #[.int .u8 6, .int .u8 x, .int .u8 0, .int .u8 0, .int .u8 0, .int .u8 0, .int .u8 0, .int .u8 0] 32))
       have MQ1 : Hid (BA ((w2.alloc (Obj.cells #[.int .i64 4, .int .i64 2, .int .i64 1, .slice A k c] 24)).alloc (Obj.cells #[.int .u8 6, .int .u8 x, .int .u8 0, .int .u8 0, .int .u8 0, .int .u8 0, .int .u8 0, .int .u8 0] 32)) (PBK + 1) 32 (m8q 6 x)) := by
         have := ba_new (size_al hP (Obj.cells #[.int .i64 4, .int .i64 2, .int .i64 1, .slice A k c] 24)) (m8q 6 x) 32
         rw [ba_m8q] at this
         exact this
       have BW : Hid (Below PBK w2 ((w2.alloc (Obj.cells #[.int .i64 4, .int .i64 2, .int .i64 1, .slice A k c] 24)).alloc (Obj.cells #[.int .u8 6, .int .u8 x, .int .u8 0, .int .u8 0, .int .u8 0, .int .u8 0, .int .u8 0, .int .u8 0] 32))) := ((Below.refl _ w2).alloc (Nat.le_of_eq hP.symm) _).alloc (by rw [size_al hP]; exact Nat.le_succ _) _
       have HN2 : Hid (((w2.alloc (Obj.cells #[.int .i64 4, .int .i64 2, .int .i64 1, .slice A k c] 24)).alloc (Obj.cells #[.int .u8 6, .int .u8 x, .int .u8 0, .int .u8 0, .int .u8 0, .int .u8 0, .int .u8 0, .int .u8 0] 32)).heap.size = PBK + 2) := size_al (size_al hP _) _
       clear hb hsrc hc3 hcm3)
    | fail)
  generalize ((w2.alloc (Obj.cells #[.int .i64 4, .int .i64 2, .int .i64 1, .slice A k c] 24)).alloc (Obj.cells #[.int .u8 6, .int .u8 x, .int .u8 0, .int .u8 0, .int .u8 0, .int .u8 0, .int .u8 0, .int .u8 0] 32)) = w3 at *
  obtain ⟨mm, hmm⟩ : ∃ mm, m8q 6 x = mm := ⟨_, rfl⟩
  have LMM : Hid (mm.length = 8) := by rw [← hmm]; exact m8q_len 6 x
  have BMM : Hid (Byt mm) := by rw [← hmm]; exact BMX.out
  have MQ3 : Hid (BA w3 (PBK + 1) 32 mm) := by rw [← hmm]; exact MQ1.out
  have HPB : Hid (w2.heap.size = PBK) := hP
  have him := inf23 mm LMM.out
  obtain ⟨N, hN⟩ : ∃ N, w3.heap.size = N := ⟨_, rfl⟩
  have WN : Hid (w3.heap.size = N) := hN
  have LN : Hid (PBK + 1 < N) := by show _ < _; rw [← hN]; exact lt_of_block MQ1.out
  have BN3 : Hid (∀ w', Below N w3 w' → Below PBK w2 w') := fun w' hb => BW.out.trans (hb.mono (Nat.le_of_lt (Nat.lt_of_succ_lt LN.out)))
  have BN : Hid (∀ w', Below N w3 w' → Below S w w') := fun w' hb => B2.out.trans ((BN3.out w' hb).mono HPS.out)
  have BS : Hid (∀ w', Below N w3 w' → Src w' A (8 * k) (cat rootS k)) := fun w' hb => S2.out.keep fun q hq => (BN3.out w' hb).block q (by rw [← HPB.out]; exact hq)
  clear hP hN hmm B1 S1 BW S2 hS MQ1 HN2
  have XX : Hid (Below N w3 w3.drew) := (Below.refl _ _).drew
  refine wp_region_held_drew (S := (fun w' : World => ∀ q, q < N → w'.heap[q]? = w3.heap[q]?)) (by kernel_rfl) (by exact fun _ _ => rfl) (fun hHeld => ?_)
  refine wpAnyH_take (i := 0) (v := ?_) rfl (by kernel_rfl) (by kernel_rfl) (by kernel_rfl) (fun _ _ _ h => h) (Or.inl ⟨by rfl, ?_⟩) (by assumption) ?_
  rotate_left
  · (intro w hSw; (try dsimp only at hSw); go_simp; try with_reducible rfl)
  simp only [Act.put, List.getElem_toArray, List.getElem_cons_zero, List.setIfInBounds_toArray, List.set_cons_zero, List.set_cons_succ]
  refine wpAnyH_take (i := 1) (v := ?_) rfl (by kernel_rfl) (by kernel_rfl) (by kernel_rfl) (fun _ _ _ h => h) (Or.inl ⟨by rfl, ?_⟩) (by assumption) ?_
  rotate_left
  · (intro w hSw; (try dsimp only at hSw); go_simp; try with_reducible rfl)
  simp only [Act.put, List.getElem_toArray, List.getElem_cons_succ, List.getElem_cons_zero, List.setIfInBounds_toArray, List.set_cons_zero, List.set_cons_succ]
  refine wpAnyH_take (i := 2) (v := ?_) rfl (by kernel_rfl) (by kernel_rfl) (by kernel_rfl) (fun _ _ _ h => h) (Or.inl ⟨by rfl, ?_⟩) (by assumption) ?_
  rotate_left
  · (intro w hSw; (try dsimp only at hSw); go_simp; try with_reducible rfl)
  simp only [Act.put, List.getElem_toArray, List.getElem_cons_succ, List.getElem_cons_zero, List.setIfInBounds_toArray, List.set_cons_zero, List.set_cons_succ]
  refine wpAnyH_take (i := 3) (v := ?_) rfl (by kernel_rfl) (by kernel_rfl) (by kernel_rfl) (fun _ _ _ h => h) (Or.inl ⟨by rfl, ?_⟩) (by assumption) ?_
  rotate_left
  · (intro w hSw; (try dsimp only at hSw); go_simp; try with_reducible rfl)
  simp only [Act.put, List.getElem_toArray, List.getElem_cons_succ, List.getElem_cons_zero, List.setIfInBounds_toArray, List.set_cons_zero, List.set_cons_succ]
  refine wpAnyH_take (i := 4) (v := ?_) rfl (by kernel_rfl) (by kernel_rfl) (by kernel_rfl) (fun _ _ _ h => h) (Or.inl ⟨by rfl, ?_⟩) (by assumption) ?_
  rotate_left
  · (intro w hSw; (try dsimp only at hSw); go_simp; try with_reducible rfl)
  simp only [Act.put, List.getElem_toArray, List.getElem_cons_succ, List.getElem_cons_zero, List.setIfInBounds_toArray, List.set_cons_zero, List.set_cons_succ]
  refine wpAnyH_take (i := 5) (v := ?_) rfl (by kernel_rfl) (by kernel_rfl) (by kernel_rfl) (fun _ _ _ h => h) (Or.inl ⟨by rfl, ?_⟩) (by assumption) ?_
  rotate_left
  · (intro w hSw; (try dsimp only at hSw); go_simp; try with_reducible rfl)
  simp only [Act.put, List.getElem_toArray, List.getElem_cons_succ, List.getElem_cons_zero, List.setIfInBounds_toArray, List.set_cons_zero, List.set_cons_succ]
  refine wpAnyH_take (i := 6) (v := ?_) rfl (by kernel_rfl) (by kernel_rfl) (by kernel_rfl) (fun _ _ _ h => h) (Or.inl ⟨by rfl, ?_⟩) (by assumption) ?_
  rotate_left
  · (intro w hSw; (try dsimp only at hSw); go_simp; try with_reducible rfl)
  simp only [Act.put, List.getElem_toArray, List.getElem_cons_succ, List.getElem_cons_zero, List.setIfInBounds_toArray, List.set_cons_zero, List.set_cons_succ]
  refine wpAnyH_take (i := 7) (v := ?_) rfl (by kernel_rfl) (by kernel_rfl) (by kernel_rfl) (fun _ _ _ h => h) (Or.inl ⟨by rfl, ?_⟩) (by assumption) ?_
  rotate_left
  · (intro w hSw; (try dsimp only at hSw); go_simp; try with_reducible rfl)
  simp only [Act.put, List.getElem_toArray, List.getElem_cons_succ, List.getElem_cons_zero, List.setIfInBounds_toArray, List.set_cons_zero, List.set_cons_succ]
  refine wpAnyH_take (i := 8) (v := ?_) rfl (by kernel_rfl) (by kernel_rfl) (by kernel_rfl) (fun _ _ _ h => h) (Or.inl ⟨by rfl, ?_⟩) (by assumption) ?_
  rotate_left
  · (intro w hSw; (try dsimp only at hSw); go_simp; try with_reducible rfl)
  simp only [Act.put, List.getElem_toArray, List.getElem_cons_succ, List.getElem_cons_zero, List.setIfInBounds_toArray, List.set_cons_zero, List.set_cons_succ]
  refine wpAnyH_take (i := 9) (v := ?_) rfl (by kernel_rfl) (by kernel_rfl) (by kernel_rfl) (fun _ _ _ h => h) (Or.inl ⟨by rfl, ?_⟩) (by assumption) ?_
  rotate_left
  · (intro w hSw; (try dsimp only at hSw); go_simp; try with_reducible rfl)
  simp only [Act.put, List.getElem_toArray, List.getElem_cons_succ, List.getElem_cons_zero, List.setIfInBounds_toArray, List.set_cons_zero, List.set_cons_succ]
  refine wpAnyH_done (by kernel_rfl) ?_ _
  clear wx wy wz mx wk0 wk1 wk2 kne my wa mz wb kne2 kne3 hHeld
  have X3 := XX
  clear XX
  generalize w3.drew = w4 at *
  have M4 : Hid (BA w4 (PBK + 1) 32 mm) := (X3.out.block _ LN.out).trans MQ3.out
  have P4 : Hid (PB w4 PBK 4 2 1 (.slice A k c)) := (X3.out.block _ (by have := LN.out; omega)).trans PQ1.out
  have N4 : Hid (N ≤ w4.heap.size) := by show _ ≤ _; have h1 := X3.out.size; have h2 := WN.out; omega
  have C11 : Hid (∀ (G : Nat) (w' : World), Below N w3 w' → w'.heap[G]? = some (.cells #[.int .i64 (a : Int), .int .i64 (b : Int)] 3 (0, 0)) → Calls Tryd.prog 11 #[.agg (ba mm), .slice (some ⟨G, 0, none⟩) 2 2, .slice none 0 0] w' fun e w'' => ∃ B c, e = .returned (.slice B 2 c) ∧ w''.ownsRow w'.heap.size 45 282 (.slice B 2 c) 2 ((sgnL mm [(a : Int), (b : Int)] [] 2).flatMap eS) ∧ Below w'.heap.size w' w'') := fun G w' hb hG => cSignedB mm a b G w' (KW.out _ (BN.out _ hb)) LMM.out BMM.out hG
  have C11x : Hid (∀ (G : Nat) (w' : World), Below N w3 w' → w'.heap[G]? = some (.cells #[.int .i64 (a : Int)] 3 (0, 0)) → Calls Tryd.prog 11 #[.agg (bvals mm).toArray, .slice (some ⟨G, 0, none⟩) 1 1, .slice none 0 0] w' fun e w'' => ∃ B c, e = .returned (.slice B 1 c) ∧ w''.ownsRow w'.heap.size 45 282 (.slice B 1 c) 1 ((sgnL mm [(a : Int)] [] 1).flatMap eS) ∧ Below w'.heap.size w' w'') := fun G w' hb hG => cSigned1 mm a G w' (KW.out _ (BN.out _ hb)) LMM.out BMM.out hG
  have C12x : Hid (∀ (B : Option Addr) (k2 c5 : Nat) (xs : List Sgd) (v : Bool) (w' : World), Below N w3 w' → SRow w' B xs → xs.length = k2 → k2 ≤ c5 → c5 ≤ maxLen → k2 ≤ 65536 → enough (FK k) k 4 2 1 mm xs = v → Calls Tryd.prog 12 #[.agg #[.int .i64 4, .int .i64 2, .int .i64 1, .slice A k c], .agg (bvals mm).toArray, .slice B k2 c5] w' fun e w'' => e = .returned (.bool v) ∧ Below w'.heap.size w' w'') := fun B k2 c5 xs v w' hb hr hl h1 h2 h3 hv => by
    rw [← hv]
    exact cQuorum k 1 A c mm B k2 c5 xs w' (KW.out _ (BN.out _ hb)) (BS.out _ hb) HC3.out HCM.out LMM.out BMM.out hr hl h1 h2 (by have := HK5.out; omega) h3
  have C14x : Hid (∀ (B : Option Addr) (k2 c5 : Nat) (xs : List Sgd) (t : Int) (w' : World), Below N w3 w' → SRow w' B xs → xs.length = k2 → k2 ≤ c5 → c5 ≤ maxLen → k2 ≤ 65536 → ((cnt (FK k) k mm xs : Nat) : Int) = t → Calls Tryd.prog 14 #[.agg #[.int .i64 4, .int .i64 2, .int .i64 1, .slice A k c], .agg (bvals mm).toArray, .slice B k2 c5] w' fun e w'' => e = .returned (.int .i64 t) ∧ Below w'.heap.size w' w'') := fun B k2 c5 xs t w' hb hr hl h1 h2 h3 ht => by
    rw [← ht]
    exact cCount k 1 A c mm B k2 c5 xs w' (KW.out _ (BN.out _ hb)) (BS.out _ hb) LMM.out BMM.out hr hl h1 h2 (by have := HK5.out; omega) h3
  obtain ⟨G4, hG4⟩ : ∃ G, w4.heap.size = G := ⟨_, rfl⟩
  have HG4 : Hid ((w4.alloc (Obj.cells #[.int .i64 (a : Int), .int .i64 (b : Int)] 3)).heap[G4]? = some (.cells #[.int .i64 (a : Int), .int .i64 (b : Int)] 3 (0, 0))) := by show _ = _; rw [← hG4]; exact heap_alloc_last w4 _
  have BG4 : Hid (Below N w3 (w4.alloc (Obj.cells #[.int .i64 (a : Int), .int .i64 (b : Int)] 3))) := X3.out.alloc N4.out _
  have MG4 : Hid (BA (w4.alloc (Obj.cells #[.int .i64 (a : Int), .int .i64 (b : Int)] 3)) (PBK + 1) 32 mm) := ba_old M4.out _
  have PG4 : Hid (PB (w4.alloc (Obj.cells #[.int .i64 (a : Int), .int .i64 (b : Int)] 3)) PBK 4 2 1 (.slice A k c)) := pb_old P4.out _
  have NG4 : Hid (N ≤ (w4.alloc (Obj.cells #[.int .i64 (a : Int), .int .i64 (b : Int)] 3)).heap.size) := by show _ ≤ _; rw [World.size_alloc]; have := N4.out; omega
  go_upto_region 8 with (first
    | (refine wpList_load_row rfl 32 (.tmp 9) rfl (PBK + 1) rfl 32 (ba mm) (0, 0) _ M4.out Tryd.underlying32 rfl (sz s27 (by rw [ba_size, LMM.out])) ?_)
    | (go_at_call 11
       refine (C11.out G4 _ BG4.out HG4.out).mono ?_
       rintro e w5 ⟨B, c5, rfl, ho, hb⟩
       have OL := Lib.hid (own_monoQ ho NG4.out)
       have M5 : Hid (BA w5 (PBK + 1) 32 mm) := (hb.block _ (lt_of_block MG4.out)).trans MG4.out
       have P5 : Hid (PB w5 PBK 4 2 1 (.slice A k c)) := (hb.block _ (lt_of_block PG4.out)).trans PG4.out
       have B5 : Hid (Below N w3 w5) := BG4.out.trans (hb.mono NG4.out)
       clear ho hb)
    | fail)
  clear M4 P4 N4 X3 hG4 HG4 BG4 MG4 PG4 NG4 C11 MQ3 PQ1
  obtain ⟨xs, hxs⟩ : ∃ xs, sgnL mm [(a : Int), (b : Int)] [] 2 = xs := ⟨_, rfl⟩
  have HXL : Hid (xs.length = 2) := by rw [← hxs]; exact sgnL_len _ _ _ _
  have HX8 : Hid (∀ z ∈ xs, z.sig.length = 280) := by rw [← hxs]; exact sgnL_280 _ _ _ _
  have HV1 : Hid (enough (FK k) k 4 2 1 mm xs = decide ((a : Int) < (b : Int))) := by rw [← hxs]; exact yes_two k mm a b HA.out HB.out HK5.out.2
  have HT0 : Hid (cnt (FK k) k mm xs = if a = b then 1 else 2) := by rw [← hxs]; exact cnt_two k mm a b HA.out HB.out
  have HV3 : Hid (enough (FK k) k 4 2 1 mm (xs ++ xs) = false) := by rw [← hxs]; exact no_double _ _ _ _ _ _
  obtain ⟨x0, xr, hx0⟩ : ∃ x0 xr, xs = x0 :: xr := by
    have := HXL.out
    match xs, this with
    | x0 :: xr, _ => exact ⟨x0, xr, rfl⟩
  have OL2 : Hid (w5.ownsRow N 45 282 (.slice B 2 c5) 2 (xs.flatMap eS)) := by rw [← hxs]; exact OL.out
  obtain ⟨gl, rfl⟩ := own_some OL2.out (by decide)
  have SR5 := Lib.hid (own_srow OL2.out HX8.out HXL.out)
  have HC5 : Hid (2 ≤ c5 ∧ c5 ≤ maxLen) := SR5.out.2
  obtain ⟨N5, hN5⟩ : ∃ N5, w5.heap.size = N5 := ⟨_, rfl⟩
  have W5 : Hid (w5.heap.size = N5) := hN5
  have LRX5 : Hid (∀ w' : World, (∀ q, q < N5 → w'.heap[q]? = w5.heap[q]?) → w'.rangeAt gl 0 (xs.flatMap eS)) := fun w' h => own_range (own_sameQ OL2.out fun q hq => h q (by
    obtain ⟨cs, hcs⟩ := own_typeQ' OL2.out q hq
    rw [← W5.out]
    exact lt_of_block hcs))
  have SX5 : Hid (∀ w', Below N5 w5 w' → SRow w' (some ⟨gl, 0, none⟩) xs) := fun w' hb => SR5.out.1.keep fun q hq => hb.block q (by rw [← W5.out]; exact hq)
  have BN5 : Hid (∀ w', Below N5 w5 w' → Below N w3 w') := fun w' hb => B5.out.trans (hb.mono (by have h1 := B5.out.size; have h2 := WN.out; have h3 := W5.out; omega))
  obtain ⟨i0, L0, hsg⟩ : ∃ i0 L0, x0 = ⟨x0.key, i0, L0⟩ := ⟨x0.idx, x0.sig, rfl⟩
  have LL0 : Hid (L0.length = 280) := by
    have := HX8.out x0 (by rw [hx0]; exact List.mem_cons_self ..)
    rw [hsg] at this
    exact this
  have SL : Hid (∀ w' : World, (∀ q, q < N5 → w'.heap[q]? = w5.heap[q]?) → w'.rangeAt gl 1 (sg i0 L0)) := fun w' h => by
    have h1 := LRX5.out w' h
    rw [hx0] at h1
    have h2 := sg_range h1 (HX8.out x0 (by rw [hx0]; exact List.mem_cons_self ..))
    rw [hsg] at h2
    exact h2
  have HYL : Hid ((sgnL mm [(a : Int)] [] 1 ++ [(⟨(k : Int), i0, L0⟩ : Sgd)]).length = 2) := by show _ = _; rw [List.length_append, sgnL_len]; rfl
  have HY8 : Hid (∀ z ∈ sgnL mm [(a : Int)] [] 1 ++ [(⟨(k : Int), i0, L0⟩ : Sgd)], z.sig.length = 280) := fun z hz => by
    rcases List.mem_append.1 hz with h | h
    · exact sgnL_280 _ _ _ _ z h
    · rw [List.mem_singleton.1 h]; exact LL0.out
  have HV2 : Hid (enough (FK k) k 4 2 1 mm (sgnL mm [(a : Int)] [] 1 ++ [(⟨(k : Int), i0, L0⟩ : Sgd)]) = false) := no_strange k mm _ i0 L0
  have HT2 : Hid (((cnt (FK k) k mm (sgnL mm [(a : Int)] [] 1 ++ [(⟨(k : Int), i0, L0⟩ : Sgd)]) : Nat) : Int) = 1) := by show _ = _; rw [cnt_strange k mm a i0 L0 HA.out]; rfl
  have LN5 : Hid (PBK + 1 < N5) := by show _ < _; rw [← hN5]; exact lt_of_block M5.out
  clear hxs hx0 hsg hN5 OL OL2 LN
  have LN := LN5
  have C11b : Hid (∀ (G : Nat) (w' : World), Below N5 w5 w' → w'.heap[G]? = some (.cells #[.int .i64 (a : Int)] 3 (0, 0)) → Calls Tryd.prog 11 #[.agg (bvals mm).toArray, .slice (some ⟨G, 0, none⟩) 1 1, .slice none 0 0] w' fun e w'' => ∃ B c, e = .returned (.slice B 1 c) ∧ w''.ownsRow w'.heap.size 45 282 (.slice B 1 c) 1 ((sgnL mm [(a : Int)] [] 1).flatMap eS) ∧ Below w'.heap.size w' w'') := fun G w' hb hG => C11x.out G w' (BN5.out _ hb) hG
  have C12y : Hid (∀ (B : Option Addr) (k2 c5 : Nat) (xs : List Sgd) (v : Bool) (w' : World), Below N5 w5 w' → SRow w' B xs → xs.length = k2 → k2 ≤ c5 → c5 ≤ maxLen → k2 ≤ 65536 → enough (FK k) k 4 2 1 mm xs = v → Calls Tryd.prog 12 #[.agg #[.int .i64 4, .int .i64 2, .int .i64 1, .slice A k c], .agg (bvals mm).toArray, .slice B k2 c5] w' fun e w'' => e = .returned (.bool v) ∧ Below w'.heap.size w' w'') := fun B k2 c5 xs v w' hb => C12x.out B k2 c5 xs v w' (BN5.out _ hb)
  have C14y : Hid (∀ (B : Option Addr) (k2 c5 : Nat) (xs : List Sgd) (t : Int) (w' : World), Below N5 w5 w' → SRow w' B xs → xs.length = k2 → k2 ≤ c5 → c5 ≤ maxLen → k2 ≤ 65536 → ((cnt (FK k) k mm xs : Nat) : Int) = t → Calls Tryd.prog 14 #[.agg #[.int .i64 4, .int .i64 2, .int .i64 1, .slice A k c], .agg (bvals mm).toArray, .slice B k2 c5] w' fun e w'' => e = .returned (.int .i64 t) ∧ Below w'.heap.size w' w'') := fun B k2 c5 xs t w' hb => C14x.out B k2 c5 xs t w' (BN5.out _ hb)
  have BNF : Hid (∀ w', Below N5 w5 w' → Below S w w') := fun w' hb => BN.out w' (BN5.out w' hb)
  clear C11x C12x C14x BN BN3 BS BN5 LN5 B5 B2 WN
  have WN := W5
  clear W5
  have PQ := P5
  have MQ := M5
  clear P5 M5
  have SL5 := SL
  clear SL
  have SL := SL5
  clear SL5
  generalize w5 = wB at *
  generalize N5 = N at *
  go_cut [13] (fun v13 wx => ∃ (A9 : Option Addr) (c9 : Nat), v13 = .slice A9 2 c9 ∧ wx.ownsRow N 45 282 (.slice A9 2 c9) 2 ((sgnL mm [(a : Int)] [] 1 ++ [(⟨(k : Int), i0, L0⟩ : Sgd)]).flatMap eS) ∧ Below N wB wx)
  case first =>
    have XX : Hid (Below N wB wB.drew) := (Below.refl _ _).drew
    refine wp_region_held_drew (S := (fun w' : World => ∀ q, q < N → w'.heap[q]? = wB.heap[q]?)) (by kernel_rfl) (by exact fun _ _ => rfl) (fun hHeld => ?_)
    refine wpAnyH_take (i := 0) rfl (by kernel_rfl) (by kernel_rfl) (by kernel_rfl) (fun _ _ _ h => h) (yieldsIf_load_mid (by rfl) 32 (.tmp 9) rfl (PBK + 1) (0) rfl (bvals mm) _ (fun w h => ba_range (t := 32) ((h _ (by have := LN.out; omega)).trans MQ.out)) Tryd.underlying32 rfl him) (by assumption) ?_
    simp only [Act.put, List.getElem_toArray, List.getElem_cons_zero, List.setIfInBounds_toArray, List.set_cons_zero, List.set_cons_succ]
    refine wpAnyH_take (i := 1) (v := ?_) rfl (by kernel_rfl) (by kernel_rfl) (by kernel_rfl) (fun _ _ _ h => h) (Or.inl ⟨by rfl, ?_⟩) (by assumption) ?_
    rotate_left
    · (intro w hSw; (try dsimp only at hSw); go_simp; try with_reducible rfl)
    simp only [Act.put, List.getElem_toArray, List.getElem_cons_succ, List.getElem_cons_zero, List.setIfInBounds_toArray, List.set_cons_zero, List.set_cons_succ]
    refine wpAnyH_take (i := 4) (v := ?_) rfl (by kernel_rfl) (by kernel_rfl) (by kernel_rfl) (fun _ _ _ h => h) (Or.inl ⟨by rfl, ?_⟩) (by assumption) ?_
    rotate_left
    · (intro w hSw; (try dsimp only at hSw); go_simp; try with_reducible rfl)
    simp only [Act.put, List.getElem_toArray, List.getElem_cons_succ, List.getElem_cons_zero, List.setIfInBounds_toArray, List.set_cons_zero, List.set_cons_succ]
    refine wpAnyH_take (i := 5) (v := ?_) rfl (by kernel_rfl) (by kernel_rfl) (by kernel_rfl) (fun _ _ _ h => h) (Or.inl ⟨by rfl, ?_⟩) (by assumption) ?_
    rotate_left
    · (intro w hSw; (try dsimp only at hSw); go_simp; try with_reducible rfl)
    simp only [Act.put, List.getElem_toArray, List.getElem_cons_succ, List.getElem_cons_zero, List.setIfInBounds_toArray, List.set_cons_zero, List.set_cons_succ]
    refine wpAnyH_take (i := 6) (v := ?_) rfl (by kernel_rfl) (by kernel_rfl) (by kernel_rfl) (fun _ _ _ h => h) (Or.inl ⟨by rfl, ?_⟩) (by assumption) ?_
    rotate_left
    · (intro w hSw; (try dsimp only at hSw); go_simp; try with_reducible rfl)
    simp only [Act.put, List.getElem_toArray, List.getElem_cons_succ, List.getElem_cons_zero, List.setIfInBounds_toArray, List.set_cons_zero, List.set_cons_succ]
    refine wpAnyH_take (i := 7) (v := ?_) rfl (by kernel_rfl) (by kernel_rfl) (by kernel_rfl) (fun _ _ _ h => h) (Or.inl ⟨by rfl, ?_⟩) (by assumption) ?_
    rotate_left
    · (intro w hSw; (try dsimp only at hSw); go_simp; try with_reducible rfl)
    simp only [Act.put, List.getElem_toArray, List.getElem_cons_succ, List.getElem_cons_zero, List.setIfInBounds_toArray, List.set_cons_zero, List.set_cons_succ]
    refine wpAnyH_take (i := 8) rfl (by kernel_rfl) (by kernel_rfl) (by kernel_rfl) (fun _ _ _ h => h) (yieldsIf_load_mid (by rfl) 43 (.tmp 45) rfl (gl) (1) rfl (sg i0 L0) _ (fun w h => SL.out w h) Tryd.underlying43 rfl (sg_info i0 L0 LL0.out)) (by assumption) ?_
    simp only [Act.put, List.getElem_toArray, List.getElem_cons_succ, List.getElem_cons_zero, List.setIfInBounds_toArray, List.set_cons_zero, List.set_cons_succ]
    clear hHeld
    generalize wB.drew = wc at *
    refine wpAnyH_ready (rs := [2, 9]) (by kernel_rfl) (by simp) ?_
    refine AllReadyH.cons rfl (fun Kq hKq => ?_) (AllReadyH.cons rfl (fun Kq hKq => ?_) AllReadyH.nil)
    · go_simp
      obtain ⟨G, hG⟩ : ∃ G, wc.heap.size = G := ⟨_, rfl⟩
      (try rw [hG])
      have HG0 : Hid ((wc.alloc (Obj.cells #[.int .i64 (a : Int)] 3)).heap[G]? = some (.cells #[.int .i64 (a : Int)] 3 (0, 0))) := by show _ = _; rw [← hG]; exact heap_alloc_last wc _
      have BA1 : Below wc.heap.size wc (wc.alloc (Obj.cells #[.int .i64 (a : Int)] 3)) := (Below.refl _ _).alloc (Nat.le_refl _) _
      have XN : Hid (Below N wB (wc.alloc (Obj.cells #[.int .i64 (a : Int)] 3))) := XX.out.alloc (by have := XX.out.size; have := WN.out; omega) _
      have HG := HG0
      clear XX hG BA1 HG0
      have XX := XN
      clear XN
      generalize wc.alloc (Obj.cells #[.int .i64 (a : Int)] 3) = wx1 at *
      refine hKq.out _ _ (by exact fun q hq => XX.out.block q hq) (fun _ => ?_)
      clear hKq Kq
      (try simp only [Act.put, List.getElem_toArray, List.getElem_cons_succ, List.getElem_cons_zero, List.setIfInBounds_toArray, List.set_cons_zero, List.set_cons_succ])
      refine wpAnyH_ready (rs := [3, 9]) (by kernel_rfl) (by simp) ?_
      refine AllReadyH.cons rfl (fun Kq hKq => ?_) (AllReadyH.cons rfl (fun Kq hKq => ?_) AllReadyH.nil)
      · go_simp
        go_at_call 11
        refine (C11b.out _ _ XX.out HG.out).mono ?_
        rintro e wx2 ⟨B1, c1, rfl, ho, hba⟩
        have OW : Hid (wx2.ownsRow N 45 282 (.slice B1 1 c1) 1 ((sgnL mm [(a : Int)] [] 1).flatMap eS)) := own_monoQ ho (by have := XX.out.size; have := WN.out; omega)
        have XN : Hid (Below N wB wx2) := XX.out.trans (hba.mono (by have := XX.out.size; have := WN.out; omega))
        clear XX hba ho HG
        have XX := XN
        clear XN
        (try go_wp2_with fail)
        refine hKq.out _ _ (by exact fun q hq => XX.out.block q hq) (fun _ => ?_)
        clear hKq Kq
        (try simp only [Act.put, List.getElem_toArray, List.getElem_cons_succ, List.getElem_cons_zero, List.setIfInBounds_toArray, List.set_cons_zero, List.set_cons_succ])
        refine wpAnyH_ready (rs := [9]) (by kernel_rfl) (by simp) ?_
        refine AllReadyH.cons rfl (fun Kq hKq => ?_) AllReadyH.nil
        refine step_b45 rfl (.tmp 42) (.tmp 46) rfl (k : Int) i0 L0 LL0.out rfl rfl ?_
        refine hKq.out _ _ (by exact fun q hq => XX.out.block q hq) (fun _ => ?_)
        clear hKq Kq
        (try simp only [Act.put, List.getElem_toArray, List.getElem_cons_succ, List.getElem_cons_zero, List.setIfInBounds_toArray, List.set_cons_zero, List.set_cons_succ])
        refine wpAnyH_ready (rs := [10]) (by kernel_rfl) (by simp) ?_
        refine AllReadyH.cons rfl (fun Kq hKq => ?_) AllReadyH.nil
        obtain ⟨H, hH⟩ : ∃ H, wx2.heap.size = H := ⟨_, rfl⟩
        refine step_bs45 rfl (.tmp 47) rfl ⟨(k : Int), i0, L0⟩ LL0.out rfl ?_
        rw [hH]
        have P80 : Hid (XB (wx2.alloc (Obj.cells (eS ⟨(k : Int), i0, L0⟩).toArray 45)) H ⟨(k : Int), i0, L0⟩) := xb_new hH ⟨(k : Int), i0, L0⟩
        have BB2 : Below wx2.heap.size wx2 (wx2.alloc (Obj.cells (eS ⟨(k : Int), i0, L0⟩).toArray 45)) := (Below.refl _ _).alloc (Nat.le_refl _) _
        have OW_i : Hid ((wx2.alloc (Obj.cells (eS ⟨(k : Int), i0, L0⟩).toArray 45)).ownsRow N 45 282 (.slice B1 1 c1) 1 ((sgnL mm [(a : Int)] [] 1).flatMap eS)) := own_keepQ OW.out BB2
        clear OW
        have OW := OW_i
        clear OW_i
        have XN : Hid (Below N wB (wx2.alloc (Obj.cells (eS ⟨(k : Int), i0, L0⟩).toArray 45))) := XX.out.alloc (by have := XX.out.size; have := WN.out; omega) _
        have P8 := P80
        clear XX BB2 P80 hH
        have XX := XN
        clear XN
        generalize (wx2.alloc (Obj.cells (eS ⟨(k : Int), i0, L0⟩).toArray 45)) = wx3 at *
        refine hKq.out _ _ (by exact fun q hq => XX.out.block q hq) (fun _ => ?_)
        clear hKq Kq
        (try simp only [Act.put, List.getElem_toArray, List.getElem_cons_succ, List.getElem_cons_zero, List.setIfInBounds_toArray, List.set_cons_zero, List.set_cons_succ])
        refine wpAnyH_ready (rs := [11]) (by kernel_rfl) (by simp) ?_
        refine AllReadyH.cons rfl (fun Kq hKq => ?_) AllReadyH.nil
        refine step_appS rfl (.tmp 41) (.tmp 48) rfl N 1 1 (.slice B1 1 c1) _ rfl OW.out H 0 1 (eS ⟨(k : Int), i0, L0⟩) rfl (xb_all P8.out) (by rw [eS_len LL0.out]) (eS_one _) (by decide) (by have := XX.out.size; have := WN.out; omega) ?_
        intro A9 c9 w9 hown hg
        have O9 : Hid (w9.ownsRow N 45 282 (.slice A9 2 c9) 2 ((sgnL mm [(a : Int)] [] 1 ++ [(⟨(k : Int), i0, L0⟩ : Sgd)]).flatMap eS)) := by show World.ownsRow _ _ _ _ _ _ _; rw [flat_snoc]; exact hown
        have X9 : Hid (Below N wB w9) := XX.out.grown hg (by have := XX.out.size; have := WN.out; omega) (fun q hq => own_baseQ OW.out q hq)
        clear hown hg
        refine hKq.out _ _ (by exact fun q hq => X9.out.block q hq) (fun _ => ?_)
        clear hKq Kq
        (try simp only [Act.put, List.getElem_toArray, List.getElem_cons_succ, List.getElem_cons_zero, List.setIfInBounds_toArray, List.set_cons_zero, List.set_cons_succ])
        refine wpAnyH_take (i := 12) (v := ?_) rfl (by kernel_rfl) (by kernel_rfl) (by kernel_rfl) (fun _ _ _ h => h) (Or.inl ⟨by rfl, ?_⟩) (by assumption) ?_
        rotate_left
        · (intro w hSw; (try dsimp only at hSw); go_simp; try with_reducible rfl)
        simp only [Act.put, List.getElem_toArray, List.getElem_cons_succ, List.getElem_cons_zero, List.setIfInBounds_toArray, List.set_cons_zero, List.set_cons_succ]
        refine wpAnyH_done (by kernel_rfl) ?_ _
        go_wp2_with fail
        go_meet
        exact ⟨A9, c9, rfl, O9.out, X9.out⟩
      · refine step_b45 rfl (.tmp 42) (.tmp 46) rfl (k : Int) i0 L0 LL0.out rfl rfl ?_
        refine hKq.out _ _ (by exact fun q hq => XX.out.block q hq) (fun _ => ?_)
        clear hKq Kq
        (try simp only [Act.put, List.getElem_toArray, List.getElem_cons_succ, List.getElem_cons_zero, List.setIfInBounds_toArray, List.set_cons_zero, List.set_cons_succ])
        refine wpAnyH_ready (rs := [3, 10]) (by kernel_rfl) (by simp) ?_
        refine AllReadyH.cons rfl (fun Kq hKq => ?_) (AllReadyH.cons rfl (fun Kq hKq => ?_) AllReadyH.nil)
        · go_simp
          go_at_call 11
          refine (C11b.out _ _ XX.out HG.out).mono ?_
          rintro e wx2 ⟨B1, c1, rfl, ho, hba⟩
          have OW : Hid (wx2.ownsRow N 45 282 (.slice B1 1 c1) 1 ((sgnL mm [(a : Int)] [] 1).flatMap eS)) := own_monoQ ho (by have := XX.out.size; have := WN.out; omega)
          have XN : Hid (Below N wB wx2) := XX.out.trans (hba.mono (by have := XX.out.size; have := WN.out; omega))
          clear XX hba ho HG
          have XX := XN
          clear XN
          (try go_wp2_with fail)
          refine hKq.out _ _ (by exact fun q hq => XX.out.block q hq) (fun _ => ?_)
          clear hKq Kq
          (try simp only [Act.put, List.getElem_toArray, List.getElem_cons_succ, List.getElem_cons_zero, List.setIfInBounds_toArray, List.set_cons_zero, List.set_cons_succ])
          refine wpAnyH_ready (rs := [10]) (by kernel_rfl) (by simp) ?_
          refine AllReadyH.cons rfl (fun Kq hKq => ?_) AllReadyH.nil
          obtain ⟨H, hH⟩ : ∃ H, wx2.heap.size = H := ⟨_, rfl⟩
          refine step_bs45 rfl (.tmp 47) rfl ⟨(k : Int), i0, L0⟩ LL0.out rfl ?_
          rw [hH]
          have P80 : Hid (XB (wx2.alloc (Obj.cells (eS ⟨(k : Int), i0, L0⟩).toArray 45)) H ⟨(k : Int), i0, L0⟩) := xb_new hH ⟨(k : Int), i0, L0⟩
          have BB2 : Below wx2.heap.size wx2 (wx2.alloc (Obj.cells (eS ⟨(k : Int), i0, L0⟩).toArray 45)) := (Below.refl _ _).alloc (Nat.le_refl _) _
          have OW_i : Hid ((wx2.alloc (Obj.cells (eS ⟨(k : Int), i0, L0⟩).toArray 45)).ownsRow N 45 282 (.slice B1 1 c1) 1 ((sgnL mm [(a : Int)] [] 1).flatMap eS)) := own_keepQ OW.out BB2
          clear OW
          have OW := OW_i
          clear OW_i
          have XN : Hid (Below N wB (wx2.alloc (Obj.cells (eS ⟨(k : Int), i0, L0⟩).toArray 45))) := XX.out.alloc (by have := XX.out.size; have := WN.out; omega) _
          have P8 := P80
          clear XX BB2 P80 hH
          have XX := XN
          clear XN
          generalize (wx2.alloc (Obj.cells (eS ⟨(k : Int), i0, L0⟩).toArray 45)) = wx3 at *
          refine hKq.out _ _ (by exact fun q hq => XX.out.block q hq) (fun _ => ?_)
          clear hKq Kq
          (try simp only [Act.put, List.getElem_toArray, List.getElem_cons_succ, List.getElem_cons_zero, List.setIfInBounds_toArray, List.set_cons_zero, List.set_cons_succ])
          refine wpAnyH_ready (rs := [11]) (by kernel_rfl) (by simp) ?_
          refine AllReadyH.cons rfl (fun Kq hKq => ?_) AllReadyH.nil
          refine step_appS rfl (.tmp 41) (.tmp 48) rfl N 1 1 (.slice B1 1 c1) _ rfl OW.out H 0 1 (eS ⟨(k : Int), i0, L0⟩) rfl (xb_all P8.out) (by rw [eS_len LL0.out]) (eS_one _) (by decide) (by have := XX.out.size; have := WN.out; omega) ?_
          intro A9 c9 w9 hown hg
          have O9 : Hid (w9.ownsRow N 45 282 (.slice A9 2 c9) 2 ((sgnL mm [(a : Int)] [] 1 ++ [(⟨(k : Int), i0, L0⟩ : Sgd)]).flatMap eS)) := by show World.ownsRow _ _ _ _ _ _ _; rw [flat_snoc]; exact hown
          have X9 : Hid (Below N wB w9) := XX.out.grown hg (by have := XX.out.size; have := WN.out; omega) (fun q hq => own_baseQ OW.out q hq)
          clear hown hg
          refine hKq.out _ _ (by exact fun q hq => X9.out.block q hq) (fun _ => ?_)
          clear hKq Kq
          (try simp only [Act.put, List.getElem_toArray, List.getElem_cons_succ, List.getElem_cons_zero, List.setIfInBounds_toArray, List.set_cons_zero, List.set_cons_succ])
          refine wpAnyH_take (i := 12) (v := ?_) rfl (by kernel_rfl) (by kernel_rfl) (by kernel_rfl) (fun _ _ _ h => h) (Or.inl ⟨by rfl, ?_⟩) (by assumption) ?_
          rotate_left
          · (intro w hSw; (try dsimp only at hSw); go_simp; try with_reducible rfl)
          simp only [Act.put, List.getElem_toArray, List.getElem_cons_succ, List.getElem_cons_zero, List.setIfInBounds_toArray, List.set_cons_zero, List.set_cons_succ]
          refine wpAnyH_done (by kernel_rfl) ?_ _
          go_wp2_with fail
          go_meet
          exact ⟨A9, c9, rfl, O9.out, X9.out⟩
        · obtain ⟨H, hH⟩ : ∃ H, wx1.heap.size = H := ⟨_, rfl⟩
          refine step_bs45 rfl (.tmp 47) rfl ⟨(k : Int), i0, L0⟩ LL0.out rfl ?_
          rw [hH]
          have P80 : Hid (XB (wx1.alloc (Obj.cells (eS ⟨(k : Int), i0, L0⟩).toArray 45)) H ⟨(k : Int), i0, L0⟩) := xb_new hH ⟨(k : Int), i0, L0⟩
          have BB2 : Below wx1.heap.size wx1 (wx1.alloc (Obj.cells (eS ⟨(k : Int), i0, L0⟩).toArray 45)) := (Below.refl _ _).alloc (Nat.le_refl _) _
          have HG_i : Hid ((wx1.alloc (Obj.cells (eS ⟨(k : Int), i0, L0⟩).toArray 45)).heap[G]? = some (.cells #[.int .i64 a] 3 (0, 0))) := (BB2.block _ (lt_of_block HG.out)).trans HG.out
          clear HG
          have HG := HG_i
          clear HG_i
          have XN : Hid (Below N wB (wx1.alloc (Obj.cells (eS ⟨(k : Int), i0, L0⟩).toArray 45))) := XX.out.alloc (by have := XX.out.size; have := WN.out; omega) _
          have P8 := P80
          clear XX BB2 P80 hH
          have XX := XN
          clear XN
          generalize (wx1.alloc (Obj.cells (eS ⟨(k : Int), i0, L0⟩).toArray 45)) = wx2 at *
          refine hKq.out _ _ (by exact fun q hq => XX.out.block q hq) (fun _ => ?_)
          clear hKq Kq
          (try simp only [Act.put, List.getElem_toArray, List.getElem_cons_succ, List.getElem_cons_zero, List.setIfInBounds_toArray, List.set_cons_zero, List.set_cons_succ])
          refine wpAnyH_ready (rs := [3]) (by kernel_rfl) (by simp) ?_
          refine AllReadyH.cons rfl (fun Kq hKq => ?_) AllReadyH.nil
          go_simp
          go_at_call 11
          refine (C11b.out _ _ XX.out HG.out).mono ?_
          rintro e wx3 ⟨B1, c1, rfl, ho, hba⟩
          have OW : Hid (wx3.ownsRow N 45 282 (.slice B1 1 c1) 1 ((sgnL mm [(a : Int)] [] 1).flatMap eS)) := own_monoQ ho (by have := XX.out.size; have := WN.out; omega)
          have P8_i : Hid (XB wx3 H ⟨(k : Int), i0, L0⟩) := (hba.block _ (lt_of_block P8.out)).trans P8.out
          clear P8
          have P8 := P8_i
          clear P8_i
          have XN : Hid (Below N wB wx3) := XX.out.trans (hba.mono (by have := XX.out.size; have := WN.out; omega))
          clear XX hba ho HG
          have XX := XN
          clear XN
          (try go_wp2_with fail)
          refine hKq.out _ _ (by exact fun q hq => XX.out.block q hq) (fun _ => ?_)
          clear hKq Kq
          (try simp only [Act.put, List.getElem_toArray, List.getElem_cons_succ, List.getElem_cons_zero, List.setIfInBounds_toArray, List.set_cons_zero, List.set_cons_succ])
          refine wpAnyH_ready (rs := [11]) (by kernel_rfl) (by simp) ?_
          refine AllReadyH.cons rfl (fun Kq hKq => ?_) AllReadyH.nil
          refine step_appS rfl (.tmp 41) (.tmp 48) rfl N 1 1 (.slice B1 1 c1) _ rfl OW.out H 0 1 (eS ⟨(k : Int), i0, L0⟩) rfl (xb_all P8.out) (by rw [eS_len LL0.out]) (eS_one _) (by decide) (by have := XX.out.size; have := WN.out; omega) ?_
          intro A9 c9 w9 hown hg
          have O9 : Hid (w9.ownsRow N 45 282 (.slice A9 2 c9) 2 ((sgnL mm [(a : Int)] [] 1 ++ [(⟨(k : Int), i0, L0⟩ : Sgd)]).flatMap eS)) := by show World.ownsRow _ _ _ _ _ _ _; rw [flat_snoc]; exact hown
          have X9 : Hid (Below N wB w9) := XX.out.grown hg (by have := XX.out.size; have := WN.out; omega) (fun q hq => own_baseQ OW.out q hq)
          clear hown hg
          refine hKq.out _ _ (by exact fun q hq => X9.out.block q hq) (fun _ => ?_)
          clear hKq Kq
          (try simp only [Act.put, List.getElem_toArray, List.getElem_cons_succ, List.getElem_cons_zero, List.setIfInBounds_toArray, List.set_cons_zero, List.set_cons_succ])
          refine wpAnyH_take (i := 12) (v := ?_) rfl (by kernel_rfl) (by kernel_rfl) (by kernel_rfl) (fun _ _ _ h => h) (Or.inl ⟨by rfl, ?_⟩) (by assumption) ?_
          rotate_left
          · (intro w hSw; (try dsimp only at hSw); go_simp; try with_reducible rfl)
          simp only [Act.put, List.getElem_toArray, List.getElem_cons_succ, List.getElem_cons_zero, List.setIfInBounds_toArray, List.set_cons_zero, List.set_cons_succ]
          refine wpAnyH_done (by kernel_rfl) ?_ _
          go_wp2_with fail
          go_meet
          exact ⟨A9, c9, rfl, O9.out, X9.out⟩
    · refine step_b45 rfl (.tmp 42) (.tmp 46) rfl (k : Int) i0 L0 LL0.out rfl rfl ?_
      refine hKq.out _ _ (by exact fun q hq => XX.out.block q hq) (fun _ => ?_)
      clear hKq Kq
      (try simp only [Act.put, List.getElem_toArray, List.getElem_cons_succ, List.getElem_cons_zero, List.setIfInBounds_toArray, List.set_cons_zero, List.set_cons_succ])
      refine wpAnyH_ready (rs := [2, 10]) (by kernel_rfl) (by simp) ?_
      refine AllReadyH.cons rfl (fun Kq hKq => ?_) (AllReadyH.cons rfl (fun Kq hKq => ?_) AllReadyH.nil)
      · go_simp
        obtain ⟨G, hG⟩ : ∃ G, wc.heap.size = G := ⟨_, rfl⟩
        (try rw [hG])
        have HG0 : Hid ((wc.alloc (Obj.cells #[.int .i64 (a : Int)] 3)).heap[G]? = some (.cells #[.int .i64 (a : Int)] 3 (0, 0))) := by show _ = _; rw [← hG]; exact heap_alloc_last wc _
        have BA1 : Below wc.heap.size wc (wc.alloc (Obj.cells #[.int .i64 (a : Int)] 3)) := (Below.refl _ _).alloc (Nat.le_refl _) _
        have XN : Hid (Below N wB (wc.alloc (Obj.cells #[.int .i64 (a : Int)] 3))) := XX.out.alloc (by have := XX.out.size; have := WN.out; omega) _
        have HG := HG0
        clear XX hG BA1 HG0
        have XX := XN
        clear XN
        generalize wc.alloc (Obj.cells #[.int .i64 (a : Int)] 3) = wx1 at *
        refine hKq.out _ _ (by exact fun q hq => XX.out.block q hq) (fun _ => ?_)
        clear hKq Kq
        (try simp only [Act.put, List.getElem_toArray, List.getElem_cons_succ, List.getElem_cons_zero, List.setIfInBounds_toArray, List.set_cons_zero, List.set_cons_succ])
        refine wpAnyH_ready (rs := [3, 10]) (by kernel_rfl) (by simp) ?_
        refine AllReadyH.cons rfl (fun Kq hKq => ?_) (AllReadyH.cons rfl (fun Kq hKq => ?_) AllReadyH.nil)
        · go_simp
          go_at_call 11
          refine (C11b.out _ _ XX.out HG.out).mono ?_
          rintro e wx2 ⟨B1, c1, rfl, ho, hba⟩
          have OW : Hid (wx2.ownsRow N 45 282 (.slice B1 1 c1) 1 ((sgnL mm [(a : Int)] [] 1).flatMap eS)) := own_monoQ ho (by have := XX.out.size; have := WN.out; omega)
          have XN : Hid (Below N wB wx2) := XX.out.trans (hba.mono (by have := XX.out.size; have := WN.out; omega))
          clear XX hba ho HG
          have XX := XN
          clear XN
          (try go_wp2_with fail)
          refine hKq.out _ _ (by exact fun q hq => XX.out.block q hq) (fun _ => ?_)
          clear hKq Kq
          (try simp only [Act.put, List.getElem_toArray, List.getElem_cons_succ, List.getElem_cons_zero, List.setIfInBounds_toArray, List.set_cons_zero, List.set_cons_succ])
          refine wpAnyH_ready (rs := [10]) (by kernel_rfl) (by simp) ?_
          refine AllReadyH.cons rfl (fun Kq hKq => ?_) AllReadyH.nil
          obtain ⟨H, hH⟩ : ∃ H, wx2.heap.size = H := ⟨_, rfl⟩
          refine step_bs45 rfl (.tmp 47) rfl ⟨(k : Int), i0, L0⟩ LL0.out rfl ?_
          rw [hH]
          have P80 : Hid (XB (wx2.alloc (Obj.cells (eS ⟨(k : Int), i0, L0⟩).toArray 45)) H ⟨(k : Int), i0, L0⟩) := xb_new hH ⟨(k : Int), i0, L0⟩
          have BB2 : Below wx2.heap.size wx2 (wx2.alloc (Obj.cells (eS ⟨(k : Int), i0, L0⟩).toArray 45)) := (Below.refl _ _).alloc (Nat.le_refl _) _
          have OW_i : Hid ((wx2.alloc (Obj.cells (eS ⟨(k : Int), i0, L0⟩).toArray 45)).ownsRow N 45 282 (.slice B1 1 c1) 1 ((sgnL mm [(a : Int)] [] 1).flatMap eS)) := own_keepQ OW.out BB2
          clear OW
          have OW := OW_i
          clear OW_i
          have XN : Hid (Below N wB (wx2.alloc (Obj.cells (eS ⟨(k : Int), i0, L0⟩).toArray 45))) := XX.out.alloc (by have := XX.out.size; have := WN.out; omega) _
          have P8 := P80
          clear XX BB2 P80 hH
          have XX := XN
          clear XN
          generalize (wx2.alloc (Obj.cells (eS ⟨(k : Int), i0, L0⟩).toArray 45)) = wx3 at *
          refine hKq.out _ _ (by exact fun q hq => XX.out.block q hq) (fun _ => ?_)
          clear hKq Kq
          (try simp only [Act.put, List.getElem_toArray, List.getElem_cons_succ, List.getElem_cons_zero, List.setIfInBounds_toArray, List.set_cons_zero, List.set_cons_succ])
          refine wpAnyH_ready (rs := [11]) (by kernel_rfl) (by simp) ?_
          refine AllReadyH.cons rfl (fun Kq hKq => ?_) AllReadyH.nil
          refine step_appS rfl (.tmp 41) (.tmp 48) rfl N 1 1 (.slice B1 1 c1) _ rfl OW.out H 0 1 (eS ⟨(k : Int), i0, L0⟩) rfl (xb_all P8.out) (by rw [eS_len LL0.out]) (eS_one _) (by decide) (by have := XX.out.size; have := WN.out; omega) ?_
          intro A9 c9 w9 hown hg
          have O9 : Hid (w9.ownsRow N 45 282 (.slice A9 2 c9) 2 ((sgnL mm [(a : Int)] [] 1 ++ [(⟨(k : Int), i0, L0⟩ : Sgd)]).flatMap eS)) := by show World.ownsRow _ _ _ _ _ _ _; rw [flat_snoc]; exact hown
          have X9 : Hid (Below N wB w9) := XX.out.grown hg (by have := XX.out.size; have := WN.out; omega) (fun q hq => own_baseQ OW.out q hq)
          clear hown hg
          refine hKq.out _ _ (by exact fun q hq => X9.out.block q hq) (fun _ => ?_)
          clear hKq Kq
          (try simp only [Act.put, List.getElem_toArray, List.getElem_cons_succ, List.getElem_cons_zero, List.setIfInBounds_toArray, List.set_cons_zero, List.set_cons_succ])
          refine wpAnyH_take (i := 12) (v := ?_) rfl (by kernel_rfl) (by kernel_rfl) (by kernel_rfl) (fun _ _ _ h => h) (Or.inl ⟨by rfl, ?_⟩) (by assumption) ?_
          rotate_left
          · (intro w hSw; (try dsimp only at hSw); go_simp; try with_reducible rfl)
          simp only [Act.put, List.getElem_toArray, List.getElem_cons_succ, List.getElem_cons_zero, List.setIfInBounds_toArray, List.set_cons_zero, List.set_cons_succ]
          refine wpAnyH_done (by kernel_rfl) ?_ _
          go_wp2_with fail
          go_meet
          exact ⟨A9, c9, rfl, O9.out, X9.out⟩
        · obtain ⟨H, hH⟩ : ∃ H, wx1.heap.size = H := ⟨_, rfl⟩
          refine step_bs45 rfl (.tmp 47) rfl ⟨(k : Int), i0, L0⟩ LL0.out rfl ?_
          rw [hH]
          have P80 : Hid (XB (wx1.alloc (Obj.cells (eS ⟨(k : Int), i0, L0⟩).toArray 45)) H ⟨(k : Int), i0, L0⟩) := xb_new hH ⟨(k : Int), i0, L0⟩
          have BB2 : Below wx1.heap.size wx1 (wx1.alloc (Obj.cells (eS ⟨(k : Int), i0, L0⟩).toArray 45)) := (Below.refl _ _).alloc (Nat.le_refl _) _
          have HG_i : Hid ((wx1.alloc (Obj.cells (eS ⟨(k : Int), i0, L0⟩).toArray 45)).heap[G]? = some (.cells #[.int .i64 a] 3 (0, 0))) := (BB2.block _ (lt_of_block HG.out)).trans HG.out
          clear HG
          have HG := HG_i
          clear HG_i
          have XN : Hid (Below N wB (wx1.alloc (Obj.cells (eS ⟨(k : Int), i0, L0⟩).toArray 45))) := XX.out.alloc (by have := XX.out.size; have := WN.out; omega) _
          have P8 := P80
          clear XX BB2 P80 hH
          have XX := XN
          clear XN
          generalize (wx1.alloc (Obj.cells (eS ⟨(k : Int), i0, L0⟩).toArray 45)) = wx2 at *
          refine hKq.out _ _ (by exact fun q hq => XX.out.block q hq) (fun _ => ?_)
          clear hKq Kq
          (try simp only [Act.put, List.getElem_toArray, List.getElem_cons_succ, List.getElem_cons_zero, List.setIfInBounds_toArray, List.set_cons_zero, List.set_cons_succ])
          refine wpAnyH_ready (rs := [3]) (by kernel_rfl) (by simp) ?_
          refine AllReadyH.cons rfl (fun Kq hKq => ?_) AllReadyH.nil
          go_simp
          go_at_call 11
          refine (C11b.out _ _ XX.out HG.out).mono ?_
          rintro e wx3 ⟨B1, c1, rfl, ho, hba⟩
          have OW : Hid (wx3.ownsRow N 45 282 (.slice B1 1 c1) 1 ((sgnL mm [(a : Int)] [] 1).flatMap eS)) := own_monoQ ho (by have := XX.out.size; have := WN.out; omega)
          have P8_i : Hid (XB wx3 H ⟨(k : Int), i0, L0⟩) := (hba.block _ (lt_of_block P8.out)).trans P8.out
          clear P8
          have P8 := P8_i
          clear P8_i
          have XN : Hid (Below N wB wx3) := XX.out.trans (hba.mono (by have := XX.out.size; have := WN.out; omega))
          clear XX hba ho HG
          have XX := XN
          clear XN
          (try go_wp2_with fail)
          refine hKq.out _ _ (by exact fun q hq => XX.out.block q hq) (fun _ => ?_)
          clear hKq Kq
          (try simp only [Act.put, List.getElem_toArray, List.getElem_cons_succ, List.getElem_cons_zero, List.setIfInBounds_toArray, List.set_cons_zero, List.set_cons_succ])
          refine wpAnyH_ready (rs := [11]) (by kernel_rfl) (by simp) ?_
          refine AllReadyH.cons rfl (fun Kq hKq => ?_) AllReadyH.nil
          refine step_appS rfl (.tmp 41) (.tmp 48) rfl N 1 1 (.slice B1 1 c1) _ rfl OW.out H 0 1 (eS ⟨(k : Int), i0, L0⟩) rfl (xb_all P8.out) (by rw [eS_len LL0.out]) (eS_one _) (by decide) (by have := XX.out.size; have := WN.out; omega) ?_
          intro A9 c9 w9 hown hg
          have O9 : Hid (w9.ownsRow N 45 282 (.slice A9 2 c9) 2 ((sgnL mm [(a : Int)] [] 1 ++ [(⟨(k : Int), i0, L0⟩ : Sgd)]).flatMap eS)) := by show World.ownsRow _ _ _ _ _ _ _; rw [flat_snoc]; exact hown
          have X9 : Hid (Below N wB w9) := XX.out.grown hg (by have := XX.out.size; have := WN.out; omega) (fun q hq => own_baseQ OW.out q hq)
          clear hown hg
          refine hKq.out _ _ (by exact fun q hq => X9.out.block q hq) (fun _ => ?_)
          clear hKq Kq
          (try simp only [Act.put, List.getElem_toArray, List.getElem_cons_succ, List.getElem_cons_zero, List.setIfInBounds_toArray, List.set_cons_zero, List.set_cons_succ])
          refine wpAnyH_take (i := 12) (v := ?_) rfl (by kernel_rfl) (by kernel_rfl) (by kernel_rfl) (fun _ _ _ h => h) (Or.inl ⟨by rfl, ?_⟩) (by assumption) ?_
          rotate_left
          · (intro w hSw; (try dsimp only at hSw); go_simp; try with_reducible rfl)
          simp only [Act.put, List.getElem_toArray, List.getElem_cons_succ, List.getElem_cons_zero, List.setIfInBounds_toArray, List.set_cons_zero, List.set_cons_succ]
          refine wpAnyH_done (by kernel_rfl) ?_ _
          go_wp2_with fail
          go_meet
          exact ⟨A9, c9, rfl, O9.out, X9.out⟩
      · obtain ⟨H, hH⟩ : ∃ H, wc.heap.size = H := ⟨_, rfl⟩
        refine step_bs45 rfl (.tmp 47) rfl ⟨(k : Int), i0, L0⟩ LL0.out rfl ?_
        rw [hH]
        have P80 : Hid (XB (wc.alloc (Obj.cells (eS ⟨(k : Int), i0, L0⟩).toArray 45)) H ⟨(k : Int), i0, L0⟩) := xb_new hH ⟨(k : Int), i0, L0⟩
        have BB2 : Below wc.heap.size wc (wc.alloc (Obj.cells (eS ⟨(k : Int), i0, L0⟩).toArray 45)) := (Below.refl _ _).alloc (Nat.le_refl _) _
        have XN : Hid (Below N wB (wc.alloc (Obj.cells (eS ⟨(k : Int), i0, L0⟩).toArray 45))) := XX.out.alloc (by have := XX.out.size; have := WN.out; omega) _
        have P8 := P80
        clear XX BB2 P80 hH
        have XX := XN
        clear XN
        generalize (wc.alloc (Obj.cells (eS ⟨(k : Int), i0, L0⟩).toArray 45)) = wx1 at *
        refine hKq.out _ _ (by exact fun q hq => XX.out.block q hq) (fun _ => ?_)
        clear hKq Kq
        (try simp only [Act.put, List.getElem_toArray, List.getElem_cons_succ, List.getElem_cons_zero, List.setIfInBounds_toArray, List.set_cons_zero, List.set_cons_succ])
        refine wpAnyH_ready (rs := [2]) (by kernel_rfl) (by simp) ?_
        refine AllReadyH.cons rfl (fun Kq hKq => ?_) AllReadyH.nil
        go_simp
        obtain ⟨G, hG⟩ : ∃ G, wx1.heap.size = G := ⟨_, rfl⟩
        (try rw [hG])
        have HG0 : Hid ((wx1.alloc (Obj.cells #[.int .i64 (a : Int)] 3)).heap[G]? = some (.cells #[.int .i64 (a : Int)] 3 (0, 0))) := by show _ = _; rw [← hG]; exact heap_alloc_last wx1 _
        have BA1 : Below wx1.heap.size wx1 (wx1.alloc (Obj.cells #[.int .i64 (a : Int)] 3)) := (Below.refl _ _).alloc (Nat.le_refl _) _
        have P8_i : Hid (XB (wx1.alloc (Obj.cells #[.int .i64 (a : Int)] 3)) H ⟨(k : Int), i0, L0⟩) := (BA1.block _ (lt_of_block P8.out)).trans P8.out
        clear P8
        have P8 := P8_i
        clear P8_i
        have XN : Hid (Below N wB (wx1.alloc (Obj.cells #[.int .i64 (a : Int)] 3))) := XX.out.alloc (by have := XX.out.size; have := WN.out; omega) _
        have HG := HG0
        clear XX hG BA1 HG0
        have XX := XN
        clear XN
        generalize wx1.alloc (Obj.cells #[.int .i64 (a : Int)] 3) = wx2 at *
        refine hKq.out _ _ (by exact fun q hq => XX.out.block q hq) (fun _ => ?_)
        clear hKq Kq
        (try simp only [Act.put, List.getElem_toArray, List.getElem_cons_succ, List.getElem_cons_zero, List.setIfInBounds_toArray, List.set_cons_zero, List.set_cons_succ])
        refine wpAnyH_ready (rs := [3]) (by kernel_rfl) (by simp) ?_
        refine AllReadyH.cons rfl (fun Kq hKq => ?_) AllReadyH.nil
        go_simp
        go_at_call 11
        refine (C11b.out _ _ XX.out HG.out).mono ?_
        rintro e wx3 ⟨B1, c1, rfl, ho, hba⟩
        have OW : Hid (wx3.ownsRow N 45 282 (.slice B1 1 c1) 1 ((sgnL mm [(a : Int)] [] 1).flatMap eS)) := own_monoQ ho (by have := XX.out.size; have := WN.out; omega)
        have P8_i : Hid (XB wx3 H ⟨(k : Int), i0, L0⟩) := (hba.block _ (lt_of_block P8.out)).trans P8.out
        clear P8
        have P8 := P8_i
        clear P8_i
        have XN : Hid (Below N wB wx3) := XX.out.trans (hba.mono (by have := XX.out.size; have := WN.out; omega))
        clear XX hba ho HG
        have XX := XN
        clear XN
        (try go_wp2_with fail)
        refine hKq.out _ _ (by exact fun q hq => XX.out.block q hq) (fun _ => ?_)
        clear hKq Kq
        (try simp only [Act.put, List.getElem_toArray, List.getElem_cons_succ, List.getElem_cons_zero, List.setIfInBounds_toArray, List.set_cons_zero, List.set_cons_succ])
        refine wpAnyH_ready (rs := [11]) (by kernel_rfl) (by simp) ?_
        refine AllReadyH.cons rfl (fun Kq hKq => ?_) AllReadyH.nil
        refine step_appS rfl (.tmp 41) (.tmp 48) rfl N 1 1 (.slice B1 1 c1) _ rfl OW.out H 0 1 (eS ⟨(k : Int), i0, L0⟩) rfl (xb_all P8.out) (by rw [eS_len LL0.out]) (eS_one _) (by decide) (by have := XX.out.size; have := WN.out; omega) ?_
        intro A9 c9 w9 hown hg
        have O9 : Hid (w9.ownsRow N 45 282 (.slice A9 2 c9) 2 ((sgnL mm [(a : Int)] [] 1 ++ [(⟨(k : Int), i0, L0⟩ : Sgd)]).flatMap eS)) := by show World.ownsRow _ _ _ _ _ _ _; rw [flat_snoc]; exact hown
        have X9 : Hid (Below N wB w9) := XX.out.grown hg (by have := XX.out.size; have := WN.out; omega) (fun q hq => own_baseQ OW.out q hq)
        clear hown hg
        refine hKq.out _ _ (by exact fun q hq => X9.out.block q hq) (fun _ => ?_)
        clear hKq Kq
        (try simp only [Act.put, List.getElem_toArray, List.getElem_cons_succ, List.getElem_cons_zero, List.setIfInBounds_toArray, List.set_cons_zero, List.set_cons_succ])
        refine wpAnyH_take (i := 12) (v := ?_) rfl (by kernel_rfl) (by kernel_rfl) (by kernel_rfl) (fun _ _ _ h => h) (Or.inl ⟨by rfl, ?_⟩) (by assumption) ?_
        rotate_left
        · (intro w hSw; (try dsimp only at hSw); go_simp; try with_reducible rfl)
        simp only [Act.put, List.getElem_toArray, List.getElem_cons_succ, List.getElem_cons_zero, List.setIfInBounds_toArray, List.set_cons_zero, List.set_cons_succ]
        refine wpAnyH_done (by kernel_rfl) ?_ _
        go_wp2_with fail
        go_meet
        exact ⟨A9, c9, rfl, O9.out, X9.out⟩
  case rest =>
    rename World => wx
    obtain ⟨A9, c9, rfl, hO, hX⟩ := hcut
    have X9 := Lib.hid hX
    have SY9 := Lib.hid (own_srow hO HY8.out HYL.out)
    have HC9 : Hid (2 ≤ c9 ∧ c9 ≤ maxLen) := SY9.out.2
    obtain ⟨M, hM⟩ : ∃ M, wx.heap.size = M := ⟨_, rfl⟩
    have WM : Hid (wx.heap.size = M) := hM
    have NM : Hid (N ≤ M) := by show _ ≤ _; rw [← hM]; have h1 := X9.out.size; have h2 := WN.out; omega
    have PN : Hid (PB wx PBK 4 2 1 (.slice A k c)) := (X9.out.block _ (by have := LN.out; omega)).trans PQ.out
    have MN : Hid (BA wx (PBK + 1) 32 mm) := (X9.out.block _ LN.out).trans MQ.out
    have XM : Hid (∀ w', Below M wx w' → Below N wB w') := fun w' hb => X9.out.trans (hb.mono NM.out)
    have LNM : Hid (PBK + 1 < M) := by show _ < _; have h1 := LN.out; have h2 := NM.out; omega
    have KF : Hid (∀ w', Below M wx w' → Below S w w') := fun w' hb => BNF.out w' (XM.out w' hb)
    have SX : Hid (∀ w', Below M wx w' → SRow w' (some ⟨gl, 0, none⟩) xs) := fun w' hb => SX5.out w' (XM.out w' hb)
    have SY : Hid (∀ w', Below M wx w' → SRow w' A9 (sgnL mm [(a : Int)] [] 1 ++ [(⟨(k : Int), i0, L0⟩ : Sgd)])) := fun w' hb => SY9.out.1.keep fun q hq => hb.block q (by rw [← WM.out]; exact hq)
    have LRX : Hid (∀ w' : World, (∀ q, q < M → w'.heap[q]? = wx.heap[q]?) → w'.rangeAt gl 0 (xs.flatMap eS)) := fun w' h => LRX5.out w' fun q hq => (h q (by have := NM.out; omega)).trans (X9.out.block q hq)
    have C12 : Hid (∀ (B : Option Addr) (k2 c5 : Nat) (xs : List Sgd) (v : Bool) (w' : World), Below M wx w' → SRow w' B xs → xs.length = k2 → k2 ≤ c5 → c5 ≤ maxLen → k2 ≤ 65536 → enough (FK k) k 4 2 1 mm xs = v → Calls Tryd.prog 12 #[.agg #[.int .i64 4, .int .i64 2, .int .i64 1, .slice A k c], .agg (bvals mm).toArray, .slice B k2 c5] w' fun e w'' => e = .returned (.bool v) ∧ Below w'.heap.size w' w'') := fun B k2 c5 xs v w' hb => C12y.out B k2 c5 xs v w' (XM.out _ hb)
    have C14 : Hid (∀ (B : Option Addr) (k2 c5 : Nat) (xs : List Sgd) (t : Int) (w' : World), Below M wx w' → SRow w' B xs → xs.length = k2 → k2 ≤ c5 → c5 ≤ maxLen → k2 ≤ 65536 → ((cnt (FK k) k mm xs : Nat) : Int) = t → Calls Tryd.prog 14 #[.agg #[.int .i64 4, .int .i64 2, .int .i64 1, .slice A k c], .agg (bvals mm).toArray, .slice B k2 c5] w' fun e w'' => e = .returned (.int .i64 t) ∧ Below w'.heap.size w' w'') := fun B k2 c5 xs t w' hb => C14y.out B k2 c5 xs t w' (XM.out _ hb)
    obtain ⟨v, hv⟩ : ∃ v, decide ((a : Int) < (b : Int)) = v := ⟨_, rfl⟩
    have hv2 : decide (a < b) = v := by rw [← hv]; exact decide_eq_decide.2 (by omega)
    have HV1' : Hid (enough (FK k) k 4 2 1 mm xs = v) := by show _ = _; rw [HV1.out, hv]
    clear hO hX hM HV1 SX5 LRX5 C12y C14y C11b SY9 BNF PQ MQ WN LN SL SR5 XM X9 NM
    have HV1 := HV1'
    have PQ := PN
    have MQ := MN
    have WN := WM
    have LN := LNM
    clear HV1' PN MN WM LNM
    generalize wx = wB at *
    by_cases hab : a = b
    · have HT1 : Hid (((cnt (FK k) k mm xs : Nat) : Int) = 1) := by show _ = _; rw [HT0.out, if_pos hab]; rfl
      have e1 : ((a : Int) == (b : Int)) = true := by rw [hab]; exact beq_self_eq_true _
      have e2 : (a == b) = true := by rw [hab]; exact beq_self_eq_true _
      have HAB := Lib.hid hab
      clear hab HT0
      go_wp2_with fail
      have XX : Hid (Below M wB wB.drew) := (Below.refl _ _).drew
      refine wp_region_held_drew (S := (fun w' : World => ∀ q, q < M → w'.heap[q]? = wB.heap[q]?)) (by kernel_rfl) (by exact fun _ _ => rfl) (fun hHeld => ?_)
      refine wpAnyH_take (i := 0) rfl (by kernel_rfl) (by kernel_rfl) (by kernel_rfl) (fun _ _ _ h => h) (yieldsIf_load_mid (by rfl) 24 (.tmp 8) rfl (PBK) (0) rfl [.int .i64 4, .int .i64 2, .int .i64 1, .slice A k c] _ (fun w h => pb_range ((h _ (by have := LN.out; omega)).trans PQ.out)) Tryd.underlying24 rfl (pb_info 4 2 1 _)) (by assumption) ?_
      simp only [Act.put, List.getElem_toArray, List.getElem_cons_zero, List.setIfInBounds_toArray, List.set_cons_zero, List.set_cons_succ]
      refine wpAnyH_take (i := 1) rfl (by kernel_rfl) (by kernel_rfl) (by kernel_rfl) (fun _ _ _ h => h) (yieldsIf_load_mid (by rfl) 32 (.tmp 9) rfl (PBK + 1) (0) rfl (bvals mm) _ (fun w h => ba_range (t := 32) ((h _ (by have := LN.out; omega)).trans MQ.out)) Tryd.underlying32 rfl him) (by assumption) ?_
      simp only [Act.put, List.getElem_toArray, List.getElem_cons_succ, List.getElem_cons_zero, List.setIfInBounds_toArray, List.set_cons_zero, List.set_cons_succ]
      refine wpAnyH_take (i := 2) (v := ?_) rfl (by kernel_rfl) (by kernel_rfl) (by kernel_rfl) (fun _ _ _ h => h) (Or.inl ⟨by rfl, ?_⟩) (by assumption) ?_
      rotate_left
      · (intro w hSw; (try dsimp only at hSw); go_simp; try with_reducible rfl)
      simp only [Act.put, List.getElem_toArray, List.getElem_cons_succ, List.getElem_cons_zero, List.setIfInBounds_toArray, List.set_cons_zero, List.set_cons_succ]
      refine wpAnyH_take (i := 4) (v := ?_) rfl (by kernel_rfl) (by kernel_rfl) (by kernel_rfl) (fun _ _ _ h => h) (Or.inl ⟨by rfl, ?_⟩) (by assumption) ?_
      rotate_left
      · (intro w hSw; (try dsimp only at hSw); go_simp; try with_reducible rfl)
      simp only [Act.put, List.getElem_toArray, List.getElem_cons_succ, List.getElem_cons_zero, List.setIfInBounds_toArray, List.set_cons_zero, List.set_cons_succ]
      refine wpAnyH_take (i := 5) (v := ?_) rfl (by kernel_rfl) (by kernel_rfl) (by kernel_rfl) (fun _ _ _ h => h) (Or.inl ⟨by rfl, ?_⟩) (by assumption) ?_
      rotate_left
      · (intro w hSw; (try dsimp only at hSw); go_simp; try with_reducible rfl)
      simp only [Act.put, List.getElem_toArray, List.getElem_cons_succ, List.getElem_cons_zero, List.setIfInBounds_toArray, List.set_cons_zero, List.set_cons_succ]
      refine wpAnyH_take (i := 6) (v := ?_) rfl (by kernel_rfl) (by kernel_rfl) (by kernel_rfl) (fun _ _ _ h => h) (Or.inl ⟨by rfl, ?_⟩) (by assumption) ?_
      rotate_left
      · (intro w hSw; (try dsimp only at hSw); go_simp; try with_reducible rfl)
      simp only [Act.put, List.getElem_toArray, List.getElem_cons_succ, List.getElem_cons_zero, List.setIfInBounds_toArray, List.set_cons_zero, List.set_cons_succ]
      refine wpAnyH_ready (rs := [3]) (by kernel_rfl) (by simp) ?_
      refine AllReadyH.cons rfl (fun K hK => ?_) AllReadyH.nil
      go_simp
      go_at_call 12
      refine (C12.out _ _ _ _ _ _ XX.out (SX.out _ XX.out) HXL.out HC5.out.1 HC5.out.2 (by decide) HV1.out).mono ?_
      rintro e wc1 ⟨rfl, hba⟩
      have XN : Hid (Below M wB wc1) := XX.out.trans (hba.mono (by have := XX.out.size; have := WN.out; omega))
      clear XX hba hHeld
      have XX := XN
      clear XN
      (try go_wp2_with fail)
      refine hK.out _ _ (by exact fun q hq => XX.out.block q hq) (fun hHeld => ?_)
      clear hK K
      refine wpAnyH_take (i := 7) (v := ?_) rfl (by kernel_rfl) (by kernel_rfl) (by kernel_rfl) (fun _ _ _ h => h) (Or.inl ⟨by rfl, ?_⟩) (by assumption) ?_
      rotate_left
      · (intro w hSw; (try dsimp only at hSw); go_simp; try with_reducible rfl)
      simp only [Act.put, List.getElem_toArray, List.getElem_cons_succ, List.getElem_cons_zero, List.setIfInBounds_toArray, List.set_cons_zero, List.set_cons_succ]
      refine wpAnyH_take (i := 8) (v := ?_) rfl (by kernel_rfl) (by kernel_rfl) (by kernel_rfl) (fun _ _ _ h => h) (Or.inl ⟨by rfl, ?_⟩) (by assumption) ?_
      rotate_left
      · (intro w hSw; (try dsimp only at hSw); go_simp; try with_reducible rfl)
      simp only [Act.put, List.getElem_toArray, List.getElem_cons_succ, List.getElem_cons_zero, List.setIfInBounds_toArray, List.set_cons_zero, List.set_cons_succ]
      refine wpAnyH_take (i := 9) rfl (by kernel_rfl) (by kernel_rfl) (by kernel_rfl) (fun _ _ _ h => h) (yieldsIf_load_mid (by rfl) 24 (.tmp 8) rfl (PBK) (0) rfl [.int .i64 4, .int .i64 2, .int .i64 1, .slice A k c] _ (fun w h => pb_range ((h _ (by have := LN.out; omega)).trans PQ.out)) Tryd.underlying24 rfl (pb_info 4 2 1 _)) (by assumption) ?_
      simp only [Act.put, List.getElem_toArray, List.getElem_cons_succ, List.getElem_cons_zero, List.setIfInBounds_toArray, List.set_cons_zero, List.set_cons_succ]
      refine wpAnyH_take (i := 10) rfl (by kernel_rfl) (by kernel_rfl) (by kernel_rfl) (fun _ _ _ h => h) (yieldsIf_load_mid (by rfl) 32 (.tmp 9) rfl (PBK + 1) (0) rfl (bvals mm) _ (fun w h => ba_range (t := 32) ((h _ (by have := LN.out; omega)).trans MQ.out)) Tryd.underlying32 rfl him) (by assumption) ?_
      simp only [Act.put, List.getElem_toArray, List.getElem_cons_succ, List.getElem_cons_zero, List.setIfInBounds_toArray, List.set_cons_zero, List.set_cons_succ]
      refine wpAnyH_take (i := 11) (v := ?_) rfl (by kernel_rfl) (by kernel_rfl) (by kernel_rfl) (fun _ _ _ h => h) (Or.inl ⟨by rfl, ?_⟩) (by assumption) ?_
      rotate_left
      · (intro w hSw; (try dsimp only at hSw); go_simp; try with_reducible rfl)
      simp only [Act.put, List.getElem_toArray, List.getElem_cons_succ, List.getElem_cons_zero, List.setIfInBounds_toArray, List.set_cons_zero, List.set_cons_succ]
      refine wpAnyH_take (i := 13) (v := ?_) rfl (by kernel_rfl) (by kernel_rfl) (by kernel_rfl) (fun _ _ _ h => h) (Or.inl ⟨by rfl, ?_⟩) (by assumption) ?_
      rotate_left
      · (intro w hSw; (try dsimp only at hSw); go_simp; try with_reducible rfl)
      simp only [Act.put, List.getElem_toArray, List.getElem_cons_succ, List.getElem_cons_zero, List.setIfInBounds_toArray, List.set_cons_zero, List.set_cons_succ]
      refine wpAnyH_ready (rs := [12]) (by kernel_rfl) (by simp) ?_
      refine AllReadyH.cons rfl (fun K hK => ?_) AllReadyH.nil
      go_simp
      go_at_call 14
      refine (C14.out _ _ _ _ _ _ XX.out (SX.out _ XX.out) HXL.out HC5.out.1 HC5.out.2 (by decide) HT1.out).mono ?_
      rintro e wc2 ⟨rfl, hba⟩
      have XN : Hid (Below M wB wc2) := XX.out.trans (hba.mono (by have := XX.out.size; have := WN.out; omega))
      clear XX hba hHeld
      have XX := XN
      clear XN
      (try go_wp2_with fail)
      refine hK.out _ _ (by exact fun q hq => XX.out.block q hq) (fun hHeld => ?_)
      clear hK K
      refine wpAnyH_take (i := 14) (v := ?_) rfl (by kernel_rfl) (by kernel_rfl) (by kernel_rfl) (fun _ _ _ h => h) (Or.inl ⟨by rfl, ?_⟩) (by assumption) ?_
      rotate_left
      · (intro w hSw; (try dsimp only at hSw); go_simp; try with_reducible rfl)
      simp only [Act.put, List.getElem_toArray, List.getElem_cons_succ, List.getElem_cons_zero, List.setIfInBounds_toArray, List.set_cons_zero, List.set_cons_succ]
      refine wpAnyH_take (i := 15) (v := ?_) rfl (by kernel_rfl) (by kernel_rfl) (by kernel_rfl) (fun _ _ _ h => h) (Or.inl ⟨by rfl, ?_⟩) (by assumption) ?_
      rotate_left
      · (intro w hSw; (try dsimp only at hSw); go_simp; try with_reducible rfl)
      simp only [Act.put, List.getElem_toArray, List.getElem_cons_succ, List.getElem_cons_zero, List.setIfInBounds_toArray, List.set_cons_zero, List.set_cons_succ]
      refine wpAnyH_take (i := 16) (v := ?_) rfl (by kernel_rfl) (by kernel_rfl) (by kernel_rfl) (fun _ _ _ h => h) (Or.inl ⟨by rfl, ?_⟩) (by assumption) ?_
      rotate_left
      · (intro w hSw; (try dsimp only at hSw); go_simp; try with_reducible rfl)
      simp only [Act.put, List.getElem_toArray, List.getElem_cons_succ, List.getElem_cons_zero, List.setIfInBounds_toArray, List.set_cons_zero, List.set_cons_succ]
      refine wpAnyH_take (i := 17) rfl (by kernel_rfl) (by kernel_rfl) (by kernel_rfl) (fun _ _ _ h => h) (yieldsIf_load_mid (by rfl) 24 (.tmp 8) rfl (PBK) (0) rfl [.int .i64 4, .int .i64 2, .int .i64 1, .slice A k c] _ (fun w h => pb_range ((h _ (by have := LN.out; omega)).trans PQ.out)) Tryd.underlying24 rfl (pb_info 4 2 1 _)) (by assumption) ?_
      simp only [Act.put, List.getElem_toArray, List.getElem_cons_succ, List.getElem_cons_zero, List.setIfInBounds_toArray, List.set_cons_zero, List.set_cons_succ]
      refine wpAnyH_take (i := 18) rfl (by kernel_rfl) (by kernel_rfl) (by kernel_rfl) (fun _ _ _ h => h) (yieldsIf_load_mid (by rfl) 32 (.tmp 9) rfl (PBK + 1) (0) rfl (bvals mm) _ (fun w h => ba_range (t := 32) ((h _ (by have := LN.out; omega)).trans MQ.out)) Tryd.underlying32 rfl him) (by assumption) ?_
      simp only [Act.put, List.getElem_toArray, List.getElem_cons_succ, List.getElem_cons_zero, List.setIfInBounds_toArray, List.set_cons_zero, List.set_cons_succ]
      refine wpAnyH_take (i := 19) (v := ?_) rfl (by kernel_rfl) (by kernel_rfl) (by kernel_rfl) (fun _ _ _ h => h) (Or.inl ⟨by rfl, ?_⟩) (by assumption) ?_
      rotate_left
      · (intro w hSw; (try dsimp only at hSw); go_simp; try with_reducible rfl)
      simp only [Act.put, List.getElem_toArray, List.getElem_cons_succ, List.getElem_cons_zero, List.setIfInBounds_toArray, List.set_cons_zero, List.set_cons_succ]
      refine wpAnyH_ready (rs := [20]) (by kernel_rfl) (by simp) ?_
      refine AllReadyH.cons rfl (fun K hK => ?_) AllReadyH.nil
      go_simp
      go_at_call 12
      refine (C12.out _ _ _ _ _ _ XX.out (SY.out _ XX.out) HYL.out HC9.out.1 HC9.out.2 (by decide) HV2.out).mono ?_
      rintro e wc3 ⟨rfl, hba⟩
      have XN : Hid (Below M wB wc3) := XX.out.trans (hba.mono (by have := XX.out.size; have := WN.out; omega))
      clear XX hba hHeld
      have XX := XN
      clear XN
      (try go_wp2_with fail)
      refine hK.out _ _ (by exact fun q hq => XX.out.block q hq) (fun hHeld => ?_)
      clear hK K
      refine wpAnyH_take (i := 21) (v := ?_) rfl (by kernel_rfl) (by kernel_rfl) (by kernel_rfl) (fun _ _ _ h => h) (Or.inl ⟨by rfl, ?_⟩) (by assumption) ?_
      rotate_left
      · (intro w hSw; (try dsimp only at hSw); go_simp; try with_reducible rfl)
      simp only [Act.put, List.getElem_toArray, List.getElem_cons_succ, List.getElem_cons_zero, List.setIfInBounds_toArray, List.set_cons_zero, List.set_cons_succ]
      refine wpAnyH_take (i := 22) (v := ?_) rfl (by kernel_rfl) (by kernel_rfl) (by kernel_rfl) (fun _ _ _ h => h) (Or.inl ⟨by rfl, ?_⟩) (by assumption) ?_
      rotate_left
      · (intro w hSw; (try dsimp only at hSw); go_simp; try with_reducible rfl)
      simp only [Act.put, List.getElem_toArray, List.getElem_cons_succ, List.getElem_cons_zero, List.setIfInBounds_toArray, List.set_cons_zero, List.set_cons_succ]
      refine wpAnyH_take (i := 23) (v := ?_) rfl (by kernel_rfl) (by kernel_rfl) (by kernel_rfl) (fun _ _ _ h => h) (Or.inl ⟨by rfl, ?_⟩) (by assumption) ?_
      rotate_left
      · (intro w hSw; (try dsimp only at hSw); go_simp; try with_reducible rfl)
      simp only [Act.put, List.getElem_toArray, List.getElem_cons_succ, List.getElem_cons_zero, List.setIfInBounds_toArray, List.set_cons_zero, List.set_cons_succ]
      refine wpAnyH_take (i := 24) rfl (by kernel_rfl) (by kernel_rfl) (by kernel_rfl) (fun _ _ _ h => h) (yieldsIf_load_mid (by rfl) 24 (.tmp 8) rfl (PBK) (0) rfl [.int .i64 4, .int .i64 2, .int .i64 1, .slice A k c] _ (fun w h => pb_range ((h _ (by have := LN.out; omega)).trans PQ.out)) Tryd.underlying24 rfl (pb_info 4 2 1 _)) (by assumption) ?_
      simp only [Act.put, List.getElem_toArray, List.getElem_cons_succ, List.getElem_cons_zero, List.setIfInBounds_toArray, List.set_cons_zero, List.set_cons_succ]
      refine wpAnyH_take (i := 25) rfl (by kernel_rfl) (by kernel_rfl) (by kernel_rfl) (fun _ _ _ h => h) (yieldsIf_load_mid (by rfl) 32 (.tmp 9) rfl (PBK + 1) (0) rfl (bvals mm) _ (fun w h => ba_range (t := 32) ((h _ (by have := LN.out; omega)).trans MQ.out)) Tryd.underlying32 rfl him) (by assumption) ?_
      simp only [Act.put, List.getElem_toArray, List.getElem_cons_succ, List.getElem_cons_zero, List.setIfInBounds_toArray, List.set_cons_zero, List.set_cons_succ]
      refine wpAnyH_take (i := 26) (v := ?_) rfl (by kernel_rfl) (by kernel_rfl) (by kernel_rfl) (fun _ _ _ h => h) (Or.inl ⟨by rfl, ?_⟩) (by assumption) ?_
      rotate_left
      · (intro w hSw; (try dsimp only at hSw); go_simp; try with_reducible rfl)
      simp only [Act.put, List.getElem_toArray, List.getElem_cons_succ, List.getElem_cons_zero, List.setIfInBounds_toArray, List.set_cons_zero, List.set_cons_succ]
      refine wpAnyH_ready (rs := [27]) (by kernel_rfl) (by simp) ?_
      refine AllReadyH.cons rfl (fun K hK => ?_) AllReadyH.nil
      go_simp
      go_at_call 14
      refine (C14.out _ _ _ _ _ _ XX.out (SY.out _ XX.out) HYL.out HC9.out.1 HC9.out.2 (by decide) HT2.out).mono ?_
      rintro e wc4 ⟨rfl, hba⟩
      have XN : Hid (Below M wB wc4) := XX.out.trans (hba.mono (by have := XX.out.size; have := WN.out; omega))
      clear XX hba hHeld
      have XX := XN
      clear XN
      (try go_wp2_with fail)
      refine hK.out _ _ (by exact fun q hq => XX.out.block q hq) (fun hHeld => ?_)
      clear hK K
      refine wpAnyH_take (i := 28) (v := ?_) rfl (by kernel_rfl) (by kernel_rfl) (by kernel_rfl) (fun _ _ _ h => h) (Or.inl ⟨by rfl, ?_⟩) (by assumption) ?_
      rotate_left
      · (intro w hSw; (try dsimp only at hSw); go_simp; try with_reducible rfl)
      simp only [Act.put, List.getElem_toArray, List.getElem_cons_succ, List.getElem_cons_zero, List.setIfInBounds_toArray, List.set_cons_zero, List.set_cons_succ]
      refine wpAnyH_take (i := 29) (v := ?_) rfl (by kernel_rfl) (by kernel_rfl) (by kernel_rfl) (fun _ _ _ h => h) (Or.inl ⟨by rfl, ?_⟩) (by assumption) ?_
      rotate_left
      · (intro w hSw; (try dsimp only at hSw); go_simp; try with_reducible rfl)
      simp only [Act.put, List.getElem_toArray, List.getElem_cons_succ, List.getElem_cons_zero, List.setIfInBounds_toArray, List.set_cons_zero, List.set_cons_succ]
      refine wpAnyH_take (i := 30) (v := ?_) rfl (by kernel_rfl) (by kernel_rfl) (by kernel_rfl) (fun _ _ _ h => h) (Or.inl ⟨by rfl, ?_⟩) (by assumption) ?_
      rotate_left
      · (intro w hSw; (try dsimp only at hSw); go_simp; try with_reducible rfl)
      simp only [Act.put, List.getElem_toArray, List.getElem_cons_succ, List.getElem_cons_zero, List.setIfInBounds_toArray, List.set_cons_zero, List.set_cons_succ]
      refine wpAnyH_take (i := 31) rfl (by kernel_rfl) (by kernel_rfl) (by kernel_rfl) (fun _ _ _ h => h) (yieldsIf_load_mid (by rfl) 24 (.tmp 8) rfl (PBK) (0) rfl [.int .i64 4, .int .i64 2, .int .i64 1, .slice A k c] _ (fun w h => pb_range ((h _ (by have := LN.out; omega)).trans PQ.out)) Tryd.underlying24 rfl (pb_info 4 2 1 _)) (by assumption) ?_
      simp only [Act.put, List.getElem_toArray, List.getElem_cons_succ, List.getElem_cons_zero, List.setIfInBounds_toArray, List.set_cons_zero, List.set_cons_succ]
      refine wpAnyH_take (i := 32) rfl (by kernel_rfl) (by kernel_rfl) (by kernel_rfl) (fun _ _ _ h => h) (yieldsIf_load_mid (by rfl) 32 (.tmp 9) rfl (PBK + 1) (0) rfl (bvals mm) _ (fun w h => ba_range (t := 32) ((h _ (by have := LN.out; omega)).trans MQ.out)) Tryd.underlying32 rfl him) (by assumption) ?_
      simp only [Act.put, List.getElem_toArray, List.getElem_cons_succ, List.getElem_cons_zero, List.setIfInBounds_toArray, List.set_cons_zero, List.set_cons_succ]
      refine wpAnyH_ready (rs := [33]) (by kernel_rfl) (by simp) ?_
      refine AllReadyH.cons rfl (fun K hK => ?_) AllReadyH.nil
      go_simp
      go_at_call 12
      refine (C12.out none 0 0 [] false _ XX.out (SRow_nil _) rfl (Nat.le_refl _) (by unfold maxLen; omega) (by decide) (no_nil _ _ _)).mono ?_
      rintro e wc5 ⟨rfl, hba⟩
      have XN : Hid (Below M wB wc5) := XX.out.trans (hba.mono (by have := XX.out.size; have := WN.out; omega))
      clear XX hba hHeld
      have XX := XN
      clear XN
      (try go_wp2_with fail)
      refine hK.out _ _ (by exact fun q hq => XX.out.block q hq) (fun hHeld => ?_)
      clear hK K
      refine wpAnyH_take (i := 34) (v := ?_) rfl (by kernel_rfl) (by kernel_rfl) (by kernel_rfl) (fun _ _ _ h => h) (Or.inl ⟨by rfl, ?_⟩) (by assumption) ?_
      rotate_left
      · (intro w hSw; (try dsimp only at hSw); go_simp; try with_reducible rfl)
      simp only [Act.put, List.getElem_toArray, List.getElem_cons_succ, List.getElem_cons_zero, List.setIfInBounds_toArray, List.set_cons_zero, List.set_cons_succ]
      refine wpAnyH_take (i := 35) (v := ?_) rfl (by kernel_rfl) (by kernel_rfl) (by kernel_rfl) (fun _ _ _ h => h) (Or.inl ⟨by rfl, ?_⟩) (by assumption) ?_
      rotate_left
      · (intro w hSw; (try dsimp only at hSw); go_simp; try with_reducible rfl)
      simp only [Act.put, List.getElem_toArray, List.getElem_cons_succ, List.getElem_cons_zero, List.setIfInBounds_toArray, List.set_cons_zero, List.set_cons_succ]
      refine wpAnyH_take (i := 36) (v := ?_) rfl (by kernel_rfl) (by kernel_rfl) (by kernel_rfl) (fun _ _ _ h => h) (Or.inl ⟨by rfl, ?_⟩) (by assumption) ?_
      rotate_left
      · (intro w hSw; (try dsimp only at hSw); go_simp; try with_reducible rfl)
      simp only [Act.put, List.getElem_toArray, List.getElem_cons_succ, List.getElem_cons_zero, List.setIfInBounds_toArray, List.set_cons_zero, List.set_cons_succ]
      refine wpAnyH_take (i := 37) rfl (by kernel_rfl) (by kernel_rfl) (by kernel_rfl) (fun _ _ _ h => h) (yieldsIf_load_mid (by rfl) 24 (.tmp 8) rfl (PBK) (0) rfl [.int .i64 4, .int .i64 2, .int .i64 1, .slice A k c] _ (fun w h => pb_range ((h _ (by have := LN.out; omega)).trans PQ.out)) Tryd.underlying24 rfl (pb_info 4 2 1 _)) (by assumption) ?_
      simp only [Act.put, List.getElem_toArray, List.getElem_cons_succ, List.getElem_cons_zero, List.setIfInBounds_toArray, List.set_cons_zero, List.set_cons_succ]
      refine wpAnyH_take (i := 38) rfl (by kernel_rfl) (by kernel_rfl) (by kernel_rfl) (fun _ _ _ h => h) (yieldsIf_load_mid (by rfl) 32 (.tmp 9) rfl (PBK + 1) (0) rfl (bvals mm) _ (fun w h => ba_range (t := 32) ((h _ (by have := LN.out; omega)).trans MQ.out)) Tryd.underlying32 rfl him) (by assumption) ?_
      simp only [Act.put, List.getElem_toArray, List.getElem_cons_succ, List.getElem_cons_zero, List.setIfInBounds_toArray, List.set_cons_zero, List.set_cons_succ]
      refine wpAnyH_take (i := 40) (v := ?_) rfl (by kernel_rfl) (by kernel_rfl) (by kernel_rfl) (fun _ _ _ h => h) (Or.inl ⟨by rfl, ?_⟩) (by assumption) ?_
      rotate_left
      · (intro w hSw; (try dsimp only at hSw); go_simp; try with_reducible rfl)
      simp only [Act.put, List.getElem_toArray, List.getElem_cons_succ, List.getElem_cons_zero, List.setIfInBounds_toArray, List.set_cons_zero, List.set_cons_succ]
      refine wpAnyH_take (i := 42) (v := ?_) rfl (by kernel_rfl) (by kernel_rfl) (by kernel_rfl) (fun _ _ _ h => h) (Or.inl ⟨by rfl, ?_⟩) (by assumption) ?_
      rotate_left
      · (intro w hSw; (try dsimp only at hSw); go_simp; try with_reducible rfl)
      simp only [Act.put, List.getElem_toArray, List.getElem_cons_succ, List.getElem_cons_zero, List.setIfInBounds_toArray, List.set_cons_zero, List.set_cons_succ]
      (try clear hHeld)
      generalize wc5 = wd at *
      refine wpAnyH_ready (rs := [39]) (by kernel_rfl) (by simp) ?_
      refine AllReadyH.cons rfl (fun Kq hKq => ?_) AllReadyH.nil
      obtain ⟨H, hH⟩ : ∃ H, wd.heap.size = H := ⟨_, rfl⟩
      refine step_bs0 (by rfl) rfl ?_
      rw [hH]
      have HE : Hid ((wd.alloc (Obj.cells #[] 45)).heap[H]? = some (.cells #[] 45 (0, 0))) := by show _ = _; rw [← hH]; exact heap_alloc_last wd _
      have MH : Hid (M ≤ H) := by show _ ≤ _; rw [← hH, ← WN.out]; exact XX.out.size
      have XN : Hid (Below M wB (wd.alloc (Obj.cells #[] 45))) := XX.out.alloc (by rw [hH]; exact MH.out) _
      clear XX hH
      have XX := XN
      clear XN
      generalize wd.alloc (Obj.cells #[] 45) = we at *
      refine hKq.out _ _ (by exact fun q hq => XX.out.block q hq) (fun _ => ?_)
      clear hKq Kq
      (try simp only [Act.put, List.getElem_toArray, List.getElem_cons_succ, List.getElem_cons_zero, List.setIfInBounds_toArray, List.set_cons_zero, List.set_cons_succ])
      refine wpAnyH_ready (rs := [41]) (by kernel_rfl) (by simp) ?_
      refine AllReadyH.cons rfl (fun Kq hKq => ?_) AllReadyH.nil
      have OE : Hid (we.ownsRow M 45 282 (.slice (some ⟨H, 0, none⟩) 0 0) 0 []) := own_empty HE.out MH.out
      refine step_appS' (by rfl) (.tmp 92) (.tmp 93) rfl M 0 2 _ _ rfl OE.out gl 0 c5 (xs.flatMap eS) rfl (LRX.out _ (fun q hq => XX.out.block q hq)) (by rw [flat_eS_len xs HX8.out, HXL.out]) (flat_one xs) (by decide) (by have := XX.out.size; have := WN.out; omega) ?_
      intro A1 d1 w1 hown hg
      have O1 : Hid (w1.ownsRow M 45 282 (.slice A1 2 d1) 2 (xs.flatMap eS)) := by have h := hown; rw [List.nil_append] at h; exact h
      have X1 : Hid (Below M wB w1) := XX.out.grown hg (by have := XX.out.size; have := WN.out; omega) (fun q hq => own_baseQ OE.out q hq)
      clear hown hg OE XX
      have XX := X1
      clear X1
      refine hKq.out _ _ (by exact fun q hq => XX.out.block q hq) (fun _ => ?_)
      clear hKq Kq
      (try simp only [Act.put, List.getElem_toArray, List.getElem_cons_succ, List.getElem_cons_zero, List.setIfInBounds_toArray, List.set_cons_zero, List.set_cons_succ])
      refine wpAnyH_ready (rs := [43]) (by kernel_rfl) (by simp) ?_
      refine AllReadyH.cons rfl (fun Kq hKq => ?_) AllReadyH.nil
      refine step_appS' (by rfl) (.tmp 94) (.tmp 95) rfl M 2 2 _ _ rfl O1.out gl 0 c5 (xs.flatMap eS) rfl (LRX.out _ (fun q hq => XX.out.block q hq)) (by rw [flat_eS_len xs HX8.out, HXL.out]) (flat_one xs) (by decide) (by have := XX.out.size; have := WN.out; omega) ?_
      intro A2 d2 w2' hown hg
      have O2 : Hid (w2'.ownsRow M 45 282 (.slice A2 4 d2) 4 ((xs ++ xs).flatMap eS)) := by show World.ownsRow _ _ _ _ _ _ _; rw [List.flatMap_append]; exact hown
      have X1 : Hid (Below M wB w2') := XX.out.grown hg (by have := XX.out.size; have := WN.out; omega) (fun q hq => own_baseQ O1.out q hq)
      have SD := Lib.hid (own_srow O2.out (fun z hz => HX8.out z (by rcases List.mem_append.1 hz with h | h <;> exact h)) (by rw [List.length_append, HXL.out]))
      clear hown hg O1 O2 XX
      have XX := X1
      clear X1
      refine hKq.out _ _ (by exact fun q hq => XX.out.block q hq) (fun hHeld => ?_)
      clear hKq Kq
      (try simp only [Act.put, List.getElem_toArray, List.getElem_cons_succ, List.getElem_cons_zero, List.setIfInBounds_toArray, List.set_cons_zero, List.set_cons_succ])
      refine wpAnyH_ready (rs := [44]) (by kernel_rfl) (by simp) ?_
      refine AllReadyH.cons rfl (fun K hK => ?_) AllReadyH.nil
      go_simp
      go_at_call 12
      refine (C12.out _ _ _ _ _ _ XX.out SD.out.1 (by rw [List.length_append, HXL.out]) SD.out.2.1 SD.out.2.2 (by decide) HV3.out).mono ?_
      rintro e wc11 ⟨rfl, hba⟩
      have XN : Hid (Below M wB wc11) := XX.out.trans (hba.mono (by have := XX.out.size; have := WN.out; omega))
      clear XX hba hHeld
      have XX := XN
      clear XN
      (try go_wp2_with fail)
      refine hK.out _ _ (by exact fun q hq => XX.out.block q hq) (fun hHeld => ?_)
      clear hK K
      refine wpAnyH_take (i := 45) (v := ?_) rfl (by kernel_rfl) (by kernel_rfl) (by kernel_rfl) (fun _ _ _ h => h) (Or.inl ⟨by rfl, ?_⟩) (by assumption) ?_
      rotate_left
      · (intro w hSw; (try dsimp only at hSw); go_simp; try with_reducible rfl)
      simp only [Act.put, List.getElem_toArray, List.getElem_cons_succ, List.getElem_cons_zero, List.setIfInBounds_toArray, List.set_cons_zero, List.set_cons_succ]
      refine wpAnyH_take (i := 46) (v := ?_) rfl (by kernel_rfl) (by kernel_rfl) (by kernel_rfl) (fun _ _ _ h => h) (Or.inl ⟨by rfl, ?_⟩) (by assumption) ?_
      rotate_left
      · (intro w hSw; (try dsimp only at hSw); go_simp; try with_reducible rfl)
      simp only [Act.put, List.getElem_toArray, List.getElem_cons_succ, List.getElem_cons_zero, List.setIfInBounds_toArray, List.set_cons_zero, List.set_cons_succ]
      refine wpAnyH_take (i := 47) (v := ?_) rfl (by kernel_rfl) (by kernel_rfl) (by kernel_rfl) (fun _ _ _ h => h) (Or.inl ⟨by rfl, ?_⟩) (by assumption) ?_
      rotate_left
      · (intro w hSw; (try dsimp only at hSw); go_simp; try with_reducible rfl)
      simp only [Act.put, List.getElem_toArray, List.getElem_cons_succ, List.getElem_cons_zero, List.setIfInBounds_toArray, List.set_cons_zero, List.set_cons_succ]
      refine wpAnyH_done (by kernel_rfl) ?_ _
      go_wp2
      go_ret
      exact ⟨rfl, by rw [HS.out]; exact KF.out _ XX.out⟩
    · have HT1 : Hid (((cnt (FK k) k mm xs : Nat) : Int) = 2) := by show _ = _; rw [HT0.out, if_neg hab]; rfl
      have e1 : ((a : Int) == (b : Int)) = false := beq_false_of_ne (by omega)
      have e2 : (a == b) = false := beq_false_of_ne hab
      clear hab HT0
      go_wp2_with fail
      have XX : Hid (Below M wB wB.drew) := (Below.refl _ _).drew
      refine wp_region_held_drew (S := (fun w' : World => ∀ q, q < M → w'.heap[q]? = wB.heap[q]?)) (by kernel_rfl) (by exact fun _ _ => rfl) (fun hHeld => ?_)
      refine wpAnyH_take (i := 0) rfl (by kernel_rfl) (by kernel_rfl) (by kernel_rfl) (fun _ _ _ h => h) (yieldsIf_load_mid (by rfl) 24 (.tmp 8) rfl (PBK) (0) rfl [.int .i64 4, .int .i64 2, .int .i64 1, .slice A k c] _ (fun w h => pb_range ((h _ (by have := LN.out; omega)).trans PQ.out)) Tryd.underlying24 rfl (pb_info 4 2 1 _)) (by assumption) ?_
      simp only [Act.put, List.getElem_toArray, List.getElem_cons_zero, List.setIfInBounds_toArray, List.set_cons_zero, List.set_cons_succ]
      refine wpAnyH_take (i := 1) rfl (by kernel_rfl) (by kernel_rfl) (by kernel_rfl) (fun _ _ _ h => h) (yieldsIf_load_mid (by rfl) 32 (.tmp 9) rfl (PBK + 1) (0) rfl (bvals mm) _ (fun w h => ba_range (t := 32) ((h _ (by have := LN.out; omega)).trans MQ.out)) Tryd.underlying32 rfl him) (by assumption) ?_
      simp only [Act.put, List.getElem_toArray, List.getElem_cons_succ, List.getElem_cons_zero, List.setIfInBounds_toArray, List.set_cons_zero, List.set_cons_succ]
      refine wpAnyH_take (i := 2) (v := ?_) rfl (by kernel_rfl) (by kernel_rfl) (by kernel_rfl) (fun _ _ _ h => h) (Or.inl ⟨by rfl, ?_⟩) (by assumption) ?_
      rotate_left
      · (intro w hSw; (try dsimp only at hSw); go_simp; try with_reducible rfl)
      simp only [Act.put, List.getElem_toArray, List.getElem_cons_succ, List.getElem_cons_zero, List.setIfInBounds_toArray, List.set_cons_zero, List.set_cons_succ]
      refine wpAnyH_take (i := 4) (v := ?_) rfl (by kernel_rfl) (by kernel_rfl) (by kernel_rfl) (fun _ _ _ h => h) (Or.inl ⟨by rfl, ?_⟩) (by assumption) ?_
      rotate_left
      · (intro w hSw; (try dsimp only at hSw); go_simp; try with_reducible rfl)
      simp only [Act.put, List.getElem_toArray, List.getElem_cons_succ, List.getElem_cons_zero, List.setIfInBounds_toArray, List.set_cons_zero, List.set_cons_succ]
      refine wpAnyH_take (i := 5) (v := ?_) rfl (by kernel_rfl) (by kernel_rfl) (by kernel_rfl) (fun _ _ _ h => h) (Or.inl ⟨by rfl, ?_⟩) (by assumption) ?_
      rotate_left
      · (intro w hSw; (try dsimp only at hSw); go_simp; try with_reducible rfl)
      simp only [Act.put, List.getElem_toArray, List.getElem_cons_succ, List.getElem_cons_zero, List.setIfInBounds_toArray, List.set_cons_zero, List.set_cons_succ]
      refine wpAnyH_take (i := 6) (v := ?_) rfl (by kernel_rfl) (by kernel_rfl) (by kernel_rfl) (fun _ _ _ h => h) (Or.inl ⟨by rfl, ?_⟩) (by assumption) ?_
      rotate_left
      · (intro w hSw; (try dsimp only at hSw); go_simp; try with_reducible rfl)
      simp only [Act.put, List.getElem_toArray, List.getElem_cons_succ, List.getElem_cons_zero, List.setIfInBounds_toArray, List.set_cons_zero, List.set_cons_succ]
      refine wpAnyH_ready (rs := [3]) (by kernel_rfl) (by simp) ?_
      refine AllReadyH.cons rfl (fun K hK => ?_) AllReadyH.nil
      go_simp
      go_at_call 12
      refine (C12.out _ _ _ _ _ _ XX.out (SX.out _ XX.out) HXL.out HC5.out.1 HC5.out.2 (by decide) HV1.out).mono ?_
      rintro e wc1 ⟨rfl, hba⟩
      have XN : Hid (Below M wB wc1) := XX.out.trans (hba.mono (by have := XX.out.size; have := WN.out; omega))
      clear XX hba hHeld
      have XX := XN
      clear XN
      (try go_wp2_with fail)
      refine hK.out _ _ (by exact fun q hq => XX.out.block q hq) (fun hHeld => ?_)
      clear hK K
      refine wpAnyH_take (i := 7) (v := ?_) rfl (by kernel_rfl) (by kernel_rfl) (by kernel_rfl) (fun _ _ _ h => h) (Or.inl ⟨by rfl, ?_⟩) (by assumption) ?_
      rotate_left
      · (intro w hSw; (try dsimp only at hSw); go_simp; try with_reducible rfl)
      simp only [Act.put, List.getElem_toArray, List.getElem_cons_succ, List.getElem_cons_zero, List.setIfInBounds_toArray, List.set_cons_zero, List.set_cons_succ]
      refine wpAnyH_take (i := 8) (v := ?_) rfl (by kernel_rfl) (by kernel_rfl) (by kernel_rfl) (fun _ _ _ h => h) (Or.inl ⟨by rfl, ?_⟩) (by assumption) ?_
      rotate_left
      · (intro w hSw; (try dsimp only at hSw); go_simp; try with_reducible rfl)
      simp only [Act.put, List.getElem_toArray, List.getElem_cons_succ, List.getElem_cons_zero, List.setIfInBounds_toArray, List.set_cons_zero, List.set_cons_succ]
      refine wpAnyH_take (i := 9) rfl (by kernel_rfl) (by kernel_rfl) (by kernel_rfl) (fun _ _ _ h => h) (yieldsIf_load_mid (by rfl) 24 (.tmp 8) rfl (PBK) (0) rfl [.int .i64 4, .int .i64 2, .int .i64 1, .slice A k c] _ (fun w h => pb_range ((h _ (by have := LN.out; omega)).trans PQ.out)) Tryd.underlying24 rfl (pb_info 4 2 1 _)) (by assumption) ?_
      simp only [Act.put, List.getElem_toArray, List.getElem_cons_succ, List.getElem_cons_zero, List.setIfInBounds_toArray, List.set_cons_zero, List.set_cons_succ]
      refine wpAnyH_take (i := 10) rfl (by kernel_rfl) (by kernel_rfl) (by kernel_rfl) (fun _ _ _ h => h) (yieldsIf_load_mid (by rfl) 32 (.tmp 9) rfl (PBK + 1) (0) rfl (bvals mm) _ (fun w h => ba_range (t := 32) ((h _ (by have := LN.out; omega)).trans MQ.out)) Tryd.underlying32 rfl him) (by assumption) ?_
      simp only [Act.put, List.getElem_toArray, List.getElem_cons_succ, List.getElem_cons_zero, List.setIfInBounds_toArray, List.set_cons_zero, List.set_cons_succ]
      refine wpAnyH_take (i := 11) (v := ?_) rfl (by kernel_rfl) (by kernel_rfl) (by kernel_rfl) (fun _ _ _ h => h) (Or.inl ⟨by rfl, ?_⟩) (by assumption) ?_
      rotate_left
      · (intro w hSw; (try dsimp only at hSw); go_simp; try with_reducible rfl)
      simp only [Act.put, List.getElem_toArray, List.getElem_cons_succ, List.getElem_cons_zero, List.setIfInBounds_toArray, List.set_cons_zero, List.set_cons_succ]
      refine wpAnyH_take (i := 13) (v := ?_) rfl (by kernel_rfl) (by kernel_rfl) (by kernel_rfl) (fun _ _ _ h => h) (Or.inl ⟨by rfl, ?_⟩) (by assumption) ?_
      rotate_left
      · (intro w hSw; (try dsimp only at hSw); go_simp; try with_reducible rfl)
      simp only [Act.put, List.getElem_toArray, List.getElem_cons_succ, List.getElem_cons_zero, List.setIfInBounds_toArray, List.set_cons_zero, List.set_cons_succ]
      refine wpAnyH_ready (rs := [12]) (by kernel_rfl) (by simp) ?_
      refine AllReadyH.cons rfl (fun K hK => ?_) AllReadyH.nil
      go_simp
      go_at_call 14
      refine (C14.out _ _ _ _ _ _ XX.out (SX.out _ XX.out) HXL.out HC5.out.1 HC5.out.2 (by decide) HT1.out).mono ?_
      rintro e wc2 ⟨rfl, hba⟩
      have XN : Hid (Below M wB wc2) := XX.out.trans (hba.mono (by have := XX.out.size; have := WN.out; omega))
      clear XX hba hHeld
      have XX := XN
      clear XN
      (try go_wp2_with fail)
      refine hK.out _ _ (by exact fun q hq => XX.out.block q hq) (fun hHeld => ?_)
      clear hK K
      refine wpAnyH_take (i := 14) (v := ?_) rfl (by kernel_rfl) (by kernel_rfl) (by kernel_rfl) (fun _ _ _ h => h) (Or.inl ⟨by rfl, ?_⟩) (by assumption) ?_
      rotate_left
      · (intro w hSw; (try dsimp only at hSw); go_simp; try with_reducible rfl)
      simp only [Act.put, List.getElem_toArray, List.getElem_cons_succ, List.getElem_cons_zero, List.setIfInBounds_toArray, List.set_cons_zero, List.set_cons_succ]
      refine wpAnyH_take (i := 15) (v := ?_) rfl (by kernel_rfl) (by kernel_rfl) (by kernel_rfl) (fun _ _ _ h => h) (Or.inl ⟨by rfl, ?_⟩) (by assumption) ?_
      rotate_left
      · (intro w hSw; (try dsimp only at hSw); go_simp; try with_reducible rfl)
      simp only [Act.put, List.getElem_toArray, List.getElem_cons_succ, List.getElem_cons_zero, List.setIfInBounds_toArray, List.set_cons_zero, List.set_cons_succ]
      refine wpAnyH_take (i := 16) (v := ?_) rfl (by kernel_rfl) (by kernel_rfl) (by kernel_rfl) (fun _ _ _ h => h) (Or.inl ⟨by rfl, ?_⟩) (by assumption) ?_
      rotate_left
      · (intro w hSw; (try dsimp only at hSw); go_simp; try with_reducible rfl)
      simp only [Act.put, List.getElem_toArray, List.getElem_cons_succ, List.getElem_cons_zero, List.setIfInBounds_toArray, List.set_cons_zero, List.set_cons_succ]
      refine wpAnyH_take (i := 17) rfl (by kernel_rfl) (by kernel_rfl) (by kernel_rfl) (fun _ _ _ h => h) (yieldsIf_load_mid (by rfl) 24 (.tmp 8) rfl (PBK) (0) rfl [.int .i64 4, .int .i64 2, .int .i64 1, .slice A k c] _ (fun w h => pb_range ((h _ (by have := LN.out; omega)).trans PQ.out)) Tryd.underlying24 rfl (pb_info 4 2 1 _)) (by assumption) ?_
      simp only [Act.put, List.getElem_toArray, List.getElem_cons_succ, List.getElem_cons_zero, List.setIfInBounds_toArray, List.set_cons_zero, List.set_cons_succ]
      refine wpAnyH_take (i := 18) rfl (by kernel_rfl) (by kernel_rfl) (by kernel_rfl) (fun _ _ _ h => h) (yieldsIf_load_mid (by rfl) 32 (.tmp 9) rfl (PBK + 1) (0) rfl (bvals mm) _ (fun w h => ba_range (t := 32) ((h _ (by have := LN.out; omega)).trans MQ.out)) Tryd.underlying32 rfl him) (by assumption) ?_
      simp only [Act.put, List.getElem_toArray, List.getElem_cons_succ, List.getElem_cons_zero, List.setIfInBounds_toArray, List.set_cons_zero, List.set_cons_succ]
      refine wpAnyH_take (i := 19) (v := ?_) rfl (by kernel_rfl) (by kernel_rfl) (by kernel_rfl) (fun _ _ _ h => h) (Or.inl ⟨by rfl, ?_⟩) (by assumption) ?_
      rotate_left
      · (intro w hSw; (try dsimp only at hSw); go_simp; try with_reducible rfl)
      simp only [Act.put, List.getElem_toArray, List.getElem_cons_succ, List.getElem_cons_zero, List.setIfInBounds_toArray, List.set_cons_zero, List.set_cons_succ]
      refine wpAnyH_ready (rs := [20]) (by kernel_rfl) (by simp) ?_
      refine AllReadyH.cons rfl (fun K hK => ?_) AllReadyH.nil
      go_simp
      go_at_call 12
      refine (C12.out _ _ _ _ _ _ XX.out (SY.out _ XX.out) HYL.out HC9.out.1 HC9.out.2 (by decide) HV2.out).mono ?_
      rintro e wc3 ⟨rfl, hba⟩
      have XN : Hid (Below M wB wc3) := XX.out.trans (hba.mono (by have := XX.out.size; have := WN.out; omega))
      clear XX hba hHeld
      have XX := XN
      clear XN
      (try go_wp2_with fail)
      refine hK.out _ _ (by exact fun q hq => XX.out.block q hq) (fun hHeld => ?_)
      clear hK K
      refine wpAnyH_take (i := 21) (v := ?_) rfl (by kernel_rfl) (by kernel_rfl) (by kernel_rfl) (fun _ _ _ h => h) (Or.inl ⟨by rfl, ?_⟩) (by assumption) ?_
      rotate_left
      · (intro w hSw; (try dsimp only at hSw); go_simp; try with_reducible rfl)
      simp only [Act.put, List.getElem_toArray, List.getElem_cons_succ, List.getElem_cons_zero, List.setIfInBounds_toArray, List.set_cons_zero, List.set_cons_succ]
      refine wpAnyH_take (i := 22) (v := ?_) rfl (by kernel_rfl) (by kernel_rfl) (by kernel_rfl) (fun _ _ _ h => h) (Or.inl ⟨by rfl, ?_⟩) (by assumption) ?_
      rotate_left
      · (intro w hSw; (try dsimp only at hSw); go_simp; try with_reducible rfl)
      simp only [Act.put, List.getElem_toArray, List.getElem_cons_succ, List.getElem_cons_zero, List.setIfInBounds_toArray, List.set_cons_zero, List.set_cons_succ]
      refine wpAnyH_take (i := 23) (v := ?_) rfl (by kernel_rfl) (by kernel_rfl) (by kernel_rfl) (fun _ _ _ h => h) (Or.inl ⟨by rfl, ?_⟩) (by assumption) ?_
      rotate_left
      · (intro w hSw; (try dsimp only at hSw); go_simp; try with_reducible rfl)
      simp only [Act.put, List.getElem_toArray, List.getElem_cons_succ, List.getElem_cons_zero, List.setIfInBounds_toArray, List.set_cons_zero, List.set_cons_succ]
      refine wpAnyH_take (i := 24) rfl (by kernel_rfl) (by kernel_rfl) (by kernel_rfl) (fun _ _ _ h => h) (yieldsIf_load_mid (by rfl) 24 (.tmp 8) rfl (PBK) (0) rfl [.int .i64 4, .int .i64 2, .int .i64 1, .slice A k c] _ (fun w h => pb_range ((h _ (by have := LN.out; omega)).trans PQ.out)) Tryd.underlying24 rfl (pb_info 4 2 1 _)) (by assumption) ?_
      simp only [Act.put, List.getElem_toArray, List.getElem_cons_succ, List.getElem_cons_zero, List.setIfInBounds_toArray, List.set_cons_zero, List.set_cons_succ]
      refine wpAnyH_take (i := 25) rfl (by kernel_rfl) (by kernel_rfl) (by kernel_rfl) (fun _ _ _ h => h) (yieldsIf_load_mid (by rfl) 32 (.tmp 9) rfl (PBK + 1) (0) rfl (bvals mm) _ (fun w h => ba_range (t := 32) ((h _ (by have := LN.out; omega)).trans MQ.out)) Tryd.underlying32 rfl him) (by assumption) ?_
      simp only [Act.put, List.getElem_toArray, List.getElem_cons_succ, List.getElem_cons_zero, List.setIfInBounds_toArray, List.set_cons_zero, List.set_cons_succ]
      refine wpAnyH_take (i := 26) (v := ?_) rfl (by kernel_rfl) (by kernel_rfl) (by kernel_rfl) (fun _ _ _ h => h) (Or.inl ⟨by rfl, ?_⟩) (by assumption) ?_
      rotate_left
      · (intro w hSw; (try dsimp only at hSw); go_simp; try with_reducible rfl)
      simp only [Act.put, List.getElem_toArray, List.getElem_cons_succ, List.getElem_cons_zero, List.setIfInBounds_toArray, List.set_cons_zero, List.set_cons_succ]
      refine wpAnyH_ready (rs := [27]) (by kernel_rfl) (by simp) ?_
      refine AllReadyH.cons rfl (fun K hK => ?_) AllReadyH.nil
      go_simp
      go_at_call 14
      refine (C14.out _ _ _ _ _ _ XX.out (SY.out _ XX.out) HYL.out HC9.out.1 HC9.out.2 (by decide) HT2.out).mono ?_
      rintro e wc4 ⟨rfl, hba⟩
      have XN : Hid (Below M wB wc4) := XX.out.trans (hba.mono (by have := XX.out.size; have := WN.out; omega))
      clear XX hba hHeld
      have XX := XN
      clear XN
      (try go_wp2_with fail)
      refine hK.out _ _ (by exact fun q hq => XX.out.block q hq) (fun hHeld => ?_)
      clear hK K
      refine wpAnyH_take (i := 28) (v := ?_) rfl (by kernel_rfl) (by kernel_rfl) (by kernel_rfl) (fun _ _ _ h => h) (Or.inl ⟨by rfl, ?_⟩) (by assumption) ?_
      rotate_left
      · (intro w hSw; (try dsimp only at hSw); go_simp; try with_reducible rfl)
      simp only [Act.put, List.getElem_toArray, List.getElem_cons_succ, List.getElem_cons_zero, List.setIfInBounds_toArray, List.set_cons_zero, List.set_cons_succ]
      refine wpAnyH_take (i := 29) (v := ?_) rfl (by kernel_rfl) (by kernel_rfl) (by kernel_rfl) (fun _ _ _ h => h) (Or.inl ⟨by rfl, ?_⟩) (by assumption) ?_
      rotate_left
      · (intro w hSw; (try dsimp only at hSw); go_simp; try with_reducible rfl)
      simp only [Act.put, List.getElem_toArray, List.getElem_cons_succ, List.getElem_cons_zero, List.setIfInBounds_toArray, List.set_cons_zero, List.set_cons_succ]
      refine wpAnyH_take (i := 30) (v := ?_) rfl (by kernel_rfl) (by kernel_rfl) (by kernel_rfl) (fun _ _ _ h => h) (Or.inl ⟨by rfl, ?_⟩) (by assumption) ?_
      rotate_left
      · (intro w hSw; (try dsimp only at hSw); go_simp; try with_reducible rfl)
      simp only [Act.put, List.getElem_toArray, List.getElem_cons_succ, List.getElem_cons_zero, List.setIfInBounds_toArray, List.set_cons_zero, List.set_cons_succ]
      refine wpAnyH_take (i := 31) rfl (by kernel_rfl) (by kernel_rfl) (by kernel_rfl) (fun _ _ _ h => h) (yieldsIf_load_mid (by rfl) 24 (.tmp 8) rfl (PBK) (0) rfl [.int .i64 4, .int .i64 2, .int .i64 1, .slice A k c] _ (fun w h => pb_range ((h _ (by have := LN.out; omega)).trans PQ.out)) Tryd.underlying24 rfl (pb_info 4 2 1 _)) (by assumption) ?_
      simp only [Act.put, List.getElem_toArray, List.getElem_cons_succ, List.getElem_cons_zero, List.setIfInBounds_toArray, List.set_cons_zero, List.set_cons_succ]
      refine wpAnyH_take (i := 32) rfl (by kernel_rfl) (by kernel_rfl) (by kernel_rfl) (fun _ _ _ h => h) (yieldsIf_load_mid (by rfl) 32 (.tmp 9) rfl (PBK + 1) (0) rfl (bvals mm) _ (fun w h => ba_range (t := 32) ((h _ (by have := LN.out; omega)).trans MQ.out)) Tryd.underlying32 rfl him) (by assumption) ?_
      simp only [Act.put, List.getElem_toArray, List.getElem_cons_succ, List.getElem_cons_zero, List.setIfInBounds_toArray, List.set_cons_zero, List.set_cons_succ]
      refine wpAnyH_ready (rs := [33]) (by kernel_rfl) (by simp) ?_
      refine AllReadyH.cons rfl (fun K hK => ?_) AllReadyH.nil
      go_simp
      go_at_call 12
      refine (C12.out none 0 0 [] false _ XX.out (SRow_nil _) rfl (Nat.le_refl _) (by unfold maxLen; omega) (by decide) (no_nil _ _ _)).mono ?_
      rintro e wc5 ⟨rfl, hba⟩
      have XN : Hid (Below M wB wc5) := XX.out.trans (hba.mono (by have := XX.out.size; have := WN.out; omega))
      clear XX hba hHeld
      have XX := XN
      clear XN
      (try go_wp2_with fail)
      refine hK.out _ _ (by exact fun q hq => XX.out.block q hq) (fun hHeld => ?_)
      clear hK K
      refine wpAnyH_take (i := 34) (v := ?_) rfl (by kernel_rfl) (by kernel_rfl) (by kernel_rfl) (fun _ _ _ h => h) (Or.inl ⟨by rfl, ?_⟩) (by assumption) ?_
      rotate_left
      · (intro w hSw; (try dsimp only at hSw); go_simp; try with_reducible rfl)
      simp only [Act.put, List.getElem_toArray, List.getElem_cons_succ, List.getElem_cons_zero, List.setIfInBounds_toArray, List.set_cons_zero, List.set_cons_succ]
      refine wpAnyH_take (i := 35) (v := ?_) rfl (by kernel_rfl) (by kernel_rfl) (by kernel_rfl) (fun _ _ _ h => h) (Or.inl ⟨by rfl, ?_⟩) (by assumption) ?_
      rotate_left
      · (intro w hSw; (try dsimp only at hSw); go_simp; try with_reducible rfl)
      simp only [Act.put, List.getElem_toArray, List.getElem_cons_succ, List.getElem_cons_zero, List.setIfInBounds_toArray, List.set_cons_zero, List.set_cons_succ]
      refine wpAnyH_take (i := 36) (v := ?_) rfl (by kernel_rfl) (by kernel_rfl) (by kernel_rfl) (fun _ _ _ h => h) (Or.inl ⟨by rfl, ?_⟩) (by assumption) ?_
      rotate_left
      · (intro w hSw; (try dsimp only at hSw); go_simp; try with_reducible rfl)
      simp only [Act.put, List.getElem_toArray, List.getElem_cons_succ, List.getElem_cons_zero, List.setIfInBounds_toArray, List.set_cons_zero, List.set_cons_succ]
      refine wpAnyH_take (i := 37) rfl (by kernel_rfl) (by kernel_rfl) (by kernel_rfl) (fun _ _ _ h => h) (yieldsIf_load_mid (by rfl) 24 (.tmp 8) rfl (PBK) (0) rfl [.int .i64 4, .int .i64 2, .int .i64 1, .slice A k c] _ (fun w h => pb_range ((h _ (by have := LN.out; omega)).trans PQ.out)) Tryd.underlying24 rfl (pb_info 4 2 1 _)) (by assumption) ?_
      simp only [Act.put, List.getElem_toArray, List.getElem_cons_succ, List.getElem_cons_zero, List.setIfInBounds_toArray, List.set_cons_zero, List.set_cons_succ]
      refine wpAnyH_take (i := 38) rfl (by kernel_rfl) (by kernel_rfl) (by kernel_rfl) (fun _ _ _ h => h) (yieldsIf_load_mid (by rfl) 32 (.tmp 9) rfl (PBK + 1) (0) rfl (bvals mm) _ (fun w h => ba_range (t := 32) ((h _ (by have := LN.out; omega)).trans MQ.out)) Tryd.underlying32 rfl him) (by assumption) ?_
      simp only [Act.put, List.getElem_toArray, List.getElem_cons_succ, List.getElem_cons_zero, List.setIfInBounds_toArray, List.set_cons_zero, List.set_cons_succ]
      refine wpAnyH_take (i := 40) (v := ?_) rfl (by kernel_rfl) (by kernel_rfl) (by kernel_rfl) (fun _ _ _ h => h) (Or.inl ⟨by rfl, ?_⟩) (by assumption) ?_
      rotate_left
      · (intro w hSw; (try dsimp only at hSw); go_simp; try with_reducible rfl)
      simp only [Act.put, List.getElem_toArray, List.getElem_cons_succ, List.getElem_cons_zero, List.setIfInBounds_toArray, List.set_cons_zero, List.set_cons_succ]
      refine wpAnyH_take (i := 42) (v := ?_) rfl (by kernel_rfl) (by kernel_rfl) (by kernel_rfl) (fun _ _ _ h => h) (Or.inl ⟨by rfl, ?_⟩) (by assumption) ?_
      rotate_left
      · (intro w hSw; (try dsimp only at hSw); go_simp; try with_reducible rfl)
      simp only [Act.put, List.getElem_toArray, List.getElem_cons_succ, List.getElem_cons_zero, List.setIfInBounds_toArray, List.set_cons_zero, List.set_cons_succ]
      (try clear hHeld)
      generalize wc5 = wd at *
      refine wpAnyH_ready (rs := [39]) (by kernel_rfl) (by simp) ?_
      refine AllReadyH.cons rfl (fun Kq hKq => ?_) AllReadyH.nil
      obtain ⟨H, hH⟩ : ∃ H, wd.heap.size = H := ⟨_, rfl⟩
      refine step_bs0 (by rfl) rfl ?_
      rw [hH]
      have HE : Hid ((wd.alloc (Obj.cells #[] 45)).heap[H]? = some (.cells #[] 45 (0, 0))) := by show _ = _; rw [← hH]; exact heap_alloc_last wd _
      have MH : Hid (M ≤ H) := by show _ ≤ _; rw [← hH, ← WN.out]; exact XX.out.size
      have XN : Hid (Below M wB (wd.alloc (Obj.cells #[] 45))) := XX.out.alloc (by rw [hH]; exact MH.out) _
      clear XX hH
      have XX := XN
      clear XN
      generalize wd.alloc (Obj.cells #[] 45) = we at *
      refine hKq.out _ _ (by exact fun q hq => XX.out.block q hq) (fun _ => ?_)
      clear hKq Kq
      (try simp only [Act.put, List.getElem_toArray, List.getElem_cons_succ, List.getElem_cons_zero, List.setIfInBounds_toArray, List.set_cons_zero, List.set_cons_succ])
      refine wpAnyH_ready (rs := [41]) (by kernel_rfl) (by simp) ?_
      refine AllReadyH.cons rfl (fun Kq hKq => ?_) AllReadyH.nil
      have OE : Hid (we.ownsRow M 45 282 (.slice (some ⟨H, 0, none⟩) 0 0) 0 []) := own_empty HE.out MH.out
      refine step_appS' (by rfl) (.tmp 92) (.tmp 93) rfl M 0 2 _ _ rfl OE.out gl 0 c5 (xs.flatMap eS) rfl (LRX.out _ (fun q hq => XX.out.block q hq)) (by rw [flat_eS_len xs HX8.out, HXL.out]) (flat_one xs) (by decide) (by have := XX.out.size; have := WN.out; omega) ?_
      intro A1 d1 w1 hown hg
      have O1 : Hid (w1.ownsRow M 45 282 (.slice A1 2 d1) 2 (xs.flatMap eS)) := by have h := hown; rw [List.nil_append] at h; exact h
      have X1 : Hid (Below M wB w1) := XX.out.grown hg (by have := XX.out.size; have := WN.out; omega) (fun q hq => own_baseQ OE.out q hq)
      clear hown hg OE XX
      have XX := X1
      clear X1
      refine hKq.out _ _ (by exact fun q hq => XX.out.block q hq) (fun _ => ?_)
      clear hKq Kq
      (try simp only [Act.put, List.getElem_toArray, List.getElem_cons_succ, List.getElem_cons_zero, List.setIfInBounds_toArray, List.set_cons_zero, List.set_cons_succ])
      refine wpAnyH_ready (rs := [43]) (by kernel_rfl) (by simp) ?_
      refine AllReadyH.cons rfl (fun Kq hKq => ?_) AllReadyH.nil
      refine step_appS' (by rfl) (.tmp 94) (.tmp 95) rfl M 2 2 _ _ rfl O1.out gl 0 c5 (xs.flatMap eS) rfl (LRX.out _ (fun q hq => XX.out.block q hq)) (by rw [flat_eS_len xs HX8.out, HXL.out]) (flat_one xs) (by decide) (by have := XX.out.size; have := WN.out; omega) ?_
      intro A2 d2 w2' hown hg
      have O2 : Hid (w2'.ownsRow M 45 282 (.slice A2 4 d2) 4 ((xs ++ xs).flatMap eS)) := by show World.ownsRow _ _ _ _ _ _ _; rw [List.flatMap_append]; exact hown
      have X1 : Hid (Below M wB w2') := XX.out.grown hg (by have := XX.out.size; have := WN.out; omega) (fun q hq => own_baseQ O1.out q hq)
      have SD := Lib.hid (own_srow O2.out (fun z hz => HX8.out z (by rcases List.mem_append.1 hz with h | h <;> exact h)) (by rw [List.length_append, HXL.out]))
      clear hown hg O1 O2 XX
      have XX := X1
      clear X1
      refine hKq.out _ _ (by exact fun q hq => XX.out.block q hq) (fun hHeld => ?_)
      clear hKq Kq
      (try simp only [Act.put, List.getElem_toArray, List.getElem_cons_succ, List.getElem_cons_zero, List.setIfInBounds_toArray, List.set_cons_zero, List.set_cons_succ])
      refine wpAnyH_ready (rs := [44]) (by kernel_rfl) (by simp) ?_
      refine AllReadyH.cons rfl (fun K hK => ?_) AllReadyH.nil
      go_simp
      go_at_call 12
      refine (C12.out _ _ _ _ _ _ XX.out SD.out.1 (by rw [List.length_append, HXL.out]) SD.out.2.1 SD.out.2.2 (by decide) HV3.out).mono ?_
      rintro e wc11 ⟨rfl, hba⟩
      have XN : Hid (Below M wB wc11) := XX.out.trans (hba.mono (by have := XX.out.size; have := WN.out; omega))
      clear XX hba hHeld
      have XX := XN
      clear XN
      (try go_wp2_with fail)
      refine hK.out _ _ (by exact fun q hq => XX.out.block q hq) (fun hHeld => ?_)
      clear hK K
      refine wpAnyH_take (i := 45) (v := ?_) rfl (by kernel_rfl) (by kernel_rfl) (by kernel_rfl) (fun _ _ _ h => h) (Or.inl ⟨by rfl, ?_⟩) (by assumption) ?_
      rotate_left
      · (intro w hSw; (try dsimp only at hSw); go_simp; try with_reducible rfl)
      simp only [Act.put, List.getElem_toArray, List.getElem_cons_succ, List.getElem_cons_zero, List.setIfInBounds_toArray, List.set_cons_zero, List.set_cons_succ]
      refine wpAnyH_take (i := 46) (v := ?_) rfl (by kernel_rfl) (by kernel_rfl) (by kernel_rfl) (fun _ _ _ h => h) (Or.inl ⟨by rfl, ?_⟩) (by assumption) ?_
      rotate_left
      · (intro w hSw; (try dsimp only at hSw); go_simp; try with_reducible rfl)
      simp only [Act.put, List.getElem_toArray, List.getElem_cons_succ, List.getElem_cons_zero, List.setIfInBounds_toArray, List.set_cons_zero, List.set_cons_succ]
      refine wpAnyH_take (i := 47) (v := ?_) rfl (by kernel_rfl) (by kernel_rfl) (by kernel_rfl) (fun _ _ _ h => h) (Or.inl ⟨by rfl, ?_⟩) (by assumption) ?_
      rotate_left
      · (intro w hSw; (try dsimp only at hSw); go_simp; try with_reducible rfl)
      simp only [Act.put, List.getElem_toArray, List.getElem_cons_succ, List.getElem_cons_zero, List.setIfInBounds_toArray, List.set_cons_zero, List.set_cons_succ]
      refine wpAnyH_done (by kernel_rfl) ?_ _
      go_wp2
      go_ret
      exact ⟨rfl, by rw [HS.out]; exact KF.out _ XX.out⟩
open Go.ChangeShapes Go.WideShapes in
theorem q6i (x y z : Int) (w : World) (hk : Keys w) (h1 : (Lit.int .u8 x).wf = true) (h2 : (Lit.int .u8 y).wf = true) (h3 : (Lit.int .u8 z).wf = true) :
    Calls Tryd.prog 6 #[.int .u8 x, .int .u8 y, .int .u8 z] w fun e w' => e = .returned (.bool true) ∧ Below w.heap.size w w' := by
  have b1 := bounds_u8 h1
  have b2 := bounds_u8 h2
  have b3 := bounds_u8 h3
  obtain ⟨x, rfl⟩ := Int.eq_ofNat_of_zero_le b1.1
  obtain ⟨y, rfl⟩ := Int.eq_ofNat_of_zero_le b2.1
  obtain ⟨z, rfl⟩ := Int.eq_ofNat_of_zero_le b3.1
  exact q6 x y z w hk (by omega) (by omega) (by omega)
end Go.Proofs.YtfneopmgckejdaaDoor
