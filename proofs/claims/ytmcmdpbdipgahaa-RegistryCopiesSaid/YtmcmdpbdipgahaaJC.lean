/-
  Joined: R6, R7, R8.
-/
import Derived.Test.YtmcmdpbdipgahaaJB
import Derived.Test.YtmcmdpbdipgahaaQ5
import Derived.Laws.IdiomRangeMap
/-
  Create.
-/
namespace Go.Proofs.Ytmcmdpbdipgahaa
open Go.RowKit Go.Maps
set_option maxRecDepth 100000
/-- the registry has what cs says -/
def Reg (w : World) (S : Nat) (m : Option Nat) (cs : List Con) : Prop := ∃ xs, RegM w S m xs ∧ xs.map Sm.con = cs
theorem Reg.grow {w w' : World} {S : Nat} {m : Option Nat} {cs : List Con} (h : Reg w S m cs) (hb : Below w.heap.size w w') : Reg w' S m cs := by
  obtain ⟨xs, h1, h2⟩ := h
  exact ⟨xs, h1.grow hb, h2⟩
theorem Reg.lt {w : World} {S : Nat} {m : Option Nat} {cs : List Con} (h : Reg w S m cs) : ∀ q, isP S m q → q < w.heap.size := by
  obtain ⟨xs, h1, h2⟩ := h
  exact h1.lt
def con0 (a b c : Int) (n : Nat) (flat : List Int) (h : Int) : Con := (⟨a, b, c, h, 0, 0, 0, 0, false, 0, [], false, 0, 0, 0, [], []⟩, (n, bvals flat), (0, []), (0, []), (0, []))
def sm1 (a b c : Int) (A : Option Addr) (n cap : Nat) (flat : List Int) (h : Int) : Sm := ⟨⟨a, b, c, h, 0, 0, 0, 0, false, 0, [], false, 0, 0, 0, [], []⟩, ⟨A, n, cap, bvals flat⟩, rf0, rf0, rf0⟩
theorem sm1_con (a b c : Int) (A : Option Addr) (n cap : Nat) (flat : List Int) (h : Int) : (sm1 a b c A n cap flat h).con = con0 a b c n flat h := rfl
theorem b53 (a b c : Int) (A : Option Addr) (n cap : Nat) (flat : List Int) (h : Int) (w : World) : (Instr.build 53 #[(0, .agg #[.int .i64 a, .int .i64 b, .int .i64 c, .slice A n cap]), (1, .int .i64 h)]).run Try.prog w = .ok (.agg (sdV (sm1 a b c A n cap flat h)).toArray) w := by kernel_rfl
theorem wpList_bld2 {ops : Array Oper} {rest : List Oper} {o : Oper} {a : Act} {w : World} {Q : Exit → Act → World → Prop} (hw : Region.wanted o (yielded ops a.tmps) = true) (T : TypeId) (x y : Operand) (i j : Nat) (u v z : Value) (ho : o.op = .build T #[(i, x), (j, y)]) (hx : a.eval x = u) (hy : a.eval y = z) (hr : ∀ w, (Instr.build T #[(i, u), (j, z)]).run Try.prog w = .ok v w)
    (hK : wpList Try.prog ops Q rest (a.put o.dst v) w) : wpList Try.prog ops Q (o :: rest) a w := by
  unfold wpList
  rw [if_pos hw]
  refine .inl ?_
  unfold Oper.wp execOp
  simp only [ho, List.map_toArray, List.map_cons, List.map_nil, hx, hy, Sem.run_bind, hr, Result.andThen_ok]
  exact hK
/-- a row of hashes is none of the registry's own blocks -/
theorem src_rf {w : World} {S : Nat} {m : Option Nat} {xs : List Sm} {A : Option Addr} {n cap : Nat} {flat : List Int} (h : RegM w S m xs) (hs : Src w A (8 * n) flat) (h1 : 1 ≤ n) (hc : n ≤ cap) (hn : n ≤ 100) : RfAt w (isP S m) 8 ⟨A, n, cap, bvals flat⟩ := by
  have hl : flat.length = 8 * n := hs.1
  rcases hs.2 with h0 | ⟨g, o, rfl, hr⟩
  · omega
  have hg : w.cell? ⟨g, o + 0, none⟩ = some (.int .u8 (flat.getD 0 0)) := hr 0 (by omega)
  have hlt := World.block_lt_of_cell? w ⟨g, o + 0, none⟩ hg
  refine ⟨⟨by rw [bvals_len, hl, Nat.mul_comm], bvals_one flat, .inr ⟨g, o, rfl, hlt, fun j v hj => ?_⟩⟩, hc, hn, fun a ha => ?_, fun ha => (by cases ha)⟩
  · have hj2 := (List.getElem?_eq_some_iff.1 hj).1
    rw [bvals_len, hl] at hj2
    rw [hr j hj2, ← hj]
    simp [bvals, List.getD, hl, hj2]
  · cases ha
    refine ⟨rfl, hlt, ?_⟩
    rintro (rfl | rfl)
    · have hb := h.blk
      unfold BL at hb
      rw [cell_of_row w _ _ _ _ (0, 0) hb] at hg
      cases o with
      | zero => simp at hg
      | succ o => simp at hg
    · obtain ⟨D, ⟨es, clock, hb, _⟩, _⟩ := h.map
      simp [World.cell?, hb] at hg
theorem sm1_at {w : World} {S : Nat} {m : Option Nat} {xs : List Sm} {A : Option Addr} {n cap : Nat} {flat : List Int} (a b c ht : Int) (h : RegM w S m xs) (hs : Src w A (8 * n) flat) (h1 : 1 ≤ n) (hc : n ≤ cap) (hn : n ≤ 100) : SdAt w (isP S m) (sm1 a b c A n cap flat ht) := ⟨src_rf h hs h1 hc hn, rf0_at _ _ _, rf0_at _ _ _, rf0_at _ _ _⟩
/-- what Create does and answers -/
def creC (cs : List Con) (ok : Bool) (c : Con) : List Con × Int × Int := if ok = false then (cs, 0, 4) else if 8 ≤ cs.length then (cs, 0, 18) else (cs ++ [c], cs.length, 0)
theorem may_n {K : Nat → List Int} {n : Nat} {a b c : Int} (h : mayP K n a b c = true) : 1 ≤ n ∧ n ≤ 5 := by
  unfold mayP mayK _root_.Go.Proofs.Ytmcmdpbdipgahaa.win at h
  simp only [Bool.and_eq_true, decide_eq_true_eq] at h
  omega
attribute [local irreducible] sdV MapV z0 fnS bvals mayP sm1
set_option maxHeartbeats 4000000 in
theorem kCreate (S : Nat) (m : Option Nat) (cs : List Con) (a b c : Int) (A : Option Addr) (n cap : Nat) (flat : List Int) (ht : Int) (w : World) (h : Reg w S m cs) (hn : cs.length ≤ 8) (hs : Src w A (8 * n) flat) (hc : n ≤ cap) (hc2 : cap ≤ maxLen) :
    Calls Try.prog 12 #[.pointer (some ⟨S, 0, none⟩), .agg #[.int .i64 a, .int .i64 b, .int .i64 c, .slice A n cap], .int .i64 ht] w fun e w' => ∃ r m', r = creC cs (mayP (at8 flat) n a b c) (con0 a b c n flat ht) ∧ e = .returned (.tuple #[.int .i64 r.2.1, .int .i64 r.2.2]) ∧ Reg w' S m' r.1 ∧ (∀ b, m' = some b → m = some b ∨ w.heap.size ≤ b) ∧ Fr w w' (isP S m) := by
  obtain ⟨xs, hr, rfl⟩ := h
  rw [List.length_map] at hn
  obtain ⟨N, hN⟩ : ∃ N, w.heap.size = N := ⟨_, rfl⟩
  have HN := Lib.hid hN
  obtain ⟨v, hv⟩ : ∃ v, w.alloc (Obj.cells #[.int .i64 a, .int .i64 b, .int .i64 c, .slice A n cap] 38) = v := ⟨_, rfl⟩
  have P0 : Hid (PB v N a b c (.slice A n cap)) := Lib.hid (by subst hv; exact pb_new hN a b c (.slice A n cap))
  have BV : Hid (Below N w v) := Lib.hid (by subst hv hN; exact (Below.refl _ w).alloc (Nat.le_refl _) _)
  have VS : Hid (v.heap.size = N + 1) := Lib.hid (by subst hv hN; show _ = _; rw [World.size_alloc])
  have HR : Hid (RegM v S m xs) := Lib.hid (hr.grow (by rw [hN]; exact BV.out))
  have HSR : Hid (Src v A (8 * n) flat) := Lib.hid (hs.keep fun k hk => BV.out.block k (by rw [← hN]; exact hk))
  have CM : Hid (Calls Try.prog 33 #[.agg #[.int .i64 a, .int .i64 b, .int .i64 c, .slice A n cap]] v fun e w' => e = .returned (.bool (mayP (at8 flat) n a b c)) ∧ Below v.heap.size v w') := Lib.hid (kMay A n cap flat a b c v HSR.out hc hc2)
  have HC := Lib.hid hc
  have HNL := Lib.hid hn
  have BN : Hid (∀ q, isP S m q → q < N) := Lib.hid fun q hq => by rw [← hN]; exact hr.lt q hq
  clear hr hs hc hc2 hn
  obtain ⟨ok, hok⟩ : ∃ ok, mayP (at8 flat) n a b c = ok := ⟨_, rfl⟩
  rw [hok] at CM ⊢
  have HOK := Lib.hid hok
  clear hok
  cases ok
  · go_enter Try.func12, Try.ntmps12
    go_upto_region 3 with (fail)
    (try rw [hv])
    go_wp2_with (first
      | (refine wpList_load_midG (by rfl) 38 (.tmp 4) rfl N 0 rfl [.int .i64 a, .int .i64 b, .int .i64 c, .slice A n cap] _ (pb_range P0.out) Try.underlying38 rfl (pb_info a b c _) ?_)
      | (go_at_call 33; refine CM.out.mono ?_; rintro e w1 ⟨rfl, hb⟩; have B1 := Lib.hid hb; clear hb)
      | fail)
    go_ret2
    exact ⟨_, m, rfl, rfl, ⟨xs, HR.out.grow B1.out, rfl⟩, fun b e => .inl e, (Fr.of_below (by rw [HN.out]; exact BV.out)).trans (Fr.of_below (P := isP S m) B1.out) fun q hq => .inl hq⟩
  · obtain ⟨L, hL⟩ : ∃ L, xs.length = L := ⟨_, rfl⟩
    have HL := Lib.hid hL
    have hml : (xs.map Sm.con).length = L := by rw [List.length_map, hL]
    have HML := Lib.hid hml
    clear hml hL
    by_cases h8 : 8 ≤ L
    · have h8' : decide ((8 : Int) ≤ (L : Int)) = true := by simp; omega
      have H8 := Lib.hid h8
      clear h8
      go_enter Try.func12, Try.ntmps12
      go_upto_region 3 with (fail)
      (try rw [hv])
      go_wp2_with (first
        | (refine wpList_load_midG (by rfl) 38 (.tmp 4) rfl N 0 rfl [.int .i64 a, .int .i64 b, .int .i64 c, .slice A n cap] _ (pb_range P0.out) Try.underlying38 rfl (pb_info a b c _) ?_)
        | (go_at_call 33; refine CM.out.mono ?_; rintro e w1 ⟨rfl, hb⟩; have B1 := Lib.hid hb; clear hb)
        | (go_at_call 28; refine (rLen S m xs _ (HR.out.grow B1.out)).mono ?_; rintro e w2 ⟨rfl, rfl⟩; rw [HL.out])
        | fail)
      go_ret2
      refine ⟨_, m, rfl, ?_, ⟨xs, HR.out.grow B1.out, ?_⟩, fun b e => .inl e, (Fr.of_below (by rw [HN.out]; exact BV.out)).trans (Fr.of_below (P := isP S m) B1.out) fun q hq => .inl hq⟩
      · unfold creC; rw [if_neg (by decide), HML.out, if_pos H8.out]; try rfl
      · unfold creC; rw [if_neg (by decide), HML.out, if_pos H8.out]; try rfl
    · have h8' : decide ((8 : Int) ≤ (L : Int)) = false := by simp; omega
      have H8 := Lib.hid h8
      have SB := fun w => b53 a b c A n cap flat ht w
      clear h8
      go_enter Try.func12, Try.ntmps12
      go_upto_region 3 with (fail)
      (try rw [hv])
      go_upto_region 8 with (first
        | (refine wpList_load_midG (by rfl) 38 (.tmp 4) rfl N 0 rfl [.int .i64 a, .int .i64 b, .int .i64 c, .slice A n cap] _ (pb_range P0.out) Try.underlying38 rfl (pb_info a b c _) ?_)
        | (go_at_call 33; refine CM.out.mono ?_; rintro e w1 ⟨rfl, hb⟩; have B1 := Lib.hid hb; clear hb)
        | (go_at_call 28; refine (rLen S m xs _ (HR.out.grow B1.out)).mono ?_; rintro e w2 ⟨rfl, rfl⟩; rw [HL.out])
        | fail)
      have P1 : Hid (PB w1 N a b c (.slice A n cap)) := Lib.hid ((B1.out.block N (by have := VS.out; omega)).trans P0.out)
      have H1 := may_n HOK.out
      have HX : Hid (SdAt w1 (isP S m) (sm1 a b c A n cap flat ht)) := Lib.hid (sm1_at a b c ht (HR.out.grow B1.out) (HSR.out.keep B1.out.block) H1.1 HC.out (by omega))
      have H100 : Hid (xs.length ≤ 100) := Lib.hid (by have := HNL.out; omega)
      clear H1 hv
      go_wp2_with (first
        | (refine wpList_load_midG (by rfl) 38 (.tmp 4) rfl N 0 rfl [.int .i64 a, .int .i64 b, .int .i64 c, .slice A n cap] _ (pb_range P1.out) Try.underlying38 rfl (pb_info a b c _) ?_)
        | (refine wpList_bld2 (by rfl) 53 (.tmp 20) (.tmp 21) 0 1 (.agg #[.int .i64 a, .int .i64 b, .int .i64 c, .slice A n cap]) (.agg (sdV (sm1 a b c A n cap flat ht)).toArray) (.int .i64 ht) rfl rfl rfl SB ?_)
        | (go_at_call 34; rw [← HL.out]; refine (kPut S m xs xs.length _ w1 (HR.out.grow B1.out) (Nat.le_refl _) H100.out HX.out).mono ?_; rintro e w2 ⟨rfl, m', x', k1, k2, k3, k4⟩; have K1 := Lib.hid k1; have K2 := Lib.hid k2; have K3 := Lib.hid k3; have K4 := Lib.hid k4; clear k1 k2 k3 k4)
        | fail)
      go_ret2
      have hp : putS xs xs.length x' = xs ++ [x'] := by unfold putS; rw [if_neg (by omega)]
      have hcr : creC (xs.map Sm.con) true (con0 a b c n flat ht) = (xs.map Sm.con ++ [con0 a b c n flat ht], ((L : Nat) : Int), 0) := by unfold creC; rw [if_neg (by decide), HML.out, if_neg H8.out]
      refine ⟨_, m', rfl, ?_, ⟨xs ++ [x'], by rw [← hp]; exact K2.out, ?_⟩, fun b e => (K3.out b e).imp id fun h => ?_, (Fr.of_below (by rw [HN.out]; exact BV.out)).trans ((Fr.of_below (P := isP S m) B1.out).trans K4.out fun q hq => .inl hq) fun q hq => .inl hq⟩
      · rw [hcr]; (try rw [HL.out]); try rfl
      · rw [hcr, List.map_append, List.map_cons, List.map_nil, K1.out, sm1_con]
      · have := BV.out.size; have := B1.out.size; have := HN.out; omega
end Go.Proofs.Ytmcmdpbdipgahaa

/-
  Side.
-/
namespace Go.Proofs.Ytmcmdpbdipgahaa
open Go.RowKit Go.Maps
set_option maxRecDepth 100000
theorem results_sd {fn : Func} {p u : Tmp} (h : fn.results = #[.cell p 53, .tmp u]) (tmps : Array Value) (w : World) (g : Nat) (cs : List Value) (v : Value) (hp : tmps.getD p undef = .pointer (some ⟨g, 0, none⟩)) (hr : w.rangeAt g 0 cs) (hi : (Try.prog.info? 53).map (·.size) = some cs.length) (hu : tmps.getD u undef = v) :
    (results fn tmps).run Try.prog w = .ok (.tuple #[.agg cs.toArray, v]) w := by
  rw [results_cell_tmp h, hp, hu]
  simp only [asAddr, Sem.run_pure, Result.andThen_ok, run_loadVar_mid w g 0 53 cs _ hr Try.underlying53 rfl hi]
theorem step_allocS {w : World} {ops : Array Oper} {o : Oper} {a : Act} {K : Act → World → Prop} {Q : Exit → Act → World → Prop} {E : Prop} (hgd : o.guard = none) (ho : o.op = .alloc 53)
    (h : K (a.put o.dst (.pointer (some ⟨w.heap.size, 0, none⟩))) (w.alloc (Obj.cells (sdV sm0).toArray 53))) : if Region.wanted o (yielded ops a.tmps) = true then Oper.wp Try.prog o a w K Q else E := by
  have hw : Region.wanted o (yielded ops a.tmps) = true := by simp [Region.wanted, hgd]
  have hz : ∀ w, (zeroValue 53).run Try.prog w = .ok (.agg (sdV sm0).toArray) w := z53
  rw [if_pos hw]
  unfold Oper.wp execOp
  simp [ho, go_sem, hz]
  exact h
theorem step_storeR {w : World} {ops : Array Oper} {o : Oper} {a : Act} {K : Act → World → Prop} {Q : Exit → Act → World → Prop} {E : Prop} (hgd : o.guard = none) (ty : TypeId) (x y : Operand) (ho : o.op = .store ty x y)
    (hd : o.dst = none) (g : Nat) (cells : Array Value) (hx : a.eval x = .pointer (some ⟨g, 0, none⟩)) (hy : a.eval y = .agg cells)
    (t : TypeId) (old : Array Value) (hg : w.heap[g]? = some (.cells old t (0, 0))) (hi : (Try.prog.info? ty).map (·.size) = some cells.size)
    (hold : old.size = cells.size) (h1 : cells.all (·.oneCell') = true)
    (h : K a (w.setRow g cells)) : if Region.wanted o (yielded ops a.tmps) = true then Oper.wp Try.prog o a w K Q else E := by
  have hw : Region.wanted o (yielded ops a.tmps) = true := by simp [Region.wanted, hgd]
  rw [if_pos hw]
  exact wp_store_row ty x y ho g cells hx hy t old hg hi hold h1 (by rw [hd]; exact h)
/-- the record of a number, or the empty one -/
def atS (xs : List Sm) (i : Int) : Sm := if 0 ≤ i ∧ i < xs.length then xs.getD i.toNat sm0 else sm0
theorem fn_get (xs : List Sm) (i : Int) : (fnS xs i).getD z0 = sdV (atS xs i) ∧ (fnS xs i).isSome = decide (0 ≤ i ∧ i < xs.length) := by
  unfold fnS atS
  by_cases h : 0 ≤ i ∧ i < xs.length
  · rw [if_pos h, if_pos h, decide_eq_true h]; exact ⟨rfl, rfl⟩
  · rw [if_neg h, if_neg h, decide_eq_false h]; exact ⟨rfl, rfl⟩
theorem sm0_at (w : World) (P : Nat → Prop) : SdAt w P sm0 := ⟨rf0_at _ _ _, rf0_at _ _ _, rf0_at _ _ _, rf0_at _ _ _⟩
theorem RegM.at {w : World} {S : Nat} {m : Option Nat} {xs : List Sm} (h : RegM w S m xs) (i : Int) : SdAt w (isP S m) (atS xs i) := by
  unfold atS
  by_cases hi : 0 ≤ i ∧ i < xs.length
  · rw [if_pos hi]
    refine h.rows _ ?_
    rw [List.getD_eq_getElem?_getD, List.getElem?_eq_getElem (by omega)]
    exact List.getElem_mem (by omega)
  · rw [if_neg hi]
    exact sm0_at _ _
theorem RegM.look {w : World} {S : Nat} {m : Option Nat} {xs : List Sm} (h : RegM w S m xs) {i : Int} (hi : wfI i) : (Instr.lookup 74 (.map m) (.int .i64 i) true).run Try.prog w = .ok (.tuple #[.agg (sdV (atS xs i)).toArray, .bool (decide (0 ≤ i ∧ i < xs.length))]) w := by
  have hm := h.map
  cases m with
  | none =>
    have hm : xs = [] := hm
    subst hm
    have := get_nilV w hi
    rw [show atS [] i = sm0 from if_neg (by simp), decide_eq_false (by simp)]
    exact this
  | some b =>
    have := MapV.get hm hi
    rw [(fn_get xs i).1, (fn_get xs i).2] at this
    exact this
attribute [local irreducible] sdV MapV z0 fnS atS
set_option maxHeartbeats 4000000 in
theorem rSide (S : Nat) (m : Option Nat) (xs : List Sm) (i : Int) (w : World) (h : RegM w S m xs) (hi : wfI i) :
    Calls Try.prog 16 #[.pointer (some ⟨S, 0, none⟩), .int .i64 i] w fun e w' => ∃ x', e = .returned (.tuple #[.agg (sdV x').toArray, .bool (decide (0 ≤ i ∧ i < xs.length))]) ∧ x'.con = (atS xs i).con ∧ SdAt w' (fun q => q < w.heap.size) x' ∧ Below w.heap.size w w' := by
  obtain ⟨N, hN⟩ : ∃ N, w.heap.size = N := ⟨_, rfl⟩
  have HN := Lib.hid hN
  obtain ⟨v, hv⟩ : ∃ v, w.alloc (Obj.cells (sdV sm0).toArray 53) = v := ⟨_, rfl⟩
  have RC : Hid (BL v N (sdV sm0) 53) := Lib.hid (by subst hv hN; exact heap_alloc_last w _)
  have BV : Hid (Below N w v) := Lib.hid (by subst hv hN; exact (Below.refl _ w).alloc (Nat.le_refl _) _)
  have VS : Hid (v.heap.size = N + 1) := Lib.hid (by subst hv hN; show _ = _; rw [World.size_alloc])
  have hg := h.grow (show Below w.heap.size w v by rw [hN]; exact BV.out)
  have lk := hg.look hi
  have c0 := hg.c0
  have HA : Hid (SdAt v (isP S m) (atS xs i)) := Lib.hid (hg.at i)
  generalize decide (0 ≤ i ∧ i < xs.length) = D at *
  obtain ⟨x, hx⟩ : ∃ x, atS xs i = x := ⟨_, rfl⟩
  rw [hx] at lk HA ⊢
  have hz : ∀ w, (zeroValue 53).run Try.prog w = .ok (.agg (sdV sm0).toArray) w := z53
  clear h hg hi hx
  go_enter Try.func16, Try.ntmps16
  go_upto_region 3 with (fail)
  (try rw [hv])
  clear hv
  have sx : Hid ((sdV x).length = 42) := Lib.hid (sd_len x)
  have s0 : Hid ((sdV sm0).length = 42) := Lib.hid (sd_len sm0)
  go_upto_region 4 with (first
    | (refine wpList_store_rowTo rfl 53 (.tmp 6) (.tmp 18) rfl rfl v.heap.size (sdV x).toArray rfl rfl 53 _ (heap_alloc_last v _) (szA sz53 sx.out) (by rw [List.size_toArray, List.size_toArray, sx.out, s0.out]) (all_oneCell_toArray (sd_one x)) ?_)
    | fail)
  obtain ⟨M, hM⟩ : ∃ M, v.heap.size = M := ⟨_, rfl⟩
  have R1 : Hid (BL ((v.alloc (Obj.cells (sdV sm0).toArray 53)).setRow v.heap.size (sdV x).toArray) v.heap.size (sdV x) 53) := Lib.hid (setRow_heap _ _ _ _ _ _ (heap_alloc_last v _))
  have B1 : Hid (Below M v ((v.alloc (Obj.cells (sdV sm0).toArray 53)).setRow M (sdV x).toArray)) := Lib.hid (by subst hM; exact below_setRow ((Below.refl _ v).alloc (Nat.le_refl _) _) (Nat.le_refl _) _)
  rw [hM] at R1 ⊢
  generalize (v.alloc (Obj.cells (sdV sm0).toArray 53)).setRow M (sdV x).toArray = u at *
  have B1 : Hid (Below v.heap.size v u) := Lib.hid (by rw [hM]; exact B1.out)
  have HU : Hid (SdAt u (isP S m) x) := Lib.hid (HA.out.grow B1.out)
  have BU : Hid (Below N w u) := Lib.hid (BV.out.trans (B1.out.mono (by have := VS.out; omega)))
  have RU : Hid (BL u N (sdV sm0) 53) := Lib.hid (bl_keep RC.out (B1.out.block N (by have := VS.out; omega)))
  have NU : Hid (N < u.heap.size) := Lib.hid (bl_lt RU.out)
  clear lk c0 HA hM
  go_wp2_with (first
    | (refine wpList_load_midG (by rfl) 53 (.tmp 6) rfl M 0 rfl (sdV x) _ (range_of R1.out) Try.underlying53 rfl (szL sz53 sx.out) ?_)
    | fail)
  refine (kOwn _ x u HU.out).mono ?_
  rintro e w1 ⟨x', rfl, o1, o2, o3⟩
  have O1 := Lib.hid o1
  have O2 := Lib.hid o2
  have O3 := Lib.hid o3
  have RW : Hid (BL w1 N (sdV sm0) 53) := Lib.hid (bl_keep RU.out (o3.block N NU.out))
  have sx' : Hid ((sdV x').length = 42) := Lib.hid (sd_len x')
  clear o1 o2 o3
  go_wp2_with (first
    | (refine wpList_store_rowTo rfl 53 (.tmp 4) (.tmp 21) rfl rfl N (sdV x').toArray rfl rfl 53 _ RW.out (szA sz53 sx'.out) (by rw [List.size_toArray, List.size_toArray, sx'.out, s0.out]) (all_oneCell_toArray (sd_one x')) ?_)
    | fail)
  refine bodyPost_ret (v := .tuple #[.agg (sdV x').toArray, .bool D]) (results_sd rfl _ _ N _ _ rfl (range_of (setRow_heap _ _ _ _ _ _ RW.out)) (szL sz53 sx'.out) rfl) rfl ⟨x', rfl, O1.out, ?_, ?_⟩
  · rw [HN.out]
    exact O2.out.keep (by simp) (fun q _ hq => setRow_other _ _ _ _ fun e => hq (by rw [e]; exact NU.out)) fun q _ hq => by have := NU.out; omega
  · rw [HN.out]
    exact below_setRow (BU.out.trans (O3.out.mono (Nat.le_of_lt NU.out))) (Nat.le_refl _) _
end Go.Proofs.Ytmcmdpbdipgahaa

/-
  Total: the sum over the map, in whatever order.
-/
namespace Go.Proofs.Ytmcmdpbdipgahaa
open Go.RowKit Go.Maps
set_option maxRecDepth 100000
/-- what has come: of the numbers below k, those that are no longer left -/
def gone (left : Lit → Bool) (f : Nat → Int) : Nat → Int
  | 0 => 0
  | k + 1 => gone left f k + if left (.int .i64 (k : Int)) then 0 else f k
def sumN (f : Nat → Int) : Nat → Int
  | 0 => 0
  | k + 1 => sumN f k + f k
theorem gone_all {left : Lit → Bool} (h : ∀ l, left l = false) (f : Nat → Int) : ∀ k, gone left f k = sumN f k
  | 0 => rfl
  | k + 1 => by unfold gone sumN; rw [gone_all h f k, h]; rfl
theorem gone_none {left : Lit → Bool} (f : Nat → Int) : ∀ k, (∀ i : Nat, i < k → left (.int .i64 (i : Int)) = true) → gone left f k = 0
  | 0, _ => rfl
  | k + 1, h => by
    unfold gone
    rw [gone_none f k fun i hi => h i (by omega), h k (by omega)]
    rfl
theorem same_int (i j : Int) : (Lit.int .i64 i).sameKey (.int .i64 j) = decide (i = j) := by
  by_cases e : i = j
  · subst e
    rw [WideAt.sameKey_self (show WideAt.IsKeyLit (Lit.int .i64 i) from trivial), decide_eq_true rfl]
  · rw [sameKey_ne (fun h => e (by simpa using h)), decide_eq_false e]
theorem gone_step {left : Lit → Bool} (f : Nat → Int) (j : Nat) (h : left (.int .i64 (j : Int)) = true) : ∀ k, gone (fun z => left z && !z.sameKey (.int .i64 (j : Int))) f k = gone left f k + if j < k then f j else 0
  | 0 => rfl
  | k + 1 => by
    unfold gone
    rw [gone_step f j h k, same_int]
    rcases Nat.lt_trichotomy k j with e | e | e
    · rw [decide_eq_false (by omega : ¬ (k : Int) = (j : Int)), if_neg (show ¬ j < k by omega), if_neg (show ¬ j < k + 1 by omega)]
      simp only [Bool.not_false, Bool.and_true, Int.add_zero]
    · subst e
      rw [decide_eq_true rfl, h, if_neg (show ¬ k < k by omega), if_pos (show k < k + 1 by omega)]
      simp
    · rw [decide_eq_false (by omega : ¬ (k : Int) = (j : Int)), if_pos (show j < k by omega), if_pos (show j < k + 1 by omega)]
      simp only [Bool.not_false, Bool.and_true]
      rw [Int.add_assoc, Int.add_comm (f j), ← Int.add_assoc]
theorem gone_bnd {left : Lit → Bool} {f : Nat → Int} {B : Int} (hB : 0 ≤ B) : ∀ k, (∀ i : Nat, i < k → 0 ≤ f i ∧ f i ≤ B) → 0 ≤ gone left f k ∧ gone left f k ≤ k * B
  | 0, _ => by unfold gone; simp
  | k + 1, h => by
    have h1 := gone_bnd (left := left) hB k fun i hi => h i (by omega)
    have h2 := h k (by omega)
    unfold gone
    have h3 : ((k + 1 : Nat) : Int) * B = k * B + B := by rw [Int.natCast_add, Int.add_mul]; simp
    rw [h3]
    generalize (k : Int) * B = z at *
    by_cases e : left (.int .i64 (k : Int)) = true
    · rw [if_pos e]; omega
    · rw [if_neg e]; omega
theorem sd_bal {w : World} {b : Nat} {x : Sm} {T : TypeId} (h : BL w b (sdV x) T) : w.cell? ⟨b, 5, none⟩ = some (.int .i64 x.s.bal) := sd_at h (i := 5) rfl
def balF (xs : List Sm) (i : Nat) : Int := (xs.getD i sm0).s.bal
attribute [local irreducible] sdV z0 fnS
set_option maxHeartbeats 4000000 in
theorem rTotal (S : Nat) (m : Option Nat) (xs : List Sm) (w : World) (h : RegM w S m xs) (hl : xs.length ≤ 100) (hb : ∀ i, i < xs.length → 0 ≤ balF xs i ∧ balF xs i ≤ 1125899906842624) :
    Calls Try.prog 27 #[.pointer (some ⟨S, 0, none⟩)] w fun e w' => e = .returned (.int .i64 (sumN (balF xs) xs.length)) ∧ Below w.heap.size w w' := by
  have c0 := h.c0
  have hm := h.map
  cases m with
  | none =>
    have hm : xs = [] := hm
    subst hm
    clear h hb hl
    have hrg := run_range_nilMap (P := Try.prog) w 74 3 53 Try.underlying74
    have hnx : ∀ ty, (Instr.next (.pointer (some ⟨w.heap.size, 0, none⟩)) false ty).run Try.prog (w.alloc (.mapIter none 0 #[] 0)) = _ := fun ty => run_next_nilMap _ ty 0 0 #[]
    go_enter Try.func27, Try.ntmps27
    go_wp2
    refine wp_loop_rounds 1 ?_
    rw [rounds_succ]
    go_wp2
    go_ret
    exact ⟨rfl, (Below.refl _ w).alloc (Nat.le_refl _) _⟩
  | some b =>
    have hm : MapV w b xs.length (fnS xs) := hm
    obtain ⟨D, hown, hsz, hD, hpl⟩ := hm
    have HD := Lib.hid hD
    have HP := Lib.hid hpl
    have HB := Lib.hid hb
    have HL := Lib.hid hl
    obtain ⟨N, hN⟩ : ∃ N, w.heap.size = N := ⟨_, rfl⟩
    have HN := Lib.hid hN
    have hz : ∀ w, (zeroValue 53).run Try.prog w = .ok (.agg (sdV sm0).toArray) w := z53
    have s0 : Hid ((sdV sm0).length = 42) := Lib.hid (sd_len sm0)
    clear h hb hl hD hpl
    go_enter Try.func27, Try.ntmps27
    go_wp2_with (first
      | (at_range; refine wpList_range_own _ rfl _ 74 rfl 3 53 ki3 Try.underlying74 _ b xs.length _ rfl hown ?_; intro w0 hrg0 hg0 hs0)
      | fail)
    go_frame
    rw [hN] at hrg0 hs0 ⊢
    go_loopw [3] (fun sv wr => ∃ (left : Lit → Bool) (cnt : Nat), wr.ranges Try.prog 3 (plR 42) b N xs.length D left cnt ∧ sv = .int .i64 (gone left (balF xs) xs.length) ∧ Below N w wr) (fun _ wr => wr.rangeLeft b N)
    case atStart =>
      refine ⟨_, _, hrg0, ?_, (Below.refl _ w).grown hg0 (Nat.le_of_eq HN.out.symm) (fun j hj => by cases hj)⟩
      rw [gone_none]
      intro i hi
      rw [(HD.out i (by unfold wfI; have := HL.out; omega)).1, (fn_get xs i).2, decide_eq_true (by omega)]
    case round =>
      obtain ⟨left, cnt, hrg, rfl, hbel⟩ := hrel
      have HG : Hid (0 ≤ gone left (balF xs) xs.length ∧ gone left (balF xs) xs.length ≤ xs.length * 1125899906842624) := Lib.hid (gone_bnd (by decide) _ HB.out)
      go_wp2_with (first
        | (at_next; refine wpList_next_ranges _ rfl _ rfl 3 ki3 (plR 42) (Value.int .i64) (fun c : List Value => Value.agg c.toArray) (fun key kl hk => by obtain ⟨k, e, _⟩ := key3_inv hk; exact ⟨k, e⟩) (fun v y hv => by obtain ⟨c, e, _⟩ := plR_inv hv; exact ⟨c, e⟩) b N xs.length _ _ _ rfl hrg ?_ ?_)
        | fail)
      · intro hc0 hl0
        rw [gone_all hl0]
        go_wp2
        go_ret
        exact ⟨rfl, by rw [HN.out]; exact hbel⟩
      · intro k c kl yd yp w2 cnt2 hkey hlk hv hat hrg2 hlt hg2 hs2 hen
        obtain ⟨c', e1, hc, e2⟩ := plR_inv hv
        obtain ⟨k', e3, rfl, hwf⟩ := key3_inv hkey
        cases e3
        have e1 := agg_inj e1
        subst e1
        obtain ⟨rfl, rfl⟩ := Prod.mk.inj e2
        have hh := has_true_of_atKey hat
        obtain ⟨d1, d2⟩ := HD.out k hwf
        rw [d1, (fn_get xs k).2] at hh
        have hk := of_decide_eq_true hh
        obtain ⟨j, rfl⟩ : ∃ j : Nat, k = (j : Int) := ⟨k.toNat, by omega⟩
        have hF : fnS xs (j : Int) = some (sdV (xs.getD j sm0)) := by unfold fnS; rw [if_pos hk, Int.toNat_natCast]
        have hcx : sdV (xs.getD j sm0) = c := by
          have e4 := (hat (pD z0)).symm.trans d2
          rw [hF] at e4
          exact (pD_inj hc (HP.out _ _ hF) e4).symm
        have WS : Hid (wrap64 (gone left (balF xs) xs.length + (xs.getD j sm0).s.bal) = gone (fun z => left z && !z.sameKey (.int .i64 (j : Int))) (balF xs) xs.length) := Lib.hid (by
          rw [gone_step _ _ hlk, if_pos (by omega)]
          have h1 := HB.out j (by omega)
          have h2 := HG.out
          have h3 := HL.out
          have h4 : balF xs j = (xs.getD j sm0).s.bal := rfl
          rw [h4] at h1 ⊢
          have h5 : (xs.length : Int) * 1125899906842624 ≤ 100 * 1125899906842624 := Int.mul_le_mul_of_nonneg_right (by omega) (by decide)
          generalize (xs.length : Int) * 1125899906842624 = z at *
          unfold wrap64; omega)
        obtain ⟨x, hx⟩ : ∃ x, xs.getD j sm0 = x := ⟨_, rfl⟩
        rw [hx] at hcx WS
        subst hcx
        have BW2 : Hid (Below N w w2) := Lib.hid (hbel.grown hg2 (by rw [← HN.out]; exact hbel.size) fun j hj => by cases hj; exact Nat.le_refl _)
        have hsx : Hid ((sdV x).length = 42) := Lib.hid (sd_len x)
        have R3 : Hid (BL ((w2.alloc (Obj.cells (sdV sm0).toArray 53)).setRow w2.heap.size (sdV x).toArray) w2.heap.size (sdV x) 53) := Lib.hid (setRow_heap _ _ _ _ _ _ (heap_alloc_last w2 _))
        have hb3 : Below w2.heap.size w2 ((w2.alloc (Obj.cells (sdV sm0).toArray 53)).setRow w2.heap.size (sdV x).toArray) := below_setRow ((Below.refl _ w2).alloc (Nat.le_refl _) _) (Nat.le_refl _) _
        have RG3 := Lib.hid (hrg2.kept (row := none) ⟨hb3.os, hb3.tape, hb3.output, hb3.size, fun k hk _ => hb3.block k hk⟩ (by simp) (by simp))
        have B3 := Lib.hid (BW2.out.trans (hb3.mono (by rw [hs2, ← HN.out]; exact hbel.size)))
        have HLT := Lib.hid hlt
        have RL := Lib.hid hrg.left_eq
        have c5 := sd_bal R3.out
        obtain ⟨w3, hw3⟩ : ∃ w3, (w2.alloc (Obj.cells (sdV sm0).toArray 53)).setRow w2.heap.size (sdV x).toArray = w3 := ⟨_, rfl⟩
        rw [hw3] at R3 RG3 B3 c5
        clear hb3 hv hkey hat hh d1 d2 hF hk hc hlk hlt hrg hrg2 hx hwf hg2 hs2 hbel
        go_wp2_with (first
          | (refine wpList_store_rowTo rfl 53 (.tmp 5) (.tmp 16) rfl rfl w2.heap.size (sdV x).toArray rfl rfl 53 _ (heap_alloc_last _ _) (szA sz53 hsx.out) (by rw [List.size_toArray, List.size_toArray, hsx.out, s0.out]) (all_oneCell_toArray (sd_one x)) ?_; rw [hw3])
          | fail)
        go_roundw
        case rel => exact ⟨_, cnt2, RG3.out, congrArg _ WS.out, B3.out⟩
        case measure => rw [RG3.out.left_eq, RL.out]; exact HLT.out
end Go.Proofs.Ytmcmdpbdipgahaa
