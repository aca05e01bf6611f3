/-
  Create.
-/
import Derived.Test.YtmcmdpbdipgahaaR5
import Derived.Test.YtmcmdpbdipgahaaQ5
namespace Go.Proofs.Ytmcmdpbdipgahaa
open Go.RowKit Go.Maps
set_option maxRecDepth 100000
/-- the registry has what cs says -/
def Reg (w : World) (S : Nat) (m : Option Nat) (cs : List Con) : Prop := ∃ xs, RegM w S m xs ∧ xs.map Sm.con = cs
theorem Reg.grow {w w' : World} {S : Nat} {m : Option Nat} {cs : List Con} (h : Reg w S m cs) (hb : Below w.heap.size w w') : Reg w' S m cs := by
  obtain ⟨xs, h1, h2⟩ := h
  exact ⟨xs, h1.grow hb, h2⟩
theorem Reg.lt {w : World} {S : Nat} {m : Option Nat} {cs : List Con} (h : Reg w S m cs) : ∀ q, isP S m q → q < w.heap.size := by
  obtain ⟨xs, h1, h2⟩ := h
  exact h1.lt
def con0 (a b c : Int) (n : Nat) (flat : List Int) (h : Int) : Con := (⟨a, b, c, h, 0, 0, 0, 0, false, 0, [], false, 0, 0, 0, [], []⟩, (n, bvals flat), (0, []), (0, []), (0, []))
def sm1 (a b c : Int) (A : Option Addr) (n cap : Nat) (flat : List Int) (h : Int) : Sm := ⟨⟨a, b, c, h, 0, 0, 0, 0, false, 0, [], false, 0, 0, 0, [], []⟩, ⟨A, n, cap, bvals flat⟩, rf0, rf0, rf0⟩
theorem sm1_con (a b c : Int) (A : Option Addr) (n cap : Nat) (flat : List Int) (h : Int) : (sm1 a b c A n cap flat h).con = con0 a b c n flat h := rfl
theorem b53 (a b c : Int) (A : Option Addr) (n cap : Nat) (flat : List Int) (h : Int) (w : World) : (Instr.build 53 #[(0, .agg #[.int .i64 a, .int .i64 b, .int .i64 c, .slice A n cap]), (1, .int .i64 h)]).run Try.prog w = .ok (.agg (sdV (sm1 a b c A n cap flat h)).toArray) w := by kernel_rfl
theorem wpList_bld2 {ops : Array Oper} {rest : List Oper} {o : Oper} {a : Act} {w : World} {Q : Exit → Act → World → Prop} (hw : Region.wanted o (yielded ops a.tmps) = true) (T : TypeId) (x y : Operand) (i j : Nat) (u v z : Value) (ho : o.op = .build T #[(i, x), (j, y)]) (hx : a.eval x = u) (hy : a.eval y = z) (hr : ∀ w, (Instr.build T #[(i, u), (j, z)]).run Try.prog w = .ok v w)
    (hK : wpList Try.prog ops Q rest (a.put o.dst v) w) : wpList Try.prog ops Q (o :: rest) a w := by
  unfold wpList
  rw [if_pos hw]
  refine .inl ?_
  unfold Oper.wp execOp
  simp only [ho, List.map_toArray, List.map_cons, List.map_nil, hx, hy, Sem.run_bind, hr, Result.andThen_ok]
  exact hK
/-- a row of hashes is none of the registry's own blocks -/
theorem src_rf {w : World} {S : Nat} {m : Option Nat} {xs : List Sm} {A : Option Addr} {n cap : Nat} {flat : List Int} (h : RegM w S m xs) (hs : Src w A (8 * n) flat) (h1 : 1 ≤ n) (hc : n ≤ cap) (hn : n ≤ 100) : RfAt w (isP S m) 8 ⟨A, n, cap, bvals flat⟩ := by
  have hl : flat.length = 8 * n := hs.1
  rcases hs.2 with h0 | ⟨g, o, rfl, hr⟩
  · omega
  have hg : w.cell? ⟨g, o + 0, none⟩ = some (.int .u8 (flat.getD 0 0)) := hr 0 (by omega)
  have hlt := World.block_lt_of_cell? w ⟨g, o + 0, none⟩ hg
  refine ⟨⟨by rw [bvals_len, hl, Nat.mul_comm], bvals_one flat, .inr ⟨g, o, rfl, hlt, fun j v hj => ?_⟩⟩, hc, hn, fun a ha => ?_, fun ha => (by cases ha)⟩
  · have hj2 := (List.getElem?_eq_some_iff.1 hj).1
    rw [bvals_len, hl] at hj2
    rw [hr j hj2, ← hj]
    simp [bvals, List.getD, hl, hj2]
  · cases ha
    refine ⟨rfl, hlt, ?_⟩
    rintro (rfl | rfl)
    · have hb := h.blk
      unfold BL at hb
      rw [cell_of_row w _ _ _ _ (0, 0) hb] at hg
      cases o with
      | zero => simp at hg
      | succ o => simp at hg
    · obtain ⟨D, ⟨es, clock, hb, _⟩, _⟩ := h.map
      simp [World.cell?, hb] at hg
theorem sm1_at {w : World} {S : Nat} {m : Option Nat} {xs : List Sm} {A : Option Addr} {n cap : Nat} {flat : List Int} (a b c ht : Int) (h : RegM w S m xs) (hs : Src w A (8 * n) flat) (h1 : 1 ≤ n) (hc : n ≤ cap) (hn : n ≤ 100) : SdAt w (isP S m) (sm1 a b c A n cap flat ht) := ⟨src_rf h hs h1 hc hn, rf0_at _ _ _, rf0_at _ _ _, rf0_at _ _ _⟩
/-- what Create does and answers -/
def creC (cs : List Con) (ok : Bool) (c : Con) : List Con × Int × Int := if ok = false then (cs, 0, 4) else if 8 ≤ cs.length then (cs, 0, 18) else (cs ++ [c], cs.length, 0)
theorem may_n {K : Nat → List Int} {n : Nat} {a b c : Int} (h : mayP K n a b c = true) : 1 ≤ n ∧ n ≤ 5 := by
  unfold mayP mayK _root_.Go.Proofs.Ytmcmdpbdipgahaa.win at h
  simp only [Bool.and_eq_true, decide_eq_true_eq] at h
  omega
attribute [local irreducible] sdV MapV z0 fnS bvals mayP sm1
set_option maxHeartbeats 4000000 in
theorem kCreate (S : Nat) (m : Option Nat) (cs : List Con) (a b c : Int) (A : Option Addr) (n cap : Nat) (flat : List Int) (ht : Int) (w : World) (h : Reg w S m cs) (hn : cs.length ≤ 8) (hs : Src w A (8 * n) flat) (hc : n ≤ cap) (hc2 : cap ≤ maxLen) :
    Calls Try.prog 12 #[.pointer (some ⟨S, 0, none⟩), .agg #[.int .i64 a, .int .i64 b, .int .i64 c, .slice A n cap], .int .i64 ht] w fun e w' => ∃ r m', r = creC cs (mayP (at8 flat) n a b c) (con0 a b c n flat ht) ∧ e = .returned (.tuple #[.int .i64 r.2.1, .int .i64 r.2.2]) ∧ Reg w' S m' r.1 ∧ (∀ b, m' = some b → m = some b ∨ w.heap.size ≤ b) ∧ Fr w w' (isP S m) := by
  obtain ⟨xs, hr, rfl⟩ := h
  rw [List.length_map] at hn
  obtain ⟨N, hN⟩ : ∃ N, w.heap.size = N := ⟨_, rfl⟩
  have HN := Lib.hid hN
  obtain ⟨v, hv⟩ : ∃ v, w.alloc (Obj.cells #[.int .i64 a, .int .i64 b, .int .i64 c, .slice A n cap] 38) = v := ⟨_, rfl⟩
  have P0 : Hid (PB v N a b c (.slice A n cap)) := Lib.hid (by subst hv; exact pb_new hN a b c (.slice A n cap))
  have BV : Hid (Below N w v) := Lib.hid (by subst hv hN; exact (Below.refl _ w).alloc (Nat.le_refl _) _)
  have VS : Hid (v.heap.size = N + 1) := Lib.hid (by subst hv hN; show _ = _; rw [World.size_alloc])
  have HR : Hid (RegM v S m xs) := Lib.hid (hr.grow (by rw [hN]; exact BV.out))
  have HSR : Hid (Src v A (8 * n) flat) := Lib.hid (hs.keep fun k hk => BV.out.block k (by rw [← hN]; exact hk))
  have CM : Hid (Calls Try.prog 33 #[.agg #[.int .i64 a, .int .i64 b, .int .i64 c, .slice A n cap]] v fun e w' => e = .returned (.bool (mayP (at8 flat) n a b c)) ∧ Below v.heap.size v w') := Lib.hid (kMay A n cap flat a b c v HSR.out hc hc2)
  have HC := Lib.hid hc
  have HNL := Lib.hid hn
  have BN : Hid (∀ q, isP S m q → q < N) := Lib.hid fun q hq => by rw [← hN]; exact hr.lt q hq
  clear hr hs hc hc2 hn
  obtain ⟨ok, hok⟩ : ∃ ok, mayP (at8 flat) n a b c = ok := ⟨_, rfl⟩
  rw [hok] at CM ⊢
  have HOK := Lib.hid hok
  clear hok
  cases ok
  · go_enter Try.func12, Try.ntmps12
    go_upto_region 3 with (fail)
    (try rw [hv])
    go_wp2_with (first
      | (refine wpList_load_midG (by rfl) 38 (.tmp 4) rfl N 0 rfl [.int .i64 a, .int .i64 b, .int .i64 c, .slice A n cap] _ (pb_range P0.out) Try.underlying38 rfl (pb_info a b c _) ?_)
      | (go_at_call 33; refine CM.out.mono ?_; rintro e w1 ⟨rfl, hb⟩; have B1 := Lib.hid hb; clear hb)
      | fail)
    go_ret2
    exact ⟨_, m, rfl, rfl, ⟨xs, HR.out.grow B1.out, rfl⟩, fun b e => .inl e, (Fr.of_below (by rw [HN.out]; exact BV.out)).trans (Fr.of_below (P := isP S m) B1.out) fun q hq => .inl hq⟩
  · obtain ⟨L, hL⟩ : ∃ L, xs.length = L := ⟨_, rfl⟩
    have HL := Lib.hid hL
    have hml : (xs.map Sm.con).length = L := by rw [List.length_map, hL]
    have HML := Lib.hid hml
    clear hml hL
    by_cases h8 : 8 ≤ L
    · have h8' : decide ((8 : Int) ≤ (L : Int)) = true := by simp; omega
      have H8 := Lib.hid h8
      clear h8
      go_enter Try.func12, Try.ntmps12
      go_upto_region 3 with (fail)
      (try rw [hv])
      go_wp2_with (first
        | (refine wpList_load_midG (by rfl) 38 (.tmp 4) rfl N 0 rfl [.int .i64 a, .int .i64 b, .int .i64 c, .slice A n cap] _ (pb_range P0.out) Try.underlying38 rfl (pb_info a b c _) ?_)
        | (go_at_call 33; refine CM.out.mono ?_; rintro e w1 ⟨rfl, hb⟩; have B1 := Lib.hid hb; clear hb)
        | (go_at_call 28; refine (rLen S m xs _ (HR.out.grow B1.out)).mono ?_; rintro e w2 ⟨rfl, rfl⟩; rw [HL.out])
        | fail)
      go_ret2
      refine ⟨_, m, rfl, ?_, ⟨xs, HR.out.grow B1.out, ?_⟩, fun b e => .inl e, (Fr.of_below (by rw [HN.out]; exact BV.out)).trans (Fr.of_below (P := isP S m) B1.out) fun q hq => .inl hq⟩
      · unfold creC; rw [if_neg (by decide), HML.out, if_pos H8.out]; try rfl
      · unfold creC; rw [if_neg (by decide), HML.out, if_pos H8.out]; try rfl
    · have h8' : decide ((8 : Int) ≤ (L : Int)) = false := by simp; omega
      have H8 := Lib.hid h8
      have SB := fun w => b53 a b c A n cap flat ht w
      clear h8
      go_enter Try.func12, Try.ntmps12
      go_upto_region 3 with (fail)
      (try rw [hv])
      go_upto_region 8 with (first
        | (refine wpList_load_midG (by rfl) 38 (.tmp 4) rfl N 0 rfl [.int .i64 a, .int .i64 b, .int .i64 c, .slice A n cap] _ (pb_range P0.out) Try.underlying38 rfl (pb_info a b c _) ?_)
        | (go_at_call 33; refine CM.out.mono ?_; rintro e w1 ⟨rfl, hb⟩; have B1 := Lib.hid hb; clear hb)
        | (go_at_call 28; refine (rLen S m xs _ (HR.out.grow B1.out)).mono ?_; rintro e w2 ⟨rfl, rfl⟩; rw [HL.out])
        | fail)
      have P1 : Hid (PB w1 N a b c (.slice A n cap)) := Lib.hid ((B1.out.block N (by have := VS.out; omega)).trans P0.out)
      have H1 := may_n HOK.out
      have HX : Hid (SdAt w1 (isP S m) (sm1 a b c A n cap flat ht)) := Lib.hid (sm1_at a b c ht (HR.out.grow B1.out) (HSR.out.keep B1.out.block) H1.1 HC.out (by omega))
      have H100 : Hid (xs.length ≤ 100) := Lib.hid (by have := HNL.out; omega)
      clear H1 hv
      go_wp2_with (first
        | (refine wpList_load_midG (by rfl) 38 (.tmp 4) rfl N 0 rfl [.int .i64 a, .int .i64 b, .int .i64 c, .slice A n cap] _ (pb_range P1.out) Try.underlying38 rfl (pb_info a b c _) ?_)
        | (refine wpList_bld2 (by rfl) 53 (.tmp 20) (.tmp 21) 0 1 (.agg #[.int .i64 a, .int .i64 b, .int .i64 c, .slice A n cap]) (.agg (sdV (sm1 a b c A n cap flat ht)).toArray) (.int .i64 ht) rfl rfl rfl SB ?_)
        | (go_at_call 34; rw [← HL.out]; refine (kPut S m xs xs.length _ w1 (HR.out.grow B1.out) (Nat.le_refl _) H100.out HX.out).mono ?_; rintro e w2 ⟨rfl, m', x', k1, k2, k3, k4⟩; have K1 := Lib.hid k1; have K2 := Lib.hid k2; have K3 := Lib.hid k3; have K4 := Lib.hid k4; clear k1 k2 k3 k4)
        | fail)
      go_ret2
      have hp : putS xs xs.length x' = xs ++ [x'] := by unfold putS; rw [if_neg (by omega)]
      have hcr : creC (xs.map Sm.con) true (con0 a b c n flat ht) = (xs.map Sm.con ++ [con0 a b c n flat ht], ((L : Nat) : Int), 0) := by unfold creC; rw [if_neg (by decide), HML.out, if_neg H8.out]
      refine ⟨_, m', rfl, ?_, ⟨xs ++ [x'], by rw [← hp]; exact K2.out, ?_⟩, fun b e => (K3.out b e).imp id fun h => ?_, (Fr.of_below (by rw [HN.out]; exact BV.out)).trans ((Fr.of_below (P := isP S m) B1.out).trans K4.out fun q hq => .inl hq) fun q hq => .inl hq⟩
      · rw [hcr]; (try rw [HL.out]); try rfl
      · rw [hcr, List.map_append, List.map_cons, List.map_nil, K1.out, sm1_con]
      · have := BV.out.size; have := B1.out.size; have := HN.out; omega
end Go.Proofs.Ytmcmdpbdipgahaa
