/-
  The walk of QuorumMore.
-/
import Derived.Test.YtfneopmgckejdaaDoorQ13
import Derived.Deep.DeepCutAuto
import Derived.OpenShut
namespace Go.Proofs.YtfneopmgckejdaaDoor
open Go.RowKit
def m8q (z x : Int) : List Int := [z, x, 0, 0, 0, 0, 0, 0]
theorem m8q_len (z x : Int) : (m8q z x).length = 8 := rfl
theorem ba_m8q (z x : Int) : ba (m8q z x) = #[.int .u8 z, .int .u8 x, .int .u8 0, .int .u8 0, .int .u8 0, .int .u8 0, .int .u8 0, .int .u8 0] := rfl
theorem byt_m8q {z x : Int} (hz : 0 ≤ z ∧ z < 256) (hx : 0 ≤ x ∧ x < 256) : Byt (m8q z x) := by
  intro y hy
  simp [m8q] at hy
  rcases hy with rfl | rfl | rfl <;> omega
/- a row of numbers of the call's own -/
theorem info3i : (Tryd.prog.info? 3).map (fun i => (i.zero, i.size, i.bytes)) = some (some (.int .i64 0), 1, 8) := by kernel_rfl
def ivals (ps : List Nat) : List Value := ps.map fun p : Nat => .int .i64 (p : Int)
theorem ownI_slice {w : World} {base n : Nat} {v : Value} {xs : List Value} (h : w.ownsRow base 3 1 v n xs) : ∃ A c, v = .slice A n c := by
  rcases h.2 with ⟨rfl, rfl⟩ | ⟨g, cap, cur, rfl, _⟩
  · exact ⟨none, 0, rfl⟩
  · exact ⟨_, _, rfl⟩
theorem ownI_nil (w : World) (base : Nat) : w.ownsRow base 3 1 (.slice none 0 0) 0 (ivals []) := ⟨rfl, .inl ⟨rfl, rfl⟩⟩
theorem own_irow {w : World} {base n c : Nat} {A : Option Addr} {ps : List Nat} (h : w.ownsRow base 3 1 (.slice A n c) n (ivals ps)) (hn : ps.length = n) : IRow w A (ps.map fun p : Nat => (p : Int)) := by
  rcases h.2 with ⟨e, h0⟩ | ⟨g, c', cur, e, _⟩
  · injection e with e1 e2 e3
    subst e2
    exact .inl (by rw [List.eq_nil_of_length_eq_zero hn]; rfl)
  · injection e with e1 e2 e3
    subst e1 e3
    refine .inr ⟨g, 0, rfl, fun j hj => ?_⟩
    rw [List.length_map] at hj
    rw [Nat.zero_add, h.cellAt j (by omega)]
    simp [ivals, List.getD_eq_getElem?_getD, hj]
theorem wpList_appI {w : World} {ops : Array Oper} {rest : List Oper} {o : Oper} {a : Act} {Q : Exit → Act → World → Prop} (hgd : o.guard = none) (s x : Operand)
    (ho : o.op = .call { callee := .builtin .append, args := #[s, x], argTypes := #[28, 28] })
    (base n : Nat) (v : Value) (ps : List Nat) (hv : a.eval s = v) (hown : w.ownsRow base 3 1 v n (ivals ps)) (g p c : Nat) (hx : a.eval x = .slice (some ⟨g, 0, none⟩) 1 c) (hb : w.heap[g]? = some (.cells #[.int .i64 (p : Int)] 3 (0, 0)))
    (hn : n ≤ 65536) (hbase : base ≤ w.heap.size)
    (hK : ∀ A' c' w', w'.ownsRow base 3 1 (.slice A' (n + 1) c') (n + 1) (ivals (ps ++ [p])) → w.grownBy w' v.ownBlock → wpList Tryd.prog ops Q rest (a.put o.dst (.slice A' (n + 1) c')) w') : wpList Tryd.prog ops Q (o :: rest) a w := by
  obtain ⟨i, hi, hz, h1, h2⟩ := info_parts info3i
  refine wpList_append_own_at w hgd s x 28 ho base 3 i _ 1 8 Tryd.underlying28 hi hz h1 h2 rfl (by decide) v n (ivals ps) hv hown ⟨g, 0, none⟩ 1 c [.int .i64 (p : Int)] hx rfl ?_ (fun u hu => by rw [List.mem_singleton.1 hu]; rfl) (by unfold maxLen; omega) (by omega) hbase ?_
  · intro j u hj
    rw [Addr.add_mid, cell_of_row w g (0 + j) _ 3 (0, 0) hb, ← hj]
    simp
  · intro v' w' hown' hg _ _
    obtain ⟨A', c', rfl⟩ := ownI_slice hown'
    have e : ivals ps ++ [.int .i64 (p : Int)] = ivals (ps ++ [p]) := by simp [ivals]
    rw [e] at hown'
    exact hK A' c' w' hown' hg
theorem wrapS (n : Nat) (h : n < 1000) : IntKind.i64.wrap (n : Int) = (n : Int) := by rw [IntKind.wrap_i64]; omega
theorem wrapT (n : Nat) (h : n < 1000) : wrap64 (n : Int) = (n : Int) := by unfold wrap64; omega
theorem nums5 (x y : Nat) (hx : x < 256) (hy : y < 256) : ∃ k0 k d0 d : Nat, (1 ≤ k ∧ k ≤ 5) ∧ (1 ≤ d ∧ d ≤ k) ∧ IntKind.i64.wrap (x : Int) = (x : Int) ∧ IntKind.i64.wrap (y : Int) = (y : Int) ∧ (x : Int).tmod 5 = (k0 : Int) ∧ IntKind.i64.wrap (k0 : Int) = (k0 : Int) ∧ wrap64 (1 + (k0 : Int)) = (k : Int) ∧ IntKind.i64.wrap (1 + (k0 : Int)) = (k : Int) ∧ ((k : Int) == 0) = false ∧ (y : Int).tmod (k : Int) = (d0 : Int) ∧ IntKind.i64.wrap (d0 : Int) = (d0 : Int) ∧ wrap64 (1 + (d0 : Int)) = (d : Int) ∧ IntKind.i64.wrap (1 + (d0 : Int)) = (d : Int) ∧ ¬ (k : Int) = 0 ∧ ¬ k = 0 ∧ k ≤ 8 := by
  have h5 : x % 5 < 5 := Nat.mod_lt _ (by decide)
  have m5 : (x : Int).tmod 5 = ((x % 5 : Nat) : Int) := rfl
  generalize x % 5 = k0 at h5 m5
  have hd : y % (k0 + 1) < k0 + 1 := Nat.mod_lt _ (Nat.succ_pos _)
  have md : (y : Int).tmod ((k0 + 1 : Nat) : Int) = ((y % (k0 + 1) : Nat) : Int) := rfl
  generalize y % (k0 + 1) = d0 at hd md
  have e1 : (1 : Int) + (k0 : Int) = ((k0 + 1 : Nat) : Int) := by omega
  have e2 : (1 : Int) + (d0 : Int) = ((d0 + 1 : Nat) : Int) := by omega
  refine ⟨k0, k0 + 1, d0, d0 + 1, ⟨by omega, by omega⟩, ⟨by omega, by omega⟩, wrapS x (by omega), wrapS y (by omega), m5, wrapS k0 (by omega), ?_, ?_, beq_false_of_ne (by omega), md, wrapS d0 (by omega), ?_, ?_, by omega, by omega, by omega⟩
  · rw [e1]; exact wrapT _ (by omega)
  · rw [e1]; exact wrapS _ (by omega)
  · rw [e2]; exact wrapT _ (by omega)
  · rw [e2]; exact wrapS _ (by omega)
/-- keys that rise, all below a bound -/
def upTo (ps : List Nat) (k : Nat) : Prop := (∀ j, j < ps.length → ps.getD j 0 < k) ∧ ∀ j, j + 1 < ps.length → ps.getD j 0 < ps.getD (j + 1) 0
theorem enough_made' (n : Nat) (c : Int) (m : List Int) (ws : List Int) (k : Nat) (h1 : 1 ≤ n) (h5 : n ≤ 5) (hc : 1 ≤ c) (hc2 : c ≤ n) (h : inK n ws k) :
    enough (at8 (cat rootS n)) n 4 2 c m (sgnL m ws [] k) = (decide (c ≤ (k : Int)) && decide (riseW ws k)) := enough_made n c m ws k h1 h5 hc hc2 h
theorem cnt_made' (n : Nat) (m : List Int) (ws : List Int) (k : Nat) (h : inK n ws k) (hr : riseW ws k) : cnt (at8 (cat rootS n)) n m (sgnL m ws [] k) = k := cnt_made n m ws k h hr
theorem upTo_nil : upTo [] 0 := ⟨fun _ hj => absurd hj (Nat.not_lt_zero _), fun _ hj => absurd hj (Nat.not_lt_zero _)⟩
theorem upTo_skip {ps : List Nat} {k : Nat} (h : upTo ps k) : upTo ps (k + 1) := ⟨fun j hj => by have := h.1 j hj; omega, h.2⟩
theorem upTo_take {ps : List Nat} {k : Nat} (h : upTo ps k) : upTo (ps ++ [k]) (k + 1) := by
  have g1 : ∀ j, j < ps.length → (ps ++ [k]).getD j 0 = ps.getD j 0 := fun j hj => by
    simp only [List.getD_eq_getElem?_getD]
    rw [List.getElem?_append_left hj]
  have g2 : (ps ++ [k]).getD ps.length 0 = k := by simp [List.getD_eq_getElem?_getD]
  refine ⟨fun j hj => ?_, fun j hj => ?_⟩
  · rw [List.length_append, List.length_singleton] at hj
    by_cases e : j < ps.length
    · rw [g1 j e]; have := h.1 j e; omega
    · rw [show j = ps.length by omega, g2]; omega
  · rw [List.length_append, List.length_singleton] at hj
    rw [g1 j (by omega)]
    by_cases e : j + 1 < ps.length
    · rw [g1 _ e]; exact h.2 j e
    · rw [show j + 1 = ps.length by omega, g2]; exact h.1 j (by omega)
theorem upTo_len {ps : List Nat} {i : Nat} (hu : upTo ps i) : ps.length ≤ i := by
  have : ∀ j, j < ps.length → j ≤ ps.getD j 0 := fun j => by
    induction j with
    | zero => intro _; omega
    | succ j ih => intro hj; have h1 := ih (by omega); have h2 := hu.2 j hj; omega
  by_cases e : ps.length = 0
  · omega
  · have h1 := this (ps.length - 1) (by omega)
    have h2 := hu.1 (ps.length - 1) (by omega)
    omega
theorem m8q_cells {w : World} {b : Nat} {z x : Int} (h : BA w b 32 (m8q z x)) : w.cell? ⟨b, 0, none⟩ = some (.int .u8 z) ∧ w.cell? ⟨b, 1, none⟩ = some (.int .u8 x) ∧ w.cell? ⟨b, 2, none⟩ = some (.int .u8 0) ∧ w.cell? ⟨b, 3, none⟩ = some (.int .u8 0) ∧ w.cell? ⟨b, 4, none⟩ = some (.int .u8 0) ∧ w.cell? ⟨b, 5, none⟩ = some (.int .u8 0) ∧ w.cell? ⟨b, 6, none⟩ = some (.int .u8 0) ∧ w.cell? ⟨b, 7, none⟩ = some (.int .u8 0) :=
  ⟨ba_cell h 0 (by rw [m8q_len]; decide), ba_cell h 1 (by rw [m8q_len]; decide), ba_cell h 2 (by rw [m8q_len]; decide), ba_cell h 3 (by rw [m8q_len]; decide), ba_cell h 4 (by rw [m8q_len]; decide), ba_cell h 5 (by rw [m8q_len]; decide), ba_cell h 6 (by rw [m8q_len]; decide), ba_cell h 7 (by rw [m8q_len]; decide)⟩
theorem wsD (ps : List Nat) (j : Nat) : (ps.map fun p : Nat => (p : Int)).getD j 0 = ((ps.getD j 0 : Nat) : Int) := by
  simp only [List.getD_eq_getElem?_getD, List.getElem?_map]
  cases ps[j]? <;> rfl
theorem upTo_inK {ps : List Nat} {k : Nat} (h : upTo ps k) : inK k (ps.map fun p : Nat => (p : Int)) ps.length := fun i hi => ⟨ps.getD i 0, wsD ps i, h.1 i hi⟩
theorem upTo_rise {ps : List Nat} {k : Nat} (h : upTo ps k) : riseW (ps.map fun p : Nat => (p : Int)) ps.length := fun i hi => by
  by_cases e : i = 0
  · exact .inl e
  · refine .inr ?_
    rw [wsD, wsD]
    have := h.2 (i - 1) (by omega)
    rw [show i - 1 + 1 = i by omega] at this
    omega
attribute [local irreducible] ua da ba kk sw S8.run rt hs comp splice outB sha msg bvals at8 secM zeros sec keyF marksF mk pubk bt rootF leafH twoH stepsF cutN leadF provL rootV pubF pubs keyL opn sht way gives ckB chkB rootL sg eS fineP mayK win mayP okS has cnt cntN riseP allP enough keyAt cat opL shL sigL wayP wayL rootS seedL bend mAt sgF sgnL FK riseW m4 m8q ivals upTo
set_option maxRecDepth 100000 in
set_option maxHeartbeats 32000000 in
theorem q5 (x y z : Nat) (w : World) (hk : Keys w) (hx : x < 256) (hy : y < 256) :
    Calls Tryd.prog 5 #[.int .u8 x, .int .u8 y, .int .u8 z] w fun e w' => e = .returned (.bool true) ∧ Below w.heap.size w w' := by
  have HK := Lib.hid hk
  have HP : Hid (0 < w.heap.size) := keys_pos hk
  obtain ⟨S, hS⟩ : ∃ S, w.heap.size = S := ⟨_, rfl⟩
  have HS := Lib.hid hS
  have KW : Hid (∀ w', Below S w w' → Keys w') := fun w' hb => keys_below HK.out hb (by rw [← HS.out]; exact HP.out)
  have B0 : Hid (Below S w w) := Below.refl _ _
  have C7 := Lib.hid (kAwake w hk)
  have BMX : Hid (Byt (m8q 8 x)) := byt_m8q (by omega) (by omega)
  obtain ⟨k0, k, d0, d, hK, hD, wx, wy, mx, wk0, wk1, wk2, kne, my, wd0, wd1, wd2, kne2, kne3, hk8⟩ := nums5 x y hx hy
  have HK5 := Lib.hid hK
  have HD := Lib.hid hD
  have C10 : Hid (∀ w', Below S w w' → Calls Tryd.prog 10 #[.int .i64 k, .int .i64 d] w' fun e w'' => ∃ A c, e = .returned (.agg #[.int .i64 4, .int .i64 2, .int .i64 d, .slice A k c]) ∧ Src w'' A (8 * k) (cat rootS k) ∧ k ≤ c ∧ c ≤ maxLen ∧ Below w'.heap.size w' w'') := fun w' hb => kMade k d w' (KW.out w' hb) hk8
  clear hk hK hD hx hy hk8
  go_enter Tryd.func5, Tryd.ntmps5
  go_upto_region 9 with (first
    | (go_at_call 7
       refine C7.out.mono ?_
       rintro e w1 ⟨rfl, hb⟩
       have B1 : Hid (Below S w w1) := by show Below _ _ _; rw [← HS.out]; exact hb
       have S1 : Hid (S ≤ w1.heap.size) := by show _ ≤ _; rw [← HS.out]; exact hb.size
       clear hb C7)
    | (go_at_call 10
       refine (C10.out w1 B1.out).mono ?_
       rintro e w2 ⟨A, c, rfl, hsrc, hc3, hcm3, hb⟩
       have S2 := Lib.hid hsrc
       have HC3 := Lib.hid hc3
       have HCM := Lib.hid hcm3
       have B2 : Hid (Below S w w2) := B1.out.trans (hb.mono S1.out)
       obtain ⟨PBK, hP⟩ : ∃ q, w2.heap.size = q := ⟨_, rfl⟩
       have HPS : Hid (S ≤ PBK) := by show _ ≤ _; rw [← hP]; exact Nat.le_trans S1.out hb.size
       have PQ1 := Lib.hid (pb_old (pb_new hP 4 2 d (.slice A k c)) (Obj.cells #[.int .u8 8, .int .u8 x, .int .u8 0, .int .u8 0, .int .u8 0, .int .u8 0, .int .u8 0, .int .u8 0] 32))
       have MQ1 : Hid (BA ((w2.alloc (Obj.cells #[.int .i64 4, .int .i64 2, .int .i64 d, .slice A k c] 24)).alloc (Obj.cells #[.int .u8 8, .int .u8 x, .int .u8 0, .int .u8 0, .int .u8 0, .int .u8 0, .int .u8 0, .int .u8 0] 32)) (PBK + 1) 32 (m8q 8 x)) := by
         have := ba_new (size_al hP (Obj.cells #[.int .i64 4, .int .i64 2, .int .i64 d, .slice A k c] 24)) (m8q 8 x) 32
         rw [ba_m8q] at this
         exact this
       have BW : Hid (Below PBK w2 ((w2.alloc (Obj.cells #[.int .i64 4, .int .i64 2, .int .i64 d, .slice A k c] 24)).alloc (Obj.cells #[.int .u8 8, .int .u8 x, .int .u8 0, .int .u8 0, .int .u8 0, .int .u8 0, .int .u8 0, .int .u8 0] 32))) := ((Below.refl _ w2).alloc (Nat.le_of_eq hP.symm) _).alloc (by rw [size_al hP]; omega) _
       have HN2 : Hid (((w2.alloc (Obj.cells #[.int .i64 4, .int .i64 2, .int .i64 d, .slice A k c] 24)).alloc (Obj.cells #[.int .u8 8, .int .u8 x, .int .u8 0, .int .u8 0, .int .u8 0, .int .u8 0, .int .u8 0, .int .u8 0] 32)).heap.size = PBK + 2) := size_al (size_al hP _) _
       clear hb hsrc hc3 hcm3)
    | fail)
  generalize ((w2.alloc (Obj.cells #[.int .i64 4, .int .i64 2, .int .i64 d, .slice A k c] 24)).alloc (Obj.cells #[.int .u8 8, .int .u8 x, .int .u8 0, .int .u8 0, .int .u8 0, .int .u8 0, .int .u8 0, .int .u8 0] 32)) = w3 at *
  obtain ⟨N, hN⟩ : ∃ N, PBK + 2 = N := ⟨_, rfl⟩
  have HN : Hid (w3.heap.size = N) := by show _ = _; rw [← hN]; exact HN2.out
  have LN3 : Hid (PBK + 1 < N) := by show _ < _; omega
  have BN3 : Hid (∀ w', Below N w3 w' → Below PBK w2 w') := fun w' hb => BW.out.trans (hb.mono (by have := LN3.out; omega))
  have BN : Hid (∀ w', Below N w3 w' → Below S w w') := fun w' hb => B2.out.trans ((BN3.out w' hb).mono HPS.out)
  have BS : Hid (∀ w', Below N w3 w' → Src w' A (8 * k) (cat rootS k)) := fun w' hb => S2.out.keep fun q hq => (BN3.out w' hb).block q (by rw [← hP]; exact hq)
  clear hP hN B1 S1 BW S2 hS wx wy mx my wk0 wk1 wk2 wd0 wd1 wd2 kne kne2 kne3
  go_loopw [12, 11] (fun v12 v11 wr => ∃ (i l : Nat) (B : Option Addr) (c2 : Nat) (ps : List Nat), i ≤ k ∧ v12 = .int .i64 i ∧ v11 = .slice B l c2 ∧ ps.length = l ∧ upTo ps i ∧ wr.ownsRow N 3 1 (.slice B l c2) l (ivals ps) ∧ Below N w3 wr) (fun v12 _ _ => k - (intOf v12).toNat)
  case atStart => exact ⟨0, 0, none, 0, [], Nat.zero_le _, rfl, rfl, rfl, upTo_nil, ownI_nil _ _, Below.refl _ _⟩
  case round =>
    obtain ⟨i, l, B, c2, ps, hi, rfl, rfl, hl, hu, ho, hb⟩ := hrel
    have BR := Lib.hid hb
    have OR := Lib.hid ho
    have UR := Lib.hid hu
    have LR := Lib.hid hl
    have LI : Hid (l ≤ i) := by show _ ≤ _; rw [← hl]; exact upTo_len hu
    clear hb ho hu hl
    by_cases hik : i < k
    · have HIK := Lib.hid hik
      have i0 : (0 : Int) ≤ (i : Int) := by omega
      have i1 : (i : Int) < (k : Int) := by omega
      have wi : IntKind.u64.wrap (i : Int) = (i : Int) := by rw [IntKind.wrap_u64]; have := HK5.out; omega
      have HNB : Hid (N ≤ wr.heap.size) := by show _ ≤ _; have h1 := BR.out.size; have h2 := HN.out; omega
      have wi2 : wrap64 ((i : Int) + 1) = (i : Int) + 1 := by unfold wrap64; have := HK5.out; omega
      obtain ⟨G, hG⟩ : ∃ G, wr.heap.size = G := ⟨_, rfl⟩
      have HGG := Lib.hid hG
      go_wp2_with (first
        | (at_builtin
           have P2 : (wr.alloc (Obj.cells #[.int .i64 (i : Int)] 3)).heap[G]? = some (.cells #[.int .i64 (i : Int)] 3 (0, 0)) := by rw [← HGG.out]; exact heap_alloc_last wr _
           have O2 : Hid ((wr.alloc (Obj.cells #[.int .i64 (i : Int)] 3)).ownsRow N 3 1 (.slice B l c2) l (ivals ps)) := own_keepQ OR.out ((Below.refl _ _).alloc (Nat.le_refl _) _)
           have B2 : Hid (Below N w3 (wr.alloc (Obj.cells #[.int .i64 (i : Int)] 3))) := BR.out.alloc HNB.out _
           refine wpList_appI rfl (.tmp 41) (.tmp 43) rfl N l (.slice B l c2) ps rfl O2.out G i 1 rfl P2 (by have := LI.out; have := HK5.out; have := HIK.out; omega) (by rw [World.size_alloc]; have := HNB.out; omega) ?_
           intro A9 c9 w9 hown hg
           have O9 := Lib.hid hown
           have B9 : Hid (Below N w3 w9) := B2.out.grown hg (by rw [World.size_alloc]; have := HNB.out; omega) (fun q hq => own_baseQ O2.out q hq)
           clear hown hg P2)
        | fail)
      · exact ⟨⟨i + 1, l + 1, A9, c9, ps ++ [i], by have := HIK.out; omega, by (try rw [wi2]); rfl, rfl, by rw [List.length_append, LR.out]; rfl, upTo_take UR.out, O9.out, B9.out⟩, by (try rw [wi2]); clear wi wi2; have := HIK.out; simp [intOf]; omega⟩
      · exact ⟨⟨i + 1, l, B, c2, ps, by have := HIK.out; omega, by (try rw [wi2]); rfl, rfl, LR.out, upTo_skip UR.out, OR.out, BR.out⟩, by (try rw [wi2]); clear wi wi2; have := HIK.out; simp [intOf]; omega⟩
    · have hik2 : i = k := by omega
      subst hik2
      obtain ⟨mm, hmm⟩ : ∃ mm, m8q 8 x = mm := ⟨_, rfl⟩
      have HMM := Lib.hid hmm
      have LMM : Hid (mm.length = 8) := by rw [← hmm]; exact m8q_len 8 x
      have BMM : Hid (Byt mm) := by rw [← hmm]; exact BMX.out
      have HBA : Hid (ba mm = #[.int .u8 8, .int .u8 x, .int .u8 0, .int .u8 0, .int .u8 0, .int .u8 0, .int .u8 0, .int .u8 0]) := by show _ = _; rw [← hmm]; exact ba_m8q 8 x
      have MR : Hid (BA wr (PBK + 1) 32 (m8q 8 x)) := (BR.out.block _ LN3.out).trans MQ1.out
      have PR : Hid (PB wr PBK 4 2 d (.slice A i c)) := (BR.out.block _ (by have := LN3.out; omega)).trans PQ1.out
      obtain ⟨ws, hws⟩ : ∃ ws, (ps.map fun p : Nat => (p : Int)) = ws := ⟨_, rfl⟩
      have HWL : Hid (ws.length = l) := by rw [← hws, List.length_map]; exact LR.out
      have HIW : Hid (IRow wr B ws) := by rw [← hws]; exact own_irow OR.out LR.out
      have HIN : Hid (inK i ws l) := by rw [← hws, ← LR.out]; exact upTo_inK UR.out
      have HRI : Hid (riseW ws l) := by rw [← hws, ← LR.out]; exact upTo_rise UR.out
      have HL5 : Hid (l ≤ 65536) := by show _ ≤ _; have := LI.out; have := HK5.out; omega
      have C11 : Hid (Calls Tryd.prog 11 #[.agg #[.int .u8 8, .int .u8 x, .int .u8 0, .int .u8 0, .int .u8 0, .int .u8 0, .int .u8 0, .int .u8 0], .slice B l c2, .slice none 0 0] wr fun e w' => ∃ B5 c5, e = .returned (.slice B5 l c5) ∧ w'.ownsRow wr.heap.size 45 282 (.slice B5 l c5) l ((sgnL mm ws [] l).flatMap eS) ∧ Below wr.heap.size wr w') := by
        have := kSigned mm B l c2 ws none 0 0 [] wr (KW.out _ (BN.out _ BR.out)) LMM.out BMM.out HIW.out HWL.out (.inl rfl) rfl HL5.out
        rw [HBA.out] at this
        exact this
      obtain ⟨c0, c1, c2', c3⟩ := pb_cells PR.out
      obtain ⟨q0, q1, q2, q3, q4, q5, q6, q7⟩ := m8q_cells MR.out
      obtain ⟨g, hg⟩ : ∃ g, decide ((d : Int) ≤ (l : Int)) = g := ⟨_, rfl⟩
      have HG := Lib.hid hg
      have hg2 : decide (d ≤ l) = g := by rw [← hg]; exact decide_eq_decide.2 (by omega)
      have C12 : Hid (∀ (B5 : Option Addr) (c5 : Nat) (w' : World), Below N w3 w' → SRow w' B5 (sgnL mm ws [] l) → l ≤ c5 → c5 ≤ maxLen → Calls Tryd.prog 12 #[.agg #[.int .i64 4, .int .i64 2, .int .i64 d, .slice A i c], .agg #[.int .u8 8, .int .u8 x, .int .u8 0, .int .u8 0, .int .u8 0, .int .u8 0, .int .u8 0, .int .u8 0], .slice B5 l c5] w' fun e w'' => e = .returned (.bool g) ∧ Below w'.heap.size w' w'') := fun B5 c5 w' hb hr h2 h3 => by
        have := kQuorum A i c (cat rootS i) 4 2 d mm B5 l c5 _ w' (KW.out _ (BN.out _ hb)) (BS.out _ hb) HC3.out HCM.out LMM.out BMM.out hr (sgnL_len _ _ _ _) h2 h3 (by have := HK5.out; omega) HL5.out
        rw [enough_made' i d mm ws l HK5.out.1 HK5.out.2 (by have := HD.out; omega) (by have := HD.out; omega) HIN.out, decide_eq_true HRI.out, Bool.and_true, HG.out, HBA.out] at this
        exact this
      have C14 : Hid (∀ (B5 : Option Addr) (c5 : Nat) (w' : World), Below N w3 w' → SRow w' B5 (sgnL mm ws [] l) → l ≤ c5 → c5 ≤ maxLen → Calls Tryd.prog 14 #[.agg #[.int .i64 4, .int .i64 2, .int .i64 d, .slice A i c], .agg #[.int .u8 8, .int .u8 x, .int .u8 0, .int .u8 0, .int .u8 0, .int .u8 0, .int .u8 0, .int .u8 0], .slice B5 l c5] w' fun e w'' => e = .returned (.int .i64 l) ∧ Below w'.heap.size w' w'') := fun B5 c5 w' hb hr h2 h3 => by
        have := kCount A i c (cat rootS i) 4 2 d mm B5 l c5 _ w' (KW.out _ (BN.out _ hb)) (BS.out _ hb) LMM.out BMM.out hr (sgnL_len _ _ _ _) h2 h3 (by have := HK5.out; omega) HL5.out
        rw [cnt_made' i mm ws l HIN.out HRI.out, HBA.out] at this
        exact this
      clear hmm hws
      cases g
      · go_wp2_with (first
          | (go_at_call 11
             refine C11.out.mono ?_
             rintro e w5 ⟨B5, c5, rfl, ho, hb⟩
             have SR := Lib.hid (own_srow ho (sgnL_280 mm ws [] l) (sgnL_len mm ws [] l))
             have M5 : Hid (BA w5 (PBK + 1) 32 (m8q 8 x)) := (hb.block _ (lt_of_block MR.out)).trans MR.out
             have P5 : Hid (PB w5 PBK 4 2 d (.slice A i c)) := (hb.block _ (lt_of_block PR.out)).trans PR.out
             have B5' : Hid (Below N w3 w5) := BR.out.trans (hb.mono (by rw [← HN.out]; exact BR.out.size))
             clear ho hb c0 c1 c2' c3 q0 q1 q2 q3 q4 q5 q6 q7
             obtain ⟨c0, c1, c2', c3⟩ := pb_cells P5.out
             obtain ⟨q0, q1, q2, q3, q4, q5, q6, q7⟩ := m8q_cells M5.out)
          | (go_at_call 12
             refine (C12.out _ _ _ B5'.out SR.out.1 SR.out.2.1 SR.out.2.2).mono ?_
             rintro e w6 ⟨rfl, hb⟩
             have M6 : Hid (BA w6 (PBK + 1) 32 (m8q 8 x)) := (hb.block _ (lt_of_block M5.out)).trans M5.out
             have P6 : Hid (PB w6 PBK 4 2 d (.slice A i c)) := (hb.block _ (lt_of_block P5.out)).trans P5.out
             have B6 : Hid (Below N w3 w6) := B5'.out.trans (hb.mono (by rw [← HN.out]; exact B5'.out.size))
             have S6 : Hid (SRow w6 B5 (sgnL mm ws [] l)) := SR.out.1.keep fun q hq => hb.block q hq
             clear hb c0 c1 c2' c3 q0 q1 q2 q3 q4 q5 q6 q7
             obtain ⟨c0, c1, c2', c3⟩ := pb_cells P6.out
             obtain ⟨q0, q1, q2, q3, q4, q5, q6, q7⟩ := m8q_cells M6.out)
          | (go_at_call 14
             refine (C14.out _ _ _ B6.out S6.out SR.out.2.1 SR.out.2.2).mono ?_
             rintro e w7 ⟨rfl, hb⟩
             have B7 : Hid (Below N w3 w7) := B6.out.trans (hb.mono (by rw [← HN.out]; exact B6.out.size))
             clear hb c0 c1 c2' c3 q0 q1 q2 q3 q4 q5 q6 q7)
          | fail)
        go_ret
        exact ⟨by simp, by rw [HS.out]; exact BN.out _ B7.out⟩
      · go_wp2_with (first
          | (go_at_call 11
             refine C11.out.mono ?_
             rintro e w5 ⟨B5, c5, rfl, ho, hb⟩
             have SR := Lib.hid (own_srow ho (sgnL_280 mm ws [] l) (sgnL_len mm ws [] l))
             have M5 : Hid (BA w5 (PBK + 1) 32 (m8q 8 x)) := (hb.block _ (lt_of_block MR.out)).trans MR.out
             have P5 : Hid (PB w5 PBK 4 2 d (.slice A i c)) := (hb.block _ (lt_of_block PR.out)).trans PR.out
             have B5' : Hid (Below N w3 w5) := BR.out.trans (hb.mono (by rw [← HN.out]; exact BR.out.size))
             clear ho hb c0 c1 c2' c3 q0 q1 q2 q3 q4 q5 q6 q7
             obtain ⟨c0, c1, c2', c3⟩ := pb_cells P5.out
             obtain ⟨q0, q1, q2, q3, q4, q5, q6, q7⟩ := m8q_cells M5.out)
          | (go_at_call 12
             refine (C12.out _ _ _ B5'.out SR.out.1 SR.out.2.1 SR.out.2.2).mono ?_
             rintro e w6 ⟨rfl, hb⟩
             have M6 : Hid (BA w6 (PBK + 1) 32 (m8q 8 x)) := (hb.block _ (lt_of_block M5.out)).trans M5.out
             have P6 : Hid (PB w6 PBK 4 2 d (.slice A i c)) := (hb.block _ (lt_of_block P5.out)).trans P5.out
             have B6 : Hid (Below N w3 w6) := B5'.out.trans (hb.mono (by rw [← HN.out]; exact B5'.out.size))
             have S6 : Hid (SRow w6 B5 (sgnL mm ws [] l)) := SR.out.1.keep fun q hq => hb.block q hq
             clear hb c0 c1 c2' c3 q0 q1 q2 q3 q4 q5 q6 q7
             obtain ⟨c0, c1, c2', c3⟩ := pb_cells P6.out
             obtain ⟨q0, q1, q2, q3, q4, q5, q6, q7⟩ := m8q_cells M6.out)
          | (go_at_call 14
             refine (C14.out _ _ _ B6.out S6.out SR.out.2.1 SR.out.2.2).mono ?_
             rintro e w7 ⟨rfl, hb⟩
             have B7 : Hid (Below N w3 w7) := B6.out.trans (hb.mono (by rw [← HN.out]; exact B6.out.size))
             clear hb c0 c1 c2' c3 q0 q1 q2 q3 q4 q5 q6 q7)
          | fail)
        go_ret
        exact ⟨by simp, by rw [HS.out]; exact BN.out _ B7.out⟩
open Go.ChangeShapes Go.WideShapes in
theorem q5i (x y z : Int) (w : World) (hk : Keys w) (h1 : (Lit.int .u8 x).wf = true) (h2 : (Lit.int .u8 y).wf = true) (h3 : (Lit.int .u8 z).wf = true) :
    Calls Tryd.prog 5 #[.int .u8 x, .int .u8 y, .int .u8 z] w fun e w' => e = .returned (.bool true) ∧ Below w.heap.size w w' := by
  have b1 := bounds_u8 h1
  have b2 := bounds_u8 h2
  have b3 := bounds_u8 h3
  obtain ⟨x, rfl⟩ := Int.eq_ofNat_of_zero_le b1.1
  obtain ⟨y, rfl⟩ := Int.eq_ofNat_of_zero_le b2.1
  obtain ⟨z, rfl⟩ := Int.eq_ofNat_of_zero_le b3.1
  exact q5 x y z w hk (by omega) (by omega)
end Go.Proofs.YtfneopmgckejdaaDoor
